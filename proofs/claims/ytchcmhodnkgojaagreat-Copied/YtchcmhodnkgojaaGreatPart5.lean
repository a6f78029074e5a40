/- On the way to the last text; put together and shortened by program. -/
import Derived.Test.YtchcmhodnkgojaaGreatPart4
import GoSem.Dispatch
import Derived.Conc.Own5
import Derived.Conc.CompanyDraw
import Derived.Conc.Listed
import Derived.Control
import Derived.Conc.Own2
set_option linter.all false
set_option maxRecDepth 100000
set_option maxHeartbeats 8000000
namespace Go.Proofs.YtchcmhodnkgojaaGreat
noncomputable section
section
open Go.Conc
section
variable {P:χ}{π:Nat->Nat}{N V:Nat->Prop}
theorem C1 {β:Type}{R:β->β->Prop}{r:Nat}(hv:V r){f f':Option (Addr×Γ)->Sem β}(h0:ba P π N V R (f none) (f' none))(h1:∀b u,ba P π N (λi=>V i\/i=b.block) R (f (some (b,u))) (f' (some (aZ π b,u)))):
  ba P π N V R (viewAt r>>=f) (viewAt (π r)>>=f'):=by
 unfold viewAt;rw[bind_assoc,bind_assoc];refine ba.shape (k:=λx=>_) hv λx=>?_
 cases x with
 |some y=>exact h0
 |none=>
  refine ba.getObj (k:=λx=>_) λo ho=>?_
  cases o with
  |view b u=>exact(h1 b u).weak λi hi=>hi.elim .inl λe=> .inr (.inr e)
  |_=>first|exact ho.elim|exact h0.weak λi hi=> .inl hi
theorem uM {β:Type}{R:β->β->Prop}{a:Addr}(hv:V a.block){f f':Addr->Sem β}(hf:∀s:Addr,ba P π N (λi=>V i\/i=s.block) R (f s) (f' (aZ π s))):
  ba P π N V R (Conv.seenAt a>>=f) (Conv.seenAt (aZ π a)>>=f'):=by
 unfold Conv.seenAt;simp only[bind_assoc];refine C1 hv ?_ λb u=>?_
 .exact(hf a).weak λi hi=>hi.elim id λe=>e▸hv
 .dsimp only
  have e1:(aZ π a).off=a.off:=rfl;have e2:(aZ π a).spot=a.spot:=rfl;have e3:(aZ π b).spot=b.spot:=rfl;have e4:(aZ π b).block=π b.block:=rfl;have e5:(aZ π b).off=b.off:=rfl;rw[e1,e2,e3,e4,e5];split
  .exact hf b
  .split
   .exact iG trivial
   .simp only[pure_bind,bind_assoc]
    refine cB.bind' λz z' h=>?_
    rw[h.1,h.2];cases byteOfCell P P.depth u a.off with
    |none=>exact iG trivial
    |some β=>
     dsimp only;simp only[bind_assoc];refine ba.shape (k:=λx=>_) (.inr rfl) λx=>?_
     cases x with
     |none=>exact iG (α:=Addr) (f:=f) trivial
     |some e=>
      obtain⟨e,cells⟩:=e;show ba P π N _ R ((if P.cellsOf e=0 then _ else _)>>=f) ((if P.cellsOf e=0 then _ else _)>>=f')
      by_cases h0:P.cellsOf e=0
      .rw[ξ h0];exact iG trivial
      .rw[ζ h0,ζ h0]
       cases cellAtBytes P P.depth e (cells/P.cellsOf e) b.off β with
       |none=>exact iG (α:=Addr) (f:=f) trivial
       |some c=>exact hf {b with off:=c}
theorem Db {r:Nat}(hv:V r):ba P π N V Eq (cellsIn r) (cellsIn (π r)):=by
 unfold cellsIn;refine ba.shape (k:=λx=>_) hv λx=>?_
 cases x with
 |some y=>exact au rfl
 |none=>
  refine ba.getObj (k:=λx=>_) λo ho=>?_
  cases o<;>first|exact ho.elim|exact au rfl
theorem nX {a:Addr}{u:Γ}{n:Nat}(hv:V a.block):ba P π N V Eq (variablesAt a u n) (variablesAt (aZ π a) u n):=by
 unfold variablesAt;refine cB.bind' λz z' h=>?_
 rw[h.1,h.2];refine ba.shape (k:=λx=>_) hv λx=>?_
 cases x with
 |some y=>exact au rfl
 |none=>exact au rfl
theorem oG {s:Addr}{t:Γ}(hv:V s.block):ba P π N V (RV π) (do Pure.pure (.pointer (some ⟨<-newObj (.view s t),0,none⟩)):Sem Φ) (do Pure.pure (.pointer (some ⟨<-newObj (.view (aZ π s) t),0,none⟩)):Sem Φ):=by
 unfold newObj;exact ba.new (o:= .view s t) trivial (λi hi=>by rw[show i=s.block from hi];exact hv) λb _=> .pure (by simp[RV,aZ])
theorem lJ {src dst:Γ}{x:Φ}(hk:∀k,P.underlying dst≠some (.int k))(hx:VV V x):ba P π N V (RV π) (Conv.unsafePointer src dst x) (Conv.unsafePointer src dst (Value.ren π x)):=by
 unfold Conv.unsafePointer;refine(aE src).bind' λus us' h=>?_
 obtain⟨rfl,hs⟩:=h;refine(aE dst).bind' λud ud' h=>?_
 obtain⟨rfl,hd⟩:=h;cases x with
 |pointer p=>
  simp only[aU];cases us with
  |pointer t=>cases ud with
   |unsafePointer=>cases p with
    |none=>exact au (by simp[RV])
    |some a=>
     simp only[ω];refine uM hx.ptr λs=>?_
     refine(Db (.inr rfl)).bind' λc c' h=>?_
     subst h;refine(cL t).bind' λm m' h=>?_
     obtain⟨rfl,_⟩:=h;exact cI (oG (.inr rfl)) (au (by simp[RV]))
   |_=>cases p<;>exact al
  |unsafePointer=>cases ud with
   |pointer u=>cases p with
    |none=>exact au (by simp[RV])
    |some a=>
     simp only[ω];refine uM hx.ptr λs=>?_
     refine(cL u).bind' λm m' h=>?_
     obtain⟨rfl,_⟩:=h;refine(nX (.inr rfl)).bind' λc c' h=>?_
     subst h;refine cI (au (by simp[RV])) ?_;refine ba.shape (k:=λx=>_) (.inr rfl) λx=>?_
     cases x with
     |none=>exact aH trivial
     |some y=>
      refine cB.bind' λz z' h=>?_
      rw[h.1,h.2];refine cB.bind' λz z' h=>?_
      rw[h.1,h.2];have tl:=oG (P:=P) (π:=π) (N:=N) (V:=λi=>V i\/i=s.block) (t:=u) (.inr rfl);split
      .exact iG trivial
      .exact tl
   |unsafePointer=>exact au (by cases p<;>simp[RV])
   |int k=>exact absurd hd (hk k)
   |_=>cases p<;>exact al
  |int k=>cases ud with
   |unsafePointer=>cases p with
    |none=>exact al
    |some a=>exact aH trivial
   |_=>cases p<;>exact al
  |_=>cases ud<;>first|exact al|(cases p<;>exact al)
 |int k a=>
  cases us with
  |int k=>cases ud with
   |unsafePointer=>cases a with
    |ofNat m=>cases m<;>exact aH trivial
    |negSucc m=>exact aH trivial
   |_=>exact al
  |_=>cases ud<;>exact al
 |_=>cases us<;>first|exact al|(cases ud<;>exact al)
theorem qr {α β:Type}{R:β->β->Prop}{f f':α->β->Sem (ForInStep β)}{g:α->α}:∀(l:List α),(∀a∈l,∀b b',R b b'->ba P π N V (IF R) (f a b) (f' (g a) b'))->∀b b',R b b'->ba P π N V R (forIn l b f) (forIn (l.map g) b' f')
 |[],_,b,b',h=>by simp only[List.forIn_nil,List.map_nil];exact au h
 |a::l,hf,b,b',h=>by
  simp only[List.forIn_cons,List.map_cons];refine(hf a (by simp) b b' h).bind' λx x' hx=>?_
  cases x<;>cases x'<;>first|exact hx.elim|exact au hx|exact qr l (λa ha=>hf a (by simp[ha])) _ _ hx
theorem sb (x:Φ):ba P π N V (RV π) (Conv.bytesToString x) (Conv.bytesToString (Value.ren π x)):=by
 unfold Conv.bytesToString;cases x with
 |slice a n c=>
  simp only[bE];cases a with
  |none=>exact au (by simp[RV])
  |some a=>
   simp only[ω];refine(mB a n).bind' λcs cs' h=>?_
   rw[show cs'=_ from h,<-Array.forIn_toList,<-Array.forIn_toList,Array.toList_map];refine(qr (R:=Eq) _ (λv hv b b' hb=>?_) _ _ rfl).bind' λr r' h=>?_
   .subst hb
    cases v with
    |int k m=>simp only[ck];cases k<;>first|exact al|exact au rfl
    |_=>exact al
   .subst h
    exact au (by simp[RV])
 |_=>exact al
theorem rX (e:Γ)(s:Ξ):ba P π N V (RV π) (Conv.stringToBytes e s) (Conv.stringToBytes e s):=by
 unfold Conv.stringToBytes;refine iH.bind' λc c' h=>?_
 subst h;dsimp only;have hr:(s.data.map (λb:η=>Value.int .u8 b.toNat)++Array.replicate (c-s.size) (Value.int .u8 0)).map (Value.ren π)=s.data.map (λb:η=>Value.int .u8 b.toNat)++Array.replicate (c-s.size) (Value.int .u8 0):=by
  refine cx λv hv=>?_
  rcases af6.1 hv with h|h
  .obtain⟨b,_,rfl⟩:=Array.mem_map.1 h;simp
  .rw[(Array.mem_replicate.1 h).2];simp
 generalize s.data.map (λb:η=>Value.int .u8 b.toNat)++Array.replicate (c-s.size) (Value.int .u8 0)=cells at hr⊢;unfold newRow newObj markStringish;have:=ba.new (P:=P) (π:=π) (N:=N) (V:=V) (R:=RV π) (o:= .cells cells e) (k:=λb=>shape b>>=λx=>(match x with|some (_,n)=>freeze {block:=b,off:=n} 1|_=>Pure.pure ())>>=λ_=>Pure.pure (.slice (some ⟨b,0,none⟩) s.size c))
  (k':=λb=>shape b>>=λx=>(match x with|some (_,n)=>freeze {block:=b,off:=n} 1|_=>Pure.pure ())>>=λ_=>Pure.pure (.slice (some ⟨b,0,none⟩) s.size c)) trivial (λ_ h=>h.elim) λb hb=>by
  refine ba.shape (k:=λx=>_) (.inr rfl) λx=>?_
  cases x with
  |none=>exact au (by simp[RV,aZ])
  |some y=>exact ba.freeze (a:={block:=b,off:=y.2}) (.inr rfl) hb (au (by simp[RV,aZ]))
 rw[show dC π (.cells cells e)= .cells cells e by simp only[dC,hr]] at this;exact this
def Zh (P:χ)(src dst:Γ):Bool:=match P.underlying src,P.underlying dst with
 |some (.int _),some (.int _)|some (.int _),some .string|some .string,some .string=>true
 |some (.slice e),some .string|some .string,some (.slice e)=>(match P.underlying e with|some (.int .u8)=>true|_=>false)
 |some (.pointer _),some .unsafePointer|some .unsafePointer,some (.pointer _)=>true
 |_,_=>false
theorem Da {src dst:Γ}{x:Φ}(hc:Zh P src dst=true)(hx:VV V x):ba P π N V (RV π) (convert src dst x) (convert src dst (Value.ren π x)):=by
 unfold convert;refine(aE src).bind' λus us' h=>?_
 obtain⟨rfl,hs⟩:=h;refine(aE dst).bind' λud ud' h=>?_
 obtain⟨rfl,hd⟩:=h;simp only[Zh,hs,hd] at hc;have hp:ba P π N V (RV π) (Pure.pure x) (Pure.pure (Value.ren π x)):=au rfl;have hi:∀k n,ba P π N V (RV π) (Conv.intToInt k n) (Conv.intToInt k n):=λk n=>dP (mS trivial)
 have hf:∀s b k,ba P π N V (RV π) (Conv.floatToInt s b k) (Conv.floatToInt s b k):=λs b k=>dP (Ww _ _ _)
 have hn:∀n,ba P π N V (RV π) (Conv.intToString n) (Conv.intToString n):=λn=>dP (mS trivial)
 cases us<;>cases ud<;>first|(exfalso;simp at hc;done)|skip
 case int.int k k'=>
  cases x with
  |int j n=>simp only[ck];exact hi _ _
  |float j n=>simp only[dw];exact hf _ _ _
  |pointer a=>cases a<;>exact aH trivial
  |_=>exact aH trivial
 case int.string k=>
  cases x with
  |int j n=>simp only[ck];exact hn _
  |string s=>simp only[bv] at hp⊢;exact hp
  |pointer a=>cases a<;>exact aH trivial
  |_=>exact aH trivial
 case string.string=>
  cases x with
  |int j n=>simp only[ck];exact hn _
  |string s=>simp only[bv] at hp⊢;exact hp
  |pointer a=>cases a<;>exact aH trivial
  |_=>exact aH trivial
 case slice.string e=>
  have hu8:P.underlying e=some (.int .u8):=by
   cases he:P.underlying e with
   |none=>simp[he] at hc
   |some ue=>cases ue with
    |int k=>cases k<;>first|rfl|(simp[he] at hc;done)
    |_=>simp[he] at hc
  have tl:=sb (P:=P) (π:=π) (N:=N) (V:=V) x;cases x with
  |int j n=>simp only[ck];exact hn _
  |string s=>simp only[bv] at hp⊢;exact hp
  |slice a n c=>
   simp only[bE] at tl⊢;cases a<;>exact(aE e).bind' λu u' h=>by
    obtain⟨rfl,he⟩:=h;rw[hu8] at he;cases he;exact tl
  |_=>
   simp only[dL,ck,dw,cT,bv,aU,dI,cM,bE,dB,dX,cP,dl,cO,de] at tl⊢;exact(aE e).bind' λu u' h=>by
    obtain⟨rfl,he⟩:=h;rw[hu8] at he;cases he;exact tl
 case string.slice e=>
  cases x with
  |string s=>
   simp only[bv];refine(aE e).bind' λue ue' h=>?_
   obtain⟨rfl,he⟩:=h;simp only[he] at hc;cases ue with
   |int k=>cases k<;>first|exact rX e s|(exfalso;simp at hc;done)
   |_=>exfalso;simp at hc
  |slice a n c=>cases a<;>exact aH trivial
  |pointer a=>cases a<;>exact aH trivial
  |_=>exact aH trivial
 case pointer.unsafePointer t=>
  have:=lJ (N:=N) (π:=π) (src:=src) (x:=x) (λk h=>by rw[hd] at h;cases h) hx;cases x<;>exact this
 case unsafePointer.pointer t=>
  have:=lJ (N:=N) (π:=π) (src:=src) (x:=x) (λk h=>by rw[hd] at h;cases h) hx;cases x<;>exact this
end
section
variable {P:χ}{π:Nat->Nat}{N V:Nat->Prop}
theorem Gx {α:Type}{r:Nat}{k:Option (Γ×Nat)->Sem α}(h:∀x,Dead P (k x)):Dead P (.shape r k):=λw hw=>h _ w hw
theorem Ev {α:Type}{a:Addr}{k:Bool->Sem α}(h:∀x,Dead P (k x)):Dead P (.frozen a k):=λw hw=>h _ w hw
theorem Ku {α:Type}{m:Mark}{k:Sem α}(h:Dead P k):Dead P (.mark m k):=λw hw=>h w hw
theorem B4 {α:Type}{k:χ->Sem α}(h:Dead P (k P)):Dead P (.program k):=λw hw=>h w hw
theorem Eu {α:Type}{c:Prop}[Decidable c]{s t:Sem α}(h1:Dead P s)(h2:Dead P t):Dead P (if c then s else t):=by
 split
 .exact h1
 .exact h2
theorem AM {α β:Type}{c:Prop}[Decidable c]{s t:Sem α}{k:α->Sem β}(h1:Dead P (s>>=k))(h2:Dead P (t>>=k)):Dead P ((if c then s else t)>>=k):=by
 split
 .exact h1
 .exact h2
theorem zK {α:Type}{size sLen n:Nat}{base:Option Addr}{x:Φ}{k:Bool->Sem α}(h:∀b,Dead P (k b)):Dead P (Builtin.mayShare size sLen n base x>>=k):=by
 have Aw:∀(a:Addr) (m:Nat) (f:Bool->Sem α),(∀b,Dead P (f b))->Dead P (Builtin.holdsCells a m>>=f):=by
  intro a m f hf;unfold Builtin.holdsCells;refine Gx λy=>?_
  cases y<;>exact hf _
 unfold Builtin.mayShare;simp only[bind_assoc,pure_bind];cases base with
 |none=>
  simp only[pure_bind];refine AM (h _) ?_;cases x with
  |slice a _ _=>cases a with
   |none=>exact h _
   |some b=>simp only[bind_assoc,pure_bind];exact Aw _ _ _ λ_=>h _
  |_=>exact h _
 |some a=>
  simp only[bind_assoc,pure_bind];refine Aw _ _ _ λz=>Ev λz'=>?_
  refine AM (h _) ?_;cases x with
  |slice a _ _=>cases a with
   |none=>exact h _
   |some b=>simp only[bind_assoc,pure_bind];exact Aw _ _ _ λ_=>h _
  |_=>exact h _
theorem Ah (x:Φ):ba P π N V Eq (Builtin.lenOf x) (Builtin.lenOf (Value.ren π x)):=by
 unfold Builtin.lenOf;cases x with
 |slice a n c=>simp only[bE];exact au rfl
 |string s=>simp only[bv];exact au rfl
 |_=>exact al
theorem iW (size n:Nat)(x:Φ):ba P π N V (RC π) (Builtin.firstCells size n x) (Builtin.firstCells size n (Value.ren π x)):=by
 unfold Builtin.firstCells;cases x with
 |slice a m c=>
  simp only[bE];cases a with
  |none=>exact au (by simp[RC])
  |some a=>exact mB a _
 |string s=>
  simp only[bv];refine au ?_;show _=_;exact(cx λv hv=>by obtain⟨b,_,rfl⟩:=Array.mem_map.1 hv;simp).symm
 |_=>exact al
theorem qm (z:Array Φ)(hz:z.map (Value.ren π)=z)(n:Nat):(Builtin.zeroCells z n).map (Value.ren π)=Builtin.zeroCells z n:=by
 unfold Builtin.zeroCells;exact k7 z hz _ _
def Zy (P:χ)(ats:Array Γ):Bool:=(match ats[0]? with
  |some t=>O9 P t
  |none=>true)&&(match ats[1]? with
  |some t=>(match P.underlying t with|some (.int _)=>false|_=>true)
  |none=>false)
theorem oO (n:Nat):ba P π N V Eq (askRoom n) (askRoom n):=by
 unfold askRoom;split
 .exact .mark trivial (.pure rfl)
 .exact au rfl
theorem Fm {ats:Array Γ}{t:Γ}{args:Array Φ}(hc:Zy P ats=true):ba P π N V (RV π) (Builtin.append_ ats t args) (Builtin.append_ ats t (args.map (Value.ren π))):=by
 unfold Builtin.append_;simp only[af1];cases h0:ats[0]? with
 |none=>exact al
 |some sT=>
  cases h1:args[0]? with
  |none=>exact al
  |some s=>
    cases h2:args[1]? with
   |none=>exact al
   |some x=>
    simp only[ω];refine(aE sT).bind' λu u' h=>?_
    obtain⟨rfl,hu⟩:=h;cases u with
    |slice elem=>cases s with
     |slice base sLen sCap=>
      simp only[bE];refine(cL elem).bind' λsize size' h=>?_
      obtain⟨rfl,_⟩:=h;simp only[Zy,h0,ε] at hc;obtain⟨hc0,hc1⟩:=hc;have XM:zf P elem=true:=by simpa [O9,hu] using hc0
      have hfs:=iW (P:=P) (π:=π) (N:=N) (V:=V) size sLen (.slice base sLen sCap);rw[bE] at hfs;cases h3:ats[1]? with
      |none=>simp[h3] at hc1
      |some xT=>
       simp only[bind_assoc];simp only[h3] at hc1;refine(aE xT).bind' λu u' h=>?_
       obtain⟨rfl,hu1⟩:=h;have hni:∀k,u≠.int k:=λk e=>by simp[hu1,e] at hc1
       cases u
       case int k=>exact absurd rfl (hni k)
       all_goals
        simp only[pure_bind,Bool.not_false,if_true,τ,if_false,false_or];refine(Ah x).bind' λn n' h=>?_
        subst h;refine cI ?_ ?_
        .refine(iW size n x).bind' λc c' h=>?_
         rw[show c'=_ from h];cases base with
         |none=>exact au (by simp[RV])
         |some a=>
          simp only[ω];rw[<-iY,Array.toList_map];exact(fY _ _ 0).bind' λ_ _ _=>au (by simp[RV])
        .refine(ep elem).bind' λ_ _ h=>?_
         obtain⟨rfl,_⟩:=h;refine cI rY ((ep elem).bind' λ_ _ h=>?_);obtain⟨rfl,_⟩:=h;refine cI (.dead (Dead.bind _ (zK λb=>Eu (Ku (Dead.halt trivial)) (Dead.halt trivial)))) ?_;refine iH.bind' λnc _ h=>?_
         subst h;refine(ep elem).bind' λ_ _ h=>?_
         obtain⟨rfl,_⟩:=h;refine(oO _).bind' λ_ _ _=>?_
         refine hfs.bind' λold old' h=>?_
         rw[show old'=_ from h];refine(iW size n x).bind' λc c' h=>?_
         rw[show c'=_ from h];refine(eA XM).bind' λz _ h=>?_
         obtain⟨rfl,kk,hk⟩:=h;have key:=kX (P:=P) (π:=π) (N:=N) (V:=V) elem (old++c++Builtin.zeroCells z.cells (nc-(sLen+n)));rw[Array.map_append,Array.map_append,qm (π:=π) z.cells (by rw[<-iP,eE hk])] at key;refine key.bind' λa a' h=>?_
         rw[show a'=_ from h];exact au (by simp[RV])
     |_=>exact al
    |_=>exact al
theorem LI {ats:Array Γ}{t:Γ}{args:Array Φ}:ba P π N V (RV π) (Builtin.copy_ ats t args) (Builtin.copy_ ats t (args.map (Value.ren π))):=by
 unfold Builtin.copy_;simp only[af1];cases h0:ats[0]? with
 |none=>exact al
 |some sT=>
  cases h1:args[0]? with
  |none=>exact al
  |some s=>cases h2:args[1]? with
   |none=>exact al
   |some x=>
    simp only[ω];refine(aE sT).bind' λu u' h=>?_
    obtain⟨rfl,hu⟩:=h;cases u with
    |slice elem=>cases s with
     |slice base dLen c=>
      simp only[bE];refine(Ah x).bind' λn n' h=>?_
      subst h;refine(cL elem).bind' λsize _ h=>?_
      obtain⟨rfl,_⟩:=h;refine(iW size _ x).bind' λc c' h=>?_
      rw[show c'=_ from h];cases base with
      |none=>exact au (by simp[RV,goInt])
      |some a=>
       simp only[ω];rw[Array.toList_map];exact(fY _ _ 0).bind' λ_ _ _=>au (by simp[RV,goInt])
     |_=>exact al
    |_=>exact al
theorem PX {ats:Array Γ}{t:Γ}{args:Array Φ}:ba P π N V (RV π) (Builtin.len_ ats t args) (Builtin.len_ ats t (args.map (Value.ren π))):=by
 unfold Builtin.len_;simp only[af1];cases h0:ats[0]? with
 |none=>exact al
 |some sT=>
  cases h1:args[0]? with
  |none=>exact al
  |some s=>
   simp only[ω];refine(aE sT).bind' λu u' h=>?_
   obtain⟨rfl,hu⟩:=h;cases u with
   |string=>cases s with
    |string b=>simp only[bv];exact au (by simp[RV,goInt])
    |_=>exact al
   |array n e=>cases s<;>(simp only[dL,ck,dw,cT,bv,aU,dI,cM,bE,dB,dX,cP,dl,cO,de];exact au (by simp[RV,goInt]))
   |pointer arr=>
    have tl:∀{α:Type} (f:TypeDesc->Sem Φ),(∀d,ba P π N V (RV π) (f d) (f d))->ba P π N V (RV π) (underlying arr>>=f) (underlying arr>>=f):=λf hf=>(aE arr).bind' λd _ h=>by obtain⟨rfl,_⟩:=h;exact hf d
    cases s<;>(simp only[dL,ck,dw,cT,bv,aU,dI,cM,bE,dB,dX,cP,dl,cO,de];refine tl (α:=Unit) _ λd=>?_;cases d<;>first|exact al|exact au (by simp[RV,goInt]))
   |slice e=>cases s with
    |slice a n c=>simp only[bE];exact au (by simp[RV,goInt])
    |_=>exact al
   |map k e=>cases s with
    |map r=>cases r with
     |none=>simp only[dB];exact au (by simp[RV,goInt])
     |some r=>
      simp only[dB,ω];refine ba.getObj (k:=λx=>_) λo ho=>?_
      cases o<;>first|exact ho.elim|exact al|exact au (by simp[RV,goInt])
    |_=>exact al
   |chan d e=>cases s with
    |chan r=>cases r with
     |none=>simp only[dX];exact au (by simp[RV,goInt])
     |some r=>
      simp only[dX,ω];refine ba.getObj (k:=λx=>_) λo ho=>?_
      cases o<;>first|exact ho.elim|exact al
    |_=>exact al
   |_=>exact al
theorem PY {ats:Array Γ}{t:Γ}{args:Array Φ}:ba P π N V (RV π) (Builtin.cap_ ats t args) (Builtin.cap_ ats t (args.map (Value.ren π))):=by
 unfold Builtin.cap_;simp only[af1];cases h0:ats[0]? with
 |none=>exact al
 |some sT=>
  cases h1:args[0]? with
  |none=>exact al
  |some s=>
   simp only[ω];refine(aE sT).bind' λu u' h=>?_
   obtain⟨rfl,hu⟩:=h;cases u with
   |array n e=>cases s<;>(simp only[dL,ck,dw,cT,bv,aU,dI,cM,bE,dB,dX,cP,dl,cO,de];exact au (by simp[RV,goInt]))
   |pointer arr=>
    have tl:∀{α:Type} (f:TypeDesc->Sem Φ),(∀d,ba P π N V (RV π) (f d) (f d))->ba P π N V (RV π) (underlying arr>>=f) (underlying arr>>=f):=λf hf=>(aE arr).bind' λd _ h=>by obtain⟨rfl,_⟩:=h;exact hf d
    cases s<;>(simp only[dL,ck,dw,cT,bv,aU,dI,cM,bE,dB,dX,cP,dl,cO,de];refine tl (α:=Unit) _ λd=>?_;cases d<;>first|exact al|exact au (by simp[RV,goInt]))
   |slice e=>cases s with
    |slice a n c=>simp only[bE];exact au (by simp[RV,goInt])
    |_=>exact al
   |chan d e=>cases s with
    |chan r=>cases r with
     |none=>simp only[dX];exact au (by simp[RV,goInt])
     |some r=>
      simp only[dX,ω];refine ba.getObj (k:=λx=>_) λo ho=>?_
      cases o<;>first|exact ho.elim|exact al
    |_=>exact al
   |_=>exact al
theorem Jf {ats:Array Γ}{t:Γ}{args:Array Φ}(hz:(match ats[0]? with|some t=>O9 P t|none=>true)=true):ba P π N V (RV π) (Builtin.clear_ ats t args) (Builtin.clear_ ats t (args.map (Value.ren π))):=by
 unfold Builtin.clear_;simp only[af1];cases h0:ats[0]? with
 |none=>exact al
 |some sT=>
  cases h1:args[0]? with
  |none=>exact al
  |some s=>
   simp only[ω];rw[h0] at hz;refine(aE sT).bind' λu u' h=>?_
   obtain⟨rfl,hu⟩:=h;have fin:∀V:Nat->Prop,ba P π N V (RV π) (Pure.pure (.tuple #[])) (Pure.pure (.tuple #[])):=λ_=>au (by simp[RV])
   cases s with
   |map r=>cases r with
    |none=>simp only[dB];cases u<;>exact fin _
    |some r=>
     simp only[dB,ω];cases u<;>
     .refine ba.getObj (k:=λx=>_) λo ho=>?_
      cases o with
      |map es c=>
       have e:=ba.setObj (P:=P) (π:=π) (N:=N) (V:=λi=>V i\/i=r\/inner (.map es c) i) (R:=RV π) (r:=r) (o:= .map #[] c) (k:=Pure.pure (.tuple #[])) (k':=Pure.pure (.tuple #[])) trivial (λ_ h=>h.elim) (fin _);simp only[dC,Array.map_empty] at e;exact e
      |_=>first|exact ho.elim|exact al
   |slice a n cp=>cases a with
    |none=>simp only[bE];cases u<;>exact fin _
    |some a=>cases n with
     |zero=>simp only[bE];cases u<;>exact fin _
     |succ n=>
      simp only[bE,ω];cases u with
      |slice elem=>
       have XM:zf P elem=true:=by simpa [O9,hu] using hz
       refine(eA XM).bind' λz _ h=>?_
       obtain⟨rfl,k,hk⟩:=h;have key:=fY (P:=P) (π:=π) (N:=N) (V:=V) a (Builtin.zeroCells z.cells (n+1)).toList 0;rw[<-Array.toList_map,qm (π:=π) z.cells (by rw[<-iP,eE hk])] at key;exact key.bind' λ_ _ _=>fin _
      |_=>exact al
   |_=>cases u<;>exact al
end
section
variable {P:χ}{π:Nat->Nat}{N V:Nat->Prop}
theorem EL (hi:∀i j,π i=π j->i=j)(a b:Option Addr):(a.map (aZ π)==b.map (aZ π))=(a==b):=by
 rw[Bool.eq_iff_iff];simp only[ag5];constructor
 .intro h
  cases a<;>cases b<;>simp_all;exact xv hi h
 .intro h;rw[h]
theorem EK (hi:∀i j,π i=π j->i=j)(a b:Option Nat):(a.map π==b.map π)=(a==b):=by
 rw[Bool.eq_iff_iff];simp only[ag5];constructor
 .intro h
  cases a<;>cases b<;>simp_all;exact hi _ _ h
 .intro h;rw[h]
theorem vD {α β γ:Type}(f:α->β)(g:γ->β)(p:β->β->Bool)(q:α->γ->Bool):∀(l:List α) (m:List γ),(∀a∈l,∀b∈m,p (f a) (g b)=q a b)->(((l.map f).zip (m.map g)).all λx=>p x.1 x.2)=((l.zip m).all λx=>q x.1 x.2)
 |[],_,_=>by simp
 |_::_,[],_=>by simp
 |a::l,b::m,h=>by
  simp only[List.map_cons,List.zip_cons_cons,List.all_cons];rw[h a (by simp) b (by simp),vD f g p q l m λa ha b hb=>h a (by simp[ha]) b (by simp[hb])]
theorem Bj (hi:∀i j,π i=π j->i=j):∀(n:Nat) (v w:Φ),Instr.sameBits n (Value.ren π v) (Value.ren π w)=Instr.sameBits n v w:=by
 intro n
 induction n with
 |zero=>
  intro v w;cases v<;>cases w<;>simp[Instr.sameBits,EL hi,EK hi]
 |succ n ih=>
  intro v w;cases v<;>cases w<;>simp[Instr.sameBits,EL hi,EK hi,ih];rw[vD (Value.ren π) (Value.ren π) (Instr.sameBits n) (Instr.sameBits n) _ _ λa _ b _=>ih a b]
def uH (P:χ)(t:Γ):Bool:=match P.underlying t with|some .string=>true|_=>false
theorem Bf {t:Γ}(ht:uH P t=true)(x y:Φ):ba P π N V Eq (Op.equal t x y) (Op.equal t (Value.ren π x) (Value.ren π y)):=by
 unfold Op.equal;rw[show Op.maxDepth=9999+1 from rfl];unfold Op.equalIn;refine(aE t).bind' λu u' h=>?_
 obtain⟨rfl,hu⟩:=h;simp only[uH,hu] at ht;cases u with
 |string=>
  cases x with
  |string a=>cases y with
   |string b=>simp only[bv];exact au rfl
   |_=>exact al
  |_=>exact al
 |_=>simp at ht
theorem np {empty:Bool}{t:Γ}(ht:uH P t=true)(k:Φ):ba P π N V Eq (Instr.checkKey empty 10000 t k) (Instr.checkKey empty 10000 t (Value.ren π k)):=by
 unfold Instr.checkKey;refine(aE t).bind' λu u' h=>?_
 obtain⟨rfl,hu⟩:=h;simp only[uH,hu] at ht;cases u with
 |string=>exact au rfl
 |_=>simp at ht
theorem Dk (a b:Φ):Instr.sameNow .string (Value.ren π a) (Value.ren π b)=Instr.sameNow .string a b:=by
 cases a<;>cases b<;>simp[Instr.sameNow]
theorem vo (k:Φ):∀(es:List af3) (i:Nat),Instr.findNow .string (Value.ren π k) (es.map (mD π)) i=(Instr.findNow .string k es i).map (Option.map λp=>(p.1,Value.ren π p.2))
 |[],i=>rfl
 |e::es,i=>by
  simp only[List.map_cons,Instr.findNow];rw[show(mD π e).key=Value.ren π e.key from rfl,Dk];cases Instr.sameNow .string k e.key with
  |none=>rfl
  |some b=>cases b with
   |true=>rfl
   |false=>exact vo k es (i+1)
theorem oK {t:Γ}(ht:uH P t=true)(k:Φ):∀(es:List af3) (i:Nat),ba P π N V (λr r'=>r'=r.map λp=>(p.1,Value.ren π p.2)) (Instr.findAsking t k es i) (Instr.findAsking t (Value.ren π k) (es.map (mD π)) i)
 |[],i=>au rfl
 |e::es,i=>by
  simp only[List.map_cons,Instr.findAsking];refine(Bf ht k e.key).bind' λb b' h=>?_
  subst h;exact cI (au rfl) (oK ht k es (i+1))
theorem oJ {t:Γ}(ht:uH P t=true)(k:Φ)(es:List af3):ba P π N V (λr r'=>r'=r.map λp=>(p.1,Value.ren π p.2)) (Instr.findKey t k es) (Instr.findKey t (Value.ren π k) (es.map (mD π))):=by
 unfold Instr.findKey;refine(aE t).bind' λu u' h=>?_
 obtain⟨rfl,hu⟩:=h;have ht':=ht;simp only[uH,hu] at ht';cases u with
 |string=>
  rw[vo];cases Instr.findNow .string k es 0 with
  |some r=>exact au rfl
  |none=>exact oK ht k es 0
 |_=>simp at ht'
def MQ (P:χ)(t:Γ):Bool:=match P.underlying t with
 |some (.map k e)=>uH P k&&zf P e
 |_=>true
theorem Fh {t:Γ}(hm:MQ P t=true)(x k:Φ)(ok:Bool):ba P π N V (RV π) (Instr.lookup t x k ok) (Instr.lookup t (Value.ren π x) (Value.ren π k) ok):=by
 unfold Instr.lookup;refine(aE t).bind' λu u' h=>?_
 obtain⟨rfl,hu⟩:=h;simp only[MQ,hu] at hm;cases u with
 |map kt e=>
  simp only[ε] at hm;cases x with
  |map r=>cases r with
   |none=>
    simp only[dB,Option.map_none,pure_bind];refine(np hm.1 k).bind' λ_ _ _=>?_
    refine(oJ hm.1 k #[].toList).bind' λr r' h=>?_
    subst h;cases r with
    |some p=>exact au (by cases ok<;>simp[RV])
    |none=>
     refine(eA hm.2).bind' λz z' h=>?_
     obtain⟨rfl,n,hn⟩:=h;exact au (by cases ok<;>simp[RV,eE hn])
   |some r=>
    simp only[dB,ω];refine ba.getObj (k:=λx=>_) λo ho=>?_
    cases o with
    |map es c=>
     have e1:(es.map (mD π)).isEmpty=es.isEmpty:=by simp[Array.isEmpty]
     have e2:(es.map (mD π)).toList=es.toList.map (mD π):=Array.toList_map;simp only[dC,Sem.bind,pure_bind,e1,e2];refine(np hm.1 k).bind' λ_ _ _=>?_
     refine(oJ hm.1 k _).bind' λr r' h=>?_
     subst h;cases r with
     |some p=>exact au (by cases ok<;>simp[RV])
     |none=>
      refine(eA hm.2).bind' λz z' h=>?_
      obtain⟨rfl,n,hn⟩:=h;exact au (by cases ok<;>simp[RV,eE hn])
    |_=>first|exact ho.elim|exact al
  |_=>exact al
 |_=>exact al
theorem tQ (hi:∀i j,π i=π j->i=j)(old new:Φ):ba P π N V (RV π) (Instr.keyThatStays old new) (Instr.keyThatStays (Value.ren π old) (Value.ren π new)):=by
 unfold Instr.keyThatStays;rw[Bj hi];refine cI (au rfl) (iH.bind' λc c' h=>?_);subst h;exact au (by by_cases h:c=0<;>simp[RV,h])
theorem FT (es:Array af3)(i:Nat)(k v:Φ):(es.modify i λe=>{e with key:=k,val:=v}).map (mD π)=(es.map (mD π)).modify i λe=>{e with key:=Value.ren π k,val:=Value.ren π v}:=by
 apply Array.ext
 .simp
 .intro j h1 h2
  simp only[Array.getElem_map,Array.getElem_modify];split<;>rfl
theorem zm (hi:∀i j,π i=π j->i=j){t:Γ}(hm:MQ P t=true)(x k v:Φ):ba P π N V Eq (Instr.mapUpdate t x k v) (Instr.mapUpdate t (Value.ren π x) (Value.ren π k) (Value.ren π v)):=by
 unfold Instr.mapUpdate;refine(aE t).bind' λu u' h=>?_
 obtain⟨rfl,hu⟩:=h;simp only[MQ,hu] at hm;cases u with
 |map kt e=>
  simp only[ε] at hm;cases x with
  |map r=>cases r with
   |none=>simp only[dB];exact tO
   |some r=>
    simp only[dB,ω];refine ba.getObj (k:=λx=>_) λo ho=>?_
    cases o with
    |map es c=>
     have e2:(es.map (mD π)).toList=es.toList.map (mD π):=Array.toList_map;simp only[dC,Sem.bind,e2];refine(np hm.1 k).bind' λ_ _ _=>?_
     refine(oJ hm.1 k _).bind' λq q' h=>?_
     subst h;cases q with
     |some p=>
      obtain⟨i,pv⟩:=p;have e3:(((es.map (mD π))[i]?).map (·.key)).getD (Value.ren π k)=Value.ren π (((es[i]?).map (·.key)).getD k):=by
       rw[af1];cases es[i]? <;>rfl
      simp only[ω,e3];refine(tQ hi _ k).bind' λkk kk' h=>?_
      rw[show kk'=_ from h,<-FT];exact ba.setObj (o:= .map (es.modify i λe=>{e with key:=kk,val:=v}) c) trivial (λ_ h=>h.elim) (.pure rfl)
     |none=>
      simp only[Option.map_none];have:=ba.setObj (P:=P) (π:=π) (N:=N) (V:=λi=>V i\/i=r\/inner (.map es c) i) (R:=Eq) (r:=r) (o:= .map (es.push {key:=k,val:=v,born:=c}) (c+1)) (k:=Sem.pure ()) (k':=Sem.pure ()) trivial (λ_ h=>h.elim) (.pure rfl);simp only[dC,Array.map_push] at this;exact this
    |_=>first|exact ho.elim|exact al
  |_=>exact al
 |_=>exact al
theorem Jb {t:Γ}(x:Φ):ba P π N V (RV π) (Instr.range t x) (Instr.range t (Value.ren π x)):=by
 unfold Instr.range;refine(aE t).bind' λu u' h=>?_
 obtain⟨rfl,hu⟩:=h;have nw:∀(V:Nat->Prop) (o:Obj),n6 o->(∀i,¬inner o i)->ba P π N V (RV π) (newObj o>>=λb=>Pure.pure (.pointer (some ⟨b,0,none⟩)):Sem Φ) (newObj (dC π o)>>=λb=>Pure.pure (.pointer (some ⟨b,0,none⟩)):Sem Φ):=λV o h1 h2=>
  ba.new (o:=o) h1 (λi h=>(h2 i h).elim) λb _=> .pure (by simp[RV,aZ])
 cases u with
 |string=>cases x with
  |string s=>simp only[bv,pure_bind];exact nw _ (.stringIter s 0) trivial (λ_ h=>h)
  |_=>exact fX
 |map k e=>cases x with
  |map r=>cases r with
   |none=>simp only[dB,pure_bind];exact nw _ (.mapIter none 0 #[] 0) trivial (λ_ h=>h)
   |some r=>
    simp only[dB,ω];refine ba.getObj (k:=λx=>_) λo ho=>?_
    cases o with
    |map es c=>simp only[dC,Sem.bind,pure_bind];exact nw _ (.mapIter (some r) c #[] c) trivial (λ_ h=>h)
    |_=>first|exact ho.elim|exact al
  |_=>exact fX
 |_=>exact fX
theorem LG (it:Φ)(t:Γ):ba P π N V (RV π) (Instr.next it true t) (Instr.next (Value.ren π it) true t):=by
 unfold Instr.next;have ov:∀V:Nat->Prop,ba P π N V (RV π) (Pure.pure (.tuple #[.bool false])) (Pure.pure (.tuple #[.bool false])):=λ_=>au (by simp[RV])
 cases it with
 |pointer a=>cases a with
  |none=>exact al
  |some a=>
   obtain⟨r,off,sp⟩:=a;cases off with
   |succ n=>exact al
   |zero=>
    simp only[aU,ω,aZ];refine ba.getObj (k:=λx=>_) λo ho=>?_
    cases o with
    |stringIter s pos=>
     simp only[dC,Sem.bind];refine cI ?_ (ov _);exact ba.setObj (o:= .stringIter s (pos+(Utf8.decode s pos).2)) trivial (λ_ h=>h.elim) (.pure (by simp[RV,goInt]))
    |mapIter m since seen st=>
     simp only[dC,Sem.bind];cases m<;>exact al
    |_=>first|exact ho.elim|exact al
 |_=>exact al
end
section
variable {P:χ}{π:Nat->Nat}{N V:Nat->Prop}
theorem zn {t:Γ}(hz:O9 P t=true)(l c:Φ):ba P π N V (RV π) (Instr.makeSlice t l c) (Instr.makeSlice t (Value.ren π l) (Value.ren π c)):=by
 unfold Instr.makeSlice;refine(aE t).bind' λu u' h=>?_
 obtain⟨rfl,hu⟩:=h;cases u with
 |slice elem=>
  have XM:zf P elem=true:=by simpa [O9,hu] using hz
  refine(kJ l).bind' λa _ h=>?_
  subst h;refine(kJ c).bind' λb _ h=>?_
  subst h;refine(ep elem).bind' λi _ h=>?_
  obtain⟨rfl,_⟩:=h;dsimp only;refine cI ?_ ?_
  .refine cI rY (cI rY ?_)
   exact .dead (vr λn=>by simp only[Sem.bind];exact Dead.bind _ (dG _))
  .refine(oO _).bind' λ_ _ _=>?_
   refine(cL elem).bind' λn _ h=>?_
   obtain⟨rfl,_⟩:=h;have fin:∀z:Array Φ,z.map (Value.ren π)=z->∀k x y,ba P π N V (RV π) (newRow elem ((Array.range k).map λi=>z[i%z.size]!)>>=λa=>Pure.pure (.slice (some a) x y)) (newRow elem ((Array.range k).map λi=>z[i%z.size]!)>>=λa=>Pure.pure (.slice (some a) x y)):=by
    intro z hz k x y;have key:=kX (P:=P) (π:=π) (N:=N) (V:=V) elem ((Array.range k).map λi=>z[i%z.size]!);rw[k7 z hz] at key;exact key.bind' λa a' h=>by rw[show a'=_ from h];exact au (by simp[RV])
   refine cI ?_ ?_
   .exact fin #[] (by simp) _ _ _
   .refine(eA XM).bind' λz _ h=>?_
    obtain⟨rfl,k,hk⟩:=h;exact fin _ (by rw[<-iP,eE hk]) _ _ _
 |_=>exact al
theorem LH (x y:Φ):ba P π N V (RV π) (Builtin.min2 x y) (Builtin.min2 (Value.ren π x) (Value.ren π y)):=by
 unfold Builtin.min2;cases x with
 |int k a=>cases y with
  |int k' b=>simp only[ck];exact dP (mS trivial)
  |pointer p=>cases p<;>first|exact al|exact aH trivial
  |_=>exact al
 |float k a=>cases y with
  |float k' b=>
   simp only[dw];refine dP ?_;split
   .exact ic pqc λ_ _=>mS trivial
   all_goals exact mS trivial
  |pointer p=>cases p<;>first|exact al|exact aH trivial
  |_=>exact al
 |string a=>cases y with
  |string b=>simp only[bv];exact dP (ic (u9 _ _ _) λv _=>ic (Ao v) λb _=>by cases b<;>exact mS trivial)
  |pointer p=>cases p<;>first|exact al|exact aH trivial
  |_=>exact al
 |pointer p=>cases p with
  |some a=>exact aH trivial
  |none=>cases y with
   |pointer p=>cases p<;>first|exact al|exact aH trivial
   |_=>exact al
 |_=>cases y with
  |pointer p=>cases p<;>first|exact al|exact aH trivial
  |_=>exact al
theorem xc {f f':Φ->Φ->Sem Φ}(hf:∀x y,ba P π N V (RV π) (f x y) (f' (Value.ren π x) (Value.ren π y))):∀(l:List Φ) (x:Φ),ba P π N V (RV π) (l.foldlM f x) ((l.map (Value.ren π)).foldlM f' (Value.ren π x))
 |[],x=>au rfl
 |y::l,x=>by
  simp only[List.foldlM_cons,List.map_cons];refine(hf x y).bind' λz z' h=>?_
  rw[show z'=_ from h];exact xc hf l z
theorem PW {ats:Array Γ}{t:Γ}{args:Array Φ}:ba P π N V (RV π) (Builtin.min_ ats t args) (Builtin.min_ ats t (args.map (Value.ren π))):=by
 unfold Builtin.min_;rw[Array.toList_map];cases args.toList with
 |nil=>exact al
 |cons x l=>exact xc LH l x
theorem qp:∀(n:Nat) (a:Addr) (acc:Ξ),ba P π N V Eq (loadBytes a acc n) (loadBytes (aZ π a) acc n)
 |0,a,acc=>au rfl
 |n+1,a,acc=>by
  simp only[loadBytes];refine(oI a).bind' λv v' h=>?_
  rw[show v'=_ from h];cases v with
  |int k m=>
   simp only[ck];cases k<;>first|exact al|(rw[<-iY];exact qp n _ _)
  |_=>exact al
theorem xg {α:Type}{R:α->α->Prop}{f f':Array Φ->Sem α}{args:Array Φ}(h1:∀x y,args=#[x,y]->ba P π N V R (f #[x,y]) (f' #[Value.ren π x,Value.ren π y]))(h2:args.size≠2->ba P π N V R (f args) (f' (args.map (Value.ren π)))):ba P π N V R (f args) (f' (args.map (Value.ren π))):=by
 obtain⟨l⟩:=args
 match l with
 |[x,y]=>simpa using h1 x y rfl
 |[]=>exact h2 (by simp)
 |[_]=>exact h2 (by simp)
 |_::_::_::_=>exact h2 (by simp)
theorem tN {ats:Array Γ}{t:Γ}{args:Array Φ}(hN:∀r,V r->¬N r)(hv:∀v∈args,VV V v):ba P π N V (RV π) (Builtin.unsafeString_ ats t args) (Builtin.unsafeString_ ats t (args.map (Value.ren π))):=by
 refine xg (f:=Builtin.unsafeString_ ats t) (f':=Builtin.unsafeString_ ats t) (λx y he=>?_) λh=>?_
 .subst he
  unfold Builtin.unsafeString_;cases x with
  |pointer p=>
   have e:Value.ren π (.pointer p)= .pointer (p.map (aZ π)):=aU _;rw[e];refine(kJ y).bind' λn _ h=>?_
   subst h;cases ats[0]? with
   |none=>exact al
   |some pt=>
    refine cI rY (cI (aH trivial) ?_);cases p with
    |none=>exact cI (au (by simp[RV])) tO
    |some a=>
     have hva:V a.block:=(hv _ (by simp)).ptr;refine cI (au (by simp[RV])) ?_;refine(xd pt).bind' λe _ h=>?_
     subst h;refine(nX hva).bind' λb _ h=>?_
     subst h;refine cI ?_ (aH trivial);refine(qp _ a _).bind' λs _ h=>?_
     subst h;exact ba.freeze hva (hN _ hva) (au (by simp[RV]))
  |_=>exact al
 .obtain⟨l⟩:=args
  match l,h with
  |[],_=>exact al
  |[_],_=>exact al
  |[_,_],h=>exact absurd rfl h
  |_::_::_::_,_=>exact al
theorem qg {ats:Array Γ}{t:Γ}{args:Array Φ}(hv:∀v∈args,VV V v):ba P π N V (RV π) (Builtin.unsafeSliceData_ ats t args) (Builtin.unsafeSliceData_ ats t (args.map (Value.ren π))):=by
 obtain⟨l⟩:=args
 match l,hv with
 |[],_=>exact al
 |[x],hv=>
  cases x with
  |slice p n c=>
   have e:(Array.mk [Value.slice p n c]).map (Value.ren π)=#[.slice (p.map (aZ π)) n c]:=by simp
   rw[e];unfold Builtin.unsafeSliceData_;cases p with
   |none=>exact au (by simp[RV])
   |some a=>
    have hva:V a.block:=hv (.slice (some a) n c) (by simp) _ (.slice rfl);refine cI (au (by simp[RV])) ?_;refine(qU hva).bind' λx _ h=>?_
    subst h;cases x with
    |some z=>exact au (by simp[RV])
    |none=>
     refine(xd t).bind' λe _ h=>?_
     subst h;exact oG hva
  |_=>exact al
 |_::_::_,_=>exact al
theorem yQ {α:Type}:∀(a:Ask α) (w:Θ),(w.ask a).2.heap=w.heap
 |.done a,w=>rfl
 |.ask what range k,w=>by
  simp only[World.ask];split
  .exact yQ _ _
  .exact yQ _ _
theorem Oq {α:Type}{c:Sys}{k:SysRet->Sem α}(h:∀r,Dead P (k r)):Dead P (.sys c k):=by
 intro w hw;have e:(w.sys c).2.heap=w.heap:=by
  unfold World.sys;have:=yQ (Kernel.perform c w.os) w;split
  .rfl
  .rename_i r os w' heq
   rw[heq] at this;exact this
 exact h _ _ λb o hb=>hw b o (by rw[<-e];exact hb)
theorem Gy (v:Φ):Dead P (Instr.panic v):=by
 unfold Instr.panic;cases v with
 |iface t v=>exact Dead.halt trivial
 |nilIface=>
  unfold Instr.panicnil;simp only[bind_assoc];refine Oq λr=>?_
  cases r with
  |strings env=>
   refine B4 ?_;simp only[pure_bind];exact Eu (Dead.halt trivial) (dG _)
  |_=>exact Dead.halt trivial
 |_=>exact Dead.halt trivial
theorem iA:∀(l:List FieldStep) (t:Γ) (x:Option Φ),ba P π N V (λr r'=>(∃b,r= .error b/\r'= .error b)\/∃t y,r= .ok (t,y)/\r'= .ok (t,y.map (Value.ren π))) (followBlind l t x) (followBlind l t (x.map (Value.ren π)))
 |[],t,x=>au (.inr ⟨_,_,rfl,rfl⟩)
 |s::l,t,x=>by
  simp only[followBlind];refine(aE s.struct).bind' λu _ h=>?_
  obtain⟨rfl,_⟩:=h;cases u with
  |struct fs=>
   dsimp only;cases fs[s.index]? with
   |none=>exact al
   |some f=>
    dsimp only;cases s.deref with
    |true=>cases x with
     |none=>exact au (.inl ⟨_,rfl,rfl⟩)
     |some x=>cases x with
      |pointer p=>cases p with
       |none=>simp only[ω,aU];exact au (.inl ⟨_,rfl,rfl⟩)
       |some a=>simp only[ω,aU];exact iA l f.type none
      |_=>exact al
    |false=>cases x with
     |none=>exact iA l f.type none
     |some x=>cases x with
      |agg cs=>
       simp only[ω,dl];refine(kW f.type cs f.offset).bind' λv v' h=>?_
       obtain⟨rfl,_⟩:=h;exact iA l f.type (some v)
      |_=>exact al
  |_=>exact al
theorem rZ:∀(n:Nat) (t:Γ) (v:Φ) (name:String),ba P π N V Eq (nilAhead n t v name) (nilAhead n t (Value.ren π v) name)
 |0,_,_,_=>au rfl
 |n+1,t,v,name=>by
  simp only[nilAhead];refine(ep t).bind' λi _ h=>?_
  obtain⟨rfl,_⟩:=h;cases i.methods.find? (λx=>x.name==name) with
  |none=>exact al
  |some m=>
   dsimp only;refine(iA _ t (some v)).bind' λr r' h=>?_
   rcases h with⟨b,rfl,rfl⟩|⟨xt,y,rfl,rfl⟩
   .exact au rfl
   .dsimp only
    cases m.func with
    |none=>cases y with
     |none=>exact au rfl
     |some y=>cases y with
      |iface t v=>simp only[ω,cP];exact rZ n t v name
      |nilIface=>simp only[ω,cM];exact au rfl
      |_=>exact al
    |some q=>
     obtain⟨f,b⟩:=q;cases b with
     |true=>cases y<;>exact au rfl
     |false=>
      refine(aE xt).bind' λu _ h=>?_
      obtain⟨rfl,_⟩:=h;cases u with
      |pointer e=>cases y with
       |none=>exact au rfl
       |some y=>cases y with
        |pointer p=>cases p<;>(simp only[ω,aU];exact au rfl)
        |_=>simp only[ω,dL,ck,dw,cT,bv,aU,dI,cM,bE,dB,dX,cP,dl,cO,de];exact au rfl
      |_=>cases y<;>exact au rfl
end
section
variable {P:χ}{π:Nat->Nat}{N V:Nat->Prop}
theorem Fj (v:Φ):ba P π N V Eq (Extern.Bytes.asByte v) (Extern.Bytes.asByte (Value.ren π v)):=by
 unfold Extern.Bytes.asByte;cases v with
 |int k n=>simp only[ck];cases k<;>first|exact al|exact au rfl
 |_=>exact al
theorem oH:∀(n:Nat) (a:Addr) (acc:Ξ),ba P π N V Eq (Extern.Bytes.loadBytes a n acc) (Extern.Bytes.loadBytes (aZ π a) n acc)
 |0,a,acc=>au rfl
 |n+1,a,acc=>by
  simp only[Extern.Bytes.loadBytes];refine(oI a).bind' λv v' h=>?_
  rw[show v'=_ from h];cases v with
  |int k m=>
   simp only[ck];cases k<;>first|exact al|(rw[<-iY];exact oH n _ _)
  |_=>exact al
theorem oN (v:Φ):ba P π N V Eq (Extern.Bytes.bytesOf v) (Extern.Bytes.bytesOf (Value.ren π v)):=by
 unfold Extern.Bytes.bytesOf;cases v with
 |string s=>simp only[bv];exact au rfl
 |slice a n c=>
  simp only[bE];cases a with
  |none=>exact au rfl
  |some a=>exact oH n a _
 |_=>exact al
theorem Bc (args:Array Φ):ba P π N V (RV π) (Extern.AbiNoEscape.same args) (Extern.AbiNoEscape.same (args.map (Value.ren π))):=by
 obtain⟨l⟩:=args
 match l with
 |[]=>exact al
 |[x]=>
  have e:(Array.mk [x]).map (Value.ren π)=#[Value.ren π x]:=by simp
  rw[e];exact au rfl
 |_::_::_=>exact al
theorem zo (args:Array Φ):ba P π N V (RV π) (Extern.BytealgIndexByte.indexByte args) (Extern.BytealgIndexByte.indexByte (args.map (Value.ren π))):=by
 refine xg (f:=Extern.BytealgIndexByte.indexByte) (f':=Extern.BytealgIndexByte.indexByte) (λx y he=>?_) λh=>?_
 .refine(oN x).bind' λb _ h=>?_
  subst h;refine(Fj y).bind' λc _ h=>?_
  subst h;cases (List.range b.size).find? λi=>b[i]! ==c with
  |none=>exact au (by simp[RV,goInt])
  |some i=>exact au (by simp[RV,goInt])
 .obtain⟨l⟩:=args
  match l,h with
  |[],_=>exact al
  |[_],_=>exact al
  |[_,_],h=>exact absurd rfl h
  |_::_::_::_,_=>exact al
theorem xa (h0:π 0=0)(hP1:P.globals.size<=1)(name:String):ba P π N V (RA π) (globalAddr name) (globalAddr name):=by
 unfold globalAddr;refine cB.bind' λz z' h=>?_
 rw[h.1,h.2];cases h:P.globals.findIdx? λx=>x.name==name with
 |none=>exact al
 |some g=>
  have hg:g<P.globals.size:=by
   have:=Array.findIdx?_eq_some_iff_findIdx_eq.1 h;exact this.1
  have:g=0:=by omega
  subst this;exact au (by simp[RA,aZ,h0])
theorem Be (h0:π 0=0)(hP1:P.globals.size<=1)(args:Array Φ):ba P π N V (RV π) (Extern.BytealgIndex.index args) (Extern.BytealgIndex.index (args.map (Value.ren π))):=by
 refine xg (f:=Extern.BytealgIndex.index) (f':=Extern.BytealgIndex.index) (λx y he=>?_) λh=>?_
 .refine(oN x).bind' λa _ h=>?_
  subst h;refine(oN y).bind' λb _ h=>?_
  subst h;have hm:ba P π N V Eq Extern.BytealgIndex.maxLen Extern.BytealgIndex.maxLen:=by
   unfold Extern.BytealgIndex.maxLen;refine(xa h0 hP1 _).bind' λg g' h=>?_
   rw[show g'=_ from h];refine(oI g).bind' λv v' h=>?_
   rw[show v'=_ from h];exact kJ v
  refine hm.bind' λm _ h=>?_
  subst h;refine cI (aH trivial) (cI (aH trivial) ?_);cases (List.range (a.size+1-b.size)).find? λi=>a.extract i (i+b.size)==b with
  |none=>exact au (by simp[RV,goInt])
  |some i=>exact au (by simp[RV,goInt])
 .obtain⟨l⟩:=args
  match l,h with
  |[],_=>exact al
  |[_],_=>exact al
  |[_,_],h=>exact absurd rfl h
  |_::_::_::_,_=>exact al
theorem yy:∀(n t:Nat) (acc:Array Φ),(Extern.BytealgMakeNoZero.digits n t acc).map (Value.ren π)=Extern.BytealgMakeNoZero.digits n t (acc.map (Value.ren π))
 |0,_,_=>rfl
 |n+1,t,acc=>by
  simp only[Extern.BytealgMakeNoZero.digits];rw[yy n,Array.map_push,ck]
theorem wZ (ps rs:Array Γ)(args:Array Φ):ba P π N V (RV π) (Extern.BytealgMakeNoZero.makeNoZero ps rs args) (Extern.BytealgMakeNoZero.makeNoZero ps rs (args.map (Value.ren π))):=by
 obtain⟨l⟩:=args
 match l with
 |[]=>exact al
 |[x]=>
  cases x with
  |int k n=>
   have e:(Array.mk [Value.int k n]).map (Value.ren π)=#[.int k n]:=by simp
   rw[e];cases k with
   |i64=>
    unfold Extern.BytealgMakeNoZero.makeNoZero;cases rs[0]? with
    |none=>exact al
    |some t=>
     refine(aE t).bind' λu _ h=>?_
     obtain⟨rfl,_⟩:=h;cases u with
     |slice elem=>
      refine cI rY ?_;refine iH.bind' λc _ h=>?_
      subst h;refine(oO _).bind' λ_ _ _=>?_
      refine iH.bind' λb _ h=>?_
      subst h;have key:=kX (P:=P) (π:=π) (N:=N) (V:=V) elem (Extern.BytealgMakeNoZero.digits c b #[]);rw[yy,Array.map_empty] at key;refine key.bind' λa a' h=>?_
      rw[show a'=_ from h];exact au (by simp[RV])
     |_=>exact al
   |_=>exact al
  |_=>exact al
 |_::_::_=>exact al
def RN (π:Nat->Nat)(S:ab9->Bool):Next->Next->Prop
 |.value v,n'=>n'= .value (Value.ren π v)
 |.skip,n'=>n'= .skip
 |.enter f ae,n'=>n'= .enter f (ae.map (Value.ren π))/\S f=true
 |_,_=>False
def n4:aa9->Bool
 |.tmp _|.func _=>true
 |.const v=>jm 8 v
 |.global _=>false
def BD:aa9->Bool
 |.const (.pointer none)=>true
 |_=>false
def MG (P:χ)(S E:ab9->Bool)(str:Bool)(c:Call):Bool:=match c.callee with
 |.builtin b=>(match b with
  |.len|.cap|.copy|.min=>true
  |.unsafeSliceData|.unsafeString=>str
  |.append=>Zy P c.argTypes
  |.clear=>(match c.argTypes[0]? with|some t=>O9 P t|none=>true)
  |_=>false)
 |.value (.func f)=>S f||E f
 |_=>false
def ME (P:χ)(S E:ab9->Bool)(str:Bool):Op->Bool
 |.move _|.assign _|.pick _ _ _|.box _ _|.load _ _|.store _ _ _|.nilCheck _|.unOp _ _ _|.makeInterface _ _|.makeMap _ _
 |.field _ _ _|.indexAddr _ _ _|.index _ _ _|.range _ _|.extract _ _|.panic _=>true
 |.next _ b=>b
 |.alloc t|.build t _=>zf P t
 |.buildSlice t _ _|.makeSlice t _ _=>O9 P t
 |.binOp op t x y _=>(match op with
  |.eql|.neq=>((eqTy P 20 t||(str&&lS P t))&&!P.eqGuardType P.depth t)||BD x||BD y
  |_=>true)
 |.convert s d _=>Zh P s d
 |.slice t _ _ _ _=>(match P.underlying t with|some (.pointer _)=>false|_=>true)
 |.fieldAddr s _ f=>NH P s f
 |.lookup t _ _ _|.mapUpdate t _ _ _=>MQ P t
 |.call c=>MG P S E str c
 |_=>false
def mF (P:χ)(S E:ab9->Bool)(str:Bool)(o:Oper):Bool:=ME P S E str o.op&&o.op.operands.all n4
structure ZA (P:χ)(π:Nat->Nat)(N:Nat->Prop)(S E:ab9->Bool)(str:Bool)(V:Nat->Prop):Prop where
 inj:∀i j,π i=π j->i=j
 zero:π 0=0
 zD:P.globals.size<=1
 body:∀f,S f=true->∃fn,P.funcs[f]? =some fn/\(fn.name== "runtime.NumGoroutine")=false/\fn.body.isSome=true
 ext:∀f,E f=true->∀(args:Array Φ) (V:Nat->Prop),ba P π N V (RN π S) (callFunc f args) (callFunc f (args.map (Value.ren π)))
 str:str=true->∀r,V r->¬N r
theorem eT {S:ab9->Bool}{s s':Sem Φ}(h:ba P π N V (RV π) s s'):ba P π N V (RN π S) (do Pure.pure (.value (<-s)):Sem Next) (do Pure.pure (.value (<-s')):Sem Next):=h.bind' λv v' h=>by rw[show v'=_ from h];exact au rfl
theorem S8 {S:ab9->Bool}{s s':Sem Unit}(h:ba P π N V Eq s s'):ba P π N V (RN π S) (do s;Pure.pure .skip:Sem Next) (do s';Pure.pure .skip:Sem Next):=h.bind' λ_ _ _=>au rfl
theorem Bg {S E:ab9->Bool}{str:Bool}(h:ZA P π N S E str V){f:ab9}(hf:S f=true\/E f=true)(args:Array Φ):ba P π N V (RN π S) (callFunc f args) (callFunc f (args.map (Value.ren π))):=by
 rcases hf with hf|hf
 .obtain⟨fn,h1,h2,h3⟩:=h.body f hf
  unfold callFunc;refine cB.bind' λz z' h=>?_
  rw[h.1,h.2,h1];dsimp only;have h4:fn.body.isNone=false:=by cases hb:fn.body<;>simp_all
  rw[h2,h4];exact au ⟨rfl,hf⟩
 .exact h.ext f hf args V
theorem nn {S:ab9->Bool}{f:ab9}{fn:Func}{e:Array Φ->Sem Φ}(hf:P.funcs[f]? =some fn)(h2:(fn.name== "runtime.NumGoroutine")=false)(h3:fn.body.isNone=true)(hn:Extern.findNext fn=none)(he:Extern.find fn=some e){args:Array Φ}
  (h:ba P π N V (RV π) (e args) (e (args.map (Value.ren π)))):ba P π N V (RN π S) (callFunc f args) (callFunc f (args.map (Value.ren π))):=by
 unfold callFunc;refine cB.bind' λz z' h'=>?_
 rw[h'.1,h'.2,hf];dsimp only;rw[h2,h3,hn];refine ba.mark (m:= .extern f) trivial ?_;show ba P π N V _ (match Extern.find fn with|some e=>_|none=>_) (match Extern.find fn with|some e=>_|none=>_);rw[he];exact eT h
theorem SK {xs:Array aa9}(h:xs.all n4=true){x:aa9}(hx:x∈xs):n4 x=true:=ae7.1 h x hx
theorem qV {S E:ab9->Bool}{str:Bool}(h:ZA P π N S E str V){ρ ρ':aa9->Φ}{o:Oper}(hok:mF P S E str o=true)
  (hρ:∀x∈o.op.operands,n4 x=true->ρ' x=Value.ren π (ρ x)/\VV V (ρ x)) (hf:∀f,ρ (.func f)= .func (.func f) #[] #[]/\ρ' (.func f)= .func (.func f) #[] #[]) (hc:∀v,ρ (.const v)=v):
  ba P π N V (RN π S) (execOp ρ o) (execOp ρ' o):=by
 obtain⟨dst,op,ty,pos,after,guard⟩:=o;simp only[mF,ε] at hok;obtain⟨hop,hall⟩:=hok;have hx:∀x∈op.operands,ρ' x=Value.ren π (ρ x)/\VV V (ρ x):=λx hx=>hρ x hx (SK hall hx)
 clear hρ hall;unfold execOp;cases op with
 |move x=>dsimp only;rw[(hx x (by simp[Op.operands])).1];exact au rfl
 |assign x=>dsimp only;rw[(hx x (by simp[Op.operands])).1];exact au rfl
 |pick c a b=>
  dsimp only;rw[(hx c (by simp[Op.operands])).1,(hx a (by simp[Op.operands])).1,(hx b (by simp[Op.operands])).1];refine(Fl _).bind' λt _ h=>?_
  subst h;exact au (by cases t<;>rfl)
 |alloc t=>exact eT (Jj hop)
 |box t x=>dsimp only;rw[(hx x (by simp[Op.operands])).1];exact eT (PZ t _)
 |build t ps=>
  dsimp only;have:(ps.map λp=>(p.1,ρ' p.2))=(ps.map λp=>(p.1,ρ p.2)).map λp=>(p.1,Value.ren π p.2):=by
   rw[Array.map_map];exact Array.map_congr_left λp hp=>by simp only[Function.comp];rw[(hx p.2 (by simp[Op.operands];exact⟨p.1,hp⟩)).1]
  rw[this];exact eT (Jg hop _)
 |buildSlice t n ps=>
  dsimp only;have:(ps.map λp=>(p.1,ρ' p.2))=(ps.map λp=>(p.1,ρ p.2)).map λp=>(p.1,Value.ren π p.2):=by
   rw[Array.map_map];exact Array.map_congr_left λp hp=>by simp only[Function.comp];rw[(hx p.2 (by simp[Op.operands];exact⟨p.1,hp⟩)).1]
  rw[this];exact eT (xe hop n _)
 |load t x=>dsimp only;rw[(hx x (by simp[Op.operands])).1];exact eT (Fi t _)
 |store t x y=>dsimp only;rw[(hx x (by simp[Op.operands])).1,(hx y (by simp[Op.operands])).1];exact S8 (C2 t _ _)
 |nilCheck x=>
  dsimp only;rw[(hx x (by simp[Op.operands])).1];generalize ρ x=v;have hp:∀v:Φ,ba P π N V (RN π S) (Pure.pure (.value v)) (Pure.pure (.value (Value.ren π v))):=λv=>au rfl
  cases v with
  |pointer p=>cases p with
   |none=>exact tO
   |some a=>have:=hp (.pointer (some a));simp only[aU,ω] at this⊢;exact this
  |nilIface=>exact tO
  |nilFunc=>exact tO
  |func fn first GS=>
   have hf:=hp (.func fn first GS);cases fn with
   |method name=>
    simp only[de,oW,af1] at hf⊢;cases first[0]? with
    |none=>exact hf
    |some w=>
     simp only[ω];cases w with
     |nilIface=>exact tO
     |iface t w=>
      simp only[cP];refine cB.bind' λz z' h=>?_
      rw[h.1,h.2];refine(rZ _ t w name).bind' λr _ h=>?_
      subst h;exact cI (aH trivial) hf
     |_=>simp only[dL,ck,dw,cT,bv,aU,dI,cM,bE,dB,dX,cP,dl,cO,de];exact hf
   |_=>simp only[de,oW] at hf⊢;exact hf
  |bool b=>have:=hp (.bool b);simp only[dL] at this⊢;exact this
  |int k n=>have:=hp (.int k n);simp only[ck] at this⊢;exact this
  |float k n=>have:=hp (.float k n);simp only[dw] at this⊢;exact this
  |complex k n m=>have:=hp (.complex k n m);simp only[cT] at this⊢;exact this
  |string s=>have:=hp (.string s);simp only[bv] at this⊢;exact this
  |slice a n m=>have:=hp (.slice a n m);simp only[bE] at this⊢;exact this
  |map r=>have:=hp (.map r);simp only[dB] at this⊢;exact this
  |chan r=>have:=hp (.chan r);simp only[dX] at this⊢;exact this
  |iface t w=>have:=hp (.iface t w);simp only[cP] at this⊢;exact this
  |agg cs=>have:=hp (.agg cs);simp only[dl] at this⊢;exact this
  |tuple cs=>have:=hp (.tuple cs);simp only[cO] at this⊢;exact this
 |binOp op t x y t2=>
  dsimp only;have ex:=hx x (by simp[Op.operands]);have ey:=hx y (by simp[Op.operands]);have nl:∀z,BD z=true->ρ z= .pointer none:=λz hz=>by
   unfold BD at hz;split at hz
   .exact hc _
   .cases hz
  have hq:op= .eql\/op= .neq->((eqTy P 20 t=true\/(str&&lS P t)=true)/\P.eqGuardType P.depth t=false)\/ρ x= .pointer none\/ρ y= .pointer none:=by
   rintro(rfl|rfl)
   all_goals
    simp only[ME,Bool.or_eq_true,ε,Bool.not_eq_true'] at hop;rcases hop with(h1|h1)|h1
    .exact .inl ⟨h1.1.imp id λh=>by simp[h.1,h.2],h1.2⟩
    .exact .inr (.inl (nl x h1))
    .exact .inr (.inr (nl y h1))
  rw[ex.1,ey.1];refine eT ((C9 (n:=20) λe=>(hq e).imp (λh=>⟨h.1.imp id λh=>by simp only[ε] at h;exact h.2,h.2⟩) id).bind' λ_ _ _=>Jh (pe:=str) (n:=20) h.str h.zero h.inj h.zD (λe=>?_) ex.2 ey.2);rcases hq e with h1|h1
  .exact h1.1.imp id .inr
  .exact .inr (.inl h1)
 |unOp op t x=>dsimp only;rw[(hx x (by simp[Op.operands])).1];exact eT Ml
 |convert a b x=>dsimp only;rw[(hx x (by simp[Op.operands])).1];exact eT (Da hop (hx x (by simp[Op.operands])).2)
 |makeInterface t x=>dsimp only;rw[(hx x (by simp[Op.operands])).1];exact eT (sa t _)
 |makeMap t r=>
  dsimp only;have:r.map ρ'=(r.map ρ).map (Value.ren π):=by
   cases r with
   |none=>rfl
   |some x=>simp[(hx x (by simp[Op.operands])).1]
  rw[this];exact eT (C5 t _)
 |makeSlice t x y=>dsimp only;rw[(hx x (by simp[Op.operands])).1,(hx y (by simp[Op.operands])).1];exact eT (zn hop _ _)
 |slice t x l hh m=>
  dsimp only;have ho:∀z:Option aa9,(∀y,z=some y->y∈(Op.slice t x l hh m).operands)->z.map ρ'=(z.map ρ).map (Value.ren π):=λz hz=>by
   cases z with
   |none=>rfl
   |some y=>simp[(hx y (hz y rfl)).1]
  rw[(hx x (by simp[Op.operands])).1,ho l (λy e=>by simp[Op.operands,e]),ho hh (λy e=>by simp[Op.operands,e]),ho m (λy e=>by simp[Op.operands,e])];refine eT (C3 t _ _ _ _ λe he=>?_);simp[ME,he] at hop
 |fieldAddr t x f=>dsimp only;rw[(hx x (by simp[Op.operands])).1];exact eT (C7 hop _)
 |field t x f=>dsimp only;rw[(hx x (by simp[Op.operands])).1];exact eT (Jd t _ f)
 |indexAddr t x y=>dsimp only;rw[(hx x (by simp[Op.operands])).1,(hx y (by simp[Op.operands])).1];exact eT (C6 t _ _)
 |index t x y=>dsimp only;rw[(hx x (by simp[Op.operands])).1,(hx y (by simp[Op.operands])).1];exact eT (Jc t _ _)
 |lookup t x y ok=>dsimp only;rw[(hx x (by simp[Op.operands])).1,(hx y (by simp[Op.operands])).1];exact eT (Fh hop _ _ ok)
 |mapUpdate t m k v=>dsimp only;rw[(hx m (by simp[Op.operands])).1,(hx k (by simp[Op.operands])).1,(hx v (by simp[Op.operands])).1];exact S8 (zm h.inj hop _ _ _)
 |range t x=>dsimp only;rw[(hx x (by simp[Op.operands])).1];exact eT (Jb _)
 |next x b=>cases b with
  |false=>cases hop
  |true=>dsimp only;rw[(hx x (by simp[Op.operands])).1];exact eT (LG _ _)
 |entry _=>cases hop
 |extract x i=>dsimp only;rw[(hx x (by simp[Op.operands])).1];exact eT (C8 _ i)
 |panic x=>exact .dead (Dead.bind _ (Gy _))
 |call c=>
  obtain⟨callee,IA,ats⟩:=c;have ha:IA.map ρ'=(IA.map ρ).map (Value.ren π):=by
   rw[Array.map_map];exact Array.map_congr_left λy hy=>(hx y (by simp[Op.operands,Call.operands,hy])).1
  have hav:∀v∈IA.map ρ,VV V v:=λv hv=>by
   obtain⟨y,hy,rfl⟩:=Array.mem_map.1 hv;exact(hx y (by simp[Op.operands,Call.operands,hy])).2
  simp only[ME,MG] at hop;dsimp only;unfold resolve;rw[ha];generalize IA.map ρ=vs at hav⊢;cases callee with
  |invoke r m=>simp at hop
  |builtin b=>
   dsimp only at hop;cases b<;>first|(exfalso;simp at hop;done)|skip
   case append=>exact eT (Fm hop)
   case cap=>exact eT PY
   case clear=>exact eT (Jf hop)
   case copy=>exact eT LI
   case len=>exact eT PX
   case min=>exact eT PW
   case unsafeSliceData=>exact eT (qg hav)
   case unsafeString=>exact eT (tN (h.str hop) hav)
  |value f=>
   cases f with
   |func f=>
    dsimp only at hop⊢;rw[(hf f).1,(hf f).2];have e1:∀ws:Array Φ,#[]++ws++#[]=ws:=λws=>by simp
    have:=Bg h (by simpa using hop) vs;show ba P π N V _ (callFunc f (#[]++vs++#[])) (callFunc f (#[]++vs.map (Value.ren π)++#[]));rw[e1,e1];exact this
   |_=>simp at hop
 |_=>simp[ME] at hop
end
section
variable {π:Nat->Nat}
theorem eZ:∀(v:Φ),(∀r,Value.Has r v->π r=r)->Value.ren π v=v
 |.bool _,_|.int _ _,_|.float _ _,_|.complex _ _ _,_|.string _,_|.nilFunc,_|.nilIface,_=>by simp
 |.pointer a,h=>by
  cases a with
  |none=>simp
  |some a=>simp[aZ,h a.block (.ptr rfl)]
 |.slice a n c,h=>by
  cases a with
  |none=>simp
  |some a=>simp[aZ,h a.block (.slice rfl)]
 |.map r,h=>by
  cases r with
  |none=>simp
  |some r=>simp[h r .map]
 |.chan r,h=>by
  cases r with
  |none=>simp
  |some r=>simp[h r .chan]
 |.iface t v,h=>by rw[cP,eZ v λr x=>h r (.iface x)]
 |.agg cs,h=>by rw[dl,cx λv hv=>eZ v λr x=>h r (.agg hv x)]
 |.tuple cs,h=>by rw[cO,cx λv hv=>eZ v λr x=>h r (.tuple hv x)]
 |.func fn f c,h=>by
  rw[de,cx λv hv=>eZ v λr x=>h r (.first hv x),cx λv hv=>eZ v λr x=>h r (.GS hv x)];cases fn with
  |yield l=>simp[oW,h l .yield]
  |_=>rfl
termination_by v=>SizeOf.sizeOf v
decreasing_by
 all_goals first
  |(simp_wf;have:=Array.sizeOf_lt_of_mem ‹_∈_›;omega)
  |(simp_wf;omega)
theorem pW {c:Array Φ}{f:Φ->Φ}(h:c.map f=c){x:Φ}(hx:x∈c):f x=x:=by
 obtain⟨i,hi,rfl⟩:=Array.mem_iff_getElem.1 hx;have:=congrArg (·[i]?) h;simp[hi] at this;exact this
theorem nJ {r:Nat}{v:Φ}(hr:Value.Has r v):Value.ren π v=v->π r=r:=by
 induction hr with
 |ptr h=>intro e;simp[aZ] at e;rw[<-h];exact congrArg Addr.block e
 |slice h=>intro e;simp[aZ] at e;rw[<-h];exact congrArg Addr.block e
 |map=>intro e;simpa using e
 |chan=>intro e;simpa using e
 |yield=>intro e;simp[oW] at e;exact e.1
 |first hx _ ih=>intro e;rw[de] at e;injection e with _ e1 _;exact ih (pW e1 hx)
 |GS hx _ ih=>intro e;rw[de] at e;injection e with _ _ e1;exact ih (pW e1 hx)
 |iface _ ih=>intro e;rw[cP] at e;injection e with _ e1;exact ih e1
 |agg hx _ ih=>intro e;rw[dl] at e;injection e with e1;exact ih (pW e1 hx)
 |tuple hx _ ih=>intro e;rw[cO] at e;injection e with e1;exact ih (pW e1 hx)
inductive kg (r:Nat):Obj->Prop
 |cells {c:Array Φ} {t:Γ} {f:Nat×Nat} {v:Φ} (hv:v∈c) (h:Value.Has r v):kg r (.cells c t f)
 |key {es:Array af3} {c:Nat} {e:af3} (he:e∈es) (h:Value.Has r e.key):kg r (.map es c)
 |val {es:Array af3} {c:Nat} {e:af3} (he:e∈es) (h:Value.Has r e.val):kg r (.map es c)
 |iter {a:Nat} {b:Array Nat} {c:Nat}:kg r (.mapIter (some r) a b c)
 |view {a:Addr} {t:Γ} (h:a.block=r):kg r (.view a t)
 |number {a:Addr} {l:Bool} (h:a.block=r):kg r (.number a l)
theorem oV {o:Obj}(h:∀r,kg r o->π r=r):dC π o=o:=by
 cases o with
 |cells c t f=>simp only[dC];rw[cx λv hv=>eZ v λr x=>h r (.cells hv x)]
 |map es c=>
  simp only[dC];have:es.map (mD π)=es:=by
   apply Array.ext
   .simp
   .intro i h1 h2
    rw[Array.getElem_map];unfold mD;rw[eZ _ λr x=>h r (.key (Array.getElem_mem _) x),eZ _ λr x=>h r (.val (Array.getElem_mem _) x)]
  rw[this]
 |mapIter m a b c=>cases m with
  |none=>rfl
  |some r=>simp[dC,h r .iter]
 |view a t=>simp[dC,aZ,h a.block (.view rfl)]
 |number a l=>simp[dC,aZ,h a.block (.number rfl)]
 |_=>rfl
theorem Gr {r:Nat}{o:Obj}(hr:kg r o)(h:dC π o=o):π r=r:=by
 cases hr with
 |cells hv x=>simp only[dC] at h;injection h with h1;exact nJ x (pW h1 hv)
 |key he x=>
  simp only[dC] at h;injection h with h1;obtain⟨i,hi,rfl⟩:=Array.mem_iff_getElem.1 he;have:=congrArg (·[i]?) h1;simp[hi] at this;exact nJ x (congrArg MapEntry.key this)
 |val he x=>
  simp only[dC] at h;injection h with h1;obtain⟨i,hi,rfl⟩:=Array.mem_iff_getElem.1 he;have:=congrArg (·[i]?) h1;simp[hi] at this;exact nJ x (congrArg MapEntry.val this)
 |iter=>simpa [dC] using h
 |view x=>simp[dC,aZ] at h;rw[<-x];exact congrArg Addr.block h
 |number x=>simp[dC,aZ] at h;rw[<-x];exact congrArg Addr.block h
theorem JX {o:Obj}{i:Nat}(h:inner o i):kg i o:=by
 cases o<;>first|exact h.elim|exact .view h.symm|exact .number h.symm
def sg (r M:Nat)(x:Nat):Nat:=if x=r then M else if M<=x then x+1 else x
theorem UN {r M:Nat}(hr:r<M):∀i j,sg r M i=sg r M j->i=j:=by
 intro i j h;unfold sg at h;split at h<;>split at h<;>(try split at h)<;>(try split at h)<;>omega
theorem UO {r M x:Nat}(h:x≠r)(hx:x<M):sg r M x=x:=by unfold sg;rw[ζ h,ζ (by omega)]
theorem P1 {r M:Nat}(hr:r<M):sg r M r≠r:=by unfold sg;rw[ξ rfl];omega
end
def hU (H:Nat->Prop)(wL:Θ)(r:Nat):Prop:=r<wL.heap.size/\¬H r
structure LW (H Z:Nat->Prop)(wL:Θ):Prop where
 ok:∀(b:Nat) (o:Obj),wL.heap[b]? =some o->¬H b->¬Z b->n6 o
 hid:∀(b:Nat) (o:Obj),wL.heap[b]? =some o->H b->o= .cells #[] 1000000 (0,0)
 ou:∀(b:Nat) (o:Obj),wL.heap[b]? =some o->Z b->∃c t,o= .cells c t (0,c.size)
 low:∀b,H b\/Z b->b<wL.heap.size
 apart:∀b,Z b->¬H b
 zero:hU H wL 0
 Sl:∀(b:Nat) (o:Obj),wL.heap[b]? =some o->¬H b->∀r,kg r o->hU H wL r
section
variable {P:χ}{π:Nat->Nat}{H Z:Nat->Prop}{wL w:Θ}
theorem LW.Ar (h:LW H Z wL):ei wL:=by
 intro b o hb
 by_cases hH:H b
 .rw[h.hid b o hb hH];trivial
 .by_cases hZ:Z b
  .obtain⟨c,t,rfl⟩:=h.ou b o hb hZ;trivial
  .exact h.ok b o hb hH hZ
theorem LW.az (h:LW H Z wL)(t:d7)(d:Nat):LW H Z (az wL t d):=⟨h.ok,h.hid,h.ou,h.low,h.apart,h.zero,h.Sl⟩
theorem LW.self (h:LW H Z wL){σ:Nat->Nat}(hi:∀i j,σ i=σ j->i=j)(hf:∀i,hU H wL i->σ i=i):WR σ H Z wL wL:=by
 have ob:∀(b:Nat) (o:Obj),wL.heap[b]? =some o->¬H b->σ b=b/\dC σ o=o:=λb o hb hH=>
  ⟨hf b ⟨(Ψ.1 hb).1,hH⟩,oV λr hr=>hf r (h.Sl b o hb hH r hr)⟩
 refine {inj:=hi,tape:=rfl,drawn:=rfl,lt:=λb hb hH=>by rw[hf b ⟨hb,hH⟩];exact hb,ok:=λb o hb hH hZ=>⟨h.ok b o hb hH hZ,?_⟩,hid:=h.hid,ou:=λb o hb hZ=>?_,low:=h.low,y5:=λb o hb i hin=>?_}
 .obtain⟨e1,e2⟩:=ob b o hb hH
  rw[e1,e2];exact hb
 .obtain⟨e1,e2⟩:=ob b o hb (h.apart b hZ)
  obtain⟨c,t,rfl⟩:=h.ou b o hb hZ;refine⟨c,t,(0,c.size),rfl,?_⟩;rw[e1];simp only[dC] at e2;injection e2 with e3;rw[e3];exact hb
 .by_cases hH:H b
  .rw[h.hid b o hb hH] at hin;exact hin.elim
  .exact h.Sl b o hb hH i (JX hin)
theorem vA {α:Type}{R:(Nat->Nat)->α->α->Prop}{s:Sem α}(TL:P.cellsOf 1000000=0)(h:LW H Z wL)
  (hs:∀σ:Nat->Nat,(∀i j,σ i=σ j->i=j)->(∀i,hU H wL i->σ i=i)->ba P σ (λb=>H b\/Z b) (hU H wL) (R σ) s s) {x:α} {bD:Θ} (hr:s.run P wL= .ok x bD):
  LW H Z bD/\wL.heap.size<=bD.heap.size/\∀r,¬hU H bD r->∃σ:Nat->Nat,σ r≠r/\R σ x x:=by
 have hsz:=(hs id (λ_ _ h=>h) (λ_ _=>rfl)).mP h.Ar (λb hb=>h.low b hb) hr;have Ga:∀i,hU H wL i->hU H bD i:=λi hi=>⟨ψ hi.1 hsz.1,hi.2⟩
 have key:∀σ:Nat->Nat,(∀i j,σ i=σ j->i=j)->(∀i,hU H bD i->σ i=i)->R σ x x/\WR σ H Z bD bD:=by
  intro σ hi hf;have hw:=h.self hi λi hv=>hf i (Ga i hv)
  obtain⟨x',w',es',g1,g2,g3,_,_⟩:=(hs σ hi λi hv=>hf i (Ga i hv)).run TL (λb=>Iff.rfl) hw (λi hv=>hv) hr (λi hlt=>hf _ ⟨hlt,λhH=>by have:=h.low _ (.inl hH);omega⟩) (es:=#[]);have g4:=congrArg Prod.fst g1;rw[Sem.runT_fst,hr] at g4;simp only[Result.ok.injEq] at g4;obtain⟨rfl,rfl⟩:=g4;exact⟨g2,g3⟩
 have mv:∀r,¬hU H bD r->∃σ:Nat->Nat,σ r≠r/\(∀i j,σ i=σ j->i=j)/\∀i,hU H bD i->σ i=i:=by
  intro r hr';refine⟨sg r (max (r+1) (bD.heap.size+1)),P1 (by omega),UN (by omega),λi hi=>UO (λe=>hr' (e▸hi)) (by have:=hi.1;omega)⟩
 have w0:=(key id (λ_ _ h=>h) (λ_ _=>rfl)).2;refine⟨⟨λb o hb hH hZ=>(w0.ok b o hb hH hZ).1,w0.hid,λb o hb hZ=>?_,w0.low,h.apart,Ga 0 h.zero,λb o hb hH r hr'=>ad2 λhv=>?_⟩,hsz.1,λr hv=>?_⟩
 .obtain⟨c,t,f,e,_⟩:=w0.ou b o hb hZ
  exact⟨c,t,e⟩
 .obtain⟨σ,m1,m2,m3⟩:=mv r hv
  have hb':σ b=b:=m3 b ⟨(Ψ.1 hb).1,hH⟩;have ws:=(key σ m2 m3).2;refine m1 (Gr hr' ?_)
  by_cases hZ:Z b
  .obtain⟨c,t,f,rfl,e⟩:=ws.ou b o hb hZ
   rw[hb',hb] at e;simp only[ae5,Obj.cells.injEq] at e;simp only[dC];rw[<-e.1]
  .have:=(ws.ok b o hb hH hZ).2
   rw[hb',hb] at this;exact(af0 this).symm
 .obtain⟨σ,m1,m2,m3⟩:=mv r hv
  exact⟨σ,m1,(key σ m2 m3).1⟩
end
abbrev j6:=List (Nat×Φ)
def sl (D:j6):List Nat:=D.map (·.1)
def i9 (σ:List Nat):aa9->Bool
 |.tmp t=>!σ.contains t
 |_=>true
def BB (σ:List Nat)(o:Oper):Bool:=match o.dst with|some t=>!σ.contains t|none=>true
def eM (σ:List Nat)(P:χ)(S E:ab9->Bool)(str:Bool)(o:Oper):Bool:=mF P S E str o&&(σ.isEmpty||(o.op.operands.all (i9 σ)&&BB σ o))
def eU (σ:List Nat)(P:χ)(S E:ab9->Bool)(str:Bool):Code->Bool
 |.skip|.exit _|.label _|.ret=>true
 |.region _ ops _=>ops.all (eM σ P S E str)
 |.seq a b=>eU σ P S E str a&&eU σ P S E str b
 |.cond c a b=>(n4 c&&i9 σ c)&&eU σ P S E str a&&eU σ P S E str b
 |.block _ b|.loop b|.scope b=>eU σ P S E str b
 |.goto _|.refuse _=>true
 |_=>false
def MH (σ:List Nat)(ops:Array Oper)(o:Oper):Bool:=σ.isEmpty||match o.guard with
 |none=>true
 |some g=>(ops[g.1]?).all (BB σ)
def ce (σ:List Nat)(P:χ)(S E:ab9->Bool)(str:Bool):Item->Bool
 |.code c|.inLoop c|.inScope c=>eU σ P S E str c
 |.inBlock _=>true
 |.inRegion ops todo=>todo.all λi=>(ops[i]?).all λo=>eM σ P S E str o&&MH σ ops o
 |_=>false
abbrev xL:=eU []
abbrev BA:=ce []
theorem pg {σ:List Nat}{P:χ}{S E:ab9->Bool}{str:Bool}{ops:Array Oper}{i:Nat}{rest:List Nat}{o:Oper}(h:ce σ P S E str (.inRegion ops (i::rest))=true)(ho:ops[i]? =some o):eM σ P S E str o=true:=by
 simp only[ce,List.all_cons,ε] at h;have:=h.1;rw[ho] at this;simp only[Option.all_some,ε] at this;exact this.1
theorem xK {σ:List Nat}{P:χ}{S E:ab9->Bool}{str:Bool}{ops:Array Oper}{i:Nat}{rest:List Nat}{o:Oper}(h:ce σ P S E str (.inRegion ops (i::rest))=true)(ho:ops[i]? =some o):MH σ ops o=true:=by
 simp only[ce,List.all_cons,ε] at h;have:=h.1;rw[ho] at this;simp only[Option.all_some,ε] at this;exact this.2
theorem jW {σ:List Nat}{P:χ}{S E:ab9->Bool}{str:Bool}{ops:Array Oper}{i:Nat}{rest:List Nat}(h:ce σ P S E str (.inRegion ops (i::rest))=true):ce σ P S E str (.inRegion ops rest)=true:=by
 simp only[ce,List.all_cons,ε] at h⊢;exact h.2
theorem qz {σ:List Nat}{P:χ}{S E:ab9->Bool}{str:Bool}{ops:Array Oper}{id:Nat}{d:Bool}(h:ce σ P S E str (.code (.region id ops d))=true)(l:List Nat):ce σ P S E str (.inRegion ops l)=true:=by
 have h:ops.all (eM σ P S E str)=true:=h;have h':=ae7.1 h;simp only[ce];refine ad7.2 λi _=>?_
 cases ho:ops[i]? with
 |none=>rfl
 |some o=>
  simp only[Option.all_some,ε];refine⟨h' o (Array.mem_of_getElem? ho),?_⟩;unfold MH
  by_cases e:σ.isEmpty=true
  .rw[e];rfl
  .cases o.guard with
   |none=>simp
   |some g=>
    simp only[Bool.or_eq_true];refine .inr ?_;cases hj:ops[g.1]? with
    |none=>rfl
    |some p=>
     have:=h' p (Array.mem_of_getElem? hj);simp only[eM,ε,Bool.or_eq_true] at this;exact(this.2.resolve_left e).2
structure Stat (P:χ)(S E:ab9->Bool)(str:Bool):Prop where
 zD:P.globals.size<=1
 uw:P.cellsOf 1000000=0
 body:∀f,S f=true->∃fn c,P.funcs[f]? =some fn/\(fn.name== "runtime.NumGoroutine")=false/\fn.body=some c/\xL P S E str c=true
 ext:∀f,E f=true->∀(π:Nat->Nat),(∀i j,π i=π j->i=j)->π 0=0->∀(N V:Nat->Prop) (args:Array Φ),ba P π N V (RN π S) (callFunc f args) (callFunc f (args.map (Value.ren π)))
def xJ (D:j6)(c:Array Φ):Array Φ:=D.foldl (λc p=>c.setIfInBounds p.1 p.2) c
def aT (π:Nat->Nat)(a:Act)(D:j6):Act:={tmps:=xJ D (a.tmps.map (Value.ren π)),defers:=[]}
theorem sG:∀(D:j6) (c:Array Φ) (t:Nat),t∉sl D->(xJ D c)[t]? =c[t]?
 |[],_,_,_=>rfl
 |p::D,c,t,h=>by
  have h1:t≠p.1:=λe=>h (by simp[sl,e])
  have h2:t∉sl D:=λe=>h (by simp only[sl,List.map_cons,ac5];exact .inr e)
  show(xJ D (c.setIfInBounds p.1 p.2))[t]? =_;rw[sG D _ t h2,aa0 (λe=>h1 e.symm)]
theorem Bx:∀(D:j6) (c:Array Φ) (t:Nat) (v:Φ),t∉sl D->(xJ D c).setIfInBounds t v=xJ D (c.setIfInBounds t v)
 |[],_,_,_,_=>rfl
 |p::D,c,t,v,h=>by
  have h1:t≠p.1:=λe=>h (by simp[sl,e])
  have h2:t∉sl D:=λe=>h (by simp only[sl,List.map_cons,ac5];exact .inr e)
  show(xJ D (c.setIfInBounds p.1 p.2)).setIfInBounds t v=xJ D ((c.setIfInBounds t v).setIfInBounds p.1 p.2);rw[Bx D _ t v h2,Array.setIfInBounds_comm _ _ (λe=>h1 e.symm)]
theorem Hu {σ:List Nat}{t:Nat}(h:i9 σ (.tmp t)=true):t∉σ:=by simpa [i9] using h
theorem bK {σ:List Nat}{o:Oper}(h:BB σ o=true):∀t,o.dst=some t->t∉σ:=λt e=>by
 unfold BB at h;rw[e] at h;simpa using h
theorem k9 {σ:List Nat}{P:χ}{S E:ab9->Bool}{str:Bool}{o:Oper}(h:eM σ P S E str o=true):mF P S E str o=true/\(∀x∈o.op.operands,i9 σ x=true)/\∀t,o.dst=some t->t∉σ:=by
 simp only[eM,ε,Bool.or_eq_true] at h;rcases h.2 with e|e
 .have:σ=[]:=by simpa using e
  subst this;exact⟨h.1,λx _=>by cases x<;>simp[i9],λt _=>by simp⟩
 .exact⟨h.1,ae7.1 e.1,bK e.2⟩
section
variable {P:χ}{S E:ab9->Bool}{str:Bool}{π:Nat->Nat}{H Z:Nat->Prop}{wL w:Θ}
theorem Stat.UM (hS:Stat P S E str)(hi:∀i j,π i=π j->i=j)(h0:π 0=0)(hz:str=true->∀b,¬Z b)(V:Nat->Prop)(hV:∀i,V i->¬H i):ZA P π (λb=>H b\/Z b) S E str V:=
 {inj:=hi,zero:=h0,zD:=hS.zD
  body:=λf hf=>by obtain⟨fn,c,h1,h2,h3,_⟩:=hS.body f hf;exact⟨fn,h1,h2,by rw[h3];rfl⟩
  ext:=λf hf args V=>hS.ext f hf π hi h0 _ V args
  str:=λhs r hr hn=>hn.elim (hV r hr) (hz hs r)}
theorem jY (c:Array Φ)(i:Nat):(c.map (Value.ren π)).getD i undef=Value.ren π (c.getD i undef):=by
 simp only[ac4,af1];cases c[i]? <;>simp[undef]
theorem lz (a:Act)(D:j6){x:aa9}(hx:n4 x=true)(ho:i9 (sl D) x=true:=by rfl):(aT π a D).eval x=Value.ren π (a.eval x):=by
 cases x with
 |tmp t=>
  show(xJ D (a.tmps.map (Value.ren π))).getD t undef=_;rw[ac4,sG D _ t (Hu ho),<-ac4];exact jY _ _
 |const v=>exact(eE hx).symm
 |global g=>cases hx
 |func f=>simp[Act.eval,oW]
theorem NC:∀{n:Nat} {v:Φ},jm n v=true->∀r,¬Value.Has r v:=by
 intro n v h r hr;have:=nJ (π:=λx=>x+1) hr (eE h);omega
theorem l9 {V:Nat->Prop}{a:Act}(ha:∀v∈a.tmps,VV V v){x:aa9}(hx:n4 x=true):VV V (a.eval x):=by
 cases x with
 |tmp t=>
  show VV V (a.tmps.getD t undef);rw[ac4];cases h:a.tmps[t]? with
  |none=>intro r hr;cases hr with|tuple hx _=>simp[undef] at hx
  |some v=>exact ha v (Array.mem_of_getElem? h)
 |const v=>exactλr hr=>absurd hr (NC hx r)
 |global g=>cases hx
 |func f=>intro r hr;cases hr<;>simp_all
theorem gU (a:Act)(D:j6)(d:Option Tmp)(v:Φ)(hd:∀t,d=some t->t∉sl D:=by intro _ _ h;cases h):(aT π a D).put d (Value.ren π v)=aT π (a.put d v) D:=by
 cases d with
 |none=>rfl
 |some t=>
  simp only[Act.put,aT];rw[Bx D _ t _ (hd t rfl),Array.map_setIfInBounds]
theorem iZ {V:Nat->Prop}{a:Act}(ha:∀v∈a.tmps,VV V v){d:Option Tmp}{v:Φ}(hv:VV V v):∀u∈(a.put d v).tmps,VV V u:=by
 cases d with
 |none=>exact ha
 |some d=>
  intro u hu;simp only[Act.put] at hu;rcases Array.mem_or_eq_of_mem_setIfInBounds hu with h|h
  .exact ha u h
  .rw[h];exact hv
theorem ij {V:Nat->Prop}:VV V undef:=by intro r hr;cases hr with|tuple hx _=>simp at hx
theorem uC (ops:Array Oper)(c:Array Φ):yielded ops (c.map (Value.ren π))=yielded ops c:=by
 funext j
 unfold yielded;cases (ops[j]?).bind (·.dst) with
 |none=>rfl
 |some t=>
  simp only[Option.bind_some,af1];cases c[t]? with
  |none=>rfl
  |some v=>cases v<;>simp
theorem wK {ops:Array Oper}{c:Array Φ}{D:j6}{o:Oper}(h:MH (sl D) ops o=true):Region.wanted o (yielded ops (xJ D (c.map (Value.ren π))))=Region.wanted o (yielded ops c):=by
 unfold MH at h;simp only[Bool.or_eq_true] at h;rcases h with h|h
 .cases D with
  |nil=>rw[show xJ [] (c.map (Value.ren π))=c.map (Value.ren π) from rfl,uC]
  |cons p D=>simp[sl] at h
 .unfold Region.wanted
  cases hg:o.guard with
  |none=>rfl
  |some g=>
   rw[hg] at h;simp only at h⊢;have e:yielded ops (xJ D (c.map (Value.ren π))) g.1=yielded ops c g.1:=by
    rw[<-uC (π:=π) ops c];unfold yielded;cases ho:ops[g.1]? with
    |none=>rfl
    |some p=>
     rw[ho] at h;simp only[Option.bind_some];cases hd:p.dst with
     |none=>rfl
     |some t=>
      simp only[Option.bind_some];rw[sG D _ t (bK (by simpa using h) t hd)]
   rw[e]
theorem nV (hS:Stat P S E str)(hi:∀i j,π i=π j->i=j)(h0:π 0=0)(hz:str=true->∀b,¬Z b)(hl:LW H Z wL)(hw:WR π H Z wL w){a:Act}(D:j6)(ha:∀v∈a.tmps,VV (hU H wL) v){o:Oper}(ho':eM (sl D) P S E str o=true)
  {x:Next} {bD:Θ} (hr:(execOp a.eval o).run P wL= .ok x bD) (hag:∀i,wL.heap.size+i<bD.heap.size->π (wL.heap.size+i)=w.heap.size+i):
  LW H Z bD/\wL.heap.size<=bD.heap.size/\∃x' w',(execOp (aT π a D).eval o).run P w= .ok x' w'/\RN π S x x'/\WR π H Z bD w'/\Cp π H Z wL bD w w'/\(∀e∈(execOp (aT π a D).eval o).events P w #[],pK π H Z bD.heap.size e)/\
   (match x with|.value v=>VV (hU H bD) v|.enter f ae=>(∀v∈ae,VV (hU H bD) v)|_=>True):=by
 obtain⟨ho,hoff,_⟩:=k9 ho';have sim:∀(π:Nat->Nat) (D:j6),(∀x∈o.op.operands,i9 (sl D) x=true)->(∀i j,π i=π j->i=j)->π 0=0->ba P π (λb=>H b\/Z b) (hU H wL) (RN π S) (execOp a.eval o) (execOp (aT π a D).eval o):=λπ D hoff hi h0=>
  qV (hS.UM hi h0 hz _ λi hv=>hv.2) ho (λx hm hx=>⟨lz a D hx (hoff x hm),l9 ha hx⟩) (λf=>⟨rfl,rfl⟩) (λv=>rfl)
 have self:=vA (R:=λσ=>RN σ S) hS.uw hl (λσ hi hf=>by
  have e:aT σ a []={a with defers:=[]}:=by
   unfold aT;rw[show xJ [] (a.tmps.map (Value.ren σ))=a.tmps.map (Value.ren σ) from rfl,cx λv hv=>eZ v λr hr=>hf r (ha v hv r hr)]
  have:=sim σ [] (λx _=>by cases x<;>rfl) hi (hf 0 hl.zero);rw[e] at this;exact this) hr
 obtain⟨l1,l2,l3⟩:=self;obtain⟨x',w',es',g1,g2,g3,g4,g5⟩:=(sim π D hoff hi h0).run hS.uw (λb=>Iff.rfl) hw (λi hv=>hv) hr hag (es:=#[]);refine⟨l1,l2,x',w',?_,g2,g3,g4,λe he=>?_,?_⟩
 .rw[<-Sem.runT_fst P _ w #[],g1]
 .have:(execOp (aT π a D).eval o).events P w #[]=es':=congrArg Prod.snd g1
  rw[this] at he;exact(g5 e he).resolve_left (by simp)
 .cases x with
  |value v=>
   intro r hr';refine ad2 λhv=>?_
   obtain⟨σ,m1,m2⟩:=l3 r hv;simp only[RN,Next.value.injEq] at m2;exact m1 (nJ hr' m2.symm)
  |enter f ae=>
   intro v hv r hr';refine ad2 λhv'=>?_
   obtain⟨σ,m1,m2⟩:=l3 r hv';simp only[RN,Next.enter.injEq,true_and] at m2;exact m1 (nJ hr' (pW m2.1.symm hv))
  |_=>trivial
theorem C4 {N V:Nat->Prop}{α:Type}{f f':α->Sem Φ}(hf:∀x,ba P π N V (RV π) (f x) (f' x)):∀l:List α,ba P π N V (λa b=>b=a.map (Value.ren π)) (l.mapM f) (l.mapM f')
 |[]=>by simp only[List.mapM_nil];exact au rfl
 |x::l=>by
  simp only[List.mapM_cons];refine(hf x).bind' λv v' h=>?_
  rw[show v'=_ from h];refine(C4 hf l).bind' λc c' h=>?_
  subst h;exact au (by simp)
theorem lK {N V:Nat->Prop}(fn:Func)(c:Array Φ):ba P π N V (RV π) (results fn c) (results fn (c.map (Value.ren π))):=by
 unfold results;rw[Array.mapM_eq_mapM_toList,Array.mapM_eq_mapM_toList,map_eq_pure_bind,map_eq_pure_bind];simp only[bind_assoc,pure_bind];refine(C4 (λr=>?_) _).bind' λvs vs' h=>?_
 .cases r with
  |tmp t=>dsimp only;rw[jY];exact au rfl
  |cell a t=>
   dsimp only;rw[jY];cases c.getD a undef with
   |pointer p=>cases p with
    |none=>exact .dead (Dead.bind (s:=asAddr (.pointer none)) _ (dG .nilDeref))
    |some p=>simp only[aU,ω];exact uN t p
   |_=>exact .dead (Dead.bind _ (Dead.halt trivial))
 .subst h
  refine au ?_
  match vs with
  |[]=>simp[RV]
  |[v]=>simp[RV]
  |_::_::_=>simp[RV]
theorem nU (hS:Stat P S E str)(hi:∀i j,π i=π j->i=j)(hl:LW H Z wL)(hw:WR π H Z wL w){c:Array Φ}(hc:∀v∈c,VV (hU H wL) v)(fn:Func)
  {x:Φ} {bD:Θ} (hr:(results fn c).run P wL= .ok x bD) (hag:∀i,wL.heap.size+i<bD.heap.size->π (wL.heap.size+i)=w.heap.size+i):
  LW H Z bD/\wL.heap.size<=bD.heap.size/\∃w',(results fn (c.map (Value.ren π))).run P w= .ok (Value.ren π x) w'/\WR π H Z bD w'/\Cp π H Z wL bD w w'/\(∀e∈(results fn (c.map (Value.ren π))).events P w #[],pK π H Z bD.heap.size e)/\VV (hU H bD) x:=by
 have self:=vA (R:=λσ=>RV σ) hS.uw hl (λσ hi hf=>by
  have e:c.map (Value.ren σ)=c:=cx λv hv=>eZ v λr hr=>hf r (hc v hv r hr)
  have:=lK (P:=P) (π:=σ) (N:=λb=>H b\/Z b) (V:=hU H wL) fn c;rw[e] at this;exact this) hr
 obtain⟨l1,l2,l3⟩:=self;obtain⟨x',w',es',g1,g2,g3,g4,g5⟩:=(lK (P:=P) (π:=π) (N:=λb=>H b\/Z b) (V:=hU H wL) fn c).run hS.uw (λb=>Iff.rfl) hw (λi hv=>hv) hr hag (es:=#[]);have g2':x'=Value.ren π x:=g2;subst g2';refine⟨l1,l2,w',?_,g3,g4,λe he=>?_,?_⟩
 .rw[<-Sem.runT_fst P _ w #[],g1]
 .have:(results fn (c.map (Value.ren π))).events P w #[]=es':=congrArg Prod.snd g1
  rw[this] at he;exact(g5 e he).resolve_left (by simp)
 .intro r hr'
  refine ad2 λhv=>?_
  obtain⟨σ,m1,m2⟩:=l3 r hv;exact m1 (nJ hr' (show x=_ from m2).symm)
end
structure Ctx where
 f0:ab9
 gf:κ
 B:κ
 D0:j6
 CS:List κ
 Tl:List Item->List Item->Prop
 fn:B.fn=f0
 kind:B.kind≠.early
 stop:∀x y,Tl x y->∃l r,x= .inRangeFunc l::r
 exit:∀x y id x',Tl x y->exitTo id x=some x'->∃y',exitTo id y=some y'/\Tl x' y'
 bare:∀x y l,Tl x y->gotoIn l x=none
section
variable (P:χ)(S E:ab9->Bool)(str:Bool)(π:Nat->Nat)(c:Ctx)
inductive rH (V:Nat->Prop):ab9->Act->List Item->List Item->List κ->κ->j6->List Item->List κ->Prop
 |bot {a:Act} {t x y:List Item} (ht:∀it∈t,ce (sl c.D0) P S E str it=true) (ha:∀v∈a.tmps,VV V v) (hd:a.defers=[]) (hxy:c.Tl x y):rH V c.f0 a t x [c.gf] c.B c.D0 y c.CS
 |up {f f1:ab9} {a a1:Act} {t t1 x1 y1:List Item} {ops:Array Oper} {i:Nat} {rest:List Nat} {cs1 Kw:List κ} {B1:κ} {D1:j6} (hf:S f=true)
   (ht:∀it∈t,BA P S E str it=true) (ha:∀v∈a.tmps,VV V v) (hd:a.defers=[]) (hs:rH V f1 a1 (.inRegion ops (i::rest)::t1) x1 cs1 B1 D1 y1 Kw):
   rH V f a t [] ((base f1).at a1 (.inRegion ops (i::rest)::(t1++x1))::cs1) (base f) [] [] (B1.at (aT π a1 D1) (.inRegion ops (i::rest)::(t1++y1))::Kw)
inductive ie (H:Nat->Prop)(wL:Θ):Ω->Ω->Prop
 |run {f:ab9} {a:Act} {t x:List Item} {cs:List κ} {B:κ} {D:j6} {y:List Item} {cs':List κ} (h:rH P S E str π c (hU H wL) f a t x cs B D y cs'):
   ie H wL (G ((base f).at a (t++x)) cs) (G (B.at (aT π a D) (t++y)) cs')
 |ret {f:ab9} {a:Act} {t x:List Item} {cs:List κ} {B:κ} {D:j6} {y:List Item} {cs':List κ} {todo todo':List Item} (h:rH P S E str π c (hU H wL) f a t x cs B D y cs'):
   ie H wL (G {(base f).at a todo with mode:= .returning} cs) (G {B.at (aT π a D) todo' with mode:= .returning} cs')
end
section
variable {σ:List Nat}{P:χ}{S E:ab9->Bool}{str:Bool}{π:Nat->Nat}{c:Ctx}{H Z:Nat->Prop}{wL w:Θ}
theorem rH.mono {V V':Nat->Prop}(hV:∀i,V i->V' i){f:ab9}{a:Act}{t x:List Item}{cs:List κ}{B:κ}{D:j6}{y:List Item}{cs':List κ}(h:rH P S E str π c V f a t x cs B D y cs'):rH P S E str π c V' f a t x cs B D y cs':=by
 induction h with
 |bot ht ha hd hxy=>exact .bot ht (λv hv=>(ha v hv).weak hV) hd hxy
 |up hf ht ha hd _ ih=>exact .up hf ht (λv hv=>(ha v hv).weak hV) hd ih
theorem rH.base {V:Nat->Prop}{f:ab9}{a:Act}{t x:List Item}{cs:List κ}{B:κ}{D:j6}{y:List Item}{cs':List κ}(h:rH P S E str π c V f a t x cs B D y cs'):
  B.fn=f/\B.kind≠.early/\a.defers=[]/\(∀it∈t,ce (sl D) P S E str it=true)/\(∀v∈a.tmps,VV V v):=by
 cases h with
 |bot ht ha hd hxy=>exact⟨c.fn,c.kind,hd,ht,ha⟩
 |up hf ht ha hd _=>exact⟨rfl,by simp[Go.Conc.base],hd,ht,ha⟩
theorem rH.top {V:Nat->Prop}{f:ab9}{a:Act}{t x:List Item}{cs:List κ}{B:κ}{D:j6}{y:List Item}{cs':List κ}(h:rH P S E str π c V f a t x cs B D y cs')
  {a':Act} {t':List Item} (ht:∀it∈t',ce (sl D) P S E str it=true) (ha:∀v∈a'.tmps,VV V v) (hd:a'.defers=[]):rH P S E str π c V f a' t' x cs B D y cs':=by
 cases h with
 |bot _ _ _ hxy=>exact .bot ht ha hd hxy
 |up hf _ _ _ hs=>exact .up hf ht ha hd hs
theorem jO {id:Nat}:∀(t k:List Item),exitTo id (t++k)=match exitTo id t with|some t'=>some (t'++k)|none=>exitTo id k
 |[],k=>rfl
 |it::t,k=>by
  cases it<;>simp only[List.cons_append,exitTo]<;>first|exact jO t k|skip
  split
  .rfl
  .exact jO t k
theorem rv {id:Nat}:∀{t t':List Item},exitTo id t=some t'->∀it∈t',it∈t
 |[],_,h=>by simp[exitTo] at h
 |it::t,t',h=>by
  intro x hx;cases it<;>simp only[exitTo] at h<;>first|exact ah3 _ (rv h x hx)|skip
  split at h
  .cases h;exact ah3 _ hx
  .exact ah3 _ (rv h x hx)
theorem nL {l:Nat}:∀{b r:Code},eU σ P S E str b=true->findLabel b l=some r->eU σ P S E str r=true
 |.seq x y,r,h,hf=>by
  simp only[eU,ε] at h;simp only[findLabel] at hf;cases hx:findLabel x l with
  |none=>rw[hx] at hf;exact nL h.2 hf
  |some rest=>
   rw[hx] at hf;cases hf;simp only[eU,ε];exact⟨nL h.1 hx,h.2⟩
 |.label l',r,_,hf=>by
  simp only[findLabel] at hf;split at hf
  .cases hf;rfl
  .cases hf
 |.skip,_,_,hf|.region _ _ _,_,_,hf|.cond _ _ _,_,_,hf|.block _ _,_,_,hf|.loop _,_,_,hf|.rangeFunc _ _ _ _,_,_,hf|.exit _,_,_,hf|.scope _,_,_,hf|.goto _,_,_,hf|.ret,_,_,hf|.refuse _,_,_,hf=>by simp[findLabel] at hf
theorem qE {l:Nat}:∀(t k:List Item),(∀it∈t,ce σ P S E str it=true)->(∃t2,(∀it∈t2,ce σ P S E str it=true)/\∀k,gotoIn l (t++k)=some (t2++k))\/∀k,gotoIn l (t++k)=gotoIn l k
 |[],k,_=> .inr λ_=>rfl
 |it::t,k,h=>by
  have ih:=qE (l:=l) t k λx hx=>h x (by simp[hx])
  cases it with
  |inScope body=>
   cases hf:findLabel body l with
   |some r=>
    have hb:eU σ P S E str body=true:=h (.inScope body) (by simp);refine .inl ⟨.code r::.inScope body::t,λx hx=>?_,λk=>by simp[gotoIn,hf]⟩;simp only[ac5] at hx;rcases hx with rfl|rfl|hx
    .exact nL hb hf
    .exact hb
    .exact h x (by simp[hx])
   |none=>
    rcases ih with⟨t2,h1,h2⟩|h2
    .exact .inl ⟨t2,h1,λk=>by simp only[List.cons_append,gotoIn,hf];exact h2 k⟩
    .exact .inr λk=>by simp only[List.cons_append,gotoIn,hf];exact h2 k
  |_=>
   rcases ih with⟨t2,h1,h2⟩|h2
   .exact .inl ⟨t2,h1,λk=>by simp only[List.cons_append,gotoIn];exact h2 k⟩
   .exact .inr λk=>by simp only[List.cons_append,gotoIn];exact h2 k
theorem oD {main:Bool}{b:κ}{a:Act}{k:List Item}{cs:List κ}{p:Code}:stepG P main (G (b.at a (.code (.scope p)::k)) cs) w= .go (G (b.at a (.code p::.inScope p::k)) cs) w:=by simp[G,stepG,stepG.exec,Frame.at]
theorem mq {main:Bool}{b:κ}{a:Act}{k:List Item}{cs:List κ}{p:Code}:stepG P main (G (b.at a (.inScope p::k)) cs) w= .go (G (b.at a k) cs) w:=by simp[G,stepG,stepG.exec,Frame.at]
theorem qR {main:Bool}{b:κ}{a:Act}{k k':List Item}{cs:List κ}{l:Nat}(h:gotoIn l k=some k'):stepG P main (G (b.at a (.code (.goto l)::k)) cs) w= .go (G (b.at a k') cs) w:=by simp[G,stepG,stepG.exec,Frame.at,h]
def Res (P:χ)(S E:ab9->Bool)(str:Bool)(π:Nat->Nat)(c:Ctx)(main:Bool)(H Z:Nat->Prop)(wL w:Θ)(g pY:Ω)(bD:Θ):Prop:=
 ∃g' w' es',stepG P main g w= .go g' w' es'/\ie P S E str π c H bD pY g'/\LW H Z bD/\wL.heap.size<=bD.heap.size/\WR π H Z bD w'/\Cp π H Z wL bD w w'/\∀e∈es',pK π H Z bD.heap.size e
theorem cE {main:Bool}{g g' pY:Ω}(hl:LW H Z wL)(hw:WR π H Z wL w)(h:stepG P main g w= .go g' w)(hr:ie P S E str π c H wL pY g'):Res P S E str π c main H Z wL w g pY wL:=
 ⟨g',w,#[],h,hr,hl,ι _,hw,Cp.refl _ _ _ _ _,by simp⟩
theorem all_cons {it:Item}{t:List Item}(h:∀x∈it::t,ce σ P S E str x=true):ce σ P S E str it=true/\∀x∈t,ce σ P S E str x=true:=⟨h it (by simp),λx hx=>h x (by simp[hx])⟩
theorem dM {it:Item}{t:List Item}(h1:ce σ P S E str it=true)(h:∀x∈t,ce σ P S E str x=true):∀x∈it::t,ce σ P S E str x=true:=by
 intro x hx;rcases ac5.1 hx with rfl|hx
 .exact h1
 .exact h x hx
theorem put_defers (a:Act)(d:Option Tmp)(v:Φ):(a.put d v).defers=a.defers:=by cases d<;>rfl
theorem PK (hS:Stat P S E str)(hi:∀i j,π i=π j->i=j)(h0:π 0=0)(hz:str=true->∀b,¬Z b)(hl:LW H Z wL)(hw:WR π H Z wL w){main:Bool}
  {f:ab9} {a:Act} {t x y:List Item} {cs cs':List κ} {B:κ} {D:j6} {ops:Array Oper} {i:Nat} {rest:List Nat} (h:rH P S E str π c (hU H wL) f a (.inRegion ops (i::rest)::t) x cs B D y cs')
  {pY:Ω} {bD:Θ} {es:Array Event} (hs:stepG P true (G ((base f).at a (.inRegion ops (i::rest)::(t++x))) cs) wL= .go pY bD es) (hn:qj pY)
  (hag:∀i,wL.heap.size+i<bD.heap.size->π (wL.heap.size+i)=w.heap.size+i):Res P S E str π c main H Z wL w (G (B.at (aT π a D) (.inRegion ops (i::rest)::(t++y))) cs') pY bD:=by
 obtain⟨hB,hk,hd,ht,ha⟩:=h.base;obtain⟨hops,ht'⟩:=all_cons ht;cases ho:ops[i]? with
 |none=>
  simp[G,stepG,stepG.exec,Frame.at,ho] at hs;obtain⟨rfl,rfl,rfl⟩:=hs;refine cE (g':=G (B.at (aT π a D) (.inRegion ops rest::(t++y))) cs') hl hw ?_ ?_
  .simp[G,stepG,stepG.exec,Frame.at,ho,Frame.finish,aT]
  .have:=ie.run (P:=P) (S:=S) (E:=E) (str:=str) (π:=π) (c:=c) (H:=H) (wL:=wL) (h.top (t':= .inRegion ops rest::t) (a':=a) (dM (jW hops) ht') ha hd)
   simpa [G,Frame.at,Frame.finish,ho] using this
 |some o=>
  have tG:eM (sl D) P S E str o=true:=pg hops ho;obtain⟨hok1,hoff,hdst⟩:=k9 tG;cases hwd:Region.wanted o (yielded ops a.tmps) with
  |false=>
   rw[stepG_unwanted ho hwd] at hs;cases hs;refine cE hl hw (stepG_unwanted ho (by rw[show(aT π a D).tmps=xJ D (a.tmps.map (Value.ren π)) from rfl,wK (xK hops ho)];exact hwd)) ?_;have e:(aT π a D).put o.dst undef=aT π (a.put o.dst undef) D:=by
    have:=gU (π:=π) a D o.dst undef hdst
    rwa [show Value.ren π undef=undef by simp[undef]] at this
   rw[e];exact ie.run (t:= .inRegion ops rest::t) (h.top (dM (jW hops) ht') (iZ ha ij) ((put_defers _ _ _).trans hd))
  |true=>
   have XN:Region.wanted o (yielded ops (aT π a D).tmps)=true:=by rw[show(aT π a D).tmps=xJ D (a.tmps.map (Value.ren π)) from rfl,wK (xK hops ho)];exact hwd
   have hka:(base f).kind≠.early:=by simp[base]
   cases hr:(execOp a.eval o).run P wL with
   |halt hh u=>
    exfalso;have hok:lg hh:=by
     have D9:ba P id (λb=>H b\/Z b) (hU H wL) (RN id S) (execOp a.eval o) (execOp (aT id a D).eval o):=
      qV (hS.UM (λ_ _ h=>h) rfl hz _ λi hv=>hv.2) hok1 (λx hm hx=>⟨lz a D hx (hoff x hm),l9 ha hx⟩) (λf=>⟨rfl,rfl⟩) (λv=>rfl)
     exact D9.TJ hl.Ar (λb hb=>hl.low b hb) hr
    rw[stepG_oper ho hwd] at hs;have hk2:(CallKind.normal==CallKind.early)=false:=rfl;cases hh with
    |panic v=>
     simp[stepG.apply,hr,Frame.at,GStep.after] at hs;obtain⟨rfl,_⟩:=hs;exact hn.calm _ rfl
    |stuck m=>simp[stepG.apply,hr,Frame.at,GStep.after] at hs
    |unsupported u=>cases u<;>first|exact hok.elim|(simp[stepG.apply,hr,Frame.at,GStep.after] at hs;done)
    |_=>exact hok.elim
   |ok nx u=>
    have hstep:∃nx',nx=nx':=⟨nx,rfl⟩
    cases nx with
    |value v=>
     rw[stepG_value ho hwd hka hr] at hs;cases hs;obtain⟨l1,l2,x',w',e1,e2,e3,e4,e5,e6⟩:=nV hS hi h0 hz hl hw D ha tG hr hag;cases e2;refine⟨_,w',_,stepG_value ho XN hk e1,?_,l1,l2,e3,e4,λe he=>e5 e (mem_listed he)⟩;rw[gU _ _ _ _ hdst];have hm:∀i,hU H wL i->hU H bD i:=λi hv=>⟨ψ hv.1 l2,hv.2⟩
     exact ie.run (t:= .inRegion ops rest::t) ((h.mono hm).top (dM (jW hops) ht') (iZ (λv hv=>(ha v hv).weak hm) e6) ((put_defers _ _ _).trans hd))
    |skip=>
     rw[stepG_none ho hwd hka hr] at hs;cases hs;obtain⟨l1,l2,x',w',e1,e2,e3,e4,e5,e6⟩:=nV hS hi h0 hz hl hw D ha tG hr hag;cases e2;refine⟨_,w',_,stepG_none ho XN hk e1,?_,l1,l2,e3,e4,λe he=>e5 e (mem_listed he)⟩;have e:(aT π a D).put o.dst undef=aT π (a.put o.dst undef) D:=by
      have:=gU (π:=π) a D o.dst undef hdst
      rwa [show Value.ren π undef=undef by simp[undef]] at this
     rw[e];have hm:∀i,hU H wL i->hU H bD i:=λi hv=>⟨ψ hv.1 l2,hv.2⟩
     exact ie.run (t:= .inRegion ops rest::t) ((h.mono hm).top (dM (jW hops) ht') (iZ (λv hv=>(ha v hv).weak hm) ij) ((put_defers _ _ _).trans hd))
    |enter f2 ae=>
     rw[stepG_enter ho hwd hka hr] at hs;cases hs;obtain⟨l1,l2,x',w',e1,e2,e3,e4,e5,e6⟩:=nV hS hi h0 hz hl hw D ha tG hr hag;obtain⟨rfl,hSf⟩:=e2;obtain⟨fn,cd,b1,b2,b3,b4⟩:=hS.body f2 hSf;refine⟨_,w',_,stepG_enter ho XN hk e1,?_,l1,l2,e3,e4,λe he=>e5 e (mem_listed he)⟩;have hm:∀i,hU H wL i->hU H bD i:=λi hv=>⟨ψ hv.1 l2,hv.2⟩
     have hst:=rH.up (f:=f2) (a:={tmps:=ae++Array.replicate (fn.ntmps-ae.size) undef,defers:=[]}) (t:=[.code cd]) hSf (λit hit=>by simp at hit;subst hit;exact b4)
      (λv hv=>by
       rcases af6.1 hv with hv|hv
       .exact e6 v hv
       .rw[(Array.mem_replicate.1 hv).2];exact ij) rfl (h.mono hm)
     have:=ie.run hst;rw[enter_at _ b1 b3,enter_at _ b1 b3];have er:aT π {tmps:=ae++Array.replicate (fn.ntmps-ae.size) undef,defers:=[]} []={tmps:=ae.map (Value.ren π)++Array.replicate (fn.ntmps-(ae.map (Value.ren π)).size) undef,defers:=[]}:=by
      simp[aT,xJ,undef]
     rw[er] at this;exact this
    |_=>
     exfalso;have:=nV hS (λ_ _ h=>h) rfl hz hl (hl.self (σ:=id) (λ_ _ h=>h) λ_ _=>rfl) D ha tG hr (λi _=>rfl);obtain⟨_,_,x',w',_,e2,_⟩:=this;exact e2.elim
theorem WR.draw (hw:WR π H Z wL w):WR π H Z {wL with drawn:=wL.drawn+1} {w with drawn:=w.drawn+1}:=
 {inj:=hw.inj,tape:=hw.tape,drawn:=by show w.drawn+1=wL.drawn+1;rw[hw.drawn],lt:=hw.lt,ok:=hw.ok,hid:=hw.hid,ou:=hw.ou,low:=hw.low,y5:=hw.y5}
theorem LW.draw (hl:LW H Z wL):LW H Z {wL with drawn:=wL.drawn+1}:=⟨hl.ok,hl.hid,hl.ou,hl.low,hl.apart,hl.zero,hl.Sl⟩
theorem CR (hS:Stat P S E str)(hi:∀i j,π i=π j->i=j)(h0:π 0=0)(hz:str=true->∀b,¬Z b)(hl:LW H Z wL)(hw:WR π H Z wL w){main:Bool}
  {f:ab9} {a:Act} {t x y:List Item} {cs cs':List κ} {B:κ} {D:j6} (h:rH P S E str π c (hU H wL) f a t x cs B D y cs')
  {pY:Ω} {bD:Θ} {es:Array Event} (hs:stepG P true (G ((base f).at a (t++x)) cs) wL= .go pY bD es) (hn:qj pY)
  (hag:∀i,wL.heap.size+i<bD.heap.size->π (wL.heap.size+i)=w.heap.size+i):Res P S E str π c main H Z wL w (G (B.at (aT π a D) (t++y)) cs') pY bD:=by
 obtain⟨hB,hk,hd,ht,ha⟩:=h.base;cases t with
 |nil=>
  cases h with
  |bot _ _ _ hxy=>
   obtain⟨why,r,rfl⟩:=c.stop _ _ hxy;simp[G,stepG,stepG.exec,Frame.at] at hs
  |up hf _ _ _ hst=>
   simp only[List.nil_append] at hs⊢;rw[stepG_end] at hs;cases hs;exact cE hl hw stepG_end (ie.ret (.up hf ht ha hd hst))
 |cons it t=>
  obtain⟨h1,ht'⟩:=all_cons ht;simp only[List.cons_append] at hs⊢;cases it with
  |code cd=>
   cases cd with
   |skip=>rw[stepG_skip] at hs;cases hs;exact cE hl hw stepG_skip (.run (h.top ht' ha hd))
   |label l=>rw[stepG_label] at hs;cases hs;exact cE hl hw stepG_label (.run (h.top ht' ha hd))
   |ret=>rw[stepG_ret'] at hs;cases hs;exact cE hl hw stepG_ret' (.ret h)
   |seq p q=>
    simp only[ce,eU,ε] at h1;rw[stepG_seq] at hs;cases hs;exact cE hl hw stepG_seq (ie.run (t:= .code p::.code q::t) (h.top (dM h1.1 (dM h1.2 ht')) ha hd))
   |cond o p q=>
    simp only[ce,eU,ε] at h1;have hev:=lz (π:=π) a D h1.1.1.1 h1.1.1.2;cases hb:a.eval o with
    |bool b=>
     rw[hb,dL] at hev;rw[stepG_cond hb] at hs;cases hs;exact cE hl hw (stepG_cond hev) (ie.run (t:= .code (if b then p else q)::t) (h.top (dM (by cases b;exact h1.2;exact h1.1.2) ht') ha hd))
    |_=>
     exfalso;have he:=Frame.eval_at (base f) a (.code (.cond o p q)::(t++x)) o;simp only[Frame.at] at he;simp[G,stepG,stepG.exec,Frame.at,he,hb] at hs
   |block id p=>rw[stepG_block] at hs;cases hs;exact cE hl hw stepG_block (ie.run (t:= .code p::.inBlock id::t) (h.top (dM h1 (dM rfl ht')) ha hd))
   |loop p=>rw[stepG_loop] at hs;cases hs;exact cE hl hw stepG_loop (ie.run (t:= .code p::.inLoop p::t) (h.top (dM h1 (dM h1 ht')) ha hd))
   |exit id=>
    have el:=jO (id:=id) t x;have er:=jO (id:=id) t y;cases he:exitTo id t with
    |some t2=>
     rw[he] at el er;rw[stepG_exit el] at hs;cases hs;exact cE hl hw (stepG_exit er) (.run (h.top (λit hit=>ht' it (rv he it hit)) ha hd))
    |none=>
     rw[he] at el er;dsimp only at el er;cases h with
     |bot _ _ _ hxy=>
      cases hx:exitTo id x with
      |none=>
       exfalso;rw[hx] at el;simp[G,stepG,stepG.exec,Frame.at,el,base] at hs
      |some x2=>
       obtain⟨y2,hy,ahy⟩:=c.exit _ _ _ _ hxy hx;rw[hx] at el;rw[hy] at er;rw[stepG_exit el] at hs;cases hs;exact cE hl hw (stepG_exit er) (ie.run (t:=[]) (.bot (by simp) ha hd ahy))
     |up hf _ _ _ hst=>
      exfalso;simp[exitTo] at el;simp[G,stepG,stepG.exec,Frame.at,he,base] at hs
   |region id ops draw=>
    cases draw with
    |false=>rw[stepG_region] at hs;cases hs;exact cE hl hw stepG_region (ie.run (t:= .inRegion ops (List.range ops.size)::t) (h.top (dM (qz h1 _) ht') ha hd))
    |true=>
     rw[stepG_region_draw] at hs;cases hs;refine⟨_,_,#[],stepG_region_draw,?_,hl.draw,ι _,hw.draw,⟨ι _,by simp,λ_ _ _=>rfl,rfl,rfl,rfl,Nat.le_succ _⟩,by simp⟩;rw[show w.tape w.drawn (.order B.fn id)=wL.tape wL.drawn (.order (base f).fn id) by rw[hw.tape,hw.drawn,hB];rfl]
     exact ie.run (t:= .inRegion ops _::t) (rH.top (h.mono λi hv=>hv) (dM (qz h1 _) ht') ha hd)
   |scope p=>rw[oD] at hs;cases hs;exact cE hl hw oD (ie.run (t:= .code p::.inScope p::t) (h.top (dM h1 (dM h1 ht')) ha hd))
   |refuse why=>simp[G,stepG,stepG.exec,Frame.at] at hs
   |goto l=>
    rcases qE (l:=l) t x ht' with⟨t2,ht2,hg⟩|hg
    .rw[qR (hg x)] at hs;cases hs
     exact cE hl hw (qR (hg y)) (ie.run (t:=t2) (h.top ht2 ha hd))
    .exfalso
     have hx:gotoIn l x=none:=by
      cases h with
      |bot _ _ _ hxy=>exact c.bare _ _ _ hxy
      |up=>rfl
     have:=hg x;rw[hx] at this;simp[G,stepG,stepG.exec,Frame.at,this,base] at hs
   |_=>simp[ce,eU] at h1
  |inBlock id=>rw[stepG_inBlock] at hs;cases hs;exact cE hl hw stepG_inBlock (.run (h.top ht' ha hd))
  |inScope p=>rw[mq] at hs;cases hs;exact cE hl hw mq (.run (h.top ht' ha hd))
  |inLoop p=>rw[stepG_inLoop] at hs;cases hs;exact cE hl hw stepG_inLoop (ie.run (t:= .code p::.inLoop p::t) (h.top (dM h1 (dM h1 ht')) ha hd))
  |inRegion ops todo=>
   cases todo with
   |nil=>rw[stepG_region_end] at hs;cases hs;exact cE hl hw stepG_region_end (.run (h.top ht' ha hd))
   |cons i rest=>exact PK hS hi h0 hz hl hw h hs hn hag
  |_=>simp[ce] at h1
theorem step_ret (hS:Stat P S E str)(hi:∀i j,π i=π j->i=j)(hl:LW H Z wL)(hw:WR π H Z wL w){main:Bool}
  {f:ab9} {a:Act} {t x y:List Item} {cs cs':List κ} {B:κ} {D:j6} {todo todo':List Item} (h:rH P S E str π c (hU H wL) f a t x cs B D y cs') (hne:cs≠[c.gf])
  {pY:Ω} {bD:Θ} {es:Array Event} (hs:stepG P true (G {(base f).at a todo with mode:= .returning} cs) wL= .go pY bD es)
  (hag:∀i,wL.heap.size+i<bD.heap.size->π (wL.heap.size+i)=w.heap.size+i):Res P S E str π c main H Z wL w (G {B.at (aT π a D) todo' with mode:= .returning} cs') pY bD:=by
 cases h with
 |bot=>exact absurd rfl hne
 |@up f f1 a a1 t t1 x1 y1 ops i rest cs1 Kw B1 D1 hf ht ha hd hst=>
  obtain⟨fn,cd,b1,b2,b3,b4⟩:=hS.body f hf;obtain⟨hB1,hk1,hd1,ht1,ha1⟩:=hst.base;obtain⟨hops,ht1'⟩:=all_cons ht1;have hfin:∀(b:κ) (a:Act) (k:List Item) (v:Φ),(b.at a (.inRegion ops (i::rest)::k)).finish v=b.at (a.put ((ops[i]?).bind (·.dst)) v) (.inRegion ops rest::k):=λb a k v=>Frame.finish_at b a ops i rest k v
  have gen:∀(main:Bool) (b:κ) (a:Act) (todo:List Item) (cr:κ) (EX:List κ) (w:Θ),b.kind= .normal->a.defers=[]->b.fn=f->stepG P main (G {b.at a todo with mode:= .returning} (cr::EX)) w=
    GStep.after (seen P f ((results fn a.tmps).events P w #[])) (match(results fn a.tmps).run P w with
     |.ok v w=> .go (G (cr.finish v) EX) w
     |.halt (.stuck s) w=> .ended (.stuck s (Frame.pos P {b.at a todo with mode:= .returning})) w
     |.halt _ w=> .ended (.stuck "return: the result variables cannot be read" (Frame.pos P {b.at a todo with mode:= .returning})) w):=by
   intro main b a todo cr EX w e1 e2 e3;subst e3;simp[G,stepG,unwind,doReturn,Frame.at,e1,e2,b1];cases (results fn a.tmps).run P w with
   |ok v u=>rfl
   |halt h u=>cases h<;>rfl
  rw[gen true (base f) a todo _ cs1 wL rfl hd rfl] at hs;cases hr:(results fn a.tmps).run P wL with
  |halt h u=>rw[hr] at hs;cases h<;>simp[GStep.after] at hs
  |ok v u=>
   rw[hr] at hs;simp only[GStep.after,GStep.go.injEq] at hs;obtain⟨rfl,rfl,_⟩:=hs;obtain⟨l1,l2,w',e1,e3,e4,e5,e6⟩:=nU hS hi hl hw ha fn hr hag;have hT:=gen main (base f) (aT π a []) todo' (B1.at (aT π a1 D1) (.inRegion ops (i::rest)::(t1++y1))) Kw w rfl rfl rfl;rw[show(aT π a []).tmps=a.tmps.map (Value.ren π) from rfl,e1] at hT;simp only[GStep.after] at hT
   refine⟨_,w',_,hT,?_,l1,l2,e3,e4,λe he=>e5 e (by simpa using mem_seen (by simpa using he))⟩;rw[hfin,hfin,gU _ _ _ _ (λt ht=>by
    cases ho:ops[i]? with
    |none=>rw[ho] at ht;cases ht
    |some o=>rw[ho] at ht;exact(k9 (pg hops ho)).2.2 t ht)]
   have hm:∀i,hU H wL i->hU H u i:=λi hv=>⟨ψ hv.1 l2,hv.2⟩
   exact ie.run (t:= .inRegion ops rest::t1) ((hst.mono hm).top (dM (jW hops) ht1') (iZ (λv hv=>(ha1 v hv).weak hm) e6) ((put_defers _ _ _).trans hd1))
end
def dJ (P:χ):κ:=(base 0).at {tmps:=#[],defers:=[{target:= .fn (.func P.funcs.size) #[],args:=#[]}]} [.code (.refuse "")]
inductive KV (P:χ):κ->List κ->Prop
 |top {fr:κ} {ch:List PanicEntry} (hm:fr.mode= .panicking ch) (hf:fr.defers=(dJ P).defers):KV P fr []
 |up {fr cr:κ} {cs:List κ} {ch:List PanicEntry} (hm:fr.mode= .panicking ch) (hd:fr.defers=[]) (hf:fr.catches P=false) (h:∀ch,KV P (cr.raise ch) cs):KV P fr (cr::cs)
section
variable {P:χ}{S E:ab9->Bool}{str:Bool}{c:Ctx}{H Z:Nat->Prop}{w:Θ}
def Jn (P:χ)(S E:ab9->Bool)(str:Bool)(c:Ctx)(H Z:Nat->Prop)(gL:Ω)(w:Θ):Prop:=
 LW H Z w/\((∃g,ie P S E str id c H w gL g)\/gL=G (dJ P) [])
def EU (P:χ)(J:Ω->Θ->Prop)(gL:Ω)(w:Θ)(t:d7)(d:Nat):Prop:=
 (∃o u es,stepG P true gL (az w t d)= .ended o u es)\/
 (∃fr cs u es,stepG P true gL (az w t d)= .go (G fr cs) u es/\KV P fr cs)\/
 ∃fr cs u es k,stepG P true gL (az w t d)= .go (G fr cs) u es/\qj (G fr cs)/\J (G fr cs) u/\u=az u t (d+k)/\
  ∀t2 d2,(∀i,i<k->t2 (d2+i)=t (d+i))->stepG P true gL (az w t2 d2)= .go (G fr cs) (az u t2 (d2+k)) es
theorem mU {fr:κ}{cs:List κ}(h:∀ch,fr.mode≠.panicking ch):qj (G fr cs):=⟨rfl,rfl,rfl,h⟩
theorem qY {J:Ω->Θ->Prop}{gL:Ω}{fr:κ}{cs:List κ}(t:d7)(d:Nat)(h:∀w,stepG P true gL w= .go (G fr cs) w)(hm:∀ch,fr.mode≠.panicking ch)(hj:J (G fr cs) (az w t d)):EU P J gL w t d:=
 .inr (.inr ⟨fr,cs,_,#[],0,h _,mU hm,hj,rfl,λt2 d2 _=>h _⟩)
theorem rH.lost (hS:Stat P S E str)(hgf:c.gf=dJ P)(h0:∃fn,P.funcs[c.f0]? =some fn){π:Nat->Nat}{V:Nat->Prop}{f:ab9}{a:Act}{t x:List Item}{cs:List κ}{B:κ}{D:j6}{y:List Item}{cs':List κ}(h:rH P S E str π c V f a t x cs B D y cs'):
  ∀(todo:List Item) (ch:List PanicEntry),KV P {(Go.Conc.base f).at a todo with mode:= .panicking ch} cs:=by
 have cat:∀(f:ab9) (a:Act) (todo:List Item) (ch:List PanicEntry),(∃fn,P.funcs[f]? =some fn)->Frame.catches P {(Go.Conc.base f).at a todo with mode:= .panicking ch}=false:=by
  rintro f a todo ch ⟨fn,hf⟩;simp[Frame.catches,Frame.at,Go.Conc.base,hf]
 induction h with
 |bot ht ha hd hxy=>
  intro todo ch;refine .up rfl hd (cat _ _ _ _ h0) λch'=>?_
  rw[hgf];exact .top rfl rfl
 |up hf ht ha hd _ ih=>
  intro todo ch;obtain⟨fn,cd,b1,_⟩:=hS.body _ hf;exact .up rfl hd (cat _ _ _ _ ⟨fn,b1⟩) λch'=>ih _ ch'
theorem Nd (hS:Stat P S E str)(hz:str=true->∀b,¬Z b){w:Θ}(hl:LW H Z w){f:ab9}{a:Act}{t x y:List Item}{cs cs':List κ}{B:κ}{D:j6}(h:rH P S E str id c (hU H w) f a t x cs B D y cs')
  {pY:Ω} {w':Θ} {es:Array Event} (hs:stepG P true (G ((base f).at a (t++x)) cs) w= .go pY w' es) (hn:qj pY):Jn P S E str c H Z pY w':=by
 obtain⟨g',_,_,_,hr,l,_⟩:=CR hS (λ_ _ h=>h) rfl hz hl (hl.self (σ:=id) (λ_ _ h=>h) λ_ _=>rfl) (main:=true) h hs hn λi _=>rfl
 exact⟨l,.inl ⟨g',hr⟩⟩
theorem WG (hS:Stat P S E str)(hz:str=true->∀b,¬Z b)(hgf:c.gf=dJ P)(h0:∃fn,P.funcs[c.f0]? =some fn)(hl:LW H Z w)(t0:d7)(d0:Nat)
  {f:ab9} {a:Act} {t x y:List Item} {cs cs':List κ} {B:κ} {D:j6} {ops:Array Oper} {i:Nat} {rest:List Nat} (h:rH P S E str id c (hU H w) f a (.inRegion ops (i::rest)::t) x cs B D y cs'):
  EU P (Jn P S E str c H Z) (G ((base f).at a (.inRegion ops (i::rest)::(t++x))) cs) w t0 d0:=by
 obtain⟨hB,hk,hd,ht,ha⟩:=h.base;obtain⟨hops,ht'⟩:=all_cons ht;have jr:∀{pY:Ω} {w':Θ} {es:Array Event},stepG P true (G ((base f).at a (.inRegion ops (i::rest)::(t++x))) cs) (az w t0 d0)= .go pY w' es->qj pY->Jn P S E str c H Z pY w':=λhs hn=>
  Nd hS hz (hl.az t0 d0) (h.mono λi hv=>hv) hs hn
 cases ho:ops[i]? with
 |none=>
  have e:∀w,stepG P true (G ((base f).at a (.inRegion ops (i::rest)::(t++x))) cs) w= .go (G ((base f).at a (.inRegion ops rest::(t++x))) cs) w:=λw=>by
   simp[G,stepG,stepG.exec,Frame.at,ho,Frame.finish]
  exact qY _ _ e (λch=>by simp[Frame.at]) (jr (e _) (mU λch=>by simp[Frame.at]))
 |some o=>
  have hoS:eM (sl D) P S E str o=true:=pg hops ho;have tG:mF P S E str o=true:=(k9 hoS).1;cases hwd:Region.wanted o (yielded ops a.tmps) with
  |false=>
   have e:∀w,stepG P true (G ((base f).at a (.inRegion ops (i::rest)::(t++x))) cs) w= .go (G ((base f).at (a.put o.dst undef) (.inRegion ops rest::(t++x))) cs) w #[]:=λw=>stepG_unwanted ho hwd
   exact qY _ _ e (λch=>by simp[Frame.at]) (jr (e _) (mU λch=>by simp[Frame.at]))
  |true=>
   have hka:(base f).kind≠.early:=by simp[base]
   have D9:ba P id (λb=>H b\/Z b) (hU H w) (RN id S) (execOp a.eval o) (execOp (aT id a []).eval o):=
    qV (hS.UM (λ_ _ h=>h) rfl hz _ λi hv=>hv.2) tG (λx _ hx=>⟨lz a [] hx (by cases x<;>rfl),l9 ha hx⟩) (λf=>⟨rfl,rfl⟩) (λv=>rfl)
   have hl1:=hl.az t0 d0;cases hr:(execOp a.eval o).run P (az w t0 d0) with
   |halt hh u=>
    have hok:lg hh:=D9.TJ hl1.Ar (λb hb=>hl1.low b hb) hr;unfold EU;rw[stepG_oper ho hwd];cases hh with
    |panic v=>
     refine .inr (.inl ⟨_,cs,u,listed P f a o (az w t0 d0),?_,h.lost hS hgf h0 (.inRegion ops (i::rest)::(t++x)) [{v,recovered:=false}]⟩);simp[stepG.apply,hr,Frame.at,GStep.after,base,G,listed,Frame.raise]
    |stuck m=>exact .inl ⟨_,_,_,by simp[stepG.apply,hr,Frame.at,GStep.after,base];exact⟨rfl,rfl,rfl⟩⟩
    |unsupported u=>cases u<;>first|exact hok.elim|exact .inl ⟨_,_,_,by simp[stepG.apply,hr,Frame.at,GStep.after,base];exact⟨rfl,rfl,rfl⟩⟩
    |_=>exact hok.elim
   |ok nx u=>
    have hrT:(execOp a.eval o).runT P (az w t0 d0) #[]=(.ok nx u,(execOp a.eval o).events P (az w t0 d0) #[]):=by rw[Sem.runT_eq,hr]
    obtain⟨k,hk1,hk2⟩:=D9.Fp hl.Ar (λb hb=>hl.low b hb) hrT;have sh:∀t2 d2,(∀i,i<k->t2 (d2+i)=t0 (d0+i))->(execOp a.eval o).run P (az w t2 d2)= .ok nx (az u t2 (d2+k))/\listed P f a o (az w t2 d2)=listed P f a o (az w t0 d0):=λt2 d2 hag=>by
     have:=hk2 t2 d2 hag;refine⟨by rw[<-Sem.runT_fst P _ _ #[],this],?_⟩;unfold listed;rw[show(execOp a.eval o).events P (az w t2 d2) #[]=_ from congrArg Prod.snd this]
    cases nx with
    |value v=>
     have e:=stepG_value (main:=true) (cs:=cs) (k:=t++x) (rest:=rest) ho hwd hka hr;refine .inr (.inr ⟨_,_,u,_,k,e,mU λch=>by simp[Frame.at],jr e (mU λch=>by simp[Frame.at]),hk1,λt2 d2 hag=>?_⟩);obtain⟨s1,s2⟩:=sh t2 d2 hag;rw[stepG_value ho hwd hka s1];rw[show listed P (base f).fn a o (az w t2 d2)=_ from s2];rfl
    |skip=>
     have e:=stepG_none (main:=true) (cs:=cs) (k:=t++x) (rest:=rest) ho hwd hka hr;refine .inr (.inr ⟨_,_,u,_,k,e,mU λch=>by simp[Frame.at],jr e (mU λch=>by simp[Frame.at]),hk1,λt2 d2 hag=>?_⟩);obtain⟨s1,s2⟩:=sh t2 d2 hag;rw[stepG_none ho hwd hka s1];rw[show listed P (base f).fn a o (az w t2 d2)=_ from s2];rfl
    |enter f2 ae=>
     have e:=stepG_enter (main:=true) (cs:=cs) (k:=t++x) (rest:=rest) ho hwd hka hr;refine .inr (.inr ⟨_,_,u,_,k,e,mU λch=>by simp[Frame.enter],jr e (mU λch=>by simp[Frame.enter]),hk1,λt2 d2 hag=>?_⟩);obtain⟨s1,s2⟩:=sh t2 d2 hag;rw[stepG_enter ho hwd hka s1];rw[show listed P (base f).fn a o (az w t2 d2)=_ from s2];rfl
    |_=>
     exfalso;have:=nV hS (λ_ _ h=>h) rfl hz hl1 (hl1.self (σ:=id) (λ_ _ h=>h) λ_ _=>rfl) D ha hoS hr (λi _=>rfl);obtain⟨_,_,x',w',_,e2,_⟩:=this;exact e2.elim
theorem QD (hS:Stat P S E str)(hz:str=true->∀b,¬Z b)(hgf:c.gf=dJ P)(h0:∃fn,P.funcs[c.f0]? =some fn)(hl:LW H Z w)(t0:d7)(d0:Nat)
  {f:ab9} {a:Act} {t x y:List Item} {cs cs':List κ} {B:κ} {D:j6} (h:rH P S E str id c (hU H w) f a t x cs B D y cs'):
  EU P (Jn P S E str c H Z) (G ((base f).at a (t++x)) cs) w t0 d0:=by
 obtain⟨hB,hk,hd,ht,ha⟩:=h.base;have jr:∀{pY:Ω} {w':Θ} {es:Array Event},stepG P true (G ((base f).at a (t++x)) cs) (az w t0 d0)= .go pY w' es->qj pY->Jn P S E str c H Z pY w':=λhs hn=>
  Nd hS hz (hl.az t0 d0) (h.mono λi hv=>hv) hs hn
 have De:∀{fr:κ},(∀w,stepG P true (G ((base f).at a (t++x)) cs) w= .go (G fr cs) w)->(∀ch,fr.mode≠.panicking ch)->EU P (Jn P S E str c H Z) (G ((base f).at a (t++x)) cs) w t0 d0:=λe hm=>
  qY _ _ e hm (jr (e _) (mU hm))
 cases t with
 |nil=>
  cases h with
  |bot _ _ _ hxy=>
   obtain⟨why,r,rfl⟩:=c.stop _ _ hxy;exact .inl ⟨_,_,_,by simp[G,stepG,stepG.exec,Frame.at];exact⟨rfl,rfl,rfl⟩⟩
  |up hf _ _ _ hst=>exact De (λw=>stepG_end) (λch=>by simp)
 |cons it t=>
  obtain⟨h1,ht'⟩:=all_cons ht;simp only[List.cons_append] at jr De⊢;cases it with
  |code cd=>
   cases cd with
   |skip=>exact De (λw=>stepG_skip) (λch=>by simp[Frame.at])
   |label l=>exact De (λw=>stepG_label) (λch=>by simp[Frame.at])
   |ret=>exact De (λw=>stepG_ret') (λch=>by simp)
   |seq p q=>exact De (λw=>stepG_seq) (λch=>by simp[Frame.at])
   |cond o p q=>
    cases hb:a.eval o with
    |bool b=>exact De (λw=>stepG_cond hb) (λch=>by simp[Frame.at])
    |_=>
     have he:=Frame.eval_at (base f) a (.code (.cond o p q)::(t++x)) o;simp only[Frame.at] at he;exact .inl ⟨_,_,_,by simp[G,stepG,stepG.exec,Frame.at,he,hb];exact⟨rfl,rfl,rfl⟩⟩
   |block id p=>exact De (λw=>stepG_block) (λch=>by simp[Frame.at])
   |loop p=>exact De (λw=>stepG_loop) (λch=>by simp[Frame.at])
   |exit id=>
    cases he:exitTo id (t++x) with
    |some k'=>exact De (λw=>stepG_exit he) (λch=>by simp[Frame.at])
    |none=>exact .inl ⟨_,_,_,by simp[G,stepG,stepG.exec,Frame.at,he,base];exact⟨rfl,rfl,rfl⟩⟩
   |region id ops draw=>
    cases draw with
    |false=>exact De (λw=>stepG_region) (λch=>by simp[Frame.at])
    |true=>
     have e:=stepG_region_draw (P:=P) (main:=true) (b:=base f) (a:=a) (k:=t++x) (cs:=cs) (w:=az w t0 d0) (id:=id) (ops:=ops);refine .inr (.inr ⟨_,_,_,_,1,e,mU λch=>by simp[Frame.at],jr e (mU λch=>by simp[Frame.at]),rfl,λt2 d2 hag=>?_⟩);rw[stepG_region_draw];have:=hag 0 (by omega);simp only[Nat.add_zero] at this
     show GStep.go (G ((base f).at a (.inRegion ops (Region.schedule (P.follows .mixedOrders) ops (t2 d2 (.order f id)))::(t++x))) cs) _ _=_;rw[this];rfl
   |scope p=>exact De (λw=>oD) (λch=>by simp[Frame.at])
   |refuse why=>exact .inl ⟨_,_,_,by simp[G,stepG,stepG.exec,Frame.at];exact⟨rfl,rfl,rfl⟩⟩
   |goto l=>
    cases he:gotoIn l (t++x) with
    |some k'=>exact De (λw=>qR he) (λch=>by simp[Frame.at])
    |none=>exact .inl ⟨_,_,_,by simp[G,stepG,stepG.exec,Frame.at,he,base];exact⟨rfl,rfl,rfl⟩⟩
   |_=>simp[ce,eU] at h1
  |inScope p=>exact De (λw=>mq) (λch=>by simp[Frame.at])
  |inBlock id=>exact De (λw=>stepG_inBlock) (λch=>by simp[Frame.at])
  |inLoop p=>exact De (λw=>stepG_inLoop) (λch=>by simp[Frame.at])
  |inRegion ops todo=>
   cases todo with
   |nil=>exact De (λw=>stepG_region_end) (λch=>by simp[Frame.at])
   |cons i rest=>exact WG hS hz hgf h0 hl t0 d0 h
  |_=>simp[ce] at h1
theorem BV {f:ab9}{fn:Func}(hf:P.funcs[f]? =some fn){main:Bool}{b:κ}{a:Act}{todo:List Item}{cr:κ}{EX:List κ}{w:Θ}(e1:b.kind= .normal)(e2:a.defers=[])(e3:b.fn=f):
  stepG P main (G {b.at a todo with mode:= .returning} (cr::EX)) w=
    GStep.after (seen P f ((results fn a.tmps).events P w #[])) (match(results fn a.tmps).run P w with
     |.ok v w=> .go (G (cr.finish v) EX) w
     |.halt (.stuck s) w=> .ended (.stuck s (Frame.pos P {b.at a todo with mode:= .returning})) w
     |.halt _ w=> .ended (.stuck "return: the result variables cannot be read" (Frame.pos P {b.at a todo with mode:= .returning})) w):=by
 subst e3;simp[G,stepG,unwind,doReturn,Frame.at,e1,e2,hf];cases (results fn a.tmps).run P w with
 |ok v u=>rfl
 |halt h u=>cases h<;>rfl
theorem QE (hS:Stat P S E str)(hz:str=true->∀b,¬Z b)(hgf:c.gf=dJ P)(h0:∃fn,P.funcs[c.f0]? =some fn)(hl:LW H Z w)(t0:d7)(d0:Nat)
  {f:ab9} {a:Act} {t x y:List Item} {cs cs':List κ} {B:κ} {D:j6} {todo:List Item} (h:rH P S E str id c (hU H w) f a t x cs B D y cs'):
  EU P (Jn P S E str c H Z) (G {(base f).at a todo with mode:= .returning} cs) w t0 d0:=by
 obtain⟨hB,hk,hd,ht,ha⟩:=h.base;have hfn:∃fn,P.funcs[f]? =some fn:=by
  cases h with
  |bot=>exact h0
  |up hf=>obtain⟨fn,cd,b1,_⟩:=hS.body _ hf;exact⟨fn,b1⟩
 obtain⟨fn,hfn⟩:=hfn;have hl1:=hl.az t0 d0;have main:∀cr EX,cs=cr::EX->(∀v ch,(cr.finish v).mode≠.panicking ch)->(∀v u es,stepG P true (G {(base f).at a todo with mode:= .returning} cs) (az w t0 d0)= .go (G (cr.finish v) EX) u es->LW H Z u->Jn P S E str c H Z (G (cr.finish v) EX) u)->
   EU P (Jn P S E str c H Z) (G {(base f).at a todo with mode:= .returning} cs) w t0 d0:=by
  intro cr EX hcs hm hj;subst hcs;have gen:∀w,_:=λw=>BV (P:=P) hfn (main:=true) (b:=base f) (a:=a) (todo:=todo) (cr:=cr) (EX:=EX) (w:=w) rfl hd rfl
  cases hr:(results fn a.tmps).run P (az w t0 d0) with
  |halt hh u=>
   refine .inl ?_;rw[gen,hr];cases hh<;>exact⟨_,_,_,rfl⟩
  |ok v u=>
   have D9:=lK (P:=P) (π:=id) (N:=λb=>H b\/Z b) (V:=hU H w) fn a.tmps;have hrT:(results fn a.tmps).runT P (az w t0 d0) #[]=(.ok v u,(results fn a.tmps).events P (az w t0 d0) #[]):=by rw[Sem.runT_eq,hr]
   obtain⟨k,hk1,hk2⟩:=D9.Fp hl.Ar (λb hb=>hl.low b hb) hrT;obtain⟨l1,_⟩:=nU hS (π:=id) (λ_ _ h=>h) hl1 (hl1.self (σ:=id) (λ_ _ h=>h) λ_ _=>rfl) (λv hv=>ha v hv) fn hr λi _=>rfl
   have e:stepG P true (G {(base f).at a todo with mode:= .returning} (cr::EX)) (az w t0 d0)= .go (G (cr.finish v) EX) u (seen P f ((results fn a.tmps).events P (az w t0 d0) #[])):=by
    rw[gen,hr];simp[GStep.after]
   refine .inr (.inr ⟨_,_,u,_,k,e,mU (hm v),hj v u _ e l1,hk1,λt2 d2 hag=>?_⟩);have h2:=hk2 t2 d2 hag;have h3:(results fn a.tmps).run P (az w t2 d2)= .ok v (az u t2 (d2+k)):=by rw[<-Sem.runT_fst P _ _ #[],h2]
   have h4:(results fn a.tmps).events P (az w t2 d2) #[]=(results fn a.tmps).events P (az w t0 d0) #[]:=by
    show((results fn a.tmps).runT P (az w t2 d2) #[]).2=_;rw[h2]
   rw[gen,h3,h4];simp[GStep.after]
 cases h with
 |bot _ _ _ hxy=>
  refine main c.gf [] rfl (λv ch=>by rw[hgf];simp[dJ,Frame.finish,Frame.at]) λv u es _ l=>⟨l,.inr ?_⟩
  rw[hgf];simp[dJ,Frame.finish,Frame.at]
 |@up _ f1 _ a1 _ t1 x1 y1 ops i rest cs1 Kw B1 D1 hf _ _ _ hst=>
  refine main _ cs1 rfl (λv ch=>by rw[Frame.finish_at];simp[Frame.at]) λv u es hs l=>?_
  obtain⟨g',_,_,_,hr,l2,_⟩:=step_ret hS (π:=id) (c:=c) (main:=true) (todo':=[]) (λ_ _ h=>h) hl1 (hl1.self (σ:=id) (λ_ _ h=>h) λ_ _=>rfl) (rH.mono (λi hv=>hv) (.up hf ht ha hd hst)) (by
   intro e;cases hst<;>simp at e) hs λi _=>rfl
  exact⟨l2,.inl ⟨g',hr⟩⟩
theorem ab0 (hS:Stat P S E str)(hz:str=true->∀b,¬Z b)(hgf:c.gf=dJ P)(h0:∃fn,P.funcs[c.f0]? =some fn){gL:Ω}(h:Jn P S E str c H Z gL w)(t0:d7)(d0:Nat):EU P (Jn P S E str c H Z) gL w t0 d0:=by
 obtain⟨hl,⟨g,hr⟩|rfl⟩:=h
 .cases hr with
  |run h=>exact QD hS hz hgf h0 hl t0 d0 h
  |ret h=>exact QE hS hz hgf h0 hl t0 d0 h
 .exact .inl ⟨_,_,_,by simp[G,dJ,stepG,stepG.exec,Frame.at];exact⟨rfl,rfl,rfl⟩⟩
end
section
variable {P:χ}{S E:ab9->Bool}{str:Bool}{c:Ctx}{H Z:Nat->Prop}
theorem ie.az {π:Nat->Nat}{wL:Θ}{gL g:Ω}(h:ie P S E str π c H wL gL g)(t:d7)(d:Nat):ie P S E str π c H (az wL t d) gL g:=by
 cases h with
 |run h=>exact .run (h.mono λi hv=>hv)
 |ret h=>exact .ret (h.mono λi hv=>hv)
theorem shifts (hS:Stat P S E str)(hz:str=true->∀b,¬Z b)(hgf:c.gf=dJ P)(h0:∃fn,P.funcs[c.f0]? =some fn):Shifts P (Jn P S E str c H Z):=by
 intro g w t d g' w' es hj hs hn;rcases ab0 hS hz hgf h0 hj t d with⟨o,u,es2,h⟩|⟨fr,cs,u,es2,h,hl⟩|⟨fr,cs,u,es2,k,h,_,hj',hk,hk2⟩
 .rw[h] at hs;cases hs
 .rw[h] at hs
  cases hs;exfalso;cases hl with
  |top hm _=>exact hn.calm _ hm
  |up hm _ _ _=>exact hn.calm _ hm
 .rw[h] at hs
  cases hs;exact⟨hj',k,hk,hk2⟩
theorem xQ:∀(n:Nat) {fr:κ} {cs:List κ} {w:Θ} {fr':κ} {cs':List κ} {w':Θ},KV P fr cs->runN P n (lone fr cs w)= .next (lone fr' cs' w')->∃ch,fr'.mode= .panicking ch
 |0,fr,cs,w,fr',cs',w',h,hr=>by
  simp only[runN,Stepped.next.injEq,lone,Machine.mk.injEq] at hr;have h1:=hr.2.1;simp at h1;obtain⟨rfl,_⟩:=h1;cases h with
  |top hm _=>exact⟨_,hm⟩
  |up hm _ _ _=>exact⟨_,hm⟩
 |n+1,fr,cs,w,fr',cs',w',h,hr=>by
  simp only[runN] at hr;cases h with
  |top hm hf=>
   have:step P (lone fr [] w)= .ended (.stuck "call: no such function" (Frame.pos P {fr with defers:=[]})) w:=by
    refine step_lone_ended ?_;simp[stepG,unwind,hm,hf,dJ,callDeferred,Frame.at,invoke,callFunc,program,stuck,bind,Sem.bind,Sem.run,GStep.after]
   rw[this] at hr;cases hr
  |@up _ cr cs ch hm hd hc h=>
   have:step P (lone fr (cr::cs) w)= .next (lone (cr.raise ch) cs w):=by
    refine step_lone_go ?_;simp[stepG,unwind,hm,hd,hc]
   rw[this] at hr;exact xQ n (h ch) hr
theorem lP (hS:Stat P S E str)(hz:str=true->∀b,¬Z b)(hgf:c.gf=dJ P)(h0:∃fn,P.funcs[c.f0]? =some fn):∀(n:Nat) {fr:κ} {cs:List κ} {w:Θ} {fr':κ} {cs':List κ} {w':Θ},
  Jn P S E str c H Z (G fr cs) w->runN P n (lone fr cs w)= .next (lone fr' cs' w')->(∀ch,fr'.mode≠.panicking ch)->Run P n (G fr cs) w (G fr' cs') w'/\Jn P S E str c H Z (G fr' cs') w'
 |0,fr,cs,w,fr',cs',w',hj,hr,_=>by
  simp only[runN,Stepped.next.injEq,lone,Machine.mk.injEq] at hr;have h1:=hr.2.1;simp at h1;obtain⟨rfl,rfl⟩:=h1;obtain rfl:=hr.1;exact⟨⟨rfl,rfl⟩,hj⟩
 |n+1,fr,cs,w,fr',cs',w',hj,hr,hm=>by
  simp only[runN] at hr;rcases ab0 hS hz hgf h0 hj w.tape w.drawn with⟨o,u,es2,h⟩|⟨fr2,cs2,u,es2,h,hl⟩|⟨fr2,cs2,u,es2,k,h,hn,hj',_,_⟩
  .rw[oS] at h
   have:step P (lone fr cs w)= .ended o u:=step_lone_ended (by
    show(stepG P true (G fr cs) w).bare=_;rw[h];rfl)
   rw[this] at hr;cases hr
  .rw[oS] at h
   have:step P (lone fr cs w)= .next (lone fr2 cs2 u):=step_lone_go (by
    show(stepG P true (G fr cs) w).bare=_;rw[h];rfl)
   rw[this] at hr;obtain⟨ch,hc⟩:=xQ n hl hr;exact absurd hc (hm ch)
  .rw[oS] at h
   have:step P (lone fr cs w)= .next (lone fr2 cs2 u):=step_lone_go (by
    show(stepG P true (G fr cs) w).bare=_;rw[h];rfl)
   rw[this] at hr;obtain⟨r1,r2⟩:=lP hS hz hgf h0 n hj' hr hm;exact⟨⟨_,u,es2,h,hn,r1⟩,r2⟩
def kL:Option Nat->List Item
 |none=>[.inRangeFunc 0]
 |some id=>[.inRangeFunc 0,.inBlock id,.inRangeFunc 0]
def TV (f0:ab9)(P:χ)(gz:Option Nat):Exit->Act->Ω->Prop
 |.normal,a,g=>g=G ((base f0).at a (kL gz)) [dJ P]
 |.exit id,a,g=>gz=some id/\g=G ((base f0).at a [.inRangeFunc 0]) [dJ P]
 |.ret,a,g=>∃todo,g=G {(base f0).at a todo with mode:= .returning} [dJ P]
 |_,_,_=>False
def aiQ (f0:ab9)(P:χ)(gz:Option Nat)(Q:Exit->Act->Θ->Prop)(g:Ω)(w:Θ):Prop:=∃e a,Q e a w/\TV f0 P gz e a g
structure QOk (gz:Option Nat)(Q:Exit->Act->Θ->Prop):Prop where
 tape:∀e a w t d,Q e a (az w t d)↔Q e a w
 out:∀e a w,Q e a w->e= .normal\/e= .ret\/∃id,e= .exit id/\gz=some id
def WpT (P:χ)(t:List Item)(Q:Exit->Act->Θ->Prop)(a:Act)(w:Θ):Prop:=∀(b:κ) (k:List Item) (cs:List κ),∃e a' w',Q e a' w'/\Arrives P (lone (b.at a (t++k)) cs w) b k cs e a' w'
theorem Gw (hS:Stat P S E str)(hz:str=true->∀b,¬Z b)(hgf:c.gf=dJ P)(h0:∃fn,P.funcs[c.f0]? =some fn){t0:List Item}{Q:Exit->Act->Θ->Prop}{a:Act}{wL:Θ}{gz:Option Nat}(hQ:QOk gz Q)
  (hj:Jn P S E str c H Z (G ((base c.f0).at a (t0++kL gz)) [dJ P]) wL) (h:∀t d,WpT P t0 Q a (az wL t d)):Ends P (aiQ c.f0 P gz Q) (G ((base c.f0).at a (t0++kL gz)) [dJ P]) wL:=by
 intro t d;obtain⟨e,a',w',q,harr⟩:=h t d (base c.f0) (kL gz) [dJ P];have hj':Jn P S E str c H Z (G ((base c.f0).at a (t0++kL gz)) [dJ P]) (az wL t d):=⟨hj.1.az t d,hj.2.imp (λ⟨g,h⟩=>⟨g,h.az t d⟩) id⟩
 rcases hQ.out e a' w' q with rfl|rfl|⟨id,rfl,hx⟩
 .obtain⟨n,hn⟩:=harr
  exact⟨n,_,w',(lP hS hz hgf h0 n hj' hn λch=>by simp[Frame.at]).1,.normal,a',q,rfl⟩
 .obtain⟨todo,n,hn⟩:=harr
  exact⟨n,_,w',(lP hS hz hgf h0 n hj' hn λch=>by simp).1,.ret,a',q,todo,rfl⟩
 .subst hx
  obtain⟨n,hn⟩:=harr [.inRangeFunc 0] (by simp[kL,exitTo]);exact⟨n,_,w',(lP hS hz hgf h0 n hj' hn λch=>by simp[Frame.at]).1,.exit id,a',q,rfl,rfl⟩
end
def Uf (O RO:Nat->Prop)(n n':Nat)(e:Event):Prop:=
 (∃b,(O b\/(n<=b/\b<n')\/(RO b/\e.write=false))/\((∃a:Addr,e.loc= .cell a/\a.block=b)\/e.loc= .obj b))\/∃m,e.loc= .mark m/\ph m
structure kH (O RO:Nat->Prop)(w w':Θ)(es:Array Event):Prop where
 size:w.heap.size<=w'.heap.size
 keep:∀k,k<w.heap.size->¬O k->w'.heap[k]? =w.heap[k]?
 os:w'.os=w.os
 output:w'.output=w.output
 tape:w'.tape=w.tape
 ev:∀e∈es,Uf O RO w.heap.size w'.heap.size e
structure O6 {S0:Type}(C:Co S0)(own:S0->Nat->Prop)(RO:Nat->Prop):Prop where
 rel:∀s w w₁,C.R s w w₁->w.heap.size<=w₁.heap.size/\w₁.tape=w.tape/\∀b,b<w.heap.size->own s b\/RO b->w₁.heap[b]? =w.heap[b]?
 guar:∀s w w' es,kH (own s) RO w w' es->C.D s w w' es
 up:∀s w w' b,own (C.up s w w') b↔own s b\/(w.heap.size<=b/\b<w'.heap.size)
structure Link (H Z:Nat->Prop)(O RO:Nat->Prop)(π:Nat->Nat)(wL w:Θ):Prop where
 inj:∀i j,π i=π j->i=j
 zero:π 0=0
 lt:∀b,b<wL.heap.size->π b<w.heap.size
 lw:LW H Z wL
 wr:WR π H Z (az wL w.tape w.drawn) w
 own:∀b,hU H wL b->¬Z b->O (π b)
 ro:∀b,Z b->RO (π b)
section
variable {P:χ}{S E:ab9->Bool}{str:Bool}{c:Ctx}{H Z:Nat->Prop}{O RO:Nat->Prop}{π co:Nat->Nat}{wL w w₁:Θ}
theorem tU {v:Φ}:∀(h:∀r,Value.Has r v->π r=co r),Value.ren π v=Value.ren co v:=by
 suffices h:∀n (v:Φ),SizeOf.sizeOf v<n->(∀r,Value.Has r v->π r=co r)->Value.ren π v=Value.ren co v from h _ v (Nat.lt_succ_self _)
 intro n
 induction n with
 |zero=>intro v h;omega
 |succ n ih=>
  intro v hv h;have arr:∀(cs:Array Φ),SizeOf.sizeOf cs<n->(∀x∈cs,∀r,Value.Has r x->π r=co r)->cs.map (Value.ren π)=cs.map (Value.ren co):=by
   intro cs hs hh;exact Array.map_congr_left λx hx=>ih x (by have:=Array.sizeOf_lt_of_mem hx;omega) (hh x hx)
  cases v with
  |pointer a=>cases a with
   |none=>simp
   |some a=>simp[aZ,h a.block (.ptr rfl)]
  |slice a _ _=>cases a with
   |none=>simp
   |some a=>simp[aZ,h a.block (.slice rfl)]
  |map r=>cases r with
   |none=>simp
   |some r=>simp[h r .map]
  |chan r=>cases r with
   |none=>simp
   |some r=>simp[h r .chan]
  |iface t v=>rw[cP,cP,ih v (by simp at hv;omega) λr x=>h r (.iface x)]
  |agg cs=>rw[dl,dl,arr cs (by simp at hv;omega) λx hx r y=>h r (.agg hx y)]
  |tuple cs=>rw[cO,cO,arr cs (by simp at hv;omega) λx hx r y=>h r (.tuple hx y)]
  |func fn f c=>
   rw[de,de,arr f (by simp at hv;omega) λx hx r y=>h r (.first hx y),arr c (by simp at hv;omega) λx hx r y=>h r (.GS hx y)];cases fn with
   |yield l=>simp[oW,h l .yield]
   |_=>rfl
  |_=>simp
theorem lh {cs:Array Φ}(h:∀x∈cs,∀r,Value.Has r x->π r=co r):cs.map (Value.ren π)=cs.map (Value.ren co):=Array.map_congr_left λx hx=>tU (h x hx)
theorem xu {o:Obj}(h:∀r,kg r o->π r=co r):dC π o=dC co o:=by
 cases o with
 |cells c t f=>simp only[dC];rw[lh λv hv r x=>h r (.cells hv x)]
 |map es c=>
  simp only[dC];have:es.map (mD π)=es.map (mD co):=Array.map_congr_left λe he=>by
   unfold mD;rw[tU λr x=>h r (.key he x),tU λr x=>h r (.val he x)]
  rw[this]
 |mapIter m a b c=>cases m with
  |none=>rfl
  |some r=>simp[dC,h r .iter]
 |view a t=>simp[dC,aZ,h a.block (.view rfl)]
 |number a l=>simp[dC,aZ,h a.block (.number rfl)]
 |_=>rfl
theorem rH.congr {V:Nat->Prop}(hV:∀i,V i->π i=co i){f:ab9}{a:Act}{t x:List Item}{cs:List κ}{B:κ}{D:j6}{y:List Item}{cs':List κ}(h:rH P S E str π c V f a t x cs B D y cs'):rH P S E str co c V f a t x cs B D y cs':=by
 induction h with
 |bot ht ha hd hxy=>exact .bot ht ha hd hxy
 |@up f f1 a a1 t t1 x1 y1 ops i rest cs1 Kw B1 D1 hf ht ha hd hs ih=>
  have e:aT π a1 D1=aT co a1 D1:=by
   unfold aT;rw[lh λv hv r x=>hV r (hs.base.2.2.2.2 v hv r x)]
  rw[e];exact .up hf ht ha hd ih
theorem ie.congr (hV:∀i,hU H wL i->π i=co i){gL g:Ω}(h:ie P S E str π c H wL gL g):ie P S E str co c H wL gL g:=by
 cases h with
 |@run f a t x cs B D y cs' h=>
  have e:aT π a D=aT co a D:=by
   unfold aT;rw[lh λv hv r x=>hV r (h.base.2.2.2.2 v hv r x)]
  rw[e];exact .run (h.congr hV)
 |@ret f a t x cs B D y cs' todo todo' h=>
  have e:aT π a D=aT co a D:=by
   unfold aT;rw[lh λv hv r x=>hV r (h.base.2.2.2.2 v hv r x)]
  rw[e];exact .ret (h.congr hV)
theorem Link.rely (h:Link H Z O RO π wL w)(hs:w.heap.size<=w₁.heap.size)(ht:w₁.tape=w.tape)(hk:∀b,b<w.heap.size->O b\/RO b->w₁.heap[b]? =w.heap[b]?):
  ∃co,Link H Z O RO co wL w₁/\(∀b,b<wL.heap.size->π b=co b)/\∀i,co (wL.heap.size+i)=w₁.heap.size+i:=by
 refine⟨λi=>if i<wL.heap.size then π i else w₁.heap.size+(i-wL.heap.size),?_,λb hb=>(ξ hb).symm,λi=>by show(if wL.heap.size+i<wL.heap.size then π (wL.heap.size+i) else w₁.heap.size+(wL.heap.size+i-wL.heap.size))=_;rw[ζ (by omega)];omega⟩;have e:∀b,b<wL.heap.size->(if b<wL.heap.size then π b else w₁.heap.size+(b-wL.heap.size))=π b:=λb hb=>ξ hb
 have lo:∀b,H b\/Z b->b<wL.heap.size:=h.lw.low;have hz0:0<wL.heap.size:=h.lw.zero.1;have oc:∀(b:Nat) (o:Obj),wL.heap[b]? =some o->¬H b->dC (λi=>if i<wL.heap.size then π i else w₁.heap.size+(i-wL.heap.size)) o=dC π o:=λb o hb hH=>xu λr hr=>e r (h.lw.Sl b o hb hH r hr).1
 have at_:∀b,hU H wL b->w₁.heap[π b]? =w.heap[π b]? :=λb hb=>hk _ (h.lt b hb.1) (by
  by_cases hZ:Z b
  .exact .inr (h.ro b hZ)
  .exact .inl (h.own b hb hZ))
 refine {inj:=λi j hij=>?_,zero:=by rw[e 0 hz0];exact h.zero,lt:=λb hb=>by rw[e b hb];have:=h.lt b hb;omega,lw:=h.lw,wr:=?_,own:=λb hb hZ=>by rw[e b hb.1];exact h.own b hb hZ,ro:=λb hZ=>by rw[e b (lo b (.inr hZ))];exact h.ro b hZ}
 .split at hij<;>split at hij
  .exact h.inj _ _ hij
  .have:=h.lt i (by assumption);omega
  .have:=h.lt j (by assumption);omega
  .omega
 .have hw:=h.wr
  refine {inj:=?_,tape:=rfl,drawn:=rfl,lt:=λb hb hH=>?_,ok:=λb o hb hH hZ=>?_,hid:=hw.hid,ou:=λb o hb hZ=>?_,low:=hw.low,y5:=hw.y5}
  .intro i j hij
   split at hij<;>split at hij
   .exact h.inj _ _ hij
   .have:=h.lt i (by assumption);omega
   .have:=h.lt j (by assumption);omega
   .omega
  .rw[e b hb]
   have:=h.lt b hb;omega
  .have hlt:=(Ψ.1 hb).1
   refine⟨(hw.ok b o hb hH hZ).1,?_⟩;rw[e b hlt,at_ b ⟨hlt,hH⟩,oc b o hb hH];exact(hw.ok b o hb hH hZ).2
  .have hlt:=(Ψ.1 hb).1
   obtain⟨c,t,f,rfl,h2⟩:=hw.ou b o hb hZ;refine⟨c,t,f,rfl,?_⟩;have hH:=h.lw.apart b hZ;rw[e b hlt,at_ b ⟨hlt,hH⟩];have:=oc b _ hb hH;simp only[dC,Obj.cells.injEq] at this;rw[this.1];exact h2
theorem Link.sD (h:Link H Z O RO π wL w){bD w':Θ}{es:Array Event}(hag:∀i,wL.heap.size+i<bD.heap.size->π (wL.heap.size+i)=w.heap.size+i)
  (l:LW H Z bD) (hsz:wL.heap.size<=bD.heap.size) (hw:WR π H Z bD w') (hc:Cp π H Z (az wL w.tape w.drawn) bD w w') (he:∀e∈es,pK π H Z bD.heap.size e):
  kH O RO w w' es/\∀O':Nat->Prop,(∀b,O' b↔O b\/(w.heap.size<=b/\b<w'.heap.size))->Link H Z O' RO π bD w':=by
 have hS:w'.heap.size=w.heap.size+(bD.heap.size-wL.heap.size):=hc.size;have new:∀b,wL.heap.size<=b->b<bD.heap.size->w.heap.size<=π b/\π b<w'.heap.size:=λb h1 h2=>by
  have:=hag (b-wL.heap.size) (by omega);rw[show wL.heap.size+(b-wL.heap.size)=b by omega] at this;omega
 refine⟨⟨by omega,λk hk hO=>hc.keep k hk λb hb hH hZ e=>hO (e▸h.own b ⟨hb,hH⟩ hZ),hc.os,hc.output,hc.tape,λe hE=>?_⟩,λO' hO'=>?_⟩
 .rcases he e hE with⟨b,hb,hH,hZ,hloc⟩|hm
  .refine .inl ⟨π b,?_,hloc⟩
   by_cases hlt:b<wL.heap.size
   .by_cases hz:Z b
    .refine .inr (.inr ⟨h.ro b hz,?_⟩)
     cases hwr:e.write with
     |false=>rfl
     |true=>exact absurd hz (hZ hwr)
    .exact .inl (h.own b ⟨hlt,hH⟩ hz)
   .exact .inr (.inl (new b (by omega) hb))
  .exact .inr hm
 .refine {inj:=h.inj,zero:=h.zero,lt:=λb hb=>?_,lw:=l,wr:=?_,own:=λb hb hZ=>?_,ro:=h.ro}
  .by_cases hlt:b<wL.heap.size
   .have:=h.lt b hlt;omega
   .exact(new b (by omega) hb).2
  .have e:az bD w'.tape w'.drawn=bD:=by
    unfold az;rw[hw.tape,hw.drawn]
   rw[e];exact hw
  .rw[hO']
   by_cases hlt:b<wL.heap.size
   .exact .inl (h.own b ⟨hlt,hb.2⟩ hZ)
   .exact .inr (new b (by omega) hb.1)
inductive TlX (gz:Option Nat)(kT:List Item):List Item->List Item->Prop
 |nil:TlX gz kT (kL gz) kT
 |exit {id:Nat} {y:List Item} (h:gz=some id) (hy:exitTo id kT=some y):TlX gz kT [.inRangeFunc 0] y
def aei (B:κ)(kT:List Item)(CS:List κ):Exit->Act->Ω->Prop
 |.normal,a,g=>g=G (B.at a kT) CS
 |.exit id,a,g=>∃y,exitTo id kT=some y/\g=G (B.at a y) CS
 |.ret,a,g=>∃todo,g=G {B.at a todo with mode:= .returning} CS
 |_,_,_=>False
def StopA {S0:Type}(own:S0->Nat->Prop)(RO:Nat->Prop)(H Z:Nat->Prop)(B:κ)(D0:j6)(kT:List Item)(CS:List κ)(Q:Exit->Act->Θ->Prop)(aam:Nat->Nat)(n₀:Nat)(s:S0)(g:Ω)(w:Θ):Prop:=
 ∃e a wL π,Q e a wL/\Link H Z (own s) RO π wL w/\a.defers=[]/\(∀v∈a.tmps,VV (hU H wL) v)/\aei B kT CS e (aT π a D0) g/\(∀b,b<n₀->π b=aam b)/\n₀<=wL.heap.size
def aet (P:χ)(f0:ab9)(B:κ)(D0:j6)(CS:List κ)(gz:Option Nat)(kT:List Item)(hf:B.fn=f0)(hk:B.kind≠.early)(hx:∀id,gz=some id->∃y,exitTo id kT=some y):Ctx where
 f0:=f0
 gf:=dJ P
 B:=B
 D0:=D0
 CS:=CS
 Tl:=TlX gz kT
 fn:=hf
 kind:=hk
 stop:=λx y h=>by
  cases h with
  |nil=>cases gz<;>exact⟨_,_,rfl⟩
  |exit=>exact⟨_,_,rfl⟩
 exit:=λx y id x' h hx'=>by
  cases h with
  |nil=>
   cases gz with
   |none=>simp[kL,exitTo] at hx'
   |some i=>
    simp only[kL,exitTo] at hx';split at hx'
    .rename_i he
     have:i=id:=by simpa using he
     subst this;cases hx';obtain⟨y',hy'⟩:=hx i rfl;exact⟨y',hy',.exit rfl hy'⟩
    .cases hx'
  |exit=>simp[exitTo] at hx'
 bare:=λx y l h=>by
  cases h with
  |nil=>cases gz<;>rfl
  |exit=>rfl
theorem A5 {V:Nat->Prop}{f:ab9}{a:Act}{t x:List Item}{gf:κ}{B:κ}{D:j6}{y:List Item}{cs':List κ}(h:rH P S E str π c V f a t x [gf] B D y cs'):f=c.f0/\B=c.B/\D=c.D0/\cs'=c.CS/\c.Tl x y:=by
 cases h with
 |bot _ _ _ hxy=>exact⟨rfl,rfl,rfl,rfl,hxy⟩
 |up _ _ _ _ hs=>cases hs
theorem uX {gL g:Ω}(h:ie P S E str π c H wL gL g){f0:ab9}{aL:Act}{todo:List Item}{gf:κ}(e:gL=G ((base f0).at aL todo) [gf]):
  ∃t x y,todo=t++x/\(∀it∈t,ce (sl c.D0) P S E str it=true)/\c.Tl x y/\aL.defers=[]/\(∀v∈aL.tmps,VV (hU H wL) v)/\g=G (c.B.at (aT π aL c.D0) (t++y)) c.CS:=by
 cases h with
 |@run f a t x cs B D y cs' h=>
  simp only[G,Frame.at,base,Goroutine.mk.injEq,Frame.mk.injEq] at e;obtain⟨⟨e1,e2,e3,e4,_⟩,e5,_⟩:=e;subst e5;obtain⟨_,_,hd,ht,ha⟩:=h.base;obtain⟨_,rfl,rfl,rfl,hxy⟩:=A5 h;obtain⟨tm,df⟩:=a;obtain⟨tm',df'⟩:=aL;simp only at e2 e4;subst e2;subst e4;exact⟨t,x,y,e3.symm,ht,hxy,hd,ha,rfl⟩
 |ret h=>
  simp only[G,Frame.at,base,Goroutine.mk.injEq,Frame.mk.injEq] at e;exact absurd e.1.2.2.2.2.1 (by simp)
theorem Dx {gL g:Ω}(h:ie P S E str π c H wL gL g){f0:ab9}{aL:Act}{todo:List Item}{gf:κ}(e:gL=G {(base f0).at aL todo with mode:= .returning} [gf]):
  aL.defers=[]/\(∀v∈aL.tmps,VV (hU H wL) v)/\∃todo',g=G {c.B.at (aT π aL c.D0) todo' with mode:= .returning} c.CS:=by
 cases h with
 |run h=>
  simp only[G,Frame.at,base,Goroutine.mk.injEq,Frame.mk.injEq] at e;exact absurd e.1.2.2.2.2.1 (by simp)
 |@ret f a t x cs B D y cs' td td' h=>
  simp only[G,Frame.at,base,Goroutine.mk.injEq,Frame.mk.injEq] at e;obtain⟨⟨e1,e2,e3,e4,_⟩,e5,_⟩:=e;subst e5;obtain⟨_,_,hd,ht,ha⟩:=h.base;obtain⟨_,rfl,rfl,rfl,hxy⟩:=A5 h;obtain⟨tm,df⟩:=a;obtain⟨tm',df'⟩:=aL;simp only at e2 e4;subst e2;subst e4;exact⟨hd,ha,td',rfl⟩
theorem Rf (gz:Option Nat):∃r,kL gz= .inRangeFunc 0::r:=by cases gz<;>exact⟨_,rfl⟩
theorem tail_nil {σ:List Nat}{t x:List Item}{r:List Item}(h:Item.inRangeFunc 0::r=t++x)(ht:∀it∈t,ce σ P S E str it=true):t=[]:=by
 cases t with
 |nil=>rfl
 |cons it t=>
  simp only[List.cons_append,List.cons.injEq] at h;have:=ht it (by simp);rw[<-h.1] at this;simp[ce] at this
theorem MX (hS:Stat P S E str)(hz:str=true->∀b,¬Z b){f0:ab9}(h0:∃fn,P.funcs[f0]? =some fn){S0:Type}{C:Co S0}{own:S0->Nat->Prop}(hC:O6 C own RO){gz:Option Nat}{Q:Exit->Act->Θ->Prop}(hQ:QOk gz Q)
  {B:κ} {D0:j6} {CS:List κ} {kT:List Item} (hf:B.fn=f0) (hk:B.kind≠.early) (hx:∀id,gz=some id->∃y,exitTo id kT=some y) {t0:List Item} (Cq:∀it∈t0,ce (sl D0) P S E str it=true)
  {a:Act} {s:S0} (hl:Link H Z (own s) RO π wL w) (ha:∀v∈a.tmps,VV (hU H wL) v) (hd:a.defers=[]) (hwp:∀t d,WpT P t0 Q a (az wL t d)) {main:Bool}:
  aC P main C (StopA own RO H Z B D0 kT CS Q π wL.heap.size) s (G (B.at (aT π a D0) (t0++kT)) CS) w:=by
 let c:=aet P f0 B D0 CS gz kT hf hk hx
 have hj:Jn P S E str c H Z (G ((base f0).at a (t0++kL gz)) [dJ P]) wL:=
  ⟨hl.lw,.inl ⟨_,ie.run (t:=t0) (x:=kL gz) (rH.bot (c:=c) Cq ha hd (.nil (kT:=kT)))⟩⟩
 have adm:=Gw hS hz (c:=c) (Z:=Z) rfl h0 hQ hj hwp;have hlt:=A2 (shifts hS hz (c:=c) (H:=H) (Z:=Z) rfl h0) (λg w t d=>by
  constructor
  .rintro⟨e,a,q,x⟩;exact⟨e,a,(hQ.tape e a w t d).1 q,x⟩
  .rintro⟨e,a,q,x⟩;exact⟨e,a,(hQ.tape e a w t d).2 q,x⟩) hj adm
 refine DV (λs gL bD g w=>∃co,Link H Z (own s) RO co bD w/\ie P S E str co c H bD gL g/\(∀b,b<wL.heap.size->co b=π b)/\wL.heap.size<=bD.heap.size) ?_ ?_ ?_ hlt ⟨π,hl,ie.run (t:=t0) (x:=kL gz) (rH.bot (c:=c) Cq ha hd (.nil (kT:=kT))),λ_ _=>rfl,ι _⟩
 ·
  rintro s gL wL g w ⟨π,hl,hr,X2,hsz0⟩ ⟨e,aL,q,hg⟩ w₁ hR;obtain⟨r1,r2,r3⟩:=hC.rel s w w₁ hR;obtain⟨co,hl',Id,_⟩:=hl.rely r1 r2 r3;have hr':=hr.congr (co:=co) λi hv=>Id i hv.1
  have Ry:=λb (hb:b<_)=>(Id b (ψ hb hsz0)).symm.trans (X2 b hb)
  refine⟨e,aL,wL,co,q,hl',?_⟩;rcases hQ.out e aL wL q with rfl|rfl|⟨id,rfl,hxi⟩
  .obtain⟨t,x,y,e1,ht,hxy,h1,h2,rfl⟩:=uX hr' hg
   obtain⟨r,hr2⟩:=Rf gz;obtain rfl:=tail_nil (hr2▸e1) ht;refine⟨h1,h2,?_⟩;have hxy':TlX gz kT x y:=hxy;simp only[List.nil_append] at e1⊢;subst e1;cases hk2:gz with
   |none=>
    rw[hk2] at hxy';generalize hz2:kL none=z at hxy';cases hxy' with
    |nil=>exact⟨rfl,Ry,hsz0⟩
    |exit h _=>cases h
   |some i=>
    rw[hk2] at hxy';generalize hz2:kL (some i)=z at hxy';cases hxy' with
    |nil=>exact⟨rfl,Ry,hsz0⟩
    |exit _ _=>simp[kL] at hz2
  .obtain⟨todo,hg⟩:=hg
   obtain⟨h1,h2,todo',rfl⟩:=Dx hr' hg;exact⟨h1,h2,⟨todo',rfl⟩,Ry,hsz0⟩
  .obtain⟨t,x,y,e1,ht,hxy,h1,h2,rfl⟩:=uX hr' hg.2
   obtain rfl:=tail_nil e1 ht;refine⟨h1,h2,?_⟩;have hxy':TlX gz kT x y:=hxy;simp only[List.nil_append] at e1⊢;subst e1;subst hxi;generalize hz2:[Item.inRangeFunc 0]=z at hxy';cases hxy' with
   |nil=>simp[kL] at hz2
   |exit h hy=>
    cases h;exact⟨⟨_,hy,rfl⟩,Ry,hsz0⟩
 .rintro s gL wL g w ⟨π,hl,hr,_⟩
  cases hr<;>rfl
 .rintro s gL wL g w ⟨π,hl,hr,X2,hsz0⟩ w₁ hR pY bD es hs hn hk
  obtain⟨r1,r2,r3⟩:=hC.rel s w w₁ hR;obtain⟨co,hl',Id,hag⟩:=hl.rely r1 r2 r3;have hr':=hr.congr (co:=co) λi hv=>Id i hv.1
  have hag':∀i,(az wL w₁.tape w₁.drawn).heap.size+i<bD.heap.size->co ((az wL w₁.tape w₁.drawn).heap.size+i)=w₁.heap.size+i:=λi _=>hag i
  have res:Res P S E str co c main H Z (az wL w₁.tape w₁.drawn) w₁ g pY bD:=by
   have hl1:LW H Z (az wL w₁.tape w₁.drawn):=hl'.lw.az _ _;cases hr' with
   |run h=>exact CR hS hl'.inj hl'.zero hz hl1 hl'.wr (h.mono λi hv=>hv) hs hn hag'
   |@ret f a t x cs B D y cs' todo todo' h=>
    by_cases hne:cs=[dJ P]
    .exfalso
     subst hne;obtain⟨_,_,hda,_,_⟩:=h.base;obtain⟨hf0,_⟩:=A5 h;have ahT:f=f0:=hf0;subst ahT;obtain⟨fn,hfn⟩:=h0;rw[BV hfn rfl hda rfl] at hs;cases hres:(results fn a.tmps).run P (az wL w₁.tape w₁.drawn) with
     |halt hh u=>rw[hres] at hs;cases hh<;>simp[GStep.after] at hs
     |ok v u=>
      rw[hres] at hs;simp only[GStep.after,GStep.go.injEq] at hs;obtain⟨rfl,rfl,_⟩:=hs;have hfin:(dJ P).finish v=dJ P:=by simp[dJ,Frame.finish,Frame.at]
      rw[hfin] at hk;cases hk with
      |stop hF=>
       obtain⟨e,a2,q,x⟩:=hF;cases e<;>simp[TV,G] at x
      |step nx hst _ _=>
       have:=hst (λ_ _=>0) 0;simp[G,dJ,stepG,stepG.exec,Frame.at] at this
    .exact step_ret hS hl'.inj hl1 hl'.wr (h.mono λi hv=>hv) hne hs hag'
  obtain⟨g',w',es',e1,e2,e3,e4,e5,e6,e7⟩:=res;obtain⟨o1,o2⟩:=hl'.sD (λi hi=>hag i) e3 e4 e5 e6 e7;exact⟨g',w',es',e1,hC.guar s w₁ w' es' o1,co,o2 _ (hC.up s w₁ w'),e2,λb hb=>(Id b (ψ hb hsz0)).symm.trans (X2 b hb),ae6 hsz0 e4⟩
end
end
section
open Go.Conc
open Go.ConcM (OsLater)
namespace aG
def vQ:bg->Bool
 |.m=>true
 |_=>false
theorem BN {n0:Nat}(h:0<n0)(r:bg):(gid n0 r==0)=vQ r:=by cases r<;>simp[gid,vQ];omega
structure Cx (Δ:Type) where
 Fd:Nat
 M:Nat
 Wg:Nat
 tF:Γ
 tW:Γ
 Dat:Δ->Δ->Obj->Prop
 fin:bg->Δ
 c0:bg->Δ
 N:bg->Nat
structure Gh (Δ:Type) where
 ro:Nat->Prop
 own:Nat->Prop
 mine:Δ
 other:Δ
section
variable {Δ:Type}(X:Cx Δ)
def mA:Addr:=⟨X.Fd,0,none⟩
def msA:Addr:=⟨X.Fd,1,none⟩
def wA:Addr:=⟨X.Wg,0,none⟩
def KY:Addr:=⟨X.Wg,1,none⟩
def ShAt (w:Θ)(s:Sh):Prop:=w.heap[X.Fd]? =some (.cells #[.int .i32 s.mu,.int .u32 s.ms,.map (some X.M)] X.tF)/\w.heap[X.Wg]? =some (.cells #[.int .u64 s.wg,.int .u32 s.ws] X.tW)
def Cn (r:bg)(mine other:Δ)(o:Obj):Prop:=match r with
 |.a=>X.Dat mine other o
 |_=>X.Dat other mine o
structure RX (ro own:Nat->Prop)(w w₁:Θ):Prop where
 tape:w₁.tape=w.tape
 output:w₁.output=w.output
 size:w.heap.size<=w₁.heap.size
 os:OsLater w.os w₁.os
 keep:∀b,b<w.heap.size->own b\/ro b->w₁.heap[b]? =w.heap[b]?
 live:(∃s,ShAt X w s)->∃s,ShAt X w₁ s
def EvX (ro own:Nat->Prop)(n n':Nat)(e:Event):Prop:=
 (∃c,(own c\/(n<=c/\c<n')\/(ro c/\e.write=false))/\lF c e.loc)\/(e.loc= .cell ⟨X.Fd,2,none⟩/\e.write=false/\e.sync=false)\/∃m,e.loc= .mark m/\ph m
structure DX (deaf:Bool)(ro own:Nat->Prop)(w w':Θ)(es:Array Event):Prop where
 tape:w'.tape=w.tape
 output:w'.output=w.output
 size:w.heap.size<=w'.heap.size
 os:OsLater w.os w'.os
 keep:∀b,b<w.heap.size->¬own b->w'.heap[b]? =w.heap[b]?
 ev:∀e∈es,EvX X ro own w.heap.size w'.heap.size e
 mute:deaf=true->es=#[]
theorem RX.refl (ro own:Nat->Prop)(w:Θ):RX X ro own w w:=⟨rfl,rfl,ι _,.refl _,λ_ _ _=>rfl,id⟩
theorem RX.trans {ro own:Nat->Prop}{a b c:Θ}(h:RX X ro own a b)(k:RX X ro own b c):RX X ro own a c:=
 ⟨k.tape.trans h.tape,k.output.trans h.output,ae6 h.size k.size,h.os.trans k.os,λx hx ho=>(k.keep x (ψ hx h.size) ho).trans (h.keep x hx ho),λl=>k.live (h.live l)⟩
theorem RX.at (ro own:Nat->Prop)(w:Θ)(d:Nat):RX X ro own w (w.at d):=⟨rfl,rfl,ι _,.refl _,λ_ _ _=>rfl,id⟩
def fi (deaf:Bool)(ro:Nat->Prop):Co (Nat->Prop) where
 R:=λown w w₁=>RX X ro own w w₁
 D:=λown w w' es=>DX X deaf ro own w w' es
 up:=λown w w' b=>own b\/(w.heap.size<=b/\b<w'.heap.size)
 refl:=λown w=>RX.refl X ro own w
 trans:=λ_ _ _ _ h k=>h.trans X k
def gv:Pc->Nat
 |.un|.out|.la|.ur|.ud|.wk|.k1|.g1|.k2|.g2|.kw|.aq|.fin|.bad=>0
 |_=>1
def eQ (p:Pc):Bool:=decide (gv p≠0)||p== .wk
inductive EvK where
 |dis|en|aeL|abx|abw|aeK|Tb|Ta|book
def jl (T T':Lo):EvK:=match T.pc with
 |.out=>if T'.pc= .l0 then .dis else .abw
 |.le|.ue|.e1|.e2|.ke=> .en
 |.la=> .aeL
 |.ur=> .abx
 |.ud|.wk|.k1|.k2|.kw=> .dis
 |.aq=> .aeK
 |.p1|.p2=> .Tb
 |.pw=> .Ta
 |_=> .book
def qB (m:Mark):Event:=⟨.mark m,false,true⟩
def EvStop (T T':Lo)(es:Array Event):Prop:=match jl T T' with
 |.dis=>es=#[qB .disable]
 |.en=>es=#[qB .enable]
 |.aeL=>es=#[qB (.acquire (mA X))]
 |.abx=>es=#[qB (.releaseMerge (mA X))]
 |.abw=>es=#[qB (.releaseMerge (wA X))]
 |.aeK=>es=#[qB (.acquire (wA X))]
 |.Tb=>es=#[qB (.read (KY X))]
 |.Ta=>es=#[qB (.write (KY X))]
 |.book=>ConcM.BookOK X.Fd X.Wg 1 1 es/\∀e∈es,∀a:Addr,e.loc= .cell a->a.block=X.Fd->a.off≠2
variable (P:χ)
def ja (pc:Pc)(own:Nat->Prop):Nat->Prop:=match pc with
 |.la=>λb=>own b\/b=X.M
 |.ur=>λb=>own b/\b≠X.M
 |_=>own
def dQ (Nx:Lo->Gh Δ->Ω->Θ->Prop)(T':Lo)(γ:Gh Δ):(Nat->Prop)->Ω->Θ->Prop:=
 λown g w=>∃c,(T'.pc≠.ur->c=γ.mine)/\Nx T' {γ with own:=own,mine:=c} g w
def After (Nx:Lo->Gh Δ->Ω->Θ->Prop)(r:bg)(T':Lo)(γ:Gh Δ)(g:Ω)(w:Θ):Prop:=
 if T'.pc= .quit then ∃q,QuitsD P q 1 g else aC P (vQ r) (fi X (eQ T'.pc) γ.ro) (dQ Nx T' γ) γ.own g w
def ZC (Nx:Lo->Gh Δ->Ω->Θ->Prop)(r:bg)(T:Lo)(γ:Gh Δ)(g:Ω)(w:Θ):Prop:=
 g.status= .running/\g.offers=none/\((T.pc= .us\/T.pc= .d4)->mayWake P g=true)/\
 (T.pc= .ur->∃o,w.heap[X.M]? =some o/\Cn X r γ.mine γ.other o)/\
 ∀s,ShAt X w s->s.fits->
  (mv T s=[]->stepG P (vQ r) g w= .go {g with status:= .blocked} w #[])/\
  ∀d:Δ,(T.pc= .la->∃o,w.heap[X.M]? =some o/\Cn X r γ.mine d o)->mv T s≠[]->
   ∃q∈mv T s,q.1.pc≠.bad->(q.1.pc= .wk->γ.mine=X.fin r)/\∃g' w' es,stepG P (vQ r) g w= .go g' w' es/\ShAt X w' q.2/\ConcM.Eff X.Fd X.Wg w w'/\EvStop X T q.1 es/\
    After X P Nx r q.1 {γ with own:=ja X T.pc γ.own,other:=if T.pc= .la then d else γ.other} g' w'
def IG:Nat->bg->Lo->Gh Δ->Ω->Θ->Prop
 |0,_,_,_,_,_=>True
 |k+1,r,T,γ,g,w=>ZC X P (IG k r) r T γ g w
def given (γ:Gh Δ):Gh Δ:={γ with ro:=λb=>γ.ro b\/γ.own b,own:=λ_=>False}
def eX:Pc->bg
 |.g1=> .a
 |_=> .b
def iz:Pc->Lo
 |.g1=>at_ .k2 0
 |_=>at_ .kw 0
def O5 (Nx:Lo->Gh Δ->Ω->Θ->Prop)(T:Lo)(γ:Gh Δ)(g:Ω)(w:Θ):Prop:=
 g.status= .running/\g.offers=none/\∃g' child,stepG P true g w= .spawn g' child w #[]/\
  (∀K,aC P false (fi X false (given γ).ro) (dQ (IG X P K (eX T.pc)) (at_ .out (X.N (eX T.pc))) {given γ with mine:=X.c0 (eX T.pc)}) (λ_=>False) child w)/\
  aC P true (fi X false (given γ).ro) (dQ Nx (iz T.pc) (given γ)) (λ_=>False) g' w
variable (Post:Gh Δ->Ω->Θ->Prop)
def Uj (γ:Gh Δ)(g:Ω)(w:Θ):Prop:=
 g.status= .running/\g.offers=none/\∀o,w.heap[X.M]? =some o->X.Dat (X.fin .a) (X.fin .b) o->∃g',stepG P true g w= .go g' w #[qB (.acquire (wA X))]/\Post γ g' w
def zX:Nat->Lo->Gh Δ->Ω->Θ->Prop
 |0,_,_,_,_=>True
 |k+1,T,γ,g,w=>if T.pc= .g1\/T.pc= .g2 then O5 X P (zX k) T γ g w else if T.pc= .aq then Uj X P Post γ g w else ZC X P (zX k) .m T γ g w
def AtR (k:Nat):bg->Lo->Gh Δ->Ω->Θ->Prop
 |.m=>zX X P Post k
 |r=>IG X P k r
end
section
variable {Δ:Type}{X:Cx Δ}{P:χ}{Post:Gh Δ->Ω->Θ->Prop}{r:bg}{k:Nat}{T:Lo}{γ:Gh Δ}{g:Ω}{w:Θ}
theorem AtR.running (h:AtR X P Post (k+1) r T γ g w):g.status= .running/\g.offers=none:=by
 cases r with
 |m=>
  have h':zX X P Post (k+1) T γ g w:=h;unfold zX at h';split at h'
  .exact⟨h'.1,h'.2.1⟩
  .split at h'
   .exact⟨h'.1,h'.2.1⟩
   .exact⟨h'.1,h'.2.1⟩
 |a=>exact⟨h.1,h.2.1⟩
 |b=>exact⟨h.1,h.2.1⟩
theorem AtR.law (h:AtR X P Post (k+1) r T γ g w)(hg:¬(T.pc= .g1\/T.pc= .g2))(ha:T.pc≠.aq):ZC X P (AtR X P Post k r) r T γ g w:=by
 cases r with
 |m=>
  have h':zX X P Post (k+1) T γ g w:=h;unfold zX at h';rw[ζ hg,ζ ha] at h';exact h'
 |a=>exact h
 |b=>exact h
end
def jd:Pc->Bool
 |.k1|.x1|.p1|.e1|.g1|.k2|.x2|.p2|.e2|.g2|.kw|.w1|.w2|.pw|.w3|.w4|.ke|.aq|.fin|.bad=>false
 |_=>true
def mV:Pc->Bool
 |.k1|.x1|.p1|.e1|.g1|.k2|.x2|.p2|.e2|.g2|.kw|.w1|.w2|.pw|.w3|.w4|.ke|.aq=>true
 |_=>false
def fL:Pc->Bool
 |.l0|.r0|.sq|.r1|.c2|.s1|.t2|.r2|.a1|.r3|.u0|.uc|.ul|.us=>true
 |_=>false
def jN:Pc->Bool
 |.d1|.d2|.d3|.d4=>true
 |_=>false
def kU:Pc->Bool
 |.le|.la|.ur|.ud|.ue|.wk|.k1|.p1|.e1|.k2|.p2|.e2|.kw|.pw|.ke=>true
 |_=>false
def ky:Pc->Bool
 |.x1|.x2|.w1|.w2|.w3|.w4=>true
 |_=>false
def lr:Pc->Nat
 |.le=>5|.la=>4|.ur=>3|.ud=>2|.u0=>1|.ue=>10|.out=>9|.wk=>8|.d1=>7
 |.k1=>4|.x1=>3|.p1=>3|.e1=>2|.g1=>1|.k2=>4|.x2=>3|.p2=>3|.e2=>2|.g2=>1|.kw=>2|.w1=>1|.pw=>2|.w3=>1|.ke=>3|.aq=>2|.fin=>1
 |_=>0
theorem DR (p:Pc):lr p<=10:=by cases p<;>simp[lr]
def jk (T:Lo)(n:Nat):Lo:={T with n:=n}
theorem ado (T:Lo)(n:Nat):hd (jk T n)=jk (hd T) n:=by
 obtain⟨pc,old,nw,aw,sv,it,m⟩:=T;simp only[hd,apply_ite (λx=>jk x n)];rfl
theorem aev (T:Lo)(n:Nat):cl (jk T n)=jk (cl T) n:=by
 obtain⟨pc,old,nw,aw,sv,it,m⟩:=T;simp only[cl,apply_ite (λx=>jk x n)];rfl
theorem ag8 (T:Lo)(n:Nat):pm (jk T n)=pm T:=by
 obtain⟨pc,old,nw,aw,sv,it,m⟩:=T;cases pc<;>rfl
theorem Ec (T:Lo):(hd T).pc= .c2\/(hd T).pc= .sq\/(hd T).pc= .bad:=by
 simp only[hd]
 (repeat' split)<;>simp
theorem Iv (T:Lo):(cl T).pc= .c2:=by
 simp only[cl]
 (repeat' split)<;>simp
theorem adn (T:Lo):(hd T).n=T.n:=by
 simp only[hd]
 (repeat' split)<;>simp
theorem aeu (T:Lo):(cl T).n=T.n:=by
 simp only[cl]
 (repeat' split)<;>simp
theorem Q5 {T:Lo}{s:Sh}(hT:fL T.pc=true):mv T s=(mv (jk (pm T) 1) ⟨s.mu,s.ms,0,0⟩).map (λq=>(jk q.1 T.n,⟨q.2.mu,q.2.ms,s.wg,s.ws⟩)):=by
 obtain⟨pc,old,nw,aw,sv,it,n⟩:=T;obtain⟨mu,ms,wg,ws⟩:=s;have h1:∀(T:Lo),jk (hd (jk T 1)) n=hd (jk T n):=λT=>by rw[ado,ado];rfl
 have h2:∀(T:Lo),jk (cl (jk T 1)) n=cl (jk T n):=λT=>by rw[aev,aev];rfl
 cases pc<;>simp only[fL,τ] at hT
 case r0=>simpa [mv,pm,jk] using(h1 {pc:= .r0,old:=mu}).symm
 case r1=>simpa [mv,pm,jk] using(h1 {pc:= .r1,old:=mu,nw:=nw,aw:=aw,sv:=sv,it:=IntKind.i64.wrap (it+1)}).symm
 case r3=>simpa [mv,pm,jk] using(h1 {pc:= .r3,old:=mu,nw:=nw,aw:=aw,sv:=sv,it:=it}).symm
 case sq=>
  have e:=(h2 {pc:= .sq,old:=old,nw:=nw,aw:=aw,sv:=sv,it:=it}).symm;simp only[jk] at e;simp only[mv,pm,jk]
  by_cases hi:it<4
  .simp[hi];exact e
  .simp[hi];exact e
 case a1=>
  by_cases hp:(mu=12/\nw=-11)\/(mu=20/\(nw=-7\/nw=-11))
  .have e1:mv ⟨.a1,old,nw,aw,sv,it,n⟩ ⟨mu,ms,wg,ws⟩=[(at_ .le n,⟨mu+nw,ms,wg,ws⟩)]:=ξ hp
   have e2:mv (jk (pm ⟨.a1,old,nw,aw,sv,it,n⟩) 1) ⟨mu,ms,0,0⟩=[(at_ .le 1,⟨mu+nw,ms,0,0⟩)]:=ξ hp;exact e1.trans (by show _=List.map _ (mv (jk (pm ⟨.a1,old,nw,aw,sv,it,n⟩) 1) ⟨mu,ms,0,0⟩);rw[e2];rfl)
  .have e1:mv ⟨.a1,old,nw,aw,sv,it,n⟩ ⟨mu,ms,wg,ws⟩=[(at_ .bad n,⟨mu,ms,wg,ws⟩)]:=ζ hp
   have e2:mv (jk (pm ⟨.a1,old,nw,aw,sv,it,n⟩) 1) ⟨mu,ms,0,0⟩=[(at_ .bad 1,⟨mu,ms,0,0⟩)]:=ζ hp;exact e1.trans (by show _=List.map _ (mv (jk (pm ⟨.a1,old,nw,aw,sv,it,n⟩) 1) ⟨mu,ms,0,0⟩);rw[e2];rfl)
 case r2=>
  have e:=(h1 {pc:= .r2,old:=mu,nw:=nw,aw:=true,sv:=sv,it:=0}).symm;simp only[jk] at e;simp only[mv,pm,jk]
  (repeat' split)<;>simp_all
 all_goals
  simp only[mv,pm,jk]
  (repeat' split)<;>simp_all
theorem BH {T:Lo}{s:Sh}{q:Lo×Sh}(hT:fL T.pc=true)(h:q∈mv T s):q.1.pc≠.wk/\q.1.n=T.n/\(q.1.pc= .bad\/(jd q.1.pc=true/\pw q.1={pc:= .out})):=by
 have hh:=Ec;have hc:=Iv;have hn:=adn;have cn:=aeu;have pwh:∀T,(hd T).pc= .bad\/(jd (hd T).pc=true/\pw (hd T)={pc:= .out}):=λT=>by
  rcases hh T with e|e|e
  .exact .inr ⟨by rw[e];rfl,by unfold pw;rw[e]⟩
  .exact .inr ⟨by rw[e];rfl,by unfold pw;rw[e]⟩
  .exact .inl e
 have hw:∀T,(hd T).pc≠.wk:=λT=>by rcases hh T with e|e|e<;>rw[e]<;>simp
 have pwc:∀T,jd (cl T).pc=true/\pw (cl T)={pc:= .out}:=λT=>⟨by rw[hc T];rfl,by unfold pw;rw[hc T]⟩
 obtain⟨pc,old,nw,aw,sv,it,n⟩:=T;obtain⟨mu,ms,wg,ws⟩:=s;cases pc<;>simp only[fL,τ] at hT<;>simp only[mv] at h
 case r0=>simp only[ae1] at h;subst h;exact⟨hw _,hn _,pwh _⟩
 case r1=>simp only[ae1] at h;subst h;exact⟨hw _,hn _,pwh _⟩
 case r3=>simp only[ae1] at h;subst h;exact⟨hw _,hn _,pwh _⟩
 case sq=>
  rcases ac5.1 h with rfl|h
  .exact⟨by rw[hc];simp,cn _,.inr (pwc _)⟩
  .split at h
   .simp only[ae1] at h;subst h;exact⟨by simp,rfl,.inr ⟨rfl,rfl⟩⟩
   .simp at h
 case r2=>
  split at h
  .simp only[ae1] at h;subst h;exact⟨hw _,hn _,pwh _⟩
  ·(repeat' split at h)<;>simp only[ae1] at h<;>subst h<;>simp[jd,pw]
 all_goals ((repeat' split at h)<;>simp only[ac5,List.not_mem_nil,or_false] at h<;>first|contradiction|(obtain rfl:=h;simp[jd,pw];done)|(obtain rfl:=h;simp[jd,pw];split<;>simp)|(rcases h with rfl|rfl<;>simp[jd,pw]))
theorem wj {T:Lo}{s:Sh}{q:Lo×Sh}(hT:fL T.pc=true)(h:q∈mv T s):(pm q.1,q.2.mu,q.2.ms)∈y4 (pm T) s.mu s.ms/\q.2.wg=s.wg/\q.2.ws=s.ws:=by
 have hpc:=(BH hT h).1;rw[Q5 hT] at h;obtain⟨q0,h0,rfl⟩:=ae2.1 h;refine⟨ae2.2 ⟨q0,af7.2 ⟨h0,by simpa [jk] using hpc⟩,by rw[ag8]⟩,rfl,rfl⟩
theorem Hs {T:Lo}(hT:fL T.pc=true):pw T={pc:= .out}:=by
 unfold pw;cases hp:T.pc<;>rw[hp] at hT<;>simp[fL] at hT<;>rfl
theorem wi {T:Lo}{s:Sh}{q:Lo×Sh}(hT:jN T.pc=true)(h:q∈mv T s):(pw q.1,q.2.wg,q.2.ws)∈Tr (pw T) s.wg s.ws/\q.2.mu=s.mu/\q.2.ms=s.ms/\q.1.n=T.n/\(q.1.pc= .bad\/(jd q.1.pc=true/\pm q.1=pm T/\lr q.1.pc<=lr T.pc)):=by
 obtain⟨pc,old,nw,aw,sv,it,n⟩:=T;obtain⟨mu,ms,wg,ws⟩:=s;cases pc<;>simp only[jN,τ] at hT<;>simp only[mv] at h<;>simp only[pw,Tr,gw,mv]
 all_goals ((repeat' split at h)<;>simp only[ae1] at h<;>subst h<;>simp_all [jd,pm,pw,lr])
theorem Hy {T:Lo}{s:Sh}{q:Lo×Sh}(hT:ky T.pc=true)(h:q∈mv T s):(p0 q.1,q.2.wg,q.2.ws)∈mv0 (p0 T) s.wg s.ws/\q.2.mu=s.mu/\q.2.ms=s.ms/\(q.1.pc= .bad\/mV q.1.pc=true):=by
 obtain⟨pc,old,nw,aw,sv,it,n⟩:=T;obtain⟨mu,ms,wg,ws⟩:=s;cases pc<;>simp only[ky,τ] at hT<;>simp only[mv] at h<;>simp only[p0,mv0,mv]
 all_goals ((repeat' split at h)<;>simp only[ae1,List.not_mem_nil] at h<;>first|(subst h;simp_all [mV,p0])|contradiction)
theorem sL {T:Lo}{s:Sh}{q:Lo×Sh}(hT:kU T.pc=true)(h:q∈mv T s):q.2=s/\(jd T.pc=true->pm q.1=pm T)/\pw q.1=pw T/\p0 q.1=p0 T/\lr q.1.pc<lr T.pc/\jd q.1.pc=jd T.pc/\mV q.1.pc=mV T.pc/\q.1.pc≠.bad/\(jd T.pc=true->q.1.n=T.n):=by
 obtain⟨pc,old,nw,aw,sv,it,n⟩:=T;cases pc<;>simp only[kU,τ] at hT<;>simp only[mv,ae1] at h<;>subst h<;>simp[pm,pw,p0,lr,jd,mV]
def ot (L:bg->Lo)(r1 r2:Nat):Nat:=((L .a).n+(L .b).n)*1400+(r1+r2)*32+(lr (L .m).pc+lr (L .a).pc+lr (L .b).pc)
def upd {α:Type}(L:bg->α)(r:bg)(x:α):bg->α:=λy=>if y=r then x else L y
theorem upd_same {α:Type}(L:bg->α)(r:bg)(x:α):upd L r x r=x:=by simp[upd]
theorem upd_ne {α:Type}(L:bg->α){r y:bg}(x:α)(h:y≠r):upd L r x y=L y:=by simp[upd,h]
structure vT (L:bg->Lo)(s:Sh)(r1 r2:Nat):Prop where
 ZY:KW ⟨pm (L .a),pm (L .b),s.mu,s.ms⟩ r1
 lm:r1<27
 Rl:Po ⟨p0 (L .m),pw (L .a),pw (L .b),s.wg,s.ws⟩ r2
 st:mV (L .m).pc=true
 wa:jd (L .a).pc=true
 wb:jd (L .b).pc=true
section
variable {L:bg->Lo}{s:Sh}{r1 r2:Nat}{q:Lo×Sh}
theorem vT.WT (h:vT L s r1 r2)(hq:q∈mv (L .a) s)(hu:(L .a).pc≠.un):q.1.pc≠.bad/\∃r1' r2',vT (upd L .a q.1) q.2 r1' r2'/\ot (upd L .a q.1) r1' r2'<ot L r1 r2:=by
 have hl:=DR q.1.pc;have hw:=h.wa;obtain⟨hM,hl1,hG,hst,y6,hwb⟩:=h;have oq:∀r1' r2',ot (upd L .a q.1) r1' r2'=(q.1.n+(L .b).n)*1400+(r1'+r2')*32+(lr (L .m).pc+lr q.1.pc+lr (L .b).pc):=λr1' r2'=>by simp[ot,upd]<;>omega
 have lX:ot L r1 r2=((L .a).n+(L .b).n)*1400+(r1+r2)*32+(lr (L .m).pc+lr (L .a).pc+lr (L .b).pc):=by simp[ot]<;>omega
 have FM:=hM.facts;have FG:=hG.facts
 by_cases c1:kU (L .a).pc=true
 .obtain⟨e0,e1,e2,_,e4,e5,_,e7,e8⟩:=sL c1 hq
  have e1:=e1 hw;have e8:=e8 hw;refine⟨e7,r1,r2,⟨?_,hl1,?_,by simpa [upd] using hst,?_,?_⟩,by rw[oq,lX,e8];omega⟩
  .simp[upd,e0,e1];exact hM
  .simp[upd,e0,e2];exact hG
  .simp[upd,e5,hw,y6]
  .simp[upd,e5,hw,hwb]
 by_cases c2:fL (L .a).pc=true
 .obtain⟨m1,m2,m3⟩:=wj c2 hq
  obtain⟨_,n1,n2⟩:=BH c2 hq;obtain⟨r1',i1,i2,i3⟩:=hM.S7 m1;have hnb:q.1.pc≠.bad:=λe=>by
   have:=FM.noA _ m1
   apply this
   simp[pm,e]
  obtain⟨w1,w2⟩:=n2.resolve_left hnb;have hlt:r1'<r1:=i2.resolve_left (λe=>by
   have e:(pm (L .a)).pc= .out:=e
   revert e
   cases hp:(L .a).pc<;>rw[hp] at c2<;>simp[fL] at c2<;>simp[pm,hp])
  refine⟨hnb,r1',r2,⟨?_,i3,?_,by simpa [upd] using hst,?_,?_⟩,by rw[oq,lX,n1];have:=DR (L .a).pc;omega⟩
  .simp[upd];exact i1
  .rw[Hs c2] at hG
   simp[upd,m2,m3,w2];exact hG
  .simp[upd,w1,y6]
  .simp[upd,w1,hwb]
 by_cases c3:jN (L .a).pc=true
 .obtain⟨m1,m2,m3,m4,m5⟩:=wi c3 hq
  obtain⟨r2',i1,i2⟩:=hG.step (H:=⟨p0 (L .m),pw q.1,pw (L .b),q.2.wg,q.2.ws⟩) (by
   unfold GG.succs;exact List.mem_append_left _ (List.mem_append_right _ (ae2.2 ⟨_,m1,rfl⟩)))
  have hnb:q.1.pc≠.bad:=λe=>by
   have:=(FG.no ⟨p0 (L .m),pw q.1,pw (L .b),q.2.wg,q.2.ws⟩ (by
    unfold GG.succs;exact List.mem_append_left _ (List.mem_append_right _ (ae2.2 ⟨_,m1,rfl⟩)))).2.1
   apply this
   simp[pw,e]
  obtain⟨w1,w2,w3⟩:=m5.resolve_left hnb;refine⟨hnb,r1,r2',⟨?_,hl1,?_,by simpa [upd] using hst,?_,?_⟩,by rw[oq,lX,m4];omega⟩
  .simp[upd,m2,m3,w2];exact hM
  .simp[upd];exact i1
  .simp[upd,w1,y6]
  .simp[upd,w1,hwb]
 .have ho:(L .a).pc= .out\/(L .a).pc= .quit:=by
   revert c1 c2 c3 hw hu
   cases (L .a).pc<;>simp[kU,fL,jN,jd]
  rcases ho with ho|ho
  .have Za:pm (L .a)={pc:= .out}:=by simp[pm,ho]
   have epw:pw (L .a)={pc:= .out}:=by simp[pw,ho]
   rw[Za] at hM;rw[epw] at hG;simp only[mv,ho] at hq;rcases ac5.1 hq with rfl|hq
   .refine⟨by simp,r1,r2,⟨?_,hl1,?_,by simpa [upd] using hst,?_,?_⟩,by rw[oq,lX,ho];simp[lr]⟩
    .simp[upd,pm];exact hM
    .simp[upd,pw];exact hG
    .first|(simp[upd];done)|(simp[upd];first|exact y6|exact hwb|rfl)
    .first|(simp[upd];done)|(simp[upd];first|exact y6|exact hwb|rfl)
   .split at hq
    .rename_i hn
     simp only[ae1] at hq;subst hq;obtain⟨r1',i1,_,i3⟩:=hM.S7 (q:=({pc:= .l0},s.mu,s.ms)) (by simp[y4,mv,pm]);refine⟨by simp,r1',r2,⟨?_,i3,?_,by simpa [upd] using hst,?_,?_⟩,by rw[oq,lX,ho];simp[lr];omega⟩
     .simp[upd,pm];exact i1
     .simp[upd,pw];exact hG
     .first|(simp[upd];done)|(simp[upd];first|exact y6|exact hwb|rfl)
     .first|(simp[upd];done)|(simp[upd];first|exact y6|exact hwb|rfl)
    .simp at hq
  .simp[mv,ho] at hq
theorem vT.WS (h:vT L s r1 r2)(hq:q∈mv (L .b) s)(hu:(L .b).pc≠.un):q.1.pc≠.bad/\∃r1' r2',vT (upd L .b q.1) q.2 r1' r2'/\ot (upd L .b q.1) r1' r2'<ot L r1 r2:=by
 have hl:=DR q.1.pc;have hw:=h.wb;obtain⟨hM,hl1,hG,hst,y6,hwb⟩:=h;have oq:∀r1' r2',ot (upd L .b q.1) r1' r2'=(q.1.n+(L .a).n)*1400+(r1'+r2')*32+(lr (L .m).pc+lr q.1.pc+lr (L .a).pc):=λr1' r2'=>by simp[ot,upd]<;>omega
 have lX:ot L r1 r2=((L .b).n+(L .a).n)*1400+(r1+r2)*32+(lr (L .m).pc+lr (L .b).pc+lr (L .a).pc):=by simp[ot]<;>omega
 have FM:=hM.facts;have FG:=hG.facts
 by_cases c1:kU (L .b).pc=true
 .obtain⟨e0,e1,e2,_,e4,e5,_,e7,e8⟩:=sL c1 hq
  have e1:=e1 hw;have e8:=e8 hw;refine⟨e7,r1,r2,⟨?_,hl1,?_,by simpa [upd] using hst,?_,?_⟩,by rw[oq,lX,e8];omega⟩
  .simp[upd,e0,e1];exact hM
  .simp[upd,e0,e2];exact hG
  .simp[upd,e5,hw,y6]
  .simp[upd,e5,hw,hwb]
 by_cases c2:fL (L .b).pc=true
 .obtain⟨m1,m2,m3⟩:=wj c2 hq
  obtain⟨_,n1,n2⟩:=BH c2 hq;obtain⟨r1',i1,i2,i3⟩:=hM.S6 m1;have hnb:q.1.pc≠.bad:=λe=>by
   have:=FM.noB _ m1
   apply this
   simp[pm,e]
  obtain⟨w1,w2⟩:=n2.resolve_left hnb;have hlt:r1'<r1:=i2.resolve_left (λe=>by
   have e:(pm (L .b)).pc= .out:=e
   revert e
   cases hp:(L .b).pc<;>rw[hp] at c2<;>simp[fL] at c2<;>simp[pm,hp])
  refine⟨hnb,r1',r2,⟨?_,i3,?_,by simpa [upd] using hst,?_,?_⟩,by rw[oq,lX,n1];have:=DR (L .b).pc;omega⟩
  .simp[upd];exact i1
  .rw[Hs c2] at hG
   simp[upd,m2,m3,w2];exact hG
  .simp[upd,w1,y6]
  .simp[upd,w1,hwb]
 by_cases c3:jN (L .b).pc=true
 .obtain⟨m1,m2,m3,m4,m5⟩:=wi c3 hq
  obtain⟨r2',i1,i2⟩:=hG.step (H:=⟨p0 (L .m),pw (L .a),pw q.1,q.2.wg,q.2.ws⟩) (by
   unfold GG.succs;exact List.mem_append_right _ (ae2.2 ⟨_,m1,rfl⟩))
  have hnb:q.1.pc≠.bad:=λe=>by
   have:=(FG.no ⟨p0 (L .m),pw (L .a),pw q.1,q.2.wg,q.2.ws⟩ (by
    unfold GG.succs;exact List.mem_append_right _ (ae2.2 ⟨_,m1,rfl⟩))).2.2
   apply this
   simp[pw,e]
  obtain⟨w1,w2,w3⟩:=m5.resolve_left hnb;refine⟨hnb,r1,r2',⟨?_,hl1,?_,by simpa [upd] using hst,?_,?_⟩,by rw[oq,lX,m4];omega⟩
  .simp[upd,m2,m3,w2];exact hM
  .simp[upd];exact i1
  .simp[upd,w1,y6]
  .simp[upd,w1,hwb]
 .have ho:(L .b).pc= .out\/(L .b).pc= .quit:=by
   revert c1 c2 c3 hw hu
   cases (L .b).pc<;>simp[kU,fL,jN,jd]
  rcases ho with ho|ho
  .have Za:pm (L .b)={pc:= .out}:=by simp[pm,ho]
   have epw:pw (L .b)={pc:= .out}:=by simp[pw,ho]
   rw[Za] at hM;rw[epw] at hG;simp only[mv,ho] at hq;rcases ac5.1 hq with rfl|hq
   .refine⟨by simp,r1,r2,⟨?_,hl1,?_,by simpa [upd] using hst,?_,?_⟩,by rw[oq,lX,ho];simp[lr]⟩
    .simp[upd,pm];exact hM
    .simp[upd,pw];exact hG
    .first|(simp[upd];done)|(simp[upd];first|exact y6|exact hwb|rfl)
    .first|(simp[upd];done)|(simp[upd];first|exact y6|exact hwb|rfl)
   .split at hq
    .rename_i hn
     simp only[ae1] at hq;subst hq;obtain⟨r1',i1,_,i3⟩:=hM.S6 (q:=({pc:= .l0},s.mu,s.ms)) (by simp[y4,mv,pm]);refine⟨by simp,r1',r2,⟨?_,i3,?_,by simpa [upd] using hst,?_,?_⟩,by rw[oq,lX,ho];simp[lr];omega⟩
     .simp[upd,pm];exact i1
     .simp[upd,pw];exact hG
     .first|(simp[upd];done)|(simp[upd];first|exact y6|exact hwb|rfl)
     .first|(simp[upd];done)|(simp[upd];first|exact y6|exact hwb|rfl)
    .simp at hq
  .simp[mv,ho] at hq
theorem vT.WQ (h:vT L s r1 r2)(hq:q∈mv (L .m) s):q.1.pc≠.bad/\∃r1' r2',vT (upd L .m q.1) q.2 r1' r2'/\ot (upd L .m q.1) r1' r2'<ot L r1 r2:=by
 have hl:=DR q.1.pc;obtain⟨hM,hl1,hG,hst,y6,hwb⟩:=h;have oq:∀r1' r2',ot (upd L .m q.1) r1' r2'=((L .a).n+(L .b).n)*1400+(r1'+r2')*32+(lr q.1.pc+lr (L .a).pc+lr (L .b).pc):=λr1' r2'=>by simp[ot,upd]
 have lX:ot L r1 r2=((L .a).n+(L .b).n)*1400+(r1+r2)*32+(lr (L .m).pc+lr (L .a).pc+lr (L .b).pc):=rfl;have FG:=hG.facts
 by_cases c1:kU (L .m).pc=true
 .obtain⟨e0,_,_,e3,e4,_,e6,e7,_⟩:=sL c1 hq
  refine⟨e7,r1,r2,⟨?_,hl1,?_,?_,?_,?_⟩,by rw[oq,lX];omega⟩
  .simp[upd,e0];exact hM
  .simp[upd,e0,e3];exact hG
  .simp[upd,e6,hst]
  .simp[upd,y6]
  .simp[upd,hwb]
 by_cases c2:ky (L .m).pc=true
 .obtain⟨m1,m2,m3,m5⟩:=Hy c2 hq
  have hm:(⟨p0 q.1,pw (L .a),pw (L .b),q.2.wg,q.2.ws⟩:GG)∈GG.succs ⟨p0 (L .m),pw (L .a),pw (L .b),s.wg,s.ws⟩:=by
   unfold GG.succs;exact List.mem_append_left _ (List.mem_append_left _ (List.mem_append_right _ (ae2.2 ⟨_,m1,rfl⟩)))
  obtain⟨r2',i1,i2⟩:=hG.step hm;have hnb:q.1.pc≠.bad:=λe=>by
   have:=(FG.no _ hm).1
   apply this
   simp[p0,e]
  refine⟨hnb,r1,r2',⟨?_,hl1,?_,?_,?_,?_⟩,by rw[oq,lX];omega⟩
  .simp[upd,m2,m3];exact hM
  .simp[upd];exact i1
  .simp[upd,m5.resolve_left hnb]
  .simp[upd,y6]
  .simp[upd,hwb]
 .exfalso
  revert c1 c2 hst hq
  cases hp:(L .m).pc<;>simp[kU,ky,mV,mv,hp]
theorem vT.move (h:vT L s r1 r2){r:bg}(hq:q∈mv (L r) s)(hu:(L r).pc≠.un):q.1.pc≠.bad/\∃r1' r2',vT (upd L r q.1) q.2 r1' r2'/\ot (upd L r q.1) r1' r2'<ot L r1 r2:=by
 cases r with
 |m=>exact h.WQ hq
 |a=>exact h.WT hq hu
 |b=>exact h.WS hq hu
theorem vT.fits (h:vT L s r1 r2):s.fits:=⟨h.ZY.facts.fits.1,h.ZY.facts.fits.2.1,h.Rl.facts.fits.2.2.1,h.Rl.facts.fits.2.2.2⟩
theorem vT.go {N:Nat}(h:vT L s r1 r2)(hg:(L .m).pc= .g1\/(L .m).pc= .g2)(hn:(L (eX (L .m).pc)).n=N):
  (L (eX (L .m).pc)).pc= .un/\∃r2',vT (upd (upd L .m (iz (L .m).pc)) (eX (L .m).pc) (at_ .out N)) s r1 r2'/\ot (upd (upd L .m (iz (L .m).pc)) (eX (L .m).pc) (at_ .out N)) r1 r2'<ot L r1 r2:=by
 obtain⟨hM,hl1,hG,hst,y6,hwb⟩:=h;have FG:=hG.facts;have S3:∀T:Lo,(pw T).pc= .un->T.pc= .un:=λT=>by cases hp:T.pc<;>simp[pw,hp]
 rcases hg with hg|hg
 .have e0:p0 (L .m)={pc:= .g1}:=by simp[p0,hg]
  rw[e0] at hG FG;have ha:(L .a).pc= .un:=S3 _ (FG.un1 (.inr rfl)).1;have Za:pm (L .a)={pc:= .out}:=by simp[pm,ha]
  have epw:pw (L .a)={pc:= .un}:=by simp[pw,ha]
  have hc:eX (L .m).pc= .a:=by rw[hg];rfl
  rw[hc] at hn⊢;have hb:iz (L .m).pc=at_ .k2 0:=by rw[hg];rfl
  rw[hb];rw[Za] at hM;obtain⟨r2',i1,i2⟩:=hG.step (H:=⟨{pc:= .x2},{pc:= .out},pw (L .b),s.wg,s.ws⟩) (by unfold GG.succs;simp);refine⟨ha,r2',⟨?_,hl1,?_,?_,?_,?_⟩,?_⟩
  .simp[upd,pm];exact hM
  .simp[upd,pw,p0];exact i1
  .first|(simp[upd];done)|(simp[upd];rfl)
  .first|(simp[upd];done)|(simp[upd];first|exact y6|exact hwb|rfl)
  .simp[upd,hwb]
  .simp[ot,upd,lr,hg,ha,hn];omega
 .have e0:p0 (L .m)={pc:= .g2}:=by simp[p0,hg]
  rw[e0] at hG FG;have ha:(L .b).pc= .un:=S3 _ (FG.un2 (.inr rfl)).2;have Za:pm (L .b)={pc:= .out}:=by simp[pm,ha]
  have epw:pw (L .b)={pc:= .un}:=by simp[pw,ha]
  have hc:eX (L .m).pc= .b:=by rw[hg];rfl
  rw[hc] at hn⊢;have hb:iz (L .m).pc=at_ .kw 0:=by rw[hg];rfl
  rw[hb];rw[Za] at hM;obtain⟨r2',i1,i2⟩:=hG.step (H:=⟨{pc:= .w1},pw (L .a),{pc:= .out},s.wg,s.ws⟩) (by unfold GG.succs;simp);refine⟨ha,r2',⟨?_,hl1,?_,?_,?_,?_⟩,?_⟩
  .simp[upd,pm];exact hM
  .simp[upd,pw,p0];exact i1
  .first|(simp[upd];done)|(simp[upd];rfl)
  .simp[upd,y6]
  .first|(simp[upd];done)|(simp[upd];first|exact y6|exact hwb|rfl)
  .simp[ot,upd,lr,hg,ha,hn];omega
end
def born (L:bg->Lo)(r:bg):Prop:=(L r).pc≠.un
instance (L:bg->Lo)(r:bg):Decidable (born L r):=by unfold born;infer_instance
def nb (L:bg->Lo):Nat:=(if(L .a).pc= .un then 0 else 1)+(if(L .b).pc= .un then 0 else 1)
def Lo.sleeps (T:Lo)(s:Sh):Bool:=(T.pc== .s1&&s.ms==0)||(T.pc== .w3&&s.ws==0)
def past:Pc->Bool
 |.wk|.d1|.d2|.d3|.d4|.quit=>true
 |_=>false
def MC:bg->bg
 |.a=> .b
 |_=> .a
def hold (L:bg->Lo):Option bg:=if(L .a).pc= .ur then some .a else if(L .b).pc= .ur then some .b else none
section
variable {Δ:Type}(X:Cx Δ)(P:χ)(Post:Gh Δ->Ω->Θ->Prop)
def Sit (k:Nat)(r:bg)(T:Lo)(γ:Gh Δ)(ρ:Rk)(aw d q:Nat)(s:Sh)(g:Ω)(w:Θ):Prop:=
 (T.pc≠.quit/\d=gv T.pc/\aw=1/\ig P (vQ r) (fi X (eQ T.pc) γ.ro) (dQ (AtR X P Post k r) T γ) ρ γ.own g w)\/
 (T.pc≠.quit/\d=gv T.pc/\aw=0/\T.sleeps s=true/\∃g₀,g={g₀ with status:= .blocked}/\∀w₁,RX X γ.ro γ.own w w₁->dQ (AtR X P Post k r) T γ γ.own g₀ w₁)\/
 (T.pc= .quit/\aw=0/\QuitsD P q d g)
end
section
variable {Δ:Type}{X:Cx Δ}{P:χ}{Post:Gh Δ->Ω->Θ->Prop}{k:Nat}{r:bg}{T:Lo}{γ:Gh Δ}{ρ:Rk}{aw d q:Nat}{s s':Sh}{g x x':Ω}{w w₁:Θ}
theorem iU {own:Nat->Prop}(h:dQ (AtR X P Post (k+1) r) T γ own g w):g.status= .running/\g.offers=none:=let⟨_,_,h⟩:=h;h.running
theorem jc {b:Bool}{own:Nat->Prop}(h:ig P (vQ r) (fi X b γ.ro) (dQ (AtR X P Post (k+1) r) T γ) ρ own g w):g.status= .running:=by
 cases ρ with
 |zero=>exact(iU (h w (RX.refl X _ _ w))).1
 |mk f=>exact h.elim (λh=>(iU (h w (RX.refl X _ _ w))).1) λh=>h.1
theorem xW {b:Bool}{S:(Nat->Prop)->Ω->Θ->Prop}{own:Nat->Prop}(h:∀w₁,RX X γ.ro own w w₁->S own g w₁):ig P (vQ r) (fi X b γ.ro) S ρ own g w:=by
 cases ρ with
 |zero=>exact h
 |mk f=>exact .inl h
theorem Sit.status (h:Sit X P Post (k+1) r T γ ρ aw d q s g w):g.status= .running\/g.status= .blocked\/g.status= .finished:=by
 rcases h with⟨_,_,_,hg⟩|⟨_,_,_,_,g₀,rfl,_⟩|⟨_,_,hq⟩
 .exact .inl (jc hg)
 .exact .inr (.inl rfl)
 .exact hq.status.elim .inl λx=> .inr (.inr x)
theorem Sit.other (h:Sit X P Post (k+1) r T γ ρ aw d q s g w)(hr:RX X γ.ro γ.own w w₁)(hw:T.sleeps s=true->T.sleeps s'=true\/(mayWake P x=true/\x'.status= .running)):
  ∃aw',Sit X P Post (k+1) r T γ ρ aw' d q s' (woken P x x' w₁ g) w₁:=by
 rcases h with⟨h1,h2,h3,hg⟩|⟨h1,h2,h3,h4,g₀,rfl,hg⟩|⟨h1,h2,hq⟩
 .refine⟨1,.inl ⟨h1,h2,rfl,?_⟩⟩
  have:woken P x x' w₁ g=g:=by unfold woken;split;exact again_running _ (.inl (jc hg));rfl
  rw[this];exact hg.rely hr
 .have hst:=hg w₁ hr
  have hg':∀w₂,RX X γ.ro γ.own w₁ w₂->dQ (AtR X P Post (k+1) r) T γ γ.own g₀ w₂:=λw₂ h₂=>hg w₂ (hr.trans X h₂)
  by_cases hc:(mayWake P x&&x'.status != .blocked&&x'.status != .waiting)=true
  .refine⟨1,.inl ⟨h1,h2,rfl,?_⟩⟩
   have:woken P x x' w₁ {g₀ with status:= .blocked}=g₀:=by unfold woken;rw[ξ hc];exact ConcR.again_blocked (iU hst).1 (iU hst).2 _
   rw[this];exact xW hg'
  .have:woken P x x' w₁ {g₀ with status:= .blocked}={g₀ with status:= .blocked}:=by unfold woken;rw[ζ hc]
   rw[this];rcases hw h4 with h5|⟨h5,h6⟩
   .exact⟨0,.inr (.inl ⟨h1,h2,rfl,h5,g₀,rfl,hg'⟩)⟩
   .exact absurd (by simp[h5,h6]) hc
 .exact⟨0,.inr (.inr ⟨h1,rfl,by rw[woken_quitsD hq];exact hq⟩)⟩
theorem Sit.rely (h:Sit X P Post (k+1) r T γ ρ aw d q s g w)(hr:RX X γ.ro γ.own w w₁):Sit X P Post (k+1) r T γ ρ aw d q s g w₁:=by
 rcases h with⟨h1,h2,h3,hg⟩|⟨h1,h2,h3,h4,g₀,rfl,hg⟩|h
 .exact .inl ⟨h1,h2,h3,hg.rely hr⟩
 .exact .inr (.inl ⟨h1,h2,h3,h4,g₀,rfl,λw₂ h₂=>hg w₂ (hr.trans X h₂)⟩)
 .exact .inr (.inr h)
end
section
variable {Δ:Type}(X:Cx Δ)(S0:Nat->Prop)
def y9 (l:Loc):Prop:=∃a:Addr,l= .cell a/\(S0 a.block\/a.block=X.Wg\/(a.block=X.Fd/\a.off≠2))
def O4 (γ:bg->Gh Δ)(L:bg->Lo)(r:bg)(l:Loc):Prop:=born L r/\((∃c,(γ r).ro c/\lF c l)\/∃sp,l= .cell ⟨X.Fd,2,sp⟩)
structure Lay (γ:bg->Gh Δ)(L:bg->Lo)(B:Nat):Prop where
 sp:∀r c,(γ r).own c\/(γ r).ro c->c≠X.Fd/\c≠X.Wg/\¬S0 c/\c<B
 ZT:∀r,¬(γ r).ro X.M
 vL:∀r,(γ r).own X.M↔(L r).pc= .ur
 apart:∀r r' c,(γ r).own c->(γ r').own c->r=r'
 Aq:∀r r' c,(γ r).own c->¬(γ r').ro c
 lv:∀r c,(γ r).own c\/(γ r).ro c->born L r
 fm:X.Fd≠X.M
 fw:X.Fd≠X.Wg
 mw:X.M≠X.Wg
 s0:∀c,S0 c->c<B/\c≠X.Fd/\c≠X.M/\c≠X.Wg
 vP:X.Fd<B
 BG:X.M<B
 ub:X.Wg<B
end
section
variable {Δ:Type}{X:Cx Δ}{S0:Nat->Prop}{γ:bg->Gh Δ}{L:bg->Lo}{B:Nat}
theorem Hg {l:Loc}(h:y9 X S0 l):l.isMemory=true:=by obtain⟨a,rfl,_⟩:=h;rfl
theorem ll {c:Nat}{a:Addr}(h:lF c (.cell a)):a.block=c:=by
 rcases h with⟨a',e,h⟩|h
 .cases e;exact h
 .cases h
theorem Lay.ap (h:Lay X S0 γ L B)(hx:¬((L .a).pc= .ur/\(L .b).pc= .ur))(hm:(L .m).pc≠.ur):Ap (y9 X S0) (O4 X γ L) (born L) (λr=>(γ r).own) X.M (hold L) B:=by
 have Hx:∀c l,c≠X.Fd->c≠X.Wg->¬S0 c->lF c l->¬y9 X S0 l:=λc l h1 h2 h3 hb ⟨a,e,ha⟩=>by
  subst e;have:=ll hb;subst this;rcases ha with ha|ha|ha
  .exact h3 ha
  .exact h2 ha
  .exact h1 ha.1
 have MK:∀r c l,(∀r',¬(γ r').ro c)->c≠X.Fd->lF c l->¬O4 X γ L r l:=λr c l h1 h2 hb ⟨_,hr⟩=>by
  rcases hr with⟨c',h3,hb'⟩|⟨sp,e⟩
  .exact h1 r (lF.uniq hb hb'▸h3)
  .subst e
   exact h2 (ll hb).symm
 refine⟨λr c l ho hb=>?_,λr c l r' ho hb=>?_,h.apart,λr l hr hs=>?_,λl hb=>⟨?_,λr=>?_⟩,λr ho=>?_,λr c ho=>h.lv r c (.inl ho),λc l hb hc=>⟨?_,λr=>?_⟩,h.BG,λr c ho=>(h.sp r c (.inl ho)).2.2.2,λl=>Hg,λr l hr=>?_⟩
 .obtain⟨a1,a2,a3,_⟩:=h.sp r c (.inl ho)
  exact Hx c l a1 a2 a3 hb
 .obtain⟨a1,a2,a3,_⟩:=h.sp r c (.inl ho)
  exact MK r' c l (λr''=>h.Aq r r'' c ho) a1 hb
 .rcases hr.2 with⟨c,h3,hb⟩|⟨sp,e⟩
  .obtain⟨a1,a2,a3,_⟩:=h.sp r c (.inr h3)
   exact Hx c l a1 a2 a3 hb hs
  .subst e
   obtain⟨a,e,ha⟩:=hs;cases e;rcases ha with ha|ha|ha
   .exact(h.s0 _ ha).2.1 rfl
   .exact h.fw ha
   .exact ha.2 rfl
 .exact Hx X.M l (λe=>h.fm e.symm) h.mw (λe=>(h.s0 _ e).2.2.1 rfl) hb
 .exact MK r X.M l h.ZT (λe=>h.fm e.symm) hb
 .have hu:=(h.vL r).1 ho
  unfold hold;cases r with
  |m=>exact absurd hu hm
  |a=>rw[ξ hu]
  |b=>rw[ζ λe=>hx ⟨e,hu⟩,ξ hu]
 .refine Hx c l (λe=>?_) (λe=>?_) (λe=>?_) hb
  .have:=h.vP;omega
  .have:=h.ub;omega
  .have:=(h.s0 _ e).1;omega
 .refine MK r c l (λr' e=>?_) (λe=>?_) hb
  .have:=(h.sp r' c (.inr e)).2.2.2;omega
  .have:=h.vP;omega
 .rcases hr.2 with⟨c,_,hb⟩|⟨sp,rfl⟩
  .exact hb.mem
  .rfl
theorem Lay.grow (h:Lay X S0 γ L B){r:bg}{B':Nat}(hB:B<=B')(hr:born L r):
  Lay X S0 (upd γ r {γ r with own:=λb=>(γ r).own b\/(B<=b/\b<B')}) L B':=by
 have ho:∀r' c,(upd γ r {γ r with own:=λb=>(γ r).own b\/(B<=b/\b<B')} r').own c->(γ r').own c\/(r'=r/\B<=c/\c<B'):=λr' c h'=>by
  by_cases e:r'=r
  .subst e;rw[upd_same] at h';exact h'.imp id λz=>⟨rfl,z⟩
  .rw[upd_ne _ _ e] at h';exact .inl h'
 have hro:∀r' c,(upd γ r {γ r with own:=λb=>(γ r).own b\/(B<=b/\b<B')} r').ro c->(γ r').ro c:=λr' c h'=>by
  by_cases e:r'=r
  .subst e;rw[upd_same] at h';exact h'
  .rw[upd_ne _ _ e] at h';exact h'
 refine⟨λr' c h'=>?_,λr' h'=>h.ZT r' (hro _ _ h'),λr'=>⟨λh'=>?_,λh'=>?_⟩,λr' r'' c h' h''=>?_,λr' r'' c h' h''=>?_,λr' c h'=>?_,h.fm,h.fw,h.mw,λc hc=>⟨ψ (h.s0 c hc).1 hB,(h.s0 c hc).2⟩,ψ h.vP hB,ψ h.BG hB,ψ h.ub hB⟩
 .rcases h' with h'|h'
  .rcases ho _ _ h' with h'|⟨_,h1,h2⟩
   .obtain⟨a1,a2,a3,a4⟩:=h.sp r' c (.inl h')
    exact⟨a1,a2,a3,by omega⟩
   .exact⟨λe=>by have:=h.vP;omega,λe=>by have:=h.ub;omega,λe=>by have:=(h.s0 c e).1;omega,h2⟩
  .obtain⟨a1,a2,a3,a4⟩:=h.sp r' c (.inr (hro _ _ h'))
   exact⟨a1,a2,a3,by omega⟩
 .rcases ho _ _ h' with h'|⟨_,h1,_⟩
  .exact(h.vL r').1 h'
  .have:=h.BG;omega
 .have:=(h.vL r').2 h'
  by_cases e:r'=r
  .subst e;rw[upd_same];exact .inl this
  .rw[upd_ne _ _ e];exact this
 .rcases ho _ _ h' with h1|⟨e1,h1,_⟩<;>rcases ho _ _ h'' with h2|⟨e2,h2,_⟩
  .exact h.apart _ _ c h1 h2
  .have:=(h.sp r' c (.inl h1)).2.2.2;omega
  .have:=(h.sp r'' c (.inl h2)).2.2.2;omega
  .rw[e1,e2]
 .rcases ho _ _ h' with h1|⟨_,h1,_⟩
  .exact h.Aq _ _ c h1 (hro _ _ h'')
  .have:=(h.sp r'' c (.inr (hro _ _ h''))).2.2.2;omega
 .rcases h' with h'|h'
  .rcases ho _ _ h' with h'|⟨rfl,_⟩
   .exact h.lv r' c (.inl h')
   .exact hr
  .exact h.lv r' c (.inr (hro _ _ h'))
end
theorem TI.mono {n0:Nat}{Sh:Loc->Prop}{RO RO':bg->Loc->Prop}{lv lv':bg->Prop}{own own':bg->Nat->Prop}{M:Nat}{hold:Option bg}{mA wA:Addr}{B:Nat}{t:Trace}
  (h:TI n0 Sh RO lv own M hold mA wA B t) (h1:∀r l,RO' r l->RO r l) (h2:∀r,lv' r↔lv r) (h3:∀r c,own' r c->own r c):TI n0 Sh RO' lv' own' M hold mA wA B t:=by
 have e:lv'=lv:=funext λr=>propext (h2 r)
 subst e;exact⟨h.clean,h.quiet,λr c ho=>h.own r c (h3 r c ho),λr i x hx hr=>h.ro r i x hx (h1 r _ hr),h.guard,h.base,h.work,h.over,h.ids,h.QQ,h.nrW,h.low⟩
end aG
end
section
open Go.Conc
open Go.ConcN (sumTo)
open Go.ConcM (OsLater)
namespace aG
structure Cf (Δ:Type) where
 n0:Nat
 L:bg->Lo
 γ:bg->Gh Δ
 k:bg->Nat
 ρ:bg->Rk
 aw:bg->Nat
 ds:bg->Nat
 q:Nat->Nat
 s:Sh
 r1:Nat
 r2:Nat
def LtF (a b:bg->Rk):Prop:=∃r,Rk.Lt (a r) (b r)/\∀r',r'≠r->a r'=b r'
theorem W4:WellFounded LtF:=by
 have key:∀x:Rk,Acc Rk.Lt x->∀y:Rk,Acc Rk.Lt y->∀z:Rk,Acc Rk.Lt z->∀f:bg->Rk,f .m=x->f .a=y->f .b=z->Acc LtF f:=by
  intro x hx
  induction hx with
  |intro x _ ihx=>
  intro y hy
  induction hy with
  |intro y hy' ihy=>
  intro z hz
  induction hz with
  |intro z hz' ihz=>
  intro f h1 h2 h3;refine⟨_,λg hg=>?_⟩;obtain⟨r,hl,he⟩:=hg;cases r with
  |m=>exact ihx _ (h1▸hl) _ (Rk.acc _) _ (Rk.acc _) g rfl rfl rfl
  |a=>exact ihy _ (h2▸hl) _ (Rk.acc _) g ((he .m (by simp)).trans h1) rfl rfl
  |b=>exact ihz _ (h3▸hl) g ((he .m (by simp)).trans h1) ((he .a (by simp)).trans h2) rfl
 exact⟨λf=>key _ (Rk.acc _) _ (Rk.acc _) _ (Rk.acc _) f rfl rfl rfl⟩
abbrev Ms:=Nat×(bg->Rk)×Nat×Nat
def Ug:Ms->Ms->Prop:=Prod.Lex (·<·) (Prod.Lex LtF (Prod.Lex (·<·) (·<·)))
theorem W3:WellFounded Ug:=(Prod.lex Nat.lt_wfRel (Prod.lex ⟨LtF,W4⟩ (Prod.lex Nat.lt_wfRel Nat.lt_wfRel))).wf
def awS (aw:bg->Nat):Nat:=aw .m+aw .a+aw .b
def Cf.ms {Δ:Type}(C:Cf Δ)(n:Nat):Ms:=(ot C.L C.r1 C.r2,C.ρ,sumTo n C.q,awS C.aw)
section
variable {Δ:Type}(X:Cx Δ)(P:χ)(Post:Gh Δ->Ω->Θ->Prop)(S0:Nat->Prop)
structure Core (C:Cf Δ)(gs:Array Ω)(w:Θ)(t:Trace):Prop where
 sK:0<C.n0
 size:gs.size=C.n0+nb C.L
 tab:vT C.L C.s C.r1 C.r2
 fuel:∀r,born C.L r->ot C.L C.r1 C.r2<C.k r
 sh:ShAt X w C.s
 sit:∀r,born C.L r->∃g,gs[gid C.n0 r]? =some g/\Sit X P Post (C.k r) r (C.L r) (C.γ r) (C.ρ r) (C.aw r) (C.ds r) (C.q (gid C.n0 r)) C.s g w
 S2:∀r,¬born C.L r->(C.γ r).mine=X.c0 r/\(C.L r).n=X.N r
 old:∀i g,0<i->i<C.n0->gs[i]? =some g->QuitsD P (C.q i) (Deaf t i) g
 above:∀j,gs.size<=j->Deaf t j=0
 deaf:∀r,born C.L r->Deaf t (gid C.n0 r)=C.ds r
 data:(C.L .a).pc≠.ur->(C.L .b).pc≠.ur->∃o,w.heap[X.M]? =some o/\X.Dat (C.γ .a).mine (C.γ .b).mine o
 Gz:∀r,(C.L r).pc= .ur->(C.γ r).other=(C.γ (MC r)).mine
 fin:∀r,past (C.L r).pc=true->(C.γ r).mine=X.fin r
 rel:∀r,past (C.L r).pc=true->∃p,ConcN.RelBy (wA X) t (gid C.n0 r) p
 lay:Lay X S0 C.γ C.L w.heap.size
 ti:TI C.n0 (y9 X S0) (O4 X C.γ C.L) (born C.L) (λr=>(C.γ r).own) X.M (hold C.L) (mA X) (wA X) w.heap.size t
def Cm (n0:Nat)(μ:Ms)(m:Machine)(t:Trace):Prop:=∃(C:Cf Δ) (gs:Array Ω) (w:Θ) (sl:Option (Nat×Nat)),C.n0=n0/\m=crowd gs w sl/\Core X P Post S0 C gs w t/\μ=C.ms gs.size
end
section
variable {Δ:Type}{X:Cx Δ}{P:χ}{Post:Gh Δ->Ω->Θ->Prop}{S0:Nat->Prop}{C:Cf Δ}{gs:Array Ω}{w w':Θ}{t:Trace}{sl:Option (Nat×Nat)}{r:bg}{x x':Ω}{es:Array Event}
theorem lY {L:bg->Lo}{s:Sh}{r1 r2:Nat}(h:vT L s r1 r2):¬((L .a).pc= .ur/\(L .b).pc= .ur):=λ⟨x,y⟩=>h.ZY.facts.excl ⟨by simp[pm,x],by simp[pm,y]⟩
theorem jx {L:bg->Lo}{s:Sh}{r1 r2:Nat}(h:vT L s r1 r2){p:Pc}(hp:mV p=false):(L .m).pc≠p:=λe=>by have:=h.st;rw[e,hp] at this;cases this
theorem Core.ap (c:Core X P Post S0 C gs w t):Ap (y9 X S0) (O4 X C.γ C.L) (born C.L) (λr=>(C.γ r).own) X.M (hold C.L) w.heap.size:=c.lay.ap (lY c.tab) (jx c.tab rfl)
theorem Core.pG (c:Core X P Post S0 C gs w t):born C.L .m:=jx c.tab rfl
theorem Core.kpos (c:Core X P Post S0 C gs w t)(hr:born C.L r):∃k',C.k r=k'+1:=by
 have:=c.fuel r hr;exact⟨C.k r-1,by omega⟩
theorem Ju (lay:Lay X S0 C.γ C.L w.heap.size){deaf:Bool}(h:DX X deaf (C.γ r).ro (C.γ r).own w w' es){r':bg}(hne:r'≠r):RX X (C.γ r').ro (C.γ r').own w w':=by
 have no:∀b,b=X.Fd\/b=X.Wg->¬(C.γ r).own b:=λb hb ho=>by
  obtain⟨a1,a2,_⟩:=lay.sp r b (.inl ho);exact hb.elim a1 a2
 refine⟨h.tape,h.output,h.size,h.os,λb hb ho=>h.keep b hb λho'=>?_,λ⟨s,hs⟩=>⟨s,?_,?_⟩⟩
 .rcases ho with ho|ho
  .exact hne (lay.apart _ _ b ho ho')
  .exact lay.Aq _ _ b ho' ho
 .rw[h.keep _ lay.vP (no _ (.inl rfl))];exact hs.1
 .rw[h.keep _ lay.ub (no _ (.inr rfl))];exact hs.2
theorem P0 (lay:Lay X S0 C.γ C.L w.heap.size){deaf:Bool}(h:DX X deaf (C.γ r).ro (C.γ r).own w w' es){s:Sh}(hs:ShAt X w s):ShAt X w' s:=by
 have no:∀b,b=X.Fd\/b=X.Wg->¬(C.γ r).own b:=λb hb ho=>by
  obtain⟨a1,a2,_⟩:=lay.sp r b (.inl ho);exact hb.elim a1 a2
 exact⟨by rw[h.keep _ lay.vP (no _ (.inl rfl))];exact hs.1,by rw[h.keep _ lay.ub (no _ (.inr rfl))];exact hs.2⟩
theorem Jv (lay:Lay X S0 C.γ C.L w.heap.size)(h:ConcM.Eff X.Fd X.Wg w w'){s:Sh}(hs:ShAt X w' s)(r':bg):RX X (C.γ r').ro (C.γ r').own w w':=
 ⟨h.tape,h.output,by rw[h.size];exact ι _,h.os,λb _ ho=>by
  obtain⟨a1,a2,_⟩:=lay.sp r' b ho;exact h.block b a1 a2,λ_=>⟨s,hs⟩⟩
theorem BU (c:Core X P Post S0 C gs w t)(hr:born C.L r):gid C.n0 r<gs.size:=by
 obtain⟨g,hg,_⟩:=c.sit r hr;exact(Ψ.1 hg).1
theorem wq {n0:Nat}(hn:0<n0){i:Nat}(h0:0<i)(h1:i<n0)(r:bg):gid n0 r≠i:=by cases r<;>simp[gid]<;>omega
theorem Core.others (c:Core X P Post S0 C gs w t)(hr:born C.L r)(acX:∀r',r'≠r->RX X (C.γ r').ro (C.γ r').own w w'){s':Sh}
  (hw:∀r',r'≠r->(C.L r').sleeps C.s=true->(C.L r').sleeps s'=true\/(mayWake P x=true/\x'.status= .running)):
  ∃aw':bg->Nat,∀r',r'≠r->born C.L r'->∃g,((gs.map (woken P x x' w')).setIfInBounds (gid C.n0 r) x')[gid C.n0 r']? =some g/\Sit X P Post (C.k r') r' (C.L r') (C.γ r') (C.ρ r') (aw' r') (C.ds r') (C.q (gid C.n0 r')) s' g w':=by
 have key:∀r',∃a,r'≠r->born C.L r'->∃g,((gs.map (woken P x x' w')).setIfInBounds (gid C.n0 r) x')[gid C.n0 r']? =some g/\Sit X P Post (C.k r') r' (C.L r') (C.γ r') (C.ρ r') a (C.ds r') (C.q (gid C.n0 r')) s' g w':=λr'=>by
  by_cases h:r'≠r/\born C.L r'
  .obtain⟨h1,h2⟩:=h
   obtain⟨g,hg,hs⟩:=c.sit r' h2;obtain⟨k',hk⟩:=c.kpos h2;rw[hk] at hs⊢;obtain⟨a,ha⟩:=hs.other (x:=x) (x':=x') (acX r' h1) (hw r' h1);exact⟨a,λ_ _=>⟨_,by rw[ConcN.get_map_set _ _ _ _ (λe=>h1 (kF c.sK e).symm),hg];rfl,ha⟩⟩
  .exact⟨0,λh1 h2=>absurd ⟨h1,h2⟩ h⟩
 exact⟨λr'=>(key r').choose,λr'=>(key r').choose_spec⟩
theorem vd {g:Nat}{fn:ab9}{pos:String}{es:Array Event}:∀op∈MemOp.ofEvents g fn pos es,op.g=g:=λop h=>by obtain⟨e,_,rfl⟩:=Go.Conc.mem_ofEvents h;rfl
theorem Core.olds (c:Core X P Post S0 C gs w t){fn:ab9}{pos:String}{es:Array Event}:∀i g,0<i->i<C.n0->((gs.map (woken P x x' w')).setIfInBounds (gid C.n0 r) x')[i]? =some g->QuitsD P (C.q i) (Deaf (t++MemOp.ofEvents (gid C.n0 r) fn pos es) i) g:=by
 intro i g h0 h1 hg;rw[ConcN.get_map_set _ _ _ _ (wq c.sK h0 h1 r)] at hg;obtain⟨y,hy,rfl⟩:=φ.1 hg;have hq:=c.old i y h0 h1 hy;rw[woken_quitsD hq,Deaf_other t (wq c.sK h0 h1 r) _ vd];exact hq
theorem yz (c:Core X P Post S0 C gs w t)(hr:born C.L r){fn:ab9}{pos:String}{es:Array Event}{n:Nat}(hn:n=gs.size):∀j,n<=j->Deaf (t++MemOp.ofEvents (gid C.n0 r) fn pos es) j=0:=by
 intro j hj;have:=BU c hr;rw[Deaf_other t (g':=gid C.n0 r) (by omega) _ vd];exact c.above j (by omega)
theorem vq (c:Core X P Post S0 C gs w t){fn:ab9}{pos:String}{es:Array Event}{r':bg}(hne:r'≠r)(hr':born C.L r'):Deaf (t++MemOp.ofEvents (gid C.n0 r) fn pos es) (gid C.n0 r')=C.ds r':=by
 rw[Deaf_other t (λe=>hne (kF c.sK e).symm) _ vd];exact c.deaf r' hr'
theorem xx (c:Core X P Post S0 C gs w t){fn:ab9}{pos:String}{es:Array Event}{r':bg}(hne:r'≠r){p:Nat}(h:ConcN.RelBy (wA X) t (gid C.n0 r') p):ConcN.RelBy (wA X) (t++MemOp.ofEvents (gid C.n0 r) fn pos es) (gid C.n0 r') p:=
 ConcN.RelBy.appOther h vd λe=>hne (kF c.sK e).symm
theorem sI {m:Mark}(h:ph m):(MemAct.mark m).touch? =none/\m≠.disable/\m≠.enable/\(∀a,m≠.release a)/\∀B,(MemAct.mark m).low B:=by
 cases m<;>simp[ph] at h<;>simp[MemAct.touch?,MemAct.low]
theorem dD {e:Event}{m:Mark}(h:e.loc= .mark m):MemAct.ofEvent e= .mark m:=by
 obtain⟨l,a,b⟩:=e;cases h;cases a<;>cases b<;>rfl
theorem pi {e:Event}{c:Nat}(h:lF c e.loc):(∀m,MemAct.ofEvent e≠.mark m)/\(∀B,c<B->(MemAct.ofEvent e).low B)/\∀z,(MemAct.ofEvent e).touch? =some z->z.loc=e.loc/\z.write=e.write:=by
 obtain⟨l,a,b⟩:=e;rcases h with⟨ad,h,hc⟩|h
 .simp only at h
  subst h;refine⟨λm=>by cases a<;>cases b<;>simp[MemAct.ofEvent],λB hB=>?_,λz hz=>?_⟩
  .have:(MemAct.access ⟨.cell ad,a,b⟩).low B:=by show ad.block<B;omega
   cases a<;>cases b<;>exact this
  .cases a<;>cases b<;>simp[MemAct.ofEvent,MemAct.touch?] at hz<;>subst hz<;>exact⟨rfl,rfl⟩
 .simp only at h
  subst h;refine⟨λm=>by cases a<;>cases b<;>simp[MemAct.ofEvent],λB hB=>?_,λz hz=>?_⟩
  .have h1:(MemAct.access ⟨.obj c,a,b⟩).low B:=hB
   have h2:(MemAct.close c).low B:=hB;cases a<;>cases b<;>first|exact h1|exact h2
  .cases a<;>cases b<;>simp[MemAct.ofEvent,MemAct.touch?] at hz<;>subst hz<;>exact⟨rfl,rfl⟩
theorem JF (c:Core X P Post S0 C gs w t)(hr:born C.L r){deaf:Bool}(h:DX X deaf (C.γ r).ro (C.γ r).own w w' es){fn:ab9}{pos:String}:
  ∀op∈MemOp.ofEvents (gid C.n0 r) fn pos es,OkOp C.n0 (y9 X S0) (O4 X C.γ C.L) (λr=>(C.γ r).own) (mA X) (wA X) w.heap.size w'.heap.size r op/\op.act≠.mark .disable/\op.act≠.mark .enable:=by
 intro op hop;obtain⟨e,he,rfl⟩:=Go.Conc.mem_ofEvents hop;rcases h.ev e he with⟨b,hb,hin⟩|⟨h1,h2,h3⟩|⟨m,h1,h2⟩
 .obtain⟨e1,e2,e3⟩:=pi hin
  have hlow:b<w'.heap.size:=by
   rcases hb with hb|hb|hb
   .have:=(c.lay.sp r b (.inl hb)).2.2.2;have:=h.size;omega
   .exact hb.2
   .have:=(c.lay.sp r b (.inr hb.1)).2.2.2;have:=h.size;omega
  refine⟨⟨rfl,e1 _,e1 _,e2 _ hlow,λz hz=>?_⟩,e1 _,e1 _⟩;obtain⟨z1,z2⟩:=e3 z hz;rw[z1,z2];rcases hb with hb|hb|hb
  .exact .inr (.inl ⟨b,hin,.inl hb⟩)
  .exact .inr (.inl ⟨b,hin,.inr hb⟩)
  .exact .inr (.inr (.inl ⟨⟨hr,.inl ⟨b,hb.1,hin⟩⟩,hb.2⟩))
 .have hin:lF X.Fd e.loc:=by rw[h1];exact .inl ⟨_,rfl,rfl⟩
  obtain⟨e1,e2,e3⟩:=pi hin;refine⟨⟨rfl,e1 _,e1 _,e2 _ (ψ c.lay.vP h.size),λz hz=>?_⟩,e1 _,e1 _⟩;obtain⟨z1,z2⟩:=e3 z hz;rw[z1,z2];exact .inr (.inr (.inl ⟨⟨hr,.inr ⟨none,h1⟩⟩,h2⟩))
 .obtain⟨m1,m2,m3,m4,m5⟩:=sI h2
  have e0:=dD h1;refine⟨⟨rfl,?_,?_,?_,λz hz=>?_⟩,?_,?_⟩<;>simp only[e0]
  .simpa using m4 _
  .simpa using m4 _
  .exact m5 _
  .simp only[e0,m1] at hz;cases hz
  .simpa using m2
  .simpa using m3
theorem yB {g:Nat}{fn:ab9}{pos:String}{es:Array Event}(hd:Deaf t g=0)(hes:∀e∈es,e.loc≠.mark .disable/\e.loc≠.mark .enable){i:Nat}{z:Touch}(hi:t.size<=i)
  (hz:touchAt (t++MemOp.ofEvents g fn pos es) i=some z) (hm:z.loc.isMemory=true):(t++MemOp.ofEvents g fn pos es).counts i:=by
 refine⟨z,hz,hm,.inr ?_⟩;obtain⟨op,ho,_⟩:=touch_of hz;have hg:op.g=g:=by
  rcases getElem?_append_cases ho with⟨h,_⟩|⟨_,h⟩
  .omega
  .exact vd op h
 have hlt:=lt_size_of_getElem? ho;have hsz:(MemOp.ofEvents g fn pos es).size=es.size:=by rw[ofEvents_eq];simp
 refine⟨g,by simp[Trace.g?,ho,hg],?_⟩;have:=deaf_inside t g fn pos es (i-t.size) (by rw[Array.size_append,hsz] at hlt;omega);rw[show t.size+(i-t.size)=i by omega] at this;rw[this,deafBehind_still (λe he=>hes e (by
  obtain⟨j,hj⟩:=Array.mem_iff_getElem?.1 he;rw[Array.getElem?_extract] at hj;split at hj
  .exact Array.mem_of_getElem? hj
  .cases hj)),hd]
theorem Ly (c:Core X P Post S0 C gs w t)(hr:born C.L r)(hx:gs[gid C.n0 r]? =some x){f:Θ->Rk}(hρ:C.ρ r= .mk f)(hnq:(C.L r).pc≠.quit)(hdd:C.ds r=gv (C.L r).pc)
  (hs:stepG P (vQ r) x w= .go x' w' es) (hD:DX X (eQ (C.L r).pc) (C.γ r).ro (C.γ r).own w w' es)
  (hl:ig P (vQ r) (fi X (eQ (C.L r).pc) (C.γ r).ro) (dQ (AtR X P Post (C.k r) r) (C.L r) (C.γ r)) (f w) (λb=>(C.γ r).own b\/(w.heap.size<=b/\b<w'.heap.size)) x' w'):
  ∃m₁ ops μ',runT P (crowd gs w sl) (gid C.n0 r)=(.next m₁,ops)/\Ug μ' (C.ms gs.size)/\Cm X P Post S0 C.n0 μ' m₁ (t++ops):=by
 have hrun:=runT_crowd_go (P:=P) (sl:=sl) (i:=gid C.n0 r) hx (by rw[BN c.sK];exact hs);obtain⟨aw',haw⟩:=c.others (x:=x) (x':=x') hr (λr' h=>Ju c.lay hD h) (s':=C.s) λr' _ h=> .inl h
 have hok:=JF c hr hD (fn:=x.frame.fn) (pos:=x.frame.place);have hmarks:∀e∈es,e.loc≠.mark .disable/\e.loc≠.mark .enable:=λe he=>by
  have:=hok {g:=gid C.n0 r,fn:=x.frame.fn,pos:=x.frame.place,act:= .ofEvent e} (by rw[ofEvents_eq];exact Array.mem_map.2 ⟨e,he,rfl⟩);exact⟨λh=>this.2.1 (dD h),λh=>this.2.2 (dD h)⟩
 have hdeaf:Deaf (t++MemOp.ofEvents (gid C.n0 r) x.frame.fn x.frame.place es) (gid C.n0 r)=C.ds r:=by
  rw[Deaf_own,deafBehind_still hmarks];exact c.deaf r hr
 have hcnt:r≠.m->∀i z,t.size<=i->touchAt (t++MemOp.ofEvents (gid C.n0 r) x.frame.fn x.frame.place es) i=some z->z.loc.isMemory=true->(t++MemOp.ofEvents (gid C.n0 r) x.frame.fn x.frame.place es).counts i\/(y9 X S0 z.loc/\z.kind= .atomic):=λ_ i z hi hz hm=>by
  by_cases hd0:gv (C.L r).pc=0
  .exact .inl (yB (by rw[c.deaf r hr,hdd,hd0]) hmarks hi hz hm)
  .have he:=hD.mute (by simp[eQ,hd0])
   subst he;obtain⟨op,ho,_⟩:=touch_of hz;have:=lt_size_of_getElem? ho;simp[ofEvents_none] at this;omega
 have hti:=TI.app c.sK c.ap c.ti hr hD.size (λop ho=>(hok op ho).1) hcnt;have hsz:((gs.map (woken P x x' w')).setIfInBounds (gid C.n0 r) x').size=gs.size:=by simp
 let own':Nat->Prop:=λb=>(C.γ r).own b\/(w.heap.size<=b/\b<w'.heap.size)
 let C':Cf Δ:={C with γ:=upd C.γ r {C.γ r with own:=own'},ρ:=upd C.ρ r (f w),aw:=upd aw' r 1}
 have n9:∀r',(C'.γ r').mine=(C.γ r').mine/\(C'.γ r').other=(C.γ r').other/\(C'.γ r').ro=(C.γ r').ro:=λr'=>by
  by_cases e:r'=r
  .subst e;simp[C',upd_same]
  .simp[C',upd_ne _ _ e]
 refine⟨_,_,C'.ms gs.size,hrun,.right _ (.left _ _ ⟨r,?_,λr' h=>upd_ne _ _ h⟩),C',_,w',sl,rfl,rfl,?_,by rw[hsz]⟩
 .show Rk.Lt (upd C.ρ r (f w) r) (C.ρ r)
  rw[upd_same,hρ];exact⟨f,w,rfl,rfl⟩
 .refine⟨c.sK,by rw[hsz];exact c.size,c.tab,c.fuel,P0 c.lay hD c.sh,λr' hr'=>?_,λr' hr'=>?_,c.olds,yz c hr hsz,λr' hr'=>?_,λh1 h2=>?_,λr' h=>?_,λr' h=>?_,λr' h=>?_,c.lay.grow hD.size hr,?_⟩
  .by_cases e:r'=r
   .subst e
    refine⟨x',ConcN.get_map_set_same _ _ _ (BU c hr),.inl ⟨hnq,hdd,by simp[C',upd_same],?_⟩⟩;simp only[C',upd_same];exact hl
   .obtain⟨g,h1,h2⟩:=haw r' e hr'
    refine⟨g,h1,?_⟩;simp only[C',upd_ne _ _ e];exact h2
  .rw[(n9 r').1];exact c.S2 r' hr'
  .by_cases e:r'=r
   .subst e;exact hdeaf
   .exact vq c e hr'
  .obtain⟨o,h3,h4⟩:=c.data h1 h2
   refine⟨o,?_,by rw[(n9 .a).1,(n9 .b).1];exact h4⟩;rw[hD.keep _ c.lay.BG λho=>?_]
   .exact h3
   .have:=(c.lay.vL r).1 ho
    cases r with
    |m=>exact jx c.tab rfl this
    |a=>exact h1 this
    |b=>exact h2 this
  .rw[(n9 r').2.1,(n9 _).1];exact c.Gz r' h
  .rw[(n9 r').1];exact c.fin r' h
  .obtain⟨p,hp⟩:=c.rel r' h
   by_cases e:r'=r
   .subst e
    have he:=hD.mute (by
     revert h
     cases (C.L r').pc<;>simp[past,eQ,gv])
    subst he;rw[ofEvents_none,Array.append_empty];exact⟨p,hp⟩
   .exact⟨p,xx c e hp⟩
  .refine TI.mono hti (λr' l h=>?_) (λ_=>Iff.rfl) (λr' b h=>?_)
   .exact⟨h.1,by have:=h.2;rw[(n9 r').2.2] at this;exact this⟩
   .by_cases e:r'=r
    .subst e
     simp only[C',upd_same] at h;exact h.imp id λz=>⟨rfl,z⟩
    .simp only[C',upd_ne _ _ e] at h
     exact .inl h
end
end aG
end
end
end Go.Proofs.YtchcmhodnkgojaaGreat
