/- On the way to the last text; put together and shortened by program. -/
import Derived.Test.YtchcmhodnkgojaaGreatPart4
import GoSem.Dispatch
import Derived.Conc.Own5
import Derived.Conc.CompanyDraw
import Derived.Conc.Listed
import Derived.Control
import Derived.Conc.Own2
set_option linter.all false
set_option maxRecDepth 100000
set_option maxHeartbeats 8000000
namespace Go.Proofs.YtchcmhodnkgojaaGreat
noncomputable section
section
open Go.Conc
section
variable {P:Program}{π:Nat->Nat}{N V:Nat->Prop}
theorem Cd {β:Type}{R:β->β->Prop}{r:Nat}(hv:V r){f f':Option (Addr×TypeId)->Sem β}(h0:bg P π N V R (f none) (f' none))(h1:∀b u,bg P π N (λi=>V i\/i=b.block) R (f (some (b,u))) (f' (some (aZ π b,u)))):
  bg P π N V R (viewAt r>>=f) (viewAt (π r)>>=f'):=by
 unfold viewAt;rw[bind_assoc,bind_assoc];refine bg.shape (k:=λx=>_) hv λx=>?_
 cases x with
 |some y=>exact h0
 |none=>
  refine bg.getObj (k:=λx=>_) λo ho=>?_
  cases o with
  |view b u=>exact(h1 b u).weak λi hi=>hi.elim .inl λe=> .inr (.inr e)
  |_=>first|exact ho.elim|exact h0.weak λi hi=> .inl hi
theorem uf {β:Type}{R:β->β->Prop}{a:Addr}(hv:V a.block){f f':Addr->Sem β}(hf:∀s:Addr,bg P π N (λi=>V i\/i=s.block) R (f s) (f' (aZ π s))):
  bg P π N V R (Conv.seenAt a>>=f) (Conv.seenAt (aZ π a)>>=f'):=by
 unfold Conv.seenAt;simp only[bind_assoc];refine Cd hv ?_ λb u=>?_
 .exact(hf a).weak λi hi=>hi.elim id λe=>e▸hv
 .dsimp only
  have e1:(aZ π a).off=a.off:=rfl;have e2:(aZ π a).spot=a.spot:=rfl;have e3:(aZ π b).spot=b.spot:=rfl;have e4:(aZ π b).block=π b.block:=rfl;have e5:(aZ π b).off=b.off:=rfl;rw[e1,e2,e3,e4,e5];split
  .exact hf b
  .split
   .exact il trivial
   .simp only[pure_bind,bind_assoc]
    refine cu.bind' λz z' h=>?_
    rw[h.1,h.2];cases byteOfCell P P.depth u a.off with
    |none=>exact il trivial
    |some β=>
     dsimp only;simp only[bind_assoc];refine bg.shape (k:=λx=>_) (.inr rfl) λx=>?_
     cases x with
     |none=>exact il (α:=Addr) (f:=f) trivial
     |some e=>
      obtain⟨e,cells⟩:=e;show bg P π N _ R ((if P.cellsOf e=0 then _ else _)>>=f) ((if P.cellsOf e=0 then _ else _)>>=f')
      by_cases h0:P.cellsOf e=0
      .rw[if_pos h0];exact il trivial
      .rw[if_neg h0,if_neg h0]
       cases cellAtBytes P P.depth e (cells/P.cellsOf e) b.off β with
       |none=>exact il (α:=Addr) (f:=f) trivial
       |some c=>exact hf {b with off:=c}
theorem Cp {r:Nat}(hv:V r):bg P π N V Eq (cellsIn r) (cellsIn (π r)):=by
 unfold cellsIn;refine bg.shape (k:=λx=>_) hv λx=>?_
 cases x with
 |some y=>exact au rfl
 |none=>
  refine bg.getObj (k:=λx=>_) λo ho=>?_
  cases o<;>first|exact ho.elim|exact au rfl
theorem nD {a:Addr}{u:TypeId}{n:Nat}(hv:V a.block):bg P π N V Eq (variablesAt a u n) (variablesAt (aZ π a) u n):=by
 unfold variablesAt;refine cu.bind' λz z' h=>?_
 rw[h.1,h.2];refine bg.shape (k:=λx=>_) hv λx=>?_
 cases x with
 |some y=>exact au rfl
 |none=>exact au rfl
theorem n9 {s:Addr}{t:TypeId}(hv:V s.block):bg P π N V (RV π) (do Pure.pure (.pointer (some ⟨<-newObj (.view s t),0,none⟩)):Sem Value) (do Pure.pure (.pointer (some ⟨<-newObj (.view (aZ π s) t),0,none⟩)):Sem Value):=by
 unfold newObj;exact bg.new (o:= .view s t) trivial (λi hi=>by rw[show i=s.block from hi];exact hv) λb _=> .pure (by simp[RV,aZ])
theorem lq {src dst:TypeId}{x:Value}(hk:∀k,P.underlying dst≠some (.int k))(hx:VV V x):bg P π N V (RV π) (Conv.unsafePointer src dst x) (Conv.unsafePointer src dst (Value.ren π x)):=by
 unfold Conv.unsafePointer;refine(aE src).bind' λus us' h=>?_
 obtain⟨rfl,hs⟩:=h;refine(aE dst).bind' λud ud' h=>?_
 obtain⟨rfl,hd⟩:=h;cases x with
 |pointer p=>
  simp only[aU];cases us with
  |pointer t=>cases ud with
   |unsafePointer=>cases p with
    |none=>exact au (by simp[RV])
    |some a=>
     simp only[Option.map_some];refine uf hx.ptr λs=>?_
     refine(Cp (.inr rfl)).bind' λc c' h=>?_
     subst h;refine(cE t).bind' λm m' h=>?_
     obtain⟨rfl,_⟩:=h;exact cB (n9 (.inr rfl)) (au (by simp[RV]))
   |_=>cases p<;>exact aj
  |unsafePointer=>cases ud with
   |pointer u=>cases p with
    |none=>exact au (by simp[RV])
    |some a=>
     simp only[Option.map_some];refine uf hx.ptr λs=>?_
     refine(cE u).bind' λm m' h=>?_
     obtain⟨rfl,_⟩:=h;refine(nD (.inr rfl)).bind' λc c' h=>?_
     subst h;refine cB (au (by simp[RV])) ?_;refine bg.shape (k:=λx=>_) (.inr rfl) λx=>?_
     cases x with
     |none=>exact aH trivial
     |some y=>
      refine cu.bind' λz z' h=>?_
      rw[h.1,h.2];refine cu.bind' λz z' h=>?_
      rw[h.1,h.2];have tl:=n9 (P:=P) (π:=π) (N:=N) (V:=λi=>V i\/i=s.block) (t:=u) (.inr rfl);split
      .exact il trivial
      .exact tl
   |unsafePointer=>exact au (by cases p<;>simp[RV])
   |int k=>exact absurd hd (hk k)
   |_=>cases p<;>exact aj
  |int k=>cases ud with
   |unsafePointer=>cases p with
    |none=>exact aj
    |some a=>exact aH trivial
   |_=>cases p<;>exact aj
  |_=>cases ud<;>first|exact aj|(cases p<;>exact aj)
 |int k a=>
  cases us with
  |int k=>cases ud with
   |unsafePointer=>cases a with
    |ofNat m=>cases m<;>exact aH trivial
    |negSucc m=>exact aH trivial
   |_=>exact aj
  |_=>cases ud<;>exact aj
 |_=>cases us<;>first|exact aj|(cases ud<;>exact aj)
theorem pZ {α β:Type}{R:β->β->Prop}{f f':α->β->Sem (ForInStep β)}{g:α->α}:∀(l:List α),(∀a∈l,∀b b',R b b'->bg P π N V (Hx R) (f a b) (f' (g a) b'))->∀b b',R b b'->bg P π N V R (forIn l b f) (forIn (l.map g) b' f')
 |[],_,b,b',h=>by simp only[List.forIn_nil,List.map_nil];exact au h
 |a::l,hf,b,b',h=>by
  simp only[List.forIn_cons,List.map_cons];refine(hf a (by simp) b b' h).bind' λx x' hx=>?_
  cases x<;>cases x'<;>first|exact hx.elim|exact au hx|exact pZ l (λa ha=>hf a (by simp[ha])) _ _ hx
theorem rJ (x:Value):bg P π N V (RV π) (Conv.bytesToString x) (Conv.bytesToString (Value.ren π x)):=by
 unfold Conv.bytesToString;cases x with
 |slice a n c=>
  simp only[bA];cases a with
  |none=>exact au (by simp[RV])
  |some a=>
   simp only[Option.map_some];refine(lW a n).bind' λcs cs' h=>?_
   rw[show cs'=_ from h,<-Array.forIn_toList,<-Array.forIn_toList,Array.toList_map];refine(pZ (R:=Eq) _ (λv hv b b' hb=>?_) _ _ rfl).bind' λr r' h=>?_
   .subst hb
    cases v with
    |int k m=>simp only[cj];cases k<;>first|exact aj|exact au rfl
    |_=>exact aj
   .subst h
    exact au (by simp[RV])
 |_=>exact aj
theorem rF (e:TypeId)(s:ByteArray):bg P π N V (RV π) (Conv.stringToBytes e s) (Conv.stringToBytes e s):=by
 unfold Conv.stringToBytes;refine io.bind' λc c' h=>?_
 subst h;dsimp only;have hr:(s.data.map (λb:UInt8=>Value.int .u8 b.toNat)++Array.replicate (c-s.size) (Value.int .u8 0)).map (Value.ren π)=s.data.map (λb:UInt8=>Value.int .u8 b.toNat)++Array.replicate (c-s.size) (Value.int .u8 0):=by
  refine cg λv hv=>?_
  rcases Array.mem_append.1 hv with h|h
  .obtain⟨b,_,rfl⟩:=Array.mem_map.1 h;simp
  .rw[(Array.mem_replicate.1 h).2];simp
 generalize s.data.map (λb:UInt8=>Value.int .u8 b.toNat)++Array.replicate (c-s.size) (Value.int .u8 0)=cells at hr⊢;unfold newRow newObj markStringish;have:=bg.new (P:=P) (π:=π) (N:=N) (V:=V) (R:=RV π) (o:= .cells cells e) (k:=λb=>shape b>>=λx=>(match x with|some (_,n)=>freeze {block:=b,off:=n} 1|_=>Pure.pure ())>>=λ_=>Pure.pure (.slice (some ⟨b,0,none⟩) s.size c))
  (k':=λb=>shape b>>=λx=>(match x with|some (_,n)=>freeze {block:=b,off:=n} 1|_=>Pure.pure ())>>=λ_=>Pure.pure (.slice (some ⟨b,0,none⟩) s.size c)) trivial (λ_ h=>h.elim) λb hb=>by
  refine bg.shape (k:=λx=>_) (.inr rfl) λx=>?_
  cases x with
  |none=>exact au (by simp[RV,aZ])
  |some y=>exact bg.freeze (a:={block:=b,off:=y.2}) (.inr rfl) hb (au (by simp[RV,aZ]))
 rw[show dA π (.cells cells e)= .cells cells e by simp only[dA,hr]] at this;exact this
def YR (P:Program)(src dst:TypeId):Bool:=match P.underlying src,P.underlying dst with
 |some (.int _),some (.int _)|some (.int _),some .string|some .string,some .string=>true
 |some (.slice e),some .string|some .string,some (.slice e)=>(match P.underlying e with|some (.int .u8)=>true|_=>false)
 |some (.pointer _),some .unsafePointer|some .unsafePointer,some (.pointer _)=>true
 |_,_=>false
theorem Cn {src dst:TypeId}{x:Value}(hc:YR P src dst=true)(hx:VV V x):bg P π N V (RV π) (convert src dst x) (convert src dst (Value.ren π x)):=by
 unfold convert;refine(aE src).bind' λus us' h=>?_
 obtain⟨rfl,hs⟩:=h;refine(aE dst).bind' λud ud' h=>?_
 obtain⟨rfl,hd⟩:=h;simp only[YR,hs,hd] at hc;have hp:bg P π N V (RV π) (Pure.pure x) (Pure.pure (Value.ren π x)):=au rfl;have hi:∀k n,bg P π N V (RV π) (Conv.intToInt k n) (Conv.intToInt k n):=λk n=>dJ (mE trivial)
 have hf:∀s b k,bg P π N V (RV π) (Conv.floatToInt s b k) (Conv.floatToInt s b k):=λs b k=>dJ (V8 _ _ _)
 have hn:∀n,bg P π N V (RV π) (Conv.intToString n) (Conv.intToString n):=λn=>dJ (mE trivial)
 cases us<;>cases ud<;>first|(exfalso;simp at hc;done)|skip
 case int.int k k'=>
  cases x with
  |int j n=>simp only[cj];exact hi _ _
  |float j n=>simp only[dk];exact hf _ _ _
  |pointer a=>cases a<;>exact aH trivial
  |_=>exact aH trivial
 case int.string k=>
  cases x with
  |int j n=>simp only[cj];exact hn _
  |string s=>simp only[bn] at hp⊢;exact hp
  |pointer a=>cases a<;>exact aH trivial
  |_=>exact aH trivial
 case string.string=>
  cases x with
  |int j n=>simp only[cj];exact hn _
  |string s=>simp only[bn] at hp⊢;exact hp
  |pointer a=>cases a<;>exact aH trivial
  |_=>exact aH trivial
 case slice.string e=>
  have hu8:P.underlying e=some (.int .u8):=by
   cases he:P.underlying e with
   |none=>simp[he] at hc
   |some ue=>cases ue with
    |int k=>cases k<;>first|rfl|(simp[he] at hc;done)
    |_=>simp[he] at hc
  have tl:=rJ (P:=P) (π:=π) (N:=N) (V:=V) x;cases x with
  |int j n=>simp only[cj];exact hn _
  |string s=>simp only[bn] at hp⊢;exact hp
  |slice a n c=>
   simp only[bA] at tl⊢;cases a<;>exact(aE e).bind' λu u' h=>by
    obtain⟨rfl,he⟩:=h;rw[hu8] at he;cases he;exact tl
  |_=>
   simp only[dE,cj,dk,cP,bn,aU,dB,cG,bA,dn,dS,cN,dj,cM,db] at tl⊢;exact(aE e).bind' λu u' h=>by
    obtain⟨rfl,he⟩:=h;rw[hu8] at he;cases he;exact tl
 case string.slice e=>
  cases x with
  |string s=>
   simp only[bn];refine(aE e).bind' λue ue' h=>?_
   obtain⟨rfl,he⟩:=h;simp only[he] at hc;cases ue with
   |int k=>cases k<;>first|exact rF e s|(exfalso;simp at hc;done)
   |_=>exfalso;simp at hc
  |slice a n c=>cases a<;>exact aH trivial
  |pointer a=>cases a<;>exact aH trivial
  |_=>exact aH trivial
 case pointer.unsafePointer t=>
  have:=lq (N:=N) (π:=π) (src:=src) (x:=x) (λk h=>by rw[hd] at h;cases h) hx;cases x<;>exact this
 case unsafePointer.pointer t=>
  have:=lq (N:=N) (π:=π) (src:=src) (x:=x) (λk h=>by rw[hd] at h;cases h) hx;cases x<;>exact this
end
section
variable {P:Program}{π:Nat->Nat}{N V:Nat->Prop}
theorem FC {α:Type}{r:Nat}{k:Option (TypeId×Nat)->Sem α}(h:∀x,Dead P (k x)):Dead P (.shape r k):=λw hw=>h _ w hw
theorem DC {α:Type}{a:Addr}{k:Bool->Sem α}(h:∀x,Dead P (k x)):Dead P (.frozen a k):=λw hw=>h _ w hw
theorem JV {α:Type}{m:Mark}{k:Sem α}(h:Dead P k):Dead P (.mark m k):=λw hw=>h w hw
theorem Bf {α:Type}{k:Program->Sem α}(h:Dead P (k P)):Dead P (.program k):=λw hw=>h w hw
theorem DB {α:Type}{c:Prop}[Decidable c]{s t:Sem α}(h1:Dead P s)(h2:Dead P t):Dead P (if c then s else t):=by
 split
 .exact h1
 .exact h2
theorem z6 {α β:Type}{c:Prop}[Decidable c]{s t:Sem α}{k:α->Sem β}(h1:Dead P (s>>=k))(h2:Dead P (t>>=k)):Dead P ((if c then s else t)>>=k):=by
 split
 .exact h1
 .exact h2
theorem y9 {α:Type}{size sLen n:Nat}{base:Option Addr}{x:Value}{k:Bool->Sem α}(h:∀b,Dead P (k b)):Dead P (Builtin.mayShare size sLen n base x>>=k):=by
 have zS:∀(a:Addr) (m:Nat) (f:Bool->Sem α),(∀b,Dead P (f b))->Dead P (Builtin.holdsCells a m>>=f):=by
  intro a m f hf;unfold Builtin.holdsCells;refine FC λy=>?_
  cases y<;>exact hf _
 unfold Builtin.mayShare;simp only[bind_assoc,pure_bind];cases base with
 |none=>
  simp only[pure_bind];refine z6 (h _) ?_;cases x with
  |slice a _ _=>cases a with
   |none=>exact h _
   |some b=>simp only[bind_assoc,pure_bind];exact zS _ _ _ λ_=>h _
  |_=>exact h _
 |some a=>
  simp only[bind_assoc,pure_bind];refine zS _ _ _ λz=>DC λz'=>?_
  refine z6 (h _) ?_;cases x with
  |slice a _ _=>cases a with
   |none=>exact h _
   |some b=>simp only[bind_assoc,pure_bind];exact zS _ _ _ λ_=>h _
  |_=>exact h _
theorem zC (x:Value):bg P π N V Eq (Builtin.lenOf x) (Builtin.lenOf (Value.ren π x)):=by
 unfold Builtin.lenOf;cases x with
 |slice a n c=>simp only[bA];exact au rfl
 |string s=>simp only[bn];exact au rfl
 |_=>exact aj
theorem iO (size n:Nat)(x:Value):bg P π N V (RC π) (Builtin.firstCells size n x) (Builtin.firstCells size n (Value.ren π x)):=by
 unfold Builtin.firstCells;cases x with
 |slice a m c=>
  simp only[bA];cases a with
  |none=>exact au (by simp[RC])
  |some a=>exact lW a _
 |string s=>
  simp only[bn];refine au ?_;show _=_;exact(cg λv hv=>by obtain⟨b,_,rfl⟩:=Array.mem_map.1 hv;simp).symm
 |_=>exact aj
theorem pV (z:Array Value)(hz:z.map (Value.ren π)=z)(n:Nat):(Builtin.zeroCells z n).map (Value.ren π)=Builtin.zeroCells z n:=by
 unfold Builtin.zeroCells;exact kQ z hz _ _
def Y9 (P:Program)(ats:Array TypeId):Bool:=(match ats[0]? with
  |some t=>OJ P t
  |none=>true)&&(match ats[1]? with
  |some t=>(match P.underlying t with|some (.int _)=>false|_=>true)
  |none=>false)
theorem oq (n:Nat):bg P π N V Eq (askRoom n) (askRoom n):=by
 unfold askRoom;split
 .exact .mark trivial (.pure rfl)
 .exact au rfl
theorem EB {ats:Array TypeId}{t:TypeId}{args:Array Value}(hc:Y9 P ats=true):bg P π N V (RV π) (Builtin.append_ ats t args) (Builtin.append_ ats t (args.map (Value.ren π))):=by
 unfold Builtin.append_;simp only[Array.getElem?_map];cases h0:ats[0]? with
 |none=>exact aj
 |some sT=>
  cases h1:args[0]? with
  |none=>exact aj
  |some s=>
    cases h2:args[1]? with
   |none=>exact aj
   |some x=>
    simp only[Option.map_some];refine(aE sT).bind' λu u' h=>?_
    obtain⟨rfl,hu⟩:=h;cases u with
    |slice elem=>cases s with
     |slice base sLen sCap=>
      simp only[bA];refine(cE elem).bind' λsize size' h=>?_
      obtain⟨rfl,_⟩:=h;simp only[Y9,h0,Bool.and_eq_true] at hc;obtain⟨hc0,hc1⟩:=hc;have Xo:zf P elem=true:=by simpa [OJ,hu] using hc0
      have hfs:=iO (P:=P) (π:=π) (N:=N) (V:=V) size sLen (.slice base sLen sCap);rw[bA] at hfs;cases h3:ats[1]? with
      |none=>simp[h3] at hc1
      |some xT=>
       simp only[bind_assoc];simp only[h3] at hc1;refine(aE xT).bind' λu u' h=>?_
       obtain⟨rfl,hu1⟩:=h;have hni:∀k,u≠.int k:=λk e=>by simp[hu1,e] at hc1
       cases u
       case int k=>exact absurd rfl (hni k)
       all_goals
        simp only[pure_bind,Bool.not_false,if_true,Bool.false_eq_true,if_false,false_or];refine(zC x).bind' λn n' h=>?_
        subst h;refine cB ?_ ?_
        .refine(iO size n x).bind' λc c' h=>?_
         rw[show c'=_ from h];cases base with
         |none=>exact au (by simp[RV])
         |some a=>
          simp only[Option.map_some];rw[<-iQ,Array.toList_map];exact(fI _ _ 0).bind' λ_ _ _=>au (by simp[RV])
        .refine(d9 elem).bind' λ_ _ h=>?_
         obtain⟨rfl,_⟩:=h;refine cB rG ((d9 elem).bind' λ_ _ h=>?_);obtain⟨rfl,_⟩:=h;refine cB (.dead (Dead.bind _ (y9 λb=>DB (JV (Dead.halt trivial)) (Dead.halt trivial)))) ?_;refine io.bind' λnc _ h=>?_
         subst h;refine(d9 elem).bind' λ_ _ h=>?_
         obtain⟨rfl,_⟩:=h;refine(oq _).bind' λ_ _ _=>?_
         refine hfs.bind' λold old' h=>?_
         rw[show old'=_ from h];refine(iO size n x).bind' λc c' h=>?_
         rw[show c'=_ from h];refine(eg Xo).bind' λz _ h=>?_
         obtain⟨rfl,kk,hk⟩:=h;have key:=kM (P:=P) (π:=π) (N:=N) (V:=V) elem (old++c++Builtin.zeroCells z.cells (nc-(sLen+n)));rw[Array.map_append,Array.map_append,pV (π:=π) z.cells (by rw[<-iH,et hk])] at key;refine key.bind' λa a' h=>?_
         rw[show a'=_ from h];exact au (by simp[RV])
     |_=>exact aj
    |_=>exact aj
theorem Ld {ats:Array TypeId}{t:TypeId}{args:Array Value}:bg P π N V (RV π) (Builtin.copy_ ats t args) (Builtin.copy_ ats t (args.map (Value.ren π))):=by
 unfold Builtin.copy_;simp only[Array.getElem?_map];cases h0:ats[0]? with
 |none=>exact aj
 |some sT=>
  cases h1:args[0]? with
  |none=>exact aj
  |some s=>cases h2:args[1]? with
   |none=>exact aj
   |some x=>
    simp only[Option.map_some];refine(aE sT).bind' λu u' h=>?_
    obtain⟨rfl,hu⟩:=h;cases u with
    |slice elem=>cases s with
     |slice base dLen c=>
      simp only[bA];refine(zC x).bind' λn n' h=>?_
      subst h;refine(cE elem).bind' λsize _ h=>?_
      obtain⟨rfl,_⟩:=h;refine(iO size _ x).bind' λc c' h=>?_
      rw[show c'=_ from h];cases base with
      |none=>exact au (by simp[RV,goInt])
      |some a=>
       simp only[Option.map_some];rw[Array.toList_map];exact(fI _ _ 0).bind' λ_ _ _=>au (by simp[RV,goInt])
     |_=>exact aj
    |_=>exact aj
theorem Px {ats:Array TypeId}{t:TypeId}{args:Array Value}:bg P π N V (RV π) (Builtin.len_ ats t args) (Builtin.len_ ats t (args.map (Value.ren π))):=by
 unfold Builtin.len_;simp only[Array.getElem?_map];cases h0:ats[0]? with
 |none=>exact aj
 |some sT=>
  cases h1:args[0]? with
  |none=>exact aj
  |some s=>
   simp only[Option.map_some];refine(aE sT).bind' λu u' h=>?_
   obtain⟨rfl,hu⟩:=h;cases u with
   |string=>cases s with
    |string b=>simp only[bn];exact au (by simp[RV,goInt])
    |_=>exact aj
   |array n e=>cases s<;>(simp only[dE,cj,dk,cP,bn,aU,dB,cG,bA,dn,dS,cN,dj,cM,db];exact au (by simp[RV,goInt]))
   |pointer arr=>
    have tl:∀{α:Type} (f:TypeDesc->Sem Value),(∀d,bg P π N V (RV π) (f d) (f d))->bg P π N V (RV π) (underlying arr>>=f) (underlying arr>>=f):=λf hf=>(aE arr).bind' λd _ h=>by obtain⟨rfl,_⟩:=h;exact hf d
    cases s<;>(simp only[dE,cj,dk,cP,bn,aU,dB,cG,bA,dn,dS,cN,dj,cM,db];refine tl (α:=Unit) _ λd=>?_;cases d<;>first|exact aj|exact au (by simp[RV,goInt]))
   |slice e=>cases s with
    |slice a n c=>simp only[bA];exact au (by simp[RV,goInt])
    |_=>exact aj
   |map k e=>cases s with
    |map r=>cases r with
     |none=>simp only[dn];exact au (by simp[RV,goInt])
     |some r=>
      simp only[dn,Option.map_some];refine bg.getObj (k:=λx=>_) λo ho=>?_
      cases o<;>first|exact ho.elim|exact aj|exact au (by simp[RV,goInt])
    |_=>exact aj
   |chan d e=>cases s with
    |chan r=>cases r with
     |none=>simp only[dS];exact au (by simp[RV,goInt])
     |some r=>
      simp only[dS,Option.map_some];refine bg.getObj (k:=λx=>_) λo ho=>?_
      cases o<;>first|exact ho.elim|exact aj
    |_=>exact aj
   |_=>exact aj
theorem Py {ats:Array TypeId}{t:TypeId}{args:Array Value}:bg P π N V (RV π) (Builtin.cap_ ats t args) (Builtin.cap_ ats t (args.map (Value.ren π))):=by
 unfold Builtin.cap_;simp only[Array.getElem?_map];cases h0:ats[0]? with
 |none=>exact aj
 |some sT=>
  cases h1:args[0]? with
  |none=>exact aj
  |some s=>
   simp only[Option.map_some];refine(aE sT).bind' λu u' h=>?_
   obtain⟨rfl,hu⟩:=h;cases u with
   |array n e=>cases s<;>(simp only[dE,cj,dk,cP,bn,aU,dB,cG,bA,dn,dS,cN,dj,cM,db];exact au (by simp[RV,goInt]))
   |pointer arr=>
    have tl:∀{α:Type} (f:TypeDesc->Sem Value),(∀d,bg P π N V (RV π) (f d) (f d))->bg P π N V (RV π) (underlying arr>>=f) (underlying arr>>=f):=λf hf=>(aE arr).bind' λd _ h=>by obtain⟨rfl,_⟩:=h;exact hf d
    cases s<;>(simp only[dE,cj,dk,cP,bn,aU,dB,cG,bA,dn,dS,cN,dj,cM,db];refine tl (α:=Unit) _ λd=>?_;cases d<;>first|exact aj|exact au (by simp[RV,goInt]))
   |slice e=>cases s with
    |slice a n c=>simp only[bA];exact au (by simp[RV,goInt])
    |_=>exact aj
   |chan d e=>cases s with
    |chan r=>cases r with
     |none=>simp only[dS];exact au (by simp[RV,goInt])
     |some r=>
      simp only[dS,Option.map_some];refine bg.getObj (k:=λx=>_) λo ho=>?_
      cases o<;>first|exact ho.elim|exact aj
    |_=>exact aj
   |_=>exact aj
theorem IG {ats:Array TypeId}{t:TypeId}{args:Array Value}(hz:(match ats[0]? with|some t=>OJ P t|none=>true)=true):bg P π N V (RV π) (Builtin.clear_ ats t args) (Builtin.clear_ ats t (args.map (Value.ren π))):=by
 unfold Builtin.clear_;simp only[Array.getElem?_map];cases h0:ats[0]? with
 |none=>exact aj
 |some sT=>
  cases h1:args[0]? with
  |none=>exact aj
  |some s=>
   simp only[Option.map_some];rw[h0] at hz;refine(aE sT).bind' λu u' h=>?_
   obtain⟨rfl,hu⟩:=h;have fin:∀V:Nat->Prop,bg P π N V (RV π) (Pure.pure (.tuple #[])) (Pure.pure (.tuple #[])):=λ_=>au (by simp[RV])
   cases s with
   |map r=>cases r with
    |none=>simp only[dn];cases u<;>exact fin _
    |some r=>
     simp only[dn,Option.map_some];cases u<;>
     .refine bg.getObj (k:=λx=>_) λo ho=>?_
      cases o with
      |map es c=>
       have e:=bg.setObj (P:=P) (π:=π) (N:=N) (V:=λi=>V i\/i=r\/inner (.map es c) i) (R:=RV π) (r:=r) (o:= .map #[] c) (k:=Pure.pure (.tuple #[])) (k':=Pure.pure (.tuple #[])) trivial (λ_ h=>h.elim) (fin _);simp only[dA,Array.map_empty] at e;exact e
      |_=>first|exact ho.elim|exact aj
   |slice a n cp=>cases a with
    |none=>simp only[bA];cases u<;>exact fin _
    |some a=>cases n with
     |zero=>simp only[bA];cases u<;>exact fin _
     |succ n=>
      simp only[bA,Option.map_some];cases u with
      |slice elem=>
       have Xo:zf P elem=true:=by simpa [OJ,hu] using hz
       refine(eg Xo).bind' λz _ h=>?_
       obtain⟨rfl,k,hk⟩:=h;have key:=fI (P:=P) (π:=π) (N:=N) (V:=V) a (Builtin.zeroCells z.cells (n+1)).toList 0;rw[<-Array.toList_map,pV (π:=π) z.cells (by rw[<-iH,et hk])] at key;exact key.bind' λ_ _ _=>fin _
      |_=>exact aj
   |_=>cases u<;>exact aj
end
section
variable {P:Program}{π:Nat->Nat}{N V:Nat->Prop}
theorem DW (hi:∀i j,π i=π j->i=j)(a b:Option Addr):(a.map (aZ π)==b.map (aZ π))=(a==b):=by
 rw[Bool.eq_iff_iff];simp only[beq_iff_eq];constructor
 .intro h
  cases a<;>cases b<;>simp_all;exact wS hi h
 .intro h;rw[h]
theorem DV (hi:∀i j,π i=π j->i=j)(a b:Option Nat):(a.map π==b.map π)=(a==b):=by
 rw[Bool.eq_iff_iff];simp only[beq_iff_eq];constructor
 .intro h
  cases a<;>cases b<;>simp_all;exact hi _ _ h
 .intro h;rw[h]
theorem uY {α β γ:Type}(f:α->β)(g:γ->β)(p:β->β->Bool)(q:α->γ->Bool):∀(l:List α) (m:List γ),(∀a∈l,∀b∈m,p (f a) (g b)=q a b)->(((l.map f).zip (m.map g)).all λx=>p x.1 x.2)=((l.zip m).all λx=>q x.1 x.2)
 |[],_,_=>by simp
 |_::_,[],_=>by simp
 |a::l,b::m,h=>by
  simp only[List.map_cons,List.zip_cons_cons,List.all_cons];rw[h a (by simp) b (by simp),uY f g p q l m λa ha b hb=>h a (by simp[ha]) b (by simp[hb])]
theorem AB (hi:∀i j,π i=π j->i=j):∀(n:Nat) (v w:Value),Instr.sameBits n (Value.ren π v) (Value.ren π w)=Instr.sameBits n v w:=by
 intro n
 induction n with
 |zero=>
  intro v w;cases v<;>cases w<;>simp[Instr.sameBits,DW hi,DV hi]
 |succ n ih=>
  intro v w;cases v<;>cases w<;>simp[Instr.sameBits,DW hi,DV hi,ih];rw[uY (Value.ren π) (Value.ren π) (Instr.sameBits n) (Instr.sameBits n) _ _ λa _ b _=>ih a b]
def t8 (P:Program)(t:TypeId):Bool:=match P.underlying t with|some .string=>true|_=>false
theorem Ax {t:TypeId}(ht:t8 P t=true)(x y:Value):bg P π N V Eq (Op.equal t x y) (Op.equal t (Value.ren π x) (Value.ren π y)):=by
 unfold Op.equal;rw[show Op.maxDepth=9999+1 from rfl];unfold Op.equalIn;refine(aE t).bind' λu u' h=>?_
 obtain⟨rfl,hu⟩:=h;simp only[t8,hu] at ht;cases u with
 |string=>
  cases x with
  |string a=>cases y with
   |string b=>simp only[bn];exact au rfl
   |_=>exact aj
  |_=>exact aj
 |_=>simp at ht
theorem mU {empty:Bool}{t:TypeId}(ht:t8 P t=true)(k:Value):bg P π N V Eq (Instr.checkKey empty 10000 t k) (Instr.checkKey empty 10000 t (Value.ren π k)):=by
 unfold Instr.checkKey;refine(aE t).bind' λu u' h=>?_
 obtain⟨rfl,hu⟩:=h;simp only[t8,hu] at ht;cases u with
 |string=>exact au rfl
 |_=>simp at ht
theorem Cy (a b:Value):Instr.sameNow .string (Value.ren π a) (Value.ren π b)=Instr.sameNow .string a b:=by
 cases a<;>cases b<;>simp[Instr.sameNow]
theorem uJ (k:Value):∀(es:List MapEntry) (i:Nat),Instr.findNow .string (Value.ren π k) (es.map (lY π)) i=(Instr.findNow .string k es i).map (Option.map λp=>(p.1,Value.ren π p.2))
 |[],i=>rfl
 |e::es,i=>by
  simp only[List.map_cons,Instr.findNow];rw[show(lY π e).key=Value.ren π e.key from rfl,Cy];cases Instr.sameNow .string k e.key with
  |none=>rfl
  |some b=>cases b with
   |true=>rfl
   |false=>exact uJ k es (i+1)
theorem og {t:TypeId}(ht:t8 P t=true)(k:Value):∀(es:List MapEntry) (i:Nat),bg P π N V (λr r'=>r'=r.map λp=>(p.1,Value.ren π p.2)) (Instr.findAsking t k es i) (Instr.findAsking t (Value.ren π k) (es.map (lY π)) i)
 |[],i=>au rfl
 |e::es,i=>by
  simp only[List.map_cons,Instr.findAsking];refine(Ax ht k e.key).bind' λb b' h=>?_
  subst h;exact cB (au rfl) (og ht k es (i+1))
theorem oe {t:TypeId}(ht:t8 P t=true)(k:Value)(es:List MapEntry):bg P π N V (λr r'=>r'=r.map λp=>(p.1,Value.ren π p.2)) (Instr.findKey t k es) (Instr.findKey t (Value.ren π k) (es.map (lY π))):=by
 unfold Instr.findKey;refine(aE t).bind' λu u' h=>?_
 obtain⟨rfl,hu⟩:=h;have ht':=ht;simp only[t8,hu] at ht';cases u with
 |string=>
  rw[uJ];cases Instr.findNow .string k es 0 with
  |some r=>exact au rfl
  |none=>exact og ht k es 0
 |_=>simp at ht'
def Mk (P:Program)(t:TypeId):Bool:=match P.underlying t with
 |some (.map k e)=>t8 P k&&zf P e
 |_=>true
theorem Ex {t:TypeId}(hm:Mk P t=true)(x k:Value)(ok:Bool):bg P π N V (RV π) (Instr.lookup t x k ok) (Instr.lookup t (Value.ren π x) (Value.ren π k) ok):=by
 unfold Instr.lookup;refine(aE t).bind' λu u' h=>?_
 obtain⟨rfl,hu⟩:=h;simp only[Mk,hu] at hm;cases u with
 |map kt e=>
  simp only[Bool.and_eq_true] at hm;cases x with
  |map r=>cases r with
   |none=>
    simp only[dn,Option.map_none,pure_bind];refine(mU hm.1 k).bind' λ_ _ _=>?_
    refine(oe hm.1 k #[].toList).bind' λr r' h=>?_
    subst h;cases r with
    |some p=>exact au (by cases ok<;>simp[RV])
    |none=>
     refine(eg hm.2).bind' λz z' h=>?_
     obtain⟨rfl,n,hn⟩:=h;exact au (by cases ok<;>simp[RV,et hn])
   |some r=>
    simp only[dn,Option.map_some];refine bg.getObj (k:=λx=>_) λo ho=>?_
    cases o with
    |map es c=>
     have e1:(es.map (lY π)).isEmpty=es.isEmpty:=by simp[Array.isEmpty]
     have e2:(es.map (lY π)).toList=es.toList.map (lY π):=Array.toList_map;simp only[dA,Sem.bind,pure_bind,e1,e2];refine(mU hm.1 k).bind' λ_ _ _=>?_
     refine(oe hm.1 k _).bind' λr r' h=>?_
     subst h;cases r with
     |some p=>exact au (by cases ok<;>simp[RV])
     |none=>
      refine(eg hm.2).bind' λz z' h=>?_
      obtain⟨rfl,n,hn⟩:=h;exact au (by cases ok<;>simp[RV,et hn])
    |_=>first|exact ho.elim|exact aj
  |_=>exact aj
 |_=>exact aj
theorem tv (hi:∀i j,π i=π j->i=j)(old new:Value):bg P π N V (RV π) (Instr.keyThatStays old new) (Instr.keyThatStays (Value.ren π old) (Value.ren π new)):=by
 unfold Instr.keyThatStays;rw[AB hi];refine cB (au rfl) (io.bind' λc c' h=>?_);subst h;exact au (by by_cases h:c=0<;>simp[RV,h])
theorem E2 (es:Array MapEntry)(i:Nat)(k v:Value):(es.modify i λe=>{e with key:=k,val:=v}).map (lY π)=(es.map (lY π)).modify i λe=>{e with key:=Value.ren π k,val:=Value.ren π v}:=by
 apply Array.ext
 .simp
 .intro j h1 h2
  simp only[Array.getElem_map,Array.getElem_modify];split<;>rfl
theorem yK (hi:∀i j,π i=π j->i=j){t:TypeId}(hm:Mk P t=true)(x k v:Value):bg P π N V Eq (Instr.mapUpdate t x k v) (Instr.mapUpdate t (Value.ren π x) (Value.ren π k) (Value.ren π v)):=by
 unfold Instr.mapUpdate;refine(aE t).bind' λu u' h=>?_
 obtain⟨rfl,hu⟩:=h;simp only[Mk,hu] at hm;cases u with
 |map kt e=>
  simp only[Bool.and_eq_true] at hm;cases x with
  |map r=>cases r with
   |none=>simp only[dn];exact tn
   |some r=>
    simp only[dn,Option.map_some];refine bg.getObj (k:=λx=>_) λo ho=>?_
    cases o with
    |map es c=>
     have e2:(es.map (lY π)).toList=es.toList.map (lY π):=Array.toList_map;simp only[dA,Sem.bind,e2];refine(mU hm.1 k).bind' λ_ _ _=>?_
     refine(oe hm.1 k _).bind' λq q' h=>?_
     subst h;cases q with
     |some p=>
      obtain⟨i,pv⟩:=p;have e3:(((es.map (lY π))[i]?).map (·.key)).getD (Value.ren π k)=Value.ren π (((es[i]?).map (·.key)).getD k):=by
       rw[Array.getElem?_map];cases es[i]? <;>rfl
      simp only[Option.map_some,e3];refine(tv hi _ k).bind' λkk kk' h=>?_
      rw[show kk'=_ from h,<-E2];exact bg.setObj (o:= .map (es.modify i λe=>{e with key:=kk,val:=v}) c) trivial (λ_ h=>h.elim) (.pure rfl)
     |none=>
      simp only[Option.map_none];have:=bg.setObj (P:=P) (π:=π) (N:=N) (V:=λi=>V i\/i=r\/inner (.map es c) i) (R:=Eq) (r:=r) (o:= .map (es.push {key:=k,val:=v,born:=c}) (c+1)) (k:=Sem.pure ()) (k':=Sem.pure ()) trivial (λ_ h=>h.elim) (.pure rfl);simp only[dA,Array.map_push] at this;exact this
    |_=>first|exact ho.elim|exact aj
  |_=>exact aj
 |_=>exact aj
theorem IC {t:TypeId}(x:Value):bg P π N V (RV π) (Instr.range t x) (Instr.range t (Value.ren π x)):=by
 unfold Instr.range;refine(aE t).bind' λu u' h=>?_
 obtain⟨rfl,hu⟩:=h;have nw:∀(V:Nat->Prop) (o:Obj),nK o->(∀i,¬inner o i)->bg P π N V (RV π) (newObj o>>=λb=>Pure.pure (.pointer (some ⟨b,0,none⟩)):Sem Value) (newObj (dA π o)>>=λb=>Pure.pure (.pointer (some ⟨b,0,none⟩)):Sem Value):=λV o h1 h2=>
  bg.new (o:=o) h1 (λi h=>(h2 i h).elim) λb _=> .pure (by simp[RV,aZ])
 cases u with
 |string=>cases x with
  |string s=>simp only[bn,pure_bind];exact nw _ (.stringIter s 0) trivial (λ_ h=>h)
  |_=>exact fH
 |map k e=>cases x with
  |map r=>cases r with
   |none=>simp only[dn,pure_bind];exact nw _ (.mapIter none 0 #[] 0) trivial (λ_ h=>h)
   |some r=>
    simp only[dn,Option.map_some];refine bg.getObj (k:=λx=>_) λo ho=>?_
    cases o with
    |map es c=>simp only[dA,Sem.bind,pure_bind];exact nw _ (.mapIter (some r) c #[] c) trivial (λ_ h=>h)
    |_=>first|exact ho.elim|exact aj
  |_=>exact fH
 |_=>exact fH
theorem La (it:Value)(t:TypeId):bg P π N V (RV π) (Instr.next it true t) (Instr.next (Value.ren π it) true t):=by
 unfold Instr.next;have ov:∀V:Nat->Prop,bg P π N V (RV π) (Pure.pure (.tuple #[.bool false])) (Pure.pure (.tuple #[.bool false])):=λ_=>au (by simp[RV])
 cases it with
 |pointer a=>cases a with
  |none=>exact aj
  |some a=>
   obtain⟨r,off,sp⟩:=a;cases off with
   |succ n=>exact aj
   |zero=>
    simp only[aU,Option.map_some,aZ];refine bg.getObj (k:=λx=>_) λo ho=>?_
    cases o with
    |stringIter s pos=>
     simp only[dA,Sem.bind];refine cB ?_ (ov _);exact bg.setObj (o:= .stringIter s (pos+(Utf8.decode s pos).2)) trivial (λ_ h=>h.elim) (.pure (by simp[RV,goInt]))
    |mapIter m since seen st=>
     simp only[dA,Sem.bind];cases m<;>exact aj
    |_=>first|exact ho.elim|exact aj
 |_=>exact aj
end
section
variable {P:Program}{π:Nat->Nat}{N V:Nat->Prop}
theorem yL {t:TypeId}(hz:OJ P t=true)(l c:Value):bg P π N V (RV π) (Instr.makeSlice t l c) (Instr.makeSlice t (Value.ren π l) (Value.ren π c)):=by
 unfold Instr.makeSlice;refine(aE t).bind' λu u' h=>?_
 obtain⟨rfl,hu⟩:=h;cases u with
 |slice elem=>
  have Xo:zf P elem=true:=by simpa [OJ,hu] using hz
  refine(kz l).bind' λa _ h=>?_
  subst h;refine(kz c).bind' λb _ h=>?_
  subst h;refine(d9 elem).bind' λi _ h=>?_
  obtain⟨rfl,_⟩:=h;dsimp only;refine cB ?_ ?_
  .refine cB rG (cB rG ?_)
   exact .dead (uO λn=>by simp only[Sem.bind];exact Dead.bind _ (dw _))
  .refine(oq _).bind' λ_ _ _=>?_
   refine(cE elem).bind' λn _ h=>?_
   obtain⟨rfl,_⟩:=h;have fin:∀z:Array Value,z.map (Value.ren π)=z->∀k x y,bg P π N V (RV π) (newRow elem ((Array.range k).map λi=>z[i%z.size]!)>>=λa=>Pure.pure (.slice (some a) x y)) (newRow elem ((Array.range k).map λi=>z[i%z.size]!)>>=λa=>Pure.pure (.slice (some a) x y)):=by
    intro z hz k x y;have key:=kM (P:=P) (π:=π) (N:=N) (V:=V) elem ((Array.range k).map λi=>z[i%z.size]!);rw[kQ z hz] at key;exact key.bind' λa a' h=>by rw[show a'=_ from h];exact au (by simp[RV])
   refine cB ?_ ?_
   .exact fin #[] (by simp) _ _ _
   .refine(eg Xo).bind' λz _ h=>?_
    obtain⟨rfl,k,hk⟩:=h;exact fin _ (by rw[<-iH,et hk]) _ _ _
 |_=>exact aj
theorem Lb (x y:Value):bg P π N V (RV π) (Builtin.min2 x y) (Builtin.min2 (Value.ren π x) (Value.ren π y)):=by
 unfold Builtin.min2;cases x with
 |int k a=>cases y with
  |int k' b=>simp only[cj];exact dJ (mE trivial)
  |pointer p=>cases p<;>first|exact aj|exact aH trivial
  |_=>exact aj
 |float k a=>cases y with
  |float k' b=>
   simp only[dk];refine dJ ?_;split
   .exact gy pqc λ_ _=>mE trivial
   all_goals exact mE trivial
  |pointer p=>cases p<;>first|exact aj|exact aH trivial
  |_=>exact aj
 |string a=>cases y with
  |string b=>simp only[bn];exact dJ (gy (ut _ _ _) λv _=>gy (zL v) λb _=>by cases b<;>exact mE trivial)
  |pointer p=>cases p<;>first|exact aj|exact aH trivial
  |_=>exact aj
 |pointer p=>cases p with
  |some a=>exact aH trivial
  |none=>cases y with
   |pointer p=>cases p<;>first|exact aj|exact aH trivial
   |_=>exact aj
 |_=>cases y with
  |pointer p=>cases p<;>first|exact aj|exact aH trivial
  |_=>exact aj
theorem wE {f f':Value->Value->Sem Value}(hf:∀x y,bg P π N V (RV π) (f x y) (f' (Value.ren π x) (Value.ren π y))):∀(l:List Value) (x:Value),bg P π N V (RV π) (l.foldlM f x) ((l.map (Value.ren π)).foldlM f' (Value.ren π x))
 |[],x=>au rfl
 |y::l,x=>by
  simp only[List.foldlM_cons,List.map_cons];refine(hf x y).bind' λz z' h=>?_
  rw[show z'=_ from h];exact wE hf l z
theorem Pw {ats:Array TypeId}{t:TypeId}{args:Array Value}:bg P π N V (RV π) (Builtin.min_ ats t args) (Builtin.min_ ats t (args.map (Value.ren π))):=by
 unfold Builtin.min_;rw[Array.toList_map];cases args.toList with
 |nil=>exact aj
 |cons x l=>exact wE Lb l x
theorem pY:∀(n:Nat) (a:Addr) (acc:ByteArray),bg P π N V Eq (loadBytes a acc n) (loadBytes (aZ π a) acc n)
 |0,a,acc=>au rfl
 |n+1,a,acc=>by
  simp only[loadBytes];refine(od a).bind' λv v' h=>?_
  rw[show v'=_ from h];cases v with
  |int k m=>
   simp only[cj];cases k<;>first|exact aj|(rw[<-iQ];exact pY n _ _)
  |_=>exact aj
theorem wI {α:Type}{R:α->α->Prop}{f f':Array Value->Sem α}{args:Array Value}(h1:∀x y,args=#[x,y]->bg P π N V R (f #[x,y]) (f' #[Value.ren π x,Value.ren π y]))(h2:args.size≠2->bg P π N V R (f args) (f' (args.map (Value.ren π)))):bg P π N V R (f args) (f' (args.map (Value.ren π))):=by
 obtain⟨l⟩:=args
 match l with
 |[x,y]=>simpa using h1 x y rfl
 |[]=>exact h2 (by simp)
 |[_]=>exact h2 (by simp)
 |_::_::_::_=>exact h2 (by simp)
theorem tj {ats:Array TypeId}{t:TypeId}{args:Array Value}(hN:∀r,V r->¬N r)(hv:∀v∈args,VV V v):bg P π N V (RV π) (Builtin.unsafeString_ ats t args) (Builtin.unsafeString_ ats t (args.map (Value.ren π))):=by
 refine wI (f:=Builtin.unsafeString_ ats t) (f':=Builtin.unsafeString_ ats t) (λx y he=>?_) λh=>?_
 .subst he
  unfold Builtin.unsafeString_;cases x with
  |pointer p=>
   have e:Value.ren π (.pointer p)= .pointer (p.map (aZ π)):=aU _;rw[e];refine(kz y).bind' λn _ h=>?_
   subst h;cases ats[0]? with
   |none=>exact aj
   |some pt=>
    refine cB rG (cB (aH trivial) ?_);cases p with
    |none=>exact cB (au (by simp[RV])) tn
    |some a=>
     have hva:V a.block:=(hv _ (by simp)).ptr;refine cB (au (by simp[RV])) ?_;refine(wF pt).bind' λe _ h=>?_
     subst h;refine(nD hva).bind' λb _ h=>?_
     subst h;refine cB ?_ (aH trivial);refine(pY _ a _).bind' λs _ h=>?_
     subst h;exact bg.freeze hva (hN _ hva) (au (by simp[RV]))
  |_=>exact aj
 .obtain⟨l⟩:=args
  match l,h with
  |[],_=>exact aj
  |[_],_=>exact aj
  |[_,_],h=>exact absurd rfl h
  |_::_::_::_,_=>exact aj
theorem pS {ats:Array TypeId}{t:TypeId}{args:Array Value}(hv:∀v∈args,VV V v):bg P π N V (RV π) (Builtin.unsafeSliceData_ ats t args) (Builtin.unsafeSliceData_ ats t (args.map (Value.ren π))):=by
 obtain⟨l⟩:=args
 match l,hv with
 |[],_=>exact aj
 |[x],hv=>
  cases x with
  |slice p n c=>
   have e:(Array.mk [Value.slice p n c]).map (Value.ren π)=#[.slice (p.map (aZ π)) n c]:=by simp
   rw[e];unfold Builtin.unsafeSliceData_;cases p with
   |none=>exact au (by simp[RV])
   |some a=>
    have hva:V a.block:=hv (.slice (some a) n c) (by simp) _ (.slice rfl);refine cB (au (by simp[RV])) ?_;refine(qy hva).bind' λx _ h=>?_
    subst h;cases x with
    |some z=>exact au (by simp[RV])
    |none=>
     refine(wF t).bind' λe _ h=>?_
     subst h;exact n9 hva
  |_=>exact aj
 |_::_::_,_=>exact aj
theorem yo {α:Type}:∀(a:Ask α) (w:World),(w.ask a).2.heap=w.heap
 |.done a,w=>rfl
 |.ask what range k,w=>by
  simp only[World.ask];split
  .exact yo _ _
  .exact yo _ _
theorem NS {α:Type}{c:Sys}{k:SysRet->Sem α}(h:∀r,Dead P (k r)):Dead P (.sys c k):=by
 intro w hw;have e:(w.sys c).2.heap=w.heap:=by
  unfold World.sys;have:=yo (Kernel.perform c w.os) w;split
  .rfl
  .rename_i r os w' heq
   rw[heq] at this;exact this
 exact h _ _ λb o hb=>hw b o (by rw[<-e];exact hb)
theorem FD (v:Value):Dead P (Instr.panic v):=by
 unfold Instr.panic;cases v with
 |iface t v=>exact Dead.halt trivial
 |nilIface=>
  unfold Instr.panicnil;simp only[bind_assoc];refine NS λr=>?_
  cases r with
  |strings env=>
   refine Bf ?_;simp only[pure_bind];exact DB (Dead.halt trivial) (dw _)
  |_=>exact Dead.halt trivial
 |_=>exact Dead.halt trivial
theorem hU:∀(l:List FieldStep) (t:TypeId) (x:Option Value),bg P π N V (λr r'=>(∃b,r= .error b/\r'= .error b)\/∃t y,r= .ok (t,y)/\r'= .ok (t,y.map (Value.ren π))) (followBlind l t x) (followBlind l t (x.map (Value.ren π)))
 |[],t,x=>au (.inr ⟨_,_,rfl,rfl⟩)
 |s::l,t,x=>by
  simp only[followBlind];refine(aE s.struct).bind' λu _ h=>?_
  obtain⟨rfl,_⟩:=h;cases u with
  |struct fs=>
   dsimp only;cases fs[s.index]? with
   |none=>exact aj
   |some f=>
    dsimp only;cases s.deref with
    |true=>cases x with
     |none=>exact au (.inl ⟨_,rfl,rfl⟩)
     |some x=>cases x with
      |pointer p=>cases p with
       |none=>simp only[Option.map_some,aU];exact au (.inl ⟨_,rfl,rfl⟩)
       |some a=>simp only[Option.map_some,aU];exact hU l f.type none
      |_=>exact aj
    |false=>cases x with
     |none=>exact hU l f.type none
     |some x=>cases x with
      |agg cs=>
       simp only[Option.map_some,dj];refine(kK f.type cs f.offset).bind' λv v' h=>?_
       obtain⟨rfl,_⟩:=h;exact hU l f.type (some v)
      |_=>exact aj
  |_=>exact aj
theorem rH:∀(n:Nat) (t:TypeId) (v:Value) (name:String),bg P π N V Eq (nilAhead n t v name) (nilAhead n t (Value.ren π v) name)
 |0,_,_,_=>au rfl
 |n+1,t,v,name=>by
  simp only[nilAhead];refine(d9 t).bind' λi _ h=>?_
  obtain⟨rfl,_⟩:=h;cases i.methods.find? (λx=>x.name==name) with
  |none=>exact aj
  |some m=>
   dsimp only;refine(hU _ t (some v)).bind' λr r' h=>?_
   rcases h with⟨b,rfl,rfl⟩|⟨xt,y,rfl,rfl⟩
   .exact au rfl
   .dsimp only
    cases m.func with
    |none=>cases y with
     |none=>exact au rfl
     |some y=>cases y with
      |iface t v=>simp only[Option.map_some,cN];exact rH n t v name
      |nilIface=>simp only[Option.map_some,cG];exact au rfl
      |_=>exact aj
    |some q=>
     obtain⟨f,b⟩:=q;cases b with
     |true=>cases y<;>exact au rfl
     |false=>
      refine(aE xt).bind' λu _ h=>?_
      obtain⟨rfl,_⟩:=h;cases u with
      |pointer e=>cases y with
       |none=>exact au rfl
       |some y=>cases y with
        |pointer p=>cases p<;>(simp only[Option.map_some,aU];exact au rfl)
        |_=>simp only[Option.map_some,dE,cj,dk,cP,bn,aU,dB,cG,bA,dn,dS,cN,dj,cM,db];exact au rfl
      |_=>cases y<;>exact au rfl
end
section
variable {P:Program}{π:Nat->Nat}{N V:Nat->Prop}
theorem Ez (v:Value):bg P π N V Eq (Extern.Bytes.asByte v) (Extern.Bytes.asByte (Value.ren π v)):=by
 unfold Extern.Bytes.asByte;cases v with
 |int k n=>simp only[cj];cases k<;>first|exact aj|exact au rfl
 |_=>exact aj
theorem oa:∀(n:Nat) (a:Addr) (acc:ByteArray),bg P π N V Eq (Extern.Bytes.loadBytes a n acc) (Extern.Bytes.loadBytes (aZ π a) n acc)
 |0,a,acc=>au rfl
 |n+1,a,acc=>by
  simp only[Extern.Bytes.loadBytes];refine(od a).bind' λv v' h=>?_
  rw[show v'=_ from h];cases v with
  |int k m=>
   simp only[cj];cases k<;>first|exact aj|(rw[<-iQ];exact oa n _ _)
  |_=>exact aj
theorem oo (v:Value):bg P π N V Eq (Extern.Bytes.bytesOf v) (Extern.Bytes.bytesOf (Value.ren π v)):=by
 unfold Extern.Bytes.bytesOf;cases v with
 |string s=>simp only[bn];exact au rfl
 |slice a n c=>
  simp only[bA];cases a with
  |none=>exact au rfl
  |some a=>exact oa n a _
 |_=>exact aj
theorem Au (args:Array Value):bg P π N V (RV π) (Extern.AbiNoEscape.same args) (Extern.AbiNoEscape.same (args.map (Value.ren π))):=by
 obtain⟨l⟩:=args
 match l with
 |[]=>exact aj
 |[x]=>
  have e:(Array.mk [x]).map (Value.ren π)=#[Value.ren π x]:=by simp
  rw[e];exact au rfl
 |_::_::_=>exact aj
theorem yM (args:Array Value):bg P π N V (RV π) (Extern.BytealgIndexByte.indexByte args) (Extern.BytealgIndexByte.indexByte (args.map (Value.ren π))):=by
 refine wI (f:=Extern.BytealgIndexByte.indexByte) (f':=Extern.BytealgIndexByte.indexByte) (λx y he=>?_) λh=>?_
 .refine(oo x).bind' λb _ h=>?_
  subst h;refine(Ez y).bind' λc _ h=>?_
  subst h;cases (List.range b.size).find? λi=>b[i]! ==c with
  |none=>exact au (by simp[RV,goInt])
  |some i=>exact au (by simp[RV,goInt])
 .obtain⟨l⟩:=args
  match l,h with
  |[],_=>exact aj
  |[_],_=>exact aj
  |[_,_],h=>exact absurd rfl h
  |_::_::_::_,_=>exact aj
theorem wz (h0:π 0=0)(hP1:P.globals.size<=1)(name:String):bg P π N V (RA π) (globalAddr name) (globalAddr name):=by
 unfold globalAddr;refine cu.bind' λz z' h=>?_
 rw[h.1,h.2];cases h:P.globals.findIdx? λx=>x.name==name with
 |none=>exact aj
 |some g=>
  have hg:g<P.globals.size:=by
   have:=Array.findIdx?_eq_some_iff_findIdx_eq.1 h;exact this.1
  have:g=0:=by omega
  subst this;exact au (by simp[RA,aZ,h0])
theorem Aw (h0:π 0=0)(hP1:P.globals.size<=1)(args:Array Value):bg P π N V (RV π) (Extern.BytealgIndex.index args) (Extern.BytealgIndex.index (args.map (Value.ren π))):=by
 refine wI (f:=Extern.BytealgIndex.index) (f':=Extern.BytealgIndex.index) (λx y he=>?_) λh=>?_
 .refine(oo x).bind' λa _ h=>?_
  subst h;refine(oo y).bind' λb _ h=>?_
  subst h;have hm:bg P π N V Eq Extern.BytealgIndex.maxLen Extern.BytealgIndex.maxLen:=by
   unfold Extern.BytealgIndex.maxLen;refine(wz h0 hP1 _).bind' λg g' h=>?_
   rw[show g'=_ from h];refine(od g).bind' λv v' h=>?_
   rw[show v'=_ from h];exact kz v
  refine hm.bind' λm _ h=>?_
  subst h;refine cB (aH trivial) (cB (aH trivial) ?_);cases (List.range (a.size+1-b.size)).find? λi=>a.extract i (i+b.size)==b with
  |none=>exact au (by simp[RV,goInt])
  |some i=>exact au (by simp[RV,goInt])
 .obtain⟨l⟩:=args
  match l,h with
  |[],_=>exact aj
  |[_],_=>exact aj
  |[_,_],h=>exact absurd rfl h
  |_::_::_::_,_=>exact aj
theorem xX:∀(n t:Nat) (acc:Array Value),(Extern.BytealgMakeNoZero.digits n t acc).map (Value.ren π)=Extern.BytealgMakeNoZero.digits n t (acc.map (Value.ren π))
 |0,_,_=>rfl
 |n+1,t,acc=>by
  simp only[Extern.BytealgMakeNoZero.digits];rw[xX n,Array.map_push,cj]
theorem ww (ps rs:Array TypeId)(args:Array Value):bg P π N V (RV π) (Extern.BytealgMakeNoZero.makeNoZero ps rs args) (Extern.BytealgMakeNoZero.makeNoZero ps rs (args.map (Value.ren π))):=by
 obtain⟨l⟩:=args
 match l with
 |[]=>exact aj
 |[x]=>
  cases x with
  |int k n=>
   have e:(Array.mk [Value.int k n]).map (Value.ren π)=#[.int k n]:=by simp
   rw[e];cases k with
   |i64=>
    unfold Extern.BytealgMakeNoZero.makeNoZero;cases rs[0]? with
    |none=>exact aj
    |some t=>
     refine(aE t).bind' λu _ h=>?_
     obtain⟨rfl,_⟩:=h;cases u with
     |slice elem=>
      refine cB rG ?_;refine io.bind' λc _ h=>?_
      subst h;refine(oq _).bind' λ_ _ _=>?_
      refine io.bind' λb _ h=>?_
      subst h;have key:=kM (P:=P) (π:=π) (N:=N) (V:=V) elem (Extern.BytealgMakeNoZero.digits c b #[]);rw[xX,Array.map_empty] at key;refine key.bind' λa a' h=>?_
      rw[show a'=_ from h];exact au (by simp[RV])
     |_=>exact aj
   |_=>exact aj
  |_=>exact aj
 |_::_::_=>exact aj
def RN (π:Nat->Nat)(S:FuncId->Bool):Next->Next->Prop
 |.value v,n'=>n'= .value (Value.ren π v)
 |.skip,n'=>n'= .skip
 |.enter f ae,n'=>n'= .enter f (ae.map (Value.ren π))/\S f=true
 |_,_=>False
def nJ:Operand->Bool
 |.tmp _|.func _=>true
 |.const v=>jg 8 v
 |.global _=>false
def AU:Operand->Bool
 |.const (.pointer none)=>true
 |_=>false
def Mb (P:Program)(S E:FuncId->Bool)(str:Bool)(c:Call):Bool:=match c.callee with
 |.builtin b=>(match b with
  |.len|.cap|.copy|.min=>true
  |.unsafeSliceData|.unsafeString=>str
  |.append=>Y9 P c.argTypes
  |.clear=>(match c.argTypes[0]? with|some t=>OJ P t|none=>true)
  |_=>false)
 |.value (.func f)=>S f||E f
 |_=>false
def L9 (P:Program)(S E:FuncId->Bool)(str:Bool):Op->Bool
 |.move _|.assign _|.pick _ _ _|.box _ _|.load _ _|.store _ _ _|.nilCheck _|.unOp _ _ _|.makeInterface _ _|.makeMap _ _
 |.field _ _ _|.indexAddr _ _ _|.index _ _ _|.range _ _|.extract _ _|.panic _=>true
 |.next _ b=>b
 |.alloc t|.build t _=>zf P t
 |.buildSlice t _ _|.makeSlice t _ _=>OJ P t
 |.binOp op t x y _=>(match op with
  |.eql|.neq=>((eqTy P 20 t||(str&&lB P t))&&!P.eqGuardType P.depth t)||AU x||AU y
  |_=>true)
 |.convert s d _=>YR P s d
 |.slice t _ _ _ _=>(match P.underlying t with|some (.pointer _)=>false|_=>true)
 |.fieldAddr s _ f=>Nc P s f
 |.lookup t _ _ _|.mapUpdate t _ _ _=>Mk P t
 |.call c=>Mb P S E str c
 |_=>false
def jZ (P:Program)(S E:FuncId->Bool)(str:Bool)(o:Oper):Bool:=L9 P S E str o.op&&o.op.operands.all nJ
structure Zb (P:Program)(π:Nat->Nat)(N:Nat->Prop)(S E:FuncId->Bool)(str:Bool)(V:Nat->Prop):Prop where
 inj:∀i j,π i=π j->i=j
 zero:π 0=0
 yZ:P.globals.size<=1
 body:∀f,S f=true->∃fn,P.funcs[f]? =some fn/\(fn.name== "runtime.NumGoroutine")=false/\fn.body.isSome=true
 ext:∀f,E f=true->∀(args:Array Value) (V:Nat->Prop),bg P π N V (RN π S) (callFunc f args) (callFunc f (args.map (Value.ren π)))
 str:str=true->∀r,V r->¬N r
theorem eL {S:FuncId->Bool}{s s':Sem Value}(h:bg P π N V (RV π) s s'):bg P π N V (RN π S) (do Pure.pure (.value (<-s)):Sem Next) (do Pure.pure (.value (<-s')):Sem Next):=h.bind' λv v' h=>by rw[show v'=_ from h];exact au rfl
theorem SM {S:FuncId->Bool}{s s':Sem Unit}(h:bg P π N V Eq s s'):bg P π N V (RN π S) (do s;Pure.pure .skip:Sem Next) (do s';Pure.pure .skip:Sem Next):=h.bind' λ_ _ _=>au rfl
theorem Ay {S E:FuncId->Bool}{str:Bool}(h:Zb P π N S E str V){f:FuncId}(hf:S f=true\/E f=true)(args:Array Value):bg P π N V (RN π S) (callFunc f args) (callFunc f (args.map (Value.ren π))):=by
 rcases hf with hf|hf
 .obtain⟨fn,h1,h2,h3⟩:=h.body f hf
  unfold callFunc;refine cu.bind' λz z' h=>?_
  rw[h.1,h.2,h1];dsimp only;have h4:fn.body.isNone=false:=by cases hb:fn.body<;>simp_all
  rw[h2,h4];exact au ⟨rfl,hf⟩
 .exact h.ext f hf args V
theorem mT {S:FuncId->Bool}{f:FuncId}{fn:Func}{e:Array Value->Sem Value}(hf:P.funcs[f]? =some fn)(h2:(fn.name== "runtime.NumGoroutine")=false)(h3:fn.body.isNone=true)(hn:Extern.findNext fn=none)(he:Extern.find fn=some e){args:Array Value}
  (h:bg P π N V (RV π) (e args) (e (args.map (Value.ren π)))):bg P π N V (RN π S) (callFunc f args) (callFunc f (args.map (Value.ren π))):=by
 unfold callFunc;refine cu.bind' λz z' h'=>?_
 rw[h'.1,h'.2,hf];dsimp only;rw[h2,h3,hn];refine bg.mark (m:= .extern f) trivial ?_;show bg P π N V _ (match Extern.find fn with|some e=>_|none=>_) (match Extern.find fn with|some e=>_|none=>_);rw[he];exact eL h
theorem Sn {xs:Array Operand}(h:xs.all nJ=true){x:Operand}(hx:x∈xs):nJ x=true:=Array.all_eq_true_iff_forall_mem.1 h x hx
theorem qz {S E:FuncId->Bool}{str:Bool}(h:Zb P π N S E str V){ρ ρ':Operand->Value}{o:Oper}(hok:jZ P S E str o=true)
  (hρ:∀x∈o.op.operands,nJ x=true->ρ' x=Value.ren π (ρ x)/\VV V (ρ x)) (hf:∀f,ρ (.func f)= .func (.func f) #[] #[]/\ρ' (.func f)= .func (.func f) #[] #[]) (hc:∀v,ρ (.const v)=v):
  bg P π N V (RN π S) (execOp ρ o) (execOp ρ' o):=by
 obtain⟨dst,op,ty,pos,after,guard⟩:=o;simp only[jZ,Bool.and_eq_true] at hok;obtain⟨hop,hall⟩:=hok;have hx:∀x∈op.operands,ρ' x=Value.ren π (ρ x)/\VV V (ρ x):=λx hx=>hρ x hx (Sn hall hx)
 clear hρ hall;unfold execOp;cases op with
 |move x=>dsimp only;rw[(hx x (by simp[Op.operands])).1];exact au rfl
 |assign x=>dsimp only;rw[(hx x (by simp[Op.operands])).1];exact au rfl
 |pick c a b=>
  dsimp only;rw[(hx c (by simp[Op.operands])).1,(hx a (by simp[Op.operands])).1,(hx b (by simp[Op.operands])).1];refine(EA _).bind' λt _ h=>?_
  subst h;exact au (by cases t<;>rfl)
 |alloc t=>exact eL (IL hop)
 |box t x=>dsimp only;rw[(hx x (by simp[Op.operands])).1];exact eL (Pz t _)
 |build t ps=>
  dsimp only;have:(ps.map λp=>(p.1,ρ' p.2))=(ps.map λp=>(p.1,ρ p.2)).map λp=>(p.1,Value.ren π p.2):=by
   rw[Array.map_map];exact Array.map_congr_left λp hp=>by simp only[Function.comp];rw[(hx p.2 (by simp[Op.operands];exact⟨p.1,hp⟩)).1]
  rw[this];exact eL (II hop _)
 |buildSlice t n ps=>
  dsimp only;have:(ps.map λp=>(p.1,ρ' p.2))=(ps.map λp=>(p.1,ρ p.2)).map λp=>(p.1,Value.ren π p.2):=by
   rw[Array.map_map];exact Array.map_congr_left λp hp=>by simp only[Function.comp];rw[(hx p.2 (by simp[Op.operands];exact⟨p.1,hp⟩)).1]
  rw[this];exact eL (wG hop n _)
 |load t x=>dsimp only;rw[(hx x (by simp[Op.operands])).1];exact eL (Ey t _)
 |store t x y=>dsimp only;rw[(hx x (by simp[Op.operands])).1,(hx y (by simp[Op.operands])).1];exact SM (Ce t _ _)
 |nilCheck x=>
  dsimp only;rw[(hx x (by simp[Op.operands])).1];generalize ρ x=v;have hp:∀v:Value,bg P π N V (RN π S) (Pure.pure (.value v)) (Pure.pure (.value (Value.ren π v))):=λv=>au rfl
  cases v with
  |pointer p=>cases p with
   |none=>exact tn
   |some a=>have:=hp (.pointer (some a));simp only[aU,Option.map_some] at this⊢;exact this
  |nilIface=>exact tn
  |nilFunc=>exact tn
  |func fn first FQ=>
   have hf:=hp (.func fn first FQ);cases fn with
   |method name=>
    simp only[db,oG,Array.getElem?_map] at hf⊢;cases first[0]? with
    |none=>exact hf
    |some w=>
     simp only[Option.map_some];cases w with
     |nilIface=>exact tn
     |iface t w=>
      simp only[cN];refine cu.bind' λz z' h=>?_
      rw[h.1,h.2];refine(rH _ t w name).bind' λr _ h=>?_
      subst h;exact cB (aH trivial) hf
     |_=>simp only[dE,cj,dk,cP,bn,aU,dB,cG,bA,dn,dS,cN,dj,cM,db];exact hf
   |_=>simp only[db,oG] at hf⊢;exact hf
  |bool b=>have:=hp (.bool b);simp only[dE] at this⊢;exact this
  |int k n=>have:=hp (.int k n);simp only[cj] at this⊢;exact this
  |float k n=>have:=hp (.float k n);simp only[dk] at this⊢;exact this
  |complex k n m=>have:=hp (.complex k n m);simp only[cP] at this⊢;exact this
  |string s=>have:=hp (.string s);simp only[bn] at this⊢;exact this
  |slice a n m=>have:=hp (.slice a n m);simp only[bA] at this⊢;exact this
  |map r=>have:=hp (.map r);simp only[dn] at this⊢;exact this
  |chan r=>have:=hp (.chan r);simp only[dS] at this⊢;exact this
  |iface t w=>have:=hp (.iface t w);simp only[cN] at this⊢;exact this
  |agg cs=>have:=hp (.agg cs);simp only[dj] at this⊢;exact this
  |tuple cs=>have:=hp (.tuple cs);simp only[cM] at this⊢;exact this
 |binOp op t x y t2=>
  dsimp only;have ex:=hx x (by simp[Op.operands]);have ey:=hx y (by simp[Op.operands]);have nl:∀z,AU z=true->ρ z= .pointer none:=λz hz=>by
   unfold AU at hz;split at hz
   .exact hc _
   .cases hz
  have hq:op= .eql\/op= .neq->((eqTy P 20 t=true\/(str&&lB P t)=true)/\P.eqGuardType P.depth t=false)\/ρ x= .pointer none\/ρ y= .pointer none:=by
   rintro(rfl|rfl)
   all_goals
    simp only[L9,Bool.or_eq_true,Bool.and_eq_true,Bool.not_eq_true'] at hop;rcases hop with(h1|h1)|h1
    .exact .inl ⟨h1.1.imp id λh=>by simp[h.1,h.2],h1.2⟩
    .exact .inr (.inl (nl x h1))
    .exact .inr (.inr (nl y h1))
  rw[ex.1,ey.1];refine eL ((Cm (n:=20) λe=>(hq e).imp (λh=>⟨h.1.imp id λh=>by simp only[Bool.and_eq_true] at h;exact h.2,h.2⟩) id).bind' λ_ _ _=>IJ (pe:=str) (n:=20) h.str h.zero h.inj h.yZ (λe=>?_) ex.2 ey.2);rcases hq e with h1|h1
  .exact h1.1.imp id .inr
  .exact .inr (.inl h1)
 |unOp op t x=>dsimp only;rw[(hx x (by simp[Op.operands])).1];exact eL LO
 |convert a b x=>dsimp only;rw[(hx x (by simp[Op.operands])).1];exact eL (Cn hop (hx x (by simp[Op.operands])).2)
 |makeInterface t x=>dsimp only;rw[(hx x (by simp[Op.operands])).1];exact eL (rI t _)
 |makeMap t r=>
  dsimp only;have:r.map ρ'=(r.map ρ).map (Value.ren π):=by
   cases r with
   |none=>rfl
   |some x=>simp[(hx x (by simp[Op.operands])).1]
  rw[this];exact eL (Ci t _)
 |makeSlice t x y=>dsimp only;rw[(hx x (by simp[Op.operands])).1,(hx y (by simp[Op.operands])).1];exact eL (yL hop _ _)
 |slice t x l hh m=>
  dsimp only;have ho:∀z:Option Operand,(∀y,z=some y->y∈(Op.slice t x l hh m).operands)->z.map ρ'=(z.map ρ).map (Value.ren π):=λz hz=>by
   cases z with
   |none=>rfl
   |some y=>simp[(hx y (hz y rfl)).1]
  rw[(hx x (by simp[Op.operands])).1,ho l (λy e=>by simp[Op.operands,e]),ho hh (λy e=>by simp[Op.operands,e]),ho m (λy e=>by simp[Op.operands,e])];refine eL (Cg t _ _ _ _ λe he=>?_);simp[L9,he] at hop
 |fieldAddr t x f=>dsimp only;rw[(hx x (by simp[Op.operands])).1];exact eL (Ck hop _)
 |field t x f=>dsimp only;rw[(hx x (by simp[Op.operands])).1];exact eL (IE t _ f)
 |indexAddr t x y=>dsimp only;rw[(hx x (by simp[Op.operands])).1,(hx y (by simp[Op.operands])).1];exact eL (Cj t _ _)
 |index t x y=>dsimp only;rw[(hx x (by simp[Op.operands])).1,(hx y (by simp[Op.operands])).1];exact eL (ID t _ _)
 |lookup t x y ok=>dsimp only;rw[(hx x (by simp[Op.operands])).1,(hx y (by simp[Op.operands])).1];exact eL (Ex hop _ _ ok)
 |mapUpdate t m k v=>dsimp only;rw[(hx m (by simp[Op.operands])).1,(hx k (by simp[Op.operands])).1,(hx v (by simp[Op.operands])).1];exact SM (yK h.inj hop _ _ _)
 |range t x=>dsimp only;rw[(hx x (by simp[Op.operands])).1];exact eL (IC _)
 |next x b=>cases b with
  |false=>cases hop
  |true=>dsimp only;rw[(hx x (by simp[Op.operands])).1];exact eL (La _ _)
 |entry _=>cases hop
 |extract x i=>dsimp only;rw[(hx x (by simp[Op.operands])).1];exact eL (Cl _ i)
 |panic x=>exact .dead (Dead.bind _ (FD _))
 |call c=>
  obtain⟨callee,Hr,ats⟩:=c;have ha:Hr.map ρ'=(Hr.map ρ).map (Value.ren π):=by
   rw[Array.map_map];exact Array.map_congr_left λy hy=>(hx y (by simp[Op.operands,Call.operands,hy])).1
  have hav:∀v∈Hr.map ρ,VV V v:=λv hv=>by
   obtain⟨y,hy,rfl⟩:=Array.mem_map.1 hv;exact(hx y (by simp[Op.operands,Call.operands,hy])).2
  simp only[L9,Mb] at hop;dsimp only;unfold resolve;rw[ha];generalize Hr.map ρ=vs at hav⊢;cases callee with
  |invoke r m=>simp at hop
  |builtin b=>
   dsimp only at hop;cases b<;>first|(exfalso;simp at hop;done)|skip
   case append=>exact eL (EB hop)
   case cap=>exact eL Py
   case clear=>exact eL (IG hop)
   case copy=>exact eL Ld
   case len=>exact eL Px
   case min=>exact eL Pw
   case unsafeSliceData=>exact eL (pS hav)
   case unsafeString=>exact eL (tj (h.str hop) hav)
  |value f=>
   cases f with
   |func f=>
    dsimp only at hop⊢;rw[(hf f).1,(hf f).2];have e1:∀ws:Array Value,#[]++ws++#[]=ws:=λws=>by simp
    have:=Ay h (by simpa using hop) vs;show bg P π N V _ (callFunc f (#[]++vs++#[])) (callFunc f (#[]++vs.map (Value.ren π)++#[]));rw[e1,e1];exact this
   |_=>simp at hop
 |_=>simp[L9] at hop
end
section
variable {π:Nat->Nat}
theorem eQ:∀(v:Value),(∀r,Value.Has r v->π r=r)->Value.ren π v=v
 |.bool _,_|.int _ _,_|.float _ _,_|.complex _ _ _,_|.string _,_|.nilFunc,_|.nilIface,_=>by simp
 |.pointer a,h=>by
  cases a with
  |none=>simp
  |some a=>simp[aZ,h a.block (.ptr rfl)]
 |.slice a n c,h=>by
  cases a with
  |none=>simp
  |some a=>simp[aZ,h a.block (.slice rfl)]
 |.map r,h=>by
  cases r with
  |none=>simp
  |some r=>simp[h r .map]
 |.chan r,h=>by
  cases r with
  |none=>simp
  |some r=>simp[h r .chan]
 |.iface t v,h=>by rw[cN,eQ v λr x=>h r (.iface x)]
 |.agg cs,h=>by rw[dj,cg λv hv=>eQ v λr x=>h r (.agg hv x)]
 |.tuple cs,h=>by rw[cM,cg λv hv=>eQ v λr x=>h r (.tuple hv x)]
 |.func fn f c,h=>by
  rw[db,cg λv hv=>eQ v λr x=>h r (.first hv x),cg λv hv=>eQ v λr x=>h r (.FQ hv x)];cases fn with
  |yield l=>simp[oG,h l .yield]
  |_=>rfl
termination_by v=>SizeOf.sizeOf v
decreasing_by
 all_goals first
  |(simp_wf;have:=Array.sizeOf_lt_of_mem ‹_∈_›;omega)
  |(simp_wf;omega)
theorem pE {c:Array Value}{f:Value->Value}(h:c.map f=c){x:Value}(hx:x∈c):f x=x:=by
 obtain⟨i,hi,rfl⟩:=Array.mem_iff_getElem.1 hx;have:=congrArg (·[i]?) h;simp[hi] at this;exact this
theorem nn {r:Nat}{v:Value}(hr:Value.Has r v):Value.ren π v=v->π r=r:=by
 induction hr with
 |ptr h=>intro e;simp[aZ] at e;rw[<-h];exact congrArg Addr.block e
 |slice h=>intro e;simp[aZ] at e;rw[<-h];exact congrArg Addr.block e
 |map=>intro e;simpa using e
 |chan=>intro e;simpa using e
 |yield=>intro e;simp[oG] at e;exact e.1
 |first hx _ ih=>intro e;rw[db] at e;injection e with _ e1 _;exact ih (pE e1 hx)
 |FQ hx _ ih=>intro e;rw[db] at e;injection e with _ _ e1;exact ih (pE e1 hx)
 |iface _ ih=>intro e;rw[cN] at e;injection e with _ e1;exact ih e1
 |agg hx _ ih=>intro e;rw[dj] at e;injection e with e1;exact ih (pE e1 hx)
 |tuple hx _ ih=>intro e;rw[cM] at e;injection e with e1;exact ih (pE e1 hx)
inductive j6 (r:Nat):Obj->Prop
 |cells {c:Array Value} {t:TypeId} {f:Nat×Nat} {v:Value} (hv:v∈c) (h:Value.Has r v):j6 r (.cells c t f)
 |key {es:Array MapEntry} {c:Nat} {e:MapEntry} (he:e∈es) (h:Value.Has r e.key):j6 r (.map es c)
 |val {es:Array MapEntry} {c:Nat} {e:MapEntry} (he:e∈es) (h:Value.Has r e.val):j6 r (.map es c)
 |iter {a:Nat} {b:Array Nat} {c:Nat}:j6 r (.mapIter (some r) a b c)
 |view {a:Addr} {t:TypeId} (h:a.block=r):j6 r (.view a t)
 |number {a:Addr} {l:Bool} (h:a.block=r):j6 r (.number a l)
theorem oF {o:Obj}(h:∀r,j6 r o->π r=r):dA π o=o:=by
 cases o with
 |cells c t f=>simp only[dA];rw[cg λv hv=>eQ v λr x=>h r (.cells hv x)]
 |map es c=>
  simp only[dA];have:es.map (lY π)=es:=by
   apply Array.ext
   .simp
   .intro i h1 h2
    rw[Array.getElem_map];unfold lY;rw[eQ _ λr x=>h r (.key (Array.getElem_mem _) x),eQ _ λr x=>h r (.val (Array.getElem_mem _) x)]
  rw[this]
 |mapIter m a b c=>cases m with
  |none=>rfl
  |some r=>simp[dA,h r .iter]
 |view a t=>simp[dA,aZ,h a.block (.view rfl)]
 |number a l=>simp[dA,aZ,h a.block (.number rfl)]
 |_=>rfl
theorem Fu {r:Nat}{o:Obj}(hr:j6 r o)(h:dA π o=o):π r=r:=by
 cases hr with
 |cells hv x=>simp only[dA] at h;injection h with h1;exact nn x (pE h1 hv)
 |key he x=>
  simp only[dA] at h;injection h with h1;obtain⟨i,hi,rfl⟩:=Array.mem_iff_getElem.1 he;have:=congrArg (·[i]?) h1;simp[hi] at this;exact nn x (congrArg MapEntry.key this)
 |val he x=>
  simp only[dA] at h;injection h with h1;obtain⟨i,hi,rfl⟩:=Array.mem_iff_getElem.1 he;have:=congrArg (·[i]?) h1;simp[hi] at this;exact nn x (congrArg MapEntry.val this)
 |iter=>simpa [dA] using h
 |view x=>simp[dA,aZ] at h;rw[<-x];exact congrArg Addr.block h
 |number x=>simp[dA,aZ] at h;rw[<-x];exact congrArg Addr.block h
theorem Js {o:Obj}{i:Nat}(h:inner o i):j6 i o:=by
 cases o<;>first|exact h.elim|exact .view h.symm|exact .number h.symm
def sg (r M:Nat)(x:Nat):Nat:=if x=r then M else if M<=x then x+1 else x
theorem Ur {r M:Nat}(hr:r<M):∀i j,sg r M i=sg r M j->i=j:=by
 intro i j h;unfold sg at h;split at h<;>split at h<;>(try split at h)<;>(try split at h)<;>omega
theorem Us {r M x:Nat}(h:x≠r)(hx:x<M):sg r M x=x:=by unfold sg;rw[if_neg h,if_neg (by omega)]
theorem PB {r M:Nat}(hr:r<M):sg r M r≠r:=by unfold sg;rw[if_pos rfl];omega
end
def gp (H:Nat->Prop)(wL:World)(r:Nat):Prop:=r<wL.heap.size/\¬H r
structure LW (H Z:Nat->Prop)(wL:World):Prop where
 ok:∀(b:Nat) (o:Obj),wL.heap[b]? =some o->¬H b->¬Z b->nK o
 hid:∀(b:Nat) (o:Obj),wL.heap[b]? =some o->H b->o= .cells #[] 1000000 (0,0)
 nU:∀(b:Nat) (o:Obj),wL.heap[b]? =some o->Z b->∃c t,o= .cells c t (0,c.size)
 low:∀b,H b\/Z b->b<wL.heap.size
 apart:∀b,Z b->¬H b
 zero:gp H wL 0
 RY:∀(b:Nat) (o:Obj),wL.heap[b]? =some o->¬H b->∀r,j6 r o->gp H wL r
section
variable {P:Program}{π:Nat->Nat}{H Z:Nat->Prop}{wL w:World}
theorem LW.zN (h:LW H Z wL):d7 wL:=by
 intro b o hb
 by_cases hH:H b
 .rw[h.hid b o hb hH];trivial
 .by_cases hZ:Z b
  .obtain⟨c,t,rfl⟩:=h.nU b o hb hZ;trivial
  .exact h.ok b o hb hH hZ
theorem LW.ax (h:LW H Z wL)(t:dX)(d:Nat):LW H Z (ax wL t d):=⟨h.ok,h.hid,h.nU,h.low,h.apart,h.zero,h.RY⟩
theorem LW.self (h:LW H Z wL){σ:Nat->Nat}(hi:∀i j,σ i=σ j->i=j)(hf:∀i,gp H wL i->σ i=i):WR σ H Z wL wL:=by
 have ob:∀(b:Nat) (o:Obj),wL.heap[b]? =some o->¬H b->σ b=b/\dA σ o=o:=λb o hb hH=>
  ⟨hf b ⟨(Array.getElem?_eq_some_iff.1 hb).1,hH⟩,oF λr hr=>hf r (h.RY b o hb hH r hr)⟩
 refine {inj:=hi,tape:=rfl,drawn:=rfl,lt:=λb hb hH=>by rw[hf b ⟨hb,hH⟩];exact hb,ok:=λb o hb hH hZ=>⟨h.ok b o hb hH hZ,?_⟩,hid:=h.hid,nU:=λb o hb hZ=>?_,low:=h.low,yy:=λb o hb i hin=>?_}
 .obtain⟨e1,e2⟩:=ob b o hb hH
  rw[e1,e2];exact hb
 .obtain⟨e1,e2⟩:=ob b o hb (h.apart b hZ)
  obtain⟨c,t,rfl⟩:=h.nU b o hb hZ;refine⟨c,t,(0,c.size),rfl,?_⟩;rw[e1];simp only[dA] at e2;injection e2 with e3;rw[e3];exact hb
 .by_cases hH:H b
  .rw[h.hid b o hb hH] at hin;exact hin.elim
  .exact h.RY b o hb hH i (Js hin)
theorem uQ {α:Type}{R:(Nat->Nat)->α->α->Prop}{s:Sem α}(To:P.cellsOf 1000000=0)(h:LW H Z wL)
  (hs:∀σ:Nat->Nat,(∀i j,σ i=σ j->i=j)->(∀i,gp H wL i->σ i=i)->bg P σ (λb=>H b\/Z b) (gp H wL) (R σ) s s) {x:α} {bu:World} (hr:s.run P wL= .ok x bu):
  LW H Z bu/\wL.heap.size<=bu.heap.size/\∀r,¬gp H bu r->∃σ:Nat->Nat,σ r≠r/\R σ x x:=by
 have hsz:=(hs id (λ_ _ h=>h) (λ_ _=>rfl)).mz h.zN (λb hb=>h.low b hb) hr;have Fc:∀i,gp H wL i->gp H bu i:=λi hi=>⟨Nat.lt_of_lt_of_le hi.1 hsz.1,hi.2⟩
 have key:∀σ:Nat->Nat,(∀i j,σ i=σ j->i=j)->(∀i,gp H bu i->σ i=i)->R σ x x/\WR σ H Z bu bu:=by
  intro σ hi hf;have hw:=h.self hi λi hv=>hf i (Fc i hv)
  obtain⟨x',w',es',g1,g2,g3,_,_⟩:=(hs σ hi λi hv=>hf i (Fc i hv)).run To (λb=>Iff.rfl) hw (λi hv=>hv) hr (λi hlt=>hf _ ⟨hlt,λhH=>by have:=h.low _ (.inl hH);omega⟩) (es:=#[]);have g4:=congrArg Prod.fst g1;rw[Sem.runT_fst,hr] at g4;simp only[Result.ok.injEq] at g4;obtain⟨rfl,rfl⟩:=g4;exact⟨g2,g3⟩
 have mv:∀r,¬gp H bu r->∃σ:Nat->Nat,σ r≠r/\(∀i j,σ i=σ j->i=j)/\∀i,gp H bu i->σ i=i:=by
  intro r hr';refine⟨sg r (max (r+1) (bu.heap.size+1)),PB (by omega),Ur (by omega),λi hi=>Us (λe=>hr' (e▸hi)) (by have:=hi.1;omega)⟩
 have w0:=(key id (λ_ _ h=>h) (λ_ _=>rfl)).2;refine⟨⟨λb o hb hH hZ=>(w0.ok b o hb hH hZ).1,w0.hid,λb o hb hZ=>?_,w0.low,h.apart,Fc 0 h.zero,λb o hb hH r hr'=>Classical.byContradiction λhv=>?_⟩,hsz.1,λr hv=>?_⟩
 .obtain⟨c,t,f,e,_⟩:=w0.nU b o hb hZ
  exact⟨c,t,e⟩
 .obtain⟨σ,m1,m2,m3⟩:=mv r hv
  have hb':σ b=b:=m3 b ⟨(Array.getElem?_eq_some_iff.1 hb).1,hH⟩;have ws:=(key σ m2 m3).2;refine m1 (Fu hr' ?_)
  by_cases hZ:Z b
  .obtain⟨c,t,f,rfl,e⟩:=ws.nU b o hb hZ
   rw[hb',hb] at e;simp only[Option.some.injEq,Obj.cells.injEq] at e;simp only[dA];rw[<-e.1]
  .have:=(ws.ok b o hb hH hZ).2
   rw[hb',hb] at this;exact(Option.some.inj this).symm
 .obtain⟨σ,m1,m2,m3⟩:=mv r hv
  exact⟨σ,m1,(key σ m2 m3).1⟩
end
abbrev kf:=List (Nat×Value)
def sl (D:kf):List Nat:=D.map (·.1)
def iT (σ:List Nat):Operand->Bool
 |.tmp t=>!σ.contains t
 |_=>true
def AT (σ:List Nat)(o:Oper):Bool:=match o.dst with|some t=>!σ.contains t|none=>true
def eG (σ:List Nat)(P:Program)(S E:FuncId->Bool)(str:Bool)(o:Oper):Bool:=jZ P S E str o&&(σ.isEmpty||(o.op.operands.all (iT σ)&&AT σ o))
def eM (σ:List Nat)(P:Program)(S E:FuncId->Bool)(str:Bool):Code->Bool
 |.skip|.exit _|.label _|.ret=>true
 |.region _ ops _=>ops.all (eG σ P S E str)
 |.seq a b=>eM σ P S E str a&&eM σ P S E str b
 |.cond c a b=>(nJ c&&iT σ c)&&eM σ P S E str a&&eM σ P S E str b
 |.block _ b|.loop b|.scope b=>eM σ P S E str b
 |.goto _|.refuse _=>true
 |_=>false
def Mc (σ:List Nat)(ops:Array Oper)(o:Oper):Bool:=σ.isEmpty||match o.guard with
 |none=>true
 |some g=>(ops[g.1]?).all (AT σ)
def bV (σ:List Nat)(P:Program)(S E:FuncId->Bool)(str:Bool):Item->Bool
 |.code c|.inLoop c|.inScope c=>eM σ P S E str c
 |.inBlock _=>true
 |.inRegion ops todo=>todo.all λi=>(ops[i]?).all λo=>eG σ P S E str o&&Mc σ ops o
 |_=>false
abbrev xl:=eM []
abbrev AS:=bV []
theorem oL {σ:List Nat}{P:Program}{S E:FuncId->Bool}{str:Bool}{ops:Array Oper}{i:Nat}{rest:List Nat}{o:Oper}(h:bV σ P S E str (.inRegion ops (i::rest))=true)(ho:ops[i]? =some o):eG σ P S E str o=true:=by
 simp only[bV,List.all_cons,Bool.and_eq_true] at h;have:=h.1;rw[ho] at this;simp only[Option.all_some,Bool.and_eq_true] at this;exact this.1
theorem xk {σ:List Nat}{P:Program}{S E:FuncId->Bool}{str:Bool}{ops:Array Oper}{i:Nat}{rest:List Nat}{o:Oper}(h:bV σ P S E str (.inRegion ops (i::rest))=true)(ho:ops[i]? =some o):Mc σ ops o=true:=by
 simp only[bV,List.all_cons,Bool.and_eq_true] at h;have:=h.1;rw[ho] at this;simp only[Option.all_some,Bool.and_eq_true] at this;exact this.2
theorem jN {σ:List Nat}{P:Program}{S E:FuncId->Bool}{str:Bool}{ops:Array Oper}{i:Nat}{rest:List Nat}(h:bV σ P S E str (.inRegion ops (i::rest))=true):bV σ P S E str (.inRegion ops rest)=true:=by
 simp only[bV,List.all_cons,Bool.and_eq_true] at h⊢;exact h.2
theorem qe {σ:List Nat}{P:Program}{S E:FuncId->Bool}{str:Bool}{ops:Array Oper}{id:Nat}{d:Bool}(h:bV σ P S E str (.code (.region id ops d))=true)(l:List Nat):bV σ P S E str (.inRegion ops l)=true:=by
 have h:ops.all (eG σ P S E str)=true:=h;have h':=Array.all_eq_true_iff_forall_mem.1 h;simp only[bV];refine List.all_eq_true.2 λi _=>?_
 cases ho:ops[i]? with
 |none=>rfl
 |some o=>
  simp only[Option.all_some,Bool.and_eq_true];refine⟨h' o (Array.mem_of_getElem? ho),?_⟩;unfold Mc
  by_cases e:σ.isEmpty=true
  .rw[e];rfl
  .cases o.guard with
   |none=>simp
   |some g=>
    simp only[Bool.or_eq_true];refine .inr ?_;cases hj:ops[g.1]? with
    |none=>rfl
    |some p=>
     have:=h' p (Array.mem_of_getElem? hj);simp only[eG,Bool.and_eq_true,Bool.or_eq_true] at this;exact(this.2.resolve_left e).2
structure Stat (P:Program)(S E:FuncId->Bool)(str:Bool):Prop where
 yZ:P.globals.size<=1
 tS:P.cellsOf 1000000=0
 body:∀f,S f=true->∃fn c,P.funcs[f]? =some fn/\(fn.name== "runtime.NumGoroutine")=false/\fn.body=some c/\xl P S E str c=true
 ext:∀f,E f=true->∀(π:Nat->Nat),(∀i j,π i=π j->i=j)->π 0=0->∀(N V:Nat->Prop) (args:Array Value),bg P π N V (RN π S) (callFunc f args) (callFunc f (args.map (Value.ren π)))
def xj (D:kf)(c:Array Value):Array Value:=D.foldl (λc p=>c.setIfInBounds p.1 p.2) c
def aY (π:Nat->Nat)(a:Act)(D:kf):Act:={tmps:=xj D (a.tmps.map (Value.ren π)),defers:=[]}
theorem rW:∀(D:kf) (c:Array Value) (t:Nat),t∉sl D->(xj D c)[t]? =c[t]?
 |[],_,_,_=>rfl
 |p::D,c,t,h=>by
  have h1:t≠p.1:=λe=>h (by simp[sl,e])
  have h2:t∉sl D:=λe=>h (by simp only[sl,List.map_cons,List.mem_cons];exact .inr e)
  show(xj D (c.setIfInBounds p.1 p.2))[t]? =_;rw[rW D _ t h2,Array.getElem?_setIfInBounds_ne (λe=>h1 e.symm)]
theorem AP:∀(D:kf) (c:Array Value) (t:Nat) (v:Value),t∉sl D->(xj D c).setIfInBounds t v=xj D (c.setIfInBounds t v)
 |[],_,_,_,_=>rfl
 |p::D,c,t,v,h=>by
  have h1:t≠p.1:=λe=>h (by simp[sl,e])
  have h2:t∉sl D:=λe=>h (by simp only[sl,List.map_cons,List.mem_cons];exact .inr e)
  show(xj D (c.setIfInBounds p.1 p.2)).setIfInBounds t v=xj D ((c.setIfInBounds t v).setIfInBounds p.1 p.2);rw[AP D _ t v h2,Array.setIfInBounds_comm _ _ (λe=>h1 e.symm)]
theorem GI {σ:List Nat}{t:Nat}(h:iT σ (.tmp t)=true):t∉σ:=by simpa [iT] using h
theorem cX {σ:List Nat}{o:Oper}(h:AT σ o=true):∀t,o.dst=some t->t∉σ:=λt e=>by
 unfold AT at h;rw[e] at h;simpa using h
theorem kR {σ:List Nat}{P:Program}{S E:FuncId->Bool}{str:Bool}{o:Oper}(h:eG σ P S E str o=true):jZ P S E str o=true/\(∀x∈o.op.operands,iT σ x=true)/\∀t,o.dst=some t->t∉σ:=by
 simp only[eG,Bool.and_eq_true,Bool.or_eq_true] at h;rcases h.2 with e|e
 .have:σ=[]:=by simpa using e
  subst this;exact⟨h.1,λx _=>by cases x<;>simp[iT],λt _=>by simp⟩
 .exact⟨h.1,Array.all_eq_true_iff_forall_mem.1 e.1,cX e.2⟩
section
variable {P:Program}{S E:FuncId->Bool}{str:Bool}{π:Nat->Nat}{H Z:Nat->Prop}{wL w:World}
theorem Stat.Uq (hS:Stat P S E str)(hi:∀i j,π i=π j->i=j)(h0:π 0=0)(hz:str=true->∀b,¬Z b)(V:Nat->Prop)(hV:∀i,V i->¬H i):Zb P π (λb=>H b\/Z b) S E str V:=
 {inj:=hi,zero:=h0,yZ:=hS.yZ
  body:=λf hf=>by obtain⟨fn,c,h1,h2,h3,_⟩:=hS.body f hf;exact⟨fn,h1,h2,by rw[h3];rfl⟩
  ext:=λf hf args V=>hS.ext f hf π hi h0 _ V args
  str:=λhs r hr hn=>hn.elim (hV r hr) (hz hs r)}
theorem jQ (c:Array Value)(i:Nat):(c.map (Value.ren π)).getD i undef=Value.ren π (c.getD i undef):=by
 simp only[Array.getD_eq_getD_getElem?,Array.getElem?_map];cases c[i]? <;>simp[undef]
theorem k8 (a:Act)(D:kf){x:Operand}(hx:nJ x=true)(ho:iT (sl D) x=true:=by rfl):(aY π a D).eval x=Value.ren π (a.eval x):=by
 cases x with
 |tmp t=>
  show(xj D (a.tmps.map (Value.ren π))).getD t undef=_;rw[Array.getD_eq_getD_getElem?,rW D _ t (GI ho),<-Array.getD_eq_getD_getElem?];exact jQ _ _
 |const v=>exact(et hx).symm
 |global g=>cases hx
 |func f=>simp[Act.eval,oG]
theorem MZ:∀{n:Nat} {v:Value},jg n v=true->∀r,¬Value.Has r v:=by
 intro n v h r hr;have:=nn (π:=λx=>x+1) hr (et h);omega
theorem lI {V:Nat->Prop}{a:Act}(ha:∀v∈a.tmps,VV V v){x:Operand}(hx:nJ x=true):VV V (a.eval x):=by
 cases x with
 |tmp t=>
  show VV V (a.tmps.getD t undef);rw[Array.getD_eq_getD_getElem?];cases h:a.tmps[t]? with
  |none=>intro r hr;cases hr with|tuple hx _=>simp[undef] at hx
  |some v=>exact ha v (Array.mem_of_getElem? h)
 |const v=>exactλr hr=>absurd hr (MZ hx r)
 |global g=>cases hx
 |func f=>intro r hr;cases hr<;>simp_all
theorem hY (a:Act)(D:kf)(d:Option Tmp)(v:Value)(hd:∀t,d=some t->t∉sl D:=by intro _ _ h;cases h):(aY π a D).put d (Value.ren π v)=aY π (a.put d v) D:=by
 cases d with
 |none=>rfl
 |some t=>
  simp only[Act.put,aY];rw[AP D _ t _ (hd t rfl),Array.map_setIfInBounds]
theorem jt {V:Nat->Prop}{a:Act}(ha:∀v∈a.tmps,VV V v){d:Option Tmp}{v:Value}(hv:VV V v):∀u∈(a.put d v).tmps,VV V u:=by
 cases d with
 |none=>exact ha
 |some d=>
  intro u hu;simp only[Act.put] at hu;rcases Array.mem_or_eq_of_mem_setIfInBounds hu with h|h
  .exact ha u h
  .rw[h];exact hv
theorem gG {V:Nat->Prop}:VV V undef:=by intro r hr;cases hr with|tuple hx _=>simp at hx
theorem tY (ops:Array Oper)(c:Array Value):yielded ops (c.map (Value.ren π))=yielded ops c:=by
 funext j
 unfold yielded;cases (ops[j]?).bind (·.dst) with
 |none=>rfl
 |some t=>
  simp only[Option.bind_some,Array.getElem?_map];cases c[t]? with
  |none=>rfl
  |some v=>cases v<;>simp
theorem vW {ops:Array Oper}{c:Array Value}{D:kf}{o:Oper}(h:Mc (sl D) ops o=true):Region.wanted o (yielded ops (xj D (c.map (Value.ren π))))=Region.wanted o (yielded ops c):=by
 unfold Mc at h;simp only[Bool.or_eq_true] at h;rcases h with h|h
 .cases D with
  |nil=>rw[show xj [] (c.map (Value.ren π))=c.map (Value.ren π) from rfl,tY]
  |cons p D=>simp[sl] at h
 .unfold Region.wanted
  cases hg:o.guard with
  |none=>rfl
  |some g=>
   rw[hg] at h;simp only at h⊢;have e:yielded ops (xj D (c.map (Value.ren π))) g.1=yielded ops c g.1:=by
    rw[<-tY (π:=π) ops c];unfold yielded;cases ho:ops[g.1]? with
    |none=>rfl
    |some p=>
     rw[ho] at h;simp only[Option.bind_some];cases hd:p.dst with
     |none=>rfl
     |some t=>
      simp only[Option.bind_some];rw[rW D _ t (cX (by simpa using h) t hd)]
   rw[e]
theorem nA (hS:Stat P S E str)(hi:∀i j,π i=π j->i=j)(h0:π 0=0)(hz:str=true->∀b,¬Z b)(hl:LW H Z wL)(hw:WR π H Z wL w){a:Act}(D:kf)(ha:∀v∈a.tmps,VV (gp H wL) v){o:Oper}(ho':eG (sl D) P S E str o=true)
  {x:Next} {bu:World} (hr:(execOp a.eval o).run P wL= .ok x bu) (hag:∀i,wL.heap.size+i<bu.heap.size->π (wL.heap.size+i)=w.heap.size+i):
  LW H Z bu/\wL.heap.size<=bu.heap.size/\∃x' w',(execOp (aY π a D).eval o).run P w= .ok x' w'/\RN π S x x'/\WR π H Z bu w'/\Bu π H Z wL bu w w'/\(∀e∈(execOp (aY π a D).eval o).events P w #[],pj π H Z bu.heap.size e)/\
   (match x with|.value v=>VV (gp H bu) v|.enter f ae=>(∀v∈ae,VV (gp H bu) v)|_=>True):=by
 obtain⟨ho,hoff,_⟩:=kR ho';have sim:∀(π:Nat->Nat) (D:kf),(∀x∈o.op.operands,iT (sl D) x=true)->(∀i j,π i=π j->i=j)->π 0=0->bg P π (λb=>H b\/Z b) (gp H wL) (RN π S) (execOp a.eval o) (execOp (aY π a D).eval o):=λπ D hoff hi h0=>
  qz (hS.Uq hi h0 hz _ λi hv=>hv.2) ho (λx hm hx=>⟨k8 a D hx (hoff x hm),lI ha hx⟩) (λf=>⟨rfl,rfl⟩) (λv=>rfl)
 have self:=uQ (R:=λσ=>RN σ S) hS.tS hl (λσ hi hf=>by
  have e:aY σ a []={a with defers:=[]}:=by
   unfold aY;rw[show xj [] (a.tmps.map (Value.ren σ))=a.tmps.map (Value.ren σ) from rfl,cg λv hv=>eQ v λr hr=>hf r (ha v hv r hr)]
  have:=sim σ [] (λx _=>by cases x<;>rfl) hi (hf 0 hl.zero);rw[e] at this;exact this) hr
 obtain⟨l1,l2,l3⟩:=self;obtain⟨x',w',es',g1,g2,g3,g4,g5⟩:=(sim π D hoff hi h0).run hS.tS (λb=>Iff.rfl) hw (λi hv=>hv) hr hag (es:=#[]);refine⟨l1,l2,x',w',?_,g2,g3,g4,λe he=>?_,?_⟩
 .rw[<-Sem.runT_fst P _ w #[],g1]
 .have:(execOp (aY π a D).eval o).events P w #[]=es':=congrArg Prod.snd g1
  rw[this] at he;exact(g5 e he).resolve_left (by simp)
 .cases x with
  |value v=>
   intro r hr';refine Classical.byContradiction λhv=>?_
   obtain⟨σ,m1,m2⟩:=l3 r hv;simp only[RN,Next.value.injEq] at m2;exact m1 (nn hr' m2.symm)
  |enter f ae=>
   intro v hv r hr';refine Classical.byContradiction λhv'=>?_
   obtain⟨σ,m1,m2⟩:=l3 r hv';simp only[RN,Next.enter.injEq,true_and] at m2;exact m1 (nn hr' (pE m2.1.symm hv))
  |_=>trivial
theorem Ch {N V:Nat->Prop}{α:Type}{f f':α->Sem Value}(hf:∀x,bg P π N V (RV π) (f x) (f' x)):∀l:List α,bg P π N V (λa b=>b=a.map (Value.ren π)) (l.mapM f) (l.mapM f')
 |[]=>by simp only[List.mapM_nil];exact au rfl
 |x::l=>by
  simp only[List.mapM_cons];refine(hf x).bind' λv v' h=>?_
  rw[show v'=_ from h];refine(Ch hf l).bind' λc c' h=>?_
  subst h;exact au (by simp)
theorem ls {N V:Nat->Prop}(fn:Func)(c:Array Value):bg P π N V (RV π) (results fn c) (results fn (c.map (Value.ren π))):=by
 unfold results;rw[Array.mapM_eq_mapM_toList,Array.mapM_eq_mapM_toList,map_eq_pure_bind,map_eq_pure_bind];simp only[bind_assoc,pure_bind];refine(Ch (λr=>?_) _).bind' λvs vs' h=>?_
 .cases r with
  |tmp t=>dsimp only;rw[jQ];exact au rfl
  |cell a t=>
   dsimp only;rw[jQ];cases c.getD a undef with
   |pointer p=>cases p with
    |none=>exact .dead (Dead.bind (s:=asAddr (.pointer none)) _ (dw .nilDeref))
    |some p=>simp only[aU,Option.map_some];exact ug t p
   |_=>exact .dead (Dead.bind _ (Dead.halt trivial))
 .subst h
  refine au ?_
  match vs with
  |[]=>simp[RV]
  |[v]=>simp[RV]
  |_::_::_=>simp[RV]
theorem nz (hS:Stat P S E str)(hi:∀i j,π i=π j->i=j)(hl:LW H Z wL)(hw:WR π H Z wL w){c:Array Value}(hc:∀v∈c,VV (gp H wL) v)(fn:Func)
  {x:Value} {bu:World} (hr:(results fn c).run P wL= .ok x bu) (hag:∀i,wL.heap.size+i<bu.heap.size->π (wL.heap.size+i)=w.heap.size+i):
  LW H Z bu/\wL.heap.size<=bu.heap.size/\∃w',(results fn (c.map (Value.ren π))).run P w= .ok (Value.ren π x) w'/\WR π H Z bu w'/\Bu π H Z wL bu w w'/\(∀e∈(results fn (c.map (Value.ren π))).events P w #[],pj π H Z bu.heap.size e)/\VV (gp H bu) x:=by
 have self:=uQ (R:=λσ=>RV σ) hS.tS hl (λσ hi hf=>by
  have e:c.map (Value.ren σ)=c:=cg λv hv=>eQ v λr hr=>hf r (hc v hv r hr)
  have:=ls (P:=P) (π:=σ) (N:=λb=>H b\/Z b) (V:=gp H wL) fn c;rw[e] at this;exact this) hr
 obtain⟨l1,l2,l3⟩:=self;obtain⟨x',w',es',g1,g2,g3,g4,g5⟩:=(ls (P:=P) (π:=π) (N:=λb=>H b\/Z b) (V:=gp H wL) fn c).run hS.tS (λb=>Iff.rfl) hw (λi hv=>hv) hr hag (es:=#[]);have g2':x'=Value.ren π x:=g2;subst g2';refine⟨l1,l2,w',?_,g3,g4,λe he=>?_,?_⟩
 .rw[<-Sem.runT_fst P _ w #[],g1]
 .have:(results fn (c.map (Value.ren π))).events P w #[]=es':=congrArg Prod.snd g1
  rw[this] at he;exact(g5 e he).resolve_left (by simp)
 .intro r hr'
  refine Classical.byContradiction λhv=>?_
  obtain⟨σ,m1,m2⟩:=l3 r hv;exact m1 (nn hr' (show x=_ from m2).symm)
end
structure Ctx where
 f0:FuncId
 gf:Frame
 B:Frame
 D0:kf
 CS:List Frame
 Tl:List Item->List Item->Prop
 fn:B.fn=f0
 kind:B.kind≠.early
 stop:∀x y,Tl x y->∃l r,x= .inRangeFunc l::r
 exit:∀x y id x',Tl x y->exitTo id x=some x'->∃y',exitTo id y=some y'/\Tl x' y'
 bare:∀x y l,Tl x y->gotoIn l x=none
section
variable (P:Program)(S E:FuncId->Bool)(str:Bool)(π:Nat->Nat)(c:Ctx)
inductive qW (V:Nat->Prop):FuncId->Act->List Item->List Item->List Frame->Frame->kf->List Item->List Frame->Prop
 |bot {a:Act} {t x y:List Item} (ht:∀it∈t,bV (sl c.D0) P S E str it=true) (ha:∀v∈a.tmps,VV V v) (hd:a.defers=[]) (hxy:c.Tl x y):qW V c.f0 a t x [c.gf] c.B c.D0 y c.CS
 |up {f f1:FuncId} {a a1:Act} {t t1 x1 y1:List Item} {ops:Array Oper} {i:Nat} {rest:List Nat} {cs1 JX:List Frame} {B1:Frame} {D1:kf} (hf:S f=true)
   (ht:∀it∈t,AS P S E str it=true) (ha:∀v∈a.tmps,VV V v) (hd:a.defers=[]) (hs:qW V f1 a1 (.inRegion ops (i::rest)::t1) x1 cs1 B1 D1 y1 JX):
   qW V f a t [] ((base f1).at a1 (.inRegion ops (i::rest)::(t1++x1))::cs1) (base f) [] [] (B1.at (aY π a1 D1) (.inRegion ops (i::rest)::(t1++y1))::JX)
inductive gz (H:Nat->Prop)(wL:World):Goroutine->Goroutine->Prop
 |run {f:FuncId} {a:Act} {t x:List Item} {cs:List Frame} {B:Frame} {D:kf} {y:List Item} {cs':List Frame} (h:qW P S E str π c (gp H wL) f a t x cs B D y cs'):
   gz H wL (G ((base f).at a (t++x)) cs) (G (B.at (aY π a D) (t++y)) cs')
 |ret {f:FuncId} {a:Act} {t x:List Item} {cs:List Frame} {B:Frame} {D:kf} {y:List Item} {cs':List Frame} {todo todo':List Item} (h:qW P S E str π c (gp H wL) f a t x cs B D y cs'):
   gz H wL (G {(base f).at a todo with mode:= .returning} cs) (G {B.at (aY π a D) todo' with mode:= .returning} cs')
end
section
variable {σ:List Nat}{P:Program}{S E:FuncId->Bool}{str:Bool}{π:Nat->Nat}{c:Ctx}{H Z:Nat->Prop}{wL w:World}
theorem qW.mono {V V':Nat->Prop}(hV:∀i,V i->V' i){f:FuncId}{a:Act}{t x:List Item}{cs:List Frame}{B:Frame}{D:kf}{y:List Item}{cs':List Frame}(h:qW P S E str π c V f a t x cs B D y cs'):qW P S E str π c V' f a t x cs B D y cs':=by
 induction h with
 |bot ht ha hd hxy=>exact .bot ht (λv hv=>(ha v hv).weak hV) hd hxy
 |up hf ht ha hd _ ih=>exact .up hf ht (λv hv=>(ha v hv).weak hV) hd ih
theorem qW.base {V:Nat->Prop}{f:FuncId}{a:Act}{t x:List Item}{cs:List Frame}{B:Frame}{D:kf}{y:List Item}{cs':List Frame}(h:qW P S E str π c V f a t x cs B D y cs'):
  B.fn=f/\B.kind≠.early/\a.defers=[]/\(∀it∈t,bV (sl D) P S E str it=true)/\(∀v∈a.tmps,VV V v):=by
 cases h with
 |bot ht ha hd hxy=>exact⟨c.fn,c.kind,hd,ht,ha⟩
 |up hf ht ha hd _=>exact⟨rfl,by simp[Go.Conc.base],hd,ht,ha⟩
theorem qW.top {V:Nat->Prop}{f:FuncId}{a:Act}{t x:List Item}{cs:List Frame}{B:Frame}{D:kf}{y:List Item}{cs':List Frame}(h:qW P S E str π c V f a t x cs B D y cs')
  {a':Act} {t':List Item} (ht:∀it∈t',bV (sl D) P S E str it=true) (ha:∀v∈a'.tmps,VV V v) (hd:a'.defers=[]):qW P S E str π c V f a' t' x cs B D y cs':=by
 cases h with
 |bot _ _ _ hxy=>exact .bot ht ha hd hxy
 |up hf _ _ _ hs=>exact .up hf ht ha hd hs
theorem jG {id:Nat}:∀(t k:List Item),exitTo id (t++k)=match exitTo id t with|some t'=>some (t'++k)|none=>exitTo id k
 |[],k=>rfl
 |it::t,k=>by
  cases it<;>simp only[List.cons_append,exitTo]<;>first|exact jG t k|skip
  split
  .rfl
  .exact jG t k
theorem qO {id:Nat}:∀{t t':List Item},exitTo id t=some t'->∀it∈t',it∈t
 |[],_,h=>by simp[exitTo] at h
 |it::t,t',h=>by
  intro x hx;cases it<;>simp only[exitTo] at h<;>first|exact List.mem_cons_of_mem _ (qO h x hx)|skip
  split at h
  .cases h;exact List.mem_cons_of_mem _ hx
  .exact List.mem_cons_of_mem _ (qO h x hx)
theorem nq {l:Nat}:∀{b r:Code},eM σ P S E str b=true->findLabel b l=some r->eM σ P S E str r=true
 |.seq x y,r,h,hf=>by
  simp only[eM,Bool.and_eq_true] at h;simp only[findLabel] at hf;cases hx:findLabel x l with
  |none=>rw[hx] at hf;exact nq h.2 hf
  |some rest=>
   rw[hx] at hf;cases hf;simp only[eM,Bool.and_eq_true];exact⟨nq h.1 hx,h.2⟩
 |.label l',r,_,hf=>by
  simp only[findLabel] at hf;split at hf
  .cases hf;rfl
  .cases hf
 |.skip,_,_,hf|.region _ _ _,_,_,hf|.cond _ _ _,_,_,hf|.block _ _,_,_,hf|.loop _,_,_,hf|.rangeFunc _ _ _ _,_,_,hf|.exit _,_,_,hf|.scope _,_,_,hf|.goto _,_,_,hf|.ret,_,_,hf|.refuse _,_,_,hf=>by simp[findLabel] at hf
theorem ql {l:Nat}:∀(t k:List Item),(∀it∈t,bV σ P S E str it=true)->(∃t2,(∀it∈t2,bV σ P S E str it=true)/\∀k,gotoIn l (t++k)=some (t2++k))\/∀k,gotoIn l (t++k)=gotoIn l k
 |[],k,_=> .inr λ_=>rfl
 |it::t,k,h=>by
  have ih:=ql (l:=l) t k λx hx=>h x (by simp[hx])
  cases it with
  |inScope body=>
   cases hf:findLabel body l with
   |some r=>
    have hb:eM σ P S E str body=true:=h (.inScope body) (by simp);refine .inl ⟨.code r::.inScope body::t,λx hx=>?_,λk=>by simp[gotoIn,hf]⟩;simp only[List.mem_cons] at hx;rcases hx with rfl|rfl|hx
    .exact nq hb hf
    .exact hb
    .exact h x (by simp[hx])
   |none=>
    rcases ih with⟨t2,h1,h2⟩|h2
    .exact .inl ⟨t2,h1,λk=>by simp only[List.cons_append,gotoIn,hf];exact h2 k⟩
    .exact .inr λk=>by simp only[List.cons_append,gotoIn,hf];exact h2 k
  |_=>
   rcases ih with⟨t2,h1,h2⟩|h2
   .exact .inl ⟨t2,h1,λk=>by simp only[List.cons_append,gotoIn];exact h2 k⟩
   .exact .inr λk=>by simp only[List.cons_append,gotoIn];exact h2 k
theorem n3 {main:Bool}{b:Frame}{a:Act}{k:List Item}{cs:List Frame}{p:Code}:stepG P main (G (b.at a (.code (.scope p)::k)) cs) w= .go (G (b.at a (.code p::.inScope p::k)) cs) w:=by simp[G,stepG,stepG.exec,Frame.at]
theorem lT {main:Bool}{b:Frame}{a:Act}{k:List Item}{cs:List Frame}{p:Code}:stepG P main (G (b.at a (.inScope p::k)) cs) w= .go (G (b.at a k) cs) w:=by simp[G,stepG,stepG.exec,Frame.at]
theorem qw {main:Bool}{b:Frame}{a:Act}{k k':List Item}{cs:List Frame}{l:Nat}(h:gotoIn l k=some k'):stepG P main (G (b.at a (.code (.goto l)::k)) cs) w= .go (G (b.at a k') cs) w:=by simp[G,stepG,stepG.exec,Frame.at,h]
def Res (P:Program)(S E:FuncId->Bool)(str:Bool)(π:Nat->Nat)(c:Ctx)(main:Bool)(H Z:Nat->Prop)(wL w:World)(g pG:Goroutine)(bu:World):Prop:=
 ∃g' w' es',stepG P main g w= .go g' w' es'/\gz P S E str π c H bu pG g'/\LW H Z bu/\wL.heap.size<=bu.heap.size/\WR π H Z bu w'/\Bu π H Z wL bu w w'/\∀e∈es',pj π H Z bu.heap.size e
theorem cy {main:Bool}{g g' pG:Goroutine}(hl:LW H Z wL)(hw:WR π H Z wL w)(h:stepG P main g w= .go g' w)(hr:gz P S E str π c H wL pG g'):Res P S E str π c main H Z wL w g pG wL:=
 ⟨g',w,#[],h,hr,hl,Nat.le_refl _,hw,Bu.refl _ _ _ _ _,by simp⟩
theorem all_cons {it:Item}{t:List Item}(h:∀x∈it::t,bV σ P S E str x=true):bV σ P S E str it=true/\∀x∈t,bV σ P S E str x=true:=⟨h it (by simp),λx hx=>h x (by simp[hx])⟩
theorem dG {it:Item}{t:List Item}(h1:bV σ P S E str it=true)(h:∀x∈t,bV σ P S E str x=true):∀x∈it::t,bV σ P S E str x=true:=by
 intro x hx;rcases List.mem_cons.1 hx with rfl|hx
 .exact h1
 .exact h x hx
theorem put_defers (a:Act)(d:Option Tmp)(v:Value):(a.put d v).defers=a.defers:=by cases d<;>rfl
theorem Pk (hS:Stat P S E str)(hi:∀i j,π i=π j->i=j)(h0:π 0=0)(hz:str=true->∀b,¬Z b)(hl:LW H Z wL)(hw:WR π H Z wL w){main:Bool}
  {f:FuncId} {a:Act} {t x y:List Item} {cs cs':List Frame} {B:Frame} {D:kf} {ops:Array Oper} {i:Nat} {rest:List Nat} (h:qW P S E str π c (gp H wL) f a (.inRegion ops (i::rest)::t) x cs B D y cs')
  {pG:Goroutine} {bu:World} {es:Array Event} (hs:stepG P true (G ((base f).at a (.inRegion ops (i::rest)::(t++x))) cs) wL= .go pG bu es) (hn:pU pG)
  (hag:∀i,wL.heap.size+i<bu.heap.size->π (wL.heap.size+i)=w.heap.size+i):Res P S E str π c main H Z wL w (G (B.at (aY π a D) (.inRegion ops (i::rest)::(t++y))) cs') pG bu:=by
 obtain⟨hB,hk,hd,ht,ha⟩:=h.base;obtain⟨hops,ht'⟩:=all_cons ht;cases ho:ops[i]? with
 |none=>
  simp[G,stepG,stepG.exec,Frame.at,ho] at hs;obtain⟨rfl,rfl,rfl⟩:=hs;refine cy (g':=G (B.at (aY π a D) (.inRegion ops rest::(t++y))) cs') hl hw ?_ ?_
  .simp[G,stepG,stepG.exec,Frame.at,ho,Frame.finish,aY]
  .have:=gz.run (P:=P) (S:=S) (E:=E) (str:=str) (π:=π) (c:=c) (H:=H) (wL:=wL) (h.top (t':= .inRegion ops rest::t) (a':=a) (dG (jN hops) ht') ha hd)
   simpa [G,Frame.at,Frame.finish,ho] using this
 |some o=>
  have qk:eG (sl D) P S E str o=true:=oL hops ho;obtain⟨hok1,hoff,hdst⟩:=kR qk;cases hwd:Region.wanted o (yielded ops a.tmps) with
  |false=>
   rw[stepG_unwanted ho hwd] at hs;cases hs;refine cy hl hw (stepG_unwanted ho (by rw[show(aY π a D).tmps=xj D (a.tmps.map (Value.ren π)) from rfl,vW (xk hops ho)];exact hwd)) ?_;have e:(aY π a D).put o.dst undef=aY π (a.put o.dst undef) D:=by
    have:=hY (π:=π) a D o.dst undef hdst
    rwa [show Value.ren π undef=undef by simp[undef]] at this
   rw[e];exact gz.run (t:= .inRegion ops rest::t) (h.top (dG (jN hops) ht') (jt ha gG) ((put_defers _ _ _).trans hd))
  |true=>
   have Xp:Region.wanted o (yielded ops (aY π a D).tmps)=true:=by rw[show(aY π a D).tmps=xj D (a.tmps.map (Value.ren π)) from rfl,vW (xk hops ho)];exact hwd
   have hka:(base f).kind≠.early:=by simp[base]
   cases hr:(execOp a.eval o).run P wL with
   |halt hh u=>
    exfalso;have hok:kS hh:=by
     have Dj:bg P id (λb=>H b\/Z b) (gp H wL) (RN id S) (execOp a.eval o) (execOp (aY id a D).eval o):=
      qz (hS.Uq (λ_ _ h=>h) rfl hz _ λi hv=>hv.2) hok1 (λx hm hx=>⟨k8 a D hx (hoff x hm),lI ha hx⟩) (λf=>⟨rfl,rfl⟩) (λv=>rfl)
     exact Dj.Ti hl.zN (λb hb=>hl.low b hb) hr
    rw[stepG_oper ho hwd] at hs;have hk2:(CallKind.normal==CallKind.early)=false:=rfl;cases hh with
    |panic v=>
     simp[stepG.apply,hr,Frame.at,GStep.after] at hs;obtain⟨rfl,_⟩:=hs;exact hn.calm _ rfl
    |stuck m=>simp[stepG.apply,hr,Frame.at,GStep.after] at hs
    |unsupported u=>cases u<;>first|exact hok.elim|(simp[stepG.apply,hr,Frame.at,GStep.after] at hs;done)
    |_=>exact hok.elim
   |ok nx u=>
    have hstep:∃nx',nx=nx':=⟨nx,rfl⟩
    cases nx with
    |value v=>
     rw[stepG_value ho hwd hka hr] at hs;cases hs;obtain⟨l1,l2,x',w',e1,e2,e3,e4,e5,e6⟩:=nA hS hi h0 hz hl hw D ha qk hr hag;cases e2;refine⟨_,w',_,stepG_value ho Xp hk e1,?_,l1,l2,e3,e4,λe he=>e5 e (mem_listed he)⟩;rw[hY _ _ _ _ hdst];have hm:∀i,gp H wL i->gp H bu i:=λi hv=>⟨Nat.lt_of_lt_of_le hv.1 l2,hv.2⟩
     exact gz.run (t:= .inRegion ops rest::t) ((h.mono hm).top (dG (jN hops) ht') (jt (λv hv=>(ha v hv).weak hm) e6) ((put_defers _ _ _).trans hd))
    |skip=>
     rw[stepG_none ho hwd hka hr] at hs;cases hs;obtain⟨l1,l2,x',w',e1,e2,e3,e4,e5,e6⟩:=nA hS hi h0 hz hl hw D ha qk hr hag;cases e2;refine⟨_,w',_,stepG_none ho Xp hk e1,?_,l1,l2,e3,e4,λe he=>e5 e (mem_listed he)⟩;have e:(aY π a D).put o.dst undef=aY π (a.put o.dst undef) D:=by
      have:=hY (π:=π) a D o.dst undef hdst
      rwa [show Value.ren π undef=undef by simp[undef]] at this
     rw[e];have hm:∀i,gp H wL i->gp H bu i:=λi hv=>⟨Nat.lt_of_lt_of_le hv.1 l2,hv.2⟩
     exact gz.run (t:= .inRegion ops rest::t) ((h.mono hm).top (dG (jN hops) ht') (jt (λv hv=>(ha v hv).weak hm) gG) ((put_defers _ _ _).trans hd))
    |enter f2 ae=>
     rw[stepG_enter ho hwd hka hr] at hs;cases hs;obtain⟨l1,l2,x',w',e1,e2,e3,e4,e5,e6⟩:=nA hS hi h0 hz hl hw D ha qk hr hag;obtain⟨rfl,hSf⟩:=e2;obtain⟨fn,cd,b1,b2,b3,b4⟩:=hS.body f2 hSf;refine⟨_,w',_,stepG_enter ho Xp hk e1,?_,l1,l2,e3,e4,λe he=>e5 e (mem_listed he)⟩;have hm:∀i,gp H wL i->gp H bu i:=λi hv=>⟨Nat.lt_of_lt_of_le hv.1 l2,hv.2⟩
     have hst:=qW.up (f:=f2) (a:={tmps:=ae++Array.replicate (fn.ntmps-ae.size) undef,defers:=[]}) (t:=[.code cd]) hSf (λit hit=>by simp at hit;subst hit;exact b4)
      (λv hv=>by
       rcases Array.mem_append.1 hv with hv|hv
       .exact e6 v hv
       .rw[(Array.mem_replicate.1 hv).2];exact gG) rfl (h.mono hm)
     have:=gz.run hst;rw[enter_at _ b1 b3,enter_at _ b1 b3];have er:aY π {tmps:=ae++Array.replicate (fn.ntmps-ae.size) undef,defers:=[]} []={tmps:=ae.map (Value.ren π)++Array.replicate (fn.ntmps-(ae.map (Value.ren π)).size) undef,defers:=[]}:=by
      simp[aY,xj,undef]
     rw[er] at this;exact this
    |_=>
     exfalso;have:=nA hS (λ_ _ h=>h) rfl hz hl (hl.self (σ:=id) (λ_ _ h=>h) λ_ _=>rfl) D ha qk hr (λi _=>rfl);obtain⟨_,_,x',w',_,e2,_⟩:=this;exact e2.elim
theorem WR.draw (hw:WR π H Z wL w):WR π H Z {wL with drawn:=wL.drawn+1} {w with drawn:=w.drawn+1}:=
 {inj:=hw.inj,tape:=hw.tape,drawn:=by show w.drawn+1=wL.drawn+1;rw[hw.drawn],lt:=hw.lt,ok:=hw.ok,hid:=hw.hid,nU:=hw.nU,low:=hw.low,yy:=hw.yy}
theorem LW.draw (hl:LW H Z wL):LW H Z {wL with drawn:=wL.drawn+1}:=⟨hl.ok,hl.hid,hl.nU,hl.low,hl.apart,hl.zero,hl.RY⟩
theorem BU (hS:Stat P S E str)(hi:∀i j,π i=π j->i=j)(h0:π 0=0)(hz:str=true->∀b,¬Z b)(hl:LW H Z wL)(hw:WR π H Z wL w){main:Bool}
  {f:FuncId} {a:Act} {t x y:List Item} {cs cs':List Frame} {B:Frame} {D:kf} (h:qW P S E str π c (gp H wL) f a t x cs B D y cs')
  {pG:Goroutine} {bu:World} {es:Array Event} (hs:stepG P true (G ((base f).at a (t++x)) cs) wL= .go pG bu es) (hn:pU pG)
  (hag:∀i,wL.heap.size+i<bu.heap.size->π (wL.heap.size+i)=w.heap.size+i):Res P S E str π c main H Z wL w (G (B.at (aY π a D) (t++y)) cs') pG bu:=by
 obtain⟨hB,hk,hd,ht,ha⟩:=h.base;cases t with
 |nil=>
  cases h with
  |bot _ _ _ hxy=>
   obtain⟨why,r,rfl⟩:=c.stop _ _ hxy;simp[G,stepG,stepG.exec,Frame.at] at hs
  |up hf _ _ _ hst=>
   simp only[List.nil_append] at hs⊢;rw[stepG_end] at hs;cases hs;exact cy hl hw stepG_end (gz.ret (.up hf ht ha hd hst))
 |cons it t=>
  obtain⟨h1,ht'⟩:=all_cons ht;simp only[List.cons_append] at hs⊢;cases it with
  |code cd=>
   cases cd with
   |skip=>rw[stepG_skip] at hs;cases hs;exact cy hl hw stepG_skip (.run (h.top ht' ha hd))
   |label l=>rw[stepG_label] at hs;cases hs;exact cy hl hw stepG_label (.run (h.top ht' ha hd))
   |ret=>rw[stepG_ret'] at hs;cases hs;exact cy hl hw stepG_ret' (.ret h)
   |seq p q=>
    simp only[bV,eM,Bool.and_eq_true] at h1;rw[stepG_seq] at hs;cases hs;exact cy hl hw stepG_seq (gz.run (t:= .code p::.code q::t) (h.top (dG h1.1 (dG h1.2 ht')) ha hd))
   |cond o p q=>
    simp only[bV,eM,Bool.and_eq_true] at h1;have hev:=k8 (π:=π) a D h1.1.1.1 h1.1.1.2;cases hb:a.eval o with
    |bool b=>
     rw[hb,dE] at hev;rw[stepG_cond hb] at hs;cases hs;exact cy hl hw (stepG_cond hev) (gz.run (t:= .code (if b then p else q)::t) (h.top (dG (by cases b;exact h1.2;exact h1.1.2) ht') ha hd))
    |_=>
     exfalso;have he:=Frame.eval_at (base f) a (.code (.cond o p q)::(t++x)) o;simp only[Frame.at] at he;simp[G,stepG,stepG.exec,Frame.at,he,hb] at hs
   |block id p=>rw[stepG_block] at hs;cases hs;exact cy hl hw stepG_block (gz.run (t:= .code p::.inBlock id::t) (h.top (dG h1 (dG rfl ht')) ha hd))
   |loop p=>rw[stepG_loop] at hs;cases hs;exact cy hl hw stepG_loop (gz.run (t:= .code p::.inLoop p::t) (h.top (dG h1 (dG h1 ht')) ha hd))
   |exit id=>
    have el:=jG (id:=id) t x;have er:=jG (id:=id) t y;cases he:exitTo id t with
    |some t2=>
     rw[he] at el er;rw[stepG_exit el] at hs;cases hs;exact cy hl hw (stepG_exit er) (.run (h.top (λit hit=>ht' it (qO he it hit)) ha hd))
    |none=>
     rw[he] at el er;dsimp only at el er;cases h with
     |bot _ _ _ hxy=>
      cases hx:exitTo id x with
      |none=>
       exfalso;rw[hx] at el;simp[G,stepG,stepG.exec,Frame.at,el,base] at hs
      |some x2=>
       obtain⟨y2,hy,ag4⟩:=c.exit _ _ _ _ hxy hx;rw[hx] at el;rw[hy] at er;rw[stepG_exit el] at hs;cases hs;exact cy hl hw (stepG_exit er) (gz.run (t:=[]) (.bot (by simp) ha hd ag4))
     |up hf _ _ _ hst=>
      exfalso;simp[exitTo] at el;simp[G,stepG,stepG.exec,Frame.at,he,base] at hs
   |region id ops draw=>
    cases draw with
    |false=>rw[stepG_region] at hs;cases hs;exact cy hl hw stepG_region (gz.run (t:= .inRegion ops (List.range ops.size)::t) (h.top (dG (qe h1 _) ht') ha hd))
    |true=>
     rw[stepG_region_draw] at hs;cases hs;refine⟨_,_,#[],stepG_region_draw,?_,hl.draw,Nat.le_refl _,hw.draw,⟨Nat.le_refl _,by simp,λ_ _ _=>rfl,rfl,rfl,rfl,Nat.le_succ _⟩,by simp⟩;rw[show w.tape w.drawn (.order B.fn id)=wL.tape wL.drawn (.order (base f).fn id) by rw[hw.tape,hw.drawn,hB];rfl]
     exact gz.run (t:= .inRegion ops _::t) (qW.top (h.mono λi hv=>hv) (dG (qe h1 _) ht') ha hd)
   |scope p=>rw[n3] at hs;cases hs;exact cy hl hw n3 (gz.run (t:= .code p::.inScope p::t) (h.top (dG h1 (dG h1 ht')) ha hd))
   |refuse why=>simp[G,stepG,stepG.exec,Frame.at] at hs
   |goto l=>
    rcases ql (l:=l) t x ht' with⟨t2,ht2,hg⟩|hg
    .rw[qw (hg x)] at hs;cases hs
     exact cy hl hw (qw (hg y)) (gz.run (t:=t2) (h.top ht2 ha hd))
    .exfalso
     have hx:gotoIn l x=none:=by
      cases h with
      |bot _ _ _ hxy=>exact c.bare _ _ _ hxy
      |up=>rfl
     have:=hg x;rw[hx] at this;simp[G,stepG,stepG.exec,Frame.at,this,base] at hs
   |_=>simp[bV,eM] at h1
  |inBlock id=>rw[stepG_inBlock] at hs;cases hs;exact cy hl hw stepG_inBlock (.run (h.top ht' ha hd))
  |inScope p=>rw[lT] at hs;cases hs;exact cy hl hw lT (.run (h.top ht' ha hd))
  |inLoop p=>rw[stepG_inLoop] at hs;cases hs;exact cy hl hw stepG_inLoop (gz.run (t:= .code p::.inLoop p::t) (h.top (dG h1 (dG h1 ht')) ha hd))
  |inRegion ops todo=>
   cases todo with
   |nil=>rw[stepG_region_end] at hs;cases hs;exact cy hl hw stepG_region_end (.run (h.top ht' ha hd))
   |cons i rest=>exact Pk hS hi h0 hz hl hw h hs hn hag
  |_=>simp[bV] at h1
theorem step_ret (hS:Stat P S E str)(hi:∀i j,π i=π j->i=j)(hl:LW H Z wL)(hw:WR π H Z wL w){main:Bool}
  {f:FuncId} {a:Act} {t x y:List Item} {cs cs':List Frame} {B:Frame} {D:kf} {todo todo':List Item} (h:qW P S E str π c (gp H wL) f a t x cs B D y cs') (hne:cs≠[c.gf])
  {pG:Goroutine} {bu:World} {es:Array Event} (hs:stepG P true (G {(base f).at a todo with mode:= .returning} cs) wL= .go pG bu es)
  (hag:∀i,wL.heap.size+i<bu.heap.size->π (wL.heap.size+i)=w.heap.size+i):Res P S E str π c main H Z wL w (G {B.at (aY π a D) todo' with mode:= .returning} cs') pG bu:=by
 cases h with
 |bot=>exact absurd rfl hne
 |@up f f1 a a1 t t1 x1 y1 ops i rest cs1 JX B1 D1 hf ht ha hd hst=>
  obtain⟨fn,cd,b1,b2,b3,b4⟩:=hS.body f hf;obtain⟨hB1,hk1,hd1,ht1,ha1⟩:=hst.base;obtain⟨hops,ht1'⟩:=all_cons ht1;have hfin:∀(b:Frame) (a:Act) (k:List Item) (v:Value),(b.at a (.inRegion ops (i::rest)::k)).finish v=b.at (a.put ((ops[i]?).bind (·.dst)) v) (.inRegion ops rest::k):=λb a k v=>Frame.finish_at b a ops i rest k v
  have gen:∀(main:Bool) (b:Frame) (a:Act) (todo:List Item) (cr:Frame) (Eg:List Frame) (w:World),b.kind= .normal->a.defers=[]->b.fn=f->stepG P main (G {b.at a todo with mode:= .returning} (cr::Eg)) w=
    GStep.after (seen P f ((results fn a.tmps).events P w #[])) (match(results fn a.tmps).run P w with
     |.ok v w=> .go (G (cr.finish v) Eg) w
     |.halt (.stuck s) w=> .ended (.stuck s (Frame.pos P {b.at a todo with mode:= .returning})) w
     |.halt _ w=> .ended (.stuck "return: the result variables cannot be read" (Frame.pos P {b.at a todo with mode:= .returning})) w):=by
   intro main b a todo cr Eg w e1 e2 e3;subst e3;simp[G,stepG,unwind,doReturn,Frame.at,e1,e2,b1];cases (results fn a.tmps).run P w with
   |ok v u=>rfl
   |halt h u=>cases h<;>rfl
  rw[gen true (base f) a todo _ cs1 wL rfl hd rfl] at hs;cases hr:(results fn a.tmps).run P wL with
  |halt h u=>rw[hr] at hs;cases h<;>simp[GStep.after] at hs
  |ok v u=>
   rw[hr] at hs;simp only[GStep.after,GStep.go.injEq] at hs;obtain⟨rfl,rfl,_⟩:=hs;obtain⟨l1,l2,w',e1,e3,e4,e5,e6⟩:=nz hS hi hl hw ha fn hr hag;have hT:=gen main (base f) (aY π a []) todo' (B1.at (aY π a1 D1) (.inRegion ops (i::rest)::(t1++y1))) JX w rfl rfl rfl;rw[show(aY π a []).tmps=a.tmps.map (Value.ren π) from rfl,e1] at hT;simp only[GStep.after] at hT
   refine⟨_,w',_,hT,?_,l1,l2,e3,e4,λe he=>e5 e (by simpa using mem_seen (by simpa using he))⟩;rw[hfin,hfin,hY _ _ _ _ (λt ht=>by
    cases ho:ops[i]? with
    |none=>rw[ho] at ht;cases ht
    |some o=>rw[ho] at ht;exact(kR (oL hops ho)).2.2 t ht)]
   have hm:∀i,gp H wL i->gp H u i:=λi hv=>⟨Nat.lt_of_lt_of_le hv.1 l2,hv.2⟩
   exact gz.run (t:= .inRegion ops rest::t1) ((hst.mono hm).top (dG (jN hops) ht1') (jt (λv hv=>(ha1 v hv).weak hm) e6) ((put_defers _ _ _).trans hd1))
end
def dC (P:Program):Frame:=(base 0).at {tmps:=#[],defers:=[{target:= .fn (.func P.funcs.size) #[],args:=#[]}]} [.code (.refuse "")]
inductive Kt (P:Program):Frame->List Frame->Prop
 |top {fr:Frame} {ch:List PanicEntry} (hm:fr.mode= .panicking ch) (hf:fr.defers=(dC P).defers):Kt P fr []
 |up {fr cr:Frame} {cs:List Frame} {ch:List PanicEntry} (hm:fr.mode= .panicking ch) (hd:fr.defers=[]) (hf:fr.catches P=false) (h:∀ch,Kt P (cr.raise ch) cs):Kt P fr (cr::cs)
section
variable {P:Program}{S E:FuncId->Bool}{str:Bool}{c:Ctx}{H Z:Nat->Prop}{w:World}
def Jn (P:Program)(S E:FuncId->Bool)(str:Bool)(c:Ctx)(H Z:Nat->Prop)(gL:Goroutine)(w:World):Prop:=
 LW H Z w/\((∃g,gz P S E str id c H w gL g)\/gL=G (dC P) [])
def Eb (P:Program)(J:Goroutine->World->Prop)(gL:Goroutine)(w:World)(t:dX)(d:Nat):Prop:=
 (∃o u es,stepG P true gL (ax w t d)= .ended o u es)\/
 (∃fr cs u es,stepG P true gL (ax w t d)= .go (G fr cs) u es/\Kt P fr cs)\/
 ∃fr cs u es k,stepG P true gL (ax w t d)= .go (G fr cs) u es/\pU (G fr cs)/\J (G fr cs) u/\u=ax u t (d+k)/\
  ∀t2 d2,(∀i,i<k->t2 (d2+i)=t (d+i))->stepG P true gL (ax w t2 d2)= .go (G fr cs) (ax u t2 (d2+k)) es
theorem mG {fr:Frame}{cs:List Frame}(h:∀ch,fr.mode≠.panicking ch):pU (G fr cs):=⟨rfl,rfl,rfl,h⟩
theorem qE {J:Goroutine->World->Prop}{gL:Goroutine}{fr:Frame}{cs:List Frame}(t:dX)(d:Nat)(h:∀w,stepG P true gL w= .go (G fr cs) w)(hm:∀ch,fr.mode≠.panicking ch)(hj:J (G fr cs) (ax w t d)):Eb P J gL w t d:=
 .inr (.inr ⟨fr,cs,_,#[],0,h _,mG hm,hj,rfl,λt2 d2 _=>h _⟩)
theorem qW.lost (hS:Stat P S E str)(hgf:c.gf=dC P)(h0:∃fn,P.funcs[c.f0]? =some fn){π:Nat->Nat}{V:Nat->Prop}{f:FuncId}{a:Act}{t x:List Item}{cs:List Frame}{B:Frame}{D:kf}{y:List Item}{cs':List Frame}(h:qW P S E str π c V f a t x cs B D y cs'):
  ∀(todo:List Item) (ch:List PanicEntry),Kt P {(Go.Conc.base f).at a todo with mode:= .panicking ch} cs:=by
 have cat:∀(f:FuncId) (a:Act) (todo:List Item) (ch:List PanicEntry),(∃fn,P.funcs[f]? =some fn)->Frame.catches P {(Go.Conc.base f).at a todo with mode:= .panicking ch}=false:=by
  rintro f a todo ch ⟨fn,hf⟩;simp[Frame.catches,Frame.at,Go.Conc.base,hf]
 induction h with
 |bot ht ha hd hxy=>
  intro todo ch;refine .up rfl hd (cat _ _ _ _ h0) λch'=>?_
  rw[hgf];exact .top rfl rfl
 |up hf ht ha hd _ ih=>
  intro todo ch;obtain⟨fn,cd,b1,_⟩:=hS.body _ hf;exact .up rfl hd (cat _ _ _ _ ⟨fn,b1⟩) λch'=>ih _ ch'
theorem MD (hS:Stat P S E str)(hz:str=true->∀b,¬Z b){w:World}(hl:LW H Z w){f:FuncId}{a:Act}{t x y:List Item}{cs cs':List Frame}{B:Frame}{D:kf}(h:qW P S E str id c (gp H w) f a t x cs B D y cs')
  {pG:Goroutine} {w':World} {es:Array Event} (hs:stepG P true (G ((base f).at a (t++x)) cs) w= .go pG w' es) (hn:pU pG):Jn P S E str c H Z pG w':=by
 obtain⟨g',_,_,_,hr,l,_⟩:=BU hS (λ_ _ h=>h) rfl hz hl (hl.self (σ:=id) (λ_ _ h=>h) λ_ _=>rfl) (main:=true) h hs hn λi _=>rfl
 exact⟨l,.inl ⟨g',hr⟩⟩
theorem Wj (hS:Stat P S E str)(hz:str=true->∀b,¬Z b)(hgf:c.gf=dC P)(h0:∃fn,P.funcs[c.f0]? =some fn)(hl:LW H Z w)(t0:dX)(d0:Nat)
  {f:FuncId} {a:Act} {t x y:List Item} {cs cs':List Frame} {B:Frame} {D:kf} {ops:Array Oper} {i:Nat} {rest:List Nat} (h:qW P S E str id c (gp H w) f a (.inRegion ops (i::rest)::t) x cs B D y cs'):
  Eb P (Jn P S E str c H Z) (G ((base f).at a (.inRegion ops (i::rest)::(t++x))) cs) w t0 d0:=by
 obtain⟨hB,hk,hd,ht,ha⟩:=h.base;obtain⟨hops,ht'⟩:=all_cons ht;have jr:∀{pG:Goroutine} {w':World} {es:Array Event},stepG P true (G ((base f).at a (.inRegion ops (i::rest)::(t++x))) cs) (ax w t0 d0)= .go pG w' es->pU pG->Jn P S E str c H Z pG w':=λhs hn=>
  MD hS hz (hl.ax t0 d0) (h.mono λi hv=>hv) hs hn
 cases ho:ops[i]? with
 |none=>
  have e:∀w,stepG P true (G ((base f).at a (.inRegion ops (i::rest)::(t++x))) cs) w= .go (G ((base f).at a (.inRegion ops rest::(t++x))) cs) w:=λw=>by
   simp[G,stepG,stepG.exec,Frame.at,ho,Frame.finish]
  exact qE _ _ e (λch=>by simp[Frame.at]) (jr (e _) (mG λch=>by simp[Frame.at]))
 |some o=>
  have hoS:eG (sl D) P S E str o=true:=oL hops ho;have qk:jZ P S E str o=true:=(kR hoS).1;cases hwd:Region.wanted o (yielded ops a.tmps) with
  |false=>
   have e:∀w,stepG P true (G ((base f).at a (.inRegion ops (i::rest)::(t++x))) cs) w= .go (G ((base f).at (a.put o.dst undef) (.inRegion ops rest::(t++x))) cs) w #[]:=λw=>stepG_unwanted ho hwd
   exact qE _ _ e (λch=>by simp[Frame.at]) (jr (e _) (mG λch=>by simp[Frame.at]))
  |true=>
   have hka:(base f).kind≠.early:=by simp[base]
   have Dj:bg P id (λb=>H b\/Z b) (gp H w) (RN id S) (execOp a.eval o) (execOp (aY id a []).eval o):=
    qz (hS.Uq (λ_ _ h=>h) rfl hz _ λi hv=>hv.2) qk (λx _ hx=>⟨k8 a [] hx (by cases x<;>rfl),lI ha hx⟩) (λf=>⟨rfl,rfl⟩) (λv=>rfl)
   have hl1:=hl.ax t0 d0;cases hr:(execOp a.eval o).run P (ax w t0 d0) with
   |halt hh u=>
    have hok:kS hh:=Dj.Ti hl1.zN (λb hb=>hl1.low b hb) hr;unfold Eb;rw[stepG_oper ho hwd];cases hh with
    |panic v=>
     refine .inr (.inl ⟨_,cs,u,listed P f a o (ax w t0 d0),?_,h.lost hS hgf h0 (.inRegion ops (i::rest)::(t++x)) [{v,recovered:=false}]⟩);simp[stepG.apply,hr,Frame.at,GStep.after,base,G,listed,Frame.raise]
    |stuck m=>exact .inl ⟨_,_,_,by simp[stepG.apply,hr,Frame.at,GStep.after,base];exact⟨rfl,rfl,rfl⟩⟩
    |unsupported u=>cases u<;>first|exact hok.elim|exact .inl ⟨_,_,_,by simp[stepG.apply,hr,Frame.at,GStep.after,base];exact⟨rfl,rfl,rfl⟩⟩
    |_=>exact hok.elim
   |ok nx u=>
    have hrT:(execOp a.eval o).runT P (ax w t0 d0) #[]=(.ok nx u,(execOp a.eval o).events P (ax w t0 d0) #[]):=by rw[Sem.runT_eq,hr]
    obtain⟨k,hk1,hk2⟩:=Dj.ED hl.zN (λb hb=>hl.low b hb) hrT;have sh:∀t2 d2,(∀i,i<k->t2 (d2+i)=t0 (d0+i))->(execOp a.eval o).run P (ax w t2 d2)= .ok nx (ax u t2 (d2+k))/\listed P f a o (ax w t2 d2)=listed P f a o (ax w t0 d0):=λt2 d2 hag=>by
     have:=hk2 t2 d2 hag;refine⟨by rw[<-Sem.runT_fst P _ _ #[],this],?_⟩;unfold listed;rw[show(execOp a.eval o).events P (ax w t2 d2) #[]=_ from congrArg Prod.snd this]
    cases nx with
    |value v=>
     have e:=stepG_value (main:=true) (cs:=cs) (k:=t++x) (rest:=rest) ho hwd hka hr;refine .inr (.inr ⟨_,_,u,_,k,e,mG λch=>by simp[Frame.at],jr e (mG λch=>by simp[Frame.at]),hk1,λt2 d2 hag=>?_⟩);obtain⟨s1,s2⟩:=sh t2 d2 hag;rw[stepG_value ho hwd hka s1];rw[show listed P (base f).fn a o (ax w t2 d2)=_ from s2];rfl
    |skip=>
     have e:=stepG_none (main:=true) (cs:=cs) (k:=t++x) (rest:=rest) ho hwd hka hr;refine .inr (.inr ⟨_,_,u,_,k,e,mG λch=>by simp[Frame.at],jr e (mG λch=>by simp[Frame.at]),hk1,λt2 d2 hag=>?_⟩);obtain⟨s1,s2⟩:=sh t2 d2 hag;rw[stepG_none ho hwd hka s1];rw[show listed P (base f).fn a o (ax w t2 d2)=_ from s2];rfl
    |enter f2 ae=>
     have e:=stepG_enter (main:=true) (cs:=cs) (k:=t++x) (rest:=rest) ho hwd hka hr;refine .inr (.inr ⟨_,_,u,_,k,e,mG λch=>by simp[Frame.enter],jr e (mG λch=>by simp[Frame.enter]),hk1,λt2 d2 hag=>?_⟩);obtain⟨s1,s2⟩:=sh t2 d2 hag;rw[stepG_enter ho hwd hka s1];rw[show listed P (base f).fn a o (ax w t2 d2)=_ from s2];rfl
    |_=>
     exfalso;have:=nA hS (λ_ _ h=>h) rfl hz hl1 (hl1.self (σ:=id) (λ_ _ h=>h) λ_ _=>rfl) D ha hoS hr (λi _=>rfl);obtain⟨_,_,x',w',_,e2,_⟩:=this;exact e2.elim
theorem Qg (hS:Stat P S E str)(hz:str=true->∀b,¬Z b)(hgf:c.gf=dC P)(h0:∃fn,P.funcs[c.f0]? =some fn)(hl:LW H Z w)(t0:dX)(d0:Nat)
  {f:FuncId} {a:Act} {t x y:List Item} {cs cs':List Frame} {B:Frame} {D:kf} (h:qW P S E str id c (gp H w) f a t x cs B D y cs'):
  Eb P (Jn P S E str c H Z) (G ((base f).at a (t++x)) cs) w t0 d0:=by
 obtain⟨hB,hk,hd,ht,ha⟩:=h.base;have jr:∀{pG:Goroutine} {w':World} {es:Array Event},stepG P true (G ((base f).at a (t++x)) cs) (ax w t0 d0)= .go pG w' es->pU pG->Jn P S E str c H Z pG w':=λhs hn=>
  MD hS hz (hl.ax t0 d0) (h.mono λi hv=>hv) hs hn
 have Cs:∀{fr:Frame},(∀w,stepG P true (G ((base f).at a (t++x)) cs) w= .go (G fr cs) w)->(∀ch,fr.mode≠.panicking ch)->Eb P (Jn P S E str c H Z) (G ((base f).at a (t++x)) cs) w t0 d0:=λe hm=>
  qE _ _ e hm (jr (e _) (mG hm))
 cases t with
 |nil=>
  cases h with
  |bot _ _ _ hxy=>
   obtain⟨why,r,rfl⟩:=c.stop _ _ hxy;exact .inl ⟨_,_,_,by simp[G,stepG,stepG.exec,Frame.at];exact⟨rfl,rfl,rfl⟩⟩
  |up hf _ _ _ hst=>exact Cs (λw=>stepG_end) (λch=>by simp)
 |cons it t=>
  obtain⟨h1,ht'⟩:=all_cons ht;simp only[List.cons_append] at jr Cs⊢;cases it with
  |code cd=>
   cases cd with
   |skip=>exact Cs (λw=>stepG_skip) (λch=>by simp[Frame.at])
   |label l=>exact Cs (λw=>stepG_label) (λch=>by simp[Frame.at])
   |ret=>exact Cs (λw=>stepG_ret') (λch=>by simp)
   |seq p q=>exact Cs (λw=>stepG_seq) (λch=>by simp[Frame.at])
   |cond o p q=>
    cases hb:a.eval o with
    |bool b=>exact Cs (λw=>stepG_cond hb) (λch=>by simp[Frame.at])
    |_=>
     have he:=Frame.eval_at (base f) a (.code (.cond o p q)::(t++x)) o;simp only[Frame.at] at he;exact .inl ⟨_,_,_,by simp[G,stepG,stepG.exec,Frame.at,he,hb];exact⟨rfl,rfl,rfl⟩⟩
   |block id p=>exact Cs (λw=>stepG_block) (λch=>by simp[Frame.at])
   |loop p=>exact Cs (λw=>stepG_loop) (λch=>by simp[Frame.at])
   |exit id=>
    cases he:exitTo id (t++x) with
    |some k'=>exact Cs (λw=>stepG_exit he) (λch=>by simp[Frame.at])
    |none=>exact .inl ⟨_,_,_,by simp[G,stepG,stepG.exec,Frame.at,he,base];exact⟨rfl,rfl,rfl⟩⟩
   |region id ops draw=>
    cases draw with
    |false=>exact Cs (λw=>stepG_region) (λch=>by simp[Frame.at])
    |true=>
     have e:=stepG_region_draw (P:=P) (main:=true) (b:=base f) (a:=a) (k:=t++x) (cs:=cs) (w:=ax w t0 d0) (id:=id) (ops:=ops);refine .inr (.inr ⟨_,_,_,_,1,e,mG λch=>by simp[Frame.at],jr e (mG λch=>by simp[Frame.at]),rfl,λt2 d2 hag=>?_⟩);rw[stepG_region_draw];have:=hag 0 (by omega);simp only[Nat.add_zero] at this
     show GStep.go (G ((base f).at a (.inRegion ops (Region.schedule (P.follows .mixedOrders) ops (t2 d2 (.order f id)))::(t++x))) cs) _ _=_;rw[this];rfl
   |scope p=>exact Cs (λw=>n3) (λch=>by simp[Frame.at])
   |refuse why=>exact .inl ⟨_,_,_,by simp[G,stepG,stepG.exec,Frame.at];exact⟨rfl,rfl,rfl⟩⟩
   |goto l=>
    cases he:gotoIn l (t++x) with
    |some k'=>exact Cs (λw=>qw he) (λch=>by simp[Frame.at])
    |none=>exact .inl ⟨_,_,_,by simp[G,stepG,stepG.exec,Frame.at,he,base];exact⟨rfl,rfl,rfl⟩⟩
   |_=>simp[bV,eM] at h1
  |inScope p=>exact Cs (λw=>lT) (λch=>by simp[Frame.at])
  |inBlock id=>exact Cs (λw=>stepG_inBlock) (λch=>by simp[Frame.at])
  |inLoop p=>exact Cs (λw=>stepG_inLoop) (λch=>by simp[Frame.at])
  |inRegion ops todo=>
   cases todo with
   |nil=>exact Cs (λw=>stepG_region_end) (λch=>by simp[Frame.at])
   |cons i rest=>exact Wj hS hz hgf h0 hl t0 d0 h
  |_=>simp[bV] at h1
theorem Ba {f:FuncId}{fn:Func}(hf:P.funcs[f]? =some fn){main:Bool}{b:Frame}{a:Act}{todo:List Item}{cr:Frame}{Eg:List Frame}{w:World}(e1:b.kind= .normal)(e2:a.defers=[])(e3:b.fn=f):
  stepG P main (G {b.at a todo with mode:= .returning} (cr::Eg)) w=
    GStep.after (seen P f ((results fn a.tmps).events P w #[])) (match(results fn a.tmps).run P w with
     |.ok v w=> .go (G (cr.finish v) Eg) w
     |.halt (.stuck s) w=> .ended (.stuck s (Frame.pos P {b.at a todo with mode:= .returning})) w
     |.halt _ w=> .ended (.stuck "return: the result variables cannot be read" (Frame.pos P {b.at a todo with mode:= .returning})) w):=by
 subst e3;simp[G,stepG,unwind,doReturn,Frame.at,e1,e2,hf];cases (results fn a.tmps).run P w with
 |ok v u=>rfl
 |halt h u=>cases h<;>rfl
theorem Qh (hS:Stat P S E str)(hz:str=true->∀b,¬Z b)(hgf:c.gf=dC P)(h0:∃fn,P.funcs[c.f0]? =some fn)(hl:LW H Z w)(t0:dX)(d0:Nat)
  {f:FuncId} {a:Act} {t x y:List Item} {cs cs':List Frame} {B:Frame} {D:kf} {todo:List Item} (h:qW P S E str id c (gp H w) f a t x cs B D y cs'):
  Eb P (Jn P S E str c H Z) (G {(base f).at a todo with mode:= .returning} cs) w t0 d0:=by
 obtain⟨hB,hk,hd,ht,ha⟩:=h.base;have hfn:∃fn,P.funcs[f]? =some fn:=by
  cases h with
  |bot=>exact h0
  |up hf=>obtain⟨fn,cd,b1,_⟩:=hS.body _ hf;exact⟨fn,b1⟩
 obtain⟨fn,hfn⟩:=hfn;have hl1:=hl.ax t0 d0;have main:∀cr Eg,cs=cr::Eg->(∀v ch,(cr.finish v).mode≠.panicking ch)->(∀v u es,stepG P true (G {(base f).at a todo with mode:= .returning} cs) (ax w t0 d0)= .go (G (cr.finish v) Eg) u es->LW H Z u->Jn P S E str c H Z (G (cr.finish v) Eg) u)->
   Eb P (Jn P S E str c H Z) (G {(base f).at a todo with mode:= .returning} cs) w t0 d0:=by
  intro cr Eg hcs hm hj;subst hcs;have gen:∀w,_:=λw=>Ba (P:=P) hfn (main:=true) (b:=base f) (a:=a) (todo:=todo) (cr:=cr) (Eg:=Eg) (w:=w) rfl hd rfl
  cases hr:(results fn a.tmps).run P (ax w t0 d0) with
  |halt hh u=>
   refine .inl ?_;rw[gen,hr];cases hh<;>exact⟨_,_,_,rfl⟩
  |ok v u=>
   have Dj:=ls (P:=P) (π:=id) (N:=λb=>H b\/Z b) (V:=gp H w) fn a.tmps;have hrT:(results fn a.tmps).runT P (ax w t0 d0) #[]=(.ok v u,(results fn a.tmps).events P (ax w t0 d0) #[]):=by rw[Sem.runT_eq,hr]
   obtain⟨k,hk1,hk2⟩:=Dj.ED hl.zN (λb hb=>hl.low b hb) hrT;obtain⟨l1,_⟩:=nz hS (π:=id) (λ_ _ h=>h) hl1 (hl1.self (σ:=id) (λ_ _ h=>h) λ_ _=>rfl) (λv hv=>ha v hv) fn hr λi _=>rfl
   have e:stepG P true (G {(base f).at a todo with mode:= .returning} (cr::Eg)) (ax w t0 d0)= .go (G (cr.finish v) Eg) u (seen P f ((results fn a.tmps).events P (ax w t0 d0) #[])):=by
    rw[gen,hr];simp[GStep.after]
   refine .inr (.inr ⟨_,_,u,_,k,e,mG (hm v),hj v u _ e l1,hk1,λt2 d2 hag=>?_⟩);have h2:=hk2 t2 d2 hag;have h3:(results fn a.tmps).run P (ax w t2 d2)= .ok v (ax u t2 (d2+k)):=by rw[<-Sem.runT_fst P _ _ #[],h2]
   have h4:(results fn a.tmps).events P (ax w t2 d2) #[]=(results fn a.tmps).events P (ax w t0 d0) #[]:=by
    show((results fn a.tmps).runT P (ax w t2 d2) #[]).2=_;rw[h2]
   rw[gen,h3,h4];simp[GStep.after]
 cases h with
 |bot _ _ _ hxy=>
  refine main c.gf [] rfl (λv ch=>by rw[hgf];simp[dC,Frame.finish,Frame.at]) λv u es _ l=>⟨l,.inr ?_⟩
  rw[hgf];simp[dC,Frame.finish,Frame.at]
 |@up _ f1 _ a1 _ t1 x1 y1 ops i rest cs1 JX B1 D1 hf _ _ _ hst=>
  refine main _ cs1 rfl (λv ch=>by rw[Frame.finish_at];simp[Frame.at]) λv u es hs l=>?_
  obtain⟨g',_,_,_,hr,l2,_⟩:=step_ret hS (π:=id) (c:=c) (main:=true) (todo':=[]) (λ_ _ h=>h) hl1 (hl1.self (σ:=id) (λ_ _ h=>h) λ_ _=>rfl) (qW.mono (λi hv=>hv) (.up hf ht ha hd hst)) (by
   intro e;cases hst<;>simp at e) hs λi _=>rfl
  exact⟨l2,.inl ⟨g',hr⟩⟩
theorem abw (hS:Stat P S E str)(hz:str=true->∀b,¬Z b)(hgf:c.gf=dC P)(h0:∃fn,P.funcs[c.f0]? =some fn){gL:Goroutine}(h:Jn P S E str c H Z gL w)(t0:dX)(d0:Nat):Eb P (Jn P S E str c H Z) gL w t0 d0:=by
 obtain⟨hl,⟨g,hr⟩|rfl⟩:=h
 .cases hr with
  |run h=>exact Qg hS hz hgf h0 hl t0 d0 h
  |ret h=>exact Qh hS hz hgf h0 hl t0 d0 h
 .exact .inl ⟨_,_,_,by simp[G,dC,stepG,stepG.exec,Frame.at];exact⟨rfl,rfl,rfl⟩⟩
end
section
variable {P:Program}{S E:FuncId->Bool}{str:Bool}{c:Ctx}{H Z:Nat->Prop}
theorem gz.ax {π:Nat->Nat}{wL:World}{gL g:Goroutine}(h:gz P S E str π c H wL gL g)(t:dX)(d:Nat):gz P S E str π c H (ax wL t d) gL g:=by
 cases h with
 |run h=>exact .run (h.mono λi hv=>hv)
 |ret h=>exact .ret (h.mono λi hv=>hv)
theorem shifts (hS:Stat P S E str)(hz:str=true->∀b,¬Z b)(hgf:c.gf=dC P)(h0:∃fn,P.funcs[c.f0]? =some fn):Shifts P (Jn P S E str c H Z):=by
 intro g w t d g' w' es hj hs hn;rcases abw hS hz hgf h0 hj t d with⟨o,u,es2,h⟩|⟨fr,cs,u,es2,h,hl⟩|⟨fr,cs,u,es2,k,h,_,hj',hk,hk2⟩
 .rw[h] at hs;cases hs
 .rw[h] at hs
  cases hs;exfalso;cases hl with
  |top hm _=>exact hn.calm _ hm
  |up hm _ _ _=>exact hn.calm _ hm
 .rw[h] at hs
  cases hs;exact⟨hj',k,hk,hk2⟩
theorem xq:∀(n:Nat) {fr:Frame} {cs:List Frame} {w:World} {fr':Frame} {cs':List Frame} {w':World},Kt P fr cs->runN P n (lone fr cs w)= .next (lone fr' cs' w')->∃ch,fr'.mode= .panicking ch
 |0,fr,cs,w,fr',cs',w',h,hr=>by
  simp only[runN,Stepped.next.injEq,lone,Machine.mk.injEq] at hr;have h1:=hr.2.1;simp at h1;obtain⟨rfl,_⟩:=h1;cases h with
  |top hm _=>exact⟨_,hm⟩
  |up hm _ _ _=>exact⟨_,hm⟩
 |n+1,fr,cs,w,fr',cs',w',h,hr=>by
  simp only[runN] at hr;cases h with
  |top hm hf=>
   have:step P (lone fr [] w)= .ended (.stuck "call: no such function" (Frame.pos P {fr with defers:=[]})) w:=by
    refine step_lone_ended ?_;simp[stepG,unwind,hm,hf,dC,callDeferred,Frame.at,invoke,callFunc,program,stuck,bind,Sem.bind,Sem.run,GStep.after]
   rw[this] at hr;cases hr
  |@up _ cr cs ch hm hd hc h=>
   have:step P (lone fr (cr::cs) w)= .next (lone (cr.raise ch) cs w):=by
    refine step_lone_go ?_;simp[stepG,unwind,hm,hd,hc]
   rw[this] at hr;exact xq n (h ch) hr
theorem ly (hS:Stat P S E str)(hz:str=true->∀b,¬Z b)(hgf:c.gf=dC P)(h0:∃fn,P.funcs[c.f0]? =some fn):∀(n:Nat) {fr:Frame} {cs:List Frame} {w:World} {fr':Frame} {cs':List Frame} {w':World},
  Jn P S E str c H Z (G fr cs) w->runN P n (lone fr cs w)= .next (lone fr' cs' w')->(∀ch,fr'.mode≠.panicking ch)->Run P n (G fr cs) w (G fr' cs') w'/\Jn P S E str c H Z (G fr' cs') w'
 |0,fr,cs,w,fr',cs',w',hj,hr,_=>by
  simp only[runN,Stepped.next.injEq,lone,Machine.mk.injEq] at hr;have h1:=hr.2.1;simp at h1;obtain⟨rfl,rfl⟩:=h1;obtain rfl:=hr.1;exact⟨⟨rfl,rfl⟩,hj⟩
 |n+1,fr,cs,w,fr',cs',w',hj,hr,hm=>by
  simp only[runN] at hr;rcases abw hS hz hgf h0 hj w.tape w.drawn with⟨o,u,es2,h⟩|⟨fr2,cs2,u,es2,h,hl⟩|⟨fr2,cs2,u,es2,k,h,hn,hj',_,_⟩
  .rw[oB] at h
   have:step P (lone fr cs w)= .ended o u:=step_lone_ended (by
    show(stepG P true (G fr cs) w).bare=_;rw[h];rfl)
   rw[this] at hr;cases hr
  .rw[oB] at h
   have:step P (lone fr cs w)= .next (lone fr2 cs2 u):=step_lone_go (by
    show(stepG P true (G fr cs) w).bare=_;rw[h];rfl)
   rw[this] at hr;obtain⟨ch,hc⟩:=xq n hl hr;exact absurd hc (hm ch)
  .rw[oB] at h
   have:step P (lone fr cs w)= .next (lone fr2 cs2 u):=step_lone_go (by
    show(stepG P true (G fr cs) w).bare=_;rw[h];rfl)
   rw[this] at hr;obtain⟨r1,r2⟩:=ly hS hz hgf h0 n hj' hr hm;exact⟨⟨_,u,es2,h,hn,r1⟩,r2⟩
def kL:Option Nat->List Item
 |none=>[.inRangeFunc 0]
 |some id=>[.inRangeFunc 0,.inBlock id,.inRangeFunc 0]
def Tz (f0:FuncId)(P:Program)(fS:Option Nat):Exit->Act->Goroutine->Prop
 |.normal,a,g=>g=G ((base f0).at a (kL fS)) [dC P]
 |.exit id,a,g=>fS=some id/\g=G ((base f0).at a [.inRangeFunc 0]) [dC P]
 |.ret,a,g=>∃todo,g=G {(base f0).at a todo with mode:= .returning} [dC P]
 |_,_,_=>False
def aip (f0:FuncId)(P:Program)(fS:Option Nat)(Q:Exit->Act->World->Prop)(g:Goroutine)(w:World):Prop:=∃e a,Q e a w/\Tz f0 P fS e a g
structure QOk (fS:Option Nat)(Q:Exit->Act->World->Prop):Prop where
 tape:∀e a w t d,Q e a (ax w t d)↔Q e a w
 out:∀e a w,Q e a w->e= .normal\/e= .ret\/∃id,e= .exit id/\fS=some id
def WpT (P:Program)(t:List Item)(Q:Exit->Act->World->Prop)(a:Act)(w:World):Prop:=∀(b:Frame) (k:List Item) (cs:List Frame),∃e a' w',Q e a' w'/\Arrives P (lone (b.at a (t++k)) cs w) b k cs e a' w'
theorem Fz (hS:Stat P S E str)(hz:str=true->∀b,¬Z b)(hgf:c.gf=dC P)(h0:∃fn,P.funcs[c.f0]? =some fn){t0:List Item}{Q:Exit->Act->World->Prop}{a:Act}{wL:World}{fS:Option Nat}(hQ:QOk fS Q)
  (hj:Jn P S E str c H Z (G ((base c.f0).at a (t0++kL fS)) [dC P]) wL) (h:∀t d,WpT P t0 Q a (ax wL t d)):Ends P (aip c.f0 P fS Q) (G ((base c.f0).at a (t0++kL fS)) [dC P]) wL:=by
 intro t d;obtain⟨e,a',w',q,harr⟩:=h t d (base c.f0) (kL fS) [dC P];have hj':Jn P S E str c H Z (G ((base c.f0).at a (t0++kL fS)) [dC P]) (ax wL t d):=⟨hj.1.ax t d,hj.2.imp (λ⟨g,h⟩=>⟨g,h.ax t d⟩) id⟩
 rcases hQ.out e a' w' q with rfl|rfl|⟨id,rfl,hx⟩
 .obtain⟨n,hn⟩:=harr
  exact⟨n,_,w',(ly hS hz hgf h0 n hj' hn λch=>by simp[Frame.at]).1,.normal,a',q,rfl⟩
 .obtain⟨todo,n,hn⟩:=harr
  exact⟨n,_,w',(ly hS hz hgf h0 n hj' hn λch=>by simp).1,.ret,a',q,todo,rfl⟩
 .subst hx
  obtain⟨n,hn⟩:=harr [.inRangeFunc 0] (by simp[kL,exitTo]);exact⟨n,_,w',(ly hS hz hgf h0 n hj' hn λch=>by simp[Frame.at]).1,.exit id,a',q,rfl,rfl⟩
end
def TN (O RO:Nat->Prop)(n n':Nat)(e:Event):Prop:=
 (∃b,(O b\/(n<=b/\b<n')\/(RO b/\e.write=false))/\((∃a:Addr,e.loc= .cell a/\a.block=b)\/e.loc= .obj b))\/∃m,e.loc= .mark m/\oN m
structure kv (O RO:Nat->Prop)(w w':World)(es:Array Event):Prop where
 size:w.heap.size<=w'.heap.size
 keep:∀k,k<w.heap.size->¬O k->w'.heap[k]? =w.heap[k]?
 os:w'.os=w.os
 output:w'.output=w.output
 tape:w'.tape=w.tape
 ev:∀e∈es,TN O RO w.heap.size w'.heap.size e
structure OE {S0:Type}(C:Co S0)(own:S0->Nat->Prop)(RO:Nat->Prop):Prop where
 rel:∀s w w₁,C.R s w w₁->w.heap.size<=w₁.heap.size/\w₁.tape=w.tape/\∀b,b<w.heap.size->own s b\/RO b->w₁.heap[b]? =w.heap[b]?
 guar:∀s w w' es,kv (own s) RO w w' es->C.D s w w' es
 up:∀s w w' b,own (C.up s w w') b↔own s b\/(w.heap.size<=b/\b<w'.heap.size)
structure Link (H Z:Nat->Prop)(O RO:Nat->Prop)(π:Nat->Nat)(wL w:World):Prop where
 inj:∀i j,π i=π j->i=j
 zero:π 0=0
 lt:∀b,b<wL.heap.size->π b<w.heap.size
 lw:LW H Z wL
 wr:WR π H Z (ax wL w.tape w.drawn) w
 own:∀b,gp H wL b->¬Z b->O (π b)
 ro:∀b,Z b->RO (π b)
section
variable {P:Program}{S E:FuncId->Bool}{str:Bool}{c:Ctx}{H Z:Nat->Prop}{O RO:Nat->Prop}{π ce:Nat->Nat}{wL w w₁:World}
theorem tz {v:Value}:∀(h:∀r,Value.Has r v->π r=ce r),Value.ren π v=Value.ren ce v:=by
 suffices h:∀n (v:Value),SizeOf.sizeOf v<n->(∀r,Value.Has r v->π r=ce r)->Value.ren π v=Value.ren ce v from h _ v (Nat.lt_succ_self _)
 intro n
 induction n with
 |zero=>intro v h;omega
 |succ n ih=>
  intro v hv h;have arr:∀(cs:Array Value),SizeOf.sizeOf cs<n->(∀x∈cs,∀r,Value.Has r x->π r=ce r)->cs.map (Value.ren π)=cs.map (Value.ren ce):=by
   intro cs hs hh;exact Array.map_congr_left λx hx=>ih x (by have:=Array.sizeOf_lt_of_mem hx;omega) (hh x hx)
  cases v with
  |pointer a=>cases a with
   |none=>simp
   |some a=>simp[aZ,h a.block (.ptr rfl)]
  |slice a _ _=>cases a with
   |none=>simp
   |some a=>simp[aZ,h a.block (.slice rfl)]
  |map r=>cases r with
   |none=>simp
   |some r=>simp[h r .map]
  |chan r=>cases r with
   |none=>simp
   |some r=>simp[h r .chan]
  |iface t v=>rw[cN,cN,ih v (by simp at hv;omega) λr x=>h r (.iface x)]
  |agg cs=>rw[dj,dj,arr cs (by simp at hv;omega) λx hx r y=>h r (.agg hx y)]
  |tuple cs=>rw[cM,cM,arr cs (by simp at hv;omega) λx hx r y=>h r (.tuple hx y)]
  |func fn f c=>
   rw[db,db,arr f (by simp at hv;omega) λx hx r y=>h r (.first hx y),arr c (by simp at hv;omega) λx hx r y=>h r (.FQ hx y)];cases fn with
   |yield l=>simp[oG,h l .yield]
   |_=>rfl
  |_=>simp
theorem kU {cs:Array Value}(h:∀x∈cs,∀r,Value.Has r x->π r=ce r):cs.map (Value.ren π)=cs.map (Value.ren ce):=Array.map_congr_left λx hx=>tz (h x hx)
theorem wR {o:Obj}(h:∀r,j6 r o->π r=ce r):dA π o=dA ce o:=by
 cases o with
 |cells c t f=>simp only[dA];rw[kU λv hv r x=>h r (.cells hv x)]
 |map es c=>
  simp only[dA];have:es.map (lY π)=es.map (lY ce):=Array.map_congr_left λe he=>by
   unfold lY;rw[tz λr x=>h r (.key he x),tz λr x=>h r (.val he x)]
  rw[this]
 |mapIter m a b c=>cases m with
  |none=>rfl
  |some r=>simp[dA,h r .iter]
 |view a t=>simp[dA,aZ,h a.block (.view rfl)]
 |number a l=>simp[dA,aZ,h a.block (.number rfl)]
 |_=>rfl
theorem qW.congr {V:Nat->Prop}(hV:∀i,V i->π i=ce i){f:FuncId}{a:Act}{t x:List Item}{cs:List Frame}{B:Frame}{D:kf}{y:List Item}{cs':List Frame}(h:qW P S E str π c V f a t x cs B D y cs'):qW P S E str ce c V f a t x cs B D y cs':=by
 induction h with
 |bot ht ha hd hxy=>exact .bot ht ha hd hxy
 |@up f f1 a a1 t t1 x1 y1 ops i rest cs1 JX B1 D1 hf ht ha hd hs ih=>
  have e:aY π a1 D1=aY ce a1 D1:=by
   unfold aY;rw[kU λv hv r x=>hV r (hs.base.2.2.2.2 v hv r x)]
  rw[e];exact .up hf ht ha hd ih
theorem gz.congr (hV:∀i,gp H wL i->π i=ce i){gL g:Goroutine}(h:gz P S E str π c H wL gL g):gz P S E str ce c H wL gL g:=by
 cases h with
 |@run f a t x cs B D y cs' h=>
  have e:aY π a D=aY ce a D:=by
   unfold aY;rw[kU λv hv r x=>hV r (h.base.2.2.2.2 v hv r x)]
  rw[e];exact .run (h.congr hV)
 |@ret f a t x cs B D y cs' todo todo' h=>
  have e:aY π a D=aY ce a D:=by
   unfold aY;rw[kU λv hv r x=>hV r (h.base.2.2.2.2 v hv r x)]
  rw[e];exact .ret (h.congr hV)
theorem Link.rely (h:Link H Z O RO π wL w)(hs:w.heap.size<=w₁.heap.size)(ht:w₁.tape=w.tape)(hk:∀b,b<w.heap.size->O b\/RO b->w₁.heap[b]? =w.heap[b]?):
  ∃ce,Link H Z O RO ce wL w₁/\(∀b,b<wL.heap.size->π b=ce b)/\∀i,ce (wL.heap.size+i)=w₁.heap.size+i:=by
 refine⟨λi=>if i<wL.heap.size then π i else w₁.heap.size+(i-wL.heap.size),?_,λb hb=>(if_pos hb).symm,λi=>by show(if wL.heap.size+i<wL.heap.size then π (wL.heap.size+i) else w₁.heap.size+(wL.heap.size+i-wL.heap.size))=_;rw[if_neg (by omega)];omega⟩;have e:∀b,b<wL.heap.size->(if b<wL.heap.size then π b else w₁.heap.size+(b-wL.heap.size))=π b:=λb hb=>if_pos hb
 have lo:∀b,H b\/Z b->b<wL.heap.size:=h.lw.low;have hz0:0<wL.heap.size:=h.lw.zero.1;have oc:∀(b:Nat) (o:Obj),wL.heap[b]? =some o->¬H b->dA (λi=>if i<wL.heap.size then π i else w₁.heap.size+(i-wL.heap.size)) o=dA π o:=λb o hb hH=>wR λr hr=>e r (h.lw.RY b o hb hH r hr).1
 have at_:∀b,gp H wL b->w₁.heap[π b]? =w.heap[π b]? :=λb hb=>hk _ (h.lt b hb.1) (by
  by_cases hZ:Z b
  .exact .inr (h.ro b hZ)
  .exact .inl (h.own b hb hZ))
 refine {inj:=λi j hij=>?_,zero:=by rw[e 0 hz0];exact h.zero,lt:=λb hb=>by rw[e b hb];have:=h.lt b hb;omega,lw:=h.lw,wr:=?_,own:=λb hb hZ=>by rw[e b hb.1];exact h.own b hb hZ,ro:=λb hZ=>by rw[e b (lo b (.inr hZ))];exact h.ro b hZ}
 .split at hij<;>split at hij
  .exact h.inj _ _ hij
  .have:=h.lt i (by assumption);omega
  .have:=h.lt j (by assumption);omega
  .omega
 .have hw:=h.wr
  refine {inj:=?_,tape:=rfl,drawn:=rfl,lt:=λb hb hH=>?_,ok:=λb o hb hH hZ=>?_,hid:=hw.hid,nU:=λb o hb hZ=>?_,low:=hw.low,yy:=hw.yy}
  .intro i j hij
   split at hij<;>split at hij
   .exact h.inj _ _ hij
   .have:=h.lt i (by assumption);omega
   .have:=h.lt j (by assumption);omega
   .omega
  .rw[e b hb]
   have:=h.lt b hb;omega
  .have hlt:=(Array.getElem?_eq_some_iff.1 hb).1
   refine⟨(hw.ok b o hb hH hZ).1,?_⟩;rw[e b hlt,at_ b ⟨hlt,hH⟩,oc b o hb hH];exact(hw.ok b o hb hH hZ).2
  .have hlt:=(Array.getElem?_eq_some_iff.1 hb).1
   obtain⟨c,t,f,rfl,h2⟩:=hw.nU b o hb hZ;refine⟨c,t,f,rfl,?_⟩;have hH:=h.lw.apart b hZ;rw[e b hlt,at_ b ⟨hlt,hH⟩];have:=oc b _ hb hH;simp only[dA,Obj.cells.injEq] at this;rw[this.1];exact h2
theorem Link.rT (h:Link H Z O RO π wL w){bu w':World}{es:Array Event}(hag:∀i,wL.heap.size+i<bu.heap.size->π (wL.heap.size+i)=w.heap.size+i)
  (l:LW H Z bu) (hsz:wL.heap.size<=bu.heap.size) (hw:WR π H Z bu w') (hc:Bu π H Z (ax wL w.tape w.drawn) bu w w') (he:∀e∈es,pj π H Z bu.heap.size e):
  kv O RO w w' es/\∀O':Nat->Prop,(∀b,O' b↔O b\/(w.heap.size<=b/\b<w'.heap.size))->Link H Z O' RO π bu w':=by
 have hS:w'.heap.size=w.heap.size+(bu.heap.size-wL.heap.size):=hc.size;have new:∀b,wL.heap.size<=b->b<bu.heap.size->w.heap.size<=π b/\π b<w'.heap.size:=λb h1 h2=>by
  have:=hag (b-wL.heap.size) (by omega);rw[show wL.heap.size+(b-wL.heap.size)=b by omega] at this;omega
 refine⟨⟨by omega,λk hk hO=>hc.keep k hk λb hb hH hZ e=>hO (e▸h.own b ⟨hb,hH⟩ hZ),hc.os,hc.output,hc.tape,λe hE=>?_⟩,λO' hO'=>?_⟩
 .rcases he e hE with⟨b,hb,hH,hZ,hloc⟩|hm
  .refine .inl ⟨π b,?_,hloc⟩
   by_cases hlt:b<wL.heap.size
   .by_cases hz:Z b
    .refine .inr (.inr ⟨h.ro b hz,?_⟩)
     cases hwr:e.write with
     |false=>rfl
     |true=>exact absurd hz (hZ hwr)
    .exact .inl (h.own b ⟨hlt,hH⟩ hz)
   .exact .inr (.inl (new b (by omega) hb))
  .exact .inr hm
 .refine {inj:=h.inj,zero:=h.zero,lt:=λb hb=>?_,lw:=l,wr:=?_,own:=λb hb hZ=>?_,ro:=h.ro}
  .by_cases hlt:b<wL.heap.size
   .have:=h.lt b hlt;omega
   .exact(new b (by omega) hb).2
  .have e:ax bu w'.tape w'.drawn=bu:=by
    unfold ax;rw[hw.tape,hw.drawn]
   rw[e];exact hw
  .rw[hO']
   by_cases hlt:b<wL.heap.size
   .exact .inl (h.own b ⟨hlt,hb.2⟩ hZ)
   .exact .inr (new b (by omega) hb.1)
inductive TlX (fS:Option Nat)(kT:List Item):List Item->List Item->Prop
 |nil:TlX fS kT (kL fS) kT
 |exit {id:Nat} {y:List Item} (h:fS=some id) (hy:exitTo id kT=some y):TlX fS kT [.inRangeFunc 0] y
def adK (B:Frame)(kT:List Item)(CS:List Frame):Exit->Act->Goroutine->Prop
 |.normal,a,g=>g=G (B.at a kT) CS
 |.exit id,a,g=>∃y,exitTo id kT=some y/\g=G (B.at a y) CS
 |.ret,a,g=>∃todo,g=G {B.at a todo with mode:= .returning} CS
 |_,_,_=>False
def StopA {S0:Type}(own:S0->Nat->Prop)(RO:Nat->Prop)(H Z:Nat->Prop)(B:Frame)(D0:kf)(kT:List Item)(CS:List Frame)(Q:Exit->Act->World->Prop)(ZT:Nat->Nat)(n₀:Nat)(s:S0)(g:Goroutine)(w:World):Prop:=
 ∃e a wL π,Q e a wL/\Link H Z (own s) RO π wL w/\a.defers=[]/\(∀v∈a.tmps,VV (gp H wL) v)/\adK B kT CS e (aY π a D0) g/\(∀b,b<n₀->π b=ZT b)/\n₀<=wL.heap.size
def adV (P:Program)(f0:FuncId)(B:Frame)(D0:kf)(CS:List Frame)(fS:Option Nat)(kT:List Item)(hf:B.fn=f0)(hk:B.kind≠.early)(hx:∀id,fS=some id->∃y,exitTo id kT=some y):Ctx where
 f0:=f0
 gf:=dC P
 B:=B
 D0:=D0
 CS:=CS
 Tl:=TlX fS kT
 fn:=hf
 kind:=hk
 stop:=λx y h=>by
  cases h with
  |nil=>cases fS<;>exact⟨_,_,rfl⟩
  |exit=>exact⟨_,_,rfl⟩
 exit:=λx y id x' h hx'=>by
  cases h with
  |nil=>
   cases fS with
   |none=>simp[kL,exitTo] at hx'
   |some i=>
    simp only[kL,exitTo] at hx';split at hx'
    .rename_i he
     have:i=id:=by simpa using he
     subst this;cases hx';obtain⟨y',hy'⟩:=hx i rfl;exact⟨y',hy',.exit rfl hy'⟩
    .cases hx'
  |exit=>simp[exitTo] at hx'
 bare:=λx y l h=>by
  cases h with
  |nil=>cases fS<;>rfl
  |exit=>rfl
theorem Al {V:Nat->Prop}{f:FuncId}{a:Act}{t x:List Item}{gf:Frame}{B:Frame}{D:kf}{y:List Item}{cs':List Frame}(h:qW P S E str π c V f a t x [gf] B D y cs'):f=c.f0/\B=c.B/\D=c.D0/\cs'=c.CS/\c.Tl x y:=by
 cases h with
 |bot _ _ _ hxy=>exact⟨rfl,rfl,rfl,rfl,hxy⟩
 |up _ _ _ _ hs=>cases hs
theorem uq {gL g:Goroutine}(h:gz P S E str π c H wL gL g){f0:FuncId}{aL:Act}{todo:List Item}{gf:Frame}(e:gL=G ((base f0).at aL todo) [gf]):
  ∃t x y,todo=t++x/\(∀it∈t,bV (sl c.D0) P S E str it=true)/\c.Tl x y/\aL.defers=[]/\(∀v∈aL.tmps,VV (gp H wL) v)/\g=G (c.B.at (aY π aL c.D0) (t++y)) c.CS:=by
 cases h with
 |@run f a t x cs B D y cs' h=>
  simp only[G,Frame.at,base,Goroutine.mk.injEq,Frame.mk.injEq] at e;obtain⟨⟨e1,e2,e3,e4,_⟩,e5,_⟩:=e;subst e5;obtain⟨_,_,hd,ht,ha⟩:=h.base;obtain⟨_,rfl,rfl,rfl,hxy⟩:=Al h;obtain⟨tm,df⟩:=a;obtain⟨tm',df'⟩:=aL;simp only at e2 e4;subst e2;subst e4;exact⟨t,x,y,e3.symm,ht,hxy,hd,ha,rfl⟩
 |ret h=>
  simp only[G,Frame.at,base,Goroutine.mk.injEq,Frame.mk.injEq] at e;exact absurd e.1.2.2.2.2.1 (by simp)
theorem CK {gL g:Goroutine}(h:gz P S E str π c H wL gL g){f0:FuncId}{aL:Act}{todo:List Item}{gf:Frame}(e:gL=G {(base f0).at aL todo with mode:= .returning} [gf]):
  aL.defers=[]/\(∀v∈aL.tmps,VV (gp H wL) v)/\∃todo',g=G {c.B.at (aY π aL c.D0) todo' with mode:= .returning} c.CS:=by
 cases h with
 |run h=>
  simp only[G,Frame.at,base,Goroutine.mk.injEq,Frame.mk.injEq] at e;exact absurd e.1.2.2.2.2.1 (by simp)
 |@ret f a t x cs B D y cs' td td' h=>
  simp only[G,Frame.at,base,Goroutine.mk.injEq,Frame.mk.injEq] at e;obtain⟨⟨e1,e2,e3,e4,_⟩,e5,_⟩:=e;subst e5;obtain⟨_,_,hd,ht,ha⟩:=h.base;obtain⟨_,rfl,rfl,rfl,hxy⟩:=Al h;obtain⟨tm,df⟩:=a;obtain⟨tm',df'⟩:=aL;simp only at e2 e4;subst e2;subst e4;exact⟨hd,ha,td',rfl⟩
theorem QQ (fS:Option Nat):∃r,kL fS= .inRangeFunc 0::r:=by cases fS<;>exact⟨_,rfl⟩
theorem tail_nil {σ:List Nat}{t x:List Item}{r:List Item}(h:Item.inRangeFunc 0::r=t++x)(ht:∀it∈t,bV σ P S E str it=true):t=[]:=by
 cases t with
 |nil=>rfl
 |cons it t=>
  simp only[List.cons_append,List.cons.injEq] at h;have:=ht it (by simp);rw[<-h.1] at this;simp[bV] at this
theorem Mr (hS:Stat P S E str)(hz:str=true->∀b,¬Z b){f0:FuncId}(h0:∃fn,P.funcs[f0]? =some fn){S0:Type}{C:Co S0}{own:S0->Nat->Prop}(hC:OE C own RO){fS:Option Nat}{Q:Exit->Act->World->Prop}(hQ:QOk fS Q)
  {B:Frame} {D0:kf} {CS:List Frame} {kT:List Item} (hf:B.fn=f0) (hk:B.kind≠.early) (hx:∀id,fS=some id->∃y,exitTo id kT=some y) {t0:List Item} (Bv:∀it∈t0,bV (sl D0) P S E str it=true)
  {a:Act} {s:S0} (hl:Link H Z (own s) RO π wL w) (ha:∀v∈a.tmps,VV (gp H wL) v) (hd:a.defers=[]) (hwp:∀t d,WpT P t0 Q a (ax wL t d)) {main:Bool}:
  aD P main C (StopA own RO H Z B D0 kT CS Q π wL.heap.size) s (G (B.at (aY π a D0) (t0++kT)) CS) w:=by
 let c:=adV P f0 B D0 CS fS kT hf hk hx
 have hj:Jn P S E str c H Z (G ((base f0).at a (t0++kL fS)) [dC P]) wL:=
  ⟨hl.lw,.inl ⟨_,gz.run (t:=t0) (x:=kL fS) (qW.bot (c:=c) Bv ha hd (.nil (kT:=kT)))⟩⟩
 have acO:=Fz hS hz (c:=c) (Z:=Z) rfl h0 hQ hj hwp;have hlt:=Ah (shifts hS hz (c:=c) (H:=H) (Z:=Z) rfl h0) (λg w t d=>by
  constructor
  .rintro⟨e,a,q,x⟩;exact⟨e,a,(hQ.tape e a w t d).1 q,x⟩
  .rintro⟨e,a,q,x⟩;exact⟨e,a,(hQ.tape e a w t d).2 q,x⟩) hj acO
 refine Da (λs gL bu g w=>∃ce,Link H Z (own s) RO ce bu w/\gz P S E str ce c H bu gL g/\(∀b,b<wL.heap.size->ce b=π b)/\wL.heap.size<=bu.heap.size) ?_ ?_ ?_ hlt ⟨π,hl,gz.run (t:=t0) (x:=kL fS) (qW.bot (c:=c) Bv ha hd (.nil (kT:=kT))),λ_ _=>rfl,Nat.le_refl _⟩
 ·
  rintro s gL wL g w ⟨π,hl,hr,XC,hsz0⟩ ⟨e,aL,q,hg⟩ w₁ hR;obtain⟨r1,r2,r3⟩:=hC.rel s w w₁ hR;obtain⟨ce,hl',GW,_⟩:=hl.rely r1 r2 r3;have hr':=hr.congr (ce:=ce) λi hv=>GW i hv.1
  have Ra:=λb (hb:b<_)=>(GW b (Nat.lt_of_lt_of_le hb hsz0)).symm.trans (XC b hb)
  refine⟨e,aL,wL,ce,q,hl',?_⟩;rcases hQ.out e aL wL q with rfl|rfl|⟨id,rfl,hxi⟩
  .obtain⟨t,x,y,e1,ht,hxy,h1,h2,rfl⟩:=uq hr' hg
   obtain⟨r,hr2⟩:=QQ fS;obtain rfl:=tail_nil (hr2▸e1) ht;refine⟨h1,h2,?_⟩;have hxy':TlX fS kT x y:=hxy;simp only[List.nil_append] at e1⊢;subst e1;cases hk2:fS with
   |none=>
    rw[hk2] at hxy';generalize hz2:kL none=z at hxy';cases hxy' with
    |nil=>exact⟨rfl,Ra,hsz0⟩
    |exit h _=>cases h
   |some i=>
    rw[hk2] at hxy';generalize hz2:kL (some i)=z at hxy';cases hxy' with
    |nil=>exact⟨rfl,Ra,hsz0⟩
    |exit _ _=>simp[kL] at hz2
  .obtain⟨todo,hg⟩:=hg
   obtain⟨h1,h2,todo',rfl⟩:=CK hr' hg;exact⟨h1,h2,⟨todo',rfl⟩,Ra,hsz0⟩
  .obtain⟨t,x,y,e1,ht,hxy,h1,h2,rfl⟩:=uq hr' hg.2
   obtain rfl:=tail_nil e1 ht;refine⟨h1,h2,?_⟩;have hxy':TlX fS kT x y:=hxy;simp only[List.nil_append] at e1⊢;subst e1;subst hxi;generalize hz2:[Item.inRangeFunc 0]=z at hxy';cases hxy' with
   |nil=>simp[kL] at hz2
   |exit h hy=>
    cases h;exact⟨⟨_,hy,rfl⟩,Ra,hsz0⟩
 .rintro s gL wL g w ⟨π,hl,hr,_⟩
  cases hr<;>rfl
 .rintro s gL wL g w ⟨π,hl,hr,XC,hsz0⟩ w₁ hR pG bu es hs hn hk
  obtain⟨r1,r2,r3⟩:=hC.rel s w w₁ hR;obtain⟨ce,hl',GW,hag⟩:=hl.rely r1 r2 r3;have hr':=hr.congr (ce:=ce) λi hv=>GW i hv.1
  have hag':∀i,(ax wL w₁.tape w₁.drawn).heap.size+i<bu.heap.size->ce ((ax wL w₁.tape w₁.drawn).heap.size+i)=w₁.heap.size+i:=λi _=>hag i
  have res:Res P S E str ce c main H Z (ax wL w₁.tape w₁.drawn) w₁ g pG bu:=by
   have hl1:LW H Z (ax wL w₁.tape w₁.drawn):=hl'.lw.ax _ _;cases hr' with
   |run h=>exact BU hS hl'.inj hl'.zero hz hl1 hl'.wr (h.mono λi hv=>hv) hs hn hag'
   |@ret f a t x cs B D y cs' todo todo' h=>
    by_cases hne:cs=[dC P]
    .exfalso
     subst hne;obtain⟨_,_,hda,_,_⟩:=h.base;obtain⟨hf0,_⟩:=Al h;have ahs:f=f0:=hf0;subst ahs;obtain⟨fn,hfn⟩:=h0;rw[Ba hfn rfl hda rfl] at hs;cases hres:(results fn a.tmps).run P (ax wL w₁.tape w₁.drawn) with
     |halt hh u=>rw[hres] at hs;cases hh<;>simp[GStep.after] at hs
     |ok v u=>
      rw[hres] at hs;simp only[GStep.after,GStep.go.injEq] at hs;obtain⟨rfl,rfl,_⟩:=hs;have hfin:(dC P).finish v=dC P:=by simp[dC,Frame.finish,Frame.at]
      rw[hfin] at hk;cases hk with
      |stop hF=>
       obtain⟨e,a2,q,x⟩:=hF;cases e<;>simp[Tz,G] at x
      |step nx hst _ _=>
       have:=hst (λ_ _=>0) 0;simp[G,dC,stepG,stepG.exec,Frame.at] at this
    .exact step_ret hS hl'.inj hl1 hl'.wr (h.mono λi hv=>hv) hne hs hag'
  obtain⟨g',w',es',e1,e2,e3,e4,e5,e6,e7⟩:=res;obtain⟨o1,o2⟩:=hl'.rT (λi hi=>hag i) e3 e4 e5 e6 e7;exact⟨g',w',es',e1,hC.guar s w₁ w' es' o1,ce,o2 _ (hC.up s w₁ w'),e2,λb hb=>(GW b (Nat.lt_of_lt_of_le hb hsz0)).symm.trans (XC b hb),Nat.le_trans hsz0 e4⟩
end
end
section
open Go.Conc
open Go.ConcM (OsLater)
namespace aF
def vn:bh->Bool
 |.m=>true
 |_=>false
theorem A2 {n0:Nat}(h:0<n0)(r:bh):(gid n0 r==0)=vn r:=by cases r<;>simp[gid,vn];omega
structure Cx (Δ:Type) where
 Fd:Nat
 M:Nat
 Wg:Nat
 tF:TypeId
 tW:TypeId
 Dat:Δ->Δ->Obj->Prop
 fin:bh->Δ
 c0:bh->Δ
 N:bh->Nat
structure Gh (Δ:Type) where
 ro:Nat->Prop
 own:Nat->Prop
 mine:Δ
 other:Δ
section
variable {Δ:Type}(X:Cx Δ)
def mA:Addr:=⟨X.Fd,0,none⟩
def msA:Addr:=⟨X.Fd,1,none⟩
def wA:Addr:=⟨X.Wg,0,none⟩
def Kw:Addr:=⟨X.Wg,1,none⟩
def ShAt (w:World)(s:Sh):Prop:=w.heap[X.Fd]? =some (.cells #[.int .i32 s.mu,.int .u32 s.ms,.map (some X.M)] X.tF)/\w.heap[X.Wg]? =some (.cells #[.int .u64 s.wg,.int .u32 s.ws] X.tW)
def Bt (r:bh)(mine other:Δ)(o:Obj):Prop:=match r with
 |.a=>X.Dat mine other o
 |_=>X.Dat other mine o
structure RX (ro own:Nat->Prop)(w w₁:World):Prop where
 tape:w₁.tape=w.tape
 output:w₁.output=w.output
 size:w.heap.size<=w₁.heap.size
 os:OsLater w.os w₁.os
 keep:∀b,b<w.heap.size->own b\/ro b->w₁.heap[b]? =w.heap[b]?
 live:(∃s,ShAt X w s)->∃s,ShAt X w₁ s
def EvX (ro own:Nat->Prop)(n n':Nat)(e:Event):Prop:=
 (∃c,(own c\/(n<=c/\c<n')\/(ro c/\e.write=false))/\ll c e.loc)\/(e.loc= .cell ⟨X.Fd,2,none⟩/\e.write=false/\e.sync=false)\/∃m,e.loc= .mark m/\oN m
structure DX (deaf:Bool)(ro own:Nat->Prop)(w w':World)(es:Array Event):Prop where
 tape:w'.tape=w.tape
 output:w'.output=w.output
 size:w.heap.size<=w'.heap.size
 os:OsLater w.os w'.os
 keep:∀b,b<w.heap.size->¬own b->w'.heap[b]? =w.heap[b]?
 ev:∀e∈es,EvX X ro own w.heap.size w'.heap.size e
 mute:deaf=true->es=#[]
theorem RX.refl (ro own:Nat->Prop)(w:World):RX X ro own w w:=⟨rfl,rfl,Nat.le_refl _,.refl _,λ_ _ _=>rfl,id⟩
theorem RX.trans {ro own:Nat->Prop}{a b c:World}(h:RX X ro own a b)(k:RX X ro own b c):RX X ro own a c:=
 ⟨k.tape.trans h.tape,k.output.trans h.output,Nat.le_trans h.size k.size,h.os.trans k.os,λx hx ho=>(k.keep x (Nat.lt_of_lt_of_le hx h.size) ho).trans (h.keep x hx ho),λl=>k.live (h.live l)⟩
theorem RX.at (ro own:Nat->Prop)(w:World)(d:Nat):RX X ro own w (w.at d):=⟨rfl,rfl,Nat.le_refl _,.refl _,λ_ _ _=>rfl,id⟩
def eY (deaf:Bool)(ro:Nat->Prop):Co (Nat->Prop) where
 R:=λown w w₁=>RX X ro own w w₁
 D:=λown w w' es=>DX X deaf ro own w w' es
 up:=λown w w' b=>own b\/(w.heap.size<=b/\b<w'.heap.size)
 refl:=λown w=>RX.refl X ro own w
 trans:=λ_ _ _ _ h k=>h.trans X k
def fQ:Pc->Nat
 |.un|.out|.la|.ur|.ud|.wk|.k1|.g1|.k2|.g2|.kw|.aq|.fin|.bad=>0
 |_=>1
def eI (p:Pc):Bool:=decide (fQ p≠0)||p== .wk
inductive EvK where
 |dis|en|aef|aa2|aa1|aee|SP|SO|book
def jf (T T':Lo):EvK:=match T.pc with
 |.out=>if T'.pc= .l0 then .dis else .aa1
 |.le|.ue|.e1|.e2|.ke=> .en
 |.la=> .aef
 |.ur=> .aa2
 |.ud|.wk|.k1|.k2|.kw=> .dis
 |.aq=> .aee
 |.p1|.p2=> .SP
 |.pw=> .SO
 |_=> .book
def qg (m:Mark):Event:=⟨.mark m,false,true⟩
def EvStop (T T':Lo)(es:Array Event):Prop:=match jf T T' with
 |.dis=>es=#[qg .disable]
 |.en=>es=#[qg .enable]
 |.aef=>es=#[qg (.acquire (mA X))]
 |.aa2=>es=#[qg (.releaseMerge (mA X))]
 |.aa1=>es=#[qg (.releaseMerge (wA X))]
 |.aee=>es=#[qg (.acquire (wA X))]
 |.SP=>es=#[qg (.read (Kw X))]
 |.SO=>es=#[qg (.write (Kw X))]
 |.book=>ConcM.BookOK X.Fd X.Wg 1 1 es/\∀e∈es,∀a:Addr,e.loc= .cell a->a.block=X.Fd->a.off≠2
variable (P:Program)
def iU (pc:Pc)(own:Nat->Prop):Nat->Prop:=match pc with
 |.la=>λb=>own b\/b=X.M
 |.ur=>λb=>own b/\b≠X.M
 |_=>own
def dM (Nx:Lo->Gh Δ->Goroutine->World->Prop)(T':Lo)(γ:Gh Δ):(Nat->Prop)->Goroutine->World->Prop:=
 λown g w=>∃c,(T'.pc≠.ur->c=γ.mine)/\Nx T' {γ with own:=own,mine:=c} g w
def After (Nx:Lo->Gh Δ->Goroutine->World->Prop)(r:bh)(T':Lo)(γ:Gh Δ)(g:Goroutine)(w:World):Prop:=
 if T'.pc= .quit then ∃q,QuitsD P q 1 g else aD P (vn r) (eY X (eI T'.pc) γ.ro) (dM Nx T' γ) γ.own g w
def Zd (Nx:Lo->Gh Δ->Goroutine->World->Prop)(r:bh)(T:Lo)(γ:Gh Δ)(g:Goroutine)(w:World):Prop:=
 g.status= .running/\g.offers=none/\((T.pc= .us\/T.pc= .d4)->mayWake P g=true)/\
 (T.pc= .ur->∃o,w.heap[X.M]? =some o/\Bt X r γ.mine γ.other o)/\
 ∀s,ShAt X w s->s.fits->
  (mv T s=[]->stepG P (vn r) g w= .go {g with status:= .blocked} w #[])/\
  ∀d:Δ,(T.pc= .la->∃o,w.heap[X.M]? =some o/\Bt X r γ.mine d o)->mv T s≠[]->
   ∃q∈mv T s,q.1.pc≠.bad->(q.1.pc= .wk->γ.mine=X.fin r)/\∃g' w' es,stepG P (vn r) g w= .go g' w' es/\ShAt X w' q.2/\ConcM.Eff X.Fd X.Wg w w'/\EvStop X T q.1 es/\
    After X P Nx r q.1 {γ with own:=iU X T.pc γ.own,other:=if T.pc= .la then d else γ.other} g' w'
def Hy:Nat->bh->Lo->Gh Δ->Goroutine->World->Prop
 |0,_,_,_,_,_=>True
 |k+1,r,T,γ,g,w=>Zd X P (Hy k r) r T γ g w
def given (γ:Gh Δ):Gh Δ:={γ with ro:=λb=>γ.ro b\/γ.own b,own:=λ_=>False}
def eO:Pc->bh
 |.g1=> .a
 |_=> .b
def gZ:Pc->Lo
 |.g1=>at_ .k2 0
 |_=>at_ .kw 0
def OD (Nx:Lo->Gh Δ->Goroutine->World->Prop)(T:Lo)(γ:Gh Δ)(g:Goroutine)(w:World):Prop:=
 g.status= .running/\g.offers=none/\∃g' child,stepG P true g w= .spawn g' child w #[]/\
  (∀K,aD P false (eY X false (given γ).ro) (dM (Hy X P K (eO T.pc)) (at_ .out (X.N (eO T.pc))) {given γ with mine:=X.c0 (eO T.pc)}) (λ_=>False) child w)/\
  aD P true (eY X false (given γ).ro) (dM Nx (gZ T.pc) (given γ)) (λ_=>False) g' w
variable (Post:Gh Δ->Goroutine->World->Prop)
def TR (γ:Gh Δ)(g:Goroutine)(w:World):Prop:=
 g.status= .running/\g.offers=none/\∀o,w.heap[X.M]? =some o->X.Dat (X.fin .a) (X.fin .b) o->∃g',stepG P true g w= .go g' w #[qg (.acquire (wA X))]/\Post γ g' w
def zo:Nat->Lo->Gh Δ->Goroutine->World->Prop
 |0,_,_,_,_=>True
 |k+1,T,γ,g,w=>if T.pc= .g1\/T.pc= .g2 then OD X P (zo k) T γ g w else if T.pc= .aq then TR X P Post γ g w else Zd X P (zo k) .m T γ g w
def AtR (k:Nat):bh->Lo->Gh Δ->Goroutine->World->Prop
 |.m=>zo X P Post k
 |r=>Hy X P k r
end
section
variable {Δ:Type}{X:Cx Δ}{P:Program}{Post:Gh Δ->Goroutine->World->Prop}{r:bh}{k:Nat}{T:Lo}{γ:Gh Δ}{g:Goroutine}{w:World}
theorem AtR.running (h:AtR X P Post (k+1) r T γ g w):g.status= .running/\g.offers=none:=by
 cases r with
 |m=>
  have h':zo X P Post (k+1) T γ g w:=h;unfold zo at h';split at h'
  .exact⟨h'.1,h'.2.1⟩
  .split at h'
   .exact⟨h'.1,h'.2.1⟩
   .exact⟨h'.1,h'.2.1⟩
 |a=>exact⟨h.1,h.2.1⟩
 |b=>exact⟨h.1,h.2.1⟩
theorem AtR.law (h:AtR X P Post (k+1) r T γ g w)(hg:¬(T.pc= .g1\/T.pc= .g2))(ha:T.pc≠.aq):Zd X P (AtR X P Post k r) r T γ g w:=by
 cases r with
 |m=>
  have h':zo X P Post (k+1) T γ g w:=h;unfold zo at h';rw[if_neg hg,if_neg ha] at h';exact h'
 |a=>exact h
 |b=>exact h
end
def iX:Pc->Bool
 |.k1|.x1|.p1|.e1|.g1|.k2|.x2|.p2|.e2|.g2|.kw|.w1|.w2|.pw|.w3|.w4|.ke|.aq|.fin|.bad=>false
 |_=>true
def mI:Pc->Bool
 |.k1|.x1|.p1|.e1|.g1|.k2|.x2|.p2|.e2|.g2|.kw|.w1|.w2|.pw|.w3|.w4|.ke|.aq=>true
 |_=>false
def fv:Pc->Bool
 |.l0|.r0|.sq|.r1|.c2|.s1|.t2|.r2|.a1|.r3|.u0|.uc|.ul|.us=>true
 |_=>false
def jF:Pc->Bool
 |.d1|.d2|.d3|.d4=>true
 |_=>false
def kI:Pc->Bool
 |.le|.la|.ur|.ud|.ue|.wk|.k1|.p1|.e1|.k2|.p2|.e2|.kw|.pw|.ke=>true
 |_=>false
def kh:Pc->Bool
 |.x1|.x2|.w1|.w2|.w3|.w4=>true
 |_=>false
def lr:Pc->Nat
 |.le=>5|.la=>4|.ur=>3|.ud=>2|.u0=>1|.ue=>10|.out=>9|.wk=>8|.d1=>7
 |.k1=>4|.x1=>3|.p1=>3|.e1=>2|.g1=>1|.k2=>4|.x2=>3|.p2=>3|.e2=>2|.g2=>1|.kw=>2|.w1=>1|.pw=>2|.w3=>1|.ke=>3|.aq=>2|.fin=>1
 |_=>0
theorem C5 (p:Pc):lr p<=10:=by cases p<;>simp[lr]
def je (T:Lo)(n:Nat):Lo:={T with n:=n}
theorem acQ (T:Lo)(n:Nat):hd (je T n)=je (hd T) n:=by
 obtain⟨pc,old,nw,aw,sv,it,m⟩:=T;simp only[hd,apply_ite (λx=>je x n)];rfl
theorem adY (T:Lo)(n:Nat):cl (je T n)=je (cl T) n:=by
 obtain⟨pc,old,nw,aw,sv,it,m⟩:=T;simp only[cl,apply_ite (λx=>je x n)];rfl
theorem agD (T:Lo)(n:Nat):pm (je T n)=pm T:=by
 obtain⟨pc,old,nw,aw,sv,it,m⟩:=T;cases pc<;>rfl
theorem Dm (T:Lo):(hd T).pc= .c2\/(hd T).pc= .sq\/(hd T).pc= .bad:=by
 simp only[hd]
 (repeat' split)<;>simp
theorem Hh (T:Lo):(cl T).pc= .c2:=by
 simp only[cl]
 (repeat' split)<;>simp
theorem acP (T:Lo):(hd T).n=T.n:=by
 simp only[hd]
 (repeat' split)<;>simp
theorem adX (T:Lo):(cl T).n=T.n:=by
 simp only[cl]
 (repeat' split)<;>simp
theorem QH {T:Lo}{s:Sh}(hT:fv T.pc=true):mv T s=(mv (je (pm T) 1) ⟨s.mu,s.ms,0,0⟩).map (λq=>(je q.1 T.n,⟨q.2.mu,q.2.ms,s.wg,s.ws⟩)):=by
 obtain⟨pc,old,nw,aw,sv,it,n⟩:=T;obtain⟨mu,ms,wg,ws⟩:=s;have h1:∀(T:Lo),je (hd (je T 1)) n=hd (je T n):=λT=>by rw[acQ,acQ];rfl
 have h2:∀(T:Lo),je (cl (je T 1)) n=cl (je T n):=λT=>by rw[adY,adY];rfl
 cases pc<;>simp only[fv,Bool.false_eq_true] at hT
 case r0=>simpa [mv,pm,je] using(h1 {pc:= .r0,old:=mu}).symm
 case r1=>simpa [mv,pm,je] using(h1 {pc:= .r1,old:=mu,nw:=nw,aw:=aw,sv:=sv,it:=IntKind.i64.wrap (it+1)}).symm
 case r3=>simpa [mv,pm,je] using(h1 {pc:= .r3,old:=mu,nw:=nw,aw:=aw,sv:=sv,it:=it}).symm
 case sq=>
  have e:=(h2 {pc:= .sq,old:=old,nw:=nw,aw:=aw,sv:=sv,it:=it}).symm;simp only[je] at e;simp only[mv,pm,je]
  by_cases hi:it<4
  .simp[hi];exact e
  .simp[hi];exact e
 case a1=>
  by_cases hp:(mu=12/\nw=-11)\/(mu=20/\(nw=-7\/nw=-11))
  .have e1:mv ⟨.a1,old,nw,aw,sv,it,n⟩ ⟨mu,ms,wg,ws⟩=[(at_ .le n,⟨mu+nw,ms,wg,ws⟩)]:=if_pos hp
   have e2:mv (je (pm ⟨.a1,old,nw,aw,sv,it,n⟩) 1) ⟨mu,ms,0,0⟩=[(at_ .le 1,⟨mu+nw,ms,0,0⟩)]:=if_pos hp;exact e1.trans (by show _=List.map _ (mv (je (pm ⟨.a1,old,nw,aw,sv,it,n⟩) 1) ⟨mu,ms,0,0⟩);rw[e2];rfl)
  .have e1:mv ⟨.a1,old,nw,aw,sv,it,n⟩ ⟨mu,ms,wg,ws⟩=[(at_ .bad n,⟨mu,ms,wg,ws⟩)]:=if_neg hp
   have e2:mv (je (pm ⟨.a1,old,nw,aw,sv,it,n⟩) 1) ⟨mu,ms,0,0⟩=[(at_ .bad 1,⟨mu,ms,0,0⟩)]:=if_neg hp;exact e1.trans (by show _=List.map _ (mv (je (pm ⟨.a1,old,nw,aw,sv,it,n⟩) 1) ⟨mu,ms,0,0⟩);rw[e2];rfl)
 case r2=>
  have e:=(h1 {pc:= .r2,old:=mu,nw:=nw,aw:=true,sv:=sv,it:=0}).symm;simp only[je] at e;simp only[mv,pm,je]
  (repeat' split)<;>simp_all
 all_goals
  simp only[mv,pm,je]
  (repeat' split)<;>simp_all
theorem AY {T:Lo}{s:Sh}{q:Lo×Sh}(hT:fv T.pc=true)(h:q∈mv T s):q.1.pc≠.wk/\q.1.n=T.n/\(q.1.pc= .bad\/(iX q.1.pc=true/\pw q.1={pc:= .out})):=by
 have hh:=Dm;have hc:=Hh;have hn:=acP;have cn:=adX;have pwh:∀T,(hd T).pc= .bad\/(iX (hd T).pc=true/\pw (hd T)={pc:= .out}):=λT=>by
  rcases hh T with e|e|e
  .exact .inr ⟨by rw[e];rfl,by unfold pw;rw[e]⟩
  .exact .inr ⟨by rw[e];rfl,by unfold pw;rw[e]⟩
  .exact .inl e
 have hw:∀T,(hd T).pc≠.wk:=λT=>by rcases hh T with e|e|e<;>rw[e]<;>simp
 have pwc:∀T,iX (cl T).pc=true/\pw (cl T)={pc:= .out}:=λT=>⟨by rw[hc T];rfl,by unfold pw;rw[hc T]⟩
 obtain⟨pc,old,nw,aw,sv,it,n⟩:=T;obtain⟨mu,ms,wg,ws⟩:=s;cases pc<;>simp only[fv,Bool.false_eq_true] at hT<;>simp only[mv] at h
 case r0=>simp only[List.mem_singleton] at h;subst h;exact⟨hw _,hn _,pwh _⟩
 case r1=>simp only[List.mem_singleton] at h;subst h;exact⟨hw _,hn _,pwh _⟩
 case r3=>simp only[List.mem_singleton] at h;subst h;exact⟨hw _,hn _,pwh _⟩
 case sq=>
  rcases List.mem_cons.1 h with rfl|h
  .exact⟨by rw[hc];simp,cn _,.inr (pwc _)⟩
  .split at h
   .simp only[List.mem_singleton] at h;subst h;exact⟨by simp,rfl,.inr ⟨rfl,rfl⟩⟩
   .simp at h
 case r2=>
  split at h
  .simp only[List.mem_singleton] at h;subst h;exact⟨hw _,hn _,pwh _⟩
  ·(repeat' split at h)<;>simp only[List.mem_singleton] at h<;>subst h<;>simp[iX,pw]
 all_goals ((repeat' split at h)<;>simp only[List.mem_cons,List.not_mem_nil,or_false] at h<;>first|contradiction|(obtain rfl:=h;simp[iX,pw];done)|(obtain rfl:=h;simp[iX,pw];split<;>simp)|(rcases h with rfl|rfl<;>simp[iX,pw]))
theorem vI {T:Lo}{s:Sh}{q:Lo×Sh}(hT:fv T.pc=true)(h:q∈mv T s):(pm q.1,q.2.mu,q.2.ms)∈yx (pm T) s.mu s.ms/\q.2.wg=s.wg/\q.2.ws=s.ws:=by
 have hpc:=(AY hT h).1;rw[QH hT] at h;obtain⟨q0,h0,rfl⟩:=List.mem_map.1 h;refine⟨List.mem_map.2 ⟨q0,List.mem_filter.2 ⟨h0,by simpa [je] using hpc⟩,by rw[agD]⟩,rfl,rfl⟩
theorem GF {T:Lo}(hT:fv T.pc=true):pw T={pc:= .out}:=by
 unfold pw;cases hp:T.pc<;>rw[hp] at hT<;>simp[fv] at hT<;>rfl
theorem vH {T:Lo}{s:Sh}{q:Lo×Sh}(hT:jF T.pc=true)(h:q∈mv T s):(pw q.1,q.2.wg,q.2.ws)∈S4 (pw T) s.wg s.ws/\q.2.mu=s.mu/\q.2.ms=s.ms/\q.1.n=T.n/\(q.1.pc= .bad\/(iX q.1.pc=true/\pm q.1=pm T/\lr q.1.pc<=lr T.pc)):=by
 obtain⟨pc,old,nw,aw,sv,it,n⟩:=T;obtain⟨mu,ms,wg,ws⟩:=s;cases pc<;>simp only[jF,Bool.false_eq_true] at hT<;>simp only[mv] at h<;>simp only[pw,S4,gw,mv]
 all_goals ((repeat' split at h)<;>simp only[List.mem_singleton] at h<;>subst h<;>simp_all [iX,pm,pw,lr])
theorem GO {T:Lo}{s:Sh}{q:Lo×Sh}(hT:kh T.pc=true)(h:q∈mv T s):(p0 q.1,q.2.wg,q.2.ws)∈mv0 (p0 T) s.wg s.ws/\q.2.mu=s.mu/\q.2.ms=s.ms/\(q.1.pc= .bad\/mI q.1.pc=true):=by
 obtain⟨pc,old,nw,aw,sv,it,n⟩:=T;obtain⟨mu,ms,wg,ws⟩:=s;cases pc<;>simp only[kh,Bool.false_eq_true] at hT<;>simp only[mv] at h<;>simp only[p0,mv0,mv]
 all_goals ((repeat' split at h)<;>simp only[List.mem_singleton,List.not_mem_nil] at h<;>first|(subst h;simp_all [mI,p0])|contradiction)
theorem rZ {T:Lo}{s:Sh}{q:Lo×Sh}(hT:kI T.pc=true)(h:q∈mv T s):q.2=s/\(iX T.pc=true->pm q.1=pm T)/\pw q.1=pw T/\p0 q.1=p0 T/\lr q.1.pc<lr T.pc/\iX q.1.pc=iX T.pc/\mI q.1.pc=mI T.pc/\q.1.pc≠.bad/\(iX T.pc=true->q.1.n=T.n):=by
 obtain⟨pc,old,nw,aw,sv,it,n⟩:=T;cases pc<;>simp only[kI,Bool.false_eq_true] at hT<;>simp only[mv,List.mem_singleton] at h<;>subst h<;>simp[pm,pw,p0,lr,iX,mI]
def nT (L:bh->Lo)(r1 r2:Nat):Nat:=((L .a).n+(L .b).n)*1400+(r1+r2)*32+(lr (L .m).pc+lr (L .a).pc+lr (L .b).pc)
def upd {α:Type}(L:bh->α)(r:bh)(x:α):bh->α:=λy=>if y=r then x else L y
theorem upd_same {α:Type}(L:bh->α)(r:bh)(x:α):upd L r x r=x:=by simp[upd]
theorem upd_ne {α:Type}(L:bh->α){r y:bh}(x:α)(h:y≠r):upd L r x y=L y:=by simp[upd,h]
structure vv (L:bh->Lo)(s:Sh)(r1 r2:Nat):Prop where
 Zy:Ku ⟨pm (L .a),pm (L .b),s.mu,s.ms⟩ r1
 lm:r1<27
 QW:OX ⟨p0 (L .m),pw (L .a),pw (L .b),s.wg,s.ws⟩ r2
 st:mI (L .m).pc=true
 wa:iX (L .a).pc=true
 wb:iX (L .b).pc=true
section
variable {L:bh->Lo}{s:Sh}{r1 r2:Nat}{q:Lo×Sh}
theorem vv.Wv (h:vv L s r1 r2)(hq:q∈mv (L .a) s)(hu:(L .a).pc≠.un):q.1.pc≠.bad/\∃r1' r2',vv (upd L .a q.1) q.2 r1' r2'/\nT (upd L .a q.1) r1' r2'<nT L r1 r2:=by
 have hl:=C5 q.1.pc;have hw:=h.wa;obtain⟨hM,hl1,hG,hst,yz,hwb⟩:=h;have nR:∀r1' r2',nT (upd L .a q.1) r1' r2'=(q.1.n+(L .b).n)*1400+(r1'+r2')*32+(lr (L .m).pc+lr q.1.pc+lr (L .b).pc):=λr1' r2'=>by simp[nT,upd]<;>omega
 have lF:nT L r1 r2=((L .a).n+(L .b).n)*1400+(r1+r2)*32+(lr (L .m).pc+lr (L .a).pc+lr (L .b).pc):=by simp[nT]<;>omega
 have FM:=hM.facts;have FG:=hG.facts
 by_cases c1:kI (L .a).pc=true
 .obtain⟨e0,e1,e2,_,e4,e5,_,e7,e8⟩:=rZ c1 hq
  have e1:=e1 hw;have e8:=e8 hw;refine⟨e7,r1,r2,⟨?_,hl1,?_,by simpa [upd] using hst,?_,?_⟩,by rw[nR,lF,e8];omega⟩
  .simp[upd,e0,e1];exact hM
  .simp[upd,e0,e2];exact hG
  .simp[upd,e5,hw,yz]
  .simp[upd,e5,hw,hwb]
 by_cases c2:fv (L .a).pc=true
 .obtain⟨m1,m2,m3⟩:=vI c2 hq
  obtain⟨_,n1,n2⟩:=AY c2 hq;obtain⟨r1',i1,i2,i3⟩:=hM.SL m1;have hnb:q.1.pc≠.bad:=λe=>by
   have:=FM.noA _ m1
   apply this
   simp[pm,e]
  obtain⟨w1,w2⟩:=n2.resolve_left hnb;have hlt:r1'<r1:=i2.resolve_left (λe=>by
   have e:(pm (L .a)).pc= .out:=e
   revert e
   cases hp:(L .a).pc<;>rw[hp] at c2<;>simp[fv] at c2<;>simp[pm,hp])
  refine⟨hnb,r1',r2,⟨?_,i3,?_,by simpa [upd] using hst,?_,?_⟩,by rw[nR,lF,n1];have:=C5 (L .a).pc;omega⟩
  .simp[upd];exact i1
  .rw[GF c2] at hG
   simp[upd,m2,m3,w2];exact hG
  .simp[upd,w1,yz]
  .simp[upd,w1,hwb]
 by_cases c3:jF (L .a).pc=true
 .obtain⟨m1,m2,m3,m4,m5⟩:=vH c3 hq
  obtain⟨r2',i1,i2⟩:=hG.step (H:=⟨p0 (L .m),pw q.1,pw (L .b),q.2.wg,q.2.ws⟩) (by
   unfold GG.succs;exact List.mem_append_left _ (List.mem_append_right _ (List.mem_map.2 ⟨_,m1,rfl⟩)))
  have hnb:q.1.pc≠.bad:=λe=>by
   have:=(FG.no ⟨p0 (L .m),pw q.1,pw (L .b),q.2.wg,q.2.ws⟩ (by
    unfold GG.succs;exact List.mem_append_left _ (List.mem_append_right _ (List.mem_map.2 ⟨_,m1,rfl⟩)))).2.1
   apply this
   simp[pw,e]
  obtain⟨w1,w2,w3⟩:=m5.resolve_left hnb;refine⟨hnb,r1,r2',⟨?_,hl1,?_,by simpa [upd] using hst,?_,?_⟩,by rw[nR,lF,m4];omega⟩
  .simp[upd,m2,m3,w2];exact hM
  .simp[upd];exact i1
  .simp[upd,w1,yz]
  .simp[upd,w1,hwb]
 .have ho:(L .a).pc= .out\/(L .a).pc= .quit:=by
   revert c1 c2 c3 hw hu
   cases (L .a).pc<;>simp[kI,fv,jF,iX]
  rcases ho with ho|ho
  .have YK:pm (L .a)={pc:= .out}:=by simp[pm,ho]
   have epw:pw (L .a)={pc:= .out}:=by simp[pw,ho]
   rw[YK] at hM;rw[epw] at hG;simp only[mv,ho] at hq;rcases List.mem_cons.1 hq with rfl|hq
   .refine⟨by simp,r1,r2,⟨?_,hl1,?_,by simpa [upd] using hst,?_,?_⟩,by rw[nR,lF,ho];simp[lr]⟩
    .simp[upd,pm];exact hM
    .simp[upd,pw];exact hG
    .first|(simp[upd];done)|(simp[upd];first|exact yz|exact hwb|rfl)
    .first|(simp[upd];done)|(simp[upd];first|exact yz|exact hwb|rfl)
   .split at hq
    .rename_i hn
     simp only[List.mem_singleton] at hq;subst hq;obtain⟨r1',i1,_,i3⟩:=hM.SL (q:=({pc:= .l0},s.mu,s.ms)) (by simp[yx,mv,pm]);refine⟨by simp,r1',r2,⟨?_,i3,?_,by simpa [upd] using hst,?_,?_⟩,by rw[nR,lF,ho];simp[lr];omega⟩
     .simp[upd,pm];exact i1
     .simp[upd,pw];exact hG
     .first|(simp[upd];done)|(simp[upd];first|exact yz|exact hwb|rfl)
     .first|(simp[upd];done)|(simp[upd];first|exact yz|exact hwb|rfl)
    .simp at hq
  .simp[mv,ho] at hq
theorem vv.Wu (h:vv L s r1 r2)(hq:q∈mv (L .b) s)(hu:(L .b).pc≠.un):q.1.pc≠.bad/\∃r1' r2',vv (upd L .b q.1) q.2 r1' r2'/\nT (upd L .b q.1) r1' r2'<nT L r1 r2:=by
 have hl:=C5 q.1.pc;have hw:=h.wb;obtain⟨hM,hl1,hG,hst,yz,hwb⟩:=h;have nR:∀r1' r2',nT (upd L .b q.1) r1' r2'=(q.1.n+(L .a).n)*1400+(r1'+r2')*32+(lr (L .m).pc+lr q.1.pc+lr (L .a).pc):=λr1' r2'=>by simp[nT,upd]<;>omega
 have lF:nT L r1 r2=((L .b).n+(L .a).n)*1400+(r1+r2)*32+(lr (L .m).pc+lr (L .b).pc+lr (L .a).pc):=by simp[nT]<;>omega
 have FM:=hM.facts;have FG:=hG.facts
 by_cases c1:kI (L .b).pc=true
 .obtain⟨e0,e1,e2,_,e4,e5,_,e7,e8⟩:=rZ c1 hq
  have e1:=e1 hw;have e8:=e8 hw;refine⟨e7,r1,r2,⟨?_,hl1,?_,by simpa [upd] using hst,?_,?_⟩,by rw[nR,lF,e8];omega⟩
  .simp[upd,e0,e1];exact hM
  .simp[upd,e0,e2];exact hG
  .simp[upd,e5,hw,yz]
  .simp[upd,e5,hw,hwb]
 by_cases c2:fv (L .b).pc=true
 .obtain⟨m1,m2,m3⟩:=vI c2 hq
  obtain⟨_,n1,n2⟩:=AY c2 hq;obtain⟨r1',i1,i2,i3⟩:=hM.SK m1;have hnb:q.1.pc≠.bad:=λe=>by
   have:=FM.noB _ m1
   apply this
   simp[pm,e]
  obtain⟨w1,w2⟩:=n2.resolve_left hnb;have hlt:r1'<r1:=i2.resolve_left (λe=>by
   have e:(pm (L .b)).pc= .out:=e
   revert e
   cases hp:(L .b).pc<;>rw[hp] at c2<;>simp[fv] at c2<;>simp[pm,hp])
  refine⟨hnb,r1',r2,⟨?_,i3,?_,by simpa [upd] using hst,?_,?_⟩,by rw[nR,lF,n1];have:=C5 (L .b).pc;omega⟩
  .simp[upd];exact i1
  .rw[GF c2] at hG
   simp[upd,m2,m3,w2];exact hG
  .simp[upd,w1,yz]
  .simp[upd,w1,hwb]
 by_cases c3:jF (L .b).pc=true
 .obtain⟨m1,m2,m3,m4,m5⟩:=vH c3 hq
  obtain⟨r2',i1,i2⟩:=hG.step (H:=⟨p0 (L .m),pw (L .a),pw q.1,q.2.wg,q.2.ws⟩) (by
   unfold GG.succs;exact List.mem_append_right _ (List.mem_map.2 ⟨_,m1,rfl⟩))
  have hnb:q.1.pc≠.bad:=λe=>by
   have:=(FG.no ⟨p0 (L .m),pw (L .a),pw q.1,q.2.wg,q.2.ws⟩ (by
    unfold GG.succs;exact List.mem_append_right _ (List.mem_map.2 ⟨_,m1,rfl⟩))).2.2
   apply this
   simp[pw,e]
  obtain⟨w1,w2,w3⟩:=m5.resolve_left hnb;refine⟨hnb,r1,r2',⟨?_,hl1,?_,by simpa [upd] using hst,?_,?_⟩,by rw[nR,lF,m4];omega⟩
  .simp[upd,m2,m3,w2];exact hM
  .simp[upd];exact i1
  .simp[upd,w1,yz]
  .simp[upd,w1,hwb]
 .have ho:(L .b).pc= .out\/(L .b).pc= .quit:=by
   revert c1 c2 c3 hw hu
   cases (L .b).pc<;>simp[kI,fv,jF,iX]
  rcases ho with ho|ho
  .have YK:pm (L .b)={pc:= .out}:=by simp[pm,ho]
   have epw:pw (L .b)={pc:= .out}:=by simp[pw,ho]
   rw[YK] at hM;rw[epw] at hG;simp only[mv,ho] at hq;rcases List.mem_cons.1 hq with rfl|hq
   .refine⟨by simp,r1,r2,⟨?_,hl1,?_,by simpa [upd] using hst,?_,?_⟩,by rw[nR,lF,ho];simp[lr]⟩
    .simp[upd,pm];exact hM
    .simp[upd,pw];exact hG
    .first|(simp[upd];done)|(simp[upd];first|exact yz|exact hwb|rfl)
    .first|(simp[upd];done)|(simp[upd];first|exact yz|exact hwb|rfl)
   .split at hq
    .rename_i hn
     simp only[List.mem_singleton] at hq;subst hq;obtain⟨r1',i1,_,i3⟩:=hM.SK (q:=({pc:= .l0},s.mu,s.ms)) (by simp[yx,mv,pm]);refine⟨by simp,r1',r2,⟨?_,i3,?_,by simpa [upd] using hst,?_,?_⟩,by rw[nR,lF,ho];simp[lr];omega⟩
     .simp[upd,pm];exact i1
     .simp[upd,pw];exact hG
     .first|(simp[upd];done)|(simp[upd];first|exact yz|exact hwb|rfl)
     .first|(simp[upd];done)|(simp[upd];first|exact yz|exact hwb|rfl)
    .simp at hq
  .simp[mv,ho] at hq
theorem vv.Wt (h:vv L s r1 r2)(hq:q∈mv (L .m) s):q.1.pc≠.bad/\∃r1' r2',vv (upd L .m q.1) q.2 r1' r2'/\nT (upd L .m q.1) r1' r2'<nT L r1 r2:=by
 have hl:=C5 q.1.pc;obtain⟨hM,hl1,hG,hst,yz,hwb⟩:=h;have nR:∀r1' r2',nT (upd L .m q.1) r1' r2'=((L .a).n+(L .b).n)*1400+(r1'+r2')*32+(lr q.1.pc+lr (L .a).pc+lr (L .b).pc):=λr1' r2'=>by simp[nT,upd]
 have lF:nT L r1 r2=((L .a).n+(L .b).n)*1400+(r1+r2)*32+(lr (L .m).pc+lr (L .a).pc+lr (L .b).pc):=rfl;have FG:=hG.facts
 by_cases c1:kI (L .m).pc=true
 .obtain⟨e0,_,_,e3,e4,_,e6,e7,_⟩:=rZ c1 hq
  refine⟨e7,r1,r2,⟨?_,hl1,?_,?_,?_,?_⟩,by rw[nR,lF];omega⟩
  .simp[upd,e0];exact hM
  .simp[upd,e0,e3];exact hG
  .simp[upd,e6,hst]
  .simp[upd,yz]
  .simp[upd,hwb]
 by_cases c2:kh (L .m).pc=true
 .obtain⟨m1,m2,m3,m5⟩:=GO c2 hq
  have hm:(⟨p0 q.1,pw (L .a),pw (L .b),q.2.wg,q.2.ws⟩:GG)∈GG.succs ⟨p0 (L .m),pw (L .a),pw (L .b),s.wg,s.ws⟩:=by
   unfold GG.succs;exact List.mem_append_left _ (List.mem_append_left _ (List.mem_append_right _ (List.mem_map.2 ⟨_,m1,rfl⟩)))
  obtain⟨r2',i1,i2⟩:=hG.step hm;have hnb:q.1.pc≠.bad:=λe=>by
   have:=(FG.no _ hm).1
   apply this
   simp[p0,e]
  refine⟨hnb,r1,r2',⟨?_,hl1,?_,?_,?_,?_⟩,by rw[nR,lF];omega⟩
  .simp[upd,m2,m3];exact hM
  .simp[upd];exact i1
  .simp[upd,m5.resolve_left hnb]
  .simp[upd,yz]
  .simp[upd,hwb]
 .exfalso
  revert c1 c2 hst hq
  cases hp:(L .m).pc<;>simp[kI,kh,mI,mv,hp]
theorem vv.move (h:vv L s r1 r2){r:bh}(hq:q∈mv (L r) s)(hu:(L r).pc≠.un):q.1.pc≠.bad/\∃r1' r2',vv (upd L r q.1) q.2 r1' r2'/\nT (upd L r q.1) r1' r2'<nT L r1 r2:=by
 cases r with
 |m=>exact h.Wt hq
 |a=>exact h.Wv hq hu
 |b=>exact h.Wu hq hu
theorem vv.fits (h:vv L s r1 r2):s.fits:=⟨h.Zy.facts.fits.1,h.Zy.facts.fits.2.1,h.QW.facts.fits.2.2.1,h.QW.facts.fits.2.2.2⟩
theorem vv.go {N:Nat}(h:vv L s r1 r2)(hg:(L .m).pc= .g1\/(L .m).pc= .g2)(hn:(L (eO (L .m).pc)).n=N):
  (L (eO (L .m).pc)).pc= .un/\∃r2',vv (upd (upd L .m (gZ (L .m).pc)) (eO (L .m).pc) (at_ .out N)) s r1 r2'/\nT (upd (upd L .m (gZ (L .m).pc)) (eO (L .m).pc) (at_ .out N)) r1 r2'<nT L r1 r2:=by
 obtain⟨hM,hl1,hG,hst,yz,hwb⟩:=h;have FG:=hG.facts;have SG:∀T:Lo,(pw T).pc= .un->T.pc= .un:=λT=>by cases hp:T.pc<;>simp[pw,hp]
 rcases hg with hg|hg
 .have e0:p0 (L .m)={pc:= .g1}:=by simp[p0,hg]
  rw[e0] at hG FG;have ha:(L .a).pc= .un:=SG _ (FG.Z9 (.inr rfl)).1;have YK:pm (L .a)={pc:= .out}:=by simp[pm,ha]
  have epw:pw (L .a)={pc:= .un}:=by simp[pw,ha]
  have hc:eO (L .m).pc= .a:=by rw[hg];rfl
  rw[hc] at hn⊢;have hb:gZ (L .m).pc=at_ .k2 0:=by rw[hg];rfl
  rw[hb];rw[YK] at hM;obtain⟨r2',i1,i2⟩:=hG.step (H:=⟨{pc:= .x2},{pc:= .out},pw (L .b),s.wg,s.ws⟩) (by unfold GG.succs;simp);refine⟨ha,r2',⟨?_,hl1,?_,?_,?_,?_⟩,?_⟩
  .simp[upd,pm];exact hM
  .simp[upd,pw,p0];exact i1
  .first|(simp[upd];done)|(simp[upd];rfl)
  .first|(simp[upd];done)|(simp[upd];first|exact yz|exact hwb|rfl)
  .simp[upd,hwb]
  .simp[nT,upd,lr,hg,ha,hn];omega
 .have e0:p0 (L .m)={pc:= .g2}:=by simp[p0,hg]
  rw[e0] at hG FG;have ha:(L .b).pc= .un:=SG _ (FG.Z8 (.inr rfl)).2;have YK:pm (L .b)={pc:= .out}:=by simp[pm,ha]
  have epw:pw (L .b)={pc:= .un}:=by simp[pw,ha]
  have hc:eO (L .m).pc= .b:=by rw[hg];rfl
  rw[hc] at hn⊢;have hb:gZ (L .m).pc=at_ .kw 0:=by rw[hg];rfl
  rw[hb];rw[YK] at hM;obtain⟨r2',i1,i2⟩:=hG.step (H:=⟨{pc:= .w1},pw (L .a),{pc:= .out},s.wg,s.ws⟩) (by unfold GG.succs;simp);refine⟨ha,r2',⟨?_,hl1,?_,?_,?_,?_⟩,?_⟩
  .simp[upd,pm];exact hM
  .simp[upd,pw,p0];exact i1
  .first|(simp[upd];done)|(simp[upd];rfl)
  .simp[upd,yz]
  .first|(simp[upd];done)|(simp[upd];first|exact yz|exact hwb|rfl)
  .simp[nT,upd,lr,hg,ha,hn];omega
end
def born (L:bh->Lo)(r:bh):Prop:=(L r).pc≠.un
instance (L:bh->Lo)(r:bh):Decidable (born L r):=by unfold born;infer_instance
def nb (L:bh->Lo):Nat:=(if(L .a).pc= .un then 0 else 1)+(if(L .b).pc= .un then 0 else 1)
def Lo.sleeps (T:Lo)(s:Sh):Bool:=(T.pc== .s1&&s.ms==0)||(T.pc== .w3&&s.ws==0)
def past:Pc->Bool
 |.wk|.d1|.d2|.d3|.d4|.quit=>true
 |_=>false
def L8:bh->bh
 |.a=> .b
 |_=> .a
def hold (L:bh->Lo):Option bh:=if(L .a).pc= .ur then some .a else if(L .b).pc= .ur then some .b else none
section
variable {Δ:Type}(X:Cx Δ)(P:Program)(Post:Gh Δ->Goroutine->World->Prop)
def Sit (k:Nat)(r:bh)(T:Lo)(γ:Gh Δ)(ρ:Rk)(aw d q:Nat)(s:Sh)(g:Goroutine)(w:World):Prop:=
 (T.pc≠.quit/\d=fQ T.pc/\aw=1/\gB P (vn r) (eY X (eI T.pc) γ.ro) (dM (AtR X P Post k r) T γ) ρ γ.own g w)\/
 (T.pc≠.quit/\d=fQ T.pc/\aw=0/\T.sleeps s=true/\∃g₀,g={g₀ with status:= .blocked}/\∀w₁,RX X γ.ro γ.own w w₁->dM (AtR X P Post k r) T γ γ.own g₀ w₁)\/
 (T.pc= .quit/\aw=0/\QuitsD P q d g)
end
section
variable {Δ:Type}{X:Cx Δ}{P:Program}{Post:Gh Δ->Goroutine->World->Prop}{k:Nat}{r:bh}{T:Lo}{γ:Gh Δ}{ρ:Rk}{aw d q:Nat}{s s':Sh}{g x x':Goroutine}{w w₁:World}
theorem iM {own:Nat->Prop}(h:dM (AtR X P Post (k+1) r) T γ own g w):g.status= .running/\g.offers=none:=let⟨_,_,h⟩:=h;h.running
theorem iW {b:Bool}{own:Nat->Prop}(h:gB P (vn r) (eY X b γ.ro) (dM (AtR X P Post (k+1) r) T γ) ρ own g w):g.status= .running:=by
 cases ρ with
 |zero=>exact(iM (h w (RX.refl X _ _ w))).1
 |mk f=>exact h.elim (λh=>(iM (h w (RX.refl X _ _ w))).1) λh=>h.1
theorem xy {b:Bool}{S:(Nat->Prop)->Goroutine->World->Prop}{own:Nat->Prop}(h:∀w₁,RX X γ.ro own w w₁->S own g w₁):gB P (vn r) (eY X b γ.ro) S ρ own g w:=by
 cases ρ with
 |zero=>exact h
 |mk f=>exact .inl h
theorem Sit.status (h:Sit X P Post (k+1) r T γ ρ aw d q s g w):g.status= .running\/g.status= .blocked\/g.status= .finished:=by
 rcases h with⟨_,_,_,hg⟩|⟨_,_,_,_,g₀,rfl,_⟩|⟨_,_,hq⟩
 .exact .inl (iW hg)
 .exact .inr (.inl rfl)
 .exact hq.status.elim .inl λx=> .inr (.inr x)
theorem Sit.other (h:Sit X P Post (k+1) r T γ ρ aw d q s g w)(hr:RX X γ.ro γ.own w w₁)(hw:T.sleeps s=true->T.sleeps s'=true\/(mayWake P x=true/\x'.status= .running)):
  ∃aw',Sit X P Post (k+1) r T γ ρ aw' d q s' (woken P x x' w₁ g) w₁:=by
 rcases h with⟨h1,h2,h3,hg⟩|⟨h1,h2,h3,h4,g₀,rfl,hg⟩|⟨h1,h2,hq⟩
 .refine⟨1,.inl ⟨h1,h2,rfl,?_⟩⟩
  have:woken P x x' w₁ g=g:=by unfold woken;split;exact again_running _ (.inl (iW hg));rfl
  rw[this];exact hg.rely hr
 .have hst:=hg w₁ hr
  have hg':∀w₂,RX X γ.ro γ.own w₁ w₂->dM (AtR X P Post (k+1) r) T γ γ.own g₀ w₂:=λw₂ h₂=>hg w₂ (hr.trans X h₂)
  by_cases hc:(mayWake P x&&x'.status != .blocked&&x'.status != .waiting)=true
  .refine⟨1,.inl ⟨h1,h2,rfl,?_⟩⟩
   have:woken P x x' w₁ {g₀ with status:= .blocked}=g₀:=by unfold woken;rw[if_pos hc];exact ConcR.again_blocked (iM hst).1 (iM hst).2 _
   rw[this];exact xy hg'
  .have:woken P x x' w₁ {g₀ with status:= .blocked}={g₀ with status:= .blocked}:=by unfold woken;rw[if_neg hc]
   rw[this];rcases hw h4 with h5|⟨h5,h6⟩
   .exact⟨0,.inr (.inl ⟨h1,h2,rfl,h5,g₀,rfl,hg'⟩)⟩
   .exact absurd (by simp[h5,h6]) hc
 .exact⟨0,.inr (.inr ⟨h1,rfl,by rw[woken_quitsD hq];exact hq⟩)⟩
theorem Sit.rely (h:Sit X P Post (k+1) r T γ ρ aw d q s g w)(hr:RX X γ.ro γ.own w w₁):Sit X P Post (k+1) r T γ ρ aw d q s g w₁:=by
 rcases h with⟨h1,h2,h3,hg⟩|⟨h1,h2,h3,h4,g₀,rfl,hg⟩|h
 .exact .inl ⟨h1,h2,h3,hg.rely hr⟩
 .exact .inr (.inl ⟨h1,h2,h3,h4,g₀,rfl,λw₂ h₂=>hg w₂ (hr.trans X h₂)⟩)
 .exact .inr (.inr h)
end
section
variable {Δ:Type}(X:Cx Δ)(S0:Nat->Prop)
def yC (l:Loc):Prop:=∃a:Addr,l= .cell a/\(S0 a.block\/a.block=X.Wg\/(a.block=X.Fd/\a.off≠2))
def OC (γ:bh->Gh Δ)(L:bh->Lo)(r:bh)(l:Loc):Prop:=born L r/\((∃c,(γ r).ro c/\ll c l)\/∃sp,l= .cell ⟨X.Fd,2,sp⟩)
structure Lay (γ:bh->Gh Δ)(L:bh->Lo)(B:Nat):Prop where
 sp:∀r c,(γ r).own c\/(γ r).ro c->c≠X.Fd/\c≠X.Wg/\¬S0 c/\c<B
 Zs:∀r,¬(γ r).ro X.M
 vg:∀r,(γ r).own X.M↔(L r).pc= .ur
 apart:∀r r' c,(γ r).own c->(γ r').own c->r=r'
 zM:∀r r' c,(γ r).own c->¬(γ r').ro c
 lv:∀r c,(γ r).own c\/(γ r).ro c->born L r
 fm:X.Fd≠X.M
 fw:X.Fd≠X.Wg
 mw:X.M≠X.Wg
 s0:∀c,S0 c->c<B/\c≠X.Fd/\c≠X.M/\c≠X.Wg
 vl:X.Fd<B
 AX:X.M<B
 tI:X.Wg<B
end
section
variable {Δ:Type}{X:Cx Δ}{S0:Nat->Prop}{γ:bh->Gh Δ}{L:bh->Lo}{B:Nat}
theorem Gt {l:Loc}(h:yC X S0 l):l.isMemory=true:=by obtain⟨a,rfl,_⟩:=h;rfl
theorem kX {c:Nat}{a:Addr}(h:ll c (.cell a)):a.block=c:=by
 rcases h with⟨a',e,h⟩|h
 .cases e;exact h
 .cases h
theorem Lay.ap (h:Lay X S0 γ L B)(hx:¬((L .a).pc= .ur/\(L .b).pc= .ur))(hm:(L .m).pc≠.ur):Ap (yC X S0) (OC X γ L) (born L) (λr=>(γ r).own) X.M (hold L) B:=by
 have GL:∀c l,c≠X.Fd->c≠X.Wg->¬S0 c->ll c l->¬yC X S0 l:=λc l h1 h2 h3 hb ⟨a,e,ha⟩=>by
  subst e;have:=kX hb;subst this;rcases ha with ha|ha|ha
  .exact h3 ha
  .exact h2 ha
  .exact h1 ha.1
 have Me:∀r c l,(∀r',¬(γ r').ro c)->c≠X.Fd->ll c l->¬OC X γ L r l:=λr c l h1 h2 hb ⟨_,hr⟩=>by
  rcases hr with⟨c',h3,hb'⟩|⟨sp,e⟩
  .exact h1 r (ll.uniq hb hb'▸h3)
  .subst e
   exact h2 (kX hb).symm
 refine⟨λr c l ho hb=>?_,λr c l r' ho hb=>?_,h.apart,λr l hr hs=>?_,λl hb=>⟨?_,λr=>?_⟩,λr ho=>?_,λr c ho=>h.lv r c (.inl ho),λc l hb hc=>⟨?_,λr=>?_⟩,h.AX,λr c ho=>(h.sp r c (.inl ho)).2.2.2,λl=>Gt,λr l hr=>?_⟩
 .obtain⟨a1,a2,a3,_⟩:=h.sp r c (.inl ho)
  exact GL c l a1 a2 a3 hb
 .obtain⟨a1,a2,a3,_⟩:=h.sp r c (.inl ho)
  exact Me r' c l (λr''=>h.zM r r'' c ho) a1 hb
 .rcases hr.2 with⟨c,h3,hb⟩|⟨sp,e⟩
  .obtain⟨a1,a2,a3,_⟩:=h.sp r c (.inr h3)
   exact GL c l a1 a2 a3 hb hs
  .subst e
   obtain⟨a,e,ha⟩:=hs;cases e;rcases ha with ha|ha|ha
   .exact(h.s0 _ ha).2.1 rfl
   .exact h.fw ha
   .exact ha.2 rfl
 .exact GL X.M l (λe=>h.fm e.symm) h.mw (λe=>(h.s0 _ e).2.2.1 rfl) hb
 .exact Me r X.M l h.Zs (λe=>h.fm e.symm) hb
 .have hu:=(h.vg r).1 ho
  unfold hold;cases r with
  |m=>exact absurd hu hm
  |a=>rw[if_pos hu]
  |b=>rw[if_neg λe=>hx ⟨e,hu⟩,if_pos hu]
 .refine GL c l (λe=>?_) (λe=>?_) (λe=>?_) hb
  .have:=h.vl;omega
  .have:=h.tI;omega
  .have:=(h.s0 _ e).1;omega
 .refine Me r c l (λr' e=>?_) (λe=>?_) hb
  .have:=(h.sp r' c (.inr e)).2.2.2;omega
  .have:=h.vl;omega
 .rcases hr.2 with⟨c,_,hb⟩|⟨sp,rfl⟩
  .exact hb.mem
  .rfl
theorem Lay.grow (h:Lay X S0 γ L B){r:bh}{B':Nat}(hB:B<=B')(hr:born L r):
  Lay X S0 (upd γ r {γ r with own:=λb=>(γ r).own b\/(B<=b/\b<B')}) L B':=by
 have ho:∀r' c,(upd γ r {γ r with own:=λb=>(γ r).own b\/(B<=b/\b<B')} r').own c->(γ r').own c\/(r'=r/\B<=c/\c<B'):=λr' c h'=>by
  by_cases e:r'=r
  .subst e;rw[upd_same] at h';exact h'.imp id λz=>⟨rfl,z⟩
  .rw[upd_ne _ _ e] at h';exact .inl h'
 have hro:∀r' c,(upd γ r {γ r with own:=λb=>(γ r).own b\/(B<=b/\b<B')} r').ro c->(γ r').ro c:=λr' c h'=>by
  by_cases e:r'=r
  .subst e;rw[upd_same] at h';exact h'
  .rw[upd_ne _ _ e] at h';exact h'
 refine⟨λr' c h'=>?_,λr' h'=>h.Zs r' (hro _ _ h'),λr'=>⟨λh'=>?_,λh'=>?_⟩,λr' r'' c h' h''=>?_,λr' r'' c h' h''=>?_,λr' c h'=>?_,h.fm,h.fw,h.mw,λc hc=>⟨Nat.lt_of_lt_of_le (h.s0 c hc).1 hB,(h.s0 c hc).2⟩,Nat.lt_of_lt_of_le h.vl hB,Nat.lt_of_lt_of_le h.AX hB,Nat.lt_of_lt_of_le h.tI hB⟩
 .rcases h' with h'|h'
  .rcases ho _ _ h' with h'|⟨_,h1,h2⟩
   .obtain⟨a1,a2,a3,a4⟩:=h.sp r' c (.inl h')
    exact⟨a1,a2,a3,by omega⟩
   .exact⟨λe=>by have:=h.vl;omega,λe=>by have:=h.tI;omega,λe=>by have:=(h.s0 c e).1;omega,h2⟩
  .obtain⟨a1,a2,a3,a4⟩:=h.sp r' c (.inr (hro _ _ h'))
   exact⟨a1,a2,a3,by omega⟩
 .rcases ho _ _ h' with h'|⟨_,h1,_⟩
  .exact(h.vg r').1 h'
  .have:=h.AX;omega
 .have:=(h.vg r').2 h'
  by_cases e:r'=r
  .subst e;rw[upd_same];exact .inl this
  .rw[upd_ne _ _ e];exact this
 .rcases ho _ _ h' with h1|⟨e1,h1,_⟩<;>rcases ho _ _ h'' with h2|⟨e2,h2,_⟩
  .exact h.apart _ _ c h1 h2
  .have:=(h.sp r' c (.inl h1)).2.2.2;omega
  .have:=(h.sp r'' c (.inl h2)).2.2.2;omega
  .rw[e1,e2]
 .rcases ho _ _ h' with h1|⟨_,h1,_⟩
  .exact h.zM _ _ c h1 (hro _ _ h'')
  .have:=(h.sp r'' c (.inr (hro _ _ h''))).2.2.2;omega
 .rcases h' with h'|h'
  .rcases ho _ _ h' with h'|⟨rfl,_⟩
   .exact h.lv r' c (.inl h')
   .exact hr
  .exact h.lv r' c (.inr (hro _ _ h'))
end
theorem TI.mono {n0:Nat}{Sh:Loc->Prop}{RO RO':bh->Loc->Prop}{lv lv':bh->Prop}{own own':bh->Nat->Prop}{M:Nat}{hold:Option bh}{mA wA:Addr}{B:Nat}{t:Trace}
  (h:TI n0 Sh RO lv own M hold mA wA B t) (h1:∀r l,RO' r l->RO r l) (h2:∀r,lv' r↔lv r) (h3:∀r c,own' r c->own r c):TI n0 Sh RO' lv' own' M hold mA wA B t:=by
 have e:lv'=lv:=funext λr=>propext (h2 r)
 subst e;exact⟨h.clean,h.quiet,λr c ho=>h.own r c (h3 r c ho),λr i x hx hr=>h.ro r i x hx (h1 r _ hr),h.guard,h.base,h.work,h.over,h.ids,h.Qt,h.nrW,h.low⟩
end aF
end
section
open Go.Conc
open Go.ConcN (sumTo)
open Go.ConcM (OsLater)
namespace aF
structure Cf (Δ:Type) where
 n0:Nat
 L:bh->Lo
 γ:bh->Gh Δ
 k:bh->Nat
 ρ:bh->Rk
 aw:bh->Nat
 ds:bh->Nat
 q:Nat->Nat
 s:Sh
 r1:Nat
 r2:Nat
def LtF (a b:bh->Rk):Prop:=∃r,Rk.Lt (a r) (b r)/\∀r',r'≠r->a r'=b r'
theorem WG:WellFounded LtF:=by
 have key:∀x:Rk,Acc Rk.Lt x->∀y:Rk,Acc Rk.Lt y->∀z:Rk,Acc Rk.Lt z->∀f:bh->Rk,f .m=x->f .a=y->f .b=z->Acc LtF f:=by
  intro x hx
  induction hx with
  |intro x _ ihx=>
  intro y hy
  induction hy with
  |intro y hy' ihy=>
  intro z hz
  induction hz with
  |intro z hz' ihz=>
  intro f h1 h2 h3;refine⟨_,λg hg=>?_⟩;obtain⟨r,hl,he⟩:=hg;cases r with
  |m=>exact ihx _ (h1▸hl) _ (Rk.acc _) _ (Rk.acc _) g rfl rfl rfl
  |a=>exact ihy _ (h2▸hl) _ (Rk.acc _) g ((he .m (by simp)).trans h1) rfl rfl
  |b=>exact ihz _ (h3▸hl) g ((he .m (by simp)).trans h1) ((he .a (by simp)).trans h2) rfl
 exact⟨λf=>key _ (Rk.acc _) _ (Rk.acc _) _ (Rk.acc _) f rfl rfl rfl⟩
abbrev Ms:=Nat×(bh->Rk)×Nat×Nat
def TO:Ms->Ms->Prop:=Prod.Lex (·<·) (Prod.Lex LtF (Prod.Lex (·<·) (·<·)))
theorem WF:WellFounded TO:=(Prod.lex Nat.lt_wfRel (Prod.lex ⟨LtF,WG⟩ (Prod.lex Nat.lt_wfRel Nat.lt_wfRel))).wf
def awS (aw:bh->Nat):Nat:=aw .m+aw .a+aw .b
def Cf.ms {Δ:Type}(C:Cf Δ)(n:Nat):Ms:=(nT C.L C.r1 C.r2,C.ρ,sumTo n C.q,awS C.aw)
section
variable {Δ:Type}(X:Cx Δ)(P:Program)(Post:Gh Δ->Goroutine->World->Prop)(S0:Nat->Prop)
structure Core (C:Cf Δ)(gs:Array Goroutine)(w:World)(t:Trace):Prop where
 rY:0<C.n0
 size:gs.size=C.n0+nb C.L
 tab:vv C.L C.s C.r1 C.r2
 fuel:∀r,born C.L r->nT C.L C.r1 C.r2<C.k r
 sh:ShAt X w C.s
 sit:∀r,born C.L r->∃g,gs[gid C.n0 r]? =some g/\Sit X P Post (C.k r) r (C.L r) (C.γ r) (C.ρ r) (C.aw r) (C.ds r) (C.q (gid C.n0 r)) C.s g w
 SF:∀r,¬born C.L r->(C.γ r).mine=X.c0 r/\(C.L r).n=X.N r
 old:∀i g,0<i->i<C.n0->gs[i]? =some g->QuitsD P (C.q i) (Deaf t i) g
 above:∀j,gs.size<=j->Deaf t j=0
 deaf:∀r,born C.L r->Deaf t (gid C.n0 r)=C.ds r
 data:(C.L .a).pc≠.ur->(C.L .b).pc≠.ur->∃o,w.heap[X.M]? =some o/\X.Dat (C.γ .a).mine (C.γ .b).mine o
 FE:∀r,(C.L r).pc= .ur->(C.γ r).other=(C.γ (L8 r)).mine
 fin:∀r,past (C.L r).pc=true->(C.γ r).mine=X.fin r
 rel:∀r,past (C.L r).pc=true->∃p,ConcN.RelBy (wA X) t (gid C.n0 r) p
 lay:Lay X S0 C.γ C.L w.heap.size
 ti:TI C.n0 (yC X S0) (OC X C.γ C.L) (born C.L) (λr=>(C.γ r).own) X.M (hold C.L) (mA X) (wA X) w.heap.size t
def Bs (n0:Nat)(μ:Ms)(m:Machine)(t:Trace):Prop:=∃(C:Cf Δ) (gs:Array Goroutine) (w:World) (sl:Option (Nat×Nat)),C.n0=n0/\m=crowd gs w sl/\Core X P Post S0 C gs w t/\μ=C.ms gs.size
end
section
variable {Δ:Type}{X:Cx Δ}{P:Program}{Post:Gh Δ->Goroutine->World->Prop}{S0:Nat->Prop}{C:Cf Δ}{gs:Array Goroutine}{w w':World}{t:Trace}{sl:Option (Nat×Nat)}{r:bh}{x x':Goroutine}{es:Array Event}
theorem lG {L:bh->Lo}{s:Sh}{r1 r2:Nat}(h:vv L s r1 r2):¬((L .a).pc= .ur/\(L .b).pc= .ur):=λ⟨x,y⟩=>h.Zy.facts.excl ⟨by simp[pm,x],by simp[pm,y]⟩
theorem jo {L:bh->Lo}{s:Sh}{r1 r2:Nat}(h:vv L s r1 r2){p:Pc}(hp:mI p=false):(L .m).pc≠p:=λe=>by have:=h.st;rw[e,hp] at this;cases this
theorem Core.ap (c:Core X P Post S0 C gs w t):Ap (yC X S0) (OC X C.γ C.L) (born C.L) (λr=>(C.γ r).own) X.M (hold C.L) w.heap.size:=c.lay.ap (lG c.tab) (jo c.tab rfl)
theorem Core.pd (c:Core X P Post S0 C gs w t):born C.L .m:=jo c.tab rfl
theorem Core.kpos (c:Core X P Post S0 C gs w t)(hr:born C.L r):∃k',C.k r=k'+1:=by
 have:=c.fuel r hr;exact⟨C.k r-1,by omega⟩
theorem IV (lay:Lay X S0 C.γ C.L w.heap.size){deaf:Bool}(h:DX X deaf (C.γ r).ro (C.γ r).own w w' es){r':bh}(hne:r'≠r):RX X (C.γ r').ro (C.γ r').own w w':=by
 have no:∀b,b=X.Fd\/b=X.Wg->¬(C.γ r).own b:=λb hb ho=>by
  obtain⟨a1,a2,_⟩:=lay.sp r b (.inl ho);exact hb.elim a1 a2
 refine⟨h.tape,h.output,h.size,h.os,λb hb ho=>h.keep b hb λho'=>?_,λ⟨s,hs⟩=>⟨s,?_,?_⟩⟩
 .rcases ho with ho|ho
  .exact hne (lay.apart _ _ b ho ho')
  .exact lay.zM _ _ b ho' ho
 .rw[h.keep _ lay.vl (no _ (.inl rfl))];exact hs.1
 .rw[h.keep _ lay.tI (no _ (.inr rfl))];exact hs.2
theorem PA (lay:Lay X S0 C.γ C.L w.heap.size){deaf:Bool}(h:DX X deaf (C.γ r).ro (C.γ r).own w w' es){s:Sh}(hs:ShAt X w s):ShAt X w' s:=by
 have no:∀b,b=X.Fd\/b=X.Wg->¬(C.γ r).own b:=λb hb ho=>by
  obtain⟨a1,a2,_⟩:=lay.sp r b (.inl ho);exact hb.elim a1 a2
 exact⟨by rw[h.keep _ lay.vl (no _ (.inl rfl))];exact hs.1,by rw[h.keep _ lay.tI (no _ (.inr rfl))];exact hs.2⟩
theorem IW (lay:Lay X S0 C.γ C.L w.heap.size)(h:ConcM.Eff X.Fd X.Wg w w'){s:Sh}(hs:ShAt X w' s)(r':bh):RX X (C.γ r').ro (C.γ r').own w w':=
 ⟨h.tape,h.output,by rw[h.size];exact Nat.le_refl _,h.os,λb _ ho=>by
  obtain⟨a1,a2,_⟩:=lay.sp r' b ho;exact h.block b a1 a2,λ_=>⟨s,hs⟩⟩
theorem A8 (c:Core X P Post S0 C gs w t)(hr:born C.L r):gid C.n0 r<gs.size:=by
 obtain⟨g,hg,_⟩:=c.sit r hr;exact(Array.getElem?_eq_some_iff.1 hg).1
theorem vN {n0:Nat}(hn:0<n0){i:Nat}(h0:0<i)(h1:i<n0)(r:bh):gid n0 r≠i:=by cases r<;>simp[gid]<;>omega
theorem Core.others (c:Core X P Post S0 C gs w t)(hr:born C.L r)(acs:∀r',r'≠r->RX X (C.γ r').ro (C.γ r').own w w'){s':Sh}
  (hw:∀r',r'≠r->(C.L r').sleeps C.s=true->(C.L r').sleeps s'=true\/(mayWake P x=true/\x'.status= .running)):
  ∃aw':bh->Nat,∀r',r'≠r->born C.L r'->∃g,((gs.map (woken P x x' w')).setIfInBounds (gid C.n0 r) x')[gid C.n0 r']? =some g/\Sit X P Post (C.k r') r' (C.L r') (C.γ r') (C.ρ r') (aw' r') (C.ds r') (C.q (gid C.n0 r')) s' g w':=by
 have key:∀r',∃a,r'≠r->born C.L r'->∃g,((gs.map (woken P x x' w')).setIfInBounds (gid C.n0 r) x')[gid C.n0 r']? =some g/\Sit X P Post (C.k r') r' (C.L r') (C.γ r') (C.ρ r') a (C.ds r') (C.q (gid C.n0 r')) s' g w':=λr'=>by
  by_cases h:r'≠r/\born C.L r'
  .obtain⟨h1,h2⟩:=h
   obtain⟨g,hg,hs⟩:=c.sit r' h2;obtain⟨k',hk⟩:=c.kpos h2;rw[hk] at hs⊢;obtain⟨a,ha⟩:=hs.other (x:=x) (x':=x') (acs r' h1) (hw r' h1);exact⟨a,λ_ _=>⟨_,by rw[ConcN.get_map_set _ _ _ _ (λe=>h1 (kq c.rY e).symm),hg];rfl,ha⟩⟩
  .exact⟨0,λh1 h2=>absurd ⟨h1,h2⟩ h⟩
 exact⟨λr'=>(key r').choose,λr'=>(key r').choose_spec⟩
theorem ux {g:Nat}{fn:FuncId}{pos:String}{es:Array Event}:∀op∈MemOp.ofEvents g fn pos es,op.g=g:=λop h=>by obtain⟨e,_,rfl⟩:=Go.Conc.mem_ofEvents h;rfl
theorem Core.olds (c:Core X P Post S0 C gs w t){fn:FuncId}{pos:String}{es:Array Event}:∀i g,0<i->i<C.n0->((gs.map (woken P x x' w')).setIfInBounds (gid C.n0 r) x')[i]? =some g->QuitsD P (C.q i) (Deaf (t++MemOp.ofEvents (gid C.n0 r) fn pos es) i) g:=by
 intro i g h0 h1 hg;rw[ConcN.get_map_set _ _ _ _ (vN c.rY h0 h1 r)] at hg;obtain⟨y,hy,rfl⟩:=Option.map_eq_some_iff.1 hg;have hq:=c.old i y h0 h1 hy;rw[woken_quitsD hq,Deaf_other t (vN c.rY h0 h1 r) _ ux];exact hq
theorem xY (c:Core X P Post S0 C gs w t)(hr:born C.L r){fn:FuncId}{pos:String}{es:Array Event}{n:Nat}(hn:n=gs.size):∀j,n<=j->Deaf (t++MemOp.ofEvents (gid C.n0 r) fn pos es) j=0:=by
 intro j hj;have:=A8 c hr;rw[Deaf_other t (g':=gid C.n0 r) (by omega) _ ux];exact c.above j (by omega)
theorem uN (c:Core X P Post S0 C gs w t){fn:FuncId}{pos:String}{es:Array Event}{r':bh}(hne:r'≠r)(hr':born C.L r'):Deaf (t++MemOp.ofEvents (gid C.n0 r) fn pos es) (gid C.n0 r')=C.ds r':=by
 rw[Deaf_other t (λe=>hne (kq c.rY e).symm) _ ux];exact c.deaf r' hr'
theorem wU (c:Core X P Post S0 C gs w t){fn:FuncId}{pos:String}{es:Array Event}{r':bh}(hne:r'≠r){p:Nat}(h:ConcN.RelBy (wA X) t (gid C.n0 r') p):ConcN.RelBy (wA X) (t++MemOp.ofEvents (gid C.n0 r) fn pos es) (gid C.n0 r') p:=
 ConcN.RelBy.appOther h ux λe=>hne (kq c.rY e).symm
theorem rX {m:Mark}(h:oN m):(MemAct.mark m).touch? =none/\m≠.disable/\m≠.enable/\(∀a,m≠.release a)/\∀B,(MemAct.mark m).low B:=by
 cases m<;>simp[oN] at h<;>simp[MemAct.touch?,MemAct.low]
theorem dr {e:Event}{m:Mark}(h:e.loc= .mark m):MemAct.ofEvent e= .mark m:=by
 obtain⟨l,a,b⟩:=e;cases h;cases a<;>cases b<;>rfl
theorem oO {e:Event}{c:Nat}(h:ll c e.loc):(∀m,MemAct.ofEvent e≠.mark m)/\(∀B,c<B->(MemAct.ofEvent e).low B)/\∀z,(MemAct.ofEvent e).touch? =some z->z.loc=e.loc/\z.write=e.write:=by
 obtain⟨l,a,b⟩:=e;rcases h with⟨ad,h,hc⟩|h
 .simp only at h
  subst h;refine⟨λm=>by cases a<;>cases b<;>simp[MemAct.ofEvent],λB hB=>?_,λz hz=>?_⟩
  .have:(MemAct.access ⟨.cell ad,a,b⟩).low B:=by show ad.block<B;omega
   cases a<;>cases b<;>exact this
  .cases a<;>cases b<;>simp[MemAct.ofEvent,MemAct.touch?] at hz<;>subst hz<;>exact⟨rfl,rfl⟩
 .simp only at h
  subst h;refine⟨λm=>by cases a<;>cases b<;>simp[MemAct.ofEvent],λB hB=>?_,λz hz=>?_⟩
  .have h1:(MemAct.access ⟨.obj c,a,b⟩).low B:=hB
   have h2:(MemAct.close c).low B:=hB;cases a<;>cases b<;>first|exact h1|exact h2
  .cases a<;>cases b<;>simp[MemAct.ofEvent,MemAct.touch?] at hz<;>subst hz<;>exact⟨rfl,rfl⟩
theorem I8 (c:Core X P Post S0 C gs w t)(hr:born C.L r){deaf:Bool}(h:DX X deaf (C.γ r).ro (C.γ r).own w w' es){fn:FuncId}{pos:String}:
  ∀op∈MemOp.ofEvents (gid C.n0 r) fn pos es,OkOp C.n0 (yC X S0) (OC X C.γ C.L) (λr=>(C.γ r).own) (mA X) (wA X) w.heap.size w'.heap.size r op/\op.act≠.mark .disable/\op.act≠.mark .enable:=by
 intro op hop;obtain⟨e,he,rfl⟩:=Go.Conc.mem_ofEvents hop;rcases h.ev e he with⟨b,hb,hin⟩|⟨h1,h2,h3⟩|⟨m,h1,h2⟩
 .obtain⟨e1,e2,e3⟩:=oO hin
  have hlow:b<w'.heap.size:=by
   rcases hb with hb|hb|hb
   .have:=(c.lay.sp r b (.inl hb)).2.2.2;have:=h.size;omega
   .exact hb.2
   .have:=(c.lay.sp r b (.inr hb.1)).2.2.2;have:=h.size;omega
  refine⟨⟨rfl,e1 _,e1 _,e2 _ hlow,λz hz=>?_⟩,e1 _,e1 _⟩;obtain⟨z1,z2⟩:=e3 z hz;rw[z1,z2];rcases hb with hb|hb|hb
  .exact .inr (.inl ⟨b,hin,.inl hb⟩)
  .exact .inr (.inl ⟨b,hin,.inr hb⟩)
  .exact .inr (.inr (.inl ⟨⟨hr,.inl ⟨b,hb.1,hin⟩⟩,hb.2⟩))
 .have hin:ll X.Fd e.loc:=by rw[h1];exact .inl ⟨_,rfl,rfl⟩
  obtain⟨e1,e2,e3⟩:=oO hin;refine⟨⟨rfl,e1 _,e1 _,e2 _ (Nat.lt_of_lt_of_le c.lay.vl h.size),λz hz=>?_⟩,e1 _,e1 _⟩;obtain⟨z1,z2⟩:=e3 z hz;rw[z1,z2];exact .inr (.inr (.inl ⟨⟨hr,.inr ⟨none,h1⟩⟩,h2⟩))
 .obtain⟨m1,m2,m3,m4,m5⟩:=rX h2
  have e0:=dr h1;refine⟨⟨rfl,?_,?_,?_,λz hz=>?_⟩,?_,?_⟩<;>simp only[e0]
  .simpa using m4 _
  .simpa using m4 _
  .exact m5 _
  .simp only[e0,m1] at hz;cases hz
  .simpa using m2
  .simpa using m3
theorem x3 {g:Nat}{fn:FuncId}{pos:String}{es:Array Event}(hd:Deaf t g=0)(hes:∀e∈es,e.loc≠.mark .disable/\e.loc≠.mark .enable){i:Nat}{z:Touch}(hi:t.size<=i)
  (hz:touchAt (t++MemOp.ofEvents g fn pos es) i=some z) (hm:z.loc.isMemory=true):(t++MemOp.ofEvents g fn pos es).counts i:=by
 refine⟨z,hz,hm,.inr ?_⟩;obtain⟨op,ho,_⟩:=touch_of hz;have hg:op.g=g:=by
  rcases getElem?_append_cases ho with⟨h,_⟩|⟨_,h⟩
  .omega
  .exact ux op h
 have hlt:=lt_size_of_getElem? ho;have hsz:(MemOp.ofEvents g fn pos es).size=es.size:=by rw[ofEvents_eq];simp
 refine⟨g,by simp[Trace.g?,ho,hg],?_⟩;have:=deaf_inside t g fn pos es (i-t.size) (by rw[Array.size_append,hsz] at hlt;omega);rw[show t.size+(i-t.size)=i by omega] at this;rw[this,deafBehind_still (λe he=>hes e (by
  obtain⟨j,hj⟩:=Array.mem_iff_getElem?.1 he;rw[Array.getElem?_extract] at hj;split at hj
  .exact Array.mem_of_getElem? hj
  .cases hj)),hd]
theorem K4 (c:Core X P Post S0 C gs w t)(hr:born C.L r)(hx:gs[gid C.n0 r]? =some x){f:World->Rk}(hρ:C.ρ r= .mk f)(hnq:(C.L r).pc≠.quit)(hdd:C.ds r=fQ (C.L r).pc)
  (hs:stepG P (vn r) x w= .go x' w' es) (hD:DX X (eI (C.L r).pc) (C.γ r).ro (C.γ r).own w w' es)
  (hl:gB P (vn r) (eY X (eI (C.L r).pc) (C.γ r).ro) (dM (AtR X P Post (C.k r) r) (C.L r) (C.γ r)) (f w) (λb=>(C.γ r).own b\/(w.heap.size<=b/\b<w'.heap.size)) x' w'):
  ∃m₁ ops μ',runT P (crowd gs w sl) (gid C.n0 r)=(.next m₁,ops)/\TO μ' (C.ms gs.size)/\Bs X P Post S0 C.n0 μ' m₁ (t++ops):=by
 have hrun:=runT_crowd_go (P:=P) (sl:=sl) (i:=gid C.n0 r) hx (by rw[A2 c.rY];exact hs);obtain⟨aw',haw⟩:=c.others (x:=x) (x':=x') hr (λr' h=>IV c.lay hD h) (s':=C.s) λr' _ h=> .inl h
 have hok:=I8 c hr hD (fn:=x.frame.fn) (pos:=x.frame.place);have hmarks:∀e∈es,e.loc≠.mark .disable/\e.loc≠.mark .enable:=λe he=>by
  have:=hok {g:=gid C.n0 r,fn:=x.frame.fn,pos:=x.frame.place,act:= .ofEvent e} (by rw[ofEvents_eq];exact Array.mem_map.2 ⟨e,he,rfl⟩);exact⟨λh=>this.2.1 (dr h),λh=>this.2.2 (dr h)⟩
 have hdeaf:Deaf (t++MemOp.ofEvents (gid C.n0 r) x.frame.fn x.frame.place es) (gid C.n0 r)=C.ds r:=by
  rw[Deaf_own,deafBehind_still hmarks];exact c.deaf r hr
 have hcnt:r≠.m->∀i z,t.size<=i->touchAt (t++MemOp.ofEvents (gid C.n0 r) x.frame.fn x.frame.place es) i=some z->z.loc.isMemory=true->(t++MemOp.ofEvents (gid C.n0 r) x.frame.fn x.frame.place es).counts i\/(yC X S0 z.loc/\z.kind= .atomic):=λ_ i z hi hz hm=>by
  by_cases hd0:fQ (C.L r).pc=0
  .exact .inl (x3 (by rw[c.deaf r hr,hdd,hd0]) hmarks hi hz hm)
  .have he:=hD.mute (by simp[eI,hd0])
   subst he;obtain⟨op,ho,_⟩:=touch_of hz;have:=lt_size_of_getElem? ho;simp[ofEvents_none] at this;omega
 have hti:=TI.app c.rY c.ap c.ti hr hD.size (λop ho=>(hok op ho).1) hcnt;have hsz:((gs.map (woken P x x' w')).setIfInBounds (gid C.n0 r) x').size=gs.size:=by simp
 let own':Nat->Prop:=λb=>(C.γ r).own b\/(w.heap.size<=b/\b<w'.heap.size)
 let C':Cf Δ:={C with γ:=upd C.γ r {C.γ r with own:=own'},ρ:=upd C.ρ r (f w),aw:=upd aw' r 1}
 have nL:∀r',(C'.γ r').mine=(C.γ r').mine/\(C'.γ r').other=(C.γ r').other/\(C'.γ r').ro=(C.γ r').ro:=λr'=>by
  by_cases e:r'=r
  .subst e;simp[C',upd_same]
  .simp[C',upd_ne _ _ e]
 refine⟨_,_,C'.ms gs.size,hrun,.right _ (.left _ _ ⟨r,?_,λr' h=>upd_ne _ _ h⟩),C',_,w',sl,rfl,rfl,?_,by rw[hsz]⟩
 .show Rk.Lt (upd C.ρ r (f w) r) (C.ρ r)
  rw[upd_same,hρ];exact⟨f,w,rfl,rfl⟩
 .refine⟨c.rY,by rw[hsz];exact c.size,c.tab,c.fuel,PA c.lay hD c.sh,λr' hr'=>?_,λr' hr'=>?_,c.olds,xY c hr hsz,λr' hr'=>?_,λh1 h2=>?_,λr' h=>?_,λr' h=>?_,λr' h=>?_,c.lay.grow hD.size hr,?_⟩
  .by_cases e:r'=r
   .subst e
    refine⟨x',ConcN.get_map_set_same _ _ _ (A8 c hr),.inl ⟨hnq,hdd,by simp[C',upd_same],?_⟩⟩;simp only[C',upd_same];exact hl
   .obtain⟨g,h1,h2⟩:=haw r' e hr'
    refine⟨g,h1,?_⟩;simp only[C',upd_ne _ _ e];exact h2
  .rw[(nL r').1];exact c.SF r' hr'
  .by_cases e:r'=r
   .subst e;exact hdeaf
   .exact uN c e hr'
  .obtain⟨o,h3,h4⟩:=c.data h1 h2
   refine⟨o,?_,by rw[(nL .a).1,(nL .b).1];exact h4⟩;rw[hD.keep _ c.lay.AX λho=>?_]
   .exact h3
   .have:=(c.lay.vg r).1 ho
    cases r with
    |m=>exact jo c.tab rfl this
    |a=>exact h1 this
    |b=>exact h2 this
  .rw[(nL r').2.1,(nL _).1];exact c.FE r' h
  .rw[(nL r').1];exact c.fin r' h
  .obtain⟨p,hp⟩:=c.rel r' h
   by_cases e:r'=r
   .subst e
    have he:=hD.mute (by
     revert h
     cases (C.L r').pc<;>simp[past,eI,fQ])
    subst he;rw[ofEvents_none,Array.append_empty];exact⟨p,hp⟩
   .exact⟨p,wU c e hp⟩
  .refine TI.mono hti (λr' l h=>?_) (λ_=>Iff.rfl) (λr' b h=>?_)
   .exact⟨h.1,by have:=h.2;rw[(nL r').2.2] at this;exact this⟩
   .by_cases e:r'=r
    .subst e
     simp only[C',upd_same] at h;exact h.imp id λz=>⟨rfl,z⟩
    .simp only[C',upd_ne _ _ e] at h
     exact .inl h
end
end aF
end
end
end Go.Proofs.YtchcmhodnkgojaaGreat
