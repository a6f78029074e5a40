/- On the way to the last text; put together and shortened by program. -/
import Derived.Test.YtchcmhodnkgojaaGreatPart4
import GoSem.Dispatch
import Derived.Conc.Own5
import Derived.Conc.CompanyDraw
import Derived.Conc.Listed
import Derived.Control
import Derived.Conc.Own2
set_option linter.all false
set_option maxRecDepth 100000
set_option maxHeartbeats 8000000
namespace Go.Proofs.YtchcmhodnkgojaaGreat
noncomputable section
section
open Go.Conc
section
variable {P:Program}{π:Nat->Nat}{N V:Nat->Prop}
theorem Bu {β:Type}{R:β->β->Prop}{r:Nat}(hv:V r){f f':Option (Addr×TypeId)->Sem β}(h0:bk P π N V R (f none) (f' none))(h1:∀b u,bk P π N (fun i=>V i\/i=b.block) R (f (some (b,u))) (f' (some (bi π b,u)))):
  bk P π N V R (viewAt r>>=f) (viewAt (π r)>>=f'):=by
 unfold viewAt;rw[bind_assoc,bind_assoc];refine bk.shape (k:=fun x=>_) hv fun x=>?_
 cases x with
 |some y=>exact h0
 |none=>
  refine bk.getObj (k:=fun x=>_) fun o ho=>?_
  cases o with
  |view b u=>exact(h1 b u).weak fun i hi=>hi.elim .inl fun e=> .inr (.inr e)
  |_=>first|exact ho.elim|exact h0.weak fun i hi=> .inl hi
theorem tE {β:Type}{R:β->β->Prop}{a:Addr}(hv:V a.block){f f':Addr->Sem β}(hf:∀s:Addr,bk P π N (fun i=>V i\/i=s.block) R (f s) (f' (bi π s))):
  bk P π N V R (Conv.seenAt a>>=f) (Conv.seenAt (bi π a)>>=f'):=by
 unfold Conv.seenAt;simp only[bind_assoc];refine Bu hv ?_ fun b u=>?_
 .exact(hf a).weak fun i hi=>hi.elim id fun e=>e▸hv
 .dsimp only
  have e1:(bi π a).off=a.off:=rfl;have e2:(bi π a).spot=a.spot:=rfl;have e3:(bi π b).spot=b.spot:=rfl;have e4:(bi π b).block=π b.block:=rfl;have e5:(bi π b).off=b.off:=rfl;rw[e1,e2,e3,e4,e5];split
  .exact hf b
  .split
   .exact ik trivial
   .simp only[pure_bind,bind_assoc]
    refine cx.bind' fun z z' h=>?_
    rw[h.1,h.2];cases byteOfCell P P.depth u a.off with
    |none=>exact ik trivial
    |some β=>
     dsimp only;simp only[bind_assoc];refine bk.shape (k:=fun x=>_) (.inr rfl) fun x=>?_
     cases x with
     |none=>exact ik (α:=Addr) (f:=f) trivial
     |some e=>
      obtain⟨e,cells⟩:=e;show bk P π N _ R ((if P.cellsOf e=0 then _ else _)>>=f) ((if P.cellsOf e=0 then _ else _)>>=f')
      by_cases h0:P.cellsOf e=0
      .rw[if_pos h0];exact ik trivial
      .rw[if_neg h0,if_neg h0]
       cases cellAtBytes P P.depth e (cells/P.cellsOf e) b.off β with
       |none=>exact ik (α:=Addr) (f:=f) trivial
       |some c=>exact hf {b with off:=c}
theorem BE {r:Nat}(hv:V r):bk P π N V Eq (cellsIn r) (cellsIn (π r)):=by
 unfold cellsIn;refine bk.shape (k:=fun x=>_) hv fun x=>?_
 cases x with
 |some y=>exact al rfl
 |none=>
  refine bk.getObj (k:=fun x=>_) fun o ho=>?_
  cases o<;>first|exact ho.elim|exact al rfl
theorem mU {a:Addr}{u:TypeId}{n:Nat}(hv:V a.block):bk P π N V Eq (variablesAt a u n) (variablesAt (bi π a) u n):=by
 unfold variablesAt;refine cx.bind' fun z z' h=>?_
 rw[h.1,h.2];refine bk.shape (k:=fun x=>_) hv fun x=>?_
 cases x with
 |some y=>exact al rfl
 |none=>exact al rfl
theorem nD {s:Addr}{t:TypeId}(hv:V s.block):bk P π N V (RV π) (do Pure.pure (.pointer (some ⟨<-newObj (.view s t),0,none⟩)):Sem Value) (do Pure.pure (.pointer (some ⟨<-newObj (.view (bi π s) t),0,none⟩)):Sem Value):=by
 unfold newObj;exact bk.new (o:= .view s t) trivial (fun i hi=>by rw[show i=s.block from hi];exact hv) fun b _=> .pure (by simp[RV,bi])
theorem kO {src dst:TypeId}{x:Value}(hk:∀k,P.underlying dst≠some (.int k))(hx:VV V x):bk P π N V (RV π) (Conv.unsafePointer src dst x) (Conv.unsafePointer src dst (Value.ren π x)):=by
 unfold Conv.unsafePointer;refine(aE src).bind' fun us us' h=>?_
 obtain⟨rfl,hs⟩:=h;refine(aE dst).bind' fun ud ud' h=>?_
 obtain⟨rfl,hd⟩:=h;cases x with
 |pointer p=>
  simp only[aT];cases us with
  |pointer t=>cases ud with
   |unsafePointer=>cases p with
    |none=>exact al (by simp[RV])
    |some a=>
     simp only[Option.map_some];refine tE hx.ptr fun s=>?_
     refine(BE (.inr rfl)).bind' fun c c' h=>?_
     subst h;refine(cH t).bind' fun m m' h=>?_
     obtain⟨rfl,_⟩:=h;exact cD (nD (.inr rfl)) (al (by simp[RV]))
   |_=>cases p<;>exact ai
  |unsafePointer=>cases ud with
   |pointer u=>cases p with
    |none=>exact al (by simp[RV])
    |some a=>
     simp only[Option.map_some];refine tE hx.ptr fun s=>?_
     refine(cH u).bind' fun m m' h=>?_
     obtain⟨rfl,_⟩:=h;refine(mU (.inr rfl)).bind' fun c c' h=>?_
     subst h;refine cD (al (by simp[RV])) ?_;refine bk.shape (k:=fun x=>_) (.inr rfl) fun x=>?_
     cases x with
     |none=>exact aH trivial
     |some y=>
      refine cx.bind' fun z z' h=>?_
      rw[h.1,h.2];refine cx.bind' fun z z' h=>?_
      rw[h.1,h.2];have tl:=nD (P:=P) (π:=π) (N:=N) (V:=fun i=>V i\/i=s.block) (t:=u) (.inr rfl);split
      .exact ik trivial
      .exact tl
   |unsafePointer=>exact al (by cases p<;>simp[RV])
   |int k=>exact absurd hd (hk k)
   |_=>cases p<;>exact ai
  |int k=>cases ud with
   |unsafePointer=>cases p with
    |none=>exact ai
    |some a=>exact aH trivial
   |_=>cases p<;>exact ai
  |_=>cases ud<;>first|exact ai|(cases p<;>exact ai)
 |int k a=>
  cases us with
  |int k=>cases ud with
   |unsafePointer=>cases a with
    |ofNat m=>cases m<;>exact aH trivial
    |negSucc m=>exact aH trivial
   |_=>exact ai
  |_=>cases ud<;>exact ai
 |_=>cases us<;>first|exact ai|(cases ud<;>exact ai)
theorem pA {α β:Type}{R:β->β->Prop}{f f':α->β->Sem (ForInStep β)}{g:α->α}:∀(l:List α),(∀a∈l,∀b b',R b b'->bk P π N V (GC R) (f a b) (f' (g a) b'))->∀b b',R b b'->bk P π N V R (forIn l b f) (forIn (l.map g) b' f')
 |[],_,b,b',h=>by simp only[List.forIn_nil,List.map_nil];exact al h
 |a::l,hf,b,b',h=>by
  simp only[List.forIn_cons,List.map_cons];refine(hf a (by simp) b b' h).bind' fun x x' hx=>?_
  cases x<;>cases x'<;>first|exact hx.elim|exact al hx|exact pA l (fun a ha=>hf a (by simp[ha])) _ _ hx
theorem qL (x:Value):bk P π N V (RV π) (Conv.bytesToString x) (Conv.bytesToString (Value.ren π x)):=by
 unfold Conv.bytesToString;cases x with
 |slice a n c=>
  simp only[bH];cases a with
  |none=>exact al (by simp[RV])
  |some a=>
   simp only[Option.map_some];refine(lB a n).bind' fun cs cs' h=>?_
   rw[show cs'=_ from h,<-Array.forIn_toList,<-Array.forIn_toList,Array.toList_map];refine(pA (R:=Eq) _ (fun v hv b b' hb=>?_) _ _ rfl).bind' fun r r' h=>?_
   .subst hb
    cases v with
    |int k m=>simp only[cq];cases k<;>first|exact ai|exact al rfl
    |_=>exact ai
   .subst h
    exact al (by simp[RV])
 |_=>exact ai
theorem qH (e:TypeId)(s:ByteArray):bk P π N V (RV π) (Conv.stringToBytes e s) (Conv.stringToBytes e s):=by
 unfold Conv.stringToBytes;refine il.bind' fun c c' h=>?_
 subst h;dsimp only;have hr:(s.data.map (fun b:UInt8=>Value.int .u8 b.toNat)++Array.replicate (c-s.size) (Value.int .u8 0)).map (Value.ren π)=s.data.map (fun b:UInt8=>Value.int .u8 b.toNat)++Array.replicate (c-s.size) (Value.int .u8 0):=by
  refine ci fun v hv=>?_
  rcases Array.mem_append.1 hv with h|h
  .obtain⟨b,_,rfl⟩:=Array.mem_map.1 h;simp
  .rw[(Array.mem_replicate.1 h).2];simp
 generalize s.data.map (fun b:UInt8=>Value.int .u8 b.toNat)++Array.replicate (c-s.size) (Value.int .u8 0)=cells at hr⊢;unfold newRow newObj markStringish;have:=bk.new (P:=P) (π:=π) (N:=N) (V:=V) (R:=RV π) (o:= .cells cells e) (k:=fun b=>shape b>>=fun x=>(match x with|some (_,n)=>freeze {block:=b,off:=n} 1|_=>Pure.pure ())>>=fun _=>Pure.pure (.slice (some ⟨b,0,none⟩) s.size c))
  (k':=fun b=>shape b>>=fun x=>(match x with|some (_,n)=>freeze {block:=b,off:=n} 1|_=>Pure.pure ())>>=fun _=>Pure.pure (.slice (some ⟨b,0,none⟩) s.size c)) trivial (fun _ h=>h.elim) fun b hb=>by
  refine bk.shape (k:=fun x=>_) (.inr rfl) fun x=>?_
  cases x with
  |none=>exact al (by simp[RV,bi])
  |some y=>exact bk.freeze (a:={block:=b,off:=y.2}) (.inr rfl) hb (al (by simp[RV,bi]))
 rw[show dz π (.cells cells e)= .cells cells e by simp only[dz,hr]] at this;exact this
def XG (P:Program)(src dst:TypeId):Bool:=match P.underlying src,P.underlying dst with
 |some (.int _),some (.int _)|some (.int _),some .string|some .string,some .string=>true
 |some (.slice e),some .string|some .string,some (.slice e)=>(match P.underlying e with|some (.int .u8)=>true|_=>false)
 |some (.pointer _),some .unsafePointer|some .unsafePointer,some (.pointer _)=>true
 |_,_=>false
theorem BD {src dst:TypeId}{x:Value}(hc:XG P src dst=true)(hx:VV V x):bk P π N V (RV π) (convert src dst x) (convert src dst (Value.ren π x)):=by
 unfold convert;refine(aE src).bind' fun us us' h=>?_
 obtain⟨rfl,hs⟩:=h;refine(aE dst).bind' fun ud ud' h=>?_
 obtain⟨rfl,hd⟩:=h;simp only[XG,hs,hd] at hc;have hp:bk P π N V (RV π) (Pure.pure x) (Pure.pure (Value.ren π x)):=al rfl;have hi:∀k n,bk P π N V (RV π) (Conv.intToInt k n) (Conv.intToInt k n):=fun k n=>dJ (lU trivial)
 have hf:∀s b k,bk P π N V (RV π) (Conv.floatToInt s b k) (Conv.floatToInt s b k):=fun s b k=>dJ (UR _ _ _)
 have hn:∀n,bk P π N V (RV π) (Conv.intToString n) (Conv.intToString n):=fun n=>dJ (lU trivial)
 cases us<;>cases ud<;>first|(exfalso;simp at hc;done)|skip
 case int.int k k'=>
  cases x with
  |int j n=>simp only[cq];exact hi _ _
  |float j n=>simp only[dl];exact hf _ _ _
  |pointer a=>cases a<;>exact aH trivial
  |_=>exact aH trivial
 case int.string k=>
  cases x with
  |int j n=>simp only[cq];exact hn _
  |string s=>simp only[bB] at hp⊢;exact hp
  |pointer a=>cases a<;>exact aH trivial
  |_=>exact aH trivial
 case string.string=>
  cases x with
  |int j n=>simp only[cq];exact hn _
  |string s=>simp only[bB] at hp⊢;exact hp
  |pointer a=>cases a<;>exact aH trivial
  |_=>exact aH trivial
 case slice.string e=>
  have hu8:P.underlying e=some (.int .u8):=by
   cases he:P.underlying e with
   |none=>simp[he] at hc
   |some ue=>cases ue with
    |int k=>cases k<;>first|rfl|(simp[he] at hc;done)
    |_=>simp[he] at hc
  have tl:=qL (P:=P) (π:=π) (N:=N) (V:=V) x;cases x with
  |int j n=>simp only[cq];exact hn _
  |string s=>simp only[bB] at hp⊢;exact hp
  |slice a n c=>
   simp only[bH] at tl⊢;cases a<;>exact(aE e).bind' fun u u' h=>by
    obtain⟨rfl,he⟩:=h;rw[hu8] at he;cases he;exact tl
  |_=>
   simp only[dC,cq,dl,cR,bB,aT,dA,cI,bH,dn,dP,cQ,di,cP,da] at tl⊢;exact(aE e).bind' fun u u' h=>by
    obtain⟨rfl,he⟩:=h;rw[hu8] at he;cases he;exact tl
 case string.slice e=>
  cases x with
  |string s=>
   simp only[bB];refine(aE e).bind' fun ue ue' h=>?_
   obtain⟨rfl,he⟩:=h;simp only[he] at hc;cases ue with
   |int k=>cases k<;>first|exact qH e s|(exfalso;simp at hc;done)
   |_=>exfalso;simp at hc
  |slice a n c=>cases a<;>exact aH trivial
  |pointer a=>cases a<;>exact aH trivial
  |_=>exact aH trivial
 case pointer.unsafePointer t=>
  have:=kO (N:=N) (π:=π) (src:=src) (x:=x) (fun k h=>by rw[hd] at h;cases h) hx;cases x<;>exact this
 case unsafePointer.pointer t=>
  have:=kO (N:=N) (π:=π) (src:=src) (x:=x) (fun k h=>by rw[hd] at h;cases h) hx;cases x<;>exact this
end
section
variable {P:Program}{π:Nat->Nat}{N V:Nat->Prop}
theorem EP {α:Type}{r:Nat}{k:Option (TypeId×Nat)->Sem α}(h:∀x,Dead P (k x)):Dead P (.shape r k):=fun w hw=>h _ w hw
theorem C1 {α:Type}{a:Addr}{k:Bool->Sem α}(h:∀x,Dead P (k x)):Dead P (.frozen a k):=fun w hw=>h _ w hw
theorem IR {α:Type}{m:Mark}{k:Sem α}(h:Dead P k):Dead P (.mark m k):=fun w hw=>h w hw
theorem AI {α:Type}{k:Program->Sem α}(h:Dead P (k P)):Dead P (.program k):=fun w hw=>h w hw
theorem C0 {α:Type}{c:Prop}[Decidable c]{s t:Sem α}(h1:Dead P s)(h2:Dead P t):Dead P (if c then s else t):=by
 split
 .exact h1
 .exact h2
theorem zr {α β:Type}{c:Prop}[Decidable c]{s t:Sem α}{k:α->Sem β}(h1:Dead P (s>>=k))(h2:Dead P (t>>=k)):Dead P ((if c then s else t)>>=k):=by
 split
 .exact h1
 .exact h2
theorem yt {α:Type}{size sLen n:Nat}{base:Option Addr}{x:Value}{k:Bool->Sem α}(h:∀b,Dead P (k b)):Dead P (Builtin.mayShare size sLen n base x>>=k):=by
 have ze:∀(a:Addr) (m:Nat) (f:Bool->Sem α),(∀b,Dead P (f b))->Dead P (Builtin.holdsCells a m>>=f):=by
  intro a m f hf;unfold Builtin.holdsCells;refine EP fun y=>?_
  cases y<;>exact hf _
 unfold Builtin.mayShare;simp only[bind_assoc,pure_bind];cases base with
 |none=>
  simp only[pure_bind];refine zr (h _) ?_;cases x with
  |slice a _ _=>cases a with
   |none=>exact h _
   |some b=>simp only[bind_assoc,pure_bind];exact ze _ _ _ fun _=>h _
  |_=>exact h _
 |some a=>
  simp only[bind_assoc,pure_bind];refine ze _ _ _ fun z=>C1 fun z'=>?_
  refine zr (h _) ?_;cases x with
  |slice a _ _=>cases a with
   |none=>exact h _
   |some b=>simp only[bind_assoc,pure_bind];exact ze _ _ _ fun _=>h _
  |_=>exact h _
theorem yV (x:Value):bk P π N V Eq (Builtin.lenOf x) (Builtin.lenOf (Value.ren π x)):=by
 unfold Builtin.lenOf;cases x with
 |slice a n c=>simp only[bH];exact al rfl
 |string s=>simp only[bB];exact al rfl
 |_=>exact ai
theorem iJ (size n:Nat)(x:Value):bk P π N V (RC π) (Builtin.firstCells size n x) (Builtin.firstCells size n (Value.ren π x)):=by
 unfold Builtin.firstCells;cases x with
 |slice a m c=>
  simp only[bH];cases a with
  |none=>exact al (by simp[RC])
  |some a=>exact lB a _
 |string s=>
  simp only[bB];refine al ?_;show _=_;exact(ci fun v hv=>by obtain⟨b,_,rfl⟩:=Array.mem_map.1 hv;simp).symm
 |_=>exact ai
theorem pu (z:Array Value)(hz:z.map (Value.ren π)=z)(n:Nat):(Builtin.zeroCells z n).map (Value.ren π)=Builtin.zeroCells z n:=by
 unfold Builtin.zeroCells;exact ko z hz _ _
def XX (P:Program)(ats:Array TypeId):Bool:=(match ats[0]? with
  |some t=>Nl P t
  |none=>true)&&(match ats[1]? with
  |some t=>(match P.underlying t with|some (.int _)=>false|_=>true)
  |none=>false)
theorem nL (n:Nat):bk P π N V Eq (askRoom n) (askRoom n):=by
 unfold askRoom;split
 .exact .mark trivial (.pure rfl)
 .exact al rfl
theorem DN {ats:Array TypeId}{t:TypeId}{args:Array Value}(hc:XX P ats=true):bk P π N V (RV π) (Builtin.append_ ats t args) (Builtin.append_ ats t (args.map (Value.ren π))):=by
 unfold Builtin.append_;simp only[Array.getElem?_map];cases h0:ats[0]? with
 |none=>exact ai
 |some sT=>
  cases h1:args[0]? with
  |none=>exact ai
  |some s=>
    cases h2:args[1]? with
   |none=>exact ai
   |some x=>
    simp only[Option.map_some];refine(aE sT).bind' fun u u' h=>?_
    obtain⟨rfl,hu⟩:=h;cases u with
    |slice elem=>cases s with
     |slice base sLen sCap=>
      simp only[bH];refine(cH elem).bind' fun size size' h=>?_
      obtain⟨rfl,_⟩:=h;simp only[XX,h0,Bool.and_eq_true] at hc;obtain⟨hc0,hc1⟩:=hc;have V8:zf P elem=true:=by simpa [Nl,hu] using hc0
      have hfs:=iJ (P:=P) (π:=π) (N:=N) (V:=V) size sLen (.slice base sLen sCap);rw[bH] at hfs;cases h3:ats[1]? with
      |none=>simp[h3] at hc1
      |some xT=>
       simp only[bind_assoc];simp only[h3] at hc1;refine(aE xT).bind' fun u u' h=>?_
       obtain⟨rfl,hu1⟩:=h;have hni:∀k,u≠.int k:=fun k e=>by simp[hu1,e] at hc1
       cases u
       case int k=>exact absurd rfl (hni k)
       all_goals
        simp only[pure_bind,Bool.not_false,if_true,Bool.false_eq_true,if_false,false_or];refine(yV x).bind' fun n n' h=>?_
        subst h;refine cD ?_ ?_
        .refine(iJ size n x).bind' fun c c' h=>?_
         rw[show c'=_ from h];cases base with
         |none=>exact al (by simp[RV])
         |some a=>
          simp only[Option.map_some];rw[<-iL,Array.toList_map];exact(fA _ _ 0).bind' fun _ _ _=>al (by simp[RV])
        .refine(d9 elem).bind' fun _ _ h=>?_
         obtain⟨rfl,_⟩:=h;refine cD qI ((d9 elem).bind' fun _ _ h=>?_);obtain⟨rfl,_⟩:=h;refine cD (.dead (Dead.bind _ (yt fun b=>C0 (IR (Dead.halt trivial)) (Dead.halt trivial)))) ?_;refine il.bind' fun nc _ h=>?_
         subst h;refine(d9 elem).bind' fun _ _ h=>?_
         obtain⟨rfl,_⟩:=h;refine(nL _).bind' fun _ _ _=>?_
         refine hfs.bind' fun old old' h=>?_
         rw[show old'=_ from h];refine(iJ size n x).bind' fun c c' h=>?_
         rw[show c'=_ from h];refine(eh V8).bind' fun z _ h=>?_
         obtain⟨rfl,kk,hk⟩:=h;have key:=kg (P:=P) (π:=π) (N:=N) (V:=V) elem (old++c++Builtin.zeroCells z.cells (nc-(sLen+n)));rw[Array.map_append,Array.map_append,pu (π:=π) z.cells (by rw[<-iA,et hk])] at key;refine key.bind' fun a a' h=>?_
         rw[show a'=_ from h];exact al (by simp[RV])
     |_=>exact ai
    |_=>exact ai
theorem JX {ats:Array TypeId}{t:TypeId}{args:Array Value}:bk P π N V (RV π) (Builtin.copy_ ats t args) (Builtin.copy_ ats t (args.map (Value.ren π))):=by
 unfold Builtin.copy_;simp only[Array.getElem?_map];cases h0:ats[0]? with
 |none=>exact ai
 |some sT=>
  cases h1:args[0]? with
  |none=>exact ai
  |some s=>cases h2:args[1]? with
   |none=>exact ai
   |some x=>
    simp only[Option.map_some];refine(aE sT).bind' fun u u' h=>?_
    obtain⟨rfl,hu⟩:=h;cases u with
    |slice elem=>cases s with
     |slice base dLen c=>
      simp only[bH];refine(yV x).bind' fun n n' h=>?_
      subst h;refine(cH elem).bind' fun size _ h=>?_
      obtain⟨rfl,_⟩:=h;refine(iJ size _ x).bind' fun c c' h=>?_
      rw[show c'=_ from h];cases base with
      |none=>exact al (by simp[RV,goInt])
      |some a=>
       simp only[Option.map_some];rw[Array.toList_map];exact(fA _ _ 0).bind' fun _ _ _=>al (by simp[RV,goInt])
     |_=>exact ai
    |_=>exact ai
theorem N7 {ats:Array TypeId}{t:TypeId}{args:Array Value}:bk P π N V (RV π) (Builtin.len_ ats t args) (Builtin.len_ ats t (args.map (Value.ren π))):=by
 unfold Builtin.len_;simp only[Array.getElem?_map];cases h0:ats[0]? with
 |none=>exact ai
 |some sT=>
  cases h1:args[0]? with
  |none=>exact ai
  |some s=>
   simp only[Option.map_some];refine(aE sT).bind' fun u u' h=>?_
   obtain⟨rfl,hu⟩:=h;cases u with
   |string=>cases s with
    |string b=>simp only[bB];exact al (by simp[RV,goInt])
    |_=>exact ai
   |array n e=>cases s<;>(simp only[dC,cq,dl,cR,bB,aT,dA,cI,bH,dn,dP,cQ,di,cP,da];exact al (by simp[RV,goInt]))
   |pointer arr=>
    have tl:∀{α:Type} (f:TypeDesc->Sem Value),(∀d,bk P π N V (RV π) (f d) (f d))->bk P π N V (RV π) (underlying arr>>=f) (underlying arr>>=f):=fun f hf=>(aE arr).bind' fun d _ h=>by obtain⟨rfl,_⟩:=h;exact hf d
    cases s<;>(simp only[dC,cq,dl,cR,bB,aT,dA,cI,bH,dn,dP,cQ,di,cP,da];refine tl (α:=Unit) _ fun d=>?_;cases d<;>first|exact ai|exact al (by simp[RV,goInt]))
   |slice e=>cases s with
    |slice a n c=>simp only[bH];exact al (by simp[RV,goInt])
    |_=>exact ai
   |map k e=>cases s with
    |map r=>cases r with
     |none=>simp only[dn];exact al (by simp[RV,goInt])
     |some r=>
      simp only[dn,Option.map_some];refine bk.getObj (k:=fun x=>_) fun o ho=>?_
      cases o<;>first|exact ho.elim|exact ai|exact al (by simp[RV,goInt])
    |_=>exact ai
   |chan d e=>cases s with
    |chan r=>cases r with
     |none=>simp only[dP];exact al (by simp[RV,goInt])
     |some r=>
      simp only[dP,Option.map_some];refine bk.getObj (k:=fun x=>_) fun o ho=>?_
      cases o<;>first|exact ho.elim|exact ai
    |_=>exact ai
   |_=>exact ai
theorem N8 {ats:Array TypeId}{t:TypeId}{args:Array Value}:bk P π N V (RV π) (Builtin.cap_ ats t args) (Builtin.cap_ ats t (args.map (Value.ren π))):=by
 unfold Builtin.cap_;simp only[Array.getElem?_map];cases h0:ats[0]? with
 |none=>exact ai
 |some sT=>
  cases h1:args[0]? with
  |none=>exact ai
  |some s=>
   simp only[Option.map_some];refine(aE sT).bind' fun u u' h=>?_
   obtain⟨rfl,hu⟩:=h;cases u with
   |array n e=>cases s<;>(simp only[dC,cq,dl,cR,bB,aT,dA,cI,bH,dn,dP,cQ,di,cP,da];exact al (by simp[RV,goInt]))
   |pointer arr=>
    have tl:∀{α:Type} (f:TypeDesc->Sem Value),(∀d,bk P π N V (RV π) (f d) (f d))->bk P π N V (RV π) (underlying arr>>=f) (underlying arr>>=f):=fun f hf=>(aE arr).bind' fun d _ h=>by obtain⟨rfl,_⟩:=h;exact hf d
    cases s<;>(simp only[dC,cq,dl,cR,bB,aT,dA,cI,bH,dn,dP,cQ,di,cP,da];refine tl (α:=Unit) _ fun d=>?_;cases d<;>first|exact ai|exact al (by simp[RV,goInt]))
   |slice e=>cases s with
    |slice a n c=>simp only[bH];exact al (by simp[RV,goInt])
    |_=>exact ai
   |chan d e=>cases s with
    |chan r=>cases r with
     |none=>simp only[dP];exact al (by simp[RV,goInt])
     |some r=>
      simp only[dP,Option.map_some];refine bk.getObj (k:=fun x=>_) fun o ho=>?_
      cases o<;>first|exact ho.elim|exact ai
    |_=>exact ai
   |_=>exact ai
theorem Hb {ats:Array TypeId}{t:TypeId}{args:Array Value}(hz:(match ats[0]? with|some t=>Nl P t|none=>true)=true):bk P π N V (RV π) (Builtin.clear_ ats t args) (Builtin.clear_ ats t (args.map (Value.ren π))):=by
 unfold Builtin.clear_;simp only[Array.getElem?_map];cases h0:ats[0]? with
 |none=>exact ai
 |some sT=>
  cases h1:args[0]? with
  |none=>exact ai
  |some s=>
   simp only[Option.map_some];rw[h0] at hz;refine(aE sT).bind' fun u u' h=>?_
   obtain⟨rfl,hu⟩:=h;have fin:∀V:Nat->Prop,bk P π N V (RV π) (Pure.pure (.tuple #[])) (Pure.pure (.tuple #[])):=fun _=>al (by simp[RV])
   cases s with
   |map r=>cases r with
    |none=>simp only[dn];cases u<;>exact fin _
    |some r=>
     simp only[dn,Option.map_some];cases u<;>
     .refine bk.getObj (k:=fun x=>_) fun o ho=>?_
      cases o with
      |map es c=>
       have e:=bk.setObj (P:=P) (π:=π) (N:=N) (V:=fun i=>V i\/i=r\/inner (.map es c) i) (R:=RV π) (r:=r) (o:= .map #[] c) (k:=Pure.pure (.tuple #[])) (k':=Pure.pure (.tuple #[])) trivial (fun _ h=>h.elim) (fin _);simp only[dz,Array.map_empty] at e;exact e
      |_=>first|exact ho.elim|exact ai
   |slice a n cp=>cases a with
    |none=>simp only[bH];cases u<;>exact fin _
    |some a=>cases n with
     |zero=>simp only[bH];cases u<;>exact fin _
     |succ n=>
      simp only[bH,Option.map_some];cases u with
      |slice elem=>
       have V8:zf P elem=true:=by simpa [Nl,hu] using hz
       refine(eh V8).bind' fun z _ h=>?_
       obtain⟨rfl,k,hk⟩:=h;have key:=fA (P:=P) (π:=π) (N:=N) (V:=V) a (Builtin.zeroCells z.cells (n+1)).toList 0;rw[<-Array.toList_map,pu (π:=π) z.cells (by rw[<-iA,et hk])] at key;exact key.bind' fun _ _ _=>fin _
      |_=>exact ai
   |_=>cases u<;>exact ai
end
section
variable {P:Program}{π:Nat->Nat}{N V:Nat->Prop}
theorem Df (hi:∀i j,π i=π j->i=j)(a b:Option Addr):(a.map (bi π)==b.map (bi π))=(a==b):=by
 rw[Bool.eq_iff_iff];simp only[beq_iff_eq];constructor
 .intro h
  cases a<;>cases b<;>simp_all;exact vR hi h
 .intro h;rw[h]
theorem De (hi:∀i j,π i=π j->i=j)(a b:Option Nat):(a.map π==b.map π)=(a==b):=by
 rw[Bool.eq_iff_iff];simp only[beq_iff_eq];constructor
 .intro h
  cases a<;>cases b<;>simp_all;exact hi _ _ h
 .intro h;rw[h]
theorem uj {α β γ:Type}(f:α->β)(g:γ->β)(p:β->β->Bool)(q:α->γ->Bool):∀(l:List α) (m:List γ),(∀a∈l,∀b∈m,p (f a) (g b)=q a b)->(((l.map f).zip (m.map g)).all fun x=>p x.1 x.2)=((l.zip m).all fun x=>q x.1 x.2)
 |[],_,_=>by simp
 |_::_,[],_=>by simp
 |a::l,b::m,h=>by
  simp only[List.map_cons,List.zip_cons_cons,List.all_cons];rw[h a (by simp) b (by simp),uj f g p q l m fun a ha b hb=>h a (by simp[ha]) b (by simp[hb])]
theorem z0 (hi:∀i j,π i=π j->i=j):∀(n:Nat) (v w:Value),Instr.sameBits n (Value.ren π v) (Value.ren π w)=Instr.sameBits n v w:=by
 intro n
 induction n with
 |zero=>
  intro v w;cases v<;>cases w<;>simp[Instr.sameBits,Df hi,De hi]
 |succ n ih=>
  intro v w;cases v<;>cases w<;>simp[Instr.sameBits,Df hi,De hi,ih];rw[uj (Value.ren π) (Value.ren π) (Instr.sameBits n) (Instr.sameBits n) _ _ fun a _ b _=>ih a b]
def tA (P:Program)(t:TypeId):Bool:=match P.underlying t with|some .string=>true|_=>false
theorem zV {t:TypeId}(ht:tA P t=true)(x y:Value):bk P π N V Eq (Op.equal t x y) (Op.equal t (Value.ren π x) (Value.ren π y)):=by
 unfold Op.equal;rw[show Op.maxDepth=9999+1 from rfl];unfold Op.equalIn;refine(aE t).bind' fun u u' h=>?_
 obtain⟨rfl,hu⟩:=h;simp only[tA,hu] at ht;cases u with
 |string=>
  cases x with
  |string a=>cases y with
   |string b=>simp only[bB];exact al rfl
   |_=>exact ai
  |_=>exact ai
 |_=>simp at ht
theorem mj {empty:Bool}{t:TypeId}(ht:tA P t=true)(k:Value):bk P π N V Eq (Instr.checkKey empty 10000 t k) (Instr.checkKey empty 10000 t (Value.ren π k)):=by
 unfold Instr.checkKey;refine(aE t).bind' fun u u' h=>?_
 obtain⟨rfl,hu⟩:=h;simp only[tA,hu] at ht;cases u with
 |string=>exact al rfl
 |_=>simp at ht
theorem BM (a b:Value):Instr.sameNow .string (Value.ren π a) (Value.ren π b)=Instr.sameNow .string a b:=by
 cases a<;>cases b<;>simp[Instr.sameNow]
theorem t7 (k:Value):∀(es:List MapEntry) (i:Nat),Instr.findNow .string (Value.ren π k) (es.map (lD π)) i=(Instr.findNow .string k es i).map (Option.map fun p=>(p.1,Value.ren π p.2))
 |[],i=>rfl
 |e::es,i=>by
  simp only[List.map_cons,Instr.findNow];rw[show(lD π e).key=Value.ren π e.key from rfl,BM];cases Instr.sameNow .string k e.key with
  |none=>rfl
  |some b=>cases b with
   |true=>rfl
   |false=>exact t7 k es (i+1)
theorem nI {t:TypeId}(ht:tA P t=true)(k:Value):∀(es:List MapEntry) (i:Nat),bk P π N V (fun r r'=>r'=r.map fun p=>(p.1,Value.ren π p.2)) (Instr.findAsking t k es i) (Instr.findAsking t (Value.ren π k) (es.map (lD π)) i)
 |[],i=>al rfl
 |e::es,i=>by
  simp only[List.map_cons,Instr.findAsking];refine(zV ht k e.key).bind' fun b b' h=>?_
  subst h;exact cD (al rfl) (nI ht k es (i+1))
theorem nG {t:TypeId}(ht:tA P t=true)(k:Value)(es:List MapEntry):bk P π N V (fun r r'=>r'=r.map fun p=>(p.1,Value.ren π p.2)) (Instr.findKey t k es) (Instr.findKey t (Value.ren π k) (es.map (lD π))):=by
 unfold Instr.findKey;refine(aE t).bind' fun u u' h=>?_
 obtain⟨rfl,hu⟩:=h;have ht':=ht;simp only[tA,hu] at ht';cases u with
 |string=>
  rw[t7];cases Instr.findNow .string k es 0 with
  |some r=>exact al rfl
  |none=>exact nI ht k es 0
 |_=>simp at ht'
def KW (P:Program)(t:TypeId):Bool:=match P.underlying t with
 |some (.map k e)=>tA P k&&zf P e
 |_=>true
theorem DJ {t:TypeId}(hm:KW P t=true)(x k:Value)(ok:Bool):bk P π N V (RV π) (Instr.lookup t x k ok) (Instr.lookup t (Value.ren π x) (Value.ren π k) ok):=by
 unfold Instr.lookup;refine(aE t).bind' fun u u' h=>?_
 obtain⟨rfl,hu⟩:=h;simp only[KW,hu] at hm;cases u with
 |map kt e=>
  simp only[Bool.and_eq_true] at hm;cases x with
  |map r=>cases r with
   |none=>
    simp only[dn,Option.map_none,pure_bind];refine(mj hm.1 k).bind' fun _ _ _=>?_
    refine(nG hm.1 k #[].toList).bind' fun r r' h=>?_
    subst h;cases r with
    |some p=>exact al (by cases ok<;>simp[RV])
    |none=>
     refine(eh hm.2).bind' fun z z' h=>?_
     obtain⟨rfl,n,hn⟩:=h;exact al (by cases ok<;>simp[RV,et hn])
   |some r=>
    simp only[dn,Option.map_some];refine bk.getObj (k:=fun x=>_) fun o ho=>?_
    cases o with
    |map es c=>
     have e1:(es.map (lD π)).isEmpty=es.isEmpty:=by simp[Array.isEmpty]
     have e2:(es.map (lD π)).toList=es.toList.map (lD π):=Array.toList_map;simp only[dz,Sem.bind,pure_bind,e1,e2];refine(mj hm.1 k).bind' fun _ _ _=>?_
     refine(nG hm.1 k _).bind' fun r r' h=>?_
     subst h;cases r with
     |some p=>exact al (by cases ok<;>simp[RV])
     |none=>
      refine(eh hm.2).bind' fun z z' h=>?_
      obtain⟨rfl,n,hn⟩:=h;exact al (by cases ok<;>simp[RV,et hn])
    |_=>first|exact ho.elim|exact ai
  |_=>exact ai
 |_=>exact ai
theorem sw (hi:∀i j,π i=π j->i=j)(old new:Value):bk P π N V (RV π) (Instr.keyThatStays old new) (Instr.keyThatStays (Value.ren π old) (Value.ren π new)):=by
 unfold Instr.keyThatStays;rw[z0 hi];refine cD (al rfl) (il.bind' fun c c' h=>?_);subst h;exact al (by by_cases h:c=0<;>simp[RV,h])
theorem Eh (es:Array MapEntry)(i:Nat)(k v:Value):(es.modify i fun e=>{e with key:=k,val:=v}).map (lD π)=(es.map (lD π)).modify i fun e=>{e with key:=Value.ren π k,val:=Value.ren π v}:=by
 apply Array.ext
 .simp
 .intro j h1 h2
  simp only[Array.getElem_map,Array.getElem_modify];split<;>rfl
theorem x3 (hi:∀i j,π i=π j->i=j){t:TypeId}(hm:KW P t=true)(x k v:Value):bk P π N V Eq (Instr.mapUpdate t x k v) (Instr.mapUpdate t (Value.ren π x) (Value.ren π k) (Value.ren π v)):=by
 unfold Instr.mapUpdate;refine(aE t).bind' fun u u' h=>?_
 obtain⟨rfl,hu⟩:=h;simp only[KW,hu] at hm;cases u with
 |map kt e=>
  simp only[Bool.and_eq_true] at hm;cases x with
  |map r=>cases r with
   |none=>simp only[dn];exact sr
   |some r=>
    simp only[dn,Option.map_some];refine bk.getObj (k:=fun x=>_) fun o ho=>?_
    cases o with
    |map es c=>
     have e2:(es.map (lD π)).toList=es.toList.map (lD π):=Array.toList_map;simp only[dz,Sem.bind,e2];refine(mj hm.1 k).bind' fun _ _ _=>?_
     refine(nG hm.1 k _).bind' fun q q' h=>?_
     subst h;cases q with
     |some p=>
      obtain⟨i,pv⟩:=p;have e3:(((es.map (lD π))[i]?).map (·.key)).getD (Value.ren π k)=Value.ren π (((es[i]?).map (·.key)).getD k):=by
       rw[Array.getElem?_map];cases es[i]? <;>rfl
      simp only[Option.map_some,e3];refine(sw hi _ k).bind' fun kk kk' h=>?_
      rw[show kk'=_ from h,<-Eh];exact bk.setObj (o:= .map (es.modify i fun e=>{e with key:=kk,val:=v}) c) trivial (fun _ h=>h.elim) (.pure rfl)
     |none=>
      simp only[Option.map_none];have:=bk.setObj (P:=P) (π:=π) (N:=N) (V:=fun i=>V i\/i=r\/inner (.map es c) i) (R:=Eq) (r:=r) (o:= .map (es.push {key:=k,val:=v,born:=c}) (c+1)) (k:=Sem.pure ()) (k':=Sem.pure ()) trivial (fun _ h=>h.elim) (.pure rfl);simp only[dz,Array.map_push] at this;exact this
    |_=>first|exact ho.elim|exact ai
  |_=>exact ai
 |_=>exact ai
theorem G7 {t:TypeId}(x:Value):bk P π N V (RV π) (Instr.range t x) (Instr.range t (Value.ren π x)):=by
 unfold Instr.range;refine(aE t).bind' fun u u' h=>?_
 obtain⟨rfl,hu⟩:=h;have nw:∀(V:Nat->Prop) (o:Obj),mZ o->(∀i,¬inner o i)->bk P π N V (RV π) (newObj o>>=fun b=>Pure.pure (.pointer (some ⟨b,0,none⟩)):Sem Value) (newObj (dz π o)>>=fun b=>Pure.pure (.pointer (some ⟨b,0,none⟩)):Sem Value):=fun V o h1 h2=>
  bk.new (o:=o) h1 (fun i h=>(h2 i h).elim) fun b _=> .pure (by simp[RV,bi])
 cases u with
 |string=>cases x with
  |string s=>simp only[bB,pure_bind];exact nw _ (.stringIter s 0) trivial (fun _ h=>h)
  |_=>exact fx
 |map k e=>cases x with
  |map r=>cases r with
   |none=>simp only[dn,pure_bind];exact nw _ (.mapIter none 0 #[] 0) trivial (fun _ h=>h)
   |some r=>
    simp only[dn,Option.map_some];refine bk.getObj (k:=fun x=>_) fun o ho=>?_
    cases o with
    |map es c=>simp only[dz,Sem.bind,pure_bind];exact nw _ (.mapIter (some r) c #[] c) trivial (fun _ h=>h)
    |_=>first|exact ho.elim|exact ai
  |_=>exact fx
 |_=>exact fx
theorem JV (it:Value)(t:TypeId):bk P π N V (RV π) (Instr.next it true t) (Instr.next (Value.ren π it) true t):=by
 unfold Instr.next;have ov:∀V:Nat->Prop,bk P π N V (RV π) (Pure.pure (.tuple #[.bool false])) (Pure.pure (.tuple #[.bool false])):=fun _=>al (by simp[RV])
 cases it with
 |pointer a=>cases a with
  |none=>exact ai
  |some a=>
   obtain⟨r,off,sp⟩:=a;cases off with
   |succ n=>exact ai
   |zero=>
    simp only[aT,Option.map_some,bi];refine bk.getObj (k:=fun x=>_) fun o ho=>?_
    cases o with
    |stringIter s pos=>
     simp only[dz,Sem.bind];refine cD ?_ (ov _);exact bk.setObj (o:= .stringIter s (pos+(Utf8.decode s pos).2)) trivial (fun _ h=>h.elim) (.pure (by simp[RV,goInt]))
    |mapIter m since seen st=>
     simp only[dz,Sem.bind];cases m<;>exact ai
    |_=>first|exact ho.elim|exact ai
 |_=>exact ai
end
section
variable {P:Program}{π:Nat->Nat}{N V:Nat->Prop}
theorem x4 {t:TypeId}(hz:Nl P t=true)(l c:Value):bk P π N V (RV π) (Instr.makeSlice t l c) (Instr.makeSlice t (Value.ren π l) (Value.ren π c)):=by
 unfold Instr.makeSlice;refine(aE t).bind' fun u u' h=>?_
 obtain⟨rfl,hu⟩:=h;cases u with
 |slice elem=>
  have V8:zf P elem=true:=by simpa [Nl,hu] using hz
  refine(j5 l).bind' fun a _ h=>?_
  subst h;refine(j5 c).bind' fun b _ h=>?_
  subst h;refine(d9 elem).bind' fun i _ h=>?_
  obtain⟨rfl,_⟩:=h;dsimp only;refine cD ?_ ?_
  .refine cD qI (cD qI ?_)
   exact .dead (ub fun n=>by simp only[Sem.bind];exact Dead.bind _ (dw _))
  .refine(nL _).bind' fun _ _ _=>?_
   refine(cH elem).bind' fun n _ h=>?_
   obtain⟨rfl,_⟩:=h;have fin:∀z:Array Value,z.map (Value.ren π)=z->∀k x y,bk P π N V (RV π) (newRow elem ((Array.range k).map fun i=>z[i%z.size]!)>>=fun a=>Pure.pure (.slice (some a) x y)) (newRow elem ((Array.range k).map fun i=>z[i%z.size]!)>>=fun a=>Pure.pure (.slice (some a) x y)):=by
    intro z hz k x y;have key:=kg (P:=P) (π:=π) (N:=N) (V:=V) elem ((Array.range k).map fun i=>z[i%z.size]!);rw[ko z hz] at key;exact key.bind' fun a a' h=>by rw[show a'=_ from h];exact al (by simp[RV])
   refine cD ?_ ?_
   .exact fin #[] (by simp) _ _ _
   .refine(eh V8).bind' fun z _ h=>?_
    obtain⟨rfl,k,hk⟩:=h;exact fin _ (by rw[<-iA,et hk]) _ _ _
 |_=>exact ai
theorem JW (x y:Value):bk P π N V (RV π) (Builtin.min2 x y) (Builtin.min2 (Value.ren π x) (Value.ren π y)):=by
 unfold Builtin.min2;cases x with
 |int k a=>cases y with
  |int k' b=>simp only[cq];exact dJ (lU trivial)
  |pointer p=>cases p<;>first|exact ai|exact aH trivial
  |_=>exact ai
 |float k a=>cases y with
  |float k' b=>
   simp only[dl];refine dJ ?_;split
   .exact gn pqc fun _ _=>lU trivial
   all_goals exact lU trivial
  |pointer p=>cases p<;>first|exact ai|exact aH trivial
  |_=>exact ai
 |string a=>cases y with
  |string b=>simp only[bB];exact dJ (gn (tN _ _ _) fun v _=>gn (y6 v) fun b _=>by cases b<;>exact lU trivial)
  |pointer p=>cases p<;>first|exact ai|exact aH trivial
  |_=>exact ai
 |pointer p=>cases p with
  |some a=>exact aH trivial
  |none=>cases y with
   |pointer p=>cases p<;>first|exact ai|exact aH trivial
   |_=>exact ai
 |_=>cases y with
  |pointer p=>cases p<;>first|exact ai|exact aH trivial
  |_=>exact ai
theorem vF {f f':Value->Value->Sem Value}(hf:∀x y,bk P π N V (RV π) (f x y) (f' (Value.ren π x) (Value.ren π y))):∀(l:List Value) (x:Value),bk P π N V (RV π) (l.foldlM f x) ((l.map (Value.ren π)).foldlM f' (Value.ren π x))
 |[],x=>al rfl
 |y::l,x=>by
  simp only[List.foldlM_cons,List.map_cons];refine(hf x y).bind' fun z z' h=>?_
  rw[show z'=_ from h];exact vF hf l z
theorem N6 {ats:Array TypeId}{t:TypeId}{args:Array Value}:bk P π N V (RV π) (Builtin.min_ ats t args) (Builtin.min_ ats t (args.map (Value.ren π))):=by
 unfold Builtin.min_;rw[Array.toList_map];cases args.toList with
 |nil=>exact ai
 |cons x l=>exact vF JW l x
theorem pz:∀(n:Nat) (a:Addr) (acc:ByteArray),bk P π N V Eq (loadBytes a acc n) (loadBytes (bi π a) acc n)
 |0,a,acc=>al rfl
 |n+1,a,acc=>by
  simp only[loadBytes];refine(nF a).bind' fun v v' h=>?_
  rw[show v'=_ from h];cases v with
  |int k m=>
   simp only[cq];cases k<;>first|exact ai|(rw[<-iL];exact pz n _ _)
  |_=>exact ai
theorem vJ {α:Type}{R:α->α->Prop}{f f':Array Value->Sem α}{args:Array Value}(h1:∀x y,args=#[x,y]->bk P π N V R (f #[x,y]) (f' #[Value.ren π x,Value.ren π y]))(h2:args.size≠2->bk P π N V R (f args) (f' (args.map (Value.ren π)))):bk P π N V R (f args) (f' (args.map (Value.ren π))):=by
 obtain⟨l⟩:=args
 match l with
 |[x,y]=>simpa using h1 x y rfl
 |[]=>exact h2 (by simp)
 |[_]=>exact h2 (by simp)
 |_::_::_::_=>exact h2 (by simp)
theorem sn {ats:Array TypeId}{t:TypeId}{args:Array Value}(hN:∀r,V r->¬N r)(hv:∀v∈args,VV V v):bk P π N V (RV π) (Builtin.unsafeString_ ats t args) (Builtin.unsafeString_ ats t (args.map (Value.ren π))):=by
 refine vJ (f:=Builtin.unsafeString_ ats t) (f':=Builtin.unsafeString_ ats t) (fun x y he=>?_) fun h=>?_
 .subst he
  unfold Builtin.unsafeString_;cases x with
  |pointer p=>
   have e:Value.ren π (.pointer p)= .pointer (p.map (bi π)):=aT _;rw[e];refine(j5 y).bind' fun n _ h=>?_
   subst h;cases ats[0]? with
   |none=>exact ai
   |some pt=>
    refine cD qI (cD (aH trivial) ?_);cases p with
    |none=>exact cD (al (by simp[RV])) sr
    |some a=>
     have hva:V a.block:=(hv _ (by simp)).ptr;refine cD (al (by simp[RV])) ?_;refine(vG pt).bind' fun e _ h=>?_
     subst h;refine(mU hva).bind' fun b _ h=>?_
     subst h;refine cD ?_ (aH trivial);refine(pz _ a _).bind' fun s _ h=>?_
     subst h;exact bk.freeze hva (hN _ hva) (al (by simp[RV]))
  |_=>exact ai
 .obtain⟨l⟩:=args
  match l,h with
  |[],_=>exact ai
  |[_],_=>exact ai
  |[_,_],h=>exact absurd rfl h
  |_::_::_::_,_=>exact ai
theorem po {ats:Array TypeId}{t:TypeId}{args:Array Value}(hv:∀v∈args,VV V v):bk P π N V (RV π) (Builtin.unsafeSliceData_ ats t args) (Builtin.unsafeSliceData_ ats t (args.map (Value.ren π))):=by
 obtain⟨l⟩:=args
 match l,hv with
 |[],_=>exact ai
 |[x],hv=>
  cases x with
  |slice p n c=>
   have e:(Array.mk [Value.slice p n c]).map (Value.ren π)=#[.slice (p.map (bi π)) n c]:=by simp
   rw[e];unfold Builtin.unsafeSliceData_;cases p with
   |none=>exact al (by simp[RV])
   |some a=>
    have hva:V a.block:=hv (.slice (some a) n c) (by simp) _ (.slice rfl);refine cD (al (by simp[RV])) ?_;refine(p4 hva).bind' fun x _ h=>?_
    subst h;cases x with
    |some z=>exact al (by simp[RV])
    |none=>
     refine(vG t).bind' fun e _ h=>?_
     subst h;exact nD hva
  |_=>exact ai
 |_::_::_,_=>exact ai
theorem xC {α:Type}:∀(a:Ask α) (w:World),(w.ask a).2.heap=w.heap
 |.done a,w=>rfl
 |.ask what range k,w=>by
  simp only[World.ask];split
  .exact xC _ _
  .exact xC _ _
theorem Mq {α:Type}{c:Sys}{k:SysRet->Sem α}(h:∀r,Dead P (k r)):Dead P (.sys c k):=by
 intro w hw;have e:(w.sys c).2.heap=w.heap:=by
  unfold World.sys;have:=xC (Kernel.perform c w.os) w;split
  .rfl
  .rename_i r os w' heq
   rw[heq] at this;exact this
 exact h _ _ fun b o hb=>hw b o (by rw[<-e];exact hb)
theorem EQ (v:Value):Dead P (Instr.panic v):=by
 unfold Instr.panic;cases v with
 |iface t v=>exact Dead.halt trivial
 |nilIface=>
  unfold Instr.panicnil;simp only[bind_assoc];refine Mq fun r=>?_
  cases r with
  |strings env=>
   refine AI ?_;simp only[pure_bind];exact C0 (Dead.halt trivial) (dw _)
  |_=>exact Dead.halt trivial
 |_=>exact Dead.halt trivial
theorem gZ:∀(l:List FieldStep) (t:TypeId) (x:Option Value),bk P π N V (fun r r'=>(∃b,r= .error b/\r'= .error b)\/∃t y,r= .ok (t,y)/\r'= .ok (t,y.map (Value.ren π))) (followBlind l t x) (followBlind l t (x.map (Value.ren π)))
 |[],t,x=>al (.inr ⟨_,_,rfl,rfl⟩)
 |s::l,t,x=>by
  simp only[followBlind];refine(aE s.struct).bind' fun u _ h=>?_
  obtain⟨rfl,_⟩:=h;cases u with
  |struct fs=>
   dsimp only;cases fs[s.index]? with
   |none=>exact ai
   |some f=>
    dsimp only;cases s.deref with
    |true=>cases x with
     |none=>exact al (.inl ⟨_,rfl,rfl⟩)
     |some x=>cases x with
      |pointer p=>cases p with
       |none=>simp only[Option.map_some,aT];exact al (.inl ⟨_,rfl,rfl⟩)
       |some a=>simp only[Option.map_some,aT];exact gZ l f.type none
      |_=>exact ai
    |false=>cases x with
     |none=>exact gZ l f.type none
     |some x=>cases x with
      |agg cs=>
       simp only[Option.map_some,di];refine(kf f.type cs f.offset).bind' fun v v' h=>?_
       obtain⟨rfl,_⟩:=h;exact gZ l f.type (some v)
      |_=>exact ai
  |_=>exact ai
theorem qJ:∀(n:Nat) (t:TypeId) (v:Value) (name:String),bk P π N V Eq (nilAhead n t v name) (nilAhead n t (Value.ren π v) name)
 |0,_,_,_=>al rfl
 |n+1,t,v,name=>by
  simp only[nilAhead];refine(d9 t).bind' fun i _ h=>?_
  obtain⟨rfl,_⟩:=h;cases i.methods.find? (fun x=>x.name==name) with
  |none=>exact ai
  |some m=>
   dsimp only;refine(gZ _ t (some v)).bind' fun r r' h=>?_
   rcases h with⟨b,rfl,rfl⟩|⟨xt,y,rfl,rfl⟩
   .exact al rfl
   .dsimp only
    cases m.func with
    |none=>cases y with
     |none=>exact al rfl
     |some y=>cases y with
      |iface t v=>simp only[Option.map_some,cQ];exact qJ n t v name
      |nilIface=>simp only[Option.map_some,cI];exact al rfl
      |_=>exact ai
    |some q=>
     obtain⟨f,b⟩:=q;cases b with
     |true=>cases y<;>exact al rfl
     |false=>
      refine(aE xt).bind' fun u _ h=>?_
      obtain⟨rfl,_⟩:=h;cases u with
      |pointer e=>cases y with
       |none=>exact al rfl
       |some y=>cases y with
        |pointer p=>cases p<;>(simp only[Option.map_some,aT];exact al rfl)
        |_=>simp only[Option.map_some,dC,cq,dl,cR,bB,aT,dA,cI,bH,dn,dP,cQ,di,cP,da];exact al rfl
      |_=>cases y<;>exact al rfl
end
section
variable {P:Program}{π:Nat->Nat}{N V:Nat->Prop}
theorem DL (v:Value):bk P π N V Eq (Extern.Bytes.asByte v) (Extern.Bytes.asByte (Value.ren π v)):=by
 unfold Extern.Bytes.asByte;cases v with
 |int k n=>simp only[cq];cases k<;>first|exact ai|exact al rfl
 |_=>exact ai
theorem nE:∀(n:Nat) (a:Addr) (acc:ByteArray),bk P π N V Eq (Extern.Bytes.loadBytes a n acc) (Extern.Bytes.loadBytes (bi π a) n acc)
 |0,a,acc=>al rfl
 |n+1,a,acc=>by
  simp only[Extern.Bytes.loadBytes];refine(nF a).bind' fun v v' h=>?_
  rw[show v'=_ from h];cases v with
  |int k m=>
   simp only[cq];cases k<;>first|exact ai|(rw[<-iL];exact nE n _ _)
  |_=>exact ai
theorem nK (v:Value):bk P π N V Eq (Extern.Bytes.bytesOf v) (Extern.Bytes.bytesOf (Value.ren π v)):=by
 unfold Extern.Bytes.bytesOf;cases v with
 |string s=>simp only[bB];exact al rfl
 |slice a n c=>
  simp only[bH];cases a with
  |none=>exact al rfl
  |some a=>exact nE n a _
 |_=>exact ai
theorem zS (args:Array Value):bk P π N V (RV π) (Extern.AbiNoEscape.same args) (Extern.AbiNoEscape.same (args.map (Value.ren π))):=by
 obtain⟨l⟩:=args
 match l with
 |[]=>exact ai
 |[x]=>
  have e:(Array.mk [x]).map (Value.ren π)=#[Value.ren π x]:=by simp
  rw[e];exact al rfl
 |_::_::_=>exact ai
theorem x5 (args:Array Value):bk P π N V (RV π) (Extern.BytealgIndexByte.indexByte args) (Extern.BytealgIndexByte.indexByte (args.map (Value.ren π))):=by
 refine vJ (f:=Extern.BytealgIndexByte.indexByte) (f':=Extern.BytealgIndexByte.indexByte) (fun x y he=>?_) fun h=>?_
 .refine(nK x).bind' fun b _ h=>?_
  subst h;refine(DL y).bind' fun c _ h=>?_
  subst h;cases (List.range b.size).find? fun i=>b[i]! ==c with
  |none=>exact al (by simp[RV,goInt])
  |some i=>exact al (by simp[RV,goInt])
 .obtain⟨l⟩:=args
  match l,h with
  |[],_=>exact ai
  |[_],_=>exact ai
  |[_,_],h=>exact absurd rfl h
  |_::_::_::_,_=>exact ai
theorem vE (h0:π 0=0)(hP1:P.globals.size<=1)(name:String):bk P π N V (RA π) (globalAddr name) (globalAddr name):=by
 unfold globalAddr;refine cx.bind' fun z z' h=>?_
 rw[h.1,h.2];cases h:P.globals.findIdx? fun x=>x.name==name with
 |none=>exact ai
 |some g=>
  have hg:g<P.globals.size:=by
   have:=Array.findIdx?_eq_some_iff_findIdx_eq.1 h;exact this.1
  have:g=0:=by omega
  subst this;exact al (by simp[RA,bi,h0])
theorem zU (h0:π 0=0)(hP1:P.globals.size<=1)(args:Array Value):bk P π N V (RV π) (Extern.BytealgIndex.index args) (Extern.BytealgIndex.index (args.map (Value.ren π))):=by
 refine vJ (f:=Extern.BytealgIndex.index) (f':=Extern.BytealgIndex.index) (fun x y he=>?_) fun h=>?_
 .refine(nK x).bind' fun a _ h=>?_
  subst h;refine(nK y).bind' fun b _ h=>?_
  subst h;have hm:bk P π N V Eq Extern.BytealgIndex.maxLen Extern.BytealgIndex.maxLen:=by
   unfold Extern.BytealgIndex.maxLen;refine(vE h0 hP1 _).bind' fun g g' h=>?_
   rw[show g'=_ from h];refine(nF g).bind' fun v v' h=>?_
   rw[show v'=_ from h];exact j5 v
  refine hm.bind' fun m _ h=>?_
  subst h;refine cD (aH trivial) (cD (aH trivial) ?_);cases (List.range (a.size+1-b.size)).find? fun i=>a.extract i (i+b.size)==b with
  |none=>exact al (by simp[RV,goInt])
  |some i=>exact al (by simp[RV,goInt])
 .obtain⟨l⟩:=args
  match l,h with
  |[],_=>exact ai
  |[_],_=>exact ai
  |[_,_],h=>exact absurd rfl h
  |_::_::_::_,_=>exact ai
theorem xh:∀(n t:Nat) (acc:Array Value),(Extern.BytealgMakeNoZero.digits n t acc).map (Value.ren π)=Extern.BytealgMakeNoZero.digits n t (acc.map (Value.ren π))
 |0,_,_=>rfl
 |n+1,t,acc=>by
  simp only[Extern.BytealgMakeNoZero.digits];rw[xh n,Array.map_push,cq]
theorem vD (ps rs:Array TypeId)(args:Array Value):bk P π N V (RV π) (Extern.BytealgMakeNoZero.makeNoZero ps rs args) (Extern.BytealgMakeNoZero.makeNoZero ps rs (args.map (Value.ren π))):=by
 obtain⟨l⟩:=args
 match l with
 |[]=>exact ai
 |[x]=>
  cases x with
  |int k n=>
   have e:(Array.mk [Value.int k n]).map (Value.ren π)=#[.int k n]:=by simp
   rw[e];cases k with
   |i64=>
    unfold Extern.BytealgMakeNoZero.makeNoZero;cases rs[0]? with
    |none=>exact ai
    |some t=>
     refine(aE t).bind' fun u _ h=>?_
     obtain⟨rfl,_⟩:=h;cases u with
     |slice elem=>
      refine cD qI ?_;refine il.bind' fun c _ h=>?_
      subst h;refine(nL _).bind' fun _ _ _=>?_
      refine il.bind' fun b _ h=>?_
      subst h;have key:=kg (P:=P) (π:=π) (N:=N) (V:=V) elem (Extern.BytealgMakeNoZero.digits c b #[]);rw[xh,Array.map_empty] at key;refine key.bind' fun a a' h=>?_
      rw[show a'=_ from h];exact al (by simp[RV])
     |_=>exact ai
   |_=>exact ai
  |_=>exact ai
 |_::_::_=>exact ai
def RN (π:Nat->Nat)(S:FuncId->Bool):Next->Next->Prop
 |.value v,n'=>n'= .value (Value.ren π v)
 |.skip,n'=>n'= .skip
 |.enter f ae,n'=>n'= .enter f (ae.map (Value.ren π))/\S f=true
 |_,_=>False
def mY:Operand->Bool
 |.tmp _|.func _=>true
 |.const v=>iY 8 v
 |.global _=>false
def Al:Operand->Bool
 |.const (.pointer none)=>true
 |_=>false
def KN (P:Program)(S E:FuncId->Bool)(str:Bool)(c:Call):Bool:=match c.callee with
 |.builtin b=>(match b with
  |.len|.cap|.copy|.min=>true
  |.unsafeSliceData|.unsafeString=>str
  |.append=>XX P c.argTypes
  |.clear=>(match c.argTypes[0]? with|some t=>Nl P t|none=>true)
  |_=>false)
 |.value (.func f)=>S f||E f
 |_=>false
def KL (P:Program)(S E:FuncId->Bool)(str:Bool):Op->Bool
 |.move _|.assign _|.pick _ _ _|.box _ _|.load _ _|.store _ _ _|.nilCheck _|.unOp _ _ _|.makeInterface _ _|.makeMap _ _
 |.field _ _ _|.indexAddr _ _ _|.index _ _ _|.range _ _|.extract _ _|.panic _=>true
 |.next _ b=>b
 |.alloc t|.build t _=>zf P t
 |.buildSlice t _ _|.makeSlice t _ _=>Nl P t
 |.binOp op t x y _=>(match op with
  |.eql|.neq=>((eqTy P 20 t||(str&&kW P t))&&!P.eqGuardType P.depth t)||Al x||Al y
  |_=>true)
 |.convert s d _=>XG P s d
 |.slice t _ _ _ _=>(match P.underlying t with|some (.pointer _)=>false|_=>true)
 |.fieldAddr s _ f=>LI P s f
 |.lookup t _ _ _|.mapUpdate t _ _ _=>KW P t
 |.call c=>KN P S E str c
 |_=>false
def lF (P:Program)(S E:FuncId->Bool)(str:Bool)(o:Oper):Bool:=KL P S E str o.op&&o.op.operands.all mY
structure XZ (P:Program)(π:Nat->Nat)(N:Nat->Prop)(S E:FuncId->Bool)(str:Bool)(V:Nat->Prop):Prop where
 inj:∀i j,π i=π j->i=j
 zero:π 0=0
 yl:P.globals.size<=1
 body:∀f,S f=true->∃fn,P.funcs[f]? =some fn/\(fn.name== "runtime.NumGoroutine")=false/\fn.body.isSome=true
 ext:∀f,E f=true->∀(args:Array Value) (V:Nat->Prop),bk P π N V (RN π S) (callFunc f args) (callFunc f (args.map (Value.ren π)))
 str:str=true->∀r,V r->¬N r
theorem eK {S:FuncId->Bool}{s s':Sem Value}(h:bk P π N V (RV π) s s'):bk P π N V (RN π S) (do Pure.pure (.value (<-s)):Sem Next) (do Pure.pure (.value (<-s')):Sem Next):=h.bind' fun v v' h=>by rw[show v'=_ from h];exact al rfl
theorem Rh {S:FuncId->Bool}{s s':Sem Unit}(h:bk P π N V Eq s s'):bk P π N V (RN π S) (do s;Pure.pure .skip:Sem Next) (do s';Pure.pure .skip:Sem Next):=h.bind' fun _ _ _=>al rfl
theorem zW {S E:FuncId->Bool}{str:Bool}(h:XZ P π N S E str V){f:FuncId}(hf:S f=true\/E f=true)(args:Array Value):bk P π N V (RN π S) (callFunc f args) (callFunc f (args.map (Value.ren π))):=by
 rcases hf with hf|hf
 .obtain⟨fn,h1,h2,h3⟩:=h.body f hf
  unfold callFunc;refine cx.bind' fun z z' h=>?_
  rw[h.1,h.2,h1];dsimp only;have h4:fn.body.isNone=false:=by cases hb:fn.body<;>simp_all
  rw[h2,h4];exact al ⟨rfl,hf⟩
 .exact h.ext f hf args V
theorem mi {S:FuncId->Bool}{f:FuncId}{fn:Func}{e:Array Value->Sem Value}(hf:P.funcs[f]? =some fn)(h2:(fn.name== "runtime.NumGoroutine")=false)(h3:fn.body.isNone=true)(hn:Extern.findNext fn=none)(he:Extern.find fn=some e){args:Array Value}
  (h:bk P π N V (RV π) (e args) (e (args.map (Value.ren π)))):bk P π N V (RN π S) (callFunc f args) (callFunc f (args.map (Value.ren π))):=by
 unfold callFunc;refine cx.bind' fun z z' h'=>?_
 rw[h'.1,h'.2,hf];dsimp only;rw[h2,h3,hn];refine bk.mark (m:= .extern f) trivial ?_;show bk P π N V _ (match Extern.find fn with|some e=>_|none=>_) (match Extern.find fn with|some e=>_|none=>_);rw[he];exact eK h
theorem QT {xs:Array Operand}(h:xs.all mY=true){x:Operand}(hx:x∈xs):mY x=true:=Array.all_eq_true_iff_forall_mem.1 h x hx
theorem p5 {S E:FuncId->Bool}{str:Bool}(h:XZ P π N S E str V){ρ ρ':Operand->Value}{o:Oper}(hok:lF P S E str o=true)
  (hρ:∀x∈o.op.operands,mY x=true->ρ' x=Value.ren π (ρ x)/\VV V (ρ x)) (hf:∀f,ρ (.func f)= .func (.func f) #[] #[]/\ρ' (.func f)= .func (.func f) #[] #[]) (hc:∀v,ρ (.const v)=v):
  bk P π N V (RN π S) (execOp ρ o) (execOp ρ' o):=by
 obtain⟨dst,op,ty,pos,after,guard⟩:=o;simp only[lF,Bool.and_eq_true] at hok;obtain⟨hop,hall⟩:=hok;have hx:∀x∈op.operands,ρ' x=Value.ren π (ρ x)/\VV V (ρ x):=fun x hx=>hρ x hx (QT hall hx)
 clear hρ hall;unfold execOp;cases op with
 |move x=>dsimp only;rw[(hx x (by simp[Op.operands])).1];exact al rfl
 |assign x=>dsimp only;rw[(hx x (by simp[Op.operands])).1];exact al rfl
 |pick c a b=>
  dsimp only;rw[(hx c (by simp[Op.operands])).1,(hx a (by simp[Op.operands])).1,(hx b (by simp[Op.operands])).1];refine(DM _).bind' fun t _ h=>?_
  subst h;exact al (by cases t<;>rfl)
 |alloc t=>exact eK (Hf hop)
 |box t x=>dsimp only;rw[(hx x (by simp[Op.operands])).1];exact eK (N9 t _)
 |build t ps=>
  dsimp only;have:(ps.map fun p=>(p.1,ρ' p.2))=(ps.map fun p=>(p.1,ρ p.2)).map fun p=>(p.1,Value.ren π p.2):=by
   rw[Array.map_map];exact Array.map_congr_left fun p hp=>by simp only[Function.comp];rw[(hx p.2 (by simp[Op.operands];exact⟨p.1,hp⟩)).1]
  rw[this];exact eK (Hc hop _)
 |buildSlice t n ps=>
  dsimp only;have:(ps.map fun p=>(p.1,ρ' p.2))=(ps.map fun p=>(p.1,ρ p.2)).map fun p=>(p.1,Value.ren π p.2):=by
   rw[Array.map_map];exact Array.map_congr_left fun p hp=>by simp only[Function.comp];rw[(hx p.2 (by simp[Op.operands];exact⟨p.1,hp⟩)).1]
  rw[this];exact eK (vH hop n _)
 |load t x=>dsimp only;rw[(hx x (by simp[Op.operands])).1];exact eK (DK t _)
 |store t x y=>dsimp only;rw[(hx x (by simp[Op.operands])).1,(hx y (by simp[Op.operands])).1];exact Rh (Bv t _ _)
 |nilCheck x=>
  dsimp only;rw[(hx x (by simp[Op.operands])).1];generalize ρ x=v;have hp:∀v:Value,bk P π N V (RN π S) (Pure.pure (.value v)) (Pure.pure (.value (Value.ren π v))):=fun v=>al rfl
  cases v with
  |pointer p=>cases p with
   |none=>exact sr
   |some a=>have:=hp (.pointer (some a));simp only[aT,Option.map_some] at this⊢;exact this
  |nilIface=>exact sr
  |nilFunc=>exact sr
  |func fn first E3=>
   have hf:=hp (.func fn first E3);cases fn with
   |method name=>
    simp only[da,nX,Array.getElem?_map] at hf⊢;cases first[0]? with
    |none=>exact hf
    |some w=>
     simp only[Option.map_some];cases w with
     |nilIface=>exact sr
     |iface t w=>
      simp only[cQ];refine cx.bind' fun z z' h=>?_
      rw[h.1,h.2];refine(qJ _ t w name).bind' fun r _ h=>?_
      subst h;exact cD (aH trivial) hf
     |_=>simp only[dC,cq,dl,cR,bB,aT,dA,cI,bH,dn,dP,cQ,di,cP,da];exact hf
   |_=>simp only[da,nX] at hf⊢;exact hf
  |bool b=>have:=hp (.bool b);simp only[dC] at this⊢;exact this
  |int k n=>have:=hp (.int k n);simp only[cq] at this⊢;exact this
  |float k n=>have:=hp (.float k n);simp only[dl] at this⊢;exact this
  |complex k n m=>have:=hp (.complex k n m);simp only[cR] at this⊢;exact this
  |string s=>have:=hp (.string s);simp only[bB] at this⊢;exact this
  |slice a n m=>have:=hp (.slice a n m);simp only[bH] at this⊢;exact this
  |map r=>have:=hp (.map r);simp only[dn] at this⊢;exact this
  |chan r=>have:=hp (.chan r);simp only[dP] at this⊢;exact this
  |iface t w=>have:=hp (.iface t w);simp only[cQ] at this⊢;exact this
  |agg cs=>have:=hp (.agg cs);simp only[di] at this⊢;exact this
  |tuple cs=>have:=hp (.tuple cs);simp only[cP] at this⊢;exact this
 |binOp op t x y t2=>
  dsimp only;have ex:=hx x (by simp[Op.operands]);have ey:=hx y (by simp[Op.operands]);have nl:∀z,Al z=true->ρ z= .pointer none:=fun z hz=>by
   unfold Al at hz;split at hz
   .exact hc _
   .cases hz
  have hq:op= .eql\/op= .neq->((eqTy P 20 t=true\/(str&&kW P t)=true)/\P.eqGuardType P.depth t=false)\/ρ x= .pointer none\/ρ y= .pointer none:=by
   rintro(rfl|rfl)
   all_goals
    simp only[KL,Bool.or_eq_true,Bool.and_eq_true,Bool.not_eq_true'] at hop;rcases hop with(h1|h1)|h1
    .exact .inl ⟨h1.1.imp id fun h=>by simp[h.1,h.2],h1.2⟩
    .exact .inr (.inl (nl x h1))
    .exact .inr (.inr (nl y h1))
  rw[ex.1,ey.1];refine eK ((BC (n:=20) fun e=>(hq e).imp (fun h=>⟨h.1.imp id fun h=>by simp only[Bool.and_eq_true] at h;exact h.2,h.2⟩) id).bind' fun _ _ _=>Hd (pe:=str) (n:=20) h.str h.zero h.inj h.yl (fun e=>?_) ex.2 ey.2);rcases hq e with h1|h1
  .exact h1.1.imp id .inr
  .exact .inr (.inl h1)
 |unOp op t x=>dsimp only;rw[(hx x (by simp[Op.operands])).1];exact eK Kw
 |convert a b x=>dsimp only;rw[(hx x (by simp[Op.operands])).1];exact eK (BD hop (hx x (by simp[Op.operands])).2)
 |makeInterface t x=>dsimp only;rw[(hx x (by simp[Op.operands])).1];exact eK (qK t _)
 |makeMap t r=>
  dsimp only;have:r.map ρ'=(r.map ρ).map (Value.ren π):=by
   cases r with
   |none=>rfl
   |some x=>simp[(hx x (by simp[Op.operands])).1]
  rw[this];exact eK (By t _)
 |makeSlice t x y=>dsimp only;rw[(hx x (by simp[Op.operands])).1,(hx y (by simp[Op.operands])).1];exact eK (x4 hop _ _)
 |slice t x l hh m=>
  dsimp only;have ho:∀z:Option Operand,(∀y,z=some y->y∈(Op.slice t x l hh m).operands)->z.map ρ'=(z.map ρ).map (Value.ren π):=fun z hz=>by
   cases z with
   |none=>rfl
   |some y=>simp[(hx y (hz y rfl)).1]
  rw[(hx x (by simp[Op.operands])).1,ho l (fun y e=>by simp[Op.operands,e]),ho hh (fun y e=>by simp[Op.operands,e]),ho m (fun y e=>by simp[Op.operands,e])];refine eK (Bw t _ _ _ _ fun e he=>?_);simp[KL,he] at hop
 |fieldAddr t x f=>dsimp only;rw[(hx x (by simp[Op.operands])).1];exact eK (BA hop _)
 |field t x f=>dsimp only;rw[(hx x (by simp[Op.operands])).1];exact eK (G9 t _ f)
 |indexAddr t x y=>dsimp only;rw[(hx x (by simp[Op.operands])).1,(hx y (by simp[Op.operands])).1];exact eK (Bz t _ _)
 |index t x y=>dsimp only;rw[(hx x (by simp[Op.operands])).1,(hx y (by simp[Op.operands])).1];exact eK (G8 t _ _)
 |lookup t x y ok=>dsimp only;rw[(hx x (by simp[Op.operands])).1,(hx y (by simp[Op.operands])).1];exact eK (DJ hop _ _ ok)
 |mapUpdate t m k v=>dsimp only;rw[(hx m (by simp[Op.operands])).1,(hx k (by simp[Op.operands])).1,(hx v (by simp[Op.operands])).1];exact Rh (x3 h.inj hop _ _ _)
 |range t x=>dsimp only;rw[(hx x (by simp[Op.operands])).1];exact eK (G7 _)
 |next x b=>cases b with
  |false=>cases hop
  |true=>dsimp only;rw[(hx x (by simp[Op.operands])).1];exact eK (JV _ _)
 |entry _=>cases hop
 |extract x i=>dsimp only;rw[(hx x (by simp[Op.operands])).1];exact eK (BB _ i)
 |panic x=>exact .dead (Dead.bind _ (EQ _))
 |call c=>
  obtain⟨callee,Gx,ats⟩:=c;have ha:Gx.map ρ'=(Gx.map ρ).map (Value.ren π):=by
   rw[Array.map_map];exact Array.map_congr_left fun y hy=>(hx y (by simp[Op.operands,Call.operands,hy])).1
  have hav:∀v∈Gx.map ρ,VV V v:=fun v hv=>by
   obtain⟨y,hy,rfl⟩:=Array.mem_map.1 hv;exact(hx y (by simp[Op.operands,Call.operands,hy])).2
  simp only[KL,KN] at hop;dsimp only;unfold resolve;rw[ha];generalize Gx.map ρ=vs at hav⊢;cases callee with
  |invoke r m=>simp at hop
  |builtin b=>
   dsimp only at hop;cases b<;>first|(exfalso;simp at hop;done)|skip
   case append=>exact eK (DN hop)
   case cap=>exact eK N8
   case clear=>exact eK (Hb hop)
   case copy=>exact eK JX
   case len=>exact eK N7
   case min=>exact eK N6
   case unsafeSliceData=>exact eK (po hav)
   case unsafeString=>exact eK (sn (h.str hop) hav)
  |value f=>
   cases f with
   |func f=>
    dsimp only at hop⊢;rw[(hf f).1,(hf f).2];have e1:∀ws:Array Value,#[]++ws++#[]=ws:=fun ws=>by simp
    have:=zW h (by simpa using hop) vs;show bk P π N V _ (callFunc f (#[]++vs++#[])) (callFunc f (#[]++vs.map (Value.ren π)++#[]));rw[e1,e1];exact this
   |_=>simp at hop
 |_=>simp[KL] at hop
end
section
variable {π:Nat->Nat}
theorem eQ:∀(v:Value),(∀r,Value.Has r v->π r=r)->Value.ren π v=v
 |.bool _,_|.int _ _,_|.float _ _,_|.complex _ _ _,_|.string _,_|.nilFunc,_|.nilIface,_=>by simp
 |.pointer a,h=>by
  cases a with
  |none=>simp
  |some a=>simp[bi,h a.block (.ptr rfl)]
 |.slice a n c,h=>by
  cases a with
  |none=>simp
  |some a=>simp[bi,h a.block (.slice rfl)]
 |.map r,h=>by
  cases r with
  |none=>simp
  |some r=>simp[h r .map]
 |.chan r,h=>by
  cases r with
  |none=>simp
  |some r=>simp[h r .chan]
 |.iface t v,h=>by rw[cQ,eQ v fun r x=>h r (.iface x)]
 |.agg cs,h=>by rw[di,ci fun v hv=>eQ v fun r x=>h r (.agg hv x)]
 |.tuple cs,h=>by rw[cP,ci fun v hv=>eQ v fun r x=>h r (.tuple hv x)]
 |.func fn f c,h=>by
  rw[da,ci fun v hv=>eQ v fun r x=>h r (.first hv x),ci fun v hv=>eQ v fun r x=>h r (.E3 hv x)];cases fn with
  |yield l=>simp[nX,h l .yield]
  |_=>rfl
termination_by v=>SizeOf.sizeOf v
decreasing_by
 all_goals first
  |(simp_wf;have:=Array.sizeOf_lt_of_mem ‹_∈_›;omega)
  |(simp_wf;omega)
theorem oU {c:Array Value}{f:Value->Value}(h:c.map f=c){x:Value}(hx:x∈c):f x=x:=by
 obtain⟨i,hi,rfl⟩:=Array.mem_iff_getElem.1 hx;have:=congrArg (·[i]?) h;simp[hi] at this;exact this
theorem mJ {r:Nat}{v:Value}(hr:Value.Has r v):Value.ren π v=v->π r=r:=by
 induction hr with
 |ptr h=>intro e;simp[bi] at e;rw[<-h];exact congrArg Addr.block e
 |slice h=>intro e;simp[bi] at e;rw[<-h];exact congrArg Addr.block e
 |map=>intro e;simpa using e
 |chan=>intro e;simpa using e
 |yield=>intro e;simp[nX] at e;exact e.1
 |first hx _ ih=>intro e;rw[da] at e;injection e with _ e1 _;exact ih (oU e1 hx)
 |E3 hx _ ih=>intro e;rw[da] at e;injection e with _ _ e1;exact ih (oU e1 hx)
 |iface _ ih=>intro e;rw[cQ] at e;injection e with _ e1;exact ih e1
 |agg hx _ ih=>intro e;rw[di] at e;injection e with e1;exact ih (oU e1 hx)
 |tuple hx _ ih=>intro e;rw[cP] at e;injection e with e1;exact ih (oU e1 hx)
inductive jN (r:Nat):Obj->Prop
 |cells {c:Array Value} {t:TypeId} {f:Nat×Nat} {v:Value} (hv:v∈c) (h:Value.Has r v):jN r (.cells c t f)
 |key {es:Array MapEntry} {c:Nat} {e:MapEntry} (he:e∈es) (h:Value.Has r e.key):jN r (.map es c)
 |val {es:Array MapEntry} {c:Nat} {e:MapEntry} (he:e∈es) (h:Value.Has r e.val):jN r (.map es c)
 |iter {a:Nat} {b:Array Nat} {c:Nat}:jN r (.mapIter (some r) a b c)
 |view {a:Addr} {t:TypeId} (h:a.block=r):jN r (.view a t)
 |number {a:Addr} {l:Bool} (h:a.block=r):jN r (.number a l)
theorem nW {o:Obj}(h:∀r,jN r o->π r=r):dz π o=o:=by
 cases o with
 |cells c t f=>simp only[dz];rw[ci fun v hv=>eQ v fun r x=>h r (.cells hv x)]
 |map es c=>
  simp only[dz];have:es.map (lD π)=es:=by
   apply Array.ext
   .simp
   .intro i h1 h2
    rw[Array.getElem_map];unfold lD;rw[eQ _ fun r x=>h r (.key (Array.getElem_mem _) x),eQ _ fun r x=>h r (.val (Array.getElem_mem _) x)]
  rw[this]
 |mapIter m a b c=>cases m with
  |none=>rfl
  |some r=>simp[dz,h r .iter]
 |view a t=>simp[dz,bi,h a.block (.view rfl)]
 |number a l=>simp[dz,bi,h a.block (.number rfl)]
 |_=>rfl
theorem EH {r:Nat}{o:Obj}(hr:jN r o)(h:dz π o=o):π r=r:=by
 cases hr with
 |cells hv x=>simp only[dz] at h;injection h with h1;exact mJ x (oU h1 hv)
 |key he x=>
  simp only[dz] at h;injection h with h1;obtain⟨i,hi,rfl⟩:=Array.mem_iff_getElem.1 he;have:=congrArg (·[i]?) h1;simp[hi] at this;exact mJ x (congrArg MapEntry.key this)
 |val he x=>
  simp only[dz] at h;injection h with h1;obtain⟨i,hi,rfl⟩:=Array.mem_iff_getElem.1 he;have:=congrArg (·[i]?) h1;simp[hi] at this;exact mJ x (congrArg MapEntry.val this)
 |iter=>simpa [dz] using h
 |view x=>simp[dz,bi] at h;rw[<-x];exact congrArg Addr.block h
 |number x=>simp[dz,bi] at h;rw[<-x];exact congrArg Addr.block h
theorem Iu {o:Obj}{i:Nat}(h:inner o i):jN i o:=by
 cases o<;>first|exact h.elim|exact .view h.symm|exact .number h.symm
def sg (r M:Nat)(x:Nat):Nat:=if x=r then M else if M<=x then x+1 else x
theorem ST {r M:Nat}(hr:r<M):∀i j,sg r M i=sg r M j->i=j:=by
 intro i j h;unfold sg at h;split at h<;>split at h<;>(try split at h)<;>(try split at h)<;>omega
theorem SU {r M x:Nat}(h:x≠r)(hx:x<M):sg r M x=x:=by unfold sg;rw[if_neg h,if_neg (by omega)]
theorem Ob {r M:Nat}(hr:r<M):sg r M r≠r:=by unfold sg;rw[if_pos rfl];omega
end
def fY (H:Nat->Prop)(wL:World)(r:Nat):Prop:=r<wL.heap.size/\¬H r
structure LW (H Z:Nat->Prop)(wL:World):Prop where
 ok:∀(b:Nat) (o:Obj),wL.heap[b]? =some o->¬H b->¬Z b->mZ o
 hid:∀(b:Nat) (o:Obj),wL.heap[b]? =some o->H b->o= .cells #[] 1000000 (0,0)
 np:∀(b:Nat) (o:Obj),wL.heap[b]? =some o->Z b->∃c t,o= .cells c t (0,c.size)
 low:∀b,H b\/Z b->b<wL.heap.size
 apart:∀b,Z b->¬H b
 zero:fY H wL 0
 Qw:∀(b:Nat) (o:Obj),wL.heap[b]? =some o->¬H b->∀r,jN r o->fY H wL r
section
variable {P:Program}{π:Nat->Nat}{H Z:Nat->Prop}{wL w:World}
theorem LW.y8 (h:LW H Z wL):d6 wL:=by
 intro b o hb
 by_cases hH:H b
 .rw[h.hid b o hb hH];trivial
 .by_cases hZ:Z b
  .obtain⟨c,t,rfl⟩:=h.np b o hb hZ;trivial
  .exact h.ok b o hb hH hZ
theorem LW.ay (h:LW H Z wL)(t:dU)(d:Nat):LW H Z (ay wL t d):=⟨h.ok,h.hid,h.np,h.low,h.apart,h.zero,h.Qw⟩
theorem LW.self (h:LW H Z wL){σ:Nat->Nat}(hi:∀i j,σ i=σ j->i=j)(hf:∀i,fY H wL i->σ i=i):WR σ H Z wL wL:=by
 have ob:∀(b:Nat) (o:Obj),wL.heap[b]? =some o->¬H b->σ b=b/\dz σ o=o:=fun b o hb hH=>
  ⟨hf b ⟨(Array.getElem?_eq_some_iff.1 hb).1,hH⟩,nW fun r hr=>hf r (h.Qw b o hb hH r hr)⟩
 refine {inj:=hi,tape:=rfl,drawn:=rfl,lt:=fun b hb hH=>by rw[hf b ⟨hb,hH⟩];exact hb,ok:=fun b o hb hH hZ=>⟨h.ok b o hb hH hZ,?_⟩,hid:=h.hid,np:=fun b o hb hZ=>?_,low:=h.low,xM:=fun b o hb i hin=>?_}
 .obtain⟨e1,e2⟩:=ob b o hb hH
  rw[e1,e2];exact hb
 .obtain⟨e1,e2⟩:=ob b o hb (h.apart b hZ)
  obtain⟨c,t,rfl⟩:=h.np b o hb hZ;refine⟨c,t,(0,c.size),rfl,?_⟩;rw[e1];simp only[dz] at e2;injection e2 with e3;rw[e3];exact hb
 .by_cases hH:H b
  .rw[h.hid b o hb hH] at hin;exact hin.elim
  .exact h.Qw b o hb hH i (Iu hin)
theorem ug {α:Type}{R:(Nat->Nat)->α->α->Prop}{s:Sem α}(RQ:P.cellsOf 1000000=0)(h:LW H Z wL)
  (hs:∀σ:Nat->Nat,(∀i j,σ i=σ j->i=j)->(∀i,fY H wL i->σ i=i)->bk P σ (fun b=>H b\/Z b) (fY H wL) (R σ) s s) {x:α} {bG:World} (hr:s.run P wL= .ok x bG):
  LW H Z bG/\wL.heap.size<=bG.heap.size/\∀r,¬fY H bG r->∃σ:Nat->Nat,σ r≠r/\R σ x x:=by
 have hsz:=(hs id (fun _ _ h=>h) (fun _ _=>rfl)).lP h.y8 (fun b hb=>h.low b hb) hr;have Es:∀i,fY H wL i->fY H bG i:=fun i hi=>⟨Nat.lt_of_lt_of_le hi.1 hsz.1,hi.2⟩
 have key:∀σ:Nat->Nat,(∀i j,σ i=σ j->i=j)->(∀i,fY H bG i->σ i=i)->R σ x x/\WR σ H Z bG bG:=by
  intro σ hi hf;have hw:=h.self hi fun i hv=>hf i (Es i hv)
  obtain⟨x',w',es',g1,g2,g3,_,_⟩:=(hs σ hi fun i hv=>hf i (Es i hv)).run RQ (fun b=>Iff.rfl) hw (fun i hv=>hv) hr (fun i hlt=>hf _ ⟨hlt,fun hH=>by have:=h.low _ (.inl hH);omega⟩) (es:=#[]);have g4:=congrArg Prod.fst g1;rw[Sem.runT_fst,hr] at g4;simp only[Result.ok.injEq] at g4;obtain⟨rfl,rfl⟩:=g4;exact⟨g2,g3⟩
 have mv:∀r,¬fY H bG r->∃σ:Nat->Nat,σ r≠r/\(∀i j,σ i=σ j->i=j)/\∀i,fY H bG i->σ i=i:=by
  intro r hr';refine⟨sg r (max (r+1) (bG.heap.size+1)),Ob (by omega),ST (by omega),fun i hi=>SU (fun e=>hr' (e▸hi)) (by have:=hi.1;omega)⟩
 have w0:=(key id (fun _ _ h=>h) (fun _ _=>rfl)).2;refine⟨⟨fun b o hb hH hZ=>(w0.ok b o hb hH hZ).1,w0.hid,fun b o hb hZ=>?_,w0.low,h.apart,Es 0 h.zero,fun b o hb hH r hr'=>Classical.byContradiction fun hv=>?_⟩,hsz.1,fun r hv=>?_⟩
 .obtain⟨c,t,f,e,_⟩:=w0.np b o hb hZ
  exact⟨c,t,e⟩
 .obtain⟨σ,m1,m2,m3⟩:=mv r hv
  have hb':σ b=b:=m3 b ⟨(Array.getElem?_eq_some_iff.1 hb).1,hH⟩;have ws:=(key σ m2 m3).2;refine m1 (EH hr' ?_)
  by_cases hZ:Z b
  .obtain⟨c,t,f,rfl,e⟩:=ws.np b o hb hZ
   rw[hb',hb] at e;simp only[Option.some.injEq,Obj.cells.injEq] at e;simp only[dz];rw[<-e.1]
  .have:=(ws.ok b o hb hH hZ).2
   rw[hb',hb] at this;exact(Option.some.inj this).symm
 .obtain⟨σ,m1,m2,m3⟩:=mv r hv
  exact⟨σ,m1,(key σ m2 m3).1⟩
end
abbrev jU:=List (Nat×Value)
def sl (D:jU):List Nat:=D.map (·.1)
def iN (σ:List Nat):Operand->Bool
 |.tmp t=>!σ.contains t
 |_=>true
def Ak (σ:List Nat)(o:Oper):Bool:=match o.dst with|some t=>!σ.contains t|none=>true
def eE (σ:List Nat)(P:Program)(S E:FuncId->Bool)(str:Bool)(o:Oper):Bool:=lF P S E str o&&(σ.isEmpty||(o.op.operands.all (iN σ)&&Ak σ o))
def eL (σ:List Nat)(P:Program)(S E:FuncId->Bool)(str:Bool):Code->Bool
 |.skip|.exit _|.label _|.ret=>true
 |.region _ ops _=>ops.all (eE σ P S E str)
 |.seq a b=>eL σ P S E str a&&eL σ P S E str b
 |.cond c a b=>(mY c&&iN σ c)&&eL σ P S E str a&&eL σ P S E str b
 |.block _ b|.loop b|.scope b=>eL σ P S E str b
 |.goto _|.refuse _=>true
 |_=>false
def KO (σ:List Nat)(ops:Array Oper)(o:Oper):Bool:=σ.isEmpty||match o.guard with
 |none=>true
 |some g=>(ops[g.1]?).all (Ak σ)
def bV (σ:List Nat)(P:Program)(S E:FuncId->Bool)(str:Bool):Item->Bool
 |.code c|.inLoop c|.inScope c=>eL σ P S E str c
 |.inBlock _=>true
 |.inRegion ops todo=>todo.all fun i=>(ops[i]?).all fun o=>eE σ P S E str o&&KO σ ops o
 |_=>false
abbrev wl:=eL []
abbrev Aj:=bV []
theorem n6 {σ:List Nat}{P:Program}{S E:FuncId->Bool}{str:Bool}{ops:Array Oper}{i:Nat}{rest:List Nat}{o:Oper}(h:bV σ P S E str (.inRegion ops (i::rest))=true)(ho:ops[i]? =some o):eE σ P S E str o=true:=by
 simp only[bV,List.all_cons,Bool.and_eq_true] at h;have:=h.1;rw[ho] at this;simp only[Option.all_some,Bool.and_eq_true] at this;exact this.1
theorem wj {σ:List Nat}{P:Program}{S E:FuncId->Bool}{str:Bool}{ops:Array Oper}{i:Nat}{rest:List Nat}{o:Oper}(h:bV σ P S E str (.inRegion ops (i::rest))=true)(ho:ops[i]? =some o):KO σ ops o=true:=by
 simp only[bV,List.all_cons,Bool.and_eq_true] at h;have:=h.1;rw[ho] at this;simp only[Option.all_some,Bool.and_eq_true] at this;exact this.2
theorem jz {σ:List Nat}{P:Program}{S E:FuncId->Bool}{str:Bool}{ops:Array Oper}{i:Nat}{rest:List Nat}(h:bV σ P S E str (.inRegion ops (i::rest))=true):bV σ P S E str (.inRegion ops rest)=true:=by
 simp only[bV,List.all_cons,Bool.and_eq_true] at h⊢;exact h.2
theorem pI {σ:List Nat}{P:Program}{S E:FuncId->Bool}{str:Bool}{ops:Array Oper}{id:Nat}{d:Bool}(h:bV σ P S E str (.code (.region id ops d))=true)(l:List Nat):bV σ P S E str (.inRegion ops l)=true:=by
 have h:ops.all (eE σ P S E str)=true:=h;have h':=Array.all_eq_true_iff_forall_mem.1 h;simp only[bV];refine List.all_eq_true.2 fun i _=>?_
 cases ho:ops[i]? with
 |none=>rfl
 |some o=>
  simp only[Option.all_some,Bool.and_eq_true];refine⟨h' o (Array.mem_of_getElem? ho),?_⟩;unfold KO
  by_cases e:σ.isEmpty=true
  .rw[e];rfl
  .cases o.guard with
   |none=>simp
   |some g=>
    simp only[Bool.or_eq_true];refine .inr ?_;cases hj:ops[g.1]? with
    |none=>rfl
    |some p=>
     have:=h' p (Array.mem_of_getElem? hj);simp only[eE,Bool.and_eq_true,Bool.or_eq_true] at this;exact(this.2.resolve_left e).2
structure Stat (P:Program)(S E:FuncId->Bool)(str:Bool):Prop where
 yl:P.globals.size<=1
 tc:P.cellsOf 1000000=0
 body:∀f,S f=true->∃fn c,P.funcs[f]? =some fn/\(fn.name== "runtime.NumGoroutine")=false/\fn.body=some c/\wl P S E str c=true
 ext:∀f,E f=true->∀(π:Nat->Nat),(∀i j,π i=π j->i=j)->π 0=0->∀(N V:Nat->Prop) (args:Array Value),bk P π N V (RN π S) (callFunc f args) (callFunc f (args.map (Value.ren π)))
def wh (D:jU)(c:Array Value):Array Value:=D.foldl (fun c p=>c.setIfInBounds p.1 p.2) c
def bg (π:Nat->Nat)(a:Act)(D:jU):Act:={tmps:=wh D (a.tmps.map (Value.ren π)),defers:=[]}
theorem qX:∀(D:jU) (c:Array Value) (t:Nat),t∉sl D->(wh D c)[t]? =c[t]?
 |[],_,_,_=>rfl
 |p::D,c,t,h=>by
  have h1:t≠p.1:=fun e=>h (by simp[sl,e])
  have h2:t∉sl D:=fun e=>h (by simp only[sl,List.map_cons,List.mem_cons];exact .inr e)
  show(wh D (c.setIfInBounds p.1 p.2))[t]? =_;rw[qX D _ t h2,Array.getElem?_setIfInBounds_ne (fun e=>h1 e.symm)]
theorem Ag:∀(D:jU) (c:Array Value) (t:Nat) (v:Value),t∉sl D->(wh D c).setIfInBounds t v=wh D (c.setIfInBounds t v)
 |[],_,_,_,_=>rfl
 |p::D,c,t,v,h=>by
  have h1:t≠p.1:=fun e=>h (by simp[sl,e])
  have h2:t∉sl D:=fun e=>h (by simp only[sl,List.map_cons,List.mem_cons];exact .inr e)
  show(wh D (c.setIfInBounds p.1 p.2)).setIfInBounds t v=wh D ((c.setIfInBounds t v).setIfInBounds p.1 p.2);rw[Ag D _ t v h2,Array.setIfInBounds_comm _ _ (fun e=>h1 e.symm)]
theorem FO {σ:List Nat}{t:Nat}(h:iN σ (.tmp t)=true):t∉σ:=by simpa [iN] using h
theorem cA {σ:List Nat}{o:Oper}(h:Ak σ o=true):∀t,o.dst=some t->t∉σ:=fun t e=>by
 unfold Ak at h;rw[e] at h;simpa using h
theorem kq {σ:List Nat}{P:Program}{S E:FuncId->Bool}{str:Bool}{o:Oper}(h:eE σ P S E str o=true):lF P S E str o=true/\(∀x∈o.op.operands,iN σ x=true)/\∀t,o.dst=some t->t∉σ:=by
 simp only[eE,Bool.and_eq_true,Bool.or_eq_true] at h;rcases h.2 with e|e
 .have:σ=[]:=by simpa using e
  subst this;exact⟨h.1,fun x _=>by cases x<;>simp[iN],fun t _=>by simp⟩
 .exact⟨h.1,Array.all_eq_true_iff_forall_mem.1 e.1,cA e.2⟩
section
variable {P:Program}{S E:FuncId->Bool}{str:Bool}{π:Nat->Nat}{H Z:Nat->Prop}{wL w:World}
theorem Stat.SS (hS:Stat P S E str)(hi:∀i j,π i=π j->i=j)(h0:π 0=0)(hz:str=true->∀b,¬Z b)(V:Nat->Prop)(hV:∀i,V i->¬H i):XZ P π (fun b=>H b\/Z b) S E str V:=
 {inj:=hi,zero:=h0,yl:=hS.yl
  body:=fun f hf=>by obtain⟨fn,c,h1,h2,h3,_⟩:=hS.body f hf;exact⟨fn,h1,h2,by rw[h3];rfl⟩
  ext:=fun f hf args V=>hS.ext f hf π hi h0 _ V args
  str:=fun hs r hr hn=>hn.elim (hV r hr) (hz hs r)}
theorem jB (c:Array Value)(i:Nat):(c.map (Value.ren π)).getD i undef=Value.ren π (c.getD i undef):=by
 simp only[Array.getD_eq_getD_getElem?,Array.getElem?_map];cases c[i]? <;>simp[undef]
theorem kG (a:Act)(D:jU){x:Operand}(hx:mY x=true)(ho:iN (sl D) x=true:=by rfl):(bg π a D).eval x=Value.ren π (a.eval x):=by
 cases x with
 |tmp t=>
  show(wh D (a.tmps.map (Value.ren π))).getD t undef=_;rw[Array.getD_eq_getD_getElem?,qX D _ t (FO ho),<-Array.getD_eq_getD_getElem?];exact jB _ _
 |const v=>exact(et hx).symm
 |global g=>cases hx
 |func f=>simp[Act.eval,nX]
theorem LC:∀{n:Nat} {v:Value},iY n v=true->∀r,¬Value.Has r v:=by
 intro n v h r hr;have:=mJ (π:=fun x=>x+1) hr (et h);omega
theorem k9 {V:Nat->Prop}{a:Act}(ha:∀v∈a.tmps,VV V v){x:Operand}(hx:mY x=true):VV V (a.eval x):=by
 cases x with
 |tmp t=>
  show VV V (a.tmps.getD t undef);rw[Array.getD_eq_getD_getElem?];cases h:a.tmps[t]? with
  |none=>intro r hr;cases hr with|tuple hx _=>simp[undef] at hx
  |some v=>exact ha v (Array.mem_of_getElem? h)
 |const v=>exact fun r hr=>absurd hr (LC hx r)
 |global g=>cases hx
 |func f=>intro r hr;cases hr<;>simp_all
theorem hU (a:Act)(D:jU)(d:Option Tmp)(v:Value)(hd:∀t,d=some t->t∉sl D:=by intro _ _ h;cases h):(bg π a D).put d (Value.ren π v)=bg π (a.put d v) D:=by
 cases d with
 |none=>rfl
 |some t=>
  simp only[Act.put,bg];rw[Ag D _ t _ (hd t rfl),Array.map_setIfInBounds]
theorem jf {V:Nat->Prop}{a:Act}(ha:∀v∈a.tmps,VV V v){d:Option Tmp}{v:Value}(hv:VV V v):∀u∈(a.put d v).tmps,VV V u:=by
 cases d with
 |none=>exact ha
 |some d=>
  intro u hu;simp only[Act.put] at hu;rcases Array.mem_or_eq_of_mem_setIfInBounds hu with h|h
  .exact ha u h
  .rw[h];exact hv
theorem gz {V:Nat->Prop}:VV V undef:=by intro r hr;cases hr with|tuple hx _=>simp at hx
theorem tv (ops:Array Oper)(c:Array Value):yielded ops (c.map (Value.ren π))=yielded ops c:=by
 funext j
 unfold yielded;cases (ops[j]?).bind (·.dst) with
 |none=>rfl
 |some t=>
  simp only[Option.bind_some,Array.getElem?_map];cases c[t]? with
  |none=>rfl
  |some v=>cases v<;>simp
theorem vi {ops:Array Oper}{c:Array Value}{D:jU}{o:Oper}(h:KO (sl D) ops o=true):Region.wanted o (yielded ops (wh D (c.map (Value.ren π))))=Region.wanted o (yielded ops c):=by
 unfold KO at h;simp only[Bool.or_eq_true] at h;rcases h with h|h
 .cases D with
  |nil=>rw[show wh [] (c.map (Value.ren π))=c.map (Value.ren π) from rfl,tv]
  |cons p D=>simp[sl] at h
 .unfold Region.wanted
  cases hg:o.guard with
  |none=>rfl
  |some g=>
   rw[hg] at h;simp only at h⊢;have e:yielded ops (wh D (c.map (Value.ren π))) g.1=yielded ops c g.1:=by
    rw[<-tv (π:=π) ops c];unfold yielded;cases ho:ops[g.1]? with
    |none=>rfl
    |some p=>
     rw[ho] at h;simp only[Option.bind_some];cases hd:p.dst with
     |none=>rfl
     |some t=>
      simp only[Option.bind_some];rw[qX D _ t (cA (by simpa using h) t hd)]
   rw[e]
theorem mS (hS:Stat P S E str)(hi:∀i j,π i=π j->i=j)(h0:π 0=0)(hz:str=true->∀b,¬Z b)(hl:LW H Z wL)(hw:WR π H Z wL w){a:Act}(D:jU)(ha:∀v∈a.tmps,VV (fY H wL) v){o:Oper}(ho':eE (sl D) P S E str o=true)
  {x:Next} {bG:World} (hr:(execOp a.eval o).run P wL= .ok x bG) (hag:∀i,wL.heap.size+i<bG.heap.size->π (wL.heap.size+i)=w.heap.size+i):
  LW H Z bG/\wL.heap.size<=bG.heap.size/\∃x' w',(execOp (bg π a D).eval o).run P w= .ok x' w'/\RN π S x x'/\WR π H Z bG w'/\AW π H Z wL bG w w'/\(∀e∈(execOp (bg π a D).eval o).events P w #[],oF π H Z bG.heap.size e)/\
   (match x with|.value v=>VV (fY H bG) v|.enter f ae=>(∀v∈ae,VV (fY H bG) v)|_=>True):=by
 obtain⟨ho,hoff,_⟩:=kq ho';have sim:∀(π:Nat->Nat) (D:jU),(∀x∈o.op.operands,iN (sl D) x=true)->(∀i j,π i=π j->i=j)->π 0=0->bk P π (fun b=>H b\/Z b) (fY H wL) (RN π S) (execOp a.eval o) (execOp (bg π a D).eval o):=fun π D hoff hi h0=>
  p5 (hS.SS hi h0 hz _ fun i hv=>hv.2) ho (fun x hm hx=>⟨kG a D hx (hoff x hm),k9 ha hx⟩) (fun f=>⟨rfl,rfl⟩) (fun v=>rfl)
 have self:=ug (R:=fun σ=>RN σ S) hS.tc hl (fun σ hi hf=>by
  have e:bg σ a []={a with defers:=[]}:=by
   unfold bg;rw[show wh [] (a.tmps.map (Value.ren σ))=a.tmps.map (Value.ren σ) from rfl,ci fun v hv=>eQ v fun r hr=>hf r (ha v hv r hr)]
  have:=sim σ [] (fun x _=>by cases x<;>rfl) hi (hf 0 hl.zero);rw[e] at this;exact this) hr
 obtain⟨l1,l2,l3⟩:=self;obtain⟨x',w',es',g1,g2,g3,g4,g5⟩:=(sim π D hoff hi h0).run hS.tc (fun b=>Iff.rfl) hw (fun i hv=>hv) hr hag (es:=#[]);refine⟨l1,l2,x',w',?_,g2,g3,g4,fun e he=>?_,?_⟩
 .rw[<-Sem.runT_fst P _ w #[],g1]
 .have:(execOp (bg π a D).eval o).events P w #[]=es':=congrArg Prod.snd g1
  rw[this] at he;exact(g5 e he).resolve_left (by simp)
 .cases x with
  |value v=>
   intro r hr';refine Classical.byContradiction fun hv=>?_
   obtain⟨σ,m1,m2⟩:=l3 r hv;simp only[RN,Next.value.injEq] at m2;exact m1 (mJ hr' m2.symm)
  |enter f ae=>
   intro v hv r hr';refine Classical.byContradiction fun hv'=>?_
   obtain⟨σ,m1,m2⟩:=l3 r hv';simp only[RN,Next.enter.injEq,true_and] at m2;exact m1 (mJ hr' (oU m2.1.symm hv))
  |_=>trivial
theorem Bx {N V:Nat->Prop}{α:Type}{f f':α->Sem Value}(hf:∀x,bk P π N V (RV π) (f x) (f' x)):∀l:List α,bk P π N V (fun a b=>b=a.map (Value.ren π)) (l.mapM f) (l.mapM f')
 |[]=>by simp only[List.mapM_nil];exact al rfl
 |x::l=>by
  simp only[List.mapM_cons];refine(hf x).bind' fun v v' h=>?_
  rw[show v'=_ from h];refine(Bx hf l).bind' fun c c' h=>?_
  subst h;exact al (by simp)
theorem kP {N V:Nat->Prop}(fn:Func)(c:Array Value):bk P π N V (RV π) (results fn c) (results fn (c.map (Value.ren π))):=by
 unfold results;rw[Array.mapM_eq_mapM_toList,Array.mapM_eq_mapM_toList,map_eq_pure_bind,map_eq_pure_bind];simp only[bind_assoc,pure_bind];refine(Bx (fun r=>?_) _).bind' fun vs vs' h=>?_
 .cases r with
  |tmp t=>dsimp only;rw[jB];exact al rfl
  |cell a t=>
   dsimp only;rw[jB];cases c.getD a undef with
   |pointer p=>cases p with
    |none=>exact .dead (Dead.bind (s:=asAddr (.pointer none)) _ (dw .nilDeref))
    |some p=>simp only[aT,Option.map_some];exact tG t p
   |_=>exact .dead (Dead.bind _ (Dead.halt trivial))
 .subst h
  refine al ?_
  match vs with
  |[]=>simp[RV]
  |[v]=>simp[RV]
  |_::_::_=>simp[RV]
theorem mR (hS:Stat P S E str)(hi:∀i j,π i=π j->i=j)(hl:LW H Z wL)(hw:WR π H Z wL w){c:Array Value}(hc:∀v∈c,VV (fY H wL) v)(fn:Func)
  {x:Value} {bG:World} (hr:(results fn c).run P wL= .ok x bG) (hag:∀i,wL.heap.size+i<bG.heap.size->π (wL.heap.size+i)=w.heap.size+i):
  LW H Z bG/\wL.heap.size<=bG.heap.size/\∃w',(results fn (c.map (Value.ren π))).run P w= .ok (Value.ren π x) w'/\WR π H Z bG w'/\AW π H Z wL bG w w'/\(∀e∈(results fn (c.map (Value.ren π))).events P w #[],oF π H Z bG.heap.size e)/\VV (fY H bG) x:=by
 have self:=ug (R:=fun σ=>RV σ) hS.tc hl (fun σ hi hf=>by
  have e:c.map (Value.ren σ)=c:=ci fun v hv=>eQ v fun r hr=>hf r (hc v hv r hr)
  have:=kP (P:=P) (π:=σ) (N:=fun b=>H b\/Z b) (V:=fY H wL) fn c;rw[e] at this;exact this) hr
 obtain⟨l1,l2,l3⟩:=self;obtain⟨x',w',es',g1,g2,g3,g4,g5⟩:=(kP (P:=P) (π:=π) (N:=fun b=>H b\/Z b) (V:=fY H wL) fn c).run hS.tc (fun b=>Iff.rfl) hw (fun i hv=>hv) hr hag (es:=#[]);have g2':x'=Value.ren π x:=g2;subst g2';refine⟨l1,l2,w',?_,g3,g4,fun e he=>?_,?_⟩
 .rw[<-Sem.runT_fst P _ w #[],g1]
 .have:(results fn (c.map (Value.ren π))).events P w #[]=es':=congrArg Prod.snd g1
  rw[this] at he;exact(g5 e he).resolve_left (by simp)
 .intro r hr'
  refine Classical.byContradiction fun hv=>?_
  obtain⟨σ,m1,m2⟩:=l3 r hv;exact m1 (mJ hr' (show x=_ from m2).symm)
end
structure Ctx where
 f0:FuncId
 gf:Frame
 B:Frame
 D0:jU
 CS:List Frame
 Tl:List Item->List Item->Prop
 fn:B.fn=f0
 kind:B.kind≠.early
 stop:∀x y,Tl x y->∃l r,x= .inRangeFunc l::r
 exit:∀x y id x',Tl x y->exitTo id x=some x'->∃y',exitTo id y=some y'/\Tl x' y'
 bare:∀x y l,Tl x y->gotoIn l x=none
section
variable (P:Program)(S E:FuncId->Bool)(str:Bool)(π:Nat->Nat)(c:Ctx)
inductive qr (V:Nat->Prop):FuncId->Act->List Item->List Item->List Frame->Frame->jU->List Item->List Frame->Prop
 |bot {a:Act} {t x y:List Item} (ht:∀it∈t,bV (sl c.D0) P S E str it=true) (ha:∀v∈a.tmps,VV V v) (hd:a.defers=[]) (hxy:c.Tl x y):qr V c.f0 a t x [c.gf] c.B c.D0 y c.CS
 |up {f f1:FuncId} {a a1:Act} {t t1 x1 y1:List Item} {ops:Array Oper} {i:Nat} {rest:List Nat} {cs1 IT:List Frame} {B1:Frame} {D1:jU} (hf:S f=true)
   (ht:∀it∈t,Aj P S E str it=true) (ha:∀v∈a.tmps,VV V v) (hd:a.defers=[]) (hs:qr V f1 a1 (.inRegion ops (i::rest)::t1) x1 cs1 B1 D1 y1 IT):
   qr V f a t [] ((base f1).at a1 (.inRegion ops (i::rest)::(t1++x1))::cs1) (base f) [] [] (B1.at (bg π a1 D1) (.inRegion ops (i::rest)::(t1++y1))::IT)
inductive gq (H:Nat->Prop)(wL:World):Goroutine->Goroutine->Prop
 |run {f:FuncId} {a:Act} {t x:List Item} {cs:List Frame} {B:Frame} {D:jU} {y:List Item} {cs':List Frame} (h:qr P S E str π c (fY H wL) f a t x cs B D y cs'):
   gq H wL (G ((base f).at a (t++x)) cs) (G (B.at (bg π a D) (t++y)) cs')
 |ret {f:FuncId} {a:Act} {t x:List Item} {cs:List Frame} {B:Frame} {D:jU} {y:List Item} {cs':List Frame} {todo todo':List Item} (h:qr P S E str π c (fY H wL) f a t x cs B D y cs'):
   gq H wL (G {(base f).at a todo with mode:= .returning} cs) (G {B.at (bg π a D) todo' with mode:= .returning} cs')
end
section
variable {σ:List Nat}{P:Program}{S E:FuncId->Bool}{str:Bool}{π:Nat->Nat}{c:Ctx}{H Z:Nat->Prop}{wL w:World}
theorem qr.mono {V V':Nat->Prop}(hV:∀i,V i->V' i){f:FuncId}{a:Act}{t x:List Item}{cs:List Frame}{B:Frame}{D:jU}{y:List Item}{cs':List Frame}(h:qr P S E str π c V f a t x cs B D y cs'):qr P S E str π c V' f a t x cs B D y cs':=by
 induction h with
 |bot ht ha hd hxy=>exact .bot ht (fun v hv=>(ha v hv).weak hV) hd hxy
 |up hf ht ha hd _ ih=>exact .up hf ht (fun v hv=>(ha v hv).weak hV) hd ih
theorem qr.base {V:Nat->Prop}{f:FuncId}{a:Act}{t x:List Item}{cs:List Frame}{B:Frame}{D:jU}{y:List Item}{cs':List Frame}(h:qr P S E str π c V f a t x cs B D y cs'):
  B.fn=f/\B.kind≠.early/\a.defers=[]/\(∀it∈t,bV (sl D) P S E str it=true)/\(∀v∈a.tmps,VV V v):=by
 cases h with
 |bot ht ha hd hxy=>exact⟨c.fn,c.kind,hd,ht,ha⟩
 |up hf ht ha hd _=>exact⟨rfl,by simp[Go.Conc.base],hd,ht,ha⟩
theorem qr.top {V:Nat->Prop}{f:FuncId}{a:Act}{t x:List Item}{cs:List Frame}{B:Frame}{D:jU}{y:List Item}{cs':List Frame}(h:qr P S E str π c V f a t x cs B D y cs')
  {a':Act} {t':List Item} (ht:∀it∈t',bV (sl D) P S E str it=true) (ha:∀v∈a'.tmps,VV V v) (hd:a'.defers=[]):qr P S E str π c V f a' t' x cs B D y cs':=by
 cases h with
 |bot _ _ _ hxy=>exact .bot ht ha hd hxy
 |up hf _ _ _ hs=>exact .up hf ht ha hd hs
theorem jt {id:Nat}:∀(t k:List Item),exitTo id (t++k)=match exitTo id t with|some t'=>some (t'++k)|none=>exitTo id k
 |[],k=>rfl
 |it::t,k=>by
  cases it<;>simp only[List.cons_append,exitTo]<;>first|exact jt t k|skip
  split
  .rfl
  .exact jt t k
theorem qj {id:Nat}:∀{t t':List Item},exitTo id t=some t'->∀it∈t',it∈t
 |[],_,h=>by simp[exitTo] at h
 |it::t,t',h=>by
  intro x hx;cases it<;>simp only[exitTo] at h<;>first|exact List.mem_cons_of_mem _ (qj h x hx)|skip
  split at h
  .cases h;exact List.mem_cons_of_mem _ hx
  .exact List.mem_cons_of_mem _ (qj h x hx)
theorem mL {l:Nat}:∀{b r:Code},eL σ P S E str b=true->findLabel b l=some r->eL σ P S E str r=true
 |.seq x y,r,h,hf=>by
  simp only[eL,Bool.and_eq_true] at h;simp only[findLabel] at hf;cases hx:findLabel x l with
  |none=>rw[hx] at hf;exact mL h.2 hf
  |some rest=>
   rw[hx] at hf;cases hf;simp only[eL,Bool.and_eq_true];exact⟨mL h.1 hx,h.2⟩
 |.label l',r,_,hf=>by
  simp only[findLabel] at hf;split at hf
  .cases hf;rfl
  .cases hf
 |.skip,_,_,hf|.region _ _ _,_,_,hf|.cond _ _ _,_,_,hf|.block _ _,_,_,hf|.loop _,_,_,hf|.rangeFunc _ _ _ _,_,_,hf|.exit _,_,_,hf|.scope _,_,_,hf|.goto _,_,_,hf|.ret,_,_,hf|.refuse _,_,_,hf=>by simp[findLabel] at hf
theorem pO {l:Nat}:∀(t k:List Item),(∀it∈t,bV σ P S E str it=true)->(∃t2,(∀it∈t2,bV σ P S E str it=true)/\∀k,gotoIn l (t++k)=some (t2++k))\/∀k,gotoIn l (t++k)=gotoIn l k
 |[],k,_=> .inr fun _=>rfl
 |it::t,k,h=>by
  have ih:=pO (l:=l) t k fun x hx=>h x (by simp[hx])
  cases it with
  |inScope body=>
   cases hf:findLabel body l with
   |some r=>
    have hb:eL σ P S E str body=true:=h (.inScope body) (by simp);refine .inl ⟨.code r::.inScope body::t,fun x hx=>?_,fun k=>by simp[gotoIn,hf]⟩;simp only[List.mem_cons] at hx;rcases hx with rfl|rfl|hx
    .exact mL hb hf
    .exact hb
    .exact h x (by simp[hx])
   |none=>
    rcases ih with⟨t2,h1,h2⟩|h2
    .exact .inl ⟨t2,h1,fun k=>by simp only[List.cons_append,gotoIn,hf];exact h2 k⟩
    .exact .inr fun k=>by simp only[List.cons_append,gotoIn,hf];exact h2 k
  |_=>
   rcases ih with⟨t2,h1,h2⟩|h2
   .exact .inl ⟨t2,h1,fun k=>by simp only[List.cons_append,gotoIn];exact h2 k⟩
   .exact .inr fun k=>by simp only[List.cons_append,gotoIn];exact h2 k
theorem nA {main:Bool}{b:Frame}{a:Act}{k:List Item}{cs:List Frame}{p:Code}:stepG P main (G (b.at a (.code (.scope p)::k)) cs) w= .go (G (b.at a (.code p::.inScope p::k)) cs) w:=by simp[G,stepG,stepG.exec,Frame.at]
theorem ly {main:Bool}{b:Frame}{a:Act}{k:List Item}{cs:List Frame}{p:Code}:stepG P main (G (b.at a (.inScope p::k)) cs) w= .go (G (b.at a k) cs) w:=by simp[G,stepG,stepG.exec,Frame.at]
theorem pX {main:Bool}{b:Frame}{a:Act}{k k':List Item}{cs:List Frame}{l:Nat}(h:gotoIn l k=some k'):stepG P main (G (b.at a (.code (.goto l)::k)) cs) w= .go (G (b.at a k') cs) w:=by simp[G,stepG,stepG.exec,Frame.at,h]
def Res (P:Program)(S E:FuncId->Bool)(str:Bool)(π:Nat->Nat)(c:Ctx)(main:Bool)(H Z:Nat->Prop)(wL w:World)(g oX:Goroutine)(bG:World):Prop:=
 ∃g' w' es',stepG P main g w= .go g' w' es'/\gq P S E str π c H bG oX g'/\LW H Z bG/\wL.heap.size<=bG.heap.size/\WR π H Z bG w'/\AW π H Z wL bG w w'/\∀e∈es',oF π H Z bG.heap.size e
theorem cz {main:Bool}{g g' oX:Goroutine}(hl:LW H Z wL)(hw:WR π H Z wL w)(h:stepG P main g w= .go g' w)(hr:gq P S E str π c H wL oX g'):Res P S E str π c main H Z wL w g oX wL:=
 ⟨g',w,#[],h,hr,hl,Nat.le_refl _,hw,AW.refl _ _ _ _ _,by simp⟩
theorem all_cons {it:Item}{t:List Item}(h:∀x∈it::t,bV σ P S E str x=true):bV σ P S E str it=true/\∀x∈t,bV σ P S E str x=true:=⟨h it (by simp),fun x hx=>h x (by simp[hx])⟩
theorem dE {it:Item}{t:List Item}(h1:bV σ P S E str it=true)(h:∀x∈t,bV σ P S E str x=true):∀x∈it::t,bV σ P S E str x=true:=by
 intro x hx;rcases List.mem_cons.1 hx with rfl|hx
 .exact h1
 .exact h x hx
theorem put_defers (a:Act)(d:Option Tmp)(v:Value):(a.put d v).defers=a.defers:=by cases d<;>rfl
theorem NT (hS:Stat P S E str)(hi:∀i j,π i=π j->i=j)(h0:π 0=0)(hz:str=true->∀b,¬Z b)(hl:LW H Z wL)(hw:WR π H Z wL w){main:Bool}
  {f:FuncId} {a:Act} {t x y:List Item} {cs cs':List Frame} {B:Frame} {D:jU} {ops:Array Oper} {i:Nat} {rest:List Nat} (h:qr P S E str π c (fY H wL) f a (.inRegion ops (i::rest)::t) x cs B D y cs')
  {oX:Goroutine} {bG:World} {es:Array Event} (hs:stepG P true (G ((base f).at a (.inRegion ops (i::rest)::(t++x))) cs) wL= .go oX bG es) (hn:pq oX)
  (hag:∀i,wL.heap.size+i<bG.heap.size->π (wL.heap.size+i)=w.heap.size+i):Res P S E str π c main H Z wL w (G (B.at (bg π a D) (.inRegion ops (i::rest)::(t++y))) cs') oX bG:=by
 obtain⟨hB,hk,hd,ht,ha⟩:=h.base;obtain⟨hops,ht'⟩:=all_cons ht;cases ho:ops[i]? with
 |none=>
  simp[G,stepG,stepG.exec,Frame.at,ho] at hs;obtain⟨rfl,rfl,rfl⟩:=hs;refine cz (g':=G (B.at (bg π a D) (.inRegion ops rest::(t++y))) cs') hl hw ?_ ?_
  .simp[G,stepG,stepG.exec,Frame.at,ho,Frame.finish,bg]
  .have:=gq.run (P:=P) (S:=S) (E:=E) (str:=str) (π:=π) (c:=c) (H:=H) (wL:=wL) (h.top (t':= .inRegion ops rest::t) (a':=a) (dE (jz hops) ht') ha hd)
   simpa [G,Frame.at,Frame.finish,ho] using this
 |some o=>
  have sc:eE (sl D) P S E str o=true:=n6 hops ho;obtain⟨hok1,hoff,hdst⟩:=kq sc;cases hwd:Region.wanted o (yielded ops a.tmps) with
  |false=>
   rw[stepG_unwanted ho hwd] at hs;cases hs;refine cz hl hw (stepG_unwanted ho (by rw[show(bg π a D).tmps=wh D (a.tmps.map (Value.ren π)) from rfl,vi (wj hops ho)];exact hwd)) ?_;have e:(bg π a D).put o.dst undef=bg π (a.put o.dst undef) D:=by
    have:=hU (π:=π) a D o.dst undef hdst
    rwa [show Value.ren π undef=undef by simp[undef]] at this
   rw[e];exact gq.run (t:= .inRegion ops rest::t) (h.top (dE (jz hops) ht') (jf ha gz) ((put_defers _ _ _).trans hd))
  |true=>
   have V9:Region.wanted o (yielded ops (bg π a D).tmps)=true:=by rw[show(bg π a D).tmps=wh D (a.tmps.map (Value.ren π)) from rfl,vi (wj hops ho)];exact hwd
   have hka:(base f).kind≠.early:=by simp[base]
   cases hr:(execOp a.eval o).run P wL with
   |halt hh u=>
    exfalso;have hok:kr hh:=by
     have CF:bk P id (fun b=>H b\/Z b) (fY H wL) (RN id S) (execOp a.eval o) (execOp (bg id a D).eval o):=
      p5 (hS.SS (fun _ _ h=>h) rfl hz _ fun i hv=>hv.2) hok1 (fun x hm hx=>⟨kG a D hx (hoff x hm),k9 ha hx⟩) (fun f=>⟨rfl,rfl⟩) (fun v=>rfl)
     exact CF.RM hl.y8 (fun b hb=>hl.low b hb) hr
    rw[stepG_oper ho hwd] at hs;have hk2:(CallKind.normal==CallKind.early)=false:=rfl;cases hh with
    |panic v=>
     simp[stepG.apply,hr,Frame.at,GStep.after] at hs;obtain⟨rfl,_⟩:=hs;exact hn.calm _ rfl
    |stuck m=>simp[stepG.apply,hr,Frame.at,GStep.after] at hs
    |unsupported u=>cases u<;>first|exact hok.elim|(simp[stepG.apply,hr,Frame.at,GStep.after] at hs;done)
    |_=>exact hok.elim
   |ok nx u=>
    have hstep:∃nx',nx=nx':=⟨nx,rfl⟩
    cases nx with
    |value v=>
     rw[stepG_value ho hwd hka hr] at hs;cases hs;obtain⟨l1,l2,x',w',e1,e2,e3,e4,e5,e6⟩:=mS hS hi h0 hz hl hw D ha sc hr hag;cases e2;refine⟨_,w',_,stepG_value ho V9 hk e1,?_,l1,l2,e3,e4,fun e he=>e5 e (mem_listed he)⟩;rw[hU _ _ _ _ hdst];have hm:∀i,fY H wL i->fY H bG i:=fun i hv=>⟨Nat.lt_of_lt_of_le hv.1 l2,hv.2⟩
     exact gq.run (t:= .inRegion ops rest::t) ((h.mono hm).top (dE (jz hops) ht') (jf (fun v hv=>(ha v hv).weak hm) e6) ((put_defers _ _ _).trans hd))
    |skip=>
     rw[stepG_none ho hwd hka hr] at hs;cases hs;obtain⟨l1,l2,x',w',e1,e2,e3,e4,e5,e6⟩:=mS hS hi h0 hz hl hw D ha sc hr hag;cases e2;refine⟨_,w',_,stepG_none ho V9 hk e1,?_,l1,l2,e3,e4,fun e he=>e5 e (mem_listed he)⟩;have e:(bg π a D).put o.dst undef=bg π (a.put o.dst undef) D:=by
      have:=hU (π:=π) a D o.dst undef hdst
      rwa [show Value.ren π undef=undef by simp[undef]] at this
     rw[e];have hm:∀i,fY H wL i->fY H bG i:=fun i hv=>⟨Nat.lt_of_lt_of_le hv.1 l2,hv.2⟩
     exact gq.run (t:= .inRegion ops rest::t) ((h.mono hm).top (dE (jz hops) ht') (jf (fun v hv=>(ha v hv).weak hm) gz) ((put_defers _ _ _).trans hd))
    |enter f2 ae=>
     rw[stepG_enter ho hwd hka hr] at hs;cases hs;obtain⟨l1,l2,x',w',e1,e2,e3,e4,e5,e6⟩:=mS hS hi h0 hz hl hw D ha sc hr hag;obtain⟨rfl,hSf⟩:=e2;obtain⟨fn,cd,b1,b2,b3,b4⟩:=hS.body f2 hSf;refine⟨_,w',_,stepG_enter ho V9 hk e1,?_,l1,l2,e3,e4,fun e he=>e5 e (mem_listed he)⟩;have hm:∀i,fY H wL i->fY H bG i:=fun i hv=>⟨Nat.lt_of_lt_of_le hv.1 l2,hv.2⟩
     have hst:=qr.up (f:=f2) (a:={tmps:=ae++Array.replicate (fn.ntmps-ae.size) undef,defers:=[]}) (t:=[.code cd]) hSf (fun it hit=>by simp at hit;subst hit;exact b4)
      (fun v hv=>by
       rcases Array.mem_append.1 hv with hv|hv
       .exact e6 v hv
       .rw[(Array.mem_replicate.1 hv).2];exact gz) rfl (h.mono hm)
     have:=gq.run hst;rw[enter_at _ b1 b3,enter_at _ b1 b3];have er:bg π {tmps:=ae++Array.replicate (fn.ntmps-ae.size) undef,defers:=[]} []={tmps:=ae.map (Value.ren π)++Array.replicate (fn.ntmps-(ae.map (Value.ren π)).size) undef,defers:=[]}:=by
      simp[bg,wh,undef]
     rw[er] at this;exact this
    |_=>
     exfalso;have:=mS hS (fun _ _ h=>h) rfl hz hl (hl.self (σ:=id) (fun _ _ h=>h) fun _ _=>rfl) D ha sc hr (fun i _=>rfl);obtain⟨_,_,x',w',_,e2,_⟩:=this;exact e2.elim
theorem WR.draw (hw:WR π H Z wL w):WR π H Z {wL with drawn:=wL.drawn+1} {w with drawn:=w.drawn+1}:=
 {inj:=hw.inj,tape:=hw.tape,drawn:=by show w.drawn+1=wL.drawn+1;rw[hw.drawn],lt:=hw.lt,ok:=hw.ok,hid:=hw.hid,np:=hw.np,low:=hw.low,xM:=hw.xM}
theorem LW.draw (hl:LW H Z wL):LW H Z {wL with drawn:=wL.drawn+1}:=⟨hl.ok,hl.hid,hl.np,hl.low,hl.apart,hl.zero,hl.Qw⟩
theorem Bl (hS:Stat P S E str)(hi:∀i j,π i=π j->i=j)(h0:π 0=0)(hz:str=true->∀b,¬Z b)(hl:LW H Z wL)(hw:WR π H Z wL w){main:Bool}
  {f:FuncId} {a:Act} {t x y:List Item} {cs cs':List Frame} {B:Frame} {D:jU} (h:qr P S E str π c (fY H wL) f a t x cs B D y cs')
  {oX:Goroutine} {bG:World} {es:Array Event} (hs:stepG P true (G ((base f).at a (t++x)) cs) wL= .go oX bG es) (hn:pq oX)
  (hag:∀i,wL.heap.size+i<bG.heap.size->π (wL.heap.size+i)=w.heap.size+i):Res P S E str π c main H Z wL w (G (B.at (bg π a D) (t++y)) cs') oX bG:=by
 obtain⟨hB,hk,hd,ht,ha⟩:=h.base;cases t with
 |nil=>
  cases h with
  |bot _ _ _ hxy=>
   obtain⟨why,r,rfl⟩:=c.stop _ _ hxy;simp[G,stepG,stepG.exec,Frame.at] at hs
  |up hf _ _ _ hst=>
   simp only[List.nil_append] at hs⊢;rw[stepG_end] at hs;cases hs;exact cz hl hw stepG_end (gq.ret (.up hf ht ha hd hst))
 |cons it t=>
  obtain⟨h1,ht'⟩:=all_cons ht;simp only[List.cons_append] at hs⊢;cases it with
  |code cd=>
   cases cd with
   |skip=>rw[stepG_skip] at hs;cases hs;exact cz hl hw stepG_skip (.run (h.top ht' ha hd))
   |label l=>rw[stepG_label] at hs;cases hs;exact cz hl hw stepG_label (.run (h.top ht' ha hd))
   |ret=>rw[stepG_ret'] at hs;cases hs;exact cz hl hw stepG_ret' (.ret h)
   |seq p q=>
    simp only[bV,eL,Bool.and_eq_true] at h1;rw[stepG_seq] at hs;cases hs;exact cz hl hw stepG_seq (gq.run (t:= .code p::.code q::t) (h.top (dE h1.1 (dE h1.2 ht')) ha hd))
   |cond o p q=>
    simp only[bV,eL,Bool.and_eq_true] at h1;have hev:=kG (π:=π) a D h1.1.1.1 h1.1.1.2;cases hb:a.eval o with
    |bool b=>
     rw[hb,dC] at hev;rw[stepG_cond hb] at hs;cases hs;exact cz hl hw (stepG_cond hev) (gq.run (t:= .code (if b then p else q)::t) (h.top (dE (by cases b;exact h1.2;exact h1.1.2) ht') ha hd))
    |_=>
     exfalso;have he:=Frame.eval_at (base f) a (.code (.cond o p q)::(t++x)) o;simp only[Frame.at] at he;simp[G,stepG,stepG.exec,Frame.at,he,hb] at hs
   |block id p=>rw[stepG_block] at hs;cases hs;exact cz hl hw stepG_block (gq.run (t:= .code p::.inBlock id::t) (h.top (dE h1 (dE rfl ht')) ha hd))
   |loop p=>rw[stepG_loop] at hs;cases hs;exact cz hl hw stepG_loop (gq.run (t:= .code p::.inLoop p::t) (h.top (dE h1 (dE h1 ht')) ha hd))
   |exit id=>
    have el:=jt (id:=id) t x;have er:=jt (id:=id) t y;cases he:exitTo id t with
    |some t2=>
     rw[he] at el er;rw[stepG_exit el] at hs;cases hs;exact cz hl hw (stepG_exit er) (.run (h.top (fun it hit=>ht' it (qj he it hit)) ha hd))
    |none=>
     rw[he] at el er;dsimp only at el er;cases h with
     |bot _ _ _ hxy=>
      cases hx:exitTo id x with
      |none=>
       exfalso;rw[hx] at el;simp[G,stepG,stepG.exec,Frame.at,el,base] at hs
      |some x2=>
       obtain⟨y2,hy,afQ⟩:=c.exit _ _ _ _ hxy hx;rw[hx] at el;rw[hy] at er;rw[stepG_exit el] at hs;cases hs;exact cz hl hw (stepG_exit er) (gq.run (t:=[]) (.bot (by simp) ha hd afQ))
     |up hf _ _ _ hst=>
      exfalso;simp[exitTo] at el;simp[G,stepG,stepG.exec,Frame.at,he,base] at hs
   |region id ops draw=>
    cases draw with
    |false=>rw[stepG_region] at hs;cases hs;exact cz hl hw stepG_region (gq.run (t:= .inRegion ops (List.range ops.size)::t) (h.top (dE (pI h1 _) ht') ha hd))
    |true=>
     rw[stepG_region_draw] at hs;cases hs;refine⟨_,_,#[],stepG_region_draw,?_,hl.draw,Nat.le_refl _,hw.draw,⟨Nat.le_refl _,by simp,fun _ _ _=>rfl,rfl,rfl,rfl,Nat.le_succ _⟩,by simp⟩;rw[show w.tape w.drawn (.order B.fn id)=wL.tape wL.drawn (.order (base f).fn id) by rw[hw.tape,hw.drawn,hB];rfl]
     exact gq.run (t:= .inRegion ops _::t) (qr.top (h.mono fun i hv=>hv) (dE (pI h1 _) ht') ha hd)
   |scope p=>rw[nA] at hs;cases hs;exact cz hl hw nA (gq.run (t:= .code p::.inScope p::t) (h.top (dE h1 (dE h1 ht')) ha hd))
   |refuse why=>simp[G,stepG,stepG.exec,Frame.at] at hs
   |goto l=>
    rcases pO (l:=l) t x ht' with⟨t2,ht2,hg⟩|hg
    .rw[pX (hg x)] at hs;cases hs
     exact cz hl hw (pX (hg y)) (gq.run (t:=t2) (h.top ht2 ha hd))
    .exfalso
     have hx:gotoIn l x=none:=by
      cases h with
      |bot _ _ _ hxy=>exact c.bare _ _ _ hxy
      |up=>rfl
     have:=hg x;rw[hx] at this;simp[G,stepG,stepG.exec,Frame.at,this,base] at hs
   |_=>simp[bV,eL] at h1
  |inBlock id=>rw[stepG_inBlock] at hs;cases hs;exact cz hl hw stepG_inBlock (.run (h.top ht' ha hd))
  |inScope p=>rw[ly] at hs;cases hs;exact cz hl hw ly (.run (h.top ht' ha hd))
  |inLoop p=>rw[stepG_inLoop] at hs;cases hs;exact cz hl hw stepG_inLoop (gq.run (t:= .code p::.inLoop p::t) (h.top (dE h1 (dE h1 ht')) ha hd))
  |inRegion ops todo=>
   cases todo with
   |nil=>rw[stepG_region_end] at hs;cases hs;exact cz hl hw stepG_region_end (.run (h.top ht' ha hd))
   |cons i rest=>exact NT hS hi h0 hz hl hw h hs hn hag
  |_=>simp[bV] at h1
theorem step_ret (hS:Stat P S E str)(hi:∀i j,π i=π j->i=j)(hl:LW H Z wL)(hw:WR π H Z wL w){main:Bool}
  {f:FuncId} {a:Act} {t x y:List Item} {cs cs':List Frame} {B:Frame} {D:jU} {todo todo':List Item} (h:qr P S E str π c (fY H wL) f a t x cs B D y cs') (hne:cs≠[c.gf])
  {oX:Goroutine} {bG:World} {es:Array Event} (hs:stepG P true (G {(base f).at a todo with mode:= .returning} cs) wL= .go oX bG es)
  (hag:∀i,wL.heap.size+i<bG.heap.size->π (wL.heap.size+i)=w.heap.size+i):Res P S E str π c main H Z wL w (G {B.at (bg π a D) todo' with mode:= .returning} cs') oX bG:=by
 cases h with
 |bot=>exact absurd rfl hne
 |@up f f1 a a1 t t1 x1 y1 ops i rest cs1 IT B1 D1 hf ht ha hd hst=>
  obtain⟨fn,cd,b1,b2,b3,b4⟩:=hS.body f hf;obtain⟨hB1,hk1,hd1,ht1,ha1⟩:=hst.base;obtain⟨hops,ht1'⟩:=all_cons ht1;have hfin:∀(b:Frame) (a:Act) (k:List Item) (v:Value),(b.at a (.inRegion ops (i::rest)::k)).finish v=b.at (a.put ((ops[i]?).bind (·.dst)) v) (.inRegion ops rest::k):=fun b a k v=>Frame.finish_at b a ops i rest k v
  have gen:∀(main:Bool) (b:Frame) (a:Act) (todo:List Item) (cr:Frame) (Du:List Frame) (w:World),b.kind= .normal->a.defers=[]->b.fn=f->stepG P main (G {b.at a todo with mode:= .returning} (cr::Du)) w=
    GStep.after (seen P f ((results fn a.tmps).events P w #[])) (match(results fn a.tmps).run P w with
     |.ok v w=> .go (G (cr.finish v) Du) w
     |.halt (.stuck s) w=> .ended (.stuck s (Frame.pos P {b.at a todo with mode:= .returning})) w
     |.halt _ w=> .ended (.stuck "return: the result variables cannot be read" (Frame.pos P {b.at a todo with mode:= .returning})) w):=by
   intro main b a todo cr Du w e1 e2 e3;subst e3;simp[G,stepG,unwind,doReturn,Frame.at,e1,e2,b1];cases (results fn a.tmps).run P w with
   |ok v u=>rfl
   |halt h u=>cases h<;>rfl
  rw[gen true (base f) a todo _ cs1 wL rfl hd rfl] at hs;cases hr:(results fn a.tmps).run P wL with
  |halt h u=>rw[hr] at hs;cases h<;>simp[GStep.after] at hs
  |ok v u=>
   rw[hr] at hs;simp only[GStep.after,GStep.go.injEq] at hs;obtain⟨rfl,rfl,_⟩:=hs;obtain⟨l1,l2,w',e1,e3,e4,e5,e6⟩:=mR hS hi hl hw ha fn hr hag;have hT:=gen main (base f) (bg π a []) todo' (B1.at (bg π a1 D1) (.inRegion ops (i::rest)::(t1++y1))) IT w rfl rfl rfl;rw[show(bg π a []).tmps=a.tmps.map (Value.ren π) from rfl,e1] at hT;simp only[GStep.after] at hT
   refine⟨_,w',_,hT,?_,l1,l2,e3,e4,fun e he=>e5 e (by simpa using mem_seen (by simpa using he))⟩;rw[hfin,hfin,hU _ _ _ _ (fun t ht=>by
    cases ho:ops[i]? with
    |none=>rw[ho] at ht;cases ht
    |some o=>rw[ho] at ht;exact(kq (n6 hops ho)).2.2 t ht)]
   have hm:∀i,fY H wL i->fY H u i:=fun i hv=>⟨Nat.lt_of_lt_of_le hv.1 l2,hv.2⟩
   exact gq.run (t:= .inRegion ops rest::t1) ((hst.mono hm).top (dE (jz hops) ht1') (jf (fun v hv=>(ha1 v hv).weak hm) e6) ((put_defers _ _ _).trans hd1))
end
def dB (P:Program):Frame:=(base 0).at {tmps:=#[],defers:=[{target:= .fn (.func P.funcs.size) #[],args:=#[]}]} [.code (.refuse "")]
inductive Jh (P:Program):Frame->List Frame->Prop
 |top {fr:Frame} {ch:List PanicEntry} (hm:fr.mode= .panicking ch) (hf:fr.defers=(dB P).defers):Jh P fr []
 |up {fr cr:Frame} {cs:List Frame} {ch:List PanicEntry} (hm:fr.mode= .panicking ch) (hd:fr.defers=[]) (hf:fr.catches P=false) (h:∀ch,Jh P (cr.raise ch) cs):Jh P fr (cr::cs)
section
variable {P:Program}{S E:FuncId->Bool}{str:Bool}{c:Ctx}{H Z:Nat->Prop}{w:World}
def Jn (P:Program)(S E:FuncId->Bool)(str:Bool)(c:Ctx)(H Z:Nat->Prop)(gL:Goroutine)(w:World):Prop:=
 LW H Z w/\((∃g,gq P S E str id c H w gL g)\/gL=G (dB P) [])
def Dq (P:Program)(J:Goroutine->World->Prop)(gL:Goroutine)(w:World)(t:dU)(d:Nat):Prop:=
 (∃o u es,stepG P true gL (ay w t d)= .ended o u es)\/
 (∃fr cs u es,stepG P true gL (ay w t d)= .go (G fr cs) u es/\Jh P fr cs)\/
 ∃fr cs u es k,stepG P true gL (ay w t d)= .go (G fr cs) u es/\pq (G fr cs)/\J (G fr cs) u/\u=ay u t (d+k)/\
  ∀t2 d2,(∀i,i<k->t2 (d2+i)=t (d+i))->stepG P true gL (ay w t2 d2)= .go (G fr cs) (ay u t2 (d2+k)) es
theorem lW {fr:Frame}{cs:List Frame}(h:∀ch,fr.mode≠.panicking ch):pq (G fr cs):=⟨rfl,rfl,rfl,h⟩
theorem p8 {J:Goroutine->World->Prop}{gL:Goroutine}{fr:Frame}{cs:List Frame}(t:dU)(d:Nat)(h:∀w,stepG P true gL w= .go (G fr cs) w)(hm:∀ch,fr.mode≠.panicking ch)(hj:J (G fr cs) (ay w t d)):Dq P J gL w t d:=
 .inr (.inr ⟨fr,cs,_,#[],0,h _,lW hm,hj,rfl,fun t2 d2 _=>h _⟩)
theorem qr.lost (hS:Stat P S E str)(hgf:c.gf=dB P)(h0:∃fn,P.funcs[c.f0]? =some fn){π:Nat->Nat}{V:Nat->Prop}{f:FuncId}{a:Act}{t x:List Item}{cs:List Frame}{B:Frame}{D:jU}{y:List Item}{cs':List Frame}(h:qr P S E str π c V f a t x cs B D y cs'):
  ∀(todo:List Item) (ch:List PanicEntry),Jh P {(Go.Conc.base f).at a todo with mode:= .panicking ch} cs:=by
 have cat:∀(f:FuncId) (a:Act) (todo:List Item) (ch:List PanicEntry),(∃fn,P.funcs[f]? =some fn)->Frame.catches P {(Go.Conc.base f).at a todo with mode:= .panicking ch}=false:=by
  rintro f a todo ch ⟨fn,hf⟩;simp[Frame.catches,Frame.at,Go.Conc.base,hf]
 induction h with
 |bot ht ha hd hxy=>
  intro todo ch;refine .up rfl hd (cat _ _ _ _ h0) fun ch'=>?_
  rw[hgf];exact .top rfl rfl
 |up hf ht ha hd _ ih=>
  intro todo ch;obtain⟨fn,cd,b1,_⟩:=hS.body _ hf;exact .up rfl hd (cat _ _ _ _ ⟨fn,b1⟩) fun ch'=>ih _ ch'
theorem Lb (hS:Stat P S E str)(hz:str=true->∀b,¬Z b){w:World}(hl:LW H Z w){f:FuncId}{a:Act}{t x y:List Item}{cs cs':List Frame}{B:Frame}{D:jU}(h:qr P S E str id c (fY H w) f a t x cs B D y cs')
  {oX:Goroutine} {w':World} {es:Array Event} (hs:stepG P true (G ((base f).at a (t++x)) cs) w= .go oX w' es) (hn:pq oX):Jn P S E str c H Z oX w':=by
 obtain⟨g',_,_,_,hr,l,_⟩:=Bl hS (fun _ _ h=>h) rfl hz hl (hl.self (σ:=id) (fun _ _ h=>h) fun _ _=>rfl) (main:=true) h hs hn fun i _=>rfl
 exact⟨l,.inl ⟨g',hr⟩⟩
theorem U1 (hS:Stat P S E str)(hz:str=true->∀b,¬Z b)(hgf:c.gf=dB P)(h0:∃fn,P.funcs[c.f0]? =some fn)(hl:LW H Z w)(t0:dU)(d0:Nat)
  {f:FuncId} {a:Act} {t x y:List Item} {cs cs':List Frame} {B:Frame} {D:jU} {ops:Array Oper} {i:Nat} {rest:List Nat} (h:qr P S E str id c (fY H w) f a (.inRegion ops (i::rest)::t) x cs B D y cs'):
  Dq P (Jn P S E str c H Z) (G ((base f).at a (.inRegion ops (i::rest)::(t++x))) cs) w t0 d0:=by
 obtain⟨hB,hk,hd,ht,ha⟩:=h.base;obtain⟨hops,ht'⟩:=all_cons ht;have jr:∀{oX:Goroutine} {w':World} {es:Array Event},stepG P true (G ((base f).at a (.inRegion ops (i::rest)::(t++x))) cs) (ay w t0 d0)= .go oX w' es->pq oX->Jn P S E str c H Z oX w':=fun hs hn=>
  Lb hS hz (hl.ay t0 d0) (h.mono fun i hv=>hv) hs hn
 cases ho:ops[i]? with
 |none=>
  have e:∀w,stepG P true (G ((base f).at a (.inRegion ops (i::rest)::(t++x))) cs) w= .go (G ((base f).at a (.inRegion ops rest::(t++x))) cs) w:=fun w=>by
   simp[G,stepG,stepG.exec,Frame.at,ho,Frame.finish]
  exact p8 _ _ e (fun ch=>by simp[Frame.at]) (jr (e _) (lW fun ch=>by simp[Frame.at]))
 |some o=>
  have hoS:eE (sl D) P S E str o=true:=n6 hops ho;have sc:lF P S E str o=true:=(kq hoS).1;cases hwd:Region.wanted o (yielded ops a.tmps) with
  |false=>
   have e:∀w,stepG P true (G ((base f).at a (.inRegion ops (i::rest)::(t++x))) cs) w= .go (G ((base f).at (a.put o.dst undef) (.inRegion ops rest::(t++x))) cs) w #[]:=fun w=>stepG_unwanted ho hwd
   exact p8 _ _ e (fun ch=>by simp[Frame.at]) (jr (e _) (lW fun ch=>by simp[Frame.at]))
  |true=>
   have hka:(base f).kind≠.early:=by simp[base]
   have CF:bk P id (fun b=>H b\/Z b) (fY H w) (RN id S) (execOp a.eval o) (execOp (bg id a []).eval o):=
    p5 (hS.SS (fun _ _ h=>h) rfl hz _ fun i hv=>hv.2) sc (fun x _ hx=>⟨kG a [] hx (by cases x<;>rfl),k9 ha hx⟩) (fun f=>⟨rfl,rfl⟩) (fun v=>rfl)
   have hl1:=hl.ay t0 d0;cases hr:(execOp a.eval o).run P (ay w t0 d0) with
   |halt hh u=>
    have hok:kr hh:=CF.RM hl1.y8 (fun b hb=>hl1.low b hb) hr;unfold Dq;rw[stepG_oper ho hwd];cases hh with
    |panic v=>
     refine .inr (.inl ⟨_,cs,u,listed P f a o (ay w t0 d0),?_,h.lost hS hgf h0 (.inRegion ops (i::rest)::(t++x)) [{v,recovered:=false}]⟩);simp[stepG.apply,hr,Frame.at,GStep.after,base,G,listed,Frame.raise]
    |stuck m=>exact .inl ⟨_,_,_,by simp[stepG.apply,hr,Frame.at,GStep.after,base];exact⟨rfl,rfl,rfl⟩⟩
    |unsupported u=>cases u<;>first|exact hok.elim|exact .inl ⟨_,_,_,by simp[stepG.apply,hr,Frame.at,GStep.after,base];exact⟨rfl,rfl,rfl⟩⟩
    |_=>exact hok.elim
   |ok nx u=>
    have hrT:(execOp a.eval o).runT P (ay w t0 d0) #[]=(.ok nx u,(execOp a.eval o).events P (ay w t0 d0) #[]):=by rw[Sem.runT_eq,hr]
    obtain⟨k,hk1,hk2⟩:=CF.DO hl.y8 (fun b hb=>hl.low b hb) hrT;have sh:∀t2 d2,(∀i,i<k->t2 (d2+i)=t0 (d0+i))->(execOp a.eval o).run P (ay w t2 d2)= .ok nx (ay u t2 (d2+k))/\listed P f a o (ay w t2 d2)=listed P f a o (ay w t0 d0):=fun t2 d2 hag=>by
     have:=hk2 t2 d2 hag;refine⟨by rw[<-Sem.runT_fst P _ _ #[],this],?_⟩;unfold listed;rw[show(execOp a.eval o).events P (ay w t2 d2) #[]=_ from congrArg Prod.snd this]
    cases nx with
    |value v=>
     have e:=stepG_value (main:=true) (cs:=cs) (k:=t++x) (rest:=rest) ho hwd hka hr;refine .inr (.inr ⟨_,_,u,_,k,e,lW fun ch=>by simp[Frame.at],jr e (lW fun ch=>by simp[Frame.at]),hk1,fun t2 d2 hag=>?_⟩);obtain⟨s1,s2⟩:=sh t2 d2 hag;rw[stepG_value ho hwd hka s1];rw[show listed P (base f).fn a o (ay w t2 d2)=_ from s2];rfl
    |skip=>
     have e:=stepG_none (main:=true) (cs:=cs) (k:=t++x) (rest:=rest) ho hwd hka hr;refine .inr (.inr ⟨_,_,u,_,k,e,lW fun ch=>by simp[Frame.at],jr e (lW fun ch=>by simp[Frame.at]),hk1,fun t2 d2 hag=>?_⟩);obtain⟨s1,s2⟩:=sh t2 d2 hag;rw[stepG_none ho hwd hka s1];rw[show listed P (base f).fn a o (ay w t2 d2)=_ from s2];rfl
    |enter f2 ae=>
     have e:=stepG_enter (main:=true) (cs:=cs) (k:=t++x) (rest:=rest) ho hwd hka hr;refine .inr (.inr ⟨_,_,u,_,k,e,lW fun ch=>by simp[Frame.enter],jr e (lW fun ch=>by simp[Frame.enter]),hk1,fun t2 d2 hag=>?_⟩);obtain⟨s1,s2⟩:=sh t2 d2 hag;rw[stepG_enter ho hwd hka s1];rw[show listed P (base f).fn a o (ay w t2 d2)=_ from s2];rfl
    |_=>
     exfalso;have:=mS hS (fun _ _ h=>h) rfl hz hl1 (hl1.self (σ:=id) (fun _ _ h=>h) fun _ _=>rfl) D ha hoS hr (fun i _=>rfl);obtain⟨_,_,x',w',_,e2,_⟩:=this;exact e2.elim
theorem OQ (hS:Stat P S E str)(hz:str=true->∀b,¬Z b)(hgf:c.gf=dB P)(h0:∃fn,P.funcs[c.f0]? =some fn)(hl:LW H Z w)(t0:dU)(d0:Nat)
  {f:FuncId} {a:Act} {t x y:List Item} {cs cs':List Frame} {B:Frame} {D:jU} (h:qr P S E str id c (fY H w) f a t x cs B D y cs'):
  Dq P (Jn P S E str c H Z) (G ((base f).at a (t++x)) cs) w t0 d0:=by
 obtain⟨hB,hk,hd,ht,ha⟩:=h.base;have jr:∀{oX:Goroutine} {w':World} {es:Array Event},stepG P true (G ((base f).at a (t++x)) cs) (ay w t0 d0)= .go oX w' es->pq oX->Jn P S E str c H Z oX w':=fun hs hn=>
  Lb hS hz (hl.ay t0 d0) (h.mono fun i hv=>hv) hs hn
 have BH:∀{fr:Frame},(∀w,stepG P true (G ((base f).at a (t++x)) cs) w= .go (G fr cs) w)->(∀ch,fr.mode≠.panicking ch)->Dq P (Jn P S E str c H Z) (G ((base f).at a (t++x)) cs) w t0 d0:=fun e hm=>
  p8 _ _ e hm (jr (e _) (lW hm))
 cases t with
 |nil=>
  cases h with
  |bot _ _ _ hxy=>
   obtain⟨why,r,rfl⟩:=c.stop _ _ hxy;exact .inl ⟨_,_,_,by simp[G,stepG,stepG.exec,Frame.at];exact⟨rfl,rfl,rfl⟩⟩
  |up hf _ _ _ hst=>exact BH (fun w=>stepG_end) (fun ch=>by simp)
 |cons it t=>
  obtain⟨h1,ht'⟩:=all_cons ht;simp only[List.cons_append] at jr BH⊢;cases it with
  |code cd=>
   cases cd with
   |skip=>exact BH (fun w=>stepG_skip) (fun ch=>by simp[Frame.at])
   |label l=>exact BH (fun w=>stepG_label) (fun ch=>by simp[Frame.at])
   |ret=>exact BH (fun w=>stepG_ret') (fun ch=>by simp)
   |seq p q=>exact BH (fun w=>stepG_seq) (fun ch=>by simp[Frame.at])
   |cond o p q=>
    cases hb:a.eval o with
    |bool b=>exact BH (fun w=>stepG_cond hb) (fun ch=>by simp[Frame.at])
    |_=>
     have he:=Frame.eval_at (base f) a (.code (.cond o p q)::(t++x)) o;simp only[Frame.at] at he;exact .inl ⟨_,_,_,by simp[G,stepG,stepG.exec,Frame.at,he,hb];exact⟨rfl,rfl,rfl⟩⟩
   |block id p=>exact BH (fun w=>stepG_block) (fun ch=>by simp[Frame.at])
   |loop p=>exact BH (fun w=>stepG_loop) (fun ch=>by simp[Frame.at])
   |exit id=>
    cases he:exitTo id (t++x) with
    |some k'=>exact BH (fun w=>stepG_exit he) (fun ch=>by simp[Frame.at])
    |none=>exact .inl ⟨_,_,_,by simp[G,stepG,stepG.exec,Frame.at,he,base];exact⟨rfl,rfl,rfl⟩⟩
   |region id ops draw=>
    cases draw with
    |false=>exact BH (fun w=>stepG_region) (fun ch=>by simp[Frame.at])
    |true=>
     have e:=stepG_region_draw (P:=P) (main:=true) (b:=base f) (a:=a) (k:=t++x) (cs:=cs) (w:=ay w t0 d0) (id:=id) (ops:=ops);refine .inr (.inr ⟨_,_,_,_,1,e,lW fun ch=>by simp[Frame.at],jr e (lW fun ch=>by simp[Frame.at]),rfl,fun t2 d2 hag=>?_⟩);rw[stepG_region_draw];have:=hag 0 (by omega);simp only[Nat.add_zero] at this
     show GStep.go (G ((base f).at a (.inRegion ops (Region.schedule (P.follows .mixedOrders) ops (t2 d2 (.order f id)))::(t++x))) cs) _ _=_;rw[this];rfl
   |scope p=>exact BH (fun w=>nA) (fun ch=>by simp[Frame.at])
   |refuse why=>exact .inl ⟨_,_,_,by simp[G,stepG,stepG.exec,Frame.at];exact⟨rfl,rfl,rfl⟩⟩
   |goto l=>
    cases he:gotoIn l (t++x) with
    |some k'=>exact BH (fun w=>pX he) (fun ch=>by simp[Frame.at])
    |none=>exact .inl ⟨_,_,_,by simp[G,stepG,stepG.exec,Frame.at,he,base];exact⟨rfl,rfl,rfl⟩⟩
   |_=>simp[bV,eL] at h1
  |inScope p=>exact BH (fun w=>ly) (fun ch=>by simp[Frame.at])
  |inBlock id=>exact BH (fun w=>stepG_inBlock) (fun ch=>by simp[Frame.at])
  |inLoop p=>exact BH (fun w=>stepG_inLoop) (fun ch=>by simp[Frame.at])
  |inRegion ops todo=>
   cases todo with
   |nil=>exact BH (fun w=>stepG_region_end) (fun ch=>by simp[Frame.at])
   |cons i rest=>exact U1 hS hz hgf h0 hl t0 d0 h
  |_=>simp[bV] at h1
theorem AC {f:FuncId}{fn:Func}(hf:P.funcs[f]? =some fn){main:Bool}{b:Frame}{a:Act}{todo:List Item}{cr:Frame}{Du:List Frame}{w:World}(e1:b.kind= .normal)(e2:a.defers=[])(e3:b.fn=f):
  stepG P main (G {b.at a todo with mode:= .returning} (cr::Du)) w=
    GStep.after (seen P f ((results fn a.tmps).events P w #[])) (match(results fn a.tmps).run P w with
     |.ok v w=> .go (G (cr.finish v) Du) w
     |.halt (.stuck s) w=> .ended (.stuck s (Frame.pos P {b.at a todo with mode:= .returning})) w
     |.halt _ w=> .ended (.stuck "return: the result variables cannot be read" (Frame.pos P {b.at a todo with mode:= .returning})) w):=by
 subst e3;simp[G,stepG,unwind,doReturn,Frame.at,e1,e2,hf];cases (results fn a.tmps).run P w with
 |ok v u=>rfl
 |halt h u=>cases h<;>rfl
theorem OR (hS:Stat P S E str)(hz:str=true->∀b,¬Z b)(hgf:c.gf=dB P)(h0:∃fn,P.funcs[c.f0]? =some fn)(hl:LW H Z w)(t0:dU)(d0:Nat)
  {f:FuncId} {a:Act} {t x y:List Item} {cs cs':List Frame} {B:Frame} {D:jU} {todo:List Item} (h:qr P S E str id c (fY H w) f a t x cs B D y cs'):
  Dq P (Jn P S E str c H Z) (G {(base f).at a todo with mode:= .returning} cs) w t0 d0:=by
 obtain⟨hB,hk,hd,ht,ha⟩:=h.base;have hfn:∃fn,P.funcs[f]? =some fn:=by
  cases h with
  |bot=>exact h0
  |up hf=>obtain⟨fn,cd,b1,_⟩:=hS.body _ hf;exact⟨fn,b1⟩
 obtain⟨fn,hfn⟩:=hfn;have hl1:=hl.ay t0 d0;have main:∀cr Du,cs=cr::Du->(∀v ch,(cr.finish v).mode≠.panicking ch)->(∀v u es,stepG P true (G {(base f).at a todo with mode:= .returning} cs) (ay w t0 d0)= .go (G (cr.finish v) Du) u es->LW H Z u->Jn P S E str c H Z (G (cr.finish v) Du) u)->
   Dq P (Jn P S E str c H Z) (G {(base f).at a todo with mode:= .returning} cs) w t0 d0:=by
  intro cr Du hcs hm hj;subst hcs;have gen:∀w,_:=fun w=>AC (P:=P) hfn (main:=true) (b:=base f) (a:=a) (todo:=todo) (cr:=cr) (Du:=Du) (w:=w) rfl hd rfl
  cases hr:(results fn a.tmps).run P (ay w t0 d0) with
  |halt hh u=>
   refine .inl ?_;rw[gen,hr];cases hh<;>exact⟨_,_,_,rfl⟩
  |ok v u=>
   have CF:=kP (P:=P) (π:=id) (N:=fun b=>H b\/Z b) (V:=fY H w) fn a.tmps;have hrT:(results fn a.tmps).runT P (ay w t0 d0) #[]=(.ok v u,(results fn a.tmps).events P (ay w t0 d0) #[]):=by rw[Sem.runT_eq,hr]
   obtain⟨k,hk1,hk2⟩:=CF.DO hl.y8 (fun b hb=>hl.low b hb) hrT;obtain⟨l1,_⟩:=mR hS (π:=id) (fun _ _ h=>h) hl1 (hl1.self (σ:=id) (fun _ _ h=>h) fun _ _=>rfl) (fun v hv=>ha v hv) fn hr fun i _=>rfl
   have e:stepG P true (G {(base f).at a todo with mode:= .returning} (cr::Du)) (ay w t0 d0)= .go (G (cr.finish v) Du) u (seen P f ((results fn a.tmps).events P (ay w t0 d0) #[])):=by
    rw[gen,hr];simp[GStep.after]
   refine .inr (.inr ⟨_,_,u,_,k,e,lW (hm v),hj v u _ e l1,hk1,fun t2 d2 hag=>?_⟩);have h2:=hk2 t2 d2 hag;have h3:(results fn a.tmps).run P (ay w t2 d2)= .ok v (ay u t2 (d2+k)):=by rw[<-Sem.runT_fst P _ _ #[],h2]
   have h4:(results fn a.tmps).events P (ay w t2 d2) #[]=(results fn a.tmps).events P (ay w t0 d0) #[]:=by
    show((results fn a.tmps).runT P (ay w t2 d2) #[]).2=_;rw[h2]
   rw[gen,h3,h4];simp[GStep.after]
 cases h with
 |bot _ _ _ hxy=>
  refine main c.gf [] rfl (fun v ch=>by rw[hgf];simp[dB,Frame.finish,Frame.at]) fun v u es _ l=>⟨l,.inr ?_⟩
  rw[hgf];simp[dB,Frame.finish,Frame.at]
 |@up _ f1 _ a1 _ t1 x1 y1 ops i rest cs1 IT B1 D1 hf _ _ _ hst=>
  refine main _ cs1 rfl (fun v ch=>by rw[Frame.finish_at];simp[Frame.at]) fun v u es hs l=>?_
  obtain⟨g',_,_,_,hr,l2,_⟩:=step_ret hS (π:=id) (c:=c) (main:=true) (todo':=[]) (fun _ _ h=>h) hl1 (hl1.self (σ:=id) (fun _ _ h=>h) fun _ _=>rfl) (qr.mono (fun i hv=>hv) (.up hf ht ha hd hst)) (by
   intro e;cases hst<;>simp at e) hs fun i _=>rfl
  exact⟨l2,.inl ⟨g',hr⟩⟩
theorem aan (hS:Stat P S E str)(hz:str=true->∀b,¬Z b)(hgf:c.gf=dB P)(h0:∃fn,P.funcs[c.f0]? =some fn){gL:Goroutine}(h:Jn P S E str c H Z gL w)(t0:dU)(d0:Nat):Dq P (Jn P S E str c H Z) gL w t0 d0:=by
 obtain⟨hl,⟨g,hr⟩|rfl⟩:=h
 .cases hr with
  |run h=>exact OQ hS hz hgf h0 hl t0 d0 h
  |ret h=>exact OR hS hz hgf h0 hl t0 d0 h
 .exact .inl ⟨_,_,_,by simp[G,dB,stepG,stepG.exec,Frame.at];exact⟨rfl,rfl,rfl⟩⟩
end
section
variable {P:Program}{S E:FuncId->Bool}{str:Bool}{c:Ctx}{H Z:Nat->Prop}
theorem gq.ay {π:Nat->Nat}{wL:World}{gL g:Goroutine}(h:gq P S E str π c H wL gL g)(t:dU)(d:Nat):gq P S E str π c H (ay wL t d) gL g:=by
 cases h with
 |run h=>exact .run (h.mono fun i hv=>hv)
 |ret h=>exact .ret (h.mono fun i hv=>hv)
theorem shifts (hS:Stat P S E str)(hz:str=true->∀b,¬Z b)(hgf:c.gf=dB P)(h0:∃fn,P.funcs[c.f0]? =some fn):Shifts P (Jn P S E str c H Z):=by
 intro g w t d g' w' es hj hs hn;rcases aan hS hz hgf h0 hj t d with⟨o,u,es2,h⟩|⟨fr,cs,u,es2,h,hl⟩|⟨fr,cs,u,es2,k,h,_,hj',hk,hk2⟩
 .rw[h] at hs;cases hs
 .rw[h] at hs
  cases hs;exfalso;cases hl with
  |top hm _=>exact hn.calm _ hm
  |up hm _ _ _=>exact hn.calm _ hm
 .rw[h] at hs
  cases hs;exact⟨hj',k,hk,hk2⟩
theorem wu:∀(n:Nat) {fr:Frame} {cs:List Frame} {w:World} {fr':Frame} {cs':List Frame} {w':World},Jh P fr cs->runN P n (lone fr cs w)= .next (lone fr' cs' w')->∃ch,fr'.mode= .panicking ch
 |0,fr,cs,w,fr',cs',w',h,hr=>by
  simp only[runN,Stepped.next.injEq,lone,Machine.mk.injEq] at hr;have h1:=hr.2.1;simp at h1;obtain⟨rfl,_⟩:=h1;cases h with
  |top hm _=>exact⟨_,hm⟩
  |up hm _ _ _=>exact⟨_,hm⟩
 |n+1,fr,cs,w,fr',cs',w',h,hr=>by
  simp only[runN] at hr;cases h with
  |top hm hf=>
   have:step P (lone fr [] w)= .ended (.stuck "call: no such function" (Frame.pos P {fr with defers:=[]})) w:=by
    refine step_lone_ended ?_;simp[stepG,unwind,hm,hf,dB,callDeferred,Frame.at,invoke,callFunc,program,stuck,bind,Sem.bind,Sem.run,GStep.after]
   rw[this] at hr;cases hr
  |@up _ cr cs ch hm hd hc h=>
   have:step P (lone fr (cr::cs) w)= .next (lone (cr.raise ch) cs w):=by
    refine step_lone_go ?_;simp[stepG,unwind,hm,hd,hc]
   rw[this] at hr;exact wu n (h ch) hr
theorem kS (hS:Stat P S E str)(hz:str=true->∀b,¬Z b)(hgf:c.gf=dB P)(h0:∃fn,P.funcs[c.f0]? =some fn):∀(n:Nat) {fr:Frame} {cs:List Frame} {w:World} {fr':Frame} {cs':List Frame} {w':World},
  Jn P S E str c H Z (G fr cs) w->runN P n (lone fr cs w)= .next (lone fr' cs' w')->(∀ch,fr'.mode≠.panicking ch)->Run P n (G fr cs) w (G fr' cs') w'/\Jn P S E str c H Z (G fr' cs') w'
 |0,fr,cs,w,fr',cs',w',hj,hr,_=>by
  simp only[runN,Stepped.next.injEq,lone,Machine.mk.injEq] at hr;have h1:=hr.2.1;simp at h1;obtain⟨rfl,rfl⟩:=h1;obtain rfl:=hr.1;exact⟨⟨rfl,rfl⟩,hj⟩
 |n+1,fr,cs,w,fr',cs',w',hj,hr,hm=>by
  simp only[runN] at hr;rcases aan hS hz hgf h0 hj w.tape w.drawn with⟨o,u,es2,h⟩|⟨fr2,cs2,u,es2,h,hl⟩|⟨fr2,cs2,u,es2,k,h,hn,hj',_,_⟩
  .rw[nR] at h
   have:step P (lone fr cs w)= .ended o u:=step_lone_ended (by
    show(stepG P true (G fr cs) w).bare=_;rw[h];rfl)
   rw[this] at hr;cases hr
  .rw[nR] at h
   have:step P (lone fr cs w)= .next (lone fr2 cs2 u):=step_lone_go (by
    show(stepG P true (G fr cs) w).bare=_;rw[h];rfl)
   rw[this] at hr;obtain⟨ch,hc⟩:=wu n hl hr;exact absurd hc (hm ch)
  .rw[nR] at h
   have:step P (lone fr cs w)= .next (lone fr2 cs2 u):=step_lone_go (by
    show(stepG P true (G fr cs) w).bare=_;rw[h];rfl)
   rw[this] at hr;obtain⟨r1,r2⟩:=kS hS hz hgf h0 n hj' hr hm;exact⟨⟨_,u,es2,h,hn,r1⟩,r2⟩
def kL:Option Nat->List Item
 |none=>[.inRangeFunc 0]
 |some id=>[.inRangeFunc 0,.inBlock id,.inRangeFunc 0]
def R7 (f0:FuncId)(P:Program)(fM:Option Nat):Exit->Act->Goroutine->Prop
 |.normal,a,g=>g=G ((base f0).at a (kL fM)) [dB P]
 |.exit id,a,g=>fM=some id/\g=G ((base f0).at a [.inRangeFunc 0]) [dB P]
 |.ret,a,g=>∃todo,g=G {(base f0).at a todo with mode:= .returning} [dB P]
 |_,_,_=>False
def aha (f0:FuncId)(P:Program)(fM:Option Nat)(Q:Exit->Act->World->Prop)(g:Goroutine)(w:World):Prop:=∃e a,Q e a w/\R7 f0 P fM e a g
structure QOk (fM:Option Nat)(Q:Exit->Act->World->Prop):Prop where
 tape:∀e a w t d,Q e a (ay w t d)↔Q e a w
 out:∀e a w,Q e a w->e= .normal\/e= .ret\/∃id,e= .exit id/\fM=some id
def WpT (P:Program)(t:List Item)(Q:Exit->Act->World->Prop)(a:Act)(w:World):Prop:=∀(b:Frame) (k:List Item) (cs:List Frame),∃e a' w',Q e a' w'/\Arrives P (lone (b.at a (t++k)) cs w) b k cs e a' w'
theorem EN (hS:Stat P S E str)(hz:str=true->∀b,¬Z b)(hgf:c.gf=dB P)(h0:∃fn,P.funcs[c.f0]? =some fn){t0:List Item}{Q:Exit->Act->World->Prop}{a:Act}{wL:World}{fM:Option Nat}(hQ:QOk fM Q)
  (hj:Jn P S E str c H Z (G ((base c.f0).at a (t0++kL fM)) [dB P]) wL) (h:∀t d,WpT P t0 Q a (ay wL t d)):Ends P (aha c.f0 P fM Q) (G ((base c.f0).at a (t0++kL fM)) [dB P]) wL:=by
 intro t d;obtain⟨e,a',w',q,harr⟩:=h t d (base c.f0) (kL fM) [dB P];have hj':Jn P S E str c H Z (G ((base c.f0).at a (t0++kL fM)) [dB P]) (ay wL t d):=⟨hj.1.ay t d,hj.2.imp (fun⟨g,h⟩=>⟨g,h.ay t d⟩) id⟩
 rcases hQ.out e a' w' q with rfl|rfl|⟨id,rfl,hx⟩
 .obtain⟨n,hn⟩:=harr
  exact⟨n,_,w',(kS hS hz hgf h0 n hj' hn fun ch=>by simp[Frame.at]).1,.normal,a',q,rfl⟩
 .obtain⟨todo,n,hn⟩:=harr
  exact⟨n,_,w',(kS hS hz hgf h0 n hj' hn fun ch=>by simp).1,.ret,a',q,todo,rfl⟩
 .subst hx
  obtain⟨n,hn⟩:=harr [.inRangeFunc 0] (by simp[kL,exitTo]);exact⟨n,_,w',(kS hS hz hgf h0 n hj' hn fun ch=>by simp[Frame.at]).1,.exit id,a',q,rfl,rfl⟩
end
def Sl (O RO:Nat->Prop)(n n':Nat)(e:Event):Prop:=
 (∃b,(O b\/(n<=b/\b<n')\/(RO b/\e.write=false))/\((∃a:Addr,e.loc= .cell a/\a.block=b)\/e.loc= .obj b))\/∃m,e.loc= .mark m/\n9 m
structure j4 (O RO:Nat->Prop)(w w':World)(es:Array Event):Prop where
 size:w.heap.size<=w'.heap.size
 keep:∀k,k<w.heap.size->¬O k->w'.heap[k]? =w.heap[k]?
 os:w'.os=w.os
 output:w'.output=w.output
 tape:w'.tape=w.tape
 ev:∀e∈es,Sl O RO w.heap.size w'.heap.size e
structure Ni {S0:Type}(C:Co S0)(own:S0->Nat->Prop)(RO:Nat->Prop):Prop where
 rel:∀s w w₁,C.R s w w₁->w.heap.size<=w₁.heap.size/\w₁.tape=w.tape/\∀b,b<w.heap.size->own s b\/RO b->w₁.heap[b]? =w.heap[b]?
 guar:∀s w w' es,j4 (own s) RO w w' es->C.D s w w' es
 up:∀s w w' b,own (C.up s w w') b↔own s b\/(w.heap.size<=b/\b<w'.heap.size)
structure Link (H Z:Nat->Prop)(O RO:Nat->Prop)(π:Nat->Nat)(wL w:World):Prop where
 inj:∀i j,π i=π j->i=j
 zero:π 0=0
 lt:∀b,b<wL.heap.size->π b<w.heap.size
 lw:LW H Z wL
 wr:WR π H Z (ay wL w.tape w.drawn) w
 own:∀b,fY H wL b->¬Z b->O (π b)
 ro:∀b,Z b->RO (π b)
section
variable {P:Program}{S E:FuncId->Bool}{str:Bool}{c:Ctx}{H Z:Nat->Prop}{O RO:Nat->Prop}{π b6:Nat->Nat}{wL w w₁:World}
theorem sD {v:Value}:∀(h:∀r,Value.Has r v->π r=b6 r),Value.ren π v=Value.ren b6 v:=by
 suffices h:∀n (v:Value),SizeOf.sizeOf v<n->(∀r,Value.Has r v->π r=b6 r)->Value.ren π v=Value.ren b6 v from h _ v (Nat.lt_succ_self _)
 intro n
 induction n with
 |zero=>intro v h;omega
 |succ n ih=>
  intro v hv h;have arr:∀(cs:Array Value),SizeOf.sizeOf cs<n->(∀x∈cs,∀r,Value.Has r x->π r=b6 r)->cs.map (Value.ren π)=cs.map (Value.ren b6):=by
   intro cs hs hh;exact Array.map_congr_left fun x hx=>ih x (by have:=Array.sizeOf_lt_of_mem hx;omega) (hh x hx)
  cases v with
  |pointer a=>cases a with
   |none=>simp
   |some a=>simp[bi,h a.block (.ptr rfl)]
  |slice a _ _=>cases a with
   |none=>simp
   |some a=>simp[bi,h a.block (.slice rfl)]
  |map r=>cases r with
   |none=>simp
   |some r=>simp[h r .map]
  |chan r=>cases r with
   |none=>simp
   |some r=>simp[h r .chan]
  |iface t v=>rw[cQ,cQ,ih v (by simp at hv;omega) fun r x=>h r (.iface x)]
  |agg cs=>rw[di,di,arr cs (by simp at hv;omega) fun x hx r y=>h r (.agg hx y)]
  |tuple cs=>rw[cP,cP,arr cs (by simp at hv;omega) fun x hx r y=>h r (.tuple hx y)]
  |func fn f c=>
   rw[da,da,arr f (by simp at hv;omega) fun x hx r y=>h r (.first hx y),arr c (by simp at hv;omega) fun x hx r y=>h r (.E3 hx y)];cases fn with
   |yield l=>simp[nX,h l .yield]
   |_=>rfl
  |_=>simp
theorem ku {cs:Array Value}(h:∀x∈cs,∀r,Value.Has r x->π r=b6 r):cs.map (Value.ren π)=cs.map (Value.ren b6):=Array.map_congr_left fun x hx=>sD (h x hx)
theorem vQ {o:Obj}(h:∀r,jN r o->π r=b6 r):dz π o=dz b6 o:=by
 cases o with
 |cells c t f=>simp only[dz];rw[ku fun v hv r x=>h r (.cells hv x)]
 |map es c=>
  simp only[dz];have:es.map (lD π)=es.map (lD b6):=Array.map_congr_left fun e he=>by
   unfold lD;rw[sD fun r x=>h r (.key he x),sD fun r x=>h r (.val he x)]
  rw[this]
 |mapIter m a b c=>cases m with
  |none=>rfl
  |some r=>simp[dz,h r .iter]
 |view a t=>simp[dz,bi,h a.block (.view rfl)]
 |number a l=>simp[dz,bi,h a.block (.number rfl)]
 |_=>rfl
theorem qr.congr {V:Nat->Prop}(hV:∀i,V i->π i=b6 i){f:FuncId}{a:Act}{t x:List Item}{cs:List Frame}{B:Frame}{D:jU}{y:List Item}{cs':List Frame}(h:qr P S E str π c V f a t x cs B D y cs'):qr P S E str b6 c V f a t x cs B D y cs':=by
 induction h with
 |bot ht ha hd hxy=>exact .bot ht ha hd hxy
 |@up f f1 a a1 t t1 x1 y1 ops i rest cs1 IT B1 D1 hf ht ha hd hs ih=>
  have e:bg π a1 D1=bg b6 a1 D1:=by
   unfold bg;rw[ku fun v hv r x=>hV r (hs.base.2.2.2.2 v hv r x)]
  rw[e];exact .up hf ht ha hd ih
theorem gq.congr (hV:∀i,fY H wL i->π i=b6 i){gL g:Goroutine}(h:gq P S E str π c H wL gL g):gq P S E str b6 c H wL gL g:=by
 cases h with
 |@run f a t x cs B D y cs' h=>
  have e:bg π a D=bg b6 a D:=by
   unfold bg;rw[ku fun v hv r x=>hV r (h.base.2.2.2.2 v hv r x)]
  rw[e];exact .run (h.congr hV)
 |@ret f a t x cs B D y cs' todo todo' h=>
  have e:bg π a D=bg b6 a D:=by
   unfold bg;rw[ku fun v hv r x=>hV r (h.base.2.2.2.2 v hv r x)]
  rw[e];exact .ret (h.congr hV)
theorem Link.rely (h:Link H Z O RO π wL w)(hs:w.heap.size<=w₁.heap.size)(ht:w₁.tape=w.tape)(hk:∀b,b<w.heap.size->O b\/RO b->w₁.heap[b]? =w.heap[b]?):
  ∃b6,Link H Z O RO b6 wL w₁/\(∀b,b<wL.heap.size->π b=b6 b)/\∀i,b6 (wL.heap.size+i)=w₁.heap.size+i:=by
 refine⟨fun i=>if i<wL.heap.size then π i else w₁.heap.size+(i-wL.heap.size),?_,fun b hb=>(if_pos hb).symm,fun i=>by show(if wL.heap.size+i<wL.heap.size then π (wL.heap.size+i) else w₁.heap.size+(wL.heap.size+i-wL.heap.size))=_;rw[if_neg (by omega)];omega⟩;have e:∀b,b<wL.heap.size->(if b<wL.heap.size then π b else w₁.heap.size+(b-wL.heap.size))=π b:=fun b hb=>if_pos hb
 have lo:∀b,H b\/Z b->b<wL.heap.size:=h.lw.low;have hz0:0<wL.heap.size:=h.lw.zero.1;have oc:∀(b:Nat) (o:Obj),wL.heap[b]? =some o->¬H b->dz (fun i=>if i<wL.heap.size then π i else w₁.heap.size+(i-wL.heap.size)) o=dz π o:=fun b o hb hH=>vQ fun r hr=>e r (h.lw.Qw b o hb hH r hr).1
 have at_:∀b,fY H wL b->w₁.heap[π b]? =w.heap[π b]? :=fun b hb=>hk _ (h.lt b hb.1) (by
  by_cases hZ:Z b
  .exact .inr (h.ro b hZ)
  .exact .inl (h.own b hb hZ))
 refine {inj:=fun i j hij=>?_,zero:=by rw[e 0 hz0];exact h.zero,lt:=fun b hb=>by rw[e b hb];have:=h.lt b hb;omega,lw:=h.lw,wr:=?_,own:=fun b hb hZ=>by rw[e b hb.1];exact h.own b hb hZ,ro:=fun b hZ=>by rw[e b (lo b (.inr hZ))];exact h.ro b hZ}
 .split at hij<;>split at hij
  .exact h.inj _ _ hij
  .have:=h.lt i (by assumption);omega
  .have:=h.lt j (by assumption);omega
  .omega
 .have hw:=h.wr
  refine {inj:=?_,tape:=rfl,drawn:=rfl,lt:=fun b hb hH=>?_,ok:=fun b o hb hH hZ=>?_,hid:=hw.hid,np:=fun b o hb hZ=>?_,low:=hw.low,xM:=hw.xM}
  .intro i j hij
   split at hij<;>split at hij
   .exact h.inj _ _ hij
   .have:=h.lt i (by assumption);omega
   .have:=h.lt j (by assumption);omega
   .omega
  .rw[e b hb]
   have:=h.lt b hb;omega
  .have hlt:=(Array.getElem?_eq_some_iff.1 hb).1
   refine⟨(hw.ok b o hb hH hZ).1,?_⟩;rw[e b hlt,at_ b ⟨hlt,hH⟩,oc b o hb hH];exact(hw.ok b o hb hH hZ).2
  .have hlt:=(Array.getElem?_eq_some_iff.1 hb).1
   obtain⟨c,t,f,rfl,h2⟩:=hw.np b o hb hZ;refine⟨c,t,f,rfl,?_⟩;have hH:=h.lw.apart b hZ;rw[e b hlt,at_ b ⟨hlt,hH⟩];have:=oc b _ hb hH;simp only[dz,Obj.cells.injEq] at this;rw[this.1];exact h2
theorem Link.qV (h:Link H Z O RO π wL w){bG w':World}{es:Array Event}(hag:∀i,wL.heap.size+i<bG.heap.size->π (wL.heap.size+i)=w.heap.size+i)
  (l:LW H Z bG) (hsz:wL.heap.size<=bG.heap.size) (hw:WR π H Z bG w') (hc:AW π H Z (ay wL w.tape w.drawn) bG w w') (he:∀e∈es,oF π H Z bG.heap.size e):
  j4 O RO w w' es/\∀O':Nat->Prop,(∀b,O' b↔O b\/(w.heap.size<=b/\b<w'.heap.size))->Link H Z O' RO π bG w':=by
 have hS:w'.heap.size=w.heap.size+(bG.heap.size-wL.heap.size):=hc.size;have new:∀b,wL.heap.size<=b->b<bG.heap.size->w.heap.size<=π b/\π b<w'.heap.size:=fun b h1 h2=>by
  have:=hag (b-wL.heap.size) (by omega);rw[show wL.heap.size+(b-wL.heap.size)=b by omega] at this;omega
 refine⟨⟨by omega,fun k hk hO=>hc.keep k hk fun b hb hH hZ e=>hO (e▸h.own b ⟨hb,hH⟩ hZ),hc.os,hc.output,hc.tape,fun e hE=>?_⟩,fun O' hO'=>?_⟩
 .rcases he e hE with⟨b,hb,hH,hZ,hloc⟩|hm
  .refine .inl ⟨π b,?_,hloc⟩
   by_cases hlt:b<wL.heap.size
   .by_cases hz:Z b
    .refine .inr (.inr ⟨h.ro b hz,?_⟩)
     cases hwr:e.write with
     |false=>rfl
     |true=>exact absurd hz (hZ hwr)
    .exact .inl (h.own b ⟨hlt,hH⟩ hz)
   .exact .inr (.inl (new b (by omega) hb))
  .exact .inr hm
 .refine {inj:=h.inj,zero:=h.zero,lt:=fun b hb=>?_,lw:=l,wr:=?_,own:=fun b hb hZ=>?_,ro:=h.ro}
  .by_cases hlt:b<wL.heap.size
   .have:=h.lt b hlt;omega
   .exact(new b (by omega) hb).2
  .have e:ay bG w'.tape w'.drawn=bG:=by
    unfold ay;rw[hw.tape,hw.drawn]
   rw[e];exact hw
  .rw[hO']
   by_cases hlt:b<wL.heap.size
   .exact .inl (h.own b ⟨hlt,hb.2⟩ hZ)
   .exact .inr (new b (by omega) hb.1)
inductive TlX (fM:Option Nat)(kT:List Item):List Item->List Item->Prop
 |nil:TlX fM kT (kL fM) kT
 |exit {id:Nat} {y:List Item} (h:fM=some id) (hy:exitTo id kT=some y):TlX fM kT [.inRangeFunc 0] y
def acz (B:Frame)(kT:List Item)(CS:List Frame):Exit->Act->Goroutine->Prop
 |.normal,a,g=>g=G (B.at a kT) CS
 |.exit id,a,g=>∃y,exitTo id kT=some y/\g=G (B.at a y) CS
 |.ret,a,g=>∃todo,g=G {B.at a todo with mode:= .returning} CS
 |_,_,_=>False
def StopA {S0:Type}(own:S0->Nat->Prop)(RO:Nat->Prop)(H Z:Nat->Prop)(B:Frame)(D0:jU)(kT:List Item)(CS:List Frame)(Q:Exit->Act->World->Prop)(YK:Nat->Nat)(n₀:Nat)(s:S0)(g:Goroutine)(w:World):Prop:=
 ∃e a wL π,Q e a wL/\Link H Z (own s) RO π wL w/\a.defers=[]/\(∀v∈a.tmps,VV (fY H wL) v)/\acz B kT CS e (bg π a D0) g/\(∀b,b<n₀->π b=YK b)/\n₀<=wL.heap.size
def acK (P:Program)(f0:FuncId)(B:Frame)(D0:jU)(CS:List Frame)(fM:Option Nat)(kT:List Item)(hf:B.fn=f0)(hk:B.kind≠.early)(hx:∀id,fM=some id->∃y,exitTo id kT=some y):Ctx where
 f0:=f0
 gf:=dB P
 B:=B
 D0:=D0
 CS:=CS
 Tl:=TlX fM kT
 fn:=hf
 kind:=hk
 stop:=fun x y h=>by
  cases h with
  |nil=>cases fM<;>exact⟨_,_,rfl⟩
  |exit=>exact⟨_,_,rfl⟩
 exit:=fun x y id x' h hx'=>by
  cases h with
  |nil=>
   cases fM with
   |none=>simp[kL,exitTo] at hx'
   |some i=>
    simp only[kL,exitTo] at hx';split at hx'
    .rename_i he
     have:i=id:=by simpa using he
     subst this;cases hx';obtain⟨y',hy'⟩:=hx i rfl;exact⟨y',hy',.exit rfl hy'⟩
    .cases hx'
  |exit=>simp[exitTo] at hx'
 bare:=fun x y l h=>by
  cases h with
  |nil=>cases fM<;>rfl
  |exit=>rfl
theorem zL {V:Nat->Prop}{f:FuncId}{a:Act}{t x:List Item}{gf:Frame}{B:Frame}{D:jU}{y:List Item}{cs':List Frame}(h:qr P S E str π c V f a t x [gf] B D y cs'):f=c.f0/\B=c.B/\D=c.D0/\cs'=c.CS/\c.Tl x y:=by
 cases h with
 |bot _ _ _ hxy=>exact⟨rfl,rfl,rfl,rfl,hxy⟩
 |up _ _ _ _ hs=>cases hs
theorem tM {gL g:Goroutine}(h:gq P S E str π c H wL gL g){f0:FuncId}{aL:Act}{todo:List Item}{gf:Frame}(e:gL=G ((base f0).at aL todo) [gf]):
  ∃t x y,todo=t++x/\(∀it∈t,bV (sl c.D0) P S E str it=true)/\c.Tl x y/\aL.defers=[]/\(∀v∈aL.tmps,VV (fY H wL) v)/\g=G (c.B.at (bg π aL c.D0) (t++y)) c.CS:=by
 cases h with
 |@run f a t x cs B D y cs' h=>
  simp only[G,Frame.at,base,Goroutine.mk.injEq,Frame.mk.injEq] at e;obtain⟨⟨e1,e2,e3,e4,_⟩,e5,_⟩:=e;subst e5;obtain⟨_,_,hd,ht,ha⟩:=h.base;obtain⟨_,rfl,rfl,rfl,hxy⟩:=zL h;obtain⟨tm,df⟩:=a;obtain⟨tm',df'⟩:=aL;simp only at e2 e4;subst e2;subst e4;exact⟨t,x,y,e3.symm,ht,hxy,hd,ha,rfl⟩
 |ret h=>
  simp only[G,Frame.at,base,Goroutine.mk.injEq,Frame.mk.injEq] at e;exact absurd e.1.2.2.2.2.1 (by simp)
theorem BY {gL g:Goroutine}(h:gq P S E str π c H wL gL g){f0:FuncId}{aL:Act}{todo:List Item}{gf:Frame}(e:gL=G {(base f0).at aL todo with mode:= .returning} [gf]):
  aL.defers=[]/\(∀v∈aL.tmps,VV (fY H wL) v)/\∃todo',g=G {c.B.at (bg π aL c.D0) todo' with mode:= .returning} c.CS:=by
 cases h with
 |run h=>
  simp only[G,Frame.at,base,Goroutine.mk.injEq,Frame.mk.injEq] at e;exact absurd e.1.2.2.2.2.1 (by simp)
 |@ret f a t x cs B D y cs' td td' h=>
  simp only[G,Frame.at,base,Goroutine.mk.injEq,Frame.mk.injEq] at e;obtain⟨⟨e1,e2,e3,e4,_⟩,e5,_⟩:=e;subst e5;obtain⟨_,_,hd,ht,ha⟩:=h.base;obtain⟨_,rfl,rfl,rfl,hxy⟩:=zL h;obtain⟨tm,df⟩:=a;obtain⟨tm',df'⟩:=aL;simp only at e2 e4;subst e2;subst e4;exact⟨hd,ha,td',rfl⟩
theorem Pw (fM:Option Nat):∃r,kL fM= .inRangeFunc 0::r:=by cases fM<;>exact⟨_,rfl⟩
theorem tail_nil {σ:List Nat}{t x:List Item}{r:List Item}(h:Item.inRangeFunc 0::r=t++x)(ht:∀it∈t,bV σ P S E str it=true):t=[]:=by
 cases t with
 |nil=>rfl
 |cons it t=>
  simp only[List.cons_append,List.cons.injEq] at h;have:=ht it (by simp);rw[<-h.1] at this;simp[bV] at this
theorem K3 (hS:Stat P S E str)(hz:str=true->∀b,¬Z b){f0:FuncId}(h0:∃fn,P.funcs[f0]? =some fn){S0:Type}{C:Co S0}{own:S0->Nat->Prop}(hC:Ni C own RO){fM:Option Nat}{Q:Exit->Act->World->Prop}(hQ:QOk fM Q)
  {B:Frame} {D0:jU} {CS:List Frame} {kT:List Item} (hf:B.fn=f0) (hk:B.kind≠.early) (hx:∀id,fM=some id->∃y,exitTo id kT=some y) {t0:List Item} (AX:∀it∈t0,bV (sl D0) P S E str it=true)
  {a:Act} {s:S0} (hl:Link H Z (own s) RO π wL w) (ha:∀v∈a.tmps,VV (fY H wL) v) (hd:a.defers=[]) (hwp:∀t d,WpT P t0 Q a (ay wL t d)) {main:Bool}:
  aD P main C (StopA own RO H Z B D0 kT CS Q π wL.heap.size) s (G (B.at (bg π a D0) (t0++kT)) CS) w:=by
 let c:=acK P f0 B D0 CS fM kT hf hk hx
 have hj:Jn P S E str c H Z (G ((base f0).at a (t0++kL fM)) [dB P]) wL:=
  ⟨hl.lw,.inl ⟨_,gq.run (t:=t0) (x:=kL fM) (qr.bot (c:=c) AX ha hd (.nil (kT:=kT)))⟩⟩
 have abE:=EN hS hz (c:=c) (Z:=Z) rfl h0 hQ hj hwp;have hlt:=zH (shifts hS hz (c:=c) (H:=H) (Z:=Z) rfl h0) (fun g w t d=>by
  constructor
  .rintro⟨e,a,q,x⟩;exact⟨e,a,(hQ.tape e a w t d).1 q,x⟩
  .rintro⟨e,a,q,x⟩;exact⟨e,a,(hQ.tape e a w t d).2 q,x⟩) hj abE
 refine Cu (fun s gL bG g w=>∃b6,Link H Z (own s) RO b6 bG w/\gq P S E str b6 c H bG gL g/\(∀b,b<wL.heap.size->b6 b=π b)/\wL.heap.size<=bG.heap.size) ?_ ?_ ?_ hlt ⟨π,hl,gq.run (t:=t0) (x:=kL fM) (qr.bot (c:=c) AX ha hd (.nil (kT:=kT))),fun _ _=>rfl,Nat.le_refl _⟩
 ·
  rintro s gL wL g w ⟨π,hl,hr,Wp,hsz0⟩ ⟨e,aL,q,hg⟩ w₁ hR;obtain⟨r1,r2,r3⟩:=hC.rel s w w₁ hR;obtain⟨b6,hl',F0,_⟩:=hl.rely r1 r2 r3;have hr':=hr.congr (b6:=b6) fun i hv=>F0 i hv.1
  have PO:=fun b (hb:b<_)=>(F0 b (Nat.lt_of_lt_of_le hb hsz0)).symm.trans (Wp b hb)
  refine⟨e,aL,wL,b6,q,hl',?_⟩;rcases hQ.out e aL wL q with rfl|rfl|⟨id,rfl,hxi⟩
  .obtain⟨t,x,y,e1,ht,hxy,h1,h2,rfl⟩:=tM hr' hg
   obtain⟨r,hr2⟩:=Pw fM;obtain rfl:=tail_nil (hr2▸e1) ht;refine⟨h1,h2,?_⟩;have hxy':TlX fM kT x y:=hxy;simp only[List.nil_append] at e1⊢;subst e1;cases hk2:fM with
   |none=>
    rw[hk2] at hxy';generalize hz2:kL none=z at hxy';cases hxy' with
    |nil=>exact⟨rfl,PO,hsz0⟩
    |exit h _=>cases h
   |some i=>
    rw[hk2] at hxy';generalize hz2:kL (some i)=z at hxy';cases hxy' with
    |nil=>exact⟨rfl,PO,hsz0⟩
    |exit _ _=>simp[kL] at hz2
  .obtain⟨todo,hg⟩:=hg
   obtain⟨h1,h2,todo',rfl⟩:=BY hr' hg;exact⟨h1,h2,⟨todo',rfl⟩,PO,hsz0⟩
  .obtain⟨t,x,y,e1,ht,hxy,h1,h2,rfl⟩:=tM hr' hg.2
   obtain rfl:=tail_nil e1 ht;refine⟨h1,h2,?_⟩;have hxy':TlX fM kT x y:=hxy;simp only[List.nil_append] at e1⊢;subst e1;subst hxi;generalize hz2:[Item.inRangeFunc 0]=z at hxy';cases hxy' with
   |nil=>simp[kL] at hz2
   |exit h hy=>
    cases h;exact⟨⟨_,hy,rfl⟩,PO,hsz0⟩
 .rintro s gL wL g w ⟨π,hl,hr,_⟩
  cases hr<;>rfl
 .rintro s gL wL g w ⟨π,hl,hr,Wp,hsz0⟩ w₁ hR oX bG es hs hn hk
  obtain⟨r1,r2,r3⟩:=hC.rel s w w₁ hR;obtain⟨b6,hl',F0,hag⟩:=hl.rely r1 r2 r3;have hr':=hr.congr (b6:=b6) fun i hv=>F0 i hv.1
  have hag':∀i,(ay wL w₁.tape w₁.drawn).heap.size+i<bG.heap.size->b6 ((ay wL w₁.tape w₁.drawn).heap.size+i)=w₁.heap.size+i:=fun i _=>hag i
  have res:Res P S E str b6 c main H Z (ay wL w₁.tape w₁.drawn) w₁ g oX bG:=by
   have hl1:LW H Z (ay wL w₁.tape w₁.drawn):=hl'.lw.ay _ _;cases hr' with
   |run h=>exact Bl hS hl'.inj hl'.zero hz hl1 hl'.wr (h.mono fun i hv=>hv) hs hn hag'
   |@ret f a t x cs B D y cs' todo todo' h=>
    by_cases hne:cs=[dB P]
    .exfalso
     subst hne;obtain⟨_,_,hda,_,_⟩:=h.base;obtain⟨hf0,_⟩:=zL h;have agb:f=f0:=hf0;subst agb;obtain⟨fn,hfn⟩:=h0;rw[AC hfn rfl hda rfl] at hs;cases hres:(results fn a.tmps).run P (ay wL w₁.tape w₁.drawn) with
     |halt hh u=>rw[hres] at hs;cases hh<;>simp[GStep.after] at hs
     |ok v u=>
      rw[hres] at hs;simp only[GStep.after,GStep.go.injEq] at hs;obtain⟨rfl,rfl,_⟩:=hs;have hfin:(dB P).finish v=dB P:=by simp[dB,Frame.finish,Frame.at]
      rw[hfin] at hk;cases hk with
      |stop hF=>
       obtain⟨e,a2,q,x⟩:=hF;cases e<;>simp[R7,G] at x
      |step nx hst _ _=>
       have:=hst (fun _ _=>0) 0;simp[G,dB,stepG,stepG.exec,Frame.at] at this
    .exact step_ret hS hl'.inj hl1 hl'.wr (h.mono fun i hv=>hv) hne hs hag'
  obtain⟨g',w',es',e1,e2,e3,e4,e5,e6,e7⟩:=res;obtain⟨o1,o2⟩:=hl'.qV (fun i hi=>hag i) e3 e4 e5 e6 e7;exact⟨g',w',es',e1,hC.guar s w₁ w' es' o1,b6,o2 _ (hC.up s w₁ w'),e2,fun b hb=>(F0 b (Nat.lt_of_lt_of_le hb hsz0)).symm.trans (Wp b hb),Nat.le_trans hsz0 e4⟩
end
end
section
open Go.Conc
open Go.ConcM (OsLater)
namespace aI
def uC:bm->Bool
 |.m=>true
 |_=>false
theorem Au {n0:Nat}(h:0<n0)(r:bm):(gid n0 r==0)=uC r:=by cases r<;>simp[gid,uC];omega
structure Cx (Δ:Type) where
 Fd:Nat
 M:Nat
 Wg:Nat
 tF:TypeId
 tW:TypeId
 Dat:Δ->Δ->Obj->Prop
 fin:bm->Δ
 c0:bm->Δ
 N:bm->Nat
structure Gh (Δ:Type) where
 ro:Nat->Prop
 own:Nat->Prop
 mine:Δ
 other:Δ
section
variable {Δ:Type}(X:Cx Δ)
def mA:Addr:=⟨X.Fd,0,none⟩
def msA:Addr:=⟨X.Fd,1,none⟩
def wA:Addr:=⟨X.Wg,0,none⟩
def Jl:Addr:=⟨X.Wg,1,none⟩
def ShAt (w:World)(s:Sh):Prop:=w.heap[X.Fd]? =some (.cells #[.int .i32 s.mu,.int .u32 s.ms,.map (some X.M)] X.tF)/\w.heap[X.Wg]? =some (.cells #[.int .u64 s.wg,.int .u32 s.ws] X.tW)
def AV (r:bm)(mine other:Δ)(o:Obj):Prop:=match r with
 |.a=>X.Dat mine other o
 |_=>X.Dat other mine o
structure RX (ro own:Nat->Prop)(w w₁:World):Prop where
 tape:w₁.tape=w.tape
 output:w₁.output=w.output
 size:w.heap.size<=w₁.heap.size
 os:OsLater w.os w₁.os
 keep:∀b,b<w.heap.size->own b\/ro b->w₁.heap[b]? =w.heap[b]?
 live:(∃s,ShAt X w s)->∃s,ShAt X w₁ s
def EvX (ro own:Nat->Prop)(n n':Nat)(e:Event):Prop:=
 (∃c,(own c\/(n<=c/\c<n')\/(ro c/\e.write=false))/\ls c e.loc)\/(e.loc= .cell ⟨X.Fd,2,none⟩/\e.write=false/\e.sync=false)\/∃m,e.loc= .mark m/\n9 m
structure DX (deaf:Bool)(ro own:Nat->Prop)(w w':World)(es:Array Event):Prop where
 tape:w'.tape=w.tape
 output:w'.output=w.output
 size:w.heap.size<=w'.heap.size
 os:OsLater w.os w'.os
 keep:∀b,b<w.heap.size->¬own b->w'.heap[b]? =w.heap[b]?
 ev:∀e∈es,EvX X ro own w.heap.size w'.heap.size e
 mute:deaf=true->es=#[]
theorem RX.refl (ro own:Nat->Prop)(w:World):RX X ro own w w:=⟨rfl,rfl,Nat.le_refl _,.refl _,fun _ _ _=>rfl,id⟩
theorem RX.trans {ro own:Nat->Prop}{a b c:World}(h:RX X ro own a b)(k:RX X ro own b c):RX X ro own a c:=
 ⟨k.tape.trans h.tape,k.output.trans h.output,Nat.le_trans h.size k.size,h.os.trans k.os,fun x hx ho=>(k.keep x (Nat.lt_of_lt_of_le hx h.size) ho).trans (h.keep x hx ho),fun l=>k.live (h.live l)⟩
theorem RX.at (ro own:Nat->Prop)(w:World)(d:Nat):RX X ro own w (w.at d):=⟨rfl,rfl,Nat.le_refl _,.refl _,fun _ _ _=>rfl,id⟩
def eS (deaf:Bool)(ro:Nat->Prop):Co (Nat->Prop) where
 R:=fun own w w₁=>RX X ro own w w₁
 D:=fun own w w' es=>DX X deaf ro own w w' es
 up:=fun own w w' b=>own b\/(w.heap.size<=b/\b<w'.heap.size)
 refl:=fun own w=>RX.refl X ro own w
 trans:=fun _ _ _ _ h k=>h.trans X k
def fI:Pc->Nat
 |.un|.out|.la|.ur|.ud|.wk|.k1|.g1|.k2|.g2|.kw|.aq|.fin|.bad=>0
 |_=>1
def eH (p:Pc):Bool:=decide (fI p≠0)||p== .wk
inductive EvK where
 |dis|en|ac4|ZU|ZT|ac3|Rl|Rj|book
def iX (T T':Lo):EvK:=match T.pc with
 |.out=>if T'.pc= .l0 then .dis else .ZT
 |.le|.ue|.e1|.e2|.ke=> .en
 |.la=> .ac4
 |.ur=> .ZU
 |.ud|.wk|.k1|.k2|.kw=> .dis
 |.aq=> .ac3
 |.p1|.p2=> .Rl
 |.pw=> .Rj
 |_=> .book
def pK (m:Mark):Event:=⟨.mark m,false,true⟩
def EvStop (T T':Lo)(es:Array Event):Prop:=match iX T T' with
 |.dis=>es=#[pK .disable]
 |.en=>es=#[pK .enable]
 |.ac4=>es=#[pK (.acquire (mA X))]
 |.ZU=>es=#[pK (.releaseMerge (mA X))]
 |.ZT=>es=#[pK (.releaseMerge (wA X))]
 |.ac3=>es=#[pK (.acquire (wA X))]
 |.Rl=>es=#[pK (.read (Jl X))]
 |.Rj=>es=#[pK (.write (Jl X))]
 |.book=>ConcM.BookOK X.Fd X.Wg 1 1 es/\∀e∈es,∀a:Addr,e.loc= .cell a->a.block=X.Fd->a.off≠2
variable (P:Program)
def iO (pc:Pc)(own:Nat->Prop):Nat->Prop:=match pc with
 |.la=>fun b=>own b\/b=X.M
 |.ur=>fun b=>own b/\b≠X.M
 |_=>own
def dL (Nx:Lo->Gh Δ->Goroutine->World->Prop)(T':Lo)(γ:Gh Δ):(Nat->Prop)->Goroutine->World->Prop:=
 fun own g w=>∃c,(T'.pc≠.ur->c=γ.mine)/\Nx T' {γ with own:=own,mine:=c} g w
def After (Nx:Lo->Gh Δ->Goroutine->World->Prop)(r:bm)(T':Lo)(γ:Gh Δ)(g:Goroutine)(w:World):Prop:=
 if T'.pc= .quit then ∃q,QuitsD P q 1 g else aD P (uC r) (eS X (eH T'.pc) γ.ro) (dL Nx T' γ) γ.own g w
def X1 (Nx:Lo->Gh Δ->Goroutine->World->Prop)(r:bm)(T:Lo)(γ:Gh Δ)(g:Goroutine)(w:World):Prop:=
 g.status= .running/\g.offers=none/\((T.pc= .us\/T.pc= .d4)->mayWake P g=true)/\
 (T.pc= .ur->∃o,w.heap[X.M]? =some o/\AV X r γ.mine γ.other o)/\
 ∀s,ShAt X w s->s.fits->
  (mv T s=[]->stepG P (uC r) g w= .go {g with status:= .blocked} w #[])/\
  ∀d:Δ,(T.pc= .la->∃o,w.heap[X.M]? =some o/\AV X r γ.mine d o)->mv T s≠[]->
   ∃q∈mv T s,q.1.pc≠.bad->(q.1.pc= .wk->γ.mine=X.fin r)/\∃g' w' es,stepG P (uC r) g w= .go g' w' es/\ShAt X w' q.2/\ConcM.Eff X.Fd X.Wg w w'/\EvStop X T q.1 es/\
    After X P Nx r q.1 {γ with own:=iO X T.pc γ.own,other:=if T.pc= .la then d else γ.other} g' w'
def GD:Nat->bm->Lo->Gh Δ->Goroutine->World->Prop
 |0,_,_,_,_,_=>True
 |k+1,r,T,γ,g,w=>X1 X P (GD k r) r T γ g w
def given (γ:Gh Δ):Gh Δ:={γ with ro:=fun b=>γ.ro b\/γ.own b,own:=fun _=>False}
def eM:Pc->bm
 |.g1=> .a
 |_=> .b
def gX:Pc->Lo
 |.g1=>at_ .k2 0
 |_=>at_ .kw 0
def Nh (Nx:Lo->Gh Δ->Goroutine->World->Prop)(T:Lo)(γ:Gh Δ)(g:Goroutine)(w:World):Prop:=
 g.status= .running/\g.offers=none/\∃g' child,stepG P true g w= .spawn g' child w #[]/\
  (∀K,aD P false (eS X false (given γ).ro) (dL (GD X P K (eM T.pc)) (at_ .out (X.N (eM T.pc))) {given γ with mine:=X.c0 (eM T.pc)}) (fun _=>False) child w)/\
  aD P true (eS X false (given γ).ro) (dL Nx (gX T.pc) (given γ)) (fun _=>False) g' w
variable (Post:Gh Δ->Goroutine->World->Prop)
def Sp (γ:Gh Δ)(g:Goroutine)(w:World):Prop:=
 g.status= .running/\g.offers=none/\∀o,w.heap[X.M]? =some o->X.Dat (X.fin .a) (X.fin .b) o->∃g',stepG P true g w= .go g' w #[pK (.acquire (wA X))]/\Post γ g' w
def yG:Nat->Lo->Gh Δ->Goroutine->World->Prop
 |0,_,_,_,_=>True
 |k+1,T,γ,g,w=>if T.pc= .g1\/T.pc= .g2 then Nh X P (yG k) T γ g w else if T.pc= .aq then Sp X P Post γ g w else X1 X P (yG k) .m T γ g w
def AtR (k:Nat):bm->Lo->Gh Δ->Goroutine->World->Prop
 |.m=>yG X P Post k
 |r=>GD X P k r
end
section
variable {Δ:Type}{X:Cx Δ}{P:Program}{Post:Gh Δ->Goroutine->World->Prop}{r:bm}{k:Nat}{T:Lo}{γ:Gh Δ}{g:Goroutine}{w:World}
theorem AtR.running (h:AtR X P Post (k+1) r T γ g w):g.status= .running/\g.offers=none:=by
 cases r with
 |m=>
  have h':yG X P Post (k+1) T γ g w:=h;unfold yG at h';split at h'
  .exact⟨h'.1,h'.2.1⟩
  .split at h'
   .exact⟨h'.1,h'.2.1⟩
   .exact⟨h'.1,h'.2.1⟩
 |a=>exact⟨h.1,h.2.1⟩
 |b=>exact⟨h.1,h.2.1⟩
theorem AtR.law (h:AtR X P Post (k+1) r T γ g w)(hg:¬(T.pc= .g1\/T.pc= .g2))(ha:T.pc≠.aq):X1 X P (AtR X P Post k r) r T γ g w:=by
 cases r with
 |m=>
  have h':yG X P Post (k+1) T γ g w:=h;unfold yG at h';rw[if_neg hg,if_neg ha] at h';exact h'
 |a=>exact h
 |b=>exact h
end
def iR:Pc->Bool
 |.k1|.x1|.p1|.e1|.g1|.k2|.x2|.p2|.e2|.g2|.kw|.w1|.w2|.pw|.w3|.w4|.ke|.aq|.fin|.bad=>false
 |_=>true
def lY:Pc->Bool
 |.k1|.x1|.p1|.e1|.g1|.k2|.x2|.p2|.e2|.g2|.kw|.w1|.w2|.pw|.w3|.w4|.ke|.aq=>true
 |_=>false
def fl:Pc->Bool
 |.l0|.r0|.sq|.r1|.c2|.s1|.t2|.r2|.a1|.r3|.u0|.uc|.ul|.us=>true
 |_=>false
def jq:Pc->Bool
 |.d1|.d2|.d3|.d4=>true
 |_=>false
def kb:Pc->Bool
 |.le|.la|.ur|.ud|.ue|.wk|.k1|.p1|.e1|.k2|.p2|.e2|.kw|.pw|.ke=>true
 |_=>false
def jW:Pc->Bool
 |.x1|.x2|.w1|.w2|.w3|.w4=>true
 |_=>false
def lr:Pc->Nat
 |.le=>5|.la=>4|.ur=>3|.ud=>2|.u0=>1|.ue=>10|.out=>9|.wk=>8|.d1=>7
 |.k1=>4|.x1=>3|.p1=>3|.e1=>2|.g1=>1|.k2=>4|.x2=>3|.p2=>3|.e2=>2|.g2=>1|.kw=>2|.w1=>1|.pw=>2|.w3=>1|.ke=>3|.aq=>2|.fin=>1
 |_=>0
theorem Cr (p:Pc):lr p<=10:=by cases p<;>simp[lr]
def iW (T:Lo)(n:Nat):Lo:={T with n:=n}
theorem abG (T:Lo)(n:Nat):hd (iW T n)=iW (hd T) n:=by
 obtain⟨pc,old,nw,aw,sv,it,m⟩:=T;simp only[hd,apply_ite (fun x=>iW x n)];rfl
theorem acM (T:Lo)(n:Nat):cl (iW T n)=iW (cl T) n:=by
 obtain⟨pc,old,nw,aw,sv,it,m⟩:=T;simp only[cl,apply_ite (fun x=>iW x n)];rfl
theorem afq (T:Lo)(n:Nat):pm (iW T n)=pm T:=by
 obtain⟨pc,old,nw,aw,sv,it,m⟩:=T;cases pc<;>rfl
theorem CJ (T:Lo):(hd T).pc= .c2\/(hd T).pc= .sq\/(hd T).pc= .bad:=by
 simp only[hd]
 (repeat' split)<;>simp
theorem Gs (T:Lo):(cl T).pc= .c2:=by
 simp only[cl]
 (repeat' split)<;>simp
theorem abF (T:Lo):(hd T).n=T.n:=by
 simp only[hd]
 (repeat' split)<;>simp
theorem acL (T:Lo):(cl T).n=T.n:=by
 simp only[cl]
 (repeat' split)<;>simp
theorem Pm {T:Lo}{s:Sh}(hT:fl T.pc=true):mv T s=(mv (iW (pm T) 1) ⟨s.mu,s.ms,0,0⟩).map (fun q=>(iW q.1 T.n,⟨q.2.mu,q.2.ms,s.wg,s.ws⟩)):=by
 obtain⟨pc,old,nw,aw,sv,it,n⟩:=T;obtain⟨mu,ms,wg,ws⟩:=s;have h1:∀(T:Lo),iW (hd (iW T 1)) n=hd (iW T n):=fun T=>by rw[abG,abG];rfl
 have h2:∀(T:Lo),iW (cl (iW T 1)) n=cl (iW T n):=fun T=>by rw[acM,acM];rfl
 cases pc<;>simp only[fl,Bool.false_eq_true] at hT
 case r0=>simpa [mv,pm,iW] using(h1 {pc:= .r0,old:=mu}).symm
 case r1=>simpa [mv,pm,iW] using(h1 {pc:= .r1,old:=mu,nw:=nw,aw:=aw,sv:=sv,it:=IntKind.i64.wrap (it+1)}).symm
 case r3=>simpa [mv,pm,iW] using(h1 {pc:= .r3,old:=mu,nw:=nw,aw:=aw,sv:=sv,it:=it}).symm
 case sq=>
  have e:=(h2 {pc:= .sq,old:=old,nw:=nw,aw:=aw,sv:=sv,it:=it}).symm;simp only[iW] at e;simp only[mv,pm,iW]
  by_cases hi:it<4
  .simp[hi];exact e
  .simp[hi];exact e
 case a1=>
  by_cases hp:(mu=12/\nw=-11)\/(mu=20/\(nw=-7\/nw=-11))
  .have e1:mv ⟨.a1,old,nw,aw,sv,it,n⟩ ⟨mu,ms,wg,ws⟩=[(at_ .le n,⟨mu+nw,ms,wg,ws⟩)]:=if_pos hp
   have e2:mv (iW (pm ⟨.a1,old,nw,aw,sv,it,n⟩) 1) ⟨mu,ms,0,0⟩=[(at_ .le 1,⟨mu+nw,ms,0,0⟩)]:=if_pos hp;exact e1.trans (by show _=List.map _ (mv (iW (pm ⟨.a1,old,nw,aw,sv,it,n⟩) 1) ⟨mu,ms,0,0⟩);rw[e2];rfl)
  .have e1:mv ⟨.a1,old,nw,aw,sv,it,n⟩ ⟨mu,ms,wg,ws⟩=[(at_ .bad n,⟨mu,ms,wg,ws⟩)]:=if_neg hp
   have e2:mv (iW (pm ⟨.a1,old,nw,aw,sv,it,n⟩) 1) ⟨mu,ms,0,0⟩=[(at_ .bad 1,⟨mu,ms,0,0⟩)]:=if_neg hp;exact e1.trans (by show _=List.map _ (mv (iW (pm ⟨.a1,old,nw,aw,sv,it,n⟩) 1) ⟨mu,ms,0,0⟩);rw[e2];rfl)
 case r2=>
  have e:=(h1 {pc:= .r2,old:=mu,nw:=nw,aw:=true,sv:=sv,it:=0}).symm;simp only[iW] at e;simp only[mv,pm,iW]
  (repeat' split)<;>simp_all
 all_goals
  simp only[mv,pm,iW]
  (repeat' split)<;>simp_all
theorem Ao {T:Lo}{s:Sh}{q:Lo×Sh}(hT:fl T.pc=true)(h:q∈mv T s):q.1.pc≠.wk/\q.1.n=T.n/\(q.1.pc= .bad\/(iR q.1.pc=true/\pw q.1={pc:= .out})):=by
 have hh:=CJ;have hc:=Gs;have hn:=abF;have cn:=acL;have pwh:∀T,(hd T).pc= .bad\/(iR (hd T).pc=true/\pw (hd T)={pc:= .out}):=fun T=>by
  rcases hh T with e|e|e
  .exact .inr ⟨by rw[e];rfl,by unfold pw;rw[e]⟩
  .exact .inr ⟨by rw[e];rfl,by unfold pw;rw[e]⟩
  .exact .inl e
 have hw:∀T,(hd T).pc≠.wk:=fun T=>by rcases hh T with e|e|e<;>rw[e]<;>simp
 have pwc:∀T,iR (cl T).pc=true/\pw (cl T)={pc:= .out}:=fun T=>⟨by rw[hc T];rfl,by unfold pw;rw[hc T]⟩
 obtain⟨pc,old,nw,aw,sv,it,n⟩:=T;obtain⟨mu,ms,wg,ws⟩:=s;cases pc<;>simp only[fl,Bool.false_eq_true] at hT<;>simp only[mv] at h
 case r0=>simp only[List.mem_singleton] at h;subst h;exact⟨hw _,hn _,pwh _⟩
 case r1=>simp only[List.mem_singleton] at h;subst h;exact⟨hw _,hn _,pwh _⟩
 case r3=>simp only[List.mem_singleton] at h;subst h;exact⟨hw _,hn _,pwh _⟩
 case sq=>
  rcases List.mem_cons.1 h with rfl|h
  .exact⟨by rw[hc];simp,cn _,.inr (pwc _)⟩
  .split at h
   .simp only[List.mem_singleton] at h;subst h;exact⟨by simp,rfl,.inr ⟨rfl,rfl⟩⟩
   .simp at h
 case r2=>
  split at h
  .simp only[List.mem_singleton] at h;subst h;exact⟨hw _,hn _,pwh _⟩
  ·(repeat' split at h)<;>simp only[List.mem_singleton] at h<;>subst h<;>simp[iR,pw]
 all_goals ((repeat' split at h)<;>simp only[List.mem_cons,List.not_mem_nil,or_false] at h<;>first|contradiction|(obtain rfl:=h;simp[iR,pw];done)|(obtain rfl:=h;simp[iR,pw];split<;>simp)|(rcases h with rfl|rfl<;>simp[iR,pw]))
theorem uT {T:Lo}{s:Sh}{q:Lo×Sh}(hT:fl T.pc=true)(h:q∈mv T s):(pm q.1,q.2.mu,q.2.ms)∈xL (pm T) s.mu s.ms/\q.2.wg=s.wg/\q.2.ws=s.ws:=by
 have hpc:=(Ao hT h).1;rw[Pm hT] at h;obtain⟨q0,h0,rfl⟩:=List.mem_map.1 h;refine⟨List.mem_map.2 ⟨q0,List.mem_filter.2 ⟨h0,by simpa [iW] using hpc⟩,by rw[afq]⟩,rfl,rfl⟩
theorem FL {T:Lo}(hT:fl T.pc=true):pw T={pc:= .out}:=by
 unfold pw;cases hp:T.pc<;>rw[hp] at hT<;>simp[fl] at hT<;>rfl
theorem uQ {T:Lo}{s:Sh}{q:Lo×Sh}(hT:jq T.pc=true)(h:q∈mv T s):(pw q.1,q.2.wg,q.2.ws)∈Rx (pw T) s.wg s.ws/\q.2.mu=s.mu/\q.2.ms=s.ms/\q.1.n=T.n/\(q.1.pc= .bad\/(iR q.1.pc=true/\pm q.1=pm T/\lr q.1.pc<=lr T.pc)):=by
 obtain⟨pc,old,nw,aw,sv,it,n⟩:=T;obtain⟨mu,ms,wg,ws⟩:=s;cases pc<;>simp only[jq,Bool.false_eq_true] at hT<;>simp only[mv] at h<;>simp only[pw,Rx,gw,mv]
 all_goals ((repeat' split at h)<;>simp only[List.mem_singleton] at h<;>subst h<;>simp_all [iR,pm,pw,lr])
theorem FS {T:Lo}{s:Sh}{q:Lo×Sh}(hT:jW T.pc=true)(h:q∈mv T s):(p0 q.1,q.2.wg,q.2.ws)∈mv0 (p0 T) s.wg s.ws/\q.2.mu=s.mu/\q.2.ms=s.ms/\(q.1.pc= .bad\/lY q.1.pc=true):=by
 obtain⟨pc,old,nw,aw,sv,it,n⟩:=T;obtain⟨mu,ms,wg,ws⟩:=s;cases pc<;>simp only[jW,Bool.false_eq_true] at hT<;>simp only[mv] at h<;>simp only[p0,mv0,mv]
 all_goals ((repeat' split at h)<;>simp only[List.mem_singleton,List.not_mem_nil] at h<;>first|(subst h;simp_all [lY,p0])|contradiction)
theorem rg {T:Lo}{s:Sh}{q:Lo×Sh}(hT:kb T.pc=true)(h:q∈mv T s):q.2=s/\(iR T.pc=true->pm q.1=pm T)/\pw q.1=pw T/\p0 q.1=p0 T/\lr q.1.pc<lr T.pc/\iR q.1.pc=iR T.pc/\lY q.1.pc=lY T.pc/\q.1.pc≠.bad/\(iR T.pc=true->q.1.n=T.n):=by
 obtain⟨pc,old,nw,aw,sv,it,n⟩:=T;cases pc<;>simp only[kb,Bool.false_eq_true] at hT<;>simp only[mv,List.mem_singleton] at h<;>subst h<;>simp[pm,pw,p0,lr,iR,lY]
def nn (L:bm->Lo)(r1 r2:Nat):Nat:=((L .a).n+(L .b).n)*1400+(r1+r2)*32+(lr (L .m).pc+lr (L .a).pc+lr (L .b).pc)
def upd {α:Type}(L:bm->α)(r:bm)(x:α):bm->α:=fun y=>if y=r then x else L y
theorem upd_same {α:Type}(L:bm->α)(r:bm)(x:α):upd L r x r=x:=by simp[upd]
theorem upd_ne {α:Type}(L:bm->α){r y:bm}(x:α)(h:y≠r):upd L r x y=L y:=by simp[upd,h]
structure uI (L:bm->Lo)(s:Sh)(r1 r2:Nat):Prop where
 Yn:Ji ⟨pm (L .a),pm (L .b),s.mu,s.ms⟩ r1
 lm:r1<27
 PB:Nz ⟨p0 (L .m),pw (L .a),pw (L .b),s.wg,s.ws⟩ r2
 st:lY (L .m).pc=true
 wa:iR (L .a).pc=true
 wb:iR (L .b).pc=true
section
variable {L:bm->Lo}{s:Sh}{r1 r2:Nat}{q:Lo×Sh}
theorem uI.Ve (h:uI L s r1 r2)(hq:q∈mv (L .a) s)(hu:(L .a).pc≠.un):q.1.pc≠.bad/\∃r1' r2',uI (upd L .a q.1) q.2 r1' r2'/\nn (upd L .a q.1) r1' r2'<nn L r1 r2:=by
 have hl:=Cr q.1.pc;have hw:=h.wa;obtain⟨hM,hl1,hG,hst,xN,hwb⟩:=h;have ni:∀r1' r2',nn (upd L .a q.1) r1' r2'=(q.1.n+(L .b).n)*1400+(r1'+r2')*32+(lr (L .m).pc+lr q.1.pc+lr (L .b).pc):=fun r1' r2'=>by simp[nn,upd]<;>omega
 have k6:nn L r1 r2=((L .a).n+(L .b).n)*1400+(r1+r2)*32+(lr (L .m).pc+lr (L .a).pc+lr (L .b).pc):=by simp[nn]<;>omega
 have FM:=hM.facts;have FG:=hG.facts
 by_cases c1:kb (L .a).pc=true
 .obtain⟨e0,e1,e2,_,e4,e5,_,e7,e8⟩:=rg c1 hq
  have e1:=e1 hw;have e8:=e8 hw;refine⟨e7,r1,r2,⟨?_,hl1,?_,by simpa [upd] using hst,?_,?_⟩,by rw[ni,k6,e8];omega⟩
  .simp[upd,e0,e1];exact hM
  .simp[upd,e0,e2];exact hG
  .simp[upd,e5,hw,xN]
  .simp[upd,e5,hw,hwb]
 by_cases c2:fl (L .a).pc=true
 .obtain⟨m1,m2,m3⟩:=uT c2 hq
  obtain⟨_,n1,n2⟩:=Ao c2 hq;obtain⟨r1',i1,i2,i3⟩:=hM.Rg m1;have hnb:q.1.pc≠.bad:=fun e=>by
   have:=FM.noA _ m1
   apply this
   simp[pm,e]
  obtain⟨w1,w2⟩:=n2.resolve_left hnb;have hlt:r1'<r1:=i2.resolve_left (fun e=>by
   have e:(pm (L .a)).pc= .out:=e
   revert e
   cases hp:(L .a).pc<;>rw[hp] at c2<;>simp[fl] at c2<;>simp[pm,hp])
  refine⟨hnb,r1',r2,⟨?_,i3,?_,by simpa [upd] using hst,?_,?_⟩,by rw[ni,k6,n1];have:=Cr (L .a).pc;omega⟩
  .simp[upd];exact i1
  .rw[FL c2] at hG
   simp[upd,m2,m3,w2];exact hG
  .simp[upd,w1,xN]
  .simp[upd,w1,hwb]
 by_cases c3:jq (L .a).pc=true
 .obtain⟨m1,m2,m3,m4,m5⟩:=uQ c3 hq
  obtain⟨r2',i1,i2⟩:=hG.step (H:=⟨p0 (L .m),pw q.1,pw (L .b),q.2.wg,q.2.ws⟩) (by
   unfold GG.succs;exact List.mem_append_left _ (List.mem_append_right _ (List.mem_map.2 ⟨_,m1,rfl⟩)))
  have hnb:q.1.pc≠.bad:=fun e=>by
   have:=(FG.no ⟨p0 (L .m),pw q.1,pw (L .b),q.2.wg,q.2.ws⟩ (by
    unfold GG.succs;exact List.mem_append_left _ (List.mem_append_right _ (List.mem_map.2 ⟨_,m1,rfl⟩)))).2.1
   apply this
   simp[pw,e]
  obtain⟨w1,w2,w3⟩:=m5.resolve_left hnb;refine⟨hnb,r1,r2',⟨?_,hl1,?_,by simpa [upd] using hst,?_,?_⟩,by rw[ni,k6,m4];omega⟩
  .simp[upd,m2,m3,w2];exact hM
  .simp[upd];exact i1
  .simp[upd,w1,xN]
  .simp[upd,w1,hwb]
 .have ho:(L .a).pc= .out\/(L .a).pc= .quit:=by
   revert c1 c2 c3 hw hu
   cases (L .a).pc<;>simp[kb,fl,jq,iR]
  rcases ho with ho|ho
  .have Xz:pm (L .a)={pc:= .out}:=by simp[pm,ho]
   have epw:pw (L .a)={pc:= .out}:=by simp[pw,ho]
   rw[Xz] at hM;rw[epw] at hG;simp only[mv,ho] at hq;rcases List.mem_cons.1 hq with rfl|hq
   .refine⟨by simp,r1,r2,⟨?_,hl1,?_,by simpa [upd] using hst,?_,?_⟩,by rw[ni,k6,ho];simp[lr]⟩
    .simp[upd,pm];exact hM
    .simp[upd,pw];exact hG
    .first|(simp[upd];done)|(simp[upd];first|exact xN|exact hwb|rfl)
    .first|(simp[upd];done)|(simp[upd];first|exact xN|exact hwb|rfl)
   .split at hq
    .rename_i hn
     simp only[List.mem_singleton] at hq;subst hq;obtain⟨r1',i1,_,i3⟩:=hM.Rg (q:=({pc:= .l0},s.mu,s.ms)) (by simp[xL,mv,pm]);refine⟨by simp,r1',r2,⟨?_,i3,?_,by simpa [upd] using hst,?_,?_⟩,by rw[ni,k6,ho];simp[lr];omega⟩
     .simp[upd,pm];exact i1
     .simp[upd,pw];exact hG
     .first|(simp[upd];done)|(simp[upd];first|exact xN|exact hwb|rfl)
     .first|(simp[upd];done)|(simp[upd];first|exact xN|exact hwb|rfl)
    .simp at hq
  .simp[mv,ho] at hq
theorem uI.Vd (h:uI L s r1 r2)(hq:q∈mv (L .b) s)(hu:(L .b).pc≠.un):q.1.pc≠.bad/\∃r1' r2',uI (upd L .b q.1) q.2 r1' r2'/\nn (upd L .b q.1) r1' r2'<nn L r1 r2:=by
 have hl:=Cr q.1.pc;have hw:=h.wb;obtain⟨hM,hl1,hG,hst,xN,hwb⟩:=h;have ni:∀r1' r2',nn (upd L .b q.1) r1' r2'=(q.1.n+(L .a).n)*1400+(r1'+r2')*32+(lr (L .m).pc+lr q.1.pc+lr (L .a).pc):=fun r1' r2'=>by simp[nn,upd]<;>omega
 have k6:nn L r1 r2=((L .b).n+(L .a).n)*1400+(r1+r2)*32+(lr (L .m).pc+lr (L .b).pc+lr (L .a).pc):=by simp[nn]<;>omega
 have FM:=hM.facts;have FG:=hG.facts
 by_cases c1:kb (L .b).pc=true
 .obtain⟨e0,e1,e2,_,e4,e5,_,e7,e8⟩:=rg c1 hq
  have e1:=e1 hw;have e8:=e8 hw;refine⟨e7,r1,r2,⟨?_,hl1,?_,by simpa [upd] using hst,?_,?_⟩,by rw[ni,k6,e8];omega⟩
  .simp[upd,e0,e1];exact hM
  .simp[upd,e0,e2];exact hG
  .simp[upd,e5,hw,xN]
  .simp[upd,e5,hw,hwb]
 by_cases c2:fl (L .b).pc=true
 .obtain⟨m1,m2,m3⟩:=uT c2 hq
  obtain⟨_,n1,n2⟩:=Ao c2 hq;obtain⟨r1',i1,i2,i3⟩:=hM.Rf m1;have hnb:q.1.pc≠.bad:=fun e=>by
   have:=FM.noB _ m1
   apply this
   simp[pm,e]
  obtain⟨w1,w2⟩:=n2.resolve_left hnb;have hlt:r1'<r1:=i2.resolve_left (fun e=>by
   have e:(pm (L .b)).pc= .out:=e
   revert e
   cases hp:(L .b).pc<;>rw[hp] at c2<;>simp[fl] at c2<;>simp[pm,hp])
  refine⟨hnb,r1',r2,⟨?_,i3,?_,by simpa [upd] using hst,?_,?_⟩,by rw[ni,k6,n1];have:=Cr (L .b).pc;omega⟩
  .simp[upd];exact i1
  .rw[FL c2] at hG
   simp[upd,m2,m3,w2];exact hG
  .simp[upd,w1,xN]
  .simp[upd,w1,hwb]
 by_cases c3:jq (L .b).pc=true
 .obtain⟨m1,m2,m3,m4,m5⟩:=uQ c3 hq
  obtain⟨r2',i1,i2⟩:=hG.step (H:=⟨p0 (L .m),pw (L .a),pw q.1,q.2.wg,q.2.ws⟩) (by
   unfold GG.succs;exact List.mem_append_right _ (List.mem_map.2 ⟨_,m1,rfl⟩))
  have hnb:q.1.pc≠.bad:=fun e=>by
   have:=(FG.no ⟨p0 (L .m),pw (L .a),pw q.1,q.2.wg,q.2.ws⟩ (by
    unfold GG.succs;exact List.mem_append_right _ (List.mem_map.2 ⟨_,m1,rfl⟩))).2.2
   apply this
   simp[pw,e]
  obtain⟨w1,w2,w3⟩:=m5.resolve_left hnb;refine⟨hnb,r1,r2',⟨?_,hl1,?_,by simpa [upd] using hst,?_,?_⟩,by rw[ni,k6,m4];omega⟩
  .simp[upd,m2,m3,w2];exact hM
  .simp[upd];exact i1
  .simp[upd,w1,xN]
  .simp[upd,w1,hwb]
 .have ho:(L .b).pc= .out\/(L .b).pc= .quit:=by
   revert c1 c2 c3 hw hu
   cases (L .b).pc<;>simp[kb,fl,jq,iR]
  rcases ho with ho|ho
  .have Xz:pm (L .b)={pc:= .out}:=by simp[pm,ho]
   have epw:pw (L .b)={pc:= .out}:=by simp[pw,ho]
   rw[Xz] at hM;rw[epw] at hG;simp only[mv,ho] at hq;rcases List.mem_cons.1 hq with rfl|hq
   .refine⟨by simp,r1,r2,⟨?_,hl1,?_,by simpa [upd] using hst,?_,?_⟩,by rw[ni,k6,ho];simp[lr]⟩
    .simp[upd,pm];exact hM
    .simp[upd,pw];exact hG
    .first|(simp[upd];done)|(simp[upd];first|exact xN|exact hwb|rfl)
    .first|(simp[upd];done)|(simp[upd];first|exact xN|exact hwb|rfl)
   .split at hq
    .rename_i hn
     simp only[List.mem_singleton] at hq;subst hq;obtain⟨r1',i1,_,i3⟩:=hM.Rf (q:=({pc:= .l0},s.mu,s.ms)) (by simp[xL,mv,pm]);refine⟨by simp,r1',r2,⟨?_,i3,?_,by simpa [upd] using hst,?_,?_⟩,by rw[ni,k6,ho];simp[lr];omega⟩
     .simp[upd,pm];exact i1
     .simp[upd,pw];exact hG
     .first|(simp[upd];done)|(simp[upd];first|exact xN|exact hwb|rfl)
     .first|(simp[upd];done)|(simp[upd];first|exact xN|exact hwb|rfl)
    .simp at hq
  .simp[mv,ho] at hq
theorem uI.Vc (h:uI L s r1 r2)(hq:q∈mv (L .m) s):q.1.pc≠.bad/\∃r1' r2',uI (upd L .m q.1) q.2 r1' r2'/\nn (upd L .m q.1) r1' r2'<nn L r1 r2:=by
 have hl:=Cr q.1.pc;obtain⟨hM,hl1,hG,hst,xN,hwb⟩:=h;have ni:∀r1' r2',nn (upd L .m q.1) r1' r2'=((L .a).n+(L .b).n)*1400+(r1'+r2')*32+(lr q.1.pc+lr (L .a).pc+lr (L .b).pc):=fun r1' r2'=>by simp[nn,upd]
 have k6:nn L r1 r2=((L .a).n+(L .b).n)*1400+(r1+r2)*32+(lr (L .m).pc+lr (L .a).pc+lr (L .b).pc):=rfl;have FG:=hG.facts
 by_cases c1:kb (L .m).pc=true
 .obtain⟨e0,_,_,e3,e4,_,e6,e7,_⟩:=rg c1 hq
  refine⟨e7,r1,r2,⟨?_,hl1,?_,?_,?_,?_⟩,by rw[ni,k6];omega⟩
  .simp[upd,e0];exact hM
  .simp[upd,e0,e3];exact hG
  .simp[upd,e6,hst]
  .simp[upd,xN]
  .simp[upd,hwb]
 by_cases c2:jW (L .m).pc=true
 .obtain⟨m1,m2,m3,m5⟩:=FS c2 hq
  have hm:(⟨p0 q.1,pw (L .a),pw (L .b),q.2.wg,q.2.ws⟩:GG)∈GG.succs ⟨p0 (L .m),pw (L .a),pw (L .b),s.wg,s.ws⟩:=by
   unfold GG.succs;exact List.mem_append_left _ (List.mem_append_left _ (List.mem_append_right _ (List.mem_map.2 ⟨_,m1,rfl⟩)))
  obtain⟨r2',i1,i2⟩:=hG.step hm;have hnb:q.1.pc≠.bad:=fun e=>by
   have:=(FG.no _ hm).1
   apply this
   simp[p0,e]
  refine⟨hnb,r1,r2',⟨?_,hl1,?_,?_,?_,?_⟩,by rw[ni,k6];omega⟩
  .simp[upd,m2,m3];exact hM
  .simp[upd];exact i1
  .simp[upd,m5.resolve_left hnb]
  .simp[upd,xN]
  .simp[upd,hwb]
 .exfalso
  revert c1 c2 hst hq
  cases hp:(L .m).pc<;>simp[kb,jW,lY,mv,hp]
theorem uI.move (h:uI L s r1 r2){r:bm}(hq:q∈mv (L r) s)(hu:(L r).pc≠.un):q.1.pc≠.bad/\∃r1' r2',uI (upd L r q.1) q.2 r1' r2'/\nn (upd L r q.1) r1' r2'<nn L r1 r2:=by
 cases r with
 |m=>exact h.Vc hq
 |a=>exact h.Ve hq hu
 |b=>exact h.Vd hq hu
theorem uI.fits (h:uI L s r1 r2):s.fits:=⟨h.Yn.facts.fits.1,h.Yn.facts.fits.2.1,h.PB.facts.fits.2.2.1,h.PB.facts.fits.2.2.2⟩
theorem uI.go {N:Nat}(h:uI L s r1 r2)(hg:(L .m).pc= .g1\/(L .m).pc= .g2)(hn:(L (eM (L .m).pc)).n=N):
  (L (eM (L .m).pc)).pc= .un/\∃r2',uI (upd (upd L .m (gX (L .m).pc)) (eM (L .m).pc) (at_ .out N)) s r1 r2'/\nn (upd (upd L .m (gX (L .m).pc)) (eM (L .m).pc) (at_ .out N)) r1 r2'<nn L r1 r2:=by
 obtain⟨hM,hl1,hG,hst,xN,hwb⟩:=h;have FG:=hG.facts;have Rb:∀T:Lo,(pw T).pc= .un->T.pc= .un:=fun T=>by cases hp:T.pc<;>simp[pw,hp]
 rcases hg with hg|hg
 .have e0:p0 (L .m)={pc:= .g1}:=by simp[p0,hg]
  rw[e0] at hG FG;have ha:(L .a).pc= .un:=Rb _ (FG.Y0 (.inr rfl)).1;have Xz:pm (L .a)={pc:= .out}:=by simp[pm,ha]
  have epw:pw (L .a)={pc:= .un}:=by simp[pw,ha]
  have hc:eM (L .m).pc= .a:=by rw[hg];rfl
  rw[hc] at hn⊢;have hb:gX (L .m).pc=at_ .k2 0:=by rw[hg];rfl
  rw[hb];rw[Xz] at hM;obtain⟨r2',i1,i2⟩:=hG.step (H:=⟨{pc:= .x2},{pc:= .out},pw (L .b),s.wg,s.ws⟩) (by unfold GG.succs;simp);refine⟨ha,r2',⟨?_,hl1,?_,?_,?_,?_⟩,?_⟩
  .simp[upd,pm];exact hM
  .simp[upd,pw,p0];exact i1
  .first|(simp[upd];done)|(simp[upd];rfl)
  .first|(simp[upd];done)|(simp[upd];first|exact xN|exact hwb|rfl)
  .simp[upd,hwb]
  .simp[nn,upd,lr,hg,ha,hn];omega
 .have e0:p0 (L .m)={pc:= .g2}:=by simp[p0,hg]
  rw[e0] at hG FG;have ha:(L .b).pc= .un:=Rb _ (FG.YZ (.inr rfl)).2;have Xz:pm (L .b)={pc:= .out}:=by simp[pm,ha]
  have epw:pw (L .b)={pc:= .un}:=by simp[pw,ha]
  have hc:eM (L .m).pc= .b:=by rw[hg];rfl
  rw[hc] at hn⊢;have hb:gX (L .m).pc=at_ .kw 0:=by rw[hg];rfl
  rw[hb];rw[Xz] at hM;obtain⟨r2',i1,i2⟩:=hG.step (H:=⟨{pc:= .w1},pw (L .a),{pc:= .out},s.wg,s.ws⟩) (by unfold GG.succs;simp);refine⟨ha,r2',⟨?_,hl1,?_,?_,?_,?_⟩,?_⟩
  .simp[upd,pm];exact hM
  .simp[upd,pw,p0];exact i1
  .first|(simp[upd];done)|(simp[upd];rfl)
  .simp[upd,xN]
  .first|(simp[upd];done)|(simp[upd];first|exact xN|exact hwb|rfl)
  .simp[nn,upd,lr,hg,ha,hn];omega
end
def born (L:bm->Lo)(r:bm):Prop:=(L r).pc≠.un
instance (L:bm->Lo)(r:bm):Decidable (born L r):=by unfold born;infer_instance
def nb (L:bm->Lo):Nat:=(if(L .a).pc= .un then 0 else 1)+(if(L .b).pc= .un then 0 else 1)
def Lo.sleeps (T:Lo)(s:Sh):Bool:=(T.pc== .s1&&s.ms==0)||(T.pc== .w3&&s.ws==0)
def past:Pc->Bool
 |.wk|.d1|.d2|.d3|.d4|.quit=>true
 |_=>false
def KJ:bm->bm
 |.a=> .b
 |_=> .a
def hold (L:bm->Lo):Option bm:=if(L .a).pc= .ur then some .a else if(L .b).pc= .ur then some .b else none
section
variable {Δ:Type}(X:Cx Δ)(P:Program)(Post:Gh Δ->Goroutine->World->Prop)
def Sit (k:Nat)(r:bm)(T:Lo)(γ:Gh Δ)(ρ:Rk)(aw d q:Nat)(s:Sh)(g:Goroutine)(w:World):Prop:=
 (T.pc≠.quit/\d=fI T.pc/\aw=1/\gv P (uC r) (eS X (eH T.pc) γ.ro) (dL (AtR X P Post k r) T γ) ρ γ.own g w)\/
 (T.pc≠.quit/\d=fI T.pc/\aw=0/\T.sleeps s=true/\∃g₀,g={g₀ with status:= .blocked}/\∀w₁,RX X γ.ro γ.own w w₁->dL (AtR X P Post k r) T γ γ.own g₀ w₁)\/
 (T.pc= .quit/\aw=0/\QuitsD P q d g)
end
section
variable {Δ:Type}{X:Cx Δ}{P:Program}{Post:Gh Δ->Goroutine->World->Prop}{k:Nat}{r:bm}{T:Lo}{γ:Gh Δ}{ρ:Rk}{aw d q:Nat}{s s':Sh}{g x x':Goroutine}{w w₁:World}
theorem iH {own:Nat->Prop}(h:dL (AtR X P Post (k+1) r) T γ own g w):g.status= .running/\g.offers=none:=let⟨_,_,h⟩:=h;h.running
theorem iQ {b:Bool}{own:Nat->Prop}(h:gv P (uC r) (eS X b γ.ro) (dL (AtR X P Post (k+1) r) T γ) ρ own g w):g.status= .running:=by
 cases ρ with
 |zero=>exact(iH (h w (RX.refl X _ _ w))).1
 |mk f=>exact h.elim (fun h=>(iH (h w (RX.refl X _ _ w))).1) fun h=>h.1
theorem wG {b:Bool}{S:(Nat->Prop)->Goroutine->World->Prop}{own:Nat->Prop}(h:∀w₁,RX X γ.ro own w w₁->S own g w₁):gv P (uC r) (eS X b γ.ro) S ρ own g w:=by
 cases ρ with
 |zero=>exact h
 |mk f=>exact .inl h
theorem Sit.status (h:Sit X P Post (k+1) r T γ ρ aw d q s g w):g.status= .running\/g.status= .blocked\/g.status= .finished:=by
 rcases h with⟨_,_,_,hg⟩|⟨_,_,_,_,g₀,rfl,_⟩|⟨_,_,hq⟩
 .exact .inl (iQ hg)
 .exact .inr (.inl rfl)
 .exact hq.status.elim .inl fun x=> .inr (.inr x)
theorem Sit.other (h:Sit X P Post (k+1) r T γ ρ aw d q s g w)(hr:RX X γ.ro γ.own w w₁)(hw:T.sleeps s=true->T.sleeps s'=true\/(mayWake P x=true/\x'.status= .running)):
  ∃aw',Sit X P Post (k+1) r T γ ρ aw' d q s' (woken P x x' w₁ g) w₁:=by
 rcases h with⟨h1,h2,h3,hg⟩|⟨h1,h2,h3,h4,g₀,rfl,hg⟩|⟨h1,h2,hq⟩
 .refine⟨1,.inl ⟨h1,h2,rfl,?_⟩⟩
  have:woken P x x' w₁ g=g:=by unfold woken;split;exact again_running _ (.inl (iQ hg));rfl
  rw[this];exact hg.rely hr
 .have hst:=hg w₁ hr
  have hg':∀w₂,RX X γ.ro γ.own w₁ w₂->dL (AtR X P Post (k+1) r) T γ γ.own g₀ w₂:=fun w₂ h₂=>hg w₂ (hr.trans X h₂)
  by_cases hc:(mayWake P x&&x'.status != .blocked&&x'.status != .waiting)=true
  .refine⟨1,.inl ⟨h1,h2,rfl,?_⟩⟩
   have:woken P x x' w₁ {g₀ with status:= .blocked}=g₀:=by unfold woken;rw[if_pos hc];exact ConcR.again_blocked (iH hst).1 (iH hst).2 _
   rw[this];exact wG hg'
  .have:woken P x x' w₁ {g₀ with status:= .blocked}={g₀ with status:= .blocked}:=by unfold woken;rw[if_neg hc]
   rw[this];rcases hw h4 with h5|⟨h5,h6⟩
   .exact⟨0,.inr (.inl ⟨h1,h2,rfl,h5,g₀,rfl,hg'⟩)⟩
   .exact absurd (by simp[h5,h6]) hc
 .exact⟨0,.inr (.inr ⟨h1,rfl,by rw[woken_quitsD hq];exact hq⟩)⟩
theorem Sit.rely (h:Sit X P Post (k+1) r T γ ρ aw d q s g w)(hr:RX X γ.ro γ.own w w₁):Sit X P Post (k+1) r T γ ρ aw d q s g w₁:=by
 rcases h with⟨h1,h2,h3,hg⟩|⟨h1,h2,h3,h4,g₀,rfl,hg⟩|h
 .exact .inl ⟨h1,h2,h3,hg.rely hr⟩
 .exact .inr (.inl ⟨h1,h2,h3,h4,g₀,rfl,fun w₂ h₂=>hg w₂ (hr.trans X h₂)⟩)
 .exact .inr (.inr h)
end
section
variable {Δ:Type}(X:Cx Δ)(S0:Nat->Prop)
def xQ (l:Loc):Prop:=∃a:Addr,l= .cell a/\(S0 a.block\/a.block=X.Wg\/(a.block=X.Fd/\a.off≠2))
def Ng (γ:bm->Gh Δ)(L:bm->Lo)(r:bm)(l:Loc):Prop:=born L r/\((∃c,(γ r).ro c/\ls c l)\/∃sp,l= .cell ⟨X.Fd,2,sp⟩)
structure Lay (γ:bm->Gh Δ)(L:bm->Lo)(B:Nat):Prop where
 sp:∀r c,(γ r).own c\/(γ r).ro c->c≠X.Fd/\c≠X.Wg/\¬S0 c/\c<B
 Yi:∀r,¬(γ r).ro X.M
 uw:∀r,(γ r).own X.M↔(L r).pc= .ur
 apart:∀r r' c,(γ r).own c->(γ r').own c->r=r'
 y7:∀r r' c,(γ r).own c->¬(γ r').ro c
 lv:∀r c,(γ r).own c\/(γ r).ro c->born L r
 fm:X.Fd≠X.M
 fw:X.Fd≠X.Wg
 mw:X.M≠X.Wg
 s0:∀c,S0 c->c<B/\c≠X.Fd/\c≠X.M/\c≠X.Wg
 uB:X.Fd<B
 An:X.M<B
 sO:X.Wg<B
end
section
variable {Δ:Type}{X:Cx Δ}{S0:Nat->Prop}{γ:bm->Gh Δ}{L:bm->Lo}{B:Nat}
theorem Fx {l:Loc}(h:xQ X S0 l):l.isMemory=true:=by obtain⟨a,rfl,_⟩:=h;rfl
theorem ky {c:Nat}{a:Addr}(h:ls c (.cell a)):a.block=c:=by
 rcases h with⟨a',e,h⟩|h
 .cases e;exact h
 .cases h
theorem Lay.ap (h:Lay X S0 γ L B)(hx:¬((L .a).pc= .ur/\(L .b).pc= .ur))(hm:(L .m).pc≠.ur):Ap (xQ X S0) (Ng X γ L) (born L) (fun r=>(γ r).own) X.M (hold L) B:=by
 have FR:∀c l,c≠X.Fd->c≠X.Wg->¬S0 c->ls c l->¬xQ X S0 l:=fun c l h1 h2 h3 hb ⟨a,e,ha⟩=>by
  subst e;have:=ky hb;subst this;rcases ha with ha|ha|ha
  .exact h3 ha
  .exact h2 ha
  .exact h1 ha.1
 have KQ:∀r c l,(∀r',¬(γ r').ro c)->c≠X.Fd->ls c l->¬Ng X γ L r l:=fun r c l h1 h2 hb ⟨_,hr⟩=>by
  rcases hr with⟨c',h3,hb'⟩|⟨sp,e⟩
  .exact h1 r (ls.uniq hb hb'▸h3)
  .subst e
   exact h2 (ky hb).symm
 refine⟨fun r c l ho hb=>?_,fun r c l r' ho hb=>?_,h.apart,fun r l hr hs=>?_,fun l hb=>⟨?_,fun r=>?_⟩,fun r ho=>?_,fun r c ho=>h.lv r c (.inl ho),fun c l hb hc=>⟨?_,fun r=>?_⟩,h.An,fun r c ho=>(h.sp r c (.inl ho)).2.2.2,fun l=>Fx,fun r l hr=>?_⟩
 .obtain⟨a1,a2,a3,_⟩:=h.sp r c (.inl ho)
  exact FR c l a1 a2 a3 hb
 .obtain⟨a1,a2,a3,_⟩:=h.sp r c (.inl ho)
  exact KQ r' c l (fun r''=>h.y7 r r'' c ho) a1 hb
 .rcases hr.2 with⟨c,h3,hb⟩|⟨sp,e⟩
  .obtain⟨a1,a2,a3,_⟩:=h.sp r c (.inr h3)
   exact FR c l a1 a2 a3 hb hs
  .subst e
   obtain⟨a,e,ha⟩:=hs;cases e;rcases ha with ha|ha|ha
   .exact(h.s0 _ ha).2.1 rfl
   .exact h.fw ha
   .exact ha.2 rfl
 .exact FR X.M l (fun e=>h.fm e.symm) h.mw (fun e=>(h.s0 _ e).2.2.1 rfl) hb
 .exact KQ r X.M l h.Yi (fun e=>h.fm e.symm) hb
 .have hu:=(h.uw r).1 ho
  unfold hold;cases r with
  |m=>exact absurd hu hm
  |a=>rw[if_pos hu]
  |b=>rw[if_neg fun e=>hx ⟨e,hu⟩,if_pos hu]
 .refine FR c l (fun e=>?_) (fun e=>?_) (fun e=>?_) hb
  .have:=h.uB;omega
  .have:=h.sO;omega
  .have:=(h.s0 _ e).1;omega
 .refine KQ r c l (fun r' e=>?_) (fun e=>?_) hb
  .have:=(h.sp r' c (.inr e)).2.2.2;omega
  .have:=h.uB;omega
 .rcases hr.2 with⟨c,_,hb⟩|⟨sp,rfl⟩
  .exact hb.mem
  .rfl
theorem Lay.grow (h:Lay X S0 γ L B){r:bm}{B':Nat}(hB:B<=B')(hr:born L r):
  Lay X S0 (upd γ r {γ r with own:=fun b=>(γ r).own b\/(B<=b/\b<B')}) L B':=by
 have ho:∀r' c,(upd γ r {γ r with own:=fun b=>(γ r).own b\/(B<=b/\b<B')} r').own c->(γ r').own c\/(r'=r/\B<=c/\c<B'):=fun r' c h'=>by
  by_cases e:r'=r
  .subst e;rw[upd_same] at h';exact h'.imp id fun z=>⟨rfl,z⟩
  .rw[upd_ne _ _ e] at h';exact .inl h'
 have hro:∀r' c,(upd γ r {γ r with own:=fun b=>(γ r).own b\/(B<=b/\b<B')} r').ro c->(γ r').ro c:=fun r' c h'=>by
  by_cases e:r'=r
  .subst e;rw[upd_same] at h';exact h'
  .rw[upd_ne _ _ e] at h';exact h'
 refine⟨fun r' c h'=>?_,fun r' h'=>h.Yi r' (hro _ _ h'),fun r'=>⟨fun h'=>?_,fun h'=>?_⟩,fun r' r'' c h' h''=>?_,fun r' r'' c h' h''=>?_,fun r' c h'=>?_,h.fm,h.fw,h.mw,fun c hc=>⟨Nat.lt_of_lt_of_le (h.s0 c hc).1 hB,(h.s0 c hc).2⟩,Nat.lt_of_lt_of_le h.uB hB,Nat.lt_of_lt_of_le h.An hB,Nat.lt_of_lt_of_le h.sO hB⟩
 .rcases h' with h'|h'
  .rcases ho _ _ h' with h'|⟨_,h1,h2⟩
   .obtain⟨a1,a2,a3,a4⟩:=h.sp r' c (.inl h')
    exact⟨a1,a2,a3,by omega⟩
   .exact⟨fun e=>by have:=h.uB;omega,fun e=>by have:=h.sO;omega,fun e=>by have:=(h.s0 c e).1;omega,h2⟩
  .obtain⟨a1,a2,a3,a4⟩:=h.sp r' c (.inr (hro _ _ h'))
   exact⟨a1,a2,a3,by omega⟩
 .rcases ho _ _ h' with h'|⟨_,h1,_⟩
  .exact(h.uw r').1 h'
  .have:=h.An;omega
 .have:=(h.uw r').2 h'
  by_cases e:r'=r
  .subst e;rw[upd_same];exact .inl this
  .rw[upd_ne _ _ e];exact this
 .rcases ho _ _ h' with h1|⟨e1,h1,_⟩<;>rcases ho _ _ h'' with h2|⟨e2,h2,_⟩
  .exact h.apart _ _ c h1 h2
  .have:=(h.sp r' c (.inl h1)).2.2.2;omega
  .have:=(h.sp r'' c (.inl h2)).2.2.2;omega
  .rw[e1,e2]
 .rcases ho _ _ h' with h1|⟨_,h1,_⟩
  .exact h.y7 _ _ c h1 (hro _ _ h'')
  .have:=(h.sp r'' c (.inr (hro _ _ h''))).2.2.2;omega
 .rcases h' with h'|h'
  .rcases ho _ _ h' with h'|⟨rfl,_⟩
   .exact h.lv r' c (.inl h')
   .exact hr
  .exact h.lv r' c (.inr (hro _ _ h'))
end
theorem TI.mono {n0:Nat}{Sh:Loc->Prop}{RO RO':bm->Loc->Prop}{lv lv':bm->Prop}{own own':bm->Nat->Prop}{M:Nat}{hold:Option bm}{mA wA:Addr}{B:Nat}{t:Trace}
  (h:TI n0 Sh RO lv own M hold mA wA B t) (h1:∀r l,RO' r l->RO r l) (h2:∀r,lv' r↔lv r) (h3:∀r c,own' r c->own r c):TI n0 Sh RO' lv' own' M hold mA wA B t:=by
 have e:lv'=lv:=funext fun r=>propext (h2 r)
 subst e;exact⟨h.clean,h.quiet,fun r c ho=>h.own r c (h3 r c ho),fun r i x hx hr=>h.ro r i x hx (h1 r _ hr),h.guard,h.base,h.work,h.over,h.ids,h.O5,h.nrW,h.low⟩
end aI
end
section
open Go.Conc
open Go.ConcN (sumTo)
open Go.ConcM (OsLater)
namespace aI
structure Cf (Δ:Type) where
 n0:Nat
 L:bm->Lo
 γ:bm->Gh Δ
 k:bm->Nat
 ρ:bm->Rk
 aw:bm->Nat
 ds:bm->Nat
 q:Nat->Nat
 s:Sh
 r1:Nat
 r2:Nat
def LtF (a b:bm->Rk):Prop:=∃r,Rk.Lt (a r) (b r)/\∀r',r'≠r->a r'=b r'
theorem Vp:WellFounded LtF:=by
 have key:∀x:Rk,Acc Rk.Lt x->∀y:Rk,Acc Rk.Lt y->∀z:Rk,Acc Rk.Lt z->∀f:bm->Rk,f .m=x->f .a=y->f .b=z->Acc LtF f:=by
  intro x hx
  induction hx with
  |intro x _ ihx=>
  intro y hy
  induction hy with
  |intro y hy' ihy=>
  intro z hz
  induction hz with
  |intro z hz' ihz=>
  intro f h1 h2 h3;refine⟨_,fun g hg=>?_⟩;obtain⟨r,hl,he⟩:=hg;cases r with
  |m=>exact ihx _ (h1▸hl) _ (Rk.acc _) _ (Rk.acc _) g rfl rfl rfl
  |a=>exact ihy _ (h2▸hl) _ (Rk.acc _) g ((he .m (by simp)).trans h1) rfl rfl
  |b=>exact ihz _ (h3▸hl) g ((he .m (by simp)).trans h1) ((he .a (by simp)).trans h2) rfl
 exact⟨fun f=>key _ (Rk.acc _) _ (Rk.acc _) _ (Rk.acc _) f rfl rfl rfl⟩
abbrev Ms:=Nat×(bm->Rk)×Nat×Nat
def Sm:Ms->Ms->Prop:=Prod.Lex (·<·) (Prod.Lex LtF (Prod.Lex (·<·) (·<·)))
theorem Vo:WellFounded Sm:=(Prod.lex Nat.lt_wfRel (Prod.lex ⟨LtF,Vp⟩ (Prod.lex Nat.lt_wfRel Nat.lt_wfRel))).wf
def awS (aw:bm->Nat):Nat:=aw .m+aw .a+aw .b
def Cf.ms {Δ:Type}(C:Cf Δ)(n:Nat):Ms:=(nn C.L C.r1 C.r2,C.ρ,sumTo n C.q,awS C.aw)
section
variable {Δ:Type}(X:Cx Δ)(P:Program)(Post:Gh Δ->Goroutine->World->Prop)(S0:Nat->Prop)
structure Core (C:Cf Δ)(gs:Array Goroutine)(w:World)(t:Trace):Prop where
 qZ:0<C.n0
 size:gs.size=C.n0+nb C.L
 tab:uI C.L C.s C.r1 C.r2
 fuel:∀r,born C.L r->nn C.L C.r1 C.r2<C.k r
 sh:ShAt X w C.s
 sit:∀r,born C.L r->∃g,gs[gid C.n0 r]? =some g/\Sit X P Post (C.k r) r (C.L r) (C.γ r) (C.ρ r) (C.aw r) (C.ds r) (C.q (gid C.n0 r)) C.s g w
 Ra:∀r,¬born C.L r->(C.γ r).mine=X.c0 r/\(C.L r).n=X.N r
 old:∀i g,0<i->i<C.n0->gs[i]? =some g->QuitsD P (C.q i) (Deaf t i) g
 above:∀j,gs.size<=j->Deaf t j=0
 deaf:∀r,born C.L r->Deaf t (gid C.n0 r)=C.ds r
 data:(C.L .a).pc≠.ur->(C.L .b).pc≠.ur->∃o,w.heap[X.M]? =some o/\X.Dat (C.γ .a).mine (C.γ .b).mine o
 ER:∀r,(C.L r).pc= .ur->(C.γ r).other=(C.γ (KJ r)).mine
 fin:∀r,past (C.L r).pc=true->(C.γ r).mine=X.fin r
 rel:∀r,past (C.L r).pc=true->∃p,ConcN.RelBy (wA X) t (gid C.n0 r) p
 lay:Lay X S0 C.γ C.L w.heap.size
 ti:TI C.n0 (xQ X S0) (Ng X C.γ C.L) (born C.L) (fun r=>(C.γ r).own) X.M (hold C.L) (mA X) (wA X) w.heap.size t
def AU (n0:Nat)(μ:Ms)(m:Machine)(t:Trace):Prop:=∃(C:Cf Δ) (gs:Array Goroutine) (w:World) (sl:Option (Nat×Nat)),C.n0=n0/\m=crowd gs w sl/\Core X P Post S0 C gs w t/\μ=C.ms gs.size
end
section
variable {Δ:Type}{X:Cx Δ}{P:Program}{Post:Gh Δ->Goroutine->World->Prop}{S0:Nat->Prop}{C:Cf Δ}{gs:Array Goroutine}{w w':World}{t:Trace}{sl:Option (Nat×Nat)}{r:bm}{x x':Goroutine}{es:Array Event}
theorem k7 {L:bm->Lo}{s:Sh}{r1 r2:Nat}(h:uI L s r1 r2):¬((L .a).pc= .ur/\(L .b).pc= .ur):=fun⟨x,y⟩=>h.Yn.facts.excl ⟨by simp[pm,x],by simp[pm,y]⟩
theorem jd {L:bm->Lo}{s:Sh}{r1 r2:Nat}(h:uI L s r1 r2){p:Pc}(hp:lY p=false):(L .m).pc≠p:=fun e=>by have:=h.st;rw[e,hp] at this;cases this
theorem Core.ap (c:Core X P Post S0 C gs w t):Ap (xQ X S0) (Ng X C.γ C.L) (born C.L) (fun r=>(C.γ r).own) X.M (hold C.L) w.heap.size:=c.lay.ap (k7 c.tab) (jd c.tab rfl)
theorem Core.oB (c:Core X P Post S0 C gs w t):born C.L .m:=jd c.tab rfl
theorem Core.kpos (c:Core X P Post S0 C gs w t)(hr:born C.L r):∃k',C.k r=k'+1:=by
 have:=c.fuel r hr;exact⟨C.k r-1,by omega⟩
theorem Hs (lay:Lay X S0 C.γ C.L w.heap.size){deaf:Bool}(h:DX X deaf (C.γ r).ro (C.γ r).own w w' es){r':bm}(hne:r'≠r):RX X (C.γ r').ro (C.γ r').own w w':=by
 have no:∀b,b=X.Fd\/b=X.Wg->¬(C.γ r).own b:=fun b hb ho=>by
  obtain⟨a1,a2,_⟩:=lay.sp r b (.inl ho);exact hb.elim a1 a2
 refine⟨h.tape,h.output,h.size,h.os,fun b hb ho=>h.keep b hb fun ho'=>?_,fun⟨s,hs⟩=>⟨s,?_,?_⟩⟩
 .rcases ho with ho|ho
  .exact hne (lay.apart _ _ b ho ho')
  .exact lay.y7 _ _ b ho' ho
 .rw[h.keep _ lay.uB (no _ (.inl rfl))];exact hs.1
 .rw[h.keep _ lay.sO (no _ (.inr rfl))];exact hs.2
theorem Oa (lay:Lay X S0 C.γ C.L w.heap.size){deaf:Bool}(h:DX X deaf (C.γ r).ro (C.γ r).own w w' es){s:Sh}(hs:ShAt X w s):ShAt X w' s:=by
 have no:∀b,b=X.Fd\/b=X.Wg->¬(C.γ r).own b:=fun b hb ho=>by
  obtain⟨a1,a2,_⟩:=lay.sp r b (.inl ho);exact hb.elim a1 a2
 exact⟨by rw[h.keep _ lay.uB (no _ (.inl rfl))];exact hs.1,by rw[h.keep _ lay.sO (no _ (.inr rfl))];exact hs.2⟩
theorem Hv (lay:Lay X S0 C.γ C.L w.heap.size)(h:ConcM.Eff X.Fd X.Wg w w'){s:Sh}(hs:ShAt X w' s)(r':bm):RX X (C.γ r').ro (C.γ r').own w w':=
 ⟨h.tape,h.output,by rw[h.size];exact Nat.le_refl _,h.os,fun b _ ho=>by
  obtain⟨a1,a2,_⟩:=lay.sp r' b ho;exact h.block b a1 a2,fun _=>⟨s,hs⟩⟩
theorem AB (c:Core X P Post S0 C gs w t)(hr:born C.L r):gid C.n0 r<gs.size:=by
 obtain⟨g,hg,_⟩:=c.sit r hr;exact(Array.getElem?_eq_some_iff.1 hg).1
theorem uZ {n0:Nat}(hn:0<n0){i:Nat}(h0:0<i)(h1:i<n0)(r:bm):gid n0 r≠i:=by cases r<;>simp[gid]<;>omega
theorem Core.others (c:Core X P Post S0 C gs w t)(hr:born C.L r)(abh:∀r',r'≠r->RX X (C.γ r').ro (C.γ r').own w w'){s':Sh}
  (hw:∀r',r'≠r->(C.L r').sleeps C.s=true->(C.L r').sleeps s'=true\/(mayWake P x=true/\x'.status= .running)):
  ∃aw':bm->Nat,∀r',r'≠r->born C.L r'->∃g,((gs.map (woken P x x' w')).setIfInBounds (gid C.n0 r) x')[gid C.n0 r']? =some g/\Sit X P Post (C.k r') r' (C.L r') (C.γ r') (C.ρ r') (aw' r') (C.ds r') (C.q (gid C.n0 r')) s' g w':=by
 have key:∀r',∃a,r'≠r->born C.L r'->∃g,((gs.map (woken P x x' w')).setIfInBounds (gid C.n0 r) x')[gid C.n0 r']? =some g/\Sit X P Post (C.k r') r' (C.L r') (C.γ r') (C.ρ r') a (C.ds r') (C.q (gid C.n0 r')) s' g w':=fun r'=>by
  by_cases h:r'≠r/\born C.L r'
  .obtain⟨h1,h2⟩:=h
   obtain⟨g,hg,hs⟩:=c.sit r' h2;obtain⟨k',hk⟩:=c.kpos h2;rw[hk] at hs⊢;obtain⟨a,ha⟩:=hs.other (x:=x) (x':=x') (abh r' h1) (hw r' h1);exact⟨a,fun _ _=>⟨_,by rw[ConcN.get_map_set _ _ _ _ (fun e=>h1 (j0 c.qZ e).symm),hg];rfl,ha⟩⟩
  .exact⟨0,fun h1 h2=>absurd ⟨h1,h2⟩ h⟩
 exact⟨fun r'=>(key r').choose,fun r'=>(key r').choose_spec⟩
theorem tR {g:Nat}{fn:FuncId}{pos:String}{es:Array Event}:∀op∈MemOp.ofEvents g fn pos es,op.g=g:=fun op h=>by obtain⟨e,_,rfl⟩:=Go.Conc.mem_ofEvents h;rfl
theorem Core.olds (c:Core X P Post S0 C gs w t){fn:FuncId}{pos:String}{es:Array Event}:∀i g,0<i->i<C.n0->((gs.map (woken P x x' w')).setIfInBounds (gid C.n0 r) x')[i]? =some g->QuitsD P (C.q i) (Deaf (t++MemOp.ofEvents (gid C.n0 r) fn pos es) i) g:=by
 intro i g h0 h1 hg;rw[ConcN.get_map_set _ _ _ _ (uZ c.qZ h0 h1 r)] at hg;obtain⟨y,hy,rfl⟩:=Option.map_eq_some_iff.1 hg;have hq:=c.old i y h0 h1 hy;rw[woken_quitsD hq,Deaf_other t (uZ c.qZ h0 h1 r) _ tR];exact hq
theorem xj (c:Core X P Post S0 C gs w t)(hr:born C.L r){fn:FuncId}{pos:String}{es:Array Event}{n:Nat}(hn:n=gs.size):∀j,n<=j->Deaf (t++MemOp.ofEvents (gid C.n0 r) fn pos es) j=0:=by
 intro j hj;have:=AB c hr;rw[Deaf_other t (g':=gid C.n0 r) (by omega) _ tR];exact c.above j (by omega)
theorem ua (c:Core X P Post S0 C gs w t){fn:FuncId}{pos:String}{es:Array Event}{r':bm}(hne:r'≠r)(hr':born C.L r'):Deaf (t++MemOp.ofEvents (gid C.n0 r) fn pos es) (gid C.n0 r')=C.ds r':=by
 rw[Deaf_other t (fun e=>hne (j0 c.qZ e).symm) _ tR];exact c.deaf r' hr'
theorem vT (c:Core X P Post S0 C gs w t){fn:FuncId}{pos:String}{es:Array Event}{r':bm}(hne:r'≠r){p:Nat}(h:ConcN.RelBy (wA X) t (gid C.n0 r') p):ConcN.RelBy (wA X) (t++MemOp.ofEvents (gid C.n0 r) fn pos es) (gid C.n0 r') p:=
 ConcN.RelBy.appOther h tR fun e=>hne (j0 c.qZ e).symm
theorem qY {m:Mark}(h:n9 m):(MemAct.mark m).touch? =none/\m≠.disable/\m≠.enable/\(∀a,m≠.release a)/\∀B,(MemAct.mark m).low B:=by
 cases m<;>simp[n9] at h<;>simp[MemAct.touch?,MemAct.low]
theorem dr {e:Event}{m:Mark}(h:e.loc= .mark m):MemAct.ofEvent e= .mark m:=by
 obtain⟨l,a,b⟩:=e;cases h;cases a<;>cases b<;>rfl
theorem oa {e:Event}{c:Nat}(h:ls c e.loc):(∀m,MemAct.ofEvent e≠.mark m)/\(∀B,c<B->(MemAct.ofEvent e).low B)/\∀z,(MemAct.ofEvent e).touch? =some z->z.loc=e.loc/\z.write=e.write:=by
 obtain⟨l,a,b⟩:=e;rcases h with⟨ad,h,hc⟩|h
 .simp only at h
  subst h;refine⟨fun m=>by cases a<;>cases b<;>simp[MemAct.ofEvent],fun B hB=>?_,fun z hz=>?_⟩
  .have:(MemAct.access ⟨.cell ad,a,b⟩).low B:=by show ad.block<B;omega
   cases a<;>cases b<;>exact this
  .cases a<;>cases b<;>simp[MemAct.ofEvent,MemAct.touch?] at hz<;>subst hz<;>exact⟨rfl,rfl⟩
 .simp only at h
  subst h;refine⟨fun m=>by cases a<;>cases b<;>simp[MemAct.ofEvent],fun B hB=>?_,fun z hz=>?_⟩
  .have h1:(MemAct.access ⟨.obj c,a,b⟩).low B:=hB
   have h2:(MemAct.close c).low B:=hB;cases a<;>cases b<;>first|exact h1|exact h2
  .cases a<;>cases b<;>simp[MemAct.ofEvent,MemAct.touch?] at hz<;>subst hz<;>exact⟨rfl,rfl⟩
theorem Id (c:Core X P Post S0 C gs w t)(hr:born C.L r){deaf:Bool}(h:DX X deaf (C.γ r).ro (C.γ r).own w w' es){fn:FuncId}{pos:String}:
  ∀op∈MemOp.ofEvents (gid C.n0 r) fn pos es,OkOp C.n0 (xQ X S0) (Ng X C.γ C.L) (fun r=>(C.γ r).own) (mA X) (wA X) w.heap.size w'.heap.size r op/\op.act≠.mark .disable/\op.act≠.mark .enable:=by
 intro op hop;obtain⟨e,he,rfl⟩:=Go.Conc.mem_ofEvents hop;rcases h.ev e he with⟨b,hb,hin⟩|⟨h1,h2,h3⟩|⟨m,h1,h2⟩
 .obtain⟨e1,e2,e3⟩:=oa hin
  have hlow:b<w'.heap.size:=by
   rcases hb with hb|hb|hb
   .have:=(c.lay.sp r b (.inl hb)).2.2.2;have:=h.size;omega
   .exact hb.2
   .have:=(c.lay.sp r b (.inr hb.1)).2.2.2;have:=h.size;omega
  refine⟨⟨rfl,e1 _,e1 _,e2 _ hlow,fun z hz=>?_⟩,e1 _,e1 _⟩;obtain⟨z1,z2⟩:=e3 z hz;rw[z1,z2];rcases hb with hb|hb|hb
  .exact .inr (.inl ⟨b,hin,.inl hb⟩)
  .exact .inr (.inl ⟨b,hin,.inr hb⟩)
  .exact .inr (.inr (.inl ⟨⟨hr,.inl ⟨b,hb.1,hin⟩⟩,hb.2⟩))
 .have hin:ls X.Fd e.loc:=by rw[h1];exact .inl ⟨_,rfl,rfl⟩
  obtain⟨e1,e2,e3⟩:=oa hin;refine⟨⟨rfl,e1 _,e1 _,e2 _ (Nat.lt_of_lt_of_le c.lay.uB h.size),fun z hz=>?_⟩,e1 _,e1 _⟩;obtain⟨z1,z2⟩:=e3 z hz;rw[z1,z2];exact .inr (.inr (.inl ⟨⟨hr,.inr ⟨none,h1⟩⟩,h2⟩))
 .obtain⟨m1,m2,m3,m4,m5⟩:=qY h2
  have e0:=dr h1;refine⟨⟨rfl,?_,?_,?_,fun z hz=>?_⟩,?_,?_⟩<;>simp only[e0]
  .simpa using m4 _
  .simpa using m4 _
  .exact m5 _
  .simp only[e0,m1] at hz;cases hz
  .simpa using m2
  .simpa using m3
theorem xl {g:Nat}{fn:FuncId}{pos:String}{es:Array Event}(hd:Deaf t g=0)(hes:∀e∈es,e.loc≠.mark .disable/\e.loc≠.mark .enable){i:Nat}{z:Touch}(hi:t.size<=i)
  (hz:touchAt (t++MemOp.ofEvents g fn pos es) i=some z) (hm:z.loc.isMemory=true):(t++MemOp.ofEvents g fn pos es).counts i:=by
 refine⟨z,hz,hm,.inr ?_⟩;obtain⟨op,ho,_⟩:=touch_of hz;have hg:op.g=g:=by
  rcases getElem?_append_cases ho with⟨h,_⟩|⟨_,h⟩
  .omega
  .exact tR op h
 have hlt:=lt_size_of_getElem? ho;have hsz:(MemOp.ofEvents g fn pos es).size=es.size:=by rw[ofEvents_eq];simp
 refine⟨g,by simp[Trace.g?,ho,hg],?_⟩;have:=deaf_inside t g fn pos es (i-t.size) (by rw[Array.size_append,hsz] at hlt;omega);rw[show t.size+(i-t.size)=i by omega] at this;rw[this,deafBehind_still (fun e he=>hes e (by
  obtain⟨j,hj⟩:=Array.mem_iff_getElem?.1 he;rw[Array.getElem?_extract] at hj;split at hj
  .exact Array.mem_of_getElem? hj
  .cases hj)),hd]
theorem JP (c:Core X P Post S0 C gs w t)(hr:born C.L r)(hx:gs[gid C.n0 r]? =some x){f:World->Rk}(hρ:C.ρ r= .mk f)(hnq:(C.L r).pc≠.quit)(hdd:C.ds r=fI (C.L r).pc)
  (hs:stepG P (uC r) x w= .go x' w' es) (hD:DX X (eH (C.L r).pc) (C.γ r).ro (C.γ r).own w w' es)
  (hl:gv P (uC r) (eS X (eH (C.L r).pc) (C.γ r).ro) (dL (AtR X P Post (C.k r) r) (C.L r) (C.γ r)) (f w) (fun b=>(C.γ r).own b\/(w.heap.size<=b/\b<w'.heap.size)) x' w'):
  ∃m₁ ops μ',runT P (crowd gs w sl) (gid C.n0 r)=(.next m₁,ops)/\Sm μ' (C.ms gs.size)/\AU X P Post S0 C.n0 μ' m₁ (t++ops):=by
 have hrun:=runT_crowd_go (P:=P) (sl:=sl) (i:=gid C.n0 r) hx (by rw[Au c.qZ];exact hs);obtain⟨aw',haw⟩:=c.others (x:=x) (x':=x') hr (fun r' h=>Hs c.lay hD h) (s':=C.s) fun r' _ h=> .inl h
 have hok:=Id c hr hD (fn:=x.frame.fn) (pos:=x.frame.place);have hmarks:∀e∈es,e.loc≠.mark .disable/\e.loc≠.mark .enable:=fun e he=>by
  have:=hok {g:=gid C.n0 r,fn:=x.frame.fn,pos:=x.frame.place,act:= .ofEvent e} (by rw[ofEvents_eq];exact Array.mem_map.2 ⟨e,he,rfl⟩);exact⟨fun h=>this.2.1 (dr h),fun h=>this.2.2 (dr h)⟩
 have hdeaf:Deaf (t++MemOp.ofEvents (gid C.n0 r) x.frame.fn x.frame.place es) (gid C.n0 r)=C.ds r:=by
  rw[Deaf_own,deafBehind_still hmarks];exact c.deaf r hr
 have hcnt:r≠.m->∀i z,t.size<=i->touchAt (t++MemOp.ofEvents (gid C.n0 r) x.frame.fn x.frame.place es) i=some z->z.loc.isMemory=true->(t++MemOp.ofEvents (gid C.n0 r) x.frame.fn x.frame.place es).counts i\/(xQ X S0 z.loc/\z.kind= .atomic):=fun _ i z hi hz hm=>by
  by_cases hd0:fI (C.L r).pc=0
  .exact .inl (xl (by rw[c.deaf r hr,hdd,hd0]) hmarks hi hz hm)
  .have he:=hD.mute (by simp[eH,hd0])
   subst he;obtain⟨op,ho,_⟩:=touch_of hz;have:=lt_size_of_getElem? ho;simp[ofEvents_none] at this;omega
 have hti:=TI.app c.qZ c.ap c.ti hr hD.size (fun op ho=>(hok op ho).1) hcnt;have hsz:((gs.map (woken P x x' w')).setIfInBounds (gid C.n0 r) x').size=gs.size:=by simp
 let own':Nat->Prop:=fun b=>(C.γ r).own b\/(w.heap.size<=b/\b<w'.heap.size)
 let C':Cf Δ:={C with γ:=upd C.γ r {C.γ r with own:=own'},ρ:=upd C.ρ r (f w),aw:=upd aw' r 1}
 have m6:∀r',(C'.γ r').mine=(C.γ r').mine/\(C'.γ r').other=(C.γ r').other/\(C'.γ r').ro=(C.γ r').ro:=fun r'=>by
  by_cases e:r'=r
  .subst e;simp[C',upd_same]
  .simp[C',upd_ne _ _ e]
 refine⟨_,_,C'.ms gs.size,hrun,.right _ (.left _ _ ⟨r,?_,fun r' h=>upd_ne _ _ h⟩),C',_,w',sl,rfl,rfl,?_,by rw[hsz]⟩
 .show Rk.Lt (upd C.ρ r (f w) r) (C.ρ r)
  rw[upd_same,hρ];exact⟨f,w,rfl,rfl⟩
 .refine⟨c.qZ,by rw[hsz];exact c.size,c.tab,c.fuel,Oa c.lay hD c.sh,fun r' hr'=>?_,fun r' hr'=>?_,c.olds,xj c hr hsz,fun r' hr'=>?_,fun h1 h2=>?_,fun r' h=>?_,fun r' h=>?_,fun r' h=>?_,c.lay.grow hD.size hr,?_⟩
  .by_cases e:r'=r
   .subst e
    refine⟨x',ConcN.get_map_set_same _ _ _ (AB c hr),.inl ⟨hnq,hdd,by simp[C',upd_same],?_⟩⟩;simp only[C',upd_same];exact hl
   .obtain⟨g,h1,h2⟩:=haw r' e hr'
    refine⟨g,h1,?_⟩;simp only[C',upd_ne _ _ e];exact h2
  .rw[(m6 r').1];exact c.Ra r' hr'
  .by_cases e:r'=r
   .subst e;exact hdeaf
   .exact ua c e hr'
  .obtain⟨o,h3,h4⟩:=c.data h1 h2
   refine⟨o,?_,by rw[(m6 .a).1,(m6 .b).1];exact h4⟩;rw[hD.keep _ c.lay.An fun ho=>?_]
   .exact h3
   .have:=(c.lay.uw r).1 ho
    cases r with
    |m=>exact jd c.tab rfl this
    |a=>exact h1 this
    |b=>exact h2 this
  .rw[(m6 r').2.1,(m6 _).1];exact c.ER r' h
  .rw[(m6 r').1];exact c.fin r' h
  .obtain⟨p,hp⟩:=c.rel r' h
   by_cases e:r'=r
   .subst e
    have he:=hD.mute (by
     revert h
     cases (C.L r').pc<;>simp[past,eH,fI])
    subst he;rw[ofEvents_none,Array.append_empty];exact⟨p,hp⟩
   .exact⟨p,vT c e hp⟩
  .refine TI.mono hti (fun r' l h=>?_) (fun _=>Iff.rfl) (fun r' b h=>?_)
   .exact⟨h.1,by have:=h.2;rw[(m6 r').2.2] at this;exact this⟩
   .by_cases e:r'=r
    .subst e
     simp only[C',upd_same] at h;exact h.imp id fun z=>⟨rfl,z⟩
    .simp only[C',upd_ne _ _ e] at h
     exact .inl h
end
end aI
end
end
end Go.Proofs.YtchcmhodnkgojaaGreat
