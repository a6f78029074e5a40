/- On the way to the last text; put together and shortened by program. -/
import Derived.Test.YtchcmhodnkgojaaGreatPart4
import GoSem.Dispatch
import Derived.Conc.Own5
import Derived.Conc.CompanyDraw
import Derived.Conc.Listed
import Derived.Control
import Derived.Conc.Own2
set_option linter.all false
set_option maxRecDepth 100000
set_option maxHeartbeats 8000000
namespace Go.Proofs.YtchcmhodnkgojaaGreat
noncomputable section
section
open Go.Conc
section
variable {P:Program}{π:Nat->Nat}{N V:Nat->Prop}
theorem BA {β:Type}{R:β->β->Prop}{r:Nat}(hv:V r){f f':Option (Addr×TypeId)->Sem β}(h0:bj P π N V R (f none) (f' none))(h1:∀b u,bj P π N (fun i=>V i\/i=b.block) R (f (some (b,u))) (f' (some (bh π b,u)))):
  bj P π N V R (viewAt r>>=f) (viewAt (π r)>>=f'):=by
 unfold viewAt;rw[bind_assoc,bind_assoc];refine bj.shape (k:=fun x=>_) hv fun x=>?_
 cases x with
 |some y=>exact h0
 |none=>
  refine bj.getObj (k:=fun x=>_) fun o ho=>?_
  cases o with
  |view b u=>exact(h1 b u).weak fun i hi=>hi.elim .inl fun e=> .inr (.inr e)
  |_=>first|exact ho.elim|exact h0.weak fun i hi=> .inl hi
theorem tf {β:Type}{R:β->β->Prop}{a:Addr}(hv:V a.block){f f':Addr->Sem β}(hf:∀s:Addr,bj P π N (fun i=>V i\/i=s.block) R (f s) (f' (bh π s))):
  bj P π N V R (Conv.seenAt a>>=f) (Conv.seenAt (bh π a)>>=f'):=by
 unfold Conv.seenAt;simp only[bind_assoc];refine BA hv ?_ fun b u=>?_
 .exact(hf a).weak fun i hi=>hi.elim id fun e=>e▸hv
 .dsimp only
  have e1:(bh π a).off=a.off:=rfl;have e2:(bh π a).spot=a.spot:=rfl;have e3:(bh π b).spot=b.spot:=rfl;have e4:(bh π b).block=π b.block:=rfl;have e5:(bh π b).off=b.off:=rfl;rw[e1,e2,e3,e4,e5];split
  .exact hf b
  .split
   .exact il trivial
   .simp only[pure_bind,bind_assoc]
    refine cy.bind' fun z z' h=>?_
    rw[h.1,h.2];cases byteOfCell P P.depth u a.off with
    |none=>exact il trivial
    |some β=>
     dsimp only;simp only[bind_assoc];refine bj.shape (k:=fun x=>_) (.inr rfl) fun x=>?_
     cases x with
     |none=>exact il (α:=Addr) (f:=f) trivial
     |some e=>
      obtain⟨e,cells⟩:=e;show bj P π N _ R ((if P.cellsOf e=0 then _ else _)>>=f) ((if P.cellsOf e=0 then _ else _)>>=f')
      by_cases h0:P.cellsOf e=0
      .rw[if_pos h0];exact il trivial
      .rw[if_neg h0,if_neg h0]
       cases cellAtBytes P P.depth e (cells/P.cellsOf e) b.off β with
       |none=>exact il (α:=Addr) (f:=f) trivial
       |some c=>exact hf {b with off:=c}
theorem BK {r:Nat}(hv:V r):bj P π N V Eq (cellsIn r) (cellsIn (π r)):=by
 unfold cellsIn;refine bj.shape (k:=fun x=>_) hv fun x=>?_
 cases x with
 |some y=>exact aj rfl
 |none=>
  refine bj.getObj (k:=fun x=>_) fun o ho=>?_
  cases o<;>first|exact ho.elim|exact aj rfl
theorem m6 {a:Addr}{u:TypeId}{n:Nat}(hv:V a.block):bj P π N V Eq (variablesAt a u n) (variablesAt (bh π a) u n):=by
 unfold variablesAt;refine cy.bind' fun z z' h=>?_
 rw[h.1,h.2];refine bj.shape (k:=fun x=>_) hv fun x=>?_
 cases x with
 |some y=>exact aj rfl
 |none=>exact aj rfl
theorem nF {s:Addr}{t:TypeId}(hv:V s.block):bj P π N V (RV π) (do Pure.pure (.pointer (some ⟨<-newObj (.view s t),0,none⟩)):Sem Value) (do Pure.pure (.pointer (some ⟨<-newObj (.view (bh π s) t),0,none⟩)):Sem Value):=by
 unfold newObj;exact bj.new (o:= .view s t) trivial (fun i hi=>by rw[show i=s.block from hi];exact hv) fun b _=> .pure (by simp[RV,bh])
theorem kW {src dst:TypeId}{x:Value}(hk:∀k,P.underlying dst≠some (.int k))(hx:VV V x):bj P π N V (RV π) (Conv.unsafePointer src dst x) (Conv.unsafePointer src dst (Value.ren π x)):=by
 unfold Conv.unsafePointer;refine(aE src).bind' fun us us' h=>?_
 obtain⟨rfl,hs⟩:=h;refine(aE dst).bind' fun ud ud' h=>?_
 obtain⟨rfl,hd⟩:=h;cases x with
 |pointer p=>
  simp only[aT];cases us with
  |pointer t=>cases ud with
   |unsafePointer=>cases p with
    |none=>exact aj (by simp[RV])
    |some a=>
     simp only[Option.map_some];refine tf hx.ptr fun s=>?_
     refine(BK (.inr rfl)).bind' fun c c' h=>?_
     subst h;refine(cH t).bind' fun m m' h=>?_
     obtain⟨rfl,_⟩:=h;exact cD (nF (.inr rfl)) (aj (by simp[RV]))
   |_=>cases p<;>exact ai
  |unsafePointer=>cases ud with
   |pointer u=>cases p with
    |none=>exact aj (by simp[RV])
    |some a=>
     simp only[Option.map_some];refine tf hx.ptr fun s=>?_
     refine(cH u).bind' fun m m' h=>?_
     obtain⟨rfl,_⟩:=h;refine(m6 (.inr rfl)).bind' fun c c' h=>?_
     subst h;refine cD (aj (by simp[RV])) ?_;refine bj.shape (k:=fun x=>_) (.inr rfl) fun x=>?_
     cases x with
     |none=>exact aG trivial
     |some y=>
      refine cy.bind' fun z z' h=>?_
      rw[h.1,h.2];refine cy.bind' fun z z' h=>?_
      rw[h.1,h.2];have tl:=nF (P:=P) (π:=π) (N:=N) (V:=fun i=>V i\/i=s.block) (t:=u) (.inr rfl);split
      .exact il trivial
      .exact tl
   |unsafePointer=>exact aj (by cases p<;>simp[RV])
   |int k=>exact absurd hd (hk k)
   |_=>cases p<;>exact ai
  |int k=>cases ud with
   |unsafePointer=>cases p with
    |none=>exact ai
    |some a=>exact aG trivial
   |_=>cases p<;>exact ai
  |_=>cases ud<;>first|exact ai|(cases p<;>exact ai)
 |int k a=>
  cases us with
  |int k=>cases ud with
   |unsafePointer=>cases a with
    |ofNat m=>cases m<;>exact aG trivial
    |negSucc m=>exact aG trivial
   |_=>exact ai
  |_=>cases ud<;>exact ai
 |_=>cases us<;>first|exact ai|(cases ud<;>exact ai)
theorem pA {α β:Type}{R:β->β->Prop}{f f':α->β->Sem (ForInStep β)}{g:α->α}:∀(l:List α),(∀a∈l,∀b b',R b b'->bj P π N V (GO R) (f a b) (f' (g a) b'))->∀b b',R b b'->bj P π N V R (forIn l b f) (forIn (l.map g) b' f')
 |[],_,b,b',h=>by simp only[List.forIn_nil,List.map_nil];exact aj h
 |a::l,hf,b,b',h=>by
  simp only[List.forIn_cons,List.map_cons];refine(hf a (by simp) b b' h).bind' fun x x' hx=>?_
  cases x<;>cases x'<;>first|exact hx.elim|exact aj hx|exact pA l (fun a ha=>hf a (by simp[ha])) _ _ hx
theorem qJ (x:Value):bj P π N V (RV π) (Conv.bytesToString x) (Conv.bytesToString (Value.ren π x)):=by
 unfold Conv.bytesToString;cases x with
 |slice a n c=>
  simp only[bF];cases a with
  |none=>exact aj (by simp[RV])
  |some a=>
   simp only[Option.map_some];refine(lG a n).bind' fun cs cs' h=>?_
   rw[show cs'=_ from h,<-Array.forIn_toList,<-Array.forIn_toList,Array.toList_map];refine(pA (R:=Eq) _ (fun v hv b b' hb=>?_) _ _ rfl).bind' fun r r' h=>?_
   .subst hb
    cases v with
    |int k m=>simp only[cq];cases k<;>first|exact ai|exact aj rfl
    |_=>exact ai
   .subst h
    exact aj (by simp[RV])
 |_=>exact ai
theorem qE (e:TypeId)(s:ByteArray):bj P π N V (RV π) (Conv.stringToBytes e s) (Conv.stringToBytes e s):=by
 unfold Conv.stringToBytes;refine io.bind' fun c c' h=>?_
 subst h;dsimp only;have hr:(s.data.map (fun b:UInt8=>Value.int .u8 b.toNat)++Array.replicate (c-s.size) (Value.int .u8 0)).map (Value.ren π)=s.data.map (fun b:UInt8=>Value.int .u8 b.toNat)++Array.replicate (c-s.size) (Value.int .u8 0):=by
  refine ck fun v hv=>?_
  rcases Array.mem_append.1 hv with h|h
  .obtain⟨b,_,rfl⟩:=Array.mem_map.1 h;simp
  .rw[(Array.mem_replicate.1 h).2];simp
 generalize s.data.map (fun b:UInt8=>Value.int .u8 b.toNat)++Array.replicate (c-s.size) (Value.int .u8 0)=cells at hr⊢;unfold newRow newObj markStringish;have:=bj.new (P:=P) (π:=π) (N:=N) (V:=V) (R:=RV π) (o:= .cells cells e) (k:=fun b=>shape b>>=fun x=>(match x with|some (_,n)=>freeze {block:=b,off:=n} 1|_=>Pure.pure ())>>=fun _=>Pure.pure (.slice (some ⟨b,0,none⟩) s.size c))
  (k':=fun b=>shape b>>=fun x=>(match x with|some (_,n)=>freeze {block:=b,off:=n} 1|_=>Pure.pure ())>>=fun _=>Pure.pure (.slice (some ⟨b,0,none⟩) s.size c)) trivial (fun _ h=>h.elim) fun b hb=>by
  refine bj.shape (k:=fun x=>_) (.inr rfl) fun x=>?_
  cases x with
  |none=>exact aj (by simp[RV,bh])
  |some y=>exact bj.freeze (a:={block:=b,off:=y.2}) (.inr rfl) hb (aj (by simp[RV,bh]))
 rw[show dw π (.cells cells e)= .cells cells e by simp only[dw,hr]] at this;exact this
def XZ (P:Program)(src dst:TypeId):Bool:=match P.underlying src,P.underlying dst with
 |some (.int _),some (.int _)|some (.int _),some .string|some .string,some .string=>true
 |some (.slice e),some .string|some .string,some (.slice e)=>(match P.underlying e with|some (.int .u8)=>true|_=>false)
 |some (.pointer _),some .unsafePointer|some .unsafePointer,some (.pointer _)=>true
 |_,_=>false
theorem BJ {src dst:TypeId}{x:Value}(hc:XZ P src dst=true)(hx:VV V x):bj P π N V (RV π) (convert src dst x) (convert src dst (Value.ren π x)):=by
 unfold convert;refine(aE src).bind' fun us us' h=>?_
 obtain⟨rfl,hs⟩:=h;refine(aE dst).bind' fun ud ud' h=>?_
 obtain⟨rfl,hd⟩:=h;simp only[XZ,hs,hd] at hc;have hp:bj P π N V (RV π) (Pure.pure x) (Pure.pure (Value.ren π x)):=aj rfl;have hi:∀k n,bj P π N V (RV π) (Conv.intToInt k n) (Conv.intToInt k n):=fun k n=>dD (lZ trivial)
 have hf:∀s b k,bj P π N V (RV π) (Conv.floatToInt s b k) (Conv.floatToInt s b k):=fun s b k=>dD (Vd _ _ _)
 have hn:∀n,bj P π N V (RV π) (Conv.intToString n) (Conv.intToString n):=fun n=>dD (lZ trivial)
 cases us<;>cases ud<;>first|(exfalso;simp at hc;done)|skip
 case int.int k k'=>
  cases x with
  |int j n=>simp only[cq];exact hi _ _
  |float j n=>simp only[dj];exact hf _ _ _
  |pointer a=>cases a<;>exact aG trivial
  |_=>exact aG trivial
 case int.string k=>
  cases x with
  |int j n=>simp only[cq];exact hn _
  |string s=>simp only[bv] at hp⊢;exact hp
  |pointer a=>cases a<;>exact aG trivial
  |_=>exact aG trivial
 case string.string=>
  cases x with
  |int j n=>simp only[cq];exact hn _
  |string s=>simp only[bv] at hp⊢;exact hp
  |pointer a=>cases a<;>exact aG trivial
  |_=>exact aG trivial
 case slice.string e=>
  have hu8:P.underlying e=some (.int .u8):=by
   cases he:P.underlying e with
   |none=>simp[he] at hc
   |some ue=>cases ue with
    |int k=>cases k<;>first|rfl|(simp[he] at hc;done)
    |_=>simp[he] at hc
  have tl:=qJ (P:=P) (π:=π) (N:=N) (V:=V) x;cases x with
  |int j n=>simp only[cq];exact hn _
  |string s=>simp only[bv] at hp⊢;exact hp
  |slice a n c=>
   simp only[bF] at tl⊢;cases a<;>exact(aE e).bind' fun u u' h=>by
    obtain⟨rfl,he⟩:=h;rw[hu8] at he;cases he;exact tl
  |_=>
   simp only[dA,cq,dj,cQ,bv,aT,dy,cI,bF,dl,dN,cP,di,cO,da] at tl⊢;exact(aE e).bind' fun u u' h=>by
    obtain⟨rfl,he⟩:=h;rw[hu8] at he;cases he;exact tl
 case string.slice e=>
  cases x with
  |string s=>
   simp only[bv];refine(aE e).bind' fun ue ue' h=>?_
   obtain⟨rfl,he⟩:=h;simp only[he] at hc;cases ue with
   |int k=>cases k<;>first|exact qE e s|(exfalso;simp at hc;done)
   |_=>exfalso;simp at hc
  |slice a n c=>cases a<;>exact aG trivial
  |pointer a=>cases a<;>exact aG trivial
  |_=>exact aG trivial
 case pointer.unsafePointer t=>
  have:=kW (N:=N) (π:=π) (src:=src) (x:=x) (fun k h=>by rw[hd] at h;cases h) hx;cases x<;>exact this
 case unsafePointer.pointer t=>
  have:=kW (N:=N) (π:=π) (src:=src) (x:=x) (fun k h=>by rw[hd] at h;cases h) hx;cases x<;>exact this
end
section
variable {P:Program}{π:Nat->Nat}{N V:Nat->Prop}
theorem EY {α:Type}{r:Nat}{k:Option (TypeId×Nat)->Sem α}(h:∀x,Dead P (k x)):Dead P (.shape r k):=fun w hw=>h _ w hw
theorem C7 {α:Type}{a:Addr}{k:Bool->Sem α}(h:∀x,Dead P (k x)):Dead P (.frozen a k):=fun w hw=>h _ w hw
theorem I6 {α:Type}{m:Mark}{k:Sem α}(h:Dead P k):Dead P (.mark m k):=fun w hw=>h w hw
theorem AG {α:Type}{k:Program->Sem α}(h:Dead P (k P)):Dead P (.program k):=fun w hw=>h w hw
theorem C6 {α:Type}{c:Prop}[Decidable c]{s t:Sem α}(h1:Dead P s)(h2:Dead P t):Dead P (if c then s else t):=by
 split
 .exact h1
 .exact h2
theorem zq {α β:Type}{c:Prop}[Decidable c]{s t:Sem α}{k:α->Sem β}(h1:Dead P (s>>=k))(h2:Dead P (t>>=k)):Dead P ((if c then s else t)>>=k):=by
 split
 .exact h1
 .exact h2
theorem ym {α:Type}{size sLen n:Nat}{base:Option Addr}{x:Value}{k:Bool->Sem α}(h:∀b,Dead P (k b)):Dead P (Builtin.mayShare size sLen n base x>>=k):=by
 have ze:∀(a:Addr) (m:Nat) (f:Bool->Sem α),(∀b,Dead P (f b))->Dead P (Builtin.holdsCells a m>>=f):=by
  intro a m f hf;unfold Builtin.holdsCells;refine EY fun y=>?_
  cases y<;>exact hf _
 unfold Builtin.mayShare;simp only[bind_assoc,pure_bind];cases base with
 |none=>
  simp only[pure_bind];refine zq (h _) ?_;cases x with
  |slice a _ _=>cases a with
   |none=>exact h _
   |some b=>simp only[bind_assoc,pure_bind];exact ze _ _ _ fun _=>h _
  |_=>exact h _
 |some a=>
  simp only[bind_assoc,pure_bind];refine ze _ _ _ fun z=>C7 fun z'=>?_
  refine zq (h _) ?_;cases x with
  |slice a _ _=>cases a with
   |none=>exact h _
   |some b=>simp only[bind_assoc,pure_bind];exact ze _ _ _ fun _=>h _
  |_=>exact h _
theorem yR (x:Value):bj P π N V Eq (Builtin.lenOf x) (Builtin.lenOf (Value.ren π x)):=by
 unfold Builtin.lenOf;cases x with
 |slice a n c=>simp only[bF];exact aj rfl
 |string s=>simp only[bv];exact aj rfl
 |_=>exact ai
theorem iN (size n:Nat)(x:Value):bj P π N V (RC π) (Builtin.firstCells size n x) (Builtin.firstCells size n (Value.ren π x)):=by
 unfold Builtin.firstCells;cases x with
 |slice a m c=>
  simp only[bF];cases a with
  |none=>exact aj (by simp[RC])
  |some a=>exact lG a _
 |string s=>
  simp only[bv];refine aj ?_;show _=_;exact(ck fun v hv=>by obtain⟨b,_,rfl⟩:=Array.mem_map.1 hv;simp).symm
 |_=>exact ai
theorem pu (z:Array Value)(hz:z.map (Value.ren π)=z)(n:Nat):(Builtin.zeroCells z n).map (Value.ren π)=Builtin.zeroCells z n:=by
 unfold Builtin.zeroCells;exact kv z hz _ _
def Yh (P:Program)(ats:Array TypeId):Bool:=(match ats[0]? with
  |some t=>NJ P t
  |none=>true)&&(match ats[1]? with
  |some t=>(match P.underlying t with|some (.int _)=>false|_=>true)
  |none=>false)
theorem nO (n:Nat):bj P π N V Eq (askRoom n) (askRoom n):=by
 unfold askRoom;split
 .exact .mark trivial (.pure rfl)
 .exact aj rfl
theorem DZ {ats:Array TypeId}{t:TypeId}{args:Array Value}(hc:Yh P ats=true):bj P π N V (RV π) (Builtin.append_ ats t args) (Builtin.append_ ats t (args.map (Value.ren π))):=by
 unfold Builtin.append_;simp only[Array.getElem?_map];cases h0:ats[0]? with
 |none=>exact ai
 |some sT=>
  cases h1:args[0]? with
  |none=>exact ai
  |some s=>
    cases h2:args[1]? with
   |none=>exact ai
   |some x=>
    simp only[Option.map_some];refine(aE sT).bind' fun u u' h=>?_
    obtain⟨rfl,hu⟩:=h;cases u with
    |slice elem=>cases s with
     |slice base sLen sCap=>
      simp only[bF];refine(cH elem).bind' fun size size' h=>?_
      obtain⟨rfl,_⟩:=h;simp only[Yh,h0,Bool.and_eq_true] at hc;obtain⟨hc0,hc1⟩:=hc;have Ww:zf P elem=true:=by simpa [NJ,hu] using hc0
      have hfs:=iN (P:=P) (π:=π) (N:=N) (V:=V) size sLen (.slice base sLen sCap);rw[bF] at hfs;cases h3:ats[1]? with
      |none=>simp[h3] at hc1
      |some xT=>
       simp only[bind_assoc];simp only[h3] at hc1;refine(aE xT).bind' fun u u' h=>?_
       obtain⟨rfl,hu1⟩:=h;have hni:∀k,u≠.int k:=fun k e=>by simp[hu1,e] at hc1
       cases u
       case int k=>exact absurd rfl (hni k)
       all_goals
        simp only[pure_bind,Bool.not_false,if_true,Bool.false_eq_true,if_false,false_or];refine(yR x).bind' fun n n' h=>?_
        subst h;refine cD ?_ ?_
        .refine(iN size n x).bind' fun c c' h=>?_
         rw[show c'=_ from h];cases base with
         |none=>exact aj (by simp[RV])
         |some a=>
          simp only[Option.map_some];rw[<-iP,Array.toList_map];exact(fC _ _ 0).bind' fun _ _ _=>aj (by simp[RV])
        .refine(d7 elem).bind' fun _ _ h=>?_
         obtain⟨rfl,_⟩:=h;refine cD qG ((d7 elem).bind' fun _ _ h=>?_);obtain⟨rfl,_⟩:=h;refine cD (.dead (Dead.bind _ (ym fun b=>C6 (I6 (Dead.halt trivial)) (Dead.halt trivial)))) ?_;refine io.bind' fun nc _ h=>?_
         subst h;refine(d7 elem).bind' fun _ _ h=>?_
         obtain⟨rfl,_⟩:=h;refine(nO _).bind' fun _ _ _=>?_
         refine hfs.bind' fun old old' h=>?_
         rw[show old'=_ from h];refine(iN size n x).bind' fun c c' h=>?_
         rw[show c'=_ from h];refine(ed Ww).bind' fun z _ h=>?_
         obtain⟨rfl,kk,hk⟩:=h;have key:=ko (P:=P) (π:=π) (N:=N) (V:=V) elem (old++c++Builtin.zeroCells z.cells (nc-(sLen+n)));rw[Array.map_append,Array.map_append,pu (π:=π) z.cells (by rw[<-iF,ej hk])] at key;refine key.bind' fun a a' h=>?_
         rw[show a'=_ from h];exact aj (by simp[RV])
     |_=>exact ai
    |_=>exact ai
theorem Kg {ats:Array TypeId}{t:TypeId}{args:Array Value}:bj P π N V (RV π) (Builtin.copy_ ats t args) (Builtin.copy_ ats t (args.map (Value.ren π))):=by
 unfold Builtin.copy_;simp only[Array.getElem?_map];cases h0:ats[0]? with
 |none=>exact ai
 |some sT=>
  cases h1:args[0]? with
  |none=>exact ai
  |some s=>cases h2:args[1]? with
   |none=>exact ai
   |some x=>
    simp only[Option.map_some];refine(aE sT).bind' fun u u' h=>?_
    obtain⟨rfl,hu⟩:=h;cases u with
    |slice elem=>cases s with
     |slice base dLen c=>
      simp only[bF];refine(yR x).bind' fun n n' h=>?_
      subst h;refine(cH elem).bind' fun size _ h=>?_
      obtain⟨rfl,_⟩:=h;refine(iN size _ x).bind' fun c c' h=>?_
      rw[show c'=_ from h];cases base with
      |none=>exact aj (by simp[RV,goInt])
      |some a=>
       simp only[Option.map_some];rw[Array.toList_map];exact(fC _ _ 0).bind' fun _ _ _=>aj (by simp[RV,goInt])
     |_=>exact ai
    |_=>exact ai
theorem Oz {ats:Array TypeId}{t:TypeId}{args:Array Value}:bj P π N V (RV π) (Builtin.len_ ats t args) (Builtin.len_ ats t (args.map (Value.ren π))):=by
 unfold Builtin.len_;simp only[Array.getElem?_map];cases h0:ats[0]? with
 |none=>exact ai
 |some sT=>
  cases h1:args[0]? with
  |none=>exact ai
  |some s=>
   simp only[Option.map_some];refine(aE sT).bind' fun u u' h=>?_
   obtain⟨rfl,hu⟩:=h;cases u with
   |string=>cases s with
    |string b=>simp only[bv];exact aj (by simp[RV,goInt])
    |_=>exact ai
   |array n e=>cases s<;>(simp only[dA,cq,dj,cQ,bv,aT,dy,cI,bF,dl,dN,cP,di,cO,da];exact aj (by simp[RV,goInt]))
   |pointer arr=>
    have tl:∀{α:Type} (f:TypeDesc->Sem Value),(∀d,bj P π N V (RV π) (f d) (f d))->bj P π N V (RV π) (underlying arr>>=f) (underlying arr>>=f):=fun f hf=>(aE arr).bind' fun d _ h=>by obtain⟨rfl,_⟩:=h;exact hf d
    cases s<;>(simp only[dA,cq,dj,cQ,bv,aT,dy,cI,bF,dl,dN,cP,di,cO,da];refine tl (α:=Unit) _ fun d=>?_;cases d<;>first|exact ai|exact aj (by simp[RV,goInt]))
   |slice e=>cases s with
    |slice a n c=>simp only[bF];exact aj (by simp[RV,goInt])
    |_=>exact ai
   |map k e=>cases s with
    |map r=>cases r with
     |none=>simp only[dl];exact aj (by simp[RV,goInt])
     |some r=>
      simp only[dl,Option.map_some];refine bj.getObj (k:=fun x=>_) fun o ho=>?_
      cases o<;>first|exact ho.elim|exact ai|exact aj (by simp[RV,goInt])
    |_=>exact ai
   |chan d e=>cases s with
    |chan r=>cases r with
     |none=>simp only[dN];exact aj (by simp[RV,goInt])
     |some r=>
      simp only[dN,Option.map_some];refine bj.getObj (k:=fun x=>_) fun o ho=>?_
      cases o<;>first|exact ho.elim|exact ai
    |_=>exact ai
   |_=>exact ai
theorem OA {ats:Array TypeId}{t:TypeId}{args:Array Value}:bj P π N V (RV π) (Builtin.cap_ ats t args) (Builtin.cap_ ats t (args.map (Value.ren π))):=by
 unfold Builtin.cap_;simp only[Array.getElem?_map];cases h0:ats[0]? with
 |none=>exact ai
 |some sT=>
  cases h1:args[0]? with
  |none=>exact ai
  |some s=>
   simp only[Option.map_some];refine(aE sT).bind' fun u u' h=>?_
   obtain⟨rfl,hu⟩:=h;cases u with
   |array n e=>cases s<;>(simp only[dA,cq,dj,cQ,bv,aT,dy,cI,bF,dl,dN,cP,di,cO,da];exact aj (by simp[RV,goInt]))
   |pointer arr=>
    have tl:∀{α:Type} (f:TypeDesc->Sem Value),(∀d,bj P π N V (RV π) (f d) (f d))->bj P π N V (RV π) (underlying arr>>=f) (underlying arr>>=f):=fun f hf=>(aE arr).bind' fun d _ h=>by obtain⟨rfl,_⟩:=h;exact hf d
    cases s<;>(simp only[dA,cq,dj,cQ,bv,aT,dy,cI,bF,dl,dN,cP,di,cO,da];refine tl (α:=Unit) _ fun d=>?_;cases d<;>first|exact ai|exact aj (by simp[RV,goInt]))
   |slice e=>cases s with
    |slice a n c=>simp only[bF];exact aj (by simp[RV,goInt])
    |_=>exact ai
   |chan d e=>cases s with
    |chan r=>cases r with
     |none=>simp only[dN];exact aj (by simp[RV,goInt])
     |some r=>
      simp only[dN,Option.map_some];refine bj.getObj (k:=fun x=>_) fun o ho=>?_
      cases o<;>first|exact ho.elim|exact ai
    |_=>exact ai
   |_=>exact ai
theorem Hq {ats:Array TypeId}{t:TypeId}{args:Array Value}(hz:(match ats[0]? with|some t=>NJ P t|none=>true)=true):bj P π N V (RV π) (Builtin.clear_ ats t args) (Builtin.clear_ ats t (args.map (Value.ren π))):=by
 unfold Builtin.clear_;simp only[Array.getElem?_map];cases h0:ats[0]? with
 |none=>exact ai
 |some sT=>
  cases h1:args[0]? with
  |none=>exact ai
  |some s=>
   simp only[Option.map_some];rw[h0] at hz;refine(aE sT).bind' fun u u' h=>?_
   obtain⟨rfl,hu⟩:=h;have fin:∀V:Nat->Prop,bj P π N V (RV π) (Pure.pure (.tuple #[])) (Pure.pure (.tuple #[])):=fun _=>aj (by simp[RV])
   cases s with
   |map r=>cases r with
    |none=>simp only[dl];cases u<;>exact fin _
    |some r=>
     simp only[dl,Option.map_some];cases u<;>
     .refine bj.getObj (k:=fun x=>_) fun o ho=>?_
      cases o with
      |map es c=>
       have e:=bj.setObj (P:=P) (π:=π) (N:=N) (V:=fun i=>V i\/i=r\/inner (.map es c) i) (R:=RV π) (r:=r) (o:= .map #[] c) (k:=Pure.pure (.tuple #[])) (k':=Pure.pure (.tuple #[])) trivial (fun _ h=>h.elim) (fin _);simp only[dw,Array.map_empty] at e;exact e
      |_=>first|exact ho.elim|exact ai
   |slice a n cp=>cases a with
    |none=>simp only[bF];cases u<;>exact fin _
    |some a=>cases n with
     |zero=>simp only[bF];cases u<;>exact fin _
     |succ n=>
      simp only[bF,Option.map_some];cases u with
      |slice elem=>
       have Ww:zf P elem=true:=by simpa [NJ,hu] using hz
       refine(ed Ww).bind' fun z _ h=>?_
       obtain⟨rfl,k,hk⟩:=h;have key:=fC (P:=P) (π:=π) (N:=N) (V:=V) a (Builtin.zeroCells z.cells (n+1)).toList 0;rw[<-Array.toList_map,pu (π:=π) z.cells (by rw[<-iF,ej hk])] at key;exact key.bind' fun _ _ _=>fin _
      |_=>exact ai
   |_=>cases u<;>exact ai
end
section
variable {P:Program}{π:Nat->Nat}{N V:Nat->Prop}
theorem Dq (hi:∀i j,π i=π j->i=j)(a b:Option Addr):(a.map (bh π)==b.map (bh π))=(a==b):=by
 rw[Bool.eq_iff_iff];simp only[beq_iff_eq];constructor
 .intro h
  cases a<;>cases b<;>simp_all;exact vM hi h
 .intro h;rw[h]
theorem Dp (hi:∀i j,π i=π j->i=j)(a b:Option Nat):(a.map π==b.map π)=(a==b):=by
 rw[Bool.eq_iff_iff];simp only[beq_iff_eq];constructor
 .intro h
  cases a<;>cases b<;>simp_all;exact hi _ _ h
 .intro h;rw[h]
theorem tX {α β γ:Type}(f:α->β)(g:γ->β)(p:β->β->Bool)(q:α->γ->Bool):∀(l:List α) (m:List γ),(∀a∈l,∀b∈m,p (f a) (g b)=q a b)->(((l.map f).zip (m.map g)).all fun x=>p x.1 x.2)=((l.zip m).all fun x=>q x.1 x.2)
 |[],_,_=>by simp
 |_::_,[],_=>by simp
 |a::l,b::m,h=>by
  simp only[List.map_cons,List.zip_cons_cons,List.all_cons];rw[h a (by simp) b (by simp),tX f g p q l m fun a ha b hb=>h a (by simp[ha]) b (by simp[hb])]
theorem zZ (hi:∀i j,π i=π j->i=j):∀(n:Nat) (v w:Value),Instr.sameBits n (Value.ren π v) (Value.ren π w)=Instr.sameBits n v w:=by
 intro n
 induction n with
 |zero=>
  intro v w;cases v<;>cases w<;>simp[Instr.sameBits,Dq hi,Dp hi]
 |succ n ih=>
  intro v w;cases v<;>cases w<;>simp[Instr.sameBits,Dq hi,Dp hi,ih];rw[tX (Value.ren π) (Value.ren π) (Instr.sameBits n) (Instr.sameBits n) _ _ fun a _ b _=>ih a b]
def s9 (P:Program)(t:TypeId):Bool:=match P.underlying t with|some .string=>true|_=>false
theorem zU {t:TypeId}(ht:s9 P t=true)(x y:Value):bj P π N V Eq (Op.equal t x y) (Op.equal t (Value.ren π x) (Value.ren π y)):=by
 unfold Op.equal;rw[show Op.maxDepth=9999+1 from rfl];unfold Op.equalIn;refine(aE t).bind' fun u u' h=>?_
 obtain⟨rfl,hu⟩:=h;simp only[s9,hu] at ht;cases u with
 |string=>
  cases x with
  |string a=>cases y with
   |string b=>simp only[bv];exact aj rfl
   |_=>exact ai
  |_=>exact ai
 |_=>simp at ht
theorem mz {empty:Bool}{t:TypeId}(ht:s9 P t=true)(k:Value):bj P π N V Eq (Instr.checkKey empty 10000 t k) (Instr.checkKey empty 10000 t (Value.ren π k)):=by
 unfold Instr.checkKey;refine(aE t).bind' fun u u' h=>?_
 obtain⟨rfl,hu⟩:=h;simp only[s9,hu] at ht;cases u with
 |string=>exact aj rfl
 |_=>simp at ht
theorem BT (a b:Value):Instr.sameNow .string (Value.ren π a) (Value.ren π b)=Instr.sameNow .string a b:=by
 cases a<;>cases b<;>simp[Instr.sameNow]
theorem tN (k:Value):∀(es:List MapEntry) (i:Nat),Instr.findNow .string (Value.ren π k) (es.map (lI π)) i=(Instr.findNow .string k es i).map (Option.map fun p=>(p.1,Value.ren π p.2))
 |[],i=>rfl
 |e::es,i=>by
  simp only[List.map_cons,Instr.findNow];rw[show(lI π e).key=Value.ren π e.key from rfl,BT];cases Instr.sameNow .string k e.key with
  |none=>rfl
  |some b=>cases b with
   |true=>rfl
   |false=>exact tN k es (i+1)
theorem nK {t:TypeId}(ht:s9 P t=true)(k:Value):∀(es:List MapEntry) (i:Nat),bj P π N V (fun r r'=>r'=r.map fun p=>(p.1,Value.ren π p.2)) (Instr.findAsking t k es i) (Instr.findAsking t (Value.ren π k) (es.map (lI π)) i)
 |[],i=>aj rfl
 |e::es,i=>by
  simp only[List.map_cons,Instr.findAsking];refine(zU ht k e.key).bind' fun b b' h=>?_
  subst h;exact cD (aj rfl) (nK ht k es (i+1))
theorem nJ {t:TypeId}(ht:s9 P t=true)(k:Value)(es:List MapEntry):bj P π N V (fun r r'=>r'=r.map fun p=>(p.1,Value.ren π p.2)) (Instr.findKey t k es) (Instr.findKey t (Value.ren π k) (es.map (lI π))):=by
 unfold Instr.findKey;refine(aE t).bind' fun u u' h=>?_
 obtain⟨rfl,hu⟩:=h;have ht':=ht;simp only[s9,hu] at ht';cases u with
 |string=>
  rw[tN];cases Instr.findNow .string k es 0 with
  |some r=>exact aj rfl
  |none=>exact nK ht k es 0
 |_=>simp at ht'
def Lf (P:Program)(t:TypeId):Bool:=match P.underlying t with
 |some (.map k e)=>s9 P k&&zf P e
 |_=>true
theorem DU {t:TypeId}(hm:Lf P t=true)(x k:Value)(ok:Bool):bj P π N V (RV π) (Instr.lookup t x k ok) (Instr.lookup t (Value.ren π x) (Value.ren π k) ok):=by
 unfold Instr.lookup;refine(aE t).bind' fun u u' h=>?_
 obtain⟨rfl,hu⟩:=h;simp only[Lf,hu] at hm;cases u with
 |map kt e=>
  simp only[Bool.and_eq_true] at hm;cases x with
  |map r=>cases r with
   |none=>
    simp only[dl,Option.map_none,pure_bind];refine(mz hm.1 k).bind' fun _ _ _=>?_
    refine(nJ hm.1 k #[].toList).bind' fun r r' h=>?_
    subst h;cases r with
    |some p=>exact aj (by cases ok<;>simp[RV])
    |none=>
     refine(ed hm.2).bind' fun z z' h=>?_
     obtain⟨rfl,n,hn⟩:=h;exact aj (by cases ok<;>simp[RV,ej hn])
   |some r=>
    simp only[dl,Option.map_some];refine bj.getObj (k:=fun x=>_) fun o ho=>?_
    cases o with
    |map es c=>
     have e1:(es.map (lI π)).isEmpty=es.isEmpty:=by simp[Array.isEmpty]
     have e2:(es.map (lI π)).toList=es.toList.map (lI π):=Array.toList_map;simp only[dw,Sem.bind,pure_bind,e1,e2];refine(mz hm.1 k).bind' fun _ _ _=>?_
     refine(nJ hm.1 k _).bind' fun r r' h=>?_
     subst h;cases r with
     |some p=>exact aj (by cases ok<;>simp[RV])
     |none=>
      refine(ed hm.2).bind' fun z z' h=>?_
      obtain⟨rfl,n,hn⟩:=h;exact aj (by cases ok<;>simp[RV,ej hn])
    |_=>first|exact ho.elim|exact ai
  |_=>exact ai
 |_=>exact ai
theorem sm (hi:∀i j,π i=π j->i=j)(old new:Value):bj P π N V (RV π) (Instr.keyThatStays old new) (Instr.keyThatStays (Value.ren π old) (Value.ren π new)):=by
 unfold Instr.keyThatStays;rw[zZ hi];refine cD (aj rfl) (io.bind' fun c c' h=>?_);subst h;exact aj (by by_cases h:c=0<;>simp[RV,h])
theorem Eu (es:Array MapEntry)(i:Nat)(k v:Value):(es.modify i fun e=>{e with key:=k,val:=v}).map (lI π)=(es.map (lI π)).modify i fun e=>{e with key:=Value.ren π k,val:=Value.ren π v}:=by
 apply Array.ext
 .simp
 .intro j h1 h2
  simp only[Array.getElem_map,Array.getElem_modify];split<;>rfl
theorem xV (hi:∀i j,π i=π j->i=j){t:TypeId}(hm:Lf P t=true)(x k v:Value):bj P π N V Eq (Instr.mapUpdate t x k v) (Instr.mapUpdate t (Value.ren π x) (Value.ren π k) (Value.ren π v)):=by
 unfold Instr.mapUpdate;refine(aE t).bind' fun u u' h=>?_
 obtain⟨rfl,hu⟩:=h;simp only[Lf,hu] at hm;cases u with
 |map kt e=>
  simp only[Bool.and_eq_true] at hm;cases x with
  |map r=>cases r with
   |none=>simp only[dl];exact si
   |some r=>
    simp only[dl,Option.map_some];refine bj.getObj (k:=fun x=>_) fun o ho=>?_
    cases o with
    |map es c=>
     have e2:(es.map (lI π)).toList=es.toList.map (lI π):=Array.toList_map;simp only[dw,Sem.bind,e2];refine(mz hm.1 k).bind' fun _ _ _=>?_
     refine(nJ hm.1 k _).bind' fun q q' h=>?_
     subst h;cases q with
     |some p=>
      obtain⟨i,pv⟩:=p;have e3:(((es.map (lI π))[i]?).map (·.key)).getD (Value.ren π k)=Value.ren π (((es[i]?).map (·.key)).getD k):=by
       rw[Array.getElem?_map];cases es[i]? <;>rfl
      simp only[Option.map_some,e3];refine(sm hi _ k).bind' fun kk kk' h=>?_
      rw[show kk'=_ from h,<-Eu];exact bj.setObj (o:= .map (es.modify i fun e=>{e with key:=kk,val:=v}) c) trivial (fun _ h=>h.elim) (.pure rfl)
     |none=>
      simp only[Option.map_none];have:=bj.setObj (P:=P) (π:=π) (N:=N) (V:=fun i=>V i\/i=r\/inner (.map es c) i) (R:=Eq) (r:=r) (o:= .map (es.push {key:=k,val:=v,born:=c}) (c+1)) (k:=Sem.pure ()) (k':=Sem.pure ()) trivial (fun _ h=>h.elim) (.pure rfl);simp only[dw,Array.map_push] at this;exact this
    |_=>first|exact ho.elim|exact ai
  |_=>exact ai
 |_=>exact ai
theorem Hl {t:TypeId}(x:Value):bj P π N V (RV π) (Instr.range t x) (Instr.range t (Value.ren π x)):=by
 unfold Instr.range;refine(aE t).bind' fun u u' h=>?_
 obtain⟨rfl,hu⟩:=h;have nw:∀(V:Nat->Prop) (o:Obj),nh o->(∀i,¬inner o i)->bj P π N V (RV π) (newObj o>>=fun b=>Pure.pure (.pointer (some ⟨b,0,none⟩)):Sem Value) (newObj (dw π o)>>=fun b=>Pure.pure (.pointer (some ⟨b,0,none⟩)):Sem Value):=fun V o h1 h2=>
  bj.new (o:=o) h1 (fun i h=>(h2 i h).elim) fun b _=> .pure (by simp[RV,bh])
 cases u with
 |string=>cases x with
  |string s=>simp only[bv,pure_bind];exact nw _ (.stringIter s 0) trivial (fun _ h=>h)
  |_=>exact fB
 |map k e=>cases x with
  |map r=>cases r with
   |none=>simp only[dl,pure_bind];exact nw _ (.mapIter none 0 #[] 0) trivial (fun _ h=>h)
   |some r=>
    simp only[dl,Option.map_some];refine bj.getObj (k:=fun x=>_) fun o ho=>?_
    cases o with
    |map es c=>simp only[dw,Sem.bind,pure_bind];exact nw _ (.mapIter (some r) c #[] c) trivial (fun _ h=>h)
    |_=>first|exact ho.elim|exact ai
  |_=>exact fB
 |_=>exact fB
theorem Ke (it:Value)(t:TypeId):bj P π N V (RV π) (Instr.next it true t) (Instr.next (Value.ren π it) true t):=by
 unfold Instr.next;have ov:∀V:Nat->Prop,bj P π N V (RV π) (Pure.pure (.tuple #[.bool false])) (Pure.pure (.tuple #[.bool false])):=fun _=>aj (by simp[RV])
 cases it with
 |pointer a=>cases a with
  |none=>exact ai
  |some a=>
   obtain⟨r,off,sp⟩:=a;cases off with
   |succ n=>exact ai
   |zero=>
    simp only[aT,Option.map_some,bh];refine bj.getObj (k:=fun x=>_) fun o ho=>?_
    cases o with
    |stringIter s pos=>
     simp only[dw,Sem.bind];refine cD ?_ (ov _);exact bj.setObj (o:= .stringIter s (pos+(Utf8.decode s pos).2)) trivial (fun _ h=>h.elim) (.pure (by simp[RV,goInt]))
    |mapIter m since seen st=>
     simp only[dw,Sem.bind];cases m<;>exact ai
    |_=>first|exact ho.elim|exact ai
 |_=>exact ai
end
section
variable {P:Program}{π:Nat->Nat}{N V:Nat->Prop}
theorem xW {t:TypeId}(hz:NJ P t=true)(l c:Value):bj P π N V (RV π) (Instr.makeSlice t l c) (Instr.makeSlice t (Value.ren π l) (Value.ren π c)):=by
 unfold Instr.makeSlice;refine(aE t).bind' fun u u' h=>?_
 obtain⟨rfl,hu⟩:=h;cases u with
 |slice elem=>
  have Ww:zf P elem=true:=by simpa [NJ,hu] using hz
  refine(j9 l).bind' fun a _ h=>?_
  subst h;refine(j9 c).bind' fun b _ h=>?_
  subst h;refine(d7 elem).bind' fun i _ h=>?_
  obtain⟨rfl,_⟩:=h;dsimp only;refine cD ?_ ?_
  .refine cD qG (cD qG ?_)
   exact .dead (tR fun n=>by simp only[Sem.bind];exact Dead.bind _ (du _))
  .refine(nO _).bind' fun _ _ _=>?_
   refine(cH elem).bind' fun n _ h=>?_
   obtain⟨rfl,_⟩:=h;have fin:∀z:Array Value,z.map (Value.ren π)=z->∀k x y,bj P π N V (RV π) (newRow elem ((Array.range k).map fun i=>z[i%z.size]!)>>=fun a=>Pure.pure (.slice (some a) x y)) (newRow elem ((Array.range k).map fun i=>z[i%z.size]!)>>=fun a=>Pure.pure (.slice (some a) x y)):=by
    intro z hz k x y;have key:=ko (P:=P) (π:=π) (N:=N) (V:=V) elem ((Array.range k).map fun i=>z[i%z.size]!);rw[kv z hz] at key;exact key.bind' fun a a' h=>by rw[show a'=_ from h];exact aj (by simp[RV])
   refine cD ?_ ?_
   .exact fin #[] (by simp) _ _ _
   .refine(ed Ww).bind' fun z _ h=>?_
    obtain⟨rfl,k,hk⟩:=h;exact fin _ (by rw[<-iF,ej hk]) _ _ _
 |_=>exact ai
theorem Kf (x y:Value):bj P π N V (RV π) (Builtin.min2 x y) (Builtin.min2 (Value.ren π x) (Value.ren π y)):=by
 unfold Builtin.min2;cases x with
 |int k a=>cases y with
  |int k' b=>simp only[cq];exact dD (lZ trivial)
  |pointer p=>cases p<;>first|exact ai|exact aG trivial
  |_=>exact ai
 |float k a=>cases y with
  |float k' b=>
   simp only[dj];refine dD ?_;split
   .exact gp pqc fun _ _=>lZ trivial
   all_goals exact lZ trivial
  |pointer p=>cases p<;>first|exact ai|exact aG trivial
  |_=>exact ai
 |string a=>cases y with
  |string b=>simp only[bv];exact dD (gp (tA _ _ _) fun v _=>gp (y4 v) fun b _=>by cases b<;>exact lZ trivial)
  |pointer p=>cases p<;>first|exact ai|exact aG trivial
  |_=>exact ai
 |pointer p=>cases p with
  |some a=>exact aG trivial
  |none=>cases y with
   |pointer p=>cases p<;>first|exact ai|exact aG trivial
   |_=>exact ai
 |_=>cases y with
  |pointer p=>cases p<;>first|exact ai|exact aG trivial
  |_=>exact ai
theorem vA {f f':Value->Value->Sem Value}(hf:∀x y,bj P π N V (RV π) (f x y) (f' (Value.ren π x) (Value.ren π y))):∀(l:List Value) (x:Value),bj P π N V (RV π) (l.foldlM f x) ((l.map (Value.ren π)).foldlM f' (Value.ren π x))
 |[],x=>aj rfl
 |y::l,x=>by
  simp only[List.foldlM_cons,List.map_cons];refine(hf x y).bind' fun z z' h=>?_
  rw[show z'=_ from h];exact vA hf l z
theorem Oy {ats:Array TypeId}{t:TypeId}{args:Array Value}:bj P π N V (RV π) (Builtin.min_ ats t args) (Builtin.min_ ats t (args.map (Value.ren π))):=by
 unfold Builtin.min_;rw[Array.toList_map];cases args.toList with
 |nil=>exact ai
 |cons x l=>exact vA Kf l x
theorem pz:∀(n:Nat) (a:Addr) (acc:ByteArray),bj P π N V Eq (loadBytes a acc n) (loadBytes (bh π a) acc n)
 |0,a,acc=>aj rfl
 |n+1,a,acc=>by
  simp only[loadBytes];refine(nI a).bind' fun v v' h=>?_
  rw[show v'=_ from h];cases v with
  |int k m=>
   simp only[cq];cases k<;>first|exact ai|(rw[<-iP];exact pz n _ _)
  |_=>exact ai
theorem vE {α:Type}{R:α->α->Prop}{f f':Array Value->Sem α}{args:Array Value}(h1:∀x y,args=#[x,y]->bj P π N V R (f #[x,y]) (f' #[Value.ren π x,Value.ren π y]))(h2:args.size≠2->bj P π N V R (f args) (f' (args.map (Value.ren π)))):bj P π N V R (f args) (f' (args.map (Value.ren π))):=by
 obtain⟨l⟩:=args
 match l with
 |[x,y]=>simpa using h1 x y rfl
 |[]=>exact h2 (by simp)
 |[_]=>exact h2 (by simp)
 |_::_::_::_=>exact h2 (by simp)
theorem sf {ats:Array TypeId}{t:TypeId}{args:Array Value}(hN:∀r,V r->¬N r)(hv:∀v∈args,VV V v):bj P π N V (RV π) (Builtin.unsafeString_ ats t args) (Builtin.unsafeString_ ats t (args.map (Value.ren π))):=by
 refine vE (f:=Builtin.unsafeString_ ats t) (f':=Builtin.unsafeString_ ats t) (fun x y he=>?_) fun h=>?_
 .subst he
  unfold Builtin.unsafeString_;cases x with
  |pointer p=>
   have e:Value.ren π (.pointer p)= .pointer (p.map (bh π)):=aT _;rw[e];refine(j9 y).bind' fun n _ h=>?_
   subst h;cases ats[0]? with
   |none=>exact ai
   |some pt=>
    refine cD qG (cD (aG trivial) ?_);cases p with
    |none=>exact cD (aj (by simp[RV])) si
    |some a=>
     have hva:V a.block:=(hv _ (by simp)).ptr;refine cD (aj (by simp[RV])) ?_;refine(vB pt).bind' fun e _ h=>?_
     subst h;refine(m6 hva).bind' fun b _ h=>?_
     subst h;refine cD ?_ (aG trivial);refine(pz _ a _).bind' fun s _ h=>?_
     subst h;exact bj.freeze hva (hN _ hva) (aj (by simp[RV]))
  |_=>exact ai
 .obtain⟨l⟩:=args
  match l,h with
  |[],_=>exact ai
  |[_],_=>exact ai
  |[_,_],h=>exact absurd rfl h
  |_::_::_::_,_=>exact ai
theorem pn {ats:Array TypeId}{t:TypeId}{args:Array Value}(hv:∀v∈args,VV V v):bj P π N V (RV π) (Builtin.unsafeSliceData_ ats t args) (Builtin.unsafeSliceData_ ats t (args.map (Value.ren π))):=by
 obtain⟨l⟩:=args
 match l,hv with
 |[],_=>exact ai
 |[x],hv=>
  cases x with
  |slice p n c=>
   have e:(Array.mk [Value.slice p n c]).map (Value.ren π)=#[.slice (p.map (bh π)) n c]:=by simp
   rw[e];unfold Builtin.unsafeSliceData_;cases p with
   |none=>exact aj (by simp[RV])
   |some a=>
    have hva:V a.block:=hv (.slice (some a) n c) (by simp) _ (.slice rfl);refine cD (aj (by simp[RV])) ?_;refine(pZ hva).bind' fun x _ h=>?_
    subst h;cases x with
    |some z=>exact aj (by simp[RV])
    |none=>
     refine(vB t).bind' fun e _ h=>?_
     subst h;exact nF hva
  |_=>exact ai
 |_::_::_,_=>exact ai
theorem xz {α:Type}:∀(a:Ask α) (w:World),(w.ask a).2.heap=w.heap
 |.done a,w=>rfl
 |.ask what range k,w=>by
  simp only[World.ask];split
  .exact xz _ _
  .exact xz _ _
theorem MM {α:Type}{c:Sys}{k:SysRet->Sem α}(h:∀r,Dead P (k r)):Dead P (.sys c k):=by
 intro w hw;have e:(w.sys c).2.heap=w.heap:=by
  unfold World.sys;have:=xz (Kernel.perform c w.os) w;split
  .rfl
  .rename_i r os w' heq
   rw[heq] at this;exact this
 exact h _ _ fun b o hb=>hw b o (by rw[<-e];exact hb)
theorem EZ (v:Value):Dead P (Instr.panic v):=by
 unfold Instr.panic;cases v with
 |iface t v=>exact Dead.halt trivial
 |nilIface=>
  unfold Instr.panicnil;simp only[bind_assoc];refine MM fun r=>?_
  cases r with
  |strings env=>
   refine AG ?_;simp only[pure_bind];exact C6 (Dead.halt trivial) (du _)
  |_=>exact Dead.halt trivial
 |_=>exact Dead.halt trivial
theorem hU:∀(l:List FieldStep) (t:TypeId) (x:Option Value),bj P π N V (fun r r'=>(∃b,r= .error b/\r'= .error b)\/∃t y,r= .ok (t,y)/\r'= .ok (t,y.map (Value.ren π))) (followBlind l t x) (followBlind l t (x.map (Value.ren π)))
 |[],t,x=>aj (.inr ⟨_,_,rfl,rfl⟩)
 |s::l,t,x=>by
  simp only[followBlind];refine(aE s.struct).bind' fun u _ h=>?_
  obtain⟨rfl,_⟩:=h;cases u with
  |struct fs=>
   dsimp only;cases fs[s.index]? with
   |none=>exact ai
   |some f=>
    dsimp only;cases s.deref with
    |true=>cases x with
     |none=>exact aj (.inl ⟨_,rfl,rfl⟩)
     |some x=>cases x with
      |pointer p=>cases p with
       |none=>simp only[Option.map_some,aT];exact aj (.inl ⟨_,rfl,rfl⟩)
       |some a=>simp only[Option.map_some,aT];exact hU l f.type none
      |_=>exact ai
    |false=>cases x with
     |none=>exact hU l f.type none
     |some x=>cases x with
      |agg cs=>
       simp only[Option.map_some,di];refine(kj f.type cs f.offset).bind' fun v v' h=>?_
       obtain⟨rfl,_⟩:=h;exact hU l f.type (some v)
      |_=>exact ai
  |_=>exact ai
theorem qH:∀(n:Nat) (t:TypeId) (v:Value) (name:String),bj P π N V Eq (nilAhead n t v name) (nilAhead n t (Value.ren π v) name)
 |0,_,_,_=>aj rfl
 |n+1,t,v,name=>by
  simp only[nilAhead];refine(d7 t).bind' fun i _ h=>?_
  obtain⟨rfl,_⟩:=h;cases i.methods.find? (fun x=>x.name==name) with
  |none=>exact ai
  |some m=>
   dsimp only;refine(hU _ t (some v)).bind' fun r r' h=>?_
   rcases h with⟨b,rfl,rfl⟩|⟨xt,y,rfl,rfl⟩
   .exact aj rfl
   .dsimp only
    cases m.func with
    |none=>cases y with
     |none=>exact aj rfl
     |some y=>cases y with
      |iface t v=>simp only[Option.map_some,cP];exact qH n t v name
      |nilIface=>simp only[Option.map_some,cI];exact aj rfl
      |_=>exact ai
    |some q=>
     obtain⟨f,b⟩:=q;cases b with
     |true=>cases y<;>exact aj rfl
     |false=>
      refine(aE xt).bind' fun u _ h=>?_
      obtain⟨rfl,_⟩:=h;cases u with
      |pointer e=>cases y with
       |none=>exact aj rfl
       |some y=>cases y with
        |pointer p=>cases p<;>(simp only[Option.map_some,aT];exact aj rfl)
        |_=>simp only[Option.map_some,dA,cq,dj,cQ,bv,aT,dy,cI,bF,dl,dN,cP,di,cO,da];exact aj rfl
      |_=>cases y<;>exact aj rfl
end
section
variable {P:Program}{π:Nat->Nat}{N V:Nat->Prop}
theorem DW (v:Value):bj P π N V Eq (Extern.Bytes.asByte v) (Extern.Bytes.asByte (Value.ren π v)):=by
 unfold Extern.Bytes.asByte;cases v with
 |int k n=>simp only[cq];cases k<;>first|exact ai|exact aj rfl
 |_=>exact ai
theorem nG:∀(n:Nat) (a:Addr) (acc:ByteArray),bj P π N V Eq (Extern.Bytes.loadBytes a n acc) (Extern.Bytes.loadBytes (bh π a) n acc)
 |0,a,acc=>aj rfl
 |n+1,a,acc=>by
  simp only[Extern.Bytes.loadBytes];refine(nI a).bind' fun v v' h=>?_
  rw[show v'=_ from h];cases v with
  |int k m=>
   simp only[cq];cases k<;>first|exact ai|(rw[<-iP];exact nG n _ _)
  |_=>exact ai
theorem nN (v:Value):bj P π N V Eq (Extern.Bytes.bytesOf v) (Extern.Bytes.bytesOf (Value.ren π v)):=by
 unfold Extern.Bytes.bytesOf;cases v with
 |string s=>simp only[bv];exact aj rfl
 |slice a n c=>
  simp only[bF];cases a with
  |none=>exact aj rfl
  |some a=>exact nG n a _
 |_=>exact ai
theorem zR (args:Array Value):bj P π N V (RV π) (Extern.AbiNoEscape.same args) (Extern.AbiNoEscape.same (args.map (Value.ren π))):=by
 obtain⟨l⟩:=args
 match l with
 |[]=>exact ai
 |[x]=>
  have e:(Array.mk [x]).map (Value.ren π)=#[Value.ren π x]:=by simp
  rw[e];exact aj rfl
 |_::_::_=>exact ai
theorem xX (args:Array Value):bj P π N V (RV π) (Extern.BytealgIndexByte.indexByte args) (Extern.BytealgIndexByte.indexByte (args.map (Value.ren π))):=by
 refine vE (f:=Extern.BytealgIndexByte.indexByte) (f':=Extern.BytealgIndexByte.indexByte) (fun x y he=>?_) fun h=>?_
 .refine(nN x).bind' fun b _ h=>?_
  subst h;refine(DW y).bind' fun c _ h=>?_
  subst h;cases (List.range b.size).find? fun i=>b[i]! ==c with
  |none=>exact aj (by simp[RV,goInt])
  |some i=>exact aj (by simp[RV,goInt])
 .obtain⟨l⟩:=args
  match l,h with
  |[],_=>exact ai
  |[_],_=>exact ai
  |[_,_],h=>exact absurd rfl h
  |_::_::_::_,_=>exact ai
theorem vv (h0:π 0=0)(hP1:P.globals.size<=1)(name:String):bj P π N V (RA π) (globalAddr name) (globalAddr name):=by
 unfold globalAddr;refine cy.bind' fun z z' h=>?_
 rw[h.1,h.2];cases h:P.globals.findIdx? fun x=>x.name==name with
 |none=>exact ai
 |some g=>
  have hg:g<P.globals.size:=by
   have:=Array.findIdx?_eq_some_iff_findIdx_eq.1 h;exact this.1
  have:g=0:=by omega
  subst this;exact aj (by simp[RA,bh,h0])
theorem zT (h0:π 0=0)(hP1:P.globals.size<=1)(args:Array Value):bj P π N V (RV π) (Extern.BytealgIndex.index args) (Extern.BytealgIndex.index (args.map (Value.ren π))):=by
 refine vE (f:=Extern.BytealgIndex.index) (f':=Extern.BytealgIndex.index) (fun x y he=>?_) fun h=>?_
 .refine(nN x).bind' fun a _ h=>?_
  subst h;refine(nN y).bind' fun b _ h=>?_
  subst h;have hm:bj P π N V Eq Extern.BytealgIndex.maxLen Extern.BytealgIndex.maxLen:=by
   unfold Extern.BytealgIndex.maxLen;refine(vv h0 hP1 _).bind' fun g g' h=>?_
   rw[show g'=_ from h];refine(nI g).bind' fun v v' h=>?_
   rw[show v'=_ from h];exact j9 v
  refine hm.bind' fun m _ h=>?_
  subst h;refine cD (aG trivial) (cD (aG trivial) ?_);cases (List.range (a.size+1-b.size)).find? fun i=>a.extract i (i+b.size)==b with
  |none=>exact aj (by simp[RV,goInt])
  |some i=>exact aj (by simp[RV,goInt])
 .obtain⟨l⟩:=args
  match l,h with
  |[],_=>exact ai
  |[_],_=>exact ai
  |[_,_],h=>exact absurd rfl h
  |_::_::_::_,_=>exact ai
theorem xd:∀(n t:Nat) (acc:Array Value),(Extern.BytealgMakeNoZero.digits n t acc).map (Value.ren π)=Extern.BytealgMakeNoZero.digits n t (acc.map (Value.ren π))
 |0,_,_=>rfl
 |n+1,t,acc=>by
  simp only[Extern.BytealgMakeNoZero.digits];rw[xd n,Array.map_push,cq]
theorem vu (ps rs:Array TypeId)(args:Array Value):bj P π N V (RV π) (Extern.BytealgMakeNoZero.makeNoZero ps rs args) (Extern.BytealgMakeNoZero.makeNoZero ps rs (args.map (Value.ren π))):=by
 obtain⟨l⟩:=args
 match l with
 |[]=>exact ai
 |[x]=>
  cases x with
  |int k n=>
   have e:(Array.mk [Value.int k n]).map (Value.ren π)=#[.int k n]:=by simp
   rw[e];cases k with
   |i64=>
    unfold Extern.BytealgMakeNoZero.makeNoZero;cases rs[0]? with
    |none=>exact ai
    |some t=>
     refine(aE t).bind' fun u _ h=>?_
     obtain⟨rfl,_⟩:=h;cases u with
     |slice elem=>
      refine cD qG ?_;refine io.bind' fun c _ h=>?_
      subst h;refine(nO _).bind' fun _ _ _=>?_
      refine io.bind' fun b _ h=>?_
      subst h;have key:=ko (P:=P) (π:=π) (N:=N) (V:=V) elem (Extern.BytealgMakeNoZero.digits c b #[]);rw[xd,Array.map_empty] at key;refine key.bind' fun a a' h=>?_
      rw[show a'=_ from h];exact aj (by simp[RV])
     |_=>exact ai
   |_=>exact ai
  |_=>exact ai
 |_::_::_=>exact ai
def RN (π:Nat->Nat)(S:FuncId->Bool):Next->Next->Prop
 |.value v,n'=>n'= .value (Value.ren π v)
 |.skip,n'=>n'= .skip
 |.enter f ae,n'=>n'= .enter f (ae.map (Value.ren π))/\S f=true
 |_,_=>False
def ng:Operand->Bool
 |.tmp _|.func _=>true
 |.const v=>jb 8 v
 |.global _=>false
def Ak:Operand->Bool
 |.const (.pointer none)=>true
 |_=>false
def K5 (P:Program)(S E:FuncId->Bool)(str:Bool)(c:Call):Bool:=match c.callee with
 |.builtin b=>(match b with
  |.len|.cap|.copy|.min=>true
  |.unsafeSliceData|.unsafeString=>str
  |.append=>Yh P c.argTypes
  |.clear=>(match c.argTypes[0]? with|some t=>NJ P t|none=>true)
  |_=>false)
 |.value (.func f)=>S f||E f
 |_=>false
def K3 (P:Program)(S E:FuncId->Bool)(str:Bool):Op->Bool
 |.move _|.assign _|.pick _ _ _|.box _ _|.load _ _|.store _ _ _|.nilCheck _|.unOp _ _ _|.makeInterface _ _|.makeMap _ _
 |.field _ _ _|.indexAddr _ _ _|.index _ _ _|.range _ _|.extract _ _|.panic _=>true
 |.next _ b=>b
 |.alloc t|.build t _=>zf P t
 |.buildSlice t _ _|.makeSlice t _ _=>NJ P t
 |.binOp op t x y _=>(match op with
  |.eql|.neq=>((eqTy P 20 t||(str&&k9 P t))&&!P.eqGuardType P.depth t)||Ak x||Ak y
  |_=>true)
 |.convert s d _=>XZ P s d
 |.slice t _ _ _ _=>(match P.underlying t with|some (.pointer _)=>false|_=>true)
 |.fieldAddr s _ f=>L5 P s f
 |.lookup t _ _ _|.mapUpdate t _ _ _=>Lf P t
 |.call c=>K5 P S E str c
 |_=>false
def lK (P:Program)(S E:FuncId->Bool)(str:Bool)(o:Oper):Bool:=K3 P S E str o.op&&o.op.operands.all ng
structure Yj (P:Program)(π:Nat->Nat)(N:Nat->Prop)(S E:FuncId->Bool)(str:Bool)(V:Nat->Prop):Prop where
 inj:∀i j,π i=π j->i=j
 zero:π 0=0
 ye:P.globals.size<=1
 body:∀f,S f=true->∃fn,P.funcs[f]? =some fn/\(fn.name== "runtime.NumGoroutine")=false/\fn.body.isSome=true
 ext:∀f,E f=true->∀(args:Array Value) (V:Nat->Prop),bj P π N V (RN π S) (callFunc f args) (callFunc f (args.map (Value.ren π)))
 str:str=true->∀r,V r->¬N r
theorem eH {S:FuncId->Bool}{s s':Sem Value}(h:bj P π N V (RV π) s s'):bj P π N V (RN π S) (do Pure.pure (.value (<-s)):Sem Next) (do Pure.pure (.value (<-s')):Sem Next):=h.bind' fun v v' h=>by rw[show v'=_ from h];exact aj rfl
theorem RI {S:FuncId->Bool}{s s':Sem Unit}(h:bj P π N V Eq s s'):bj P π N V (RN π S) (do s;Pure.pure .skip:Sem Next) (do s';Pure.pure .skip:Sem Next):=h.bind' fun _ _ _=>aj rfl
theorem zV {S E:FuncId->Bool}{str:Bool}(h:Yj P π N S E str V){f:FuncId}(hf:S f=true\/E f=true)(args:Array Value):bj P π N V (RN π S) (callFunc f args) (callFunc f (args.map (Value.ren π))):=by
 rcases hf with hf|hf
 .obtain⟨fn,h1,h2,h3⟩:=h.body f hf
  unfold callFunc;refine cy.bind' fun z z' h=>?_
  rw[h.1,h.2,h1];dsimp only;have h4:fn.body.isNone=false:=by cases hb:fn.body<;>simp_all
  rw[h2,h4];exact aj ⟨rfl,hf⟩
 .exact h.ext f hf args V
theorem mr {S:FuncId->Bool}{f:FuncId}{fn:Func}{e:Array Value->Sem Value}(hf:P.funcs[f]? =some fn)(h2:(fn.name== "runtime.NumGoroutine")=false)(h3:fn.body.isNone=true)(hn:Extern.findNext fn=none)(he:Extern.find fn=some e){args:Array Value}
  (h:bj P π N V (RV π) (e args) (e (args.map (Value.ren π)))):bj P π N V (RN π S) (callFunc f args) (callFunc f (args.map (Value.ren π))):=by
 unfold callFunc;refine cy.bind' fun z z' h'=>?_
 rw[h'.1,h'.2,hf];dsimp only;rw[h2,h3,hn];refine bj.mark (m:= .extern f) trivial ?_;show bj P π N V _ (match Extern.find fn with|some e=>_|none=>_) (match Extern.find fn with|some e=>_|none=>_);rw[he];exact eH h
theorem Ri {xs:Array Operand}(h:xs.all ng=true){x:Operand}(hx:x∈xs):ng x=true:=Array.all_eq_true_iff_forall_mem.1 h x hx
theorem p5 {S E:FuncId->Bool}{str:Bool}(h:Yj P π N S E str V){ρ ρ':Operand->Value}{o:Oper}(hok:lK P S E str o=true)
  (hρ:∀x∈o.op.operands,ng x=true->ρ' x=Value.ren π (ρ x)/\VV V (ρ x)) (hf:∀f,ρ (.func f)= .func (.func f) #[] #[]/\ρ' (.func f)= .func (.func f) #[] #[]) (hc:∀v,ρ (.const v)=v):
  bj P π N V (RN π S) (execOp ρ o) (execOp ρ' o):=by
 obtain⟨dst,op,ty,pos,after,guard⟩:=o;simp only[lK,Bool.and_eq_true] at hok;obtain⟨hop,hall⟩:=hok;have hx:∀x∈op.operands,ρ' x=Value.ren π (ρ x)/\VV V (ρ x):=fun x hx=>hρ x hx (Ri hall hx)
 clear hρ hall;unfold execOp;cases op with
 |move x=>dsimp only;rw[(hx x (by simp[Op.operands])).1];exact aj rfl
 |assign x=>dsimp only;rw[(hx x (by simp[Op.operands])).1];exact aj rfl
 |pick c a b=>
  dsimp only;rw[(hx c (by simp[Op.operands])).1,(hx a (by simp[Op.operands])).1,(hx b (by simp[Op.operands])).1];refine(DY _).bind' fun t _ h=>?_
  subst h;exact aj (by cases t<;>rfl)
 |alloc t=>exact eH (Hu hop)
 |box t x=>dsimp only;rw[(hx x (by simp[Op.operands])).1];exact eH (OB t _)
 |build t ps=>
  dsimp only;have:(ps.map fun p=>(p.1,ρ' p.2))=(ps.map fun p=>(p.1,ρ p.2)).map fun p=>(p.1,Value.ren π p.2):=by
   rw[Array.map_map];exact Array.map_congr_left fun p hp=>by simp only[Function.comp];rw[(hx p.2 (by simp[Op.operands];exact⟨p.1,hp⟩)).1]
  rw[this];exact eH (Hr hop _)
 |buildSlice t n ps=>
  dsimp only;have:(ps.map fun p=>(p.1,ρ' p.2))=(ps.map fun p=>(p.1,ρ p.2)).map fun p=>(p.1,Value.ren π p.2):=by
   rw[Array.map_map];exact Array.map_congr_left fun p hp=>by simp only[Function.comp];rw[(hx p.2 (by simp[Op.operands];exact⟨p.1,hp⟩)).1]
  rw[this];exact eH (vC hop n _)
 |load t x=>dsimp only;rw[(hx x (by simp[Op.operands])).1];exact eH (DV t _)
 |store t x y=>dsimp only;rw[(hx x (by simp[Op.operands])).1,(hx y (by simp[Op.operands])).1];exact RI (BB t _ _)
 |nilCheck x=>
  dsimp only;rw[(hx x (by simp[Op.operands])).1];generalize ρ x=v;have hp:∀v:Value,bj P π N V (RN π S) (Pure.pure (.value v)) (Pure.pure (.value (Value.ren π v))):=fun v=>aj rfl
  cases v with
  |pointer p=>cases p with
   |none=>exact si
   |some a=>have:=hp (.pointer (some a));simp only[aT,Option.map_some] at this⊢;exact this
  |nilIface=>exact si
  |nilFunc=>exact si
  |func fn first Fg=>
   have hf:=hp (.func fn first Fg);cases fn with
   |method name=>
    simp only[da,nZ,Array.getElem?_map] at hf⊢;cases first[0]? with
    |none=>exact hf
    |some w=>
     simp only[Option.map_some];cases w with
     |nilIface=>exact si
     |iface t w=>
      simp only[cP];refine cy.bind' fun z z' h=>?_
      rw[h.1,h.2];refine(qH _ t w name).bind' fun r _ h=>?_
      subst h;exact cD (aG trivial) hf
     |_=>simp only[dA,cq,dj,cQ,bv,aT,dy,cI,bF,dl,dN,cP,di,cO,da];exact hf
   |_=>simp only[da,nZ] at hf⊢;exact hf
  |bool b=>have:=hp (.bool b);simp only[dA] at this⊢;exact this
  |int k n=>have:=hp (.int k n);simp only[cq] at this⊢;exact this
  |float k n=>have:=hp (.float k n);simp only[dj] at this⊢;exact this
  |complex k n m=>have:=hp (.complex k n m);simp only[cQ] at this⊢;exact this
  |string s=>have:=hp (.string s);simp only[bv] at this⊢;exact this
  |slice a n m=>have:=hp (.slice a n m);simp only[bF] at this⊢;exact this
  |map r=>have:=hp (.map r);simp only[dl] at this⊢;exact this
  |chan r=>have:=hp (.chan r);simp only[dN] at this⊢;exact this
  |iface t w=>have:=hp (.iface t w);simp only[cP] at this⊢;exact this
  |agg cs=>have:=hp (.agg cs);simp only[di] at this⊢;exact this
  |tuple cs=>have:=hp (.tuple cs);simp only[cO] at this⊢;exact this
 |binOp op t x y t2=>
  dsimp only;have ex:=hx x (by simp[Op.operands]);have ey:=hx y (by simp[Op.operands]);have nl:∀z,Ak z=true->ρ z= .pointer none:=fun z hz=>by
   unfold Ak at hz;split at hz
   .exact hc _
   .cases hz
  have hq:op= .eql\/op= .neq->((eqTy P 20 t=true\/(str&&k9 P t)=true)/\P.eqGuardType P.depth t=false)\/ρ x= .pointer none\/ρ y= .pointer none:=by
   rintro(rfl|rfl)
   all_goals
    simp only[K3,Bool.or_eq_true,Bool.and_eq_true,Bool.not_eq_true'] at hop;rcases hop with(h1|h1)|h1
    .exact .inl ⟨h1.1.imp id fun h=>by simp[h.1,h.2],h1.2⟩
    .exact .inr (.inl (nl x h1))
    .exact .inr (.inr (nl y h1))
  rw[ex.1,ey.1];refine eH ((BI (n:=20) fun e=>(hq e).imp (fun h=>⟨h.1.imp id fun h=>by simp only[Bool.and_eq_true] at h;exact h.2,h.2⟩) id).bind' fun _ _ _=>Hs (pe:=str) (n:=20) h.str h.zero h.inj h.ye (fun e=>?_) ex.2 ey.2);rcases hq e with h1|h1
  .exact h1.1.imp id .inr
  .exact .inr (.inl h1)
 |unOp op t x=>dsimp only;rw[(hx x (by simp[Op.operands])).1];exact eH KO
 |convert a b x=>dsimp only;rw[(hx x (by simp[Op.operands])).1];exact eH (BJ hop (hx x (by simp[Op.operands])).2)
 |makeInterface t x=>dsimp only;rw[(hx x (by simp[Op.operands])).1];exact eH (qI t _)
 |makeMap t r=>
  dsimp only;have:r.map ρ'=(r.map ρ).map (Value.ren π):=by
   cases r with
   |none=>rfl
   |some x=>simp[(hx x (by simp[Op.operands])).1]
  rw[this];exact eH (BE t _)
 |makeSlice t x y=>dsimp only;rw[(hx x (by simp[Op.operands])).1,(hx y (by simp[Op.operands])).1];exact eH (xW hop _ _)
 |slice t x l hh m=>
  dsimp only;have ho:∀z:Option Operand,(∀y,z=some y->y∈(Op.slice t x l hh m).operands)->z.map ρ'=(z.map ρ).map (Value.ren π):=fun z hz=>by
   cases z with
   |none=>rfl
   |some y=>simp[(hx y (hz y rfl)).1]
  rw[(hx x (by simp[Op.operands])).1,ho l (fun y e=>by simp[Op.operands,e]),ho hh (fun y e=>by simp[Op.operands,e]),ho m (fun y e=>by simp[Op.operands,e])];refine eH (BC t _ _ _ _ fun e he=>?_);simp[K3,he] at hop
 |fieldAddr t x f=>dsimp only;rw[(hx x (by simp[Op.operands])).1];exact eH (BG hop _)
 |field t x f=>dsimp only;rw[(hx x (by simp[Op.operands])).1];exact eH (Ho t _ f)
 |indexAddr t x y=>dsimp only;rw[(hx x (by simp[Op.operands])).1,(hx y (by simp[Op.operands])).1];exact eH (BF t _ _)
 |index t x y=>dsimp only;rw[(hx x (by simp[Op.operands])).1,(hx y (by simp[Op.operands])).1];exact eH (Hm t _ _)
 |lookup t x y ok=>dsimp only;rw[(hx x (by simp[Op.operands])).1,(hx y (by simp[Op.operands])).1];exact eH (DU hop _ _ ok)
 |mapUpdate t m k v=>dsimp only;rw[(hx m (by simp[Op.operands])).1,(hx k (by simp[Op.operands])).1,(hx v (by simp[Op.operands])).1];exact RI (xV h.inj hop _ _ _)
 |range t x=>dsimp only;rw[(hx x (by simp[Op.operands])).1];exact eH (Hl _)
 |next x b=>cases b with
  |false=>cases hop
  |true=>dsimp only;rw[(hx x (by simp[Op.operands])).1];exact eH (Ke _ _)
 |entry _=>cases hop
 |extract x i=>dsimp only;rw[(hx x (by simp[Op.operands])).1];exact eH (BH _ i)
 |panic x=>exact .dead (Dead.bind _ (EZ _))
 |call c=>
  obtain⟨callee,GF,ats⟩:=c;have ha:GF.map ρ'=(GF.map ρ).map (Value.ren π):=by
   rw[Array.map_map];exact Array.map_congr_left fun y hy=>(hx y (by simp[Op.operands,Call.operands,hy])).1
  have hav:∀v∈GF.map ρ,VV V v:=fun v hv=>by
   obtain⟨y,hy,rfl⟩:=Array.mem_map.1 hv;exact(hx y (by simp[Op.operands,Call.operands,hy])).2
  simp only[K3,K5] at hop;dsimp only;unfold resolve;rw[ha];generalize GF.map ρ=vs at hav⊢;cases callee with
  |invoke r m=>simp at hop
  |builtin b=>
   dsimp only at hop;cases b<;>first|(exfalso;simp at hop;done)|skip
   case append=>exact eH (DZ hop)
   case cap=>exact eH OA
   case clear=>exact eH (Hq hop)
   case copy=>exact eH Kg
   case len=>exact eH Oz
   case min=>exact eH Oy
   case unsafeSliceData=>exact eH (pn hav)
   case unsafeString=>exact eH (sf (h.str hop) hav)
  |value f=>
   cases f with
   |func f=>
    dsimp only at hop⊢;rw[(hf f).1,(hf f).2];have e1:∀ws:Array Value,#[]++ws++#[]=ws:=fun ws=>by simp
    have:=zV h (by simpa using hop) vs;show bj P π N V _ (callFunc f (#[]++vs++#[])) (callFunc f (#[]++vs.map (Value.ren π)++#[]));rw[e1,e1];exact this
   |_=>simp at hop
 |_=>simp[K3] at hop
end
section
variable {π:Nat->Nat}
theorem eN:∀(v:Value),(∀r,Value.Has r v->π r=r)->Value.ren π v=v
 |.bool _,_|.int _ _,_|.float _ _,_|.complex _ _ _,_|.string _,_|.nilFunc,_|.nilIface,_=>by simp
 |.pointer a,h=>by
  cases a with
  |none=>simp
  |some a=>simp[bh,h a.block (.ptr rfl)]
 |.slice a n c,h=>by
  cases a with
  |none=>simp
  |some a=>simp[bh,h a.block (.slice rfl)]
 |.map r,h=>by
  cases r with
  |none=>simp
  |some r=>simp[h r .map]
 |.chan r,h=>by
  cases r with
  |none=>simp
  |some r=>simp[h r .chan]
 |.iface t v,h=>by rw[cP,eN v fun r x=>h r (.iface x)]
 |.agg cs,h=>by rw[di,ck fun v hv=>eN v fun r x=>h r (.agg hv x)]
 |.tuple cs,h=>by rw[cO,ck fun v hv=>eN v fun r x=>h r (.tuple hv x)]
 |.func fn f c,h=>by
  rw[da,ck fun v hv=>eN v fun r x=>h r (.first hv x),ck fun v hv=>eN v fun r x=>h r (.Fg hv x)];cases fn with
  |yield l=>simp[nZ,h l .yield]
  |_=>rfl
termination_by v=>SizeOf.sizeOf v
decreasing_by
 all_goals first
  |(simp_wf;have:=Array.sizeOf_lt_of_mem ‹_∈_›;omega)
  |(simp_wf;omega)
theorem oT {c:Array Value}{f:Value->Value}(h:c.map f=c){x:Value}(hx:x∈c):f x=x:=by
 obtain⟨i,hi,rfl⟩:=Array.mem_iff_getElem.1 hx;have:=congrArg (·[i]?) h;simp[hi] at this;exact this
theorem mP {r:Nat}{v:Value}(hr:Value.Has r v):Value.ren π v=v->π r=r:=by
 induction hr with
 |ptr h=>intro e;simp[bh] at e;rw[<-h];exact congrArg Addr.block e
 |slice h=>intro e;simp[bh] at e;rw[<-h];exact congrArg Addr.block e
 |map=>intro e;simpa using e
 |chan=>intro e;simpa using e
 |yield=>intro e;simp[nZ] at e;exact e.1
 |first hx _ ih=>intro e;rw[da] at e;injection e with _ e1 _;exact ih (oT e1 hx)
 |Fg hx _ ih=>intro e;rw[da] at e;injection e with _ _ e1;exact ih (oT e1 hx)
 |iface _ ih=>intro e;rw[cP] at e;injection e with _ e1;exact ih e1
 |agg hx _ ih=>intro e;rw[di] at e;injection e with e1;exact ih (oT e1 hx)
 |tuple hx _ ih=>intro e;rw[cO] at e;injection e with e1;exact ih (oT e1 hx)
inductive jQ (r:Nat):Obj->Prop
 |cells {c:Array Value} {t:TypeId} {f:Nat×Nat} {v:Value} (hv:v∈c) (h:Value.Has r v):jQ r (.cells c t f)
 |key {es:Array MapEntry} {c:Nat} {e:MapEntry} (he:e∈es) (h:Value.Has r e.key):jQ r (.map es c)
 |val {es:Array MapEntry} {c:Nat} {e:MapEntry} (he:e∈es) (h:Value.Has r e.val):jQ r (.map es c)
 |iter {a:Nat} {b:Array Nat} {c:Nat}:jQ r (.mapIter (some r) a b c)
 |view {a:Addr} {t:TypeId} (h:a.block=r):jQ r (.view a t)
 |number {a:Addr} {l:Bool} (h:a.block=r):jQ r (.number a l)
theorem nY {o:Obj}(h:∀r,jQ r o->π r=r):dw π o=o:=by
 cases o with
 |cells c t f=>simp only[dw];rw[ck fun v hv=>eN v fun r x=>h r (.cells hv x)]
 |map es c=>
  simp only[dw];have:es.map (lI π)=es:=by
   apply Array.ext
   .simp
   .intro i h1 h2
    rw[Array.getElem_map];unfold lI;rw[eN _ fun r x=>h r (.key (Array.getElem_mem _) x),eN _ fun r x=>h r (.val (Array.getElem_mem _) x)]
  rw[this]
 |mapIter m a b c=>cases m with
  |none=>rfl
  |some r=>simp[dw,h r .iter]
 |view a t=>simp[dw,bh,h a.block (.view rfl)]
 |number a l=>simp[dw,bh,h a.block (.number rfl)]
 |_=>rfl
theorem EQ {r:Nat}{o:Obj}(hr:jQ r o)(h:dw π o=o):π r=r:=by
 cases hr with
 |cells hv x=>simp only[dw] at h;injection h with h1;exact mP x (oT h1 hv)
 |key he x=>
  simp only[dw] at h;injection h with h1;obtain⟨i,hi,rfl⟩:=Array.mem_iff_getElem.1 he;have:=congrArg (·[i]?) h1;simp[hi] at this;exact mP x (congrArg MapEntry.key this)
 |val he x=>
  simp only[dw] at h;injection h with h1;obtain⟨i,hi,rfl⟩:=Array.mem_iff_getElem.1 he;have:=congrArg (·[i]?) h1;simp[hi] at this;exact mP x (congrArg MapEntry.val this)
 |iter=>simpa [dw] using h
 |view x=>simp[dw,bh] at h;rw[<-x];exact congrArg Addr.block h
 |number x=>simp[dw,bh] at h;rw[<-x];exact congrArg Addr.block h
theorem IF {o:Obj}{i:Nat}(h:inner o i):jQ i o:=by
 cases o<;>first|exact h.elim|exact .view h.symm|exact .number h.symm
def sg (r M:Nat)(x:Nat):Nat:=if x=r then M else if M<=x then x+1 else x
theorem Ti {r M:Nat}(hr:r<M):∀i j,sg r M i=sg r M j->i=j:=by
 intro i j h;unfold sg at h;split at h<;>split at h<;>(try split at h)<;>(try split at h)<;>omega
theorem Tj {r M x:Nat}(h:x≠r)(hx:x<M):sg r M x=x:=by unfold sg;rw[if_neg h,if_neg (by omega)]
theorem OD {r M:Nat}(hr:r<M):sg r M r≠r:=by unfold sg;rw[if_pos rfl];omega
end
def gh (H:Nat->Prop)(wL:World)(r:Nat):Prop:=r<wL.heap.size/\¬H r
structure LW (H Z:Nat->Prop)(wL:World):Prop where
 ok:∀(b:Nat) (o:Obj),wL.heap[b]? =some o->¬H b->¬Z b->nh o
 hid:∀(b:Nat) (o:Obj),wL.heap[b]? =some o->H b->o= .cells #[] 1000000 (0,0)
 nu:∀(b:Nat) (o:Obj),wL.heap[b]? =some o->Z b->∃c t,o= .cells c t (0,c.size)
 low:∀b,H b\/Z b->b<wL.heap.size
 apart:∀b,Z b->¬H b
 zero:gh H wL 0
 QT:∀(b:Nat) (o:Obj),wL.heap[b]? =some o->¬H b->∀r,jQ r o->gh H wL r
section
variable {P:Program}{π:Nat->Nat}{H Z:Nat->Prop}{wL w:World}
theorem LW.y8 (h:LW H Z wL):dX wL:=by
 intro b o hb
 by_cases hH:H b
 .rw[h.hid b o hb hH];trivial
 .by_cases hZ:Z b
  .obtain⟨c,t,rfl⟩:=h.nu b o hb hZ;trivial
  .exact h.ok b o hb hH hZ
theorem LW.ax (h:LW H Z wL)(t:dU)(d:Nat):LW H Z (ax wL t d):=⟨h.ok,h.hid,h.nu,h.low,h.apart,h.zero,h.QT⟩
theorem LW.self (h:LW H Z wL){σ:Nat->Nat}(hi:∀i j,σ i=σ j->i=j)(hf:∀i,gh H wL i->σ i=i):WR σ H Z wL wL:=by
 have ob:∀(b:Nat) (o:Obj),wL.heap[b]? =some o->¬H b->σ b=b/\dw σ o=o:=fun b o hb hH=>
  ⟨hf b ⟨(Array.getElem?_eq_some_iff.1 hb).1,hH⟩,nY fun r hr=>hf r (h.QT b o hb hH r hr)⟩
 refine {inj:=hi,tape:=rfl,drawn:=rfl,lt:=fun b hb hH=>by rw[hf b ⟨hb,hH⟩];exact hb,ok:=fun b o hb hH hZ=>⟨h.ok b o hb hH hZ,?_⟩,hid:=h.hid,nu:=fun b o hb hZ=>?_,low:=h.low,xI:=fun b o hb i hin=>?_}
 .obtain⟨e1,e2⟩:=ob b o hb hH
  rw[e1,e2];exact hb
 .obtain⟨e1,e2⟩:=ob b o hb (h.apart b hZ)
  obtain⟨c,t,rfl⟩:=h.nu b o hb hZ;refine⟨c,t,(0,c.size),rfl,?_⟩;rw[e1];simp only[dw] at e2;injection e2 with e3;rw[e3];exact hb
 .by_cases hH:H b
  .rw[h.hid b o hb hH] at hin;exact hin.elim
  .exact h.QT b o hb hH i (IF hin)
theorem tT {α:Type}{R:(Nat->Nat)->α->α->Prop}{s:Sem α}(Sn:P.cellsOf 1000000=0)(h:LW H Z wL)
  (hs:∀σ:Nat->Nat,(∀i j,σ i=σ j->i=j)->(∀i,gh H wL i->σ i=i)->bj P σ (fun b=>H b\/Z b) (gh H wL) (R σ) s s) {x:α} {bD:World} (hr:s.run P wL= .ok x bD):
  LW H Z bD/\wL.heap.size<=bD.heap.size/\∀r,¬gh H bD r->∃σ:Nat->Nat,σ r≠r/\R σ x x:=by
 have hsz:=(hs id (fun _ _ h=>h) (fun _ _=>rfl)).lW h.y8 (fun b hb=>h.low b hb) hr;have ED:∀i,gh H wL i->gh H bD i:=fun i hi=>⟨Nat.lt_of_lt_of_le hi.1 hsz.1,hi.2⟩
 have key:∀σ:Nat->Nat,(∀i j,σ i=σ j->i=j)->(∀i,gh H bD i->σ i=i)->R σ x x/\WR σ H Z bD bD:=by
  intro σ hi hf;have hw:=h.self hi fun i hv=>hf i (ED i hv)
  obtain⟨x',w',es',g1,g2,g3,_,_⟩:=(hs σ hi fun i hv=>hf i (ED i hv)).run Sn (fun b=>Iff.rfl) hw (fun i hv=>hv) hr (fun i hlt=>hf _ ⟨hlt,fun hH=>by have:=h.low _ (.inl hH);omega⟩) (es:=#[]);have g4:=congrArg Prod.fst g1;rw[Sem.runT_fst,hr] at g4;simp only[Result.ok.injEq] at g4;obtain⟨rfl,rfl⟩:=g4;exact⟨g2,g3⟩
 have mv:∀r,¬gh H bD r->∃σ:Nat->Nat,σ r≠r/\(∀i j,σ i=σ j->i=j)/\∀i,gh H bD i->σ i=i:=by
  intro r hr';refine⟨sg r (max (r+1) (bD.heap.size+1)),OD (by omega),Ti (by omega),fun i hi=>Tj (fun e=>hr' (e▸hi)) (by have:=hi.1;omega)⟩
 have w0:=(key id (fun _ _ h=>h) (fun _ _=>rfl)).2;refine⟨⟨fun b o hb hH hZ=>(w0.ok b o hb hH hZ).1,w0.hid,fun b o hb hZ=>?_,w0.low,h.apart,ED 0 h.zero,fun b o hb hH r hr'=>Classical.byContradiction fun hv=>?_⟩,hsz.1,fun r hv=>?_⟩
 .obtain⟨c,t,f,e,_⟩:=w0.nu b o hb hZ
  exact⟨c,t,e⟩
 .obtain⟨σ,m1,m2,m3⟩:=mv r hv
  have hb':σ b=b:=m3 b ⟨(Array.getElem?_eq_some_iff.1 hb).1,hH⟩;have ws:=(key σ m2 m3).2;refine m1 (EQ hr' ?_)
  by_cases hZ:Z b
  .obtain⟨c,t,f,rfl,e⟩:=ws.nu b o hb hZ
   rw[hb',hb] at e;simp only[Option.some.injEq,Obj.cells.injEq] at e;simp only[dw];rw[<-e.1]
  .have:=(ws.ok b o hb hH hZ).2
   rw[hb',hb] at this;exact(Option.some.inj this).symm
 .obtain⟨σ,m1,m2,m3⟩:=mv r hv
  exact⟨σ,m1,(key σ m2 m3).1⟩
end
abbrev kQ:=List (Nat×Value)
def sl (D:kQ):List Nat:=D.map (·.1)
def iR (σ:List Nat):Operand->Bool
 |.tmp t=>!σ.contains t
 |_=>true
def Aj (σ:List Nat)(o:Oper):Bool:=match o.dst with|some t=>!σ.contains t|none=>true
def eB (σ:List Nat)(P:Program)(S E:FuncId->Bool)(str:Bool)(o:Oper):Bool:=lK P S E str o&&(σ.isEmpty||(o.op.operands.all (iR σ)&&Aj σ o))
def eI (σ:List Nat)(P:Program)(S E:FuncId->Bool)(str:Bool):Code->Bool
 |.skip|.exit _|.label _|.ret=>true
 |.region _ ops _=>ops.all (eB σ P S E str)
 |.seq a b=>eI σ P S E str a&&eI σ P S E str b
 |.cond c a b=>(ng c&&iR σ c)&&eI σ P S E str a&&eI σ P S E str b
 |.block _ b|.loop b|.scope b=>eI σ P S E str b
 |.goto _|.refuse _=>true
 |_=>false
def K6 (σ:List Nat)(ops:Array Oper)(o:Oper):Bool:=σ.isEmpty||match o.guard with
 |none=>true
 |some g=>(ops[g.1]?).all (Aj σ)
def bY (σ:List Nat)(P:Program)(S E:FuncId->Bool)(str:Bool):Item->Bool
 |.code c|.inLoop c|.inScope c=>eI σ P S E str c
 |.inBlock _=>true
 |.inRegion ops todo=>todo.all fun i=>(ops[i]?).all fun o=>eB σ P S E str o&&K6 σ ops o
 |_=>false
abbrev wh:=eI []
abbrev Ai:=bY []
theorem od {σ:List Nat}{P:Program}{S E:FuncId->Bool}{str:Bool}{ops:Array Oper}{i:Nat}{rest:List Nat}{o:Oper}(h:bY σ P S E str (.inRegion ops (i::rest))=true)(ho:ops[i]? =some o):eB σ P S E str o=true:=by
 simp only[bY,List.all_cons,Bool.and_eq_true] at h;have:=h.1;rw[ho] at this;simp only[Option.all_some,Bool.and_eq_true] at this;exact this.1
theorem v7 {σ:List Nat}{P:Program}{S E:FuncId->Bool}{str:Bool}{ops:Array Oper}{i:Nat}{rest:List Nat}{o:Oper}(h:bY σ P S E str (.inRegion ops (i::rest))=true)(ho:ops[i]? =some o):K6 σ ops o=true:=by
 simp only[bY,List.all_cons,Bool.and_eq_true] at h;have:=h.1;rw[ho] at this;simp only[Option.all_some,Bool.and_eq_true] at this;exact this.2
theorem jD {σ:List Nat}{P:Program}{S E:FuncId->Bool}{str:Bool}{ops:Array Oper}{i:Nat}{rest:List Nat}(h:bY σ P S E str (.inRegion ops (i::rest))=true):bY σ P S E str (.inRegion ops rest)=true:=by
 simp only[bY,List.all_cons,Bool.and_eq_true] at h⊢;exact h.2
theorem pH {σ:List Nat}{P:Program}{S E:FuncId->Bool}{str:Bool}{ops:Array Oper}{id:Nat}{d:Bool}(h:bY σ P S E str (.code (.region id ops d))=true)(l:List Nat):bY σ P S E str (.inRegion ops l)=true:=by
 have h:ops.all (eB σ P S E str)=true:=h;have h':=Array.all_eq_true_iff_forall_mem.1 h;simp only[bY];refine List.all_eq_true.2 fun i _=>?_
 cases ho:ops[i]? with
 |none=>rfl
 |some o=>
  simp only[Option.all_some,Bool.and_eq_true];refine⟨h' o (Array.mem_of_getElem? ho),?_⟩;unfold K6
  by_cases e:σ.isEmpty=true
  .rw[e];rfl
  .cases o.guard with
   |none=>simp
   |some g=>
    simp only[Bool.or_eq_true];refine .inr ?_;cases hj:ops[g.1]? with
    |none=>rfl
    |some p=>
     have:=h' p (Array.mem_of_getElem? hj);simp only[eB,Bool.and_eq_true,Bool.or_eq_true] at this;exact(this.2.resolve_left e).2
structure Stat (P:Program)(S E:FuncId->Bool)(str:Bool):Prop where
 ye:P.globals.size<=1
 sQ:P.cellsOf 1000000=0
 body:∀f,S f=true->∃fn c,P.funcs[f]? =some fn/\(fn.name== "runtime.NumGoroutine")=false/\fn.body=some c/\wh P S E str c=true
 ext:∀f,E f=true->∀(π:Nat->Nat),(∀i j,π i=π j->i=j)->π 0=0->∀(N V:Nat->Prop) (args:Array Value),bj P π N V (RN π S) (callFunc f args) (callFunc f (args.map (Value.ren π)))
def v6 (D:kQ)(c:Array Value):Array Value:=D.foldl (fun c p=>c.setIfInBounds p.1 p.2) c
def bg (π:Nat->Nat)(a:Act)(D:kQ):Act:={tmps:=v6 D (a.tmps.map (Value.ren π)),defers:=[]}
theorem qV:∀(D:kQ) (c:Array Value) (t:Nat),t∉sl D->(v6 D c)[t]? =c[t]?
 |[],_,_,_=>rfl
 |p::D,c,t,h=>by
  have h1:t≠p.1:=fun e=>h (by simp[sl,e])
  have h2:t∉sl D:=fun e=>h (by simp only[sl,List.map_cons,List.mem_cons];exact .inr e)
  show(v6 D (c.setIfInBounds p.1 p.2))[t]? =_;rw[qV D _ t h2,Array.getElem?_setIfInBounds_ne (fun e=>h1 e.symm)]
theorem Af:∀(D:kQ) (c:Array Value) (t:Nat) (v:Value),t∉sl D->(v6 D c).setIfInBounds t v=v6 D (c.setIfInBounds t v)
 |[],_,_,_,_=>rfl
 |p::D,c,t,v,h=>by
  have h1:t≠p.1:=fun e=>h (by simp[sl,e])
  have h2:t∉sl D:=fun e=>h (by simp only[sl,List.map_cons,List.mem_cons];exact .inr e)
  show(v6 D (c.setIfInBounds p.1 p.2)).setIfInBounds t v=v6 D ((c.setIfInBounds t v).setIfInBounds p.1 p.2);rw[Af D _ t v h2,Array.setIfInBounds_comm _ _ (fun e=>h1 e.symm)]
theorem FV {σ:List Nat}{t:Nat}(h:iR σ (.tmp t)=true):t∉σ:=by simpa [iR] using h
theorem eL {σ:List Nat}{o:Oper}(h:Aj σ o=true):∀t,o.dst=some t->t∉σ:=fun t e=>by
 unfold Aj at h;rw[e] at h;simpa using h
theorem kx {σ:List Nat}{P:Program}{S E:FuncId->Bool}{str:Bool}{o:Oper}(h:eB σ P S E str o=true):lK P S E str o=true/\(∀x∈o.op.operands,iR σ x=true)/\∀t,o.dst=some t->t∉σ:=by
 simp only[eB,Bool.and_eq_true,Bool.or_eq_true] at h;rcases h.2 with e|e
 .have:σ=[]:=by simpa using e
  subst this;exact⟨h.1,fun x _=>by cases x<;>simp[iR],fun t _=>by simp⟩
 .exact⟨h.1,Array.all_eq_true_iff_forall_mem.1 e.1,eL e.2⟩
section
variable {P:Program}{S E:FuncId->Bool}{str:Bool}{π:Nat->Nat}{H Z:Nat->Prop}{wL w:World}
theorem Stat.Th (hS:Stat P S E str)(hi:∀i j,π i=π j->i=j)(h0:π 0=0)(hz:str=true->∀b,¬Z b)(V:Nat->Prop)(hV:∀i,V i->¬H i):Yj P π (fun b=>H b\/Z b) S E str V:=
 {inj:=hi,zero:=h0,ye:=hS.ye
  body:=fun f hf=>by obtain⟨fn,c,h1,h2,h3,_⟩:=hS.body f hf;exact⟨fn,h1,h2,by rw[h3];rfl⟩
  ext:=fun f hf args V=>hS.ext f hf π hi h0 _ V args
  str:=fun hs r hr hn=>hn.elim (hV r hr) (hz hs r)}
theorem jF (c:Array Value)(i:Nat):(c.map (Value.ren π)).getD i undef=Value.ren π (c.getD i undef):=by
 simp only[Array.getD_eq_getD_getElem?,Array.getElem?_map];cases c[i]? <;>simp[undef]
theorem kJ (a:Act)(D:kQ){x:Operand}(hx:ng x=true)(ho:iR (sl D) x=true:=by rfl):(bg π a D).eval x=Value.ren π (a.eval x):=by
 cases x with
 |tmp t=>
  show(v6 D (a.tmps.map (Value.ren π))).getD t undef=_;rw[Array.getD_eq_getD_getElem?,qV D _ t (FV ho),<-Array.getD_eq_getD_getElem?];exact jF _ _
 |const v=>exact(ej hx).symm
 |global g=>cases hx
 |func f=>simp[Act.eval,nZ]
theorem LX:∀{n:Nat} {v:Value},jb n v=true->∀r,¬Value.Has r v:=by
 intro n v h r hr;have:=mP (π:=fun x=>x+1) hr (ej h);omega
theorem lp {V:Nat->Prop}{a:Act}(ha:∀v∈a.tmps,VV V v){x:Operand}(hx:ng x=true):VV V (a.eval x):=by
 cases x with
 |tmp t=>
  show VV V (a.tmps.getD t undef);rw[Array.getD_eq_getD_getElem?];cases h:a.tmps[t]? with
  |none=>intro r hr;cases hr with|tuple hx _=>simp[undef] at hx
  |some v=>exact ha v (Array.mem_of_getElem? h)
 |const v=>exact fun r hr=>absurd hr (LX hx r)
 |global g=>cases hx
 |func f=>intro r hr;cases hr<;>simp_all
theorem hY (a:Act)(D:kQ)(d:Option Tmp)(v:Value)(hd:∀t,d=some t->t∉sl D:=by intro _ _ h;cases h):(bg π a D).put d (Value.ren π v)=bg π (a.put d v) D:=by
 cases d with
 |none=>rfl
 |some t=>
  simp only[Act.put,bg];rw[Af D _ t _ (hd t rfl),Array.map_setIfInBounds]
theorem jk {V:Nat->Prop}{a:Act}(ha:∀v∈a.tmps,VV V v){d:Option Tmp}{v:Value}(hv:VV V v):∀u∈(a.put d v).tmps,VV V u:=by
 cases d with
 |none=>exact ha
 |some d=>
  intro u hu;simp only[Act.put] at hu;rcases Array.mem_or_eq_of_mem_setIfInBounds hu with h|h
  .exact ha u h
  .rw[h];exact hv
theorem gC {V:Nat->Prop}:VV V undef:=by intro r hr;cases hr with|tuple hx _=>simp at hx
theorem sX (ops:Array Oper)(c:Array Value):yielded ops (c.map (Value.ren π))=yielded ops c:=by
 funext j
 unfold yielded;cases (ops[j]?).bind (·.dst) with
 |none=>rfl
 |some t=>
  simp only[Option.bind_some,Array.getElem?_map];cases c[t]? with
  |none=>rfl
  |some v=>cases v<;>simp
theorem vb {ops:Array Oper}{c:Array Value}{D:kQ}{o:Oper}(h:K6 (sl D) ops o=true):Region.wanted o (yielded ops (v6 D (c.map (Value.ren π))))=Region.wanted o (yielded ops c):=by
 unfold K6 at h;simp only[Bool.or_eq_true] at h;rcases h with h|h
 .cases D with
  |nil=>rw[show v6 [] (c.map (Value.ren π))=c.map (Value.ren π) from rfl,sX]
  |cons p D=>simp[sl] at h
 .unfold Region.wanted
  cases hg:o.guard with
  |none=>rfl
  |some g=>
   rw[hg] at h;simp only at h⊢;have e:yielded ops (v6 D (c.map (Value.ren π))) g.1=yielded ops c g.1:=by
    rw[<-sX (π:=π) ops c];unfold yielded;cases ho:ops[g.1]? with
    |none=>rfl
    |some p=>
     rw[ho] at h;simp only[Option.bind_some];cases hd:p.dst with
     |none=>rfl
     |some t=>
      simp only[Option.bind_some];rw[qV D _ t (eL (by simpa using h) t hd)]
   rw[e]
theorem mX (hS:Stat P S E str)(hi:∀i j,π i=π j->i=j)(h0:π 0=0)(hz:str=true->∀b,¬Z b)(hl:LW H Z wL)(hw:WR π H Z wL w){a:Act}(D:kQ)(ha:∀v∈a.tmps,VV (gh H wL) v){o:Oper}(ho':eB (sl D) P S E str o=true)
  {x:Next} {bD:World} (hr:(execOp a.eval o).run P wL= .ok x bD) (hag:∀i,wL.heap.size+i<bD.heap.size->π (wL.heap.size+i)=w.heap.size+i):
  LW H Z bD/\wL.heap.size<=bD.heap.size/\∃x' w',(execOp (bg π a D).eval o).run P w= .ok x' w'/\RN π S x x'/\WR π H Z bD w'/\AZ π H Z wL bD w w'/\(∀e∈(execOp (bg π a D).eval o).events P w #[],oF π H Z bD.heap.size e)/\
   (match x with|.value v=>VV (gh H bD) v|.enter f ae=>(∀v∈ae,VV (gh H bD) v)|_=>True):=by
 obtain⟨ho,hoff,_⟩:=kx ho';have sim:∀(π:Nat->Nat) (D:kQ),(∀x∈o.op.operands,iR (sl D) x=true)->(∀i j,π i=π j->i=j)->π 0=0->bj P π (fun b=>H b\/Z b) (gh H wL) (RN π S) (execOp a.eval o) (execOp (bg π a D).eval o):=fun π D hoff hi h0=>
  p5 (hS.Th hi h0 hz _ fun i hv=>hv.2) ho (fun x hm hx=>⟨kJ a D hx (hoff x hm),lp ha hx⟩) (fun f=>⟨rfl,rfl⟩) (fun v=>rfl)
 have self:=tT (R:=fun σ=>RN σ S) hS.sQ hl (fun σ hi hf=>by
  have e:bg σ a []={a with defers:=[]}:=by
   unfold bg;rw[show v6 [] (a.tmps.map (Value.ren σ))=a.tmps.map (Value.ren σ) from rfl,ck fun v hv=>eN v fun r hr=>hf r (ha v hv r hr)]
  have:=sim σ [] (fun x _=>by cases x<;>rfl) hi (hf 0 hl.zero);rw[e] at this;exact this) hr
 obtain⟨l1,l2,l3⟩:=self;obtain⟨x',w',es',g1,g2,g3,g4,g5⟩:=(sim π D hoff hi h0).run hS.sQ (fun b=>Iff.rfl) hw (fun i hv=>hv) hr hag (es:=#[]);refine⟨l1,l2,x',w',?_,g2,g3,g4,fun e he=>?_,?_⟩
 .rw[<-Sem.runT_fst P _ w #[],g1]
 .have:(execOp (bg π a D).eval o).events P w #[]=es':=congrArg Prod.snd g1
  rw[this] at he;exact(g5 e he).resolve_left (by simp)
 .cases x with
  |value v=>
   intro r hr';refine Classical.byContradiction fun hv=>?_
   obtain⟨σ,m1,m2⟩:=l3 r hv;simp only[RN,Next.value.injEq] at m2;exact m1 (mP hr' m2.symm)
  |enter f ae=>
   intro v hv r hr';refine Classical.byContradiction fun hv'=>?_
   obtain⟨σ,m1,m2⟩:=l3 r hv';simp only[RN,Next.enter.injEq,true_and] at m2;exact m1 (mP hr' (oT m2.1.symm hv))
  |_=>trivial
theorem BD {N V:Nat->Prop}{α:Type}{f f':α->Sem Value}(hf:∀x,bj P π N V (RV π) (f x) (f' x)):∀l:List α,bj P π N V (fun a b=>b=a.map (Value.ren π)) (l.mapM f) (l.mapM f')
 |[]=>by simp only[List.mapM_nil];exact aj rfl
 |x::l=>by
  simp only[List.mapM_cons];refine(hf x).bind' fun v v' h=>?_
  rw[show v'=_ from h];refine(BD hf l).bind' fun c c' h=>?_
  subst h;exact aj (by simp)
theorem kX {N V:Nat->Prop}(fn:Func)(c:Array Value):bj P π N V (RV π) (results fn c) (results fn (c.map (Value.ren π))):=by
 unfold results;rw[Array.mapM_eq_mapM_toList,Array.mapM_eq_mapM_toList,map_eq_pure_bind,map_eq_pure_bind];simp only[bind_assoc,pure_bind];refine(BD (fun r=>?_) _).bind' fun vs vs' h=>?_
 .cases r with
  |tmp t=>dsimp only;rw[jF];exact aj rfl
  |cell a t=>
   dsimp only;rw[jF];cases c.getD a undef with
   |pointer p=>cases p with
    |none=>exact .dead (Dead.bind (s:=asAddr (.pointer none)) _ (du .nilDeref))
    |some p=>simp only[aT,Option.map_some];exact tg t p
   |_=>exact .dead (Dead.bind _ (Dead.halt trivial))
 .subst h
  refine aj ?_
  match vs with
  |[]=>simp[RV]
  |[v]=>simp[RV]
  |_::_::_=>simp[RV]
theorem mW (hS:Stat P S E str)(hi:∀i j,π i=π j->i=j)(hl:LW H Z wL)(hw:WR π H Z wL w){c:Array Value}(hc:∀v∈c,VV (gh H wL) v)(fn:Func)
  {x:Value} {bD:World} (hr:(results fn c).run P wL= .ok x bD) (hag:∀i,wL.heap.size+i<bD.heap.size->π (wL.heap.size+i)=w.heap.size+i):
  LW H Z bD/\wL.heap.size<=bD.heap.size/\∃w',(results fn (c.map (Value.ren π))).run P w= .ok (Value.ren π x) w'/\WR π H Z bD w'/\AZ π H Z wL bD w w'/\(∀e∈(results fn (c.map (Value.ren π))).events P w #[],oF π H Z bD.heap.size e)/\VV (gh H bD) x:=by
 have self:=tT (R:=fun σ=>RV σ) hS.sQ hl (fun σ hi hf=>by
  have e:c.map (Value.ren σ)=c:=ck fun v hv=>eN v fun r hr=>hf r (hc v hv r hr)
  have:=kX (P:=P) (π:=σ) (N:=fun b=>H b\/Z b) (V:=gh H wL) fn c;rw[e] at this;exact this) hr
 obtain⟨l1,l2,l3⟩:=self;obtain⟨x',w',es',g1,g2,g3,g4,g5⟩:=(kX (P:=P) (π:=π) (N:=fun b=>H b\/Z b) (V:=gh H wL) fn c).run hS.sQ (fun b=>Iff.rfl) hw (fun i hv=>hv) hr hag (es:=#[]);have g2':x'=Value.ren π x:=g2;subst g2';refine⟨l1,l2,w',?_,g3,g4,fun e he=>?_,?_⟩
 .rw[<-Sem.runT_fst P _ w #[],g1]
 .have:(results fn (c.map (Value.ren π))).events P w #[]=es':=congrArg Prod.snd g1
  rw[this] at he;exact(g5 e he).resolve_left (by simp)
 .intro r hr'
  refine Classical.byContradiction fun hv=>?_
  obtain⟨σ,m1,m2⟩:=l3 r hv;exact m1 (mP hr' (show x=_ from m2).symm)
end
structure Ctx where
 f0:FuncId
 gf:Frame
 B:Frame
 D0:kQ
 CS:List Frame
 Tl:List Item->List Item->Prop
 fn:B.fn=f0
 kind:B.kind≠.early
 stop:∀x y,Tl x y->∃l r,x= .inRangeFunc l::r
 exit:∀x y id x',Tl x y->exitTo id x=some x'->∃y',exitTo id y=some y'/\Tl x' y'
 bare:∀x y l,Tl x y->gotoIn l x=none
section
variable (P:Program)(S E:FuncId->Bool)(str:Bool)(π:Nat->Nat)(c:Ctx)
inductive qr (V:Nat->Prop):FuncId->Act->List Item->List Item->List Frame->Frame->kQ->List Item->List Frame->Prop
 |bot {a:Act} {t x y:List Item} (ht:∀it∈t,bY (sl c.D0) P S E str it=true) (ha:∀v∈a.tmps,VV V v) (hd:a.defers=[]) (hxy:c.Tl x y):qr V c.f0 a t x [c.gf] c.B c.D0 y c.CS
 |up {f f1:FuncId} {a a1:Act} {t t1 x1 y1:List Item} {ops:Array Oper} {i:Nat} {rest:List Nat} {cs1 I8:List Frame} {B1:Frame} {D1:kQ} (hf:S f=true)
   (ht:∀it∈t,Ai P S E str it=true) (ha:∀v∈a.tmps,VV V v) (hd:a.defers=[]) (hs:qr V f1 a1 (.inRegion ops (i::rest)::t1) x1 cs1 B1 D1 y1 I8):
   qr V f a t [] ((base f1).at a1 (.inRegion ops (i::rest)::(t1++x1))::cs1) (base f) [] [] (B1.at (bg π a1 D1) (.inRegion ops (i::rest)::(t1++y1))::I8)
inductive gv (H:Nat->Prop)(wL:World):Goroutine->Goroutine->Prop
 |run {f:FuncId} {a:Act} {t x:List Item} {cs:List Frame} {B:Frame} {D:kQ} {y:List Item} {cs':List Frame} (h:qr P S E str π c (gh H wL) f a t x cs B D y cs'):
   gv H wL (G ((base f).at a (t++x)) cs) (G (B.at (bg π a D) (t++y)) cs')
 |ret {f:FuncId} {a:Act} {t x:List Item} {cs:List Frame} {B:Frame} {D:kQ} {y:List Item} {cs':List Frame} {todo todo':List Item} (h:qr P S E str π c (gh H wL) f a t x cs B D y cs'):
   gv H wL (G {(base f).at a todo with mode:= .returning} cs) (G {B.at (bg π a D) todo' with mode:= .returning} cs')
end
section
variable {σ:List Nat}{P:Program}{S E:FuncId->Bool}{str:Bool}{π:Nat->Nat}{c:Ctx}{H Z:Nat->Prop}{wL w:World}
theorem qr.mono {V V':Nat->Prop}(hV:∀i,V i->V' i){f:FuncId}{a:Act}{t x:List Item}{cs:List Frame}{B:Frame}{D:kQ}{y:List Item}{cs':List Frame}(h:qr P S E str π c V f a t x cs B D y cs'):qr P S E str π c V' f a t x cs B D y cs':=by
 induction h with
 |bot ht ha hd hxy=>exact .bot ht (fun v hv=>(ha v hv).weak hV) hd hxy
 |up hf ht ha hd _ ih=>exact .up hf ht (fun v hv=>(ha v hv).weak hV) hd ih
theorem qr.base {V:Nat->Prop}{f:FuncId}{a:Act}{t x:List Item}{cs:List Frame}{B:Frame}{D:kQ}{y:List Item}{cs':List Frame}(h:qr P S E str π c V f a t x cs B D y cs'):
  B.fn=f/\B.kind≠.early/\a.defers=[]/\(∀it∈t,bY (sl D) P S E str it=true)/\(∀v∈a.tmps,VV V v):=by
 cases h with
 |bot ht ha hd hxy=>exact⟨c.fn,c.kind,hd,ht,ha⟩
 |up hf ht ha hd _=>exact⟨rfl,by simp[Go.Conc.base],hd,ht,ha⟩
theorem qr.top {V:Nat->Prop}{f:FuncId}{a:Act}{t x:List Item}{cs:List Frame}{B:Frame}{D:kQ}{y:List Item}{cs':List Frame}(h:qr P S E str π c V f a t x cs B D y cs')
  {a':Act} {t':List Item} (ht:∀it∈t',bY (sl D) P S E str it=true) (ha:∀v∈a'.tmps,VV V v) (hd:a'.defers=[]):qr P S E str π c V f a' t' x cs B D y cs':=by
 cases h with
 |bot _ _ _ hxy=>exact .bot ht ha hd hxy
 |up hf _ _ _ hs=>exact .up hf ht ha hd hs
theorem jy {id:Nat}:∀(t k:List Item),exitTo id (t++k)=match exitTo id t with|some t'=>some (t'++k)|none=>exitTo id k
 |[],k=>rfl
 |it::t,k=>by
  cases it<;>simp only[List.cons_append,exitTo]<;>first|exact jy t k|skip
  split
  .rfl
  .exact jy t k
theorem qj {id:Nat}:∀{t t':List Item},exitTo id t=some t'->∀it∈t',it∈t
 |[],_,h=>by simp[exitTo] at h
 |it::t,t',h=>by
  intro x hx;cases it<;>simp only[exitTo] at h<;>first|exact List.mem_cons_of_mem _ (qj h x hx)|skip
  split at h
  .cases h;exact List.mem_cons_of_mem _ hx
  .exact List.mem_cons_of_mem _ (qj h x hx)
theorem mR {l:Nat}:∀{b r:Code},eI σ P S E str b=true->findLabel b l=some r->eI σ P S E str r=true
 |.seq x y,r,h,hf=>by
  simp only[eI,Bool.and_eq_true] at h;simp only[findLabel] at hf;cases hx:findLabel x l with
  |none=>rw[hx] at hf;exact mR h.2 hf
  |some rest=>
   rw[hx] at hf;cases hf;simp only[eI,Bool.and_eq_true];exact⟨mR h.1 hx,h.2⟩
 |.label l',r,_,hf=>by
  simp only[findLabel] at hf;split at hf
  .cases hf;rfl
  .cases hf
 |.skip,_,_,hf|.region _ _ _,_,_,hf|.cond _ _ _,_,_,hf|.block _ _,_,_,hf|.loop _,_,_,hf|.rangeFunc _ _ _ _,_,_,hf|.exit _,_,_,hf|.scope _,_,_,hf|.goto _,_,_,hf|.ret,_,_,hf|.refuse _,_,_,hf=>by simp[findLabel] at hf
theorem pN {l:Nat}:∀(t k:List Item),(∀it∈t,bY σ P S E str it=true)->(∃t2,(∀it∈t2,bY σ P S E str it=true)/\∀k,gotoIn l (t++k)=some (t2++k))\/∀k,gotoIn l (t++k)=gotoIn l k
 |[],k,_=> .inr fun _=>rfl
 |it::t,k,h=>by
  have ih:=pN (l:=l) t k fun x hx=>h x (by simp[hx])
  cases it with
  |inScope body=>
   cases hf:findLabel body l with
   |some r=>
    have hb:eI σ P S E str body=true:=h (.inScope body) (by simp);refine .inl ⟨.code r::.inScope body::t,fun x hx=>?_,fun k=>by simp[gotoIn,hf]⟩;simp only[List.mem_cons] at hx;rcases hx with rfl|rfl|hx
    .exact mR hb hf
    .exact hb
    .exact h x (by simp[hx])
   |none=>
    rcases ih with⟨t2,h1,h2⟩|h2
    .exact .inl ⟨t2,h1,fun k=>by simp only[List.cons_append,gotoIn,hf];exact h2 k⟩
    .exact .inr fun k=>by simp only[List.cons_append,gotoIn,hf];exact h2 k
  |_=>
   rcases ih with⟨t2,h1,h2⟩|h2
   .exact .inl ⟨t2,h1,fun k=>by simp only[List.cons_append,gotoIn];exact h2 k⟩
   .exact .inr fun k=>by simp only[List.cons_append,gotoIn];exact h2 k
theorem nC {main:Bool}{b:Frame}{a:Act}{k:List Item}{cs:List Frame}{p:Code}:stepG P main (G (b.at a (.code (.scope p)::k)) cs) w= .go (G (b.at a (.code p::.inScope p::k)) cs) w:=by simp[G,stepG,stepG.exec,Frame.at]
theorem lD {main:Bool}{b:Frame}{a:Act}{k:List Item}{cs:List Frame}{p:Code}:stepG P main (G (b.at a (.inScope p::k)) cs) w= .go (G (b.at a k) cs) w:=by simp[G,stepG,stepG.exec,Frame.at]
theorem pW {main:Bool}{b:Frame}{a:Act}{k k':List Item}{cs:List Frame}{l:Nat}(h:gotoIn l k=some k'):stepG P main (G (b.at a (.code (.goto l)::k)) cs) w= .go (G (b.at a k') cs) w:=by simp[G,stepG,stepG.exec,Frame.at,h]
def Res (P:Program)(S E:FuncId->Bool)(str:Bool)(π:Nat->Nat)(c:Ctx)(main:Bool)(H Z:Nat->Prop)(wL w:World)(g oV:Goroutine)(bD:World):Prop:=
 ∃g' w' es',stepG P main g w= .go g' w' es'/\gv P S E str π c H bD oV g'/\LW H Z bD/\wL.heap.size<=bD.heap.size/\WR π H Z bD w'/\AZ π H Z wL bD w w'/\∀e∈es',oF π H Z bD.heap.size e
theorem cA {main:Bool}{g g' oV:Goroutine}(hl:LW H Z wL)(hw:WR π H Z wL w)(h:stepG P main g w= .go g' w)(hr:gv P S E str π c H wL oV g'):Res P S E str π c main H Z wL w g oV wL:=
 ⟨g',w,#[],h,hr,hl,Nat.le_refl _,hw,AZ.refl _ _ _ _ _,by simp⟩
theorem all_cons {it:Item}{t:List Item}(h:∀x∈it::t,bY σ P S E str x=true):bY σ P S E str it=true/\∀x∈t,bY σ P S E str x=true:=⟨h it (by simp),fun x hx=>h x (by simp[hx])⟩
theorem dB {it:Item}{t:List Item}(h1:bY σ P S E str it=true)(h:∀x∈t,bY σ P S E str x=true):∀x∈it::t,bY σ P S E str x=true:=by
 intro x hx;rcases List.mem_cons.1 hx with rfl|hx
 .exact h1
 .exact h x hx
theorem put_defers (a:Act)(d:Option Tmp)(v:Value):(a.put d v).defers=a.defers:=by cases d<;>rfl
theorem Oi (hS:Stat P S E str)(hi:∀i j,π i=π j->i=j)(h0:π 0=0)(hz:str=true->∀b,¬Z b)(hl:LW H Z wL)(hw:WR π H Z wL w){main:Bool}
  {f:FuncId} {a:Act} {t x y:List Item} {cs cs':List Frame} {B:Frame} {D:kQ} {ops:Array Oper} {i:Nat} {rest:List Nat} (h:qr P S E str π c (gh H wL) f a (.inRegion ops (i::rest)::t) x cs B D y cs')
  {oV:Goroutine} {bD:World} {es:Array Event} (hs:stepG P true (G ((base f).at a (.inRegion ops (i::rest)::(t++x))) cs) wL= .go oV bD es) (hn:pp oV)
  (hag:∀i,wL.heap.size+i<bD.heap.size->π (wL.heap.size+i)=w.heap.size+i):Res P S E str π c main H Z wL w (G (B.at (bg π a D) (.inRegion ops (i::rest)::(t++y))) cs') oV bD:=by
 obtain⟨hB,hk,hd,ht,ha⟩:=h.base;obtain⟨hops,ht'⟩:=all_cons ht;cases ho:ops[i]? with
 |none=>
  simp[G,stepG,stepG.exec,Frame.at,ho] at hs;obtain⟨rfl,rfl,rfl⟩:=hs;refine cA (g':=G (B.at (bg π a D) (.inRegion ops rest::(t++y))) cs') hl hw ?_ ?_
  .simp[G,stepG,stepG.exec,Frame.at,ho,Frame.finish,bg]
  .have:=gv.run (P:=P) (S:=S) (E:=E) (str:=str) (π:=π) (c:=c) (H:=H) (wL:=wL) (h.top (t':= .inRegion ops rest::t) (a':=a) (dB (jD hops) ht') ha hd)
   simpa [G,Frame.at,Frame.finish,ho] using this
 |some o=>
  have rW:eB (sl D) P S E str o=true:=od hops ho;obtain⟨hok1,hoff,hdst⟩:=kx rW;cases hwd:Region.wanted o (yielded ops a.tmps) with
  |false=>
   rw[stepG_unwanted ho hwd] at hs;cases hs;refine cA hl hw (stepG_unwanted ho (by rw[show(bg π a D).tmps=v6 D (a.tmps.map (Value.ren π)) from rfl,vb (v7 hops ho)];exact hwd)) ?_;have e:(bg π a D).put o.dst undef=bg π (a.put o.dst undef) D:=by
    have:=hY (π:=π) a D o.dst undef hdst
    rwa [show Value.ren π undef=undef by simp[undef]] at this
   rw[e];exact gv.run (t:= .inRegion ops rest::t) (h.top (dB (jD hops) ht') (jk ha gC) ((put_defers _ _ _).trans hd))
  |true=>
   have Wx:Region.wanted o (yielded ops (bg π a D).tmps)=true:=by rw[show(bg π a D).tmps=v6 D (a.tmps.map (Value.ren π)) from rfl,vb (v7 hops ho)];exact hwd
   have hka:(base f).kind≠.early:=by simp[base]
   cases hr:(execOp a.eval o).run P wL with
   |halt hh u=>
    exfalso;have hok:ky hh:=by
     have CO:bj P id (fun b=>H b\/Z b) (gh H wL) (RN id S) (execOp a.eval o) (execOp (bg id a D).eval o):=
      p5 (hS.Th (fun _ _ h=>h) rfl hz _ fun i hv=>hv.2) hok1 (fun x hm hx=>⟨kJ a D hx (hoff x hm),lp ha hx⟩) (fun f=>⟨rfl,rfl⟩) (fun v=>rfl)
     exact CO.Sl hl.y8 (fun b hb=>hl.low b hb) hr
    rw[stepG_oper ho hwd] at hs;have hk2:(CallKind.normal==CallKind.early)=false:=rfl;cases hh with
    |panic v=>
     simp[stepG.apply,hr,Frame.at,GStep.after] at hs;obtain⟨rfl,_⟩:=hs;exact hn.calm _ rfl
    |stuck m=>simp[stepG.apply,hr,Frame.at,GStep.after] at hs
    |unsupported u=>cases u<;>first|exact hok.elim|(simp[stepG.apply,hr,Frame.at,GStep.after] at hs;done)
    |_=>exact hok.elim
   |ok nx u=>
    have hstep:∃nx',nx=nx':=⟨nx,rfl⟩
    cases nx with
    |value v=>
     rw[stepG_value ho hwd hka hr] at hs;cases hs;obtain⟨l1,l2,x',w',e1,e2,e3,e4,e5,e6⟩:=mX hS hi h0 hz hl hw D ha rW hr hag;cases e2;refine⟨_,w',_,stepG_value ho Wx hk e1,?_,l1,l2,e3,e4,fun e he=>e5 e (mem_listed he)⟩;rw[hY _ _ _ _ hdst];have hm:∀i,gh H wL i->gh H bD i:=fun i hv=>⟨Nat.lt_of_lt_of_le hv.1 l2,hv.2⟩
     exact gv.run (t:= .inRegion ops rest::t) ((h.mono hm).top (dB (jD hops) ht') (jk (fun v hv=>(ha v hv).weak hm) e6) ((put_defers _ _ _).trans hd))
    |skip=>
     rw[stepG_none ho hwd hka hr] at hs;cases hs;obtain⟨l1,l2,x',w',e1,e2,e3,e4,e5,e6⟩:=mX hS hi h0 hz hl hw D ha rW hr hag;cases e2;refine⟨_,w',_,stepG_none ho Wx hk e1,?_,l1,l2,e3,e4,fun e he=>e5 e (mem_listed he)⟩;have e:(bg π a D).put o.dst undef=bg π (a.put o.dst undef) D:=by
      have:=hY (π:=π) a D o.dst undef hdst
      rwa [show Value.ren π undef=undef by simp[undef]] at this
     rw[e];have hm:∀i,gh H wL i->gh H bD i:=fun i hv=>⟨Nat.lt_of_lt_of_le hv.1 l2,hv.2⟩
     exact gv.run (t:= .inRegion ops rest::t) ((h.mono hm).top (dB (jD hops) ht') (jk (fun v hv=>(ha v hv).weak hm) gC) ((put_defers _ _ _).trans hd))
    |enter f2 ae=>
     rw[stepG_enter ho hwd hka hr] at hs;cases hs;obtain⟨l1,l2,x',w',e1,e2,e3,e4,e5,e6⟩:=mX hS hi h0 hz hl hw D ha rW hr hag;obtain⟨rfl,hSf⟩:=e2;obtain⟨fn,cd,b1,b2,b3,b4⟩:=hS.body f2 hSf;refine⟨_,w',_,stepG_enter ho Wx hk e1,?_,l1,l2,e3,e4,fun e he=>e5 e (mem_listed he)⟩;have hm:∀i,gh H wL i->gh H bD i:=fun i hv=>⟨Nat.lt_of_lt_of_le hv.1 l2,hv.2⟩
     have hst:=qr.up (f:=f2) (a:={tmps:=ae++Array.replicate (fn.ntmps-ae.size) undef,defers:=[]}) (t:=[.code cd]) hSf (fun it hit=>by simp at hit;subst hit;exact b4)
      (fun v hv=>by
       rcases Array.mem_append.1 hv with hv|hv
       .exact e6 v hv
       .rw[(Array.mem_replicate.1 hv).2];exact gC) rfl (h.mono hm)
     have:=gv.run hst;rw[enter_at _ b1 b3,enter_at _ b1 b3];have er:bg π {tmps:=ae++Array.replicate (fn.ntmps-ae.size) undef,defers:=[]} []={tmps:=ae.map (Value.ren π)++Array.replicate (fn.ntmps-(ae.map (Value.ren π)).size) undef,defers:=[]}:=by
      simp[bg,v6,undef]
     rw[er] at this;exact this
    |_=>
     exfalso;have:=mX hS (fun _ _ h=>h) rfl hz hl (hl.self (σ:=id) (fun _ _ h=>h) fun _ _=>rfl) D ha rW hr (fun i _=>rfl);obtain⟨_,_,x',w',_,e2,_⟩:=this;exact e2.elim
theorem WR.draw (hw:WR π H Z wL w):WR π H Z {wL with drawn:=wL.drawn+1} {w with drawn:=w.drawn+1}:=
 {inj:=hw.inj,tape:=hw.tape,drawn:=by show w.drawn+1=wL.drawn+1;rw[hw.drawn],lt:=hw.lt,ok:=hw.ok,hid:=hw.hid,nu:=hw.nu,low:=hw.low,xI:=hw.xI}
theorem LW.draw (hl:LW H Z wL):LW H Z {wL with drawn:=wL.drawn+1}:=⟨hl.ok,hl.hid,hl.nu,hl.low,hl.apart,hl.zero,hl.QT⟩
theorem Bo (hS:Stat P S E str)(hi:∀i j,π i=π j->i=j)(h0:π 0=0)(hz:str=true->∀b,¬Z b)(hl:LW H Z wL)(hw:WR π H Z wL w){main:Bool}
  {f:FuncId} {a:Act} {t x y:List Item} {cs cs':List Frame} {B:Frame} {D:kQ} (h:qr P S E str π c (gh H wL) f a t x cs B D y cs')
  {oV:Goroutine} {bD:World} {es:Array Event} (hs:stepG P true (G ((base f).at a (t++x)) cs) wL= .go oV bD es) (hn:pp oV)
  (hag:∀i,wL.heap.size+i<bD.heap.size->π (wL.heap.size+i)=w.heap.size+i):Res P S E str π c main H Z wL w (G (B.at (bg π a D) (t++y)) cs') oV bD:=by
 obtain⟨hB,hk,hd,ht,ha⟩:=h.base;cases t with
 |nil=>
  cases h with
  |bot _ _ _ hxy=>
   obtain⟨why,r,rfl⟩:=c.stop _ _ hxy;simp[G,stepG,stepG.exec,Frame.at] at hs
  |up hf _ _ _ hst=>
   simp only[List.nil_append] at hs⊢;rw[stepG_end] at hs;cases hs;exact cA hl hw stepG_end (gv.ret (.up hf ht ha hd hst))
 |cons it t=>
  obtain⟨h1,ht'⟩:=all_cons ht;simp only[List.cons_append] at hs⊢;cases it with
  |code cd=>
   cases cd with
   |skip=>rw[stepG_skip] at hs;cases hs;exact cA hl hw stepG_skip (.run (h.top ht' ha hd))
   |label l=>rw[stepG_label] at hs;cases hs;exact cA hl hw stepG_label (.run (h.top ht' ha hd))
   |ret=>rw[stepG_ret'] at hs;cases hs;exact cA hl hw stepG_ret' (.ret h)
   |seq p q=>
    simp only[bY,eI,Bool.and_eq_true] at h1;rw[stepG_seq] at hs;cases hs;exact cA hl hw stepG_seq (gv.run (t:= .code p::.code q::t) (h.top (dB h1.1 (dB h1.2 ht')) ha hd))
   |cond o p q=>
    simp only[bY,eI,Bool.and_eq_true] at h1;have hev:=kJ (π:=π) a D h1.1.1.1 h1.1.1.2;cases hb:a.eval o with
    |bool b=>
     rw[hb,dA] at hev;rw[stepG_cond hb] at hs;cases hs;exact cA hl hw (stepG_cond hev) (gv.run (t:= .code (if b then p else q)::t) (h.top (dB (by cases b;exact h1.2;exact h1.1.2) ht') ha hd))
    |_=>
     exfalso;have he:=Frame.eval_at (base f) a (.code (.cond o p q)::(t++x)) o;simp only[Frame.at] at he;simp[G,stepG,stepG.exec,Frame.at,he,hb] at hs
   |block id p=>rw[stepG_block] at hs;cases hs;exact cA hl hw stepG_block (gv.run (t:= .code p::.inBlock id::t) (h.top (dB h1 (dB rfl ht')) ha hd))
   |loop p=>rw[stepG_loop] at hs;cases hs;exact cA hl hw stepG_loop (gv.run (t:= .code p::.inLoop p::t) (h.top (dB h1 (dB h1 ht')) ha hd))
   |exit id=>
    have el:=jy (id:=id) t x;have er:=jy (id:=id) t y;cases he:exitTo id t with
    |some t2=>
     rw[he] at el er;rw[stepG_exit el] at hs;cases hs;exact cA hl hw (stepG_exit er) (.run (h.top (fun it hit=>ht' it (qj he it hit)) ha hd))
    |none=>
     rw[he] at el er;dsimp only at el er;cases h with
     |bot _ _ _ hxy=>
      cases hx:exitTo id x with
      |none=>
       exfalso;rw[hx] at el;simp[G,stepG,stepG.exec,Frame.at,el,base] at hs
      |some x2=>
       obtain⟨y2,hy,aga⟩:=c.exit _ _ _ _ hxy hx;rw[hx] at el;rw[hy] at er;rw[stepG_exit el] at hs;cases hs;exact cA hl hw (stepG_exit er) (gv.run (t:=[]) (.bot (by simp) ha hd aga))
     |up hf _ _ _ hst=>
      exfalso;simp[exitTo] at el;simp[G,stepG,stepG.exec,Frame.at,he,base] at hs
   |region id ops draw=>
    cases draw with
    |false=>rw[stepG_region] at hs;cases hs;exact cA hl hw stepG_region (gv.run (t:= .inRegion ops (List.range ops.size)::t) (h.top (dB (pH h1 _) ht') ha hd))
    |true=>
     rw[stepG_region_draw] at hs;cases hs;refine⟨_,_,#[],stepG_region_draw,?_,hl.draw,Nat.le_refl _,hw.draw,⟨Nat.le_refl _,by simp,fun _ _ _=>rfl,rfl,rfl,rfl,Nat.le_succ _⟩,by simp⟩;rw[show w.tape w.drawn (.order B.fn id)=wL.tape wL.drawn (.order (base f).fn id) by rw[hw.tape,hw.drawn,hB];rfl]
     exact gv.run (t:= .inRegion ops _::t) (qr.top (h.mono fun i hv=>hv) (dB (pH h1 _) ht') ha hd)
   |scope p=>rw[nC] at hs;cases hs;exact cA hl hw nC (gv.run (t:= .code p::.inScope p::t) (h.top (dB h1 (dB h1 ht')) ha hd))
   |refuse why=>simp[G,stepG,stepG.exec,Frame.at] at hs
   |goto l=>
    rcases pN (l:=l) t x ht' with⟨t2,ht2,hg⟩|hg
    .rw[pW (hg x)] at hs;cases hs
     exact cA hl hw (pW (hg y)) (gv.run (t:=t2) (h.top ht2 ha hd))
    .exfalso
     have hx:gotoIn l x=none:=by
      cases h with
      |bot _ _ _ hxy=>exact c.bare _ _ _ hxy
      |up=>rfl
     have:=hg x;rw[hx] at this;simp[G,stepG,stepG.exec,Frame.at,this,base] at hs
   |_=>simp[bY,eI] at h1
  |inBlock id=>rw[stepG_inBlock] at hs;cases hs;exact cA hl hw stepG_inBlock (.run (h.top ht' ha hd))
  |inScope p=>rw[lD] at hs;cases hs;exact cA hl hw lD (.run (h.top ht' ha hd))
  |inLoop p=>rw[stepG_inLoop] at hs;cases hs;exact cA hl hw stepG_inLoop (gv.run (t:= .code p::.inLoop p::t) (h.top (dB h1 (dB h1 ht')) ha hd))
  |inRegion ops todo=>
   cases todo with
   |nil=>rw[stepG_region_end] at hs;cases hs;exact cA hl hw stepG_region_end (.run (h.top ht' ha hd))
   |cons i rest=>exact Oi hS hi h0 hz hl hw h hs hn hag
  |_=>simp[bY] at h1
theorem step_ret (hS:Stat P S E str)(hi:∀i j,π i=π j->i=j)(hl:LW H Z wL)(hw:WR π H Z wL w){main:Bool}
  {f:FuncId} {a:Act} {t x y:List Item} {cs cs':List Frame} {B:Frame} {D:kQ} {todo todo':List Item} (h:qr P S E str π c (gh H wL) f a t x cs B D y cs') (hne:cs≠[c.gf])
  {oV:Goroutine} {bD:World} {es:Array Event} (hs:stepG P true (G {(base f).at a todo with mode:= .returning} cs) wL= .go oV bD es)
  (hag:∀i,wL.heap.size+i<bD.heap.size->π (wL.heap.size+i)=w.heap.size+i):Res P S E str π c main H Z wL w (G {B.at (bg π a D) todo' with mode:= .returning} cs') oV bD:=by
 cases h with
 |bot=>exact absurd rfl hne
 |@up f f1 a a1 t t1 x1 y1 ops i rest cs1 I8 B1 D1 hf ht ha hd hst=>
  obtain⟨fn,cd,b1,b2,b3,b4⟩:=hS.body f hf;obtain⟨hB1,hk1,hd1,ht1,ha1⟩:=hst.base;obtain⟨hops,ht1'⟩:=all_cons ht1;have hfin:∀(b:Frame) (a:Act) (k:List Item) (v:Value),(b.at a (.inRegion ops (i::rest)::k)).finish v=b.at (a.put ((ops[i]?).bind (·.dst)) v) (.inRegion ops rest::k):=fun b a k v=>Frame.finish_at b a ops i rest k v
  have gen:∀(main:Bool) (b:Frame) (a:Act) (todo:List Item) (cr:Frame) (DD:List Frame) (w:World),b.kind= .normal->a.defers=[]->b.fn=f->stepG P main (G {b.at a todo with mode:= .returning} (cr::DD)) w=
    GStep.after (seen P f ((results fn a.tmps).events P w #[])) (match(results fn a.tmps).run P w with
     |.ok v w=> .go (G (cr.finish v) DD) w
     |.halt (.stuck s) w=> .ended (.stuck s (Frame.pos P {b.at a todo with mode:= .returning})) w
     |.halt _ w=> .ended (.stuck "return: the result variables cannot be read" (Frame.pos P {b.at a todo with mode:= .returning})) w):=by
   intro main b a todo cr DD w e1 e2 e3;subst e3;simp[G,stepG,unwind,doReturn,Frame.at,e1,e2,b1];cases (results fn a.tmps).run P w with
   |ok v u=>rfl
   |halt h u=>cases h<;>rfl
  rw[gen true (base f) a todo _ cs1 wL rfl hd rfl] at hs;cases hr:(results fn a.tmps).run P wL with
  |halt h u=>rw[hr] at hs;cases h<;>simp[GStep.after] at hs
  |ok v u=>
   rw[hr] at hs;simp only[GStep.after,GStep.go.injEq] at hs;obtain⟨rfl,rfl,_⟩:=hs;obtain⟨l1,l2,w',e1,e3,e4,e5,e6⟩:=mW hS hi hl hw ha fn hr hag;have hT:=gen main (base f) (bg π a []) todo' (B1.at (bg π a1 D1) (.inRegion ops (i::rest)::(t1++y1))) I8 w rfl rfl rfl;rw[show(bg π a []).tmps=a.tmps.map (Value.ren π) from rfl,e1] at hT;simp only[GStep.after] at hT
   refine⟨_,w',_,hT,?_,l1,l2,e3,e4,fun e he=>e5 e (by simpa using mem_seen (by simpa using he))⟩;rw[hfin,hfin,hY _ _ _ _ (fun t ht=>by
    cases ho:ops[i]? with
    |none=>rw[ho] at ht;cases ht
    |some o=>rw[ho] at ht;exact(kx (od hops ho)).2.2 t ht)]
   have hm:∀i,gh H wL i->gh H u i:=fun i hv=>⟨Nat.lt_of_lt_of_le hv.1 l2,hv.2⟩
   exact gv.run (t:= .inRegion ops rest::t1) ((hst.mono hm).top (dB (jD hops) ht1') (jk (fun v hv=>(ha1 v hv).weak hm) e6) ((put_defers _ _ _).trans hd1))
end
def dz (P:Program):Frame:=(base 0).at {tmps:=#[],defers:=[{target:= .fn (.func P.funcs.size) #[],args:=#[]}]} [.code (.refuse "")]
inductive Jy (P:Program):Frame->List Frame->Prop
 |top {fr:Frame} {ch:List PanicEntry} (hm:fr.mode= .panicking ch) (hf:fr.defers=(dz P).defers):Jy P fr []
 |up {fr cr:Frame} {cs:List Frame} {ch:List PanicEntry} (hm:fr.mode= .panicking ch) (hd:fr.defers=[]) (hf:fr.catches P=false) (h:∀ch,Jy P (cr.raise ch) cs):Jy P fr (cr::cs)
section
variable {P:Program}{S E:FuncId->Bool}{str:Bool}{c:Ctx}{H Z:Nat->Prop}{w:World}
def Jn (P:Program)(S E:FuncId->Bool)(str:Bool)(c:Ctx)(H Z:Nat->Prop)(gL:Goroutine)(w:World):Prop:=
 LW H Z w/\((∃g,gv P S E str id c H w gL g)\/gL=G (dz P) [])
def Dz (P:Program)(J:Goroutine->World->Prop)(gL:Goroutine)(w:World)(t:dU)(d:Nat):Prop:=
 (∃o u es,stepG P true gL (ax w t d)= .ended o u es)\/
 (∃fr cs u es,stepG P true gL (ax w t d)= .go (G fr cs) u es/\Jy P fr cs)\/
 ∃fr cs u es k,stepG P true gL (ax w t d)= .go (G fr cs) u es/\pp (G fr cs)/\J (G fr cs) u/\u=ax u t (d+k)/\
  ∀t2 d2,(∀i,i<k->t2 (d2+i)=t (d+i))->stepG P true gL (ax w t2 d2)= .go (G fr cs) (ax u t2 (d2+k)) es
theorem ma {fr:Frame}{cs:List Frame}(h:∀ch,fr.mode≠.panicking ch):pp (G fr cs):=⟨rfl,rfl,rfl,h⟩
theorem p8 {J:Goroutine->World->Prop}{gL:Goroutine}{fr:Frame}{cs:List Frame}(t:dU)(d:Nat)(h:∀w,stepG P true gL w= .go (G fr cs) w)(hm:∀ch,fr.mode≠.panicking ch)(hj:J (G fr cs) (ax w t d)):Dz P J gL w t d:=
 .inr (.inr ⟨fr,cs,_,#[],0,h _,ma hm,hj,rfl,fun t2 d2 _=>h _⟩)
theorem qr.lost (hS:Stat P S E str)(hgf:c.gf=dz P)(h0:∃fn,P.funcs[c.f0]? =some fn){π:Nat->Nat}{V:Nat->Prop}{f:FuncId}{a:Act}{t x:List Item}{cs:List Frame}{B:Frame}{D:kQ}{y:List Item}{cs':List Frame}(h:qr P S E str π c V f a t x cs B D y cs'):
  ∀(todo:List Item) (ch:List PanicEntry),Jy P {(Go.Conc.base f).at a todo with mode:= .panicking ch} cs:=by
 have cat:∀(f:FuncId) (a:Act) (todo:List Item) (ch:List PanicEntry),(∃fn,P.funcs[f]? =some fn)->Frame.catches P {(Go.Conc.base f).at a todo with mode:= .panicking ch}=false:=by
  rintro f a todo ch ⟨fn,hf⟩;simp[Frame.catches,Frame.at,Go.Conc.base,hf]
 induction h with
 |bot ht ha hd hxy=>
  intro todo ch;refine .up rfl hd (cat _ _ _ _ h0) fun ch'=>?_
  rw[hgf];exact .top rfl rfl
 |up hf ht ha hd _ ih=>
  intro todo ch;obtain⟨fn,cd,b1,_⟩:=hS.body _ hf;exact .up rfl hd (cat _ _ _ _ ⟨fn,b1⟩) fun ch'=>ih _ ch'
theorem Ly (hS:Stat P S E str)(hz:str=true->∀b,¬Z b){w:World}(hl:LW H Z w){f:FuncId}{a:Act}{t x y:List Item}{cs cs':List Frame}{B:Frame}{D:kQ}(h:qr P S E str id c (gh H w) f a t x cs B D y cs')
  {oV:Goroutine} {w':World} {es:Array Event} (hs:stepG P true (G ((base f).at a (t++x)) cs) w= .go oV w' es) (hn:pp oV):Jn P S E str c H Z oV w':=by
 obtain⟨g',_,_,_,hr,l,_⟩:=Bo hS (fun _ _ h=>h) rfl hz hl (hl.self (σ:=id) (fun _ _ h=>h) fun _ _=>rfl) (main:=true) h hs hn fun i _=>rfl
 exact⟨l,.inl ⟨g',hr⟩⟩
theorem Vo (hS:Stat P S E str)(hz:str=true->∀b,¬Z b)(hgf:c.gf=dz P)(h0:∃fn,P.funcs[c.f0]? =some fn)(hl:LW H Z w)(t0:dU)(d0:Nat)
  {f:FuncId} {a:Act} {t x y:List Item} {cs cs':List Frame} {B:Frame} {D:kQ} {ops:Array Oper} {i:Nat} {rest:List Nat} (h:qr P S E str id c (gh H w) f a (.inRegion ops (i::rest)::t) x cs B D y cs'):
  Dz P (Jn P S E str c H Z) (G ((base f).at a (.inRegion ops (i::rest)::(t++x))) cs) w t0 d0:=by
 obtain⟨hB,hk,hd,ht,ha⟩:=h.base;obtain⟨hops,ht'⟩:=all_cons ht;have jr:∀{oV:Goroutine} {w':World} {es:Array Event},stepG P true (G ((base f).at a (.inRegion ops (i::rest)::(t++x))) cs) (ax w t0 d0)= .go oV w' es->pp oV->Jn P S E str c H Z oV w':=fun hs hn=>
  Ly hS hz (hl.ax t0 d0) (h.mono fun i hv=>hv) hs hn
 cases ho:ops[i]? with
 |none=>
  have e:∀w,stepG P true (G ((base f).at a (.inRegion ops (i::rest)::(t++x))) cs) w= .go (G ((base f).at a (.inRegion ops rest::(t++x))) cs) w:=fun w=>by
   simp[G,stepG,stepG.exec,Frame.at,ho,Frame.finish]
  exact p8 _ _ e (fun ch=>by simp[Frame.at]) (jr (e _) (ma fun ch=>by simp[Frame.at]))
 |some o=>
  have hoS:eB (sl D) P S E str o=true:=od hops ho;have rW:lK P S E str o=true:=(kx hoS).1;cases hwd:Region.wanted o (yielded ops a.tmps) with
  |false=>
   have e:∀w,stepG P true (G ((base f).at a (.inRegion ops (i::rest)::(t++x))) cs) w= .go (G ((base f).at (a.put o.dst undef) (.inRegion ops rest::(t++x))) cs) w #[]:=fun w=>stepG_unwanted ho hwd
   exact p8 _ _ e (fun ch=>by simp[Frame.at]) (jr (e _) (ma fun ch=>by simp[Frame.at]))
  |true=>
   have hka:(base f).kind≠.early:=by simp[base]
   have CO:bj P id (fun b=>H b\/Z b) (gh H w) (RN id S) (execOp a.eval o) (execOp (bg id a []).eval o):=
    p5 (hS.Th (fun _ _ h=>h) rfl hz _ fun i hv=>hv.2) rW (fun x _ hx=>⟨kJ a [] hx (by cases x<;>rfl),lp ha hx⟩) (fun f=>⟨rfl,rfl⟩) (fun v=>rfl)
   have hl1:=hl.ax t0 d0;cases hr:(execOp a.eval o).run P (ax w t0 d0) with
   |halt hh u=>
    have hok:ky hh:=CO.Sl hl1.y8 (fun b hb=>hl1.low b hb) hr;unfold Dz;rw[stepG_oper ho hwd];cases hh with
    |panic v=>
     refine .inr (.inl ⟨_,cs,u,listed P f a o (ax w t0 d0),?_,h.lost hS hgf h0 (.inRegion ops (i::rest)::(t++x)) [{v,recovered:=false}]⟩);simp[stepG.apply,hr,Frame.at,GStep.after,base,G,listed,Frame.raise]
    |stuck m=>exact .inl ⟨_,_,_,by simp[stepG.apply,hr,Frame.at,GStep.after,base];exact⟨rfl,rfl,rfl⟩⟩
    |unsupported u=>cases u<;>first|exact hok.elim|exact .inl ⟨_,_,_,by simp[stepG.apply,hr,Frame.at,GStep.after,base];exact⟨rfl,rfl,rfl⟩⟩
    |_=>exact hok.elim
   |ok nx u=>
    have hrT:(execOp a.eval o).runT P (ax w t0 d0) #[]=(.ok nx u,(execOp a.eval o).events P (ax w t0 d0) #[]):=by rw[Sem.runT_eq,hr]
    obtain⟨k,hk1,hk2⟩:=CO.D4 hl.y8 (fun b hb=>hl.low b hb) hrT;have sh:∀t2 d2,(∀i,i<k->t2 (d2+i)=t0 (d0+i))->(execOp a.eval o).run P (ax w t2 d2)= .ok nx (ax u t2 (d2+k))/\listed P f a o (ax w t2 d2)=listed P f a o (ax w t0 d0):=fun t2 d2 hag=>by
     have:=hk2 t2 d2 hag;refine⟨by rw[<-Sem.runT_fst P _ _ #[],this],?_⟩;unfold listed;rw[show(execOp a.eval o).events P (ax w t2 d2) #[]=_ from congrArg Prod.snd this]
    cases nx with
    |value v=>
     have e:=stepG_value (main:=true) (cs:=cs) (k:=t++x) (rest:=rest) ho hwd hka hr;refine .inr (.inr ⟨_,_,u,_,k,e,ma fun ch=>by simp[Frame.at],jr e (ma fun ch=>by simp[Frame.at]),hk1,fun t2 d2 hag=>?_⟩);obtain⟨s1,s2⟩:=sh t2 d2 hag;rw[stepG_value ho hwd hka s1];rw[show listed P (base f).fn a o (ax w t2 d2)=_ from s2];rfl
    |skip=>
     have e:=stepG_none (main:=true) (cs:=cs) (k:=t++x) (rest:=rest) ho hwd hka hr;refine .inr (.inr ⟨_,_,u,_,k,e,ma fun ch=>by simp[Frame.at],jr e (ma fun ch=>by simp[Frame.at]),hk1,fun t2 d2 hag=>?_⟩);obtain⟨s1,s2⟩:=sh t2 d2 hag;rw[stepG_none ho hwd hka s1];rw[show listed P (base f).fn a o (ax w t2 d2)=_ from s2];rfl
    |enter f2 ae=>
     have e:=stepG_enter (main:=true) (cs:=cs) (k:=t++x) (rest:=rest) ho hwd hka hr;refine .inr (.inr ⟨_,_,u,_,k,e,ma fun ch=>by simp[Frame.enter],jr e (ma fun ch=>by simp[Frame.enter]),hk1,fun t2 d2 hag=>?_⟩);obtain⟨s1,s2⟩:=sh t2 d2 hag;rw[stepG_enter ho hwd hka s1];rw[show listed P (base f).fn a o (ax w t2 d2)=_ from s2];rfl
    |_=>
     exfalso;have:=mX hS (fun _ _ h=>h) rfl hz hl1 (hl1.self (σ:=id) (fun _ _ h=>h) fun _ _=>rfl) D ha hoS hr (fun i _=>rfl);obtain⟨_,_,x',w',_,e2,_⟩:=this;exact e2.elim
theorem Ph (hS:Stat P S E str)(hz:str=true->∀b,¬Z b)(hgf:c.gf=dz P)(h0:∃fn,P.funcs[c.f0]? =some fn)(hl:LW H Z w)(t0:dU)(d0:Nat)
  {f:FuncId} {a:Act} {t x y:List Item} {cs cs':List Frame} {B:Frame} {D:kQ} (h:qr P S E str id c (gh H w) f a t x cs B D y cs'):
  Dz P (Jn P S E str c H Z) (G ((base f).at a (t++x)) cs) w t0 d0:=by
 obtain⟨hB,hk,hd,ht,ha⟩:=h.base;have jr:∀{oV:Goroutine} {w':World} {es:Array Event},stepG P true (G ((base f).at a (t++x)) cs) (ax w t0 d0)= .go oV w' es->pp oV->Jn P S E str c H Z oV w':=fun hs hn=>
  Ly hS hz (hl.ax t0 d0) (h.mono fun i hv=>hv) hs hn
 have BO:∀{fr:Frame},(∀w,stepG P true (G ((base f).at a (t++x)) cs) w= .go (G fr cs) w)->(∀ch,fr.mode≠.panicking ch)->Dz P (Jn P S E str c H Z) (G ((base f).at a (t++x)) cs) w t0 d0:=fun e hm=>
  p8 _ _ e hm (jr (e _) (ma hm))
 cases t with
 |nil=>
  cases h with
  |bot _ _ _ hxy=>
   obtain⟨why,r,rfl⟩:=c.stop _ _ hxy;exact .inl ⟨_,_,_,by simp[G,stepG,stepG.exec,Frame.at];exact⟨rfl,rfl,rfl⟩⟩
  |up hf _ _ _ hst=>exact BO (fun w=>stepG_end) (fun ch=>by simp)
 |cons it t=>
  obtain⟨h1,ht'⟩:=all_cons ht;simp only[List.cons_append] at jr BO⊢;cases it with
  |code cd=>
   cases cd with
   |skip=>exact BO (fun w=>stepG_skip) (fun ch=>by simp[Frame.at])
   |label l=>exact BO (fun w=>stepG_label) (fun ch=>by simp[Frame.at])
   |ret=>exact BO (fun w=>stepG_ret') (fun ch=>by simp)
   |seq p q=>exact BO (fun w=>stepG_seq) (fun ch=>by simp[Frame.at])
   |cond o p q=>
    cases hb:a.eval o with
    |bool b=>exact BO (fun w=>stepG_cond hb) (fun ch=>by simp[Frame.at])
    |_=>
     have he:=Frame.eval_at (base f) a (.code (.cond o p q)::(t++x)) o;simp only[Frame.at] at he;exact .inl ⟨_,_,_,by simp[G,stepG,stepG.exec,Frame.at,he,hb];exact⟨rfl,rfl,rfl⟩⟩
   |block id p=>exact BO (fun w=>stepG_block) (fun ch=>by simp[Frame.at])
   |loop p=>exact BO (fun w=>stepG_loop) (fun ch=>by simp[Frame.at])
   |exit id=>
    cases he:exitTo id (t++x) with
    |some k'=>exact BO (fun w=>stepG_exit he) (fun ch=>by simp[Frame.at])
    |none=>exact .inl ⟨_,_,_,by simp[G,stepG,stepG.exec,Frame.at,he,base];exact⟨rfl,rfl,rfl⟩⟩
   |region id ops draw=>
    cases draw with
    |false=>exact BO (fun w=>stepG_region) (fun ch=>by simp[Frame.at])
    |true=>
     have e:=stepG_region_draw (P:=P) (main:=true) (b:=base f) (a:=a) (k:=t++x) (cs:=cs) (w:=ax w t0 d0) (id:=id) (ops:=ops);refine .inr (.inr ⟨_,_,_,_,1,e,ma fun ch=>by simp[Frame.at],jr e (ma fun ch=>by simp[Frame.at]),rfl,fun t2 d2 hag=>?_⟩);rw[stepG_region_draw];have:=hag 0 (by omega);simp only[Nat.add_zero] at this
     show GStep.go (G ((base f).at a (.inRegion ops (Region.schedule (P.follows .mixedOrders) ops (t2 d2 (.order f id)))::(t++x))) cs) _ _=_;rw[this];rfl
   |scope p=>exact BO (fun w=>nC) (fun ch=>by simp[Frame.at])
   |refuse why=>exact .inl ⟨_,_,_,by simp[G,stepG,stepG.exec,Frame.at];exact⟨rfl,rfl,rfl⟩⟩
   |goto l=>
    cases he:gotoIn l (t++x) with
    |some k'=>exact BO (fun w=>pW he) (fun ch=>by simp[Frame.at])
    |none=>exact .inl ⟨_,_,_,by simp[G,stepG,stepG.exec,Frame.at,he,base];exact⟨rfl,rfl,rfl⟩⟩
   |_=>simp[bY,eI] at h1
  |inScope p=>exact BO (fun w=>lD) (fun ch=>by simp[Frame.at])
  |inBlock id=>exact BO (fun w=>stepG_inBlock) (fun ch=>by simp[Frame.at])
  |inLoop p=>exact BO (fun w=>stepG_inLoop) (fun ch=>by simp[Frame.at])
  |inRegion ops todo=>
   cases todo with
   |nil=>exact BO (fun w=>stepG_region_end) (fun ch=>by simp[Frame.at])
   |cons i rest=>exact Vo hS hz hgf h0 hl t0 d0 h
  |_=>simp[bY] at h1
theorem Az {f:FuncId}{fn:Func}(hf:P.funcs[f]? =some fn){main:Bool}{b:Frame}{a:Act}{todo:List Item}{cr:Frame}{DD:List Frame}{w:World}(e1:b.kind= .normal)(e2:a.defers=[])(e3:b.fn=f):
  stepG P main (G {b.at a todo with mode:= .returning} (cr::DD)) w=
    GStep.after (seen P f ((results fn a.tmps).events P w #[])) (match(results fn a.tmps).run P w with
     |.ok v w=> .go (G (cr.finish v) DD) w
     |.halt (.stuck s) w=> .ended (.stuck s (Frame.pos P {b.at a todo with mode:= .returning})) w
     |.halt _ w=> .ended (.stuck "return: the result variables cannot be read" (Frame.pos P {b.at a todo with mode:= .returning})) w):=by
 subst e3;simp[G,stepG,unwind,doReturn,Frame.at,e1,e2,hf];cases (results fn a.tmps).run P w with
 |ok v u=>rfl
 |halt h u=>cases h<;>rfl
theorem Pi (hS:Stat P S E str)(hz:str=true->∀b,¬Z b)(hgf:c.gf=dz P)(h0:∃fn,P.funcs[c.f0]? =some fn)(hl:LW H Z w)(t0:dU)(d0:Nat)
  {f:FuncId} {a:Act} {t x y:List Item} {cs cs':List Frame} {B:Frame} {D:kQ} {todo:List Item} (h:qr P S E str id c (gh H w) f a t x cs B D y cs'):
  Dz P (Jn P S E str c H Z) (G {(base f).at a todo with mode:= .returning} cs) w t0 d0:=by
 obtain⟨hB,hk,hd,ht,ha⟩:=h.base;have hfn:∃fn,P.funcs[f]? =some fn:=by
  cases h with
  |bot=>exact h0
  |up hf=>obtain⟨fn,cd,b1,_⟩:=hS.body _ hf;exact⟨fn,b1⟩
 obtain⟨fn,hfn⟩:=hfn;have hl1:=hl.ax t0 d0;have main:∀cr DD,cs=cr::DD->(∀v ch,(cr.finish v).mode≠.panicking ch)->(∀v u es,stepG P true (G {(base f).at a todo with mode:= .returning} cs) (ax w t0 d0)= .go (G (cr.finish v) DD) u es->LW H Z u->Jn P S E str c H Z (G (cr.finish v) DD) u)->
   Dz P (Jn P S E str c H Z) (G {(base f).at a todo with mode:= .returning} cs) w t0 d0:=by
  intro cr DD hcs hm hj;subst hcs;have gen:∀w,_:=fun w=>Az (P:=P) hfn (main:=true) (b:=base f) (a:=a) (todo:=todo) (cr:=cr) (DD:=DD) (w:=w) rfl hd rfl
  cases hr:(results fn a.tmps).run P (ax w t0 d0) with
  |halt hh u=>
   refine .inl ?_;rw[gen,hr];cases hh<;>exact⟨_,_,_,rfl⟩
  |ok v u=>
   have CO:=kX (P:=P) (π:=id) (N:=fun b=>H b\/Z b) (V:=gh H w) fn a.tmps;have hrT:(results fn a.tmps).runT P (ax w t0 d0) #[]=(.ok v u,(results fn a.tmps).events P (ax w t0 d0) #[]):=by rw[Sem.runT_eq,hr]
   obtain⟨k,hk1,hk2⟩:=CO.D4 hl.y8 (fun b hb=>hl.low b hb) hrT;obtain⟨l1,_⟩:=mW hS (π:=id) (fun _ _ h=>h) hl1 (hl1.self (σ:=id) (fun _ _ h=>h) fun _ _=>rfl) (fun v hv=>ha v hv) fn hr fun i _=>rfl
   have e:stepG P true (G {(base f).at a todo with mode:= .returning} (cr::DD)) (ax w t0 d0)= .go (G (cr.finish v) DD) u (seen P f ((results fn a.tmps).events P (ax w t0 d0) #[])):=by
    rw[gen,hr];simp[GStep.after]
   refine .inr (.inr ⟨_,_,u,_,k,e,ma (hm v),hj v u _ e l1,hk1,fun t2 d2 hag=>?_⟩);have h2:=hk2 t2 d2 hag;have h3:(results fn a.tmps).run P (ax w t2 d2)= .ok v (ax u t2 (d2+k)):=by rw[<-Sem.runT_fst P _ _ #[],h2]
   have h4:(results fn a.tmps).events P (ax w t2 d2) #[]=(results fn a.tmps).events P (ax w t0 d0) #[]:=by
    show((results fn a.tmps).runT P (ax w t2 d2) #[]).2=_;rw[h2]
   rw[gen,h3,h4];simp[GStep.after]
 cases h with
 |bot _ _ _ hxy=>
  refine main c.gf [] rfl (fun v ch=>by rw[hgf];simp[dz,Frame.finish,Frame.at]) fun v u es _ l=>⟨l,.inr ?_⟩
  rw[hgf];simp[dz,Frame.finish,Frame.at]
 |@up _ f1 _ a1 _ t1 x1 y1 ops i rest cs1 I8 B1 D1 hf _ _ _ hst=>
  refine main _ cs1 rfl (fun v ch=>by rw[Frame.finish_at];simp[Frame.at]) fun v u es hs l=>?_
  obtain⟨g',_,_,_,hr,l2,_⟩:=step_ret hS (π:=id) (c:=c) (main:=true) (todo':=[]) (fun _ _ h=>h) hl1 (hl1.self (σ:=id) (fun _ _ h=>h) fun _ _=>rfl) (qr.mono (fun i hv=>hv) (.up hf ht ha hd hst)) (by
   intro e;cases hst<;>simp at e) hs fun i _=>rfl
  exact⟨l2,.inl ⟨g',hr⟩⟩
theorem aaH (hS:Stat P S E str)(hz:str=true->∀b,¬Z b)(hgf:c.gf=dz P)(h0:∃fn,P.funcs[c.f0]? =some fn){gL:Goroutine}(h:Jn P S E str c H Z gL w)(t0:dU)(d0:Nat):Dz P (Jn P S E str c H Z) gL w t0 d0:=by
 obtain⟨hl,⟨g,hr⟩|rfl⟩:=h
 .cases hr with
  |run h=>exact Ph hS hz hgf h0 hl t0 d0 h
  |ret h=>exact Pi hS hz hgf h0 hl t0 d0 h
 .exact .inl ⟨_,_,_,by simp[G,dz,stepG,stepG.exec,Frame.at];exact⟨rfl,rfl,rfl⟩⟩
end
section
variable {P:Program}{S E:FuncId->Bool}{str:Bool}{c:Ctx}{H Z:Nat->Prop}
theorem gv.ax {π:Nat->Nat}{wL:World}{gL g:Goroutine}(h:gv P S E str π c H wL gL g)(t:dU)(d:Nat):gv P S E str π c H (ax wL t d) gL g:=by
 cases h with
 |run h=>exact .run (h.mono fun i hv=>hv)
 |ret h=>exact .ret (h.mono fun i hv=>hv)
theorem shifts (hS:Stat P S E str)(hz:str=true->∀b,¬Z b)(hgf:c.gf=dz P)(h0:∃fn,P.funcs[c.f0]? =some fn):Shifts P (Jn P S E str c H Z):=by
 intro g w t d g' w' es hj hs hn;rcases aaH hS hz hgf h0 hj t d with⟨o,u,es2,h⟩|⟨fr,cs,u,es2,h,hl⟩|⟨fr,cs,u,es2,k,h,_,hj',hk,hk2⟩
 .rw[h] at hs;cases hs
 .rw[h] at hs
  cases hs;exfalso;cases hl with
  |top hm _=>exact hn.calm _ hm
  |up hm _ _ _=>exact hn.calm _ hm
 .rw[h] at hs
  cases hs;exact⟨hj',k,hk,hk2⟩
theorem wo:∀(n:Nat) {fr:Frame} {cs:List Frame} {w:World} {fr':Frame} {cs':List Frame} {w':World},Jy P fr cs->runN P n (lone fr cs w)= .next (lone fr' cs' w')->∃ch,fr'.mode= .panicking ch
 |0,fr,cs,w,fr',cs',w',h,hr=>by
  simp only[runN,Stepped.next.injEq,lone,Machine.mk.injEq] at hr;have h1:=hr.2.1;simp at h1;obtain⟨rfl,_⟩:=h1;cases h with
  |top hm _=>exact⟨_,hm⟩
  |up hm _ _ _=>exact⟨_,hm⟩
 |n+1,fr,cs,w,fr',cs',w',h,hr=>by
  simp only[runN] at hr;cases h with
  |top hm hf=>
   have:step P (lone fr [] w)= .ended (.stuck "call: no such function" (Frame.pos P {fr with defers:=[]})) w:=by
    refine step_lone_ended ?_;simp[stepG,unwind,hm,hf,dz,callDeferred,Frame.at,invoke,callFunc,program,stuck,bind,Sem.bind,Sem.run,GStep.after]
   rw[this] at hr;cases hr
  |@up _ cr cs ch hm hd hc h=>
   have:step P (lone fr (cr::cs) w)= .next (lone (cr.raise ch) cs w):=by
    refine step_lone_go ?_;simp[stepG,unwind,hm,hd,hc]
   rw[this] at hr;exact wo n (h ch) hr
theorem k6 (hS:Stat P S E str)(hz:str=true->∀b,¬Z b)(hgf:c.gf=dz P)(h0:∃fn,P.funcs[c.f0]? =some fn):∀(n:Nat) {fr:Frame} {cs:List Frame} {w:World} {fr':Frame} {cs':List Frame} {w':World},
  Jn P S E str c H Z (G fr cs) w->runN P n (lone fr cs w)= .next (lone fr' cs' w')->(∀ch,fr'.mode≠.panicking ch)->Run P n (G fr cs) w (G fr' cs') w'/\Jn P S E str c H Z (G fr' cs') w'
 |0,fr,cs,w,fr',cs',w',hj,hr,_=>by
  simp only[runN,Stepped.next.injEq,lone,Machine.mk.injEq] at hr;have h1:=hr.2.1;simp at h1;obtain⟨rfl,rfl⟩:=h1;obtain rfl:=hr.1;exact⟨⟨rfl,rfl⟩,hj⟩
 |n+1,fr,cs,w,fr',cs',w',hj,hr,hm=>by
  simp only[runN] at hr;rcases aaH hS hz hgf h0 hj w.tape w.drawn with⟨o,u,es2,h⟩|⟨fr2,cs2,u,es2,h,hl⟩|⟨fr2,cs2,u,es2,k,h,hn,hj',_,_⟩
  .rw[nU] at h
   have:step P (lone fr cs w)= .ended o u:=step_lone_ended (by
    show(stepG P true (G fr cs) w).bare=_;rw[h];rfl)
   rw[this] at hr;cases hr
  .rw[nU] at h
   have:step P (lone fr cs w)= .next (lone fr2 cs2 u):=step_lone_go (by
    show(stepG P true (G fr cs) w).bare=_;rw[h];rfl)
   rw[this] at hr;obtain⟨ch,hc⟩:=wo n hl hr;exact absurd hc (hm ch)
  .rw[nU] at h
   have:step P (lone fr cs w)= .next (lone fr2 cs2 u):=step_lone_go (by
    show(stepG P true (G fr cs) w).bare=_;rw[h];rfl)
   rw[this] at hr;obtain⟨r1,r2⟩:=k6 hS hz hgf h0 n hj' hr hm;exact⟨⟨_,u,es2,h,hn,r1⟩,r2⟩
def kL:Option Nat->List Item
 |none=>[.inRangeFunc 0]
 |some id=>[.inRangeFunc 0,.inBlock id,.inRangeFunc 0]
def Sz (f0:FuncId)(P:Program)(fN:Option Nat):Exit->Act->Goroutine->Prop
 |.normal,a,g=>g=G ((base f0).at a (kL fN)) [dz P]
 |.exit id,a,g=>fN=some id/\g=G ((base f0).at a [.inRangeFunc 0]) [dz P]
 |.ret,a,g=>∃todo,g=G {(base f0).at a todo with mode:= .returning} [dz P]
 |_,_,_=>False
def ahx (f0:FuncId)(P:Program)(fN:Option Nat)(Q:Exit->Act->World->Prop)(g:Goroutine)(w:World):Prop:=∃e a,Q e a w/\Sz f0 P fN e a g
structure QOk (fN:Option Nat)(Q:Exit->Act->World->Prop):Prop where
 tape:∀e a w t d,Q e a (ax w t d)↔Q e a w
 out:∀e a w,Q e a w->e= .normal\/e= .ret\/∃id,e= .exit id/\fN=some id
def WpT (P:Program)(t:List Item)(Q:Exit->Act->World->Prop)(a:Act)(w:World):Prop:=∀(b:Frame) (k:List Item) (cs:List Frame),∃e a' w',Q e a' w'/\Arrives P (lone (b.at a (t++k)) cs w) b k cs e a' w'
theorem EW (hS:Stat P S E str)(hz:str=true->∀b,¬Z b)(hgf:c.gf=dz P)(h0:∃fn,P.funcs[c.f0]? =some fn){t0:List Item}{Q:Exit->Act->World->Prop}{a:Act}{wL:World}{fN:Option Nat}(hQ:QOk fN Q)
  (hj:Jn P S E str c H Z (G ((base c.f0).at a (t0++kL fN)) [dz P]) wL) (h:∀t d,WpT P t0 Q a (ax wL t d)):Ends P (ahx c.f0 P fN Q) (G ((base c.f0).at a (t0++kL fN)) [dz P]) wL:=by
 intro t d;obtain⟨e,a',w',q,harr⟩:=h t d (base c.f0) (kL fN) [dz P];have hj':Jn P S E str c H Z (G ((base c.f0).at a (t0++kL fN)) [dz P]) (ax wL t d):=⟨hj.1.ax t d,hj.2.imp (fun⟨g,h⟩=>⟨g,h.ax t d⟩) id⟩
 rcases hQ.out e a' w' q with rfl|rfl|⟨id,rfl,hx⟩
 .obtain⟨n,hn⟩:=harr
  exact⟨n,_,w',(k6 hS hz hgf h0 n hj' hn fun ch=>by simp[Frame.at]).1,.normal,a',q,rfl⟩
 .obtain⟨todo,n,hn⟩:=harr
  exact⟨n,_,w',(k6 hS hz hgf h0 n hj' hn fun ch=>by simp).1,.ret,a',q,todo,rfl⟩
 .subst hx
  obtain⟨n,hn⟩:=harr [.inRangeFunc 0] (by simp[kL,exitTo]);exact⟨n,_,w',(k6 hS hz hgf h0 n hj' hn fun ch=>by simp[Frame.at]).1,.exit id,a',q,rfl,rfl⟩
end
def SJ (O RO:Nat->Prop)(n n':Nat)(e:Event):Prop:=
 (∃b,(O b\/(n<=b/\b<n')\/(RO b/\e.write=false))/\((∃a:Addr,e.loc= .cell a/\a.block=b)\/e.loc= .obj b))\/∃m,e.loc= .mark m/\oe m
structure j8 (O RO:Nat->Prop)(w w':World)(es:Array Event):Prop where
 size:w.heap.size<=w'.heap.size
 keep:∀k,k<w.heap.size->¬O k->w'.heap[k]? =w.heap[k]?
 os:w'.os=w.os
 output:w'.output=w.output
 tape:w'.tape=w.tape
 ev:∀e∈es,SJ O RO w.heap.size w'.heap.size e
structure NF {S0:Type}(C:Co S0)(own:S0->Nat->Prop)(RO:Nat->Prop):Prop where
 rel:∀s w w₁,C.R s w w₁->w.heap.size<=w₁.heap.size/\w₁.tape=w.tape/\∀b,b<w.heap.size->own s b\/RO b->w₁.heap[b]? =w.heap[b]?
 guar:∀s w w' es,j8 (own s) RO w w' es->C.D s w w' es
 up:∀s w w' b,own (C.up s w w') b↔own s b\/(w.heap.size<=b/\b<w'.heap.size)
structure Link (H Z:Nat->Prop)(O RO:Nat->Prop)(π:Nat->Nat)(wL w:World):Prop where
 inj:∀i j,π i=π j->i=j
 zero:π 0=0
 lt:∀b,b<wL.heap.size->π b<w.heap.size
 lw:LW H Z wL
 wr:WR π H Z (ax wL w.tape w.drawn) w
 own:∀b,gh H wL b->¬Z b->O (π b)
 ro:∀b,Z b->RO (π b)
section
variable {P:Program}{S E:FuncId->Bool}{str:Bool}{c:Ctx}{H Z:Nat->Prop}{O RO:Nat->Prop}{π cj:Nat->Nat}{wL w w₁:World}
theorem sr {v:Value}:∀(h:∀r,Value.Has r v->π r=cj r),Value.ren π v=Value.ren cj v:=by
 suffices h:∀n (v:Value),SizeOf.sizeOf v<n->(∀r,Value.Has r v->π r=cj r)->Value.ren π v=Value.ren cj v from h _ v (Nat.lt_succ_self _)
 intro n
 induction n with
 |zero=>intro v h;omega
 |succ n ih=>
  intro v hv h;have arr:∀(cs:Array Value),SizeOf.sizeOf cs<n->(∀x∈cs,∀r,Value.Has r x->π r=cj r)->cs.map (Value.ren π)=cs.map (Value.ren cj):=by
   intro cs hs hh;exact Array.map_congr_left fun x hx=>ih x (by have:=Array.sizeOf_lt_of_mem hx;omega) (hh x hx)
  cases v with
  |pointer a=>cases a with
   |none=>simp
   |some a=>simp[bh,h a.block (.ptr rfl)]
  |slice a _ _=>cases a with
   |none=>simp
   |some a=>simp[bh,h a.block (.slice rfl)]
  |map r=>cases r with
   |none=>simp
   |some r=>simp[h r .map]
  |chan r=>cases r with
   |none=>simp
   |some r=>simp[h r .chan]
  |iface t v=>rw[cP,cP,ih v (by simp at hv;omega) fun r x=>h r (.iface x)]
  |agg cs=>rw[di,di,arr cs (by simp at hv;omega) fun x hx r y=>h r (.agg hx y)]
  |tuple cs=>rw[cO,cO,arr cs (by simp at hv;omega) fun x hx r y=>h r (.tuple hx y)]
  |func fn f c=>
   rw[da,da,arr f (by simp at hv;omega) fun x hx r y=>h r (.first hx y),arr c (by simp at hv;omega) fun x hx r y=>h r (.Fg hx y)];cases fn with
   |yield l=>simp[nZ,h l .yield]
   |_=>rfl
  |_=>simp
theorem kz {cs:Array Value}(h:∀x∈cs,∀r,Value.Has r x->π r=cj r):cs.map (Value.ren π)=cs.map (Value.ren cj):=Array.map_congr_left fun x hx=>sr (h x hx)
theorem vL {o:Obj}(h:∀r,jQ r o->π r=cj r):dw π o=dw cj o:=by
 cases o with
 |cells c t f=>simp only[dw];rw[kz fun v hv r x=>h r (.cells hv x)]
 |map es c=>
  simp only[dw];have:es.map (lI π)=es.map (lI cj):=Array.map_congr_left fun e he=>by
   unfold lI;rw[sr fun r x=>h r (.key he x),sr fun r x=>h r (.val he x)]
  rw[this]
 |mapIter m a b c=>cases m with
  |none=>rfl
  |some r=>simp[dw,h r .iter]
 |view a t=>simp[dw,bh,h a.block (.view rfl)]
 |number a l=>simp[dw,bh,h a.block (.number rfl)]
 |_=>rfl
theorem qr.congr {V:Nat->Prop}(hV:∀i,V i->π i=cj i){f:FuncId}{a:Act}{t x:List Item}{cs:List Frame}{B:Frame}{D:kQ}{y:List Item}{cs':List Frame}(h:qr P S E str π c V f a t x cs B D y cs'):qr P S E str cj c V f a t x cs B D y cs':=by
 induction h with
 |bot ht ha hd hxy=>exact .bot ht ha hd hxy
 |@up f f1 a a1 t t1 x1 y1 ops i rest cs1 I8 B1 D1 hf ht ha hd hs ih=>
  have e:bg π a1 D1=bg cj a1 D1:=by
   unfold bg;rw[kz fun v hv r x=>hV r (hs.base.2.2.2.2 v hv r x)]
  rw[e];exact .up hf ht ha hd ih
theorem gv.congr (hV:∀i,gh H wL i->π i=cj i){gL g:Goroutine}(h:gv P S E str π c H wL gL g):gv P S E str cj c H wL gL g:=by
 cases h with
 |@run f a t x cs B D y cs' h=>
  have e:bg π a D=bg cj a D:=by
   unfold bg;rw[kz fun v hv r x=>hV r (h.base.2.2.2.2 v hv r x)]
  rw[e];exact .run (h.congr hV)
 |@ret f a t x cs B D y cs' todo todo' h=>
  have e:bg π a D=bg cj a D:=by
   unfold bg;rw[kz fun v hv r x=>hV r (h.base.2.2.2.2 v hv r x)]
  rw[e];exact .ret (h.congr hV)
theorem Link.rely (h:Link H Z O RO π wL w)(hs:w.heap.size<=w₁.heap.size)(ht:w₁.tape=w.tape)(hk:∀b,b<w.heap.size->O b\/RO b->w₁.heap[b]? =w.heap[b]?):
  ∃cj,Link H Z O RO cj wL w₁/\(∀b,b<wL.heap.size->π b=cj b)/\∀i,cj (wL.heap.size+i)=w₁.heap.size+i:=by
 refine⟨fun i=>if i<wL.heap.size then π i else w₁.heap.size+(i-wL.heap.size),?_,fun b hb=>(if_pos hb).symm,fun i=>by show(if wL.heap.size+i<wL.heap.size then π (wL.heap.size+i) else w₁.heap.size+(wL.heap.size+i-wL.heap.size))=_;rw[if_neg (by omega)];omega⟩;have e:∀b,b<wL.heap.size->(if b<wL.heap.size then π b else w₁.heap.size+(b-wL.heap.size))=π b:=fun b hb=>if_pos hb
 have lo:∀b,H b\/Z b->b<wL.heap.size:=h.lw.low;have hz0:0<wL.heap.size:=h.lw.zero.1;have oc:∀(b:Nat) (o:Obj),wL.heap[b]? =some o->¬H b->dw (fun i=>if i<wL.heap.size then π i else w₁.heap.size+(i-wL.heap.size)) o=dw π o:=fun b o hb hH=>vL fun r hr=>e r (h.lw.QT b o hb hH r hr).1
 have at_:∀b,gh H wL b->w₁.heap[π b]? =w.heap[π b]? :=fun b hb=>hk _ (h.lt b hb.1) (by
  by_cases hZ:Z b
  .exact .inr (h.ro b hZ)
  .exact .inl (h.own b hb hZ))
 refine {inj:=fun i j hij=>?_,zero:=by rw[e 0 hz0];exact h.zero,lt:=fun b hb=>by rw[e b hb];have:=h.lt b hb;omega,lw:=h.lw,wr:=?_,own:=fun b hb hZ=>by rw[e b hb.1];exact h.own b hb hZ,ro:=fun b hZ=>by rw[e b (lo b (.inr hZ))];exact h.ro b hZ}
 .split at hij<;>split at hij
  .exact h.inj _ _ hij
  .have:=h.lt i (by assumption);omega
  .have:=h.lt j (by assumption);omega
  .omega
 .have hw:=h.wr
  refine {inj:=?_,tape:=rfl,drawn:=rfl,lt:=fun b hb hH=>?_,ok:=fun b o hb hH hZ=>?_,hid:=hw.hid,nu:=fun b o hb hZ=>?_,low:=hw.low,xI:=hw.xI}
  .intro i j hij
   split at hij<;>split at hij
   .exact h.inj _ _ hij
   .have:=h.lt i (by assumption);omega
   .have:=h.lt j (by assumption);omega
   .omega
  .rw[e b hb]
   have:=h.lt b hb;omega
  .have hlt:=(Array.getElem?_eq_some_iff.1 hb).1
   refine⟨(hw.ok b o hb hH hZ).1,?_⟩;rw[e b hlt,at_ b ⟨hlt,hH⟩,oc b o hb hH];exact(hw.ok b o hb hH hZ).2
  .have hlt:=(Array.getElem?_eq_some_iff.1 hb).1
   obtain⟨c,t,f,rfl,h2⟩:=hw.nu b o hb hZ;refine⟨c,t,f,rfl,?_⟩;have hH:=h.lw.apart b hZ;rw[e b hlt,at_ b ⟨hlt,hH⟩];have:=oc b _ hb hH;simp only[dw,Obj.cells.injEq] at this;rw[this.1];exact h2
theorem Link.qT (h:Link H Z O RO π wL w){bD w':World}{es:Array Event}(hag:∀i,wL.heap.size+i<bD.heap.size->π (wL.heap.size+i)=w.heap.size+i)
  (l:LW H Z bD) (hsz:wL.heap.size<=bD.heap.size) (hw:WR π H Z bD w') (hc:AZ π H Z (ax wL w.tape w.drawn) bD w w') (he:∀e∈es,oF π H Z bD.heap.size e):
  j8 O RO w w' es/\∀O':Nat->Prop,(∀b,O' b↔O b\/(w.heap.size<=b/\b<w'.heap.size))->Link H Z O' RO π bD w':=by
 have hS:w'.heap.size=w.heap.size+(bD.heap.size-wL.heap.size):=hc.size;have new:∀b,wL.heap.size<=b->b<bD.heap.size->w.heap.size<=π b/\π b<w'.heap.size:=fun b h1 h2=>by
  have:=hag (b-wL.heap.size) (by omega);rw[show wL.heap.size+(b-wL.heap.size)=b by omega] at this;omega
 refine⟨⟨by omega,fun k hk hO=>hc.keep k hk fun b hb hH hZ e=>hO (e▸h.own b ⟨hb,hH⟩ hZ),hc.os,hc.output,hc.tape,fun e hE=>?_⟩,fun O' hO'=>?_⟩
 .rcases he e hE with⟨b,hb,hH,hZ,hloc⟩|hm
  .refine .inl ⟨π b,?_,hloc⟩
   by_cases hlt:b<wL.heap.size
   .by_cases hz:Z b
    .refine .inr (.inr ⟨h.ro b hz,?_⟩)
     cases hwr:e.write with
     |false=>rfl
     |true=>exact absurd hz (hZ hwr)
    .exact .inl (h.own b ⟨hlt,hH⟩ hz)
   .exact .inr (.inl (new b (by omega) hb))
  .exact .inr hm
 .refine {inj:=h.inj,zero:=h.zero,lt:=fun b hb=>?_,lw:=l,wr:=?_,own:=fun b hb hZ=>?_,ro:=h.ro}
  .by_cases hlt:b<wL.heap.size
   .have:=h.lt b hlt;omega
   .exact(new b (by omega) hb).2
  .have e:ax bD w'.tape w'.drawn=bD:=by
    unfold ax;rw[hw.tape,hw.drawn]
   rw[e];exact hw
  .rw[hO']
   by_cases hlt:b<wL.heap.size
   .exact .inl (h.own b ⟨hlt,hb.2⟩ hZ)
   .exact .inr (new b (by omega) hb.1)
inductive TlX (fN:Option Nat)(kT:List Item):List Item->List Item->Prop
 |nil:TlX fN kT (kL fN) kT
 |exit {id:Nat} {y:List Item} (h:fN=some id) (hy:exitTo id kT=some y):TlX fN kT [.inRangeFunc 0] y
def acU (B:Frame)(kT:List Item)(CS:List Frame):Exit->Act->Goroutine->Prop
 |.normal,a,g=>g=G (B.at a kT) CS
 |.exit id,a,g=>∃y,exitTo id kT=some y/\g=G (B.at a y) CS
 |.ret,a,g=>∃todo,g=G {B.at a todo with mode:= .returning} CS
 |_,_,_=>False
def StopA {S0:Type}(own:S0->Nat->Prop)(RO:Nat->Prop)(H Z:Nat->Prop)(B:Frame)(D0:kQ)(kT:List Item)(CS:List Frame)(Q:Exit->Act->World->Prop)(Y5:Nat->Nat)(n₀:Nat)(s:S0)(g:Goroutine)(w:World):Prop:=
 ∃e a wL π,Q e a wL/\Link H Z (own s) RO π wL w/\a.defers=[]/\(∀v∈a.tmps,VV (gh H wL) v)/\acU B kT CS e (bg π a D0) g/\(∀b,b<n₀->π b=Y5 b)/\n₀<=wL.heap.size
def ac5 (P:Program)(f0:FuncId)(B:Frame)(D0:kQ)(CS:List Frame)(fN:Option Nat)(kT:List Item)(hf:B.fn=f0)(hk:B.kind≠.early)(hx:∀id,fN=some id->∃y,exitTo id kT=some y):Ctx where
 f0:=f0
 gf:=dz P
 B:=B
 D0:=D0
 CS:=CS
 Tl:=TlX fN kT
 fn:=hf
 kind:=hk
 stop:=fun x y h=>by
  cases h with
  |nil=>cases fN<;>exact⟨_,_,rfl⟩
  |exit=>exact⟨_,_,rfl⟩
 exit:=fun x y id x' h hx'=>by
  cases h with
  |nil=>
   cases fN with
   |none=>simp[kL,exitTo] at hx'
   |some i=>
    simp only[kL,exitTo] at hx';split at hx'
    .rename_i he
     have:i=id:=by simpa using he
     subst this;cases hx';obtain⟨y',hy'⟩:=hx i rfl;exact⟨y',hy',.exit rfl hy'⟩
    .cases hx'
  |exit=>simp[exitTo] at hx'
 bare:=fun x y l h=>by
  cases h with
  |nil=>cases fN<;>rfl
  |exit=>rfl
theorem zK {V:Nat->Prop}{f:FuncId}{a:Act}{t x:List Item}{gf:Frame}{B:Frame}{D:kQ}{y:List Item}{cs':List Frame}(h:qr P S E str π c V f a t x [gf] B D y cs'):f=c.f0/\B=c.B/\D=c.D0/\cs'=c.CS/\c.Tl x y:=by
 cases h with
 |bot _ _ _ hxy=>exact⟨rfl,rfl,rfl,rfl,hxy⟩
 |up _ _ _ _ hs=>cases hs
theorem tz {gL g:Goroutine}(h:gv P S E str π c H wL gL g){f0:FuncId}{aL:Act}{todo:List Item}{gf:Frame}(e:gL=G ((base f0).at aL todo) [gf]):
  ∃t x y,todo=t++x/\(∀it∈t,bY (sl c.D0) P S E str it=true)/\c.Tl x y/\aL.defers=[]/\(∀v∈aL.tmps,VV (gh H wL) v)/\g=G (c.B.at (bg π aL c.D0) (t++y)) c.CS:=by
 cases h with
 |@run f a t x cs B D y cs' h=>
  simp only[G,Frame.at,base,Goroutine.mk.injEq,Frame.mk.injEq] at e;obtain⟨⟨e1,e2,e3,e4,_⟩,e5,_⟩:=e;subst e5;obtain⟨_,_,hd,ht,ha⟩:=h.base;obtain⟨_,rfl,rfl,rfl,hxy⟩:=zK h;obtain⟨tm,df⟩:=a;obtain⟨tm',df'⟩:=aL;simp only at e2 e4;subst e2;subst e4;exact⟨t,x,y,e3.symm,ht,hxy,hd,ha,rfl⟩
 |ret h=>
  simp only[G,Frame.at,base,Goroutine.mk.injEq,Frame.mk.injEq] at e;exact absurd e.1.2.2.2.2.1 (by simp)
theorem Ca {gL g:Goroutine}(h:gv P S E str π c H wL gL g){f0:FuncId}{aL:Act}{todo:List Item}{gf:Frame}(e:gL=G {(base f0).at aL todo with mode:= .returning} [gf]):
  aL.defers=[]/\(∀v∈aL.tmps,VV (gh H wL) v)/\∃todo',g=G {c.B.at (bg π aL c.D0) todo' with mode:= .returning} c.CS:=by
 cases h with
 |run h=>
  simp only[G,Frame.at,base,Goroutine.mk.injEq,Frame.mk.injEq] at e;exact absurd e.1.2.2.2.2.1 (by simp)
 |@ret f a t x cs B D y cs' td td' h=>
  simp only[G,Frame.at,base,Goroutine.mk.injEq,Frame.mk.injEq] at e;obtain⟨⟨e1,e2,e3,e4,_⟩,e5,_⟩:=e;subst e5;obtain⟨_,_,hd,ht,ha⟩:=h.base;obtain⟨_,rfl,rfl,rfl,hxy⟩:=zK h;obtain⟨tm,df⟩:=a;obtain⟨tm',df'⟩:=aL;simp only at e2 e4;subst e2;subst e4;exact⟨hd,ha,td',rfl⟩
theorem PW (fN:Option Nat):∃r,kL fN= .inRangeFunc 0::r:=by cases fN<;>exact⟨_,rfl⟩
theorem tail_nil {σ:List Nat}{t x:List Item}{r:List Item}(h:Item.inRangeFunc 0::r=t++x)(ht:∀it∈t,bY σ P S E str it=true):t=[]:=by
 cases t with
 |nil=>rfl
 |cons it t=>
  simp only[List.cons_append,List.cons.injEq] at h;have:=ht it (by simp);rw[<-h.1] at this;simp[bY] at this
theorem Lp (hS:Stat P S E str)(hz:str=true->∀b,¬Z b){f0:FuncId}(h0:∃fn,P.funcs[f0]? =some fn){S0:Type}{C:Co S0}{own:S0->Nat->Prop}(hC:NF C own RO){fN:Option Nat}{Q:Exit->Act->World->Prop}(hQ:QOk fN Q)
  {B:Frame} {D0:kQ} {CS:List Frame} {kT:List Item} (hf:B.fn=f0) (hk:B.kind≠.early) (hx:∀id,fN=some id->∃y,exitTo id kT=some y) {t0:List Item} (A0:∀it∈t0,bY (sl D0) P S E str it=true)
  {a:Act} {s:S0} (hl:Link H Z (own s) RO π wL w) (ha:∀v∈a.tmps,VV (gh H wL) v) (hd:a.defers=[]) (hwp:∀t d,WpT P t0 Q a (ax wL t d)) {main:Bool}:
  aD P main C (StopA own RO H Z B D0 kT CS Q π wL.heap.size) s (G (B.at (bg π a D0) (t0++kT)) CS) w:=by
 let c:=ac5 P f0 B D0 CS fN kT hf hk hx
 have hj:Jn P S E str c H Z (G ((base f0).at a (t0++kL fN)) [dz P]) wL:=
  ⟨hl.lw,.inl ⟨_,gv.run (t:=t0) (x:=kL fN) (qr.bot (c:=c) A0 ha hd (.nil (kT:=kT)))⟩⟩
 have abZ:=EW hS hz (c:=c) (Z:=Z) rfl h0 hQ hj hwp;have hlt:=zG (shifts hS hz (c:=c) (H:=H) (Z:=Z) rfl h0) (fun g w t d=>by
  constructor
  .rintro⟨e,a,q,x⟩;exact⟨e,a,(hQ.tape e a w t d).1 q,x⟩
  .rintro⟨e,a,q,x⟩;exact⟨e,a,(hQ.tape e a w t d).2 q,x⟩) hj abZ
 refine CA (fun s gL bD g w=>∃cj,Link H Z (own s) RO cj bD w/\gv P S E str cj c H bD gL g/\(∀b,b<wL.heap.size->cj b=π b)/\wL.heap.size<=bD.heap.size) ?_ ?_ ?_ hlt ⟨π,hl,gv.run (t:=t0) (x:=kL fN) (qr.bot (c:=c) A0 ha hd (.nil (kT:=kT))),fun _ _=>rfl,Nat.le_refl _⟩
 ·
  rintro s gL wL g w ⟨π,hl,hr,WK,hsz0⟩ ⟨e,aL,q,hg⟩ w₁ hR;obtain⟨r1,r2,r3⟩:=hC.rel s w w₁ hR;obtain⟨cj,hl',Gf,_⟩:=hl.rely r1 r2 r3;have hr':=hr.congr (cj:=cj) fun i hv=>Gf i hv.1
  have Qg:=fun b (hb:b<_)=>(Gf b (Nat.lt_of_lt_of_le hb hsz0)).symm.trans (WK b hb)
  refine⟨e,aL,wL,cj,q,hl',?_⟩;rcases hQ.out e aL wL q with rfl|rfl|⟨id,rfl,hxi⟩
  .obtain⟨t,x,y,e1,ht,hxy,h1,h2,rfl⟩:=tz hr' hg
   obtain⟨r,hr2⟩:=PW fN;obtain rfl:=tail_nil (hr2▸e1) ht;refine⟨h1,h2,?_⟩;have hxy':TlX fN kT x y:=hxy;simp only[List.nil_append] at e1⊢;subst e1;cases hk2:fN with
   |none=>
    rw[hk2] at hxy';generalize hz2:kL none=z at hxy';cases hxy' with
    |nil=>exact⟨rfl,Qg,hsz0⟩
    |exit h _=>cases h
   |some i=>
    rw[hk2] at hxy';generalize hz2:kL (some i)=z at hxy';cases hxy' with
    |nil=>exact⟨rfl,Qg,hsz0⟩
    |exit _ _=>simp[kL] at hz2
  .obtain⟨todo,hg⟩:=hg
   obtain⟨h1,h2,todo',rfl⟩:=Ca hr' hg;exact⟨h1,h2,⟨todo',rfl⟩,Qg,hsz0⟩
  .obtain⟨t,x,y,e1,ht,hxy,h1,h2,rfl⟩:=tz hr' hg.2
   obtain rfl:=tail_nil e1 ht;refine⟨h1,h2,?_⟩;have hxy':TlX fN kT x y:=hxy;simp only[List.nil_append] at e1⊢;subst e1;subst hxi;generalize hz2:[Item.inRangeFunc 0]=z at hxy';cases hxy' with
   |nil=>simp[kL] at hz2
   |exit h hy=>
    cases h;exact⟨⟨_,hy,rfl⟩,Qg,hsz0⟩
 .rintro s gL wL g w ⟨π,hl,hr,_⟩
  cases hr<;>rfl
 .rintro s gL wL g w ⟨π,hl,hr,WK,hsz0⟩ w₁ hR oV bD es hs hn hk
  obtain⟨r1,r2,r3⟩:=hC.rel s w w₁ hR;obtain⟨cj,hl',Gf,hag⟩:=hl.rely r1 r2 r3;have hr':=hr.congr (cj:=cj) fun i hv=>Gf i hv.1
  have hag':∀i,(ax wL w₁.tape w₁.drawn).heap.size+i<bD.heap.size->cj ((ax wL w₁.tape w₁.drawn).heap.size+i)=w₁.heap.size+i:=fun i _=>hag i
  have res:Res P S E str cj c main H Z (ax wL w₁.tape w₁.drawn) w₁ g oV bD:=by
   have hl1:LW H Z (ax wL w₁.tape w₁.drawn):=hl'.lw.ax _ _;cases hr' with
   |run h=>exact Bo hS hl'.inj hl'.zero hz hl1 hl'.wr (h.mono fun i hv=>hv) hs hn hag'
   |@ret f a t x cs B D y cs' todo todo' h=>
    by_cases hne:cs=[dz P]
    .exfalso
     subst hne;obtain⟨_,_,hda,_,_⟩:=h.base;obtain⟨hf0,_⟩:=zK h;have agx:f=f0:=hf0;subst agx;obtain⟨fn,hfn⟩:=h0;rw[Az hfn rfl hda rfl] at hs;cases hres:(results fn a.tmps).run P (ax wL w₁.tape w₁.drawn) with
     |halt hh u=>rw[hres] at hs;cases hh<;>simp[GStep.after] at hs
     |ok v u=>
      rw[hres] at hs;simp only[GStep.after,GStep.go.injEq] at hs;obtain⟨rfl,rfl,_⟩:=hs;have hfin:(dz P).finish v=dz P:=by simp[dz,Frame.finish,Frame.at]
      rw[hfin] at hk;cases hk with
      |stop hF=>
       obtain⟨e,a2,q,x⟩:=hF;cases e<;>simp[Sz,G] at x
      |step nx hst _ _=>
       have:=hst (fun _ _=>0) 0;simp[G,dz,stepG,stepG.exec,Frame.at] at this
    .exact step_ret hS hl'.inj hl1 hl'.wr (h.mono fun i hv=>hv) hne hs hag'
  obtain⟨g',w',es',e1,e2,e3,e4,e5,e6,e7⟩:=res;obtain⟨o1,o2⟩:=hl'.qT (fun i hi=>hag i) e3 e4 e5 e6 e7;exact⟨g',w',es',e1,hC.guar s w₁ w' es' o1,cj,o2 _ (hC.up s w₁ w'),e2,fun b hb=>(Gf b (Nat.lt_of_lt_of_le hb hsz0)).symm.trans (WK b hb),Nat.le_trans hsz0 e4⟩
end
end
section
open Go.Conc
open Go.ConcM (OsLater)
namespace aH
def uk:bk->Bool
 |.m=>true
 |_=>false
theorem As {n0:Nat}(h:0<n0)(r:bk):(gid n0 r==0)=uk r:=by cases r<;>simp[gid,uk];omega
structure Cx (Δ:Type) where
 Fd:Nat
 M:Nat
 Wg:Nat
 tF:TypeId
 tW:TypeId
 Dat:Δ->Δ->Obj->Prop
 fin:bk->Δ
 c0:bk->Δ
 N:bk->Nat
structure Gh (Δ:Type) where
 ro:Nat->Prop
 own:Nat->Prop
 mine:Δ
 other:Δ
section
variable {Δ:Type}(X:Cx Δ)
def mA:Addr:=⟨X.Fd,0,none⟩
def msA:Addr:=⟨X.Fd,1,none⟩
def wA:Addr:=⟨X.Wg,0,none⟩
def JB:Addr:=⟨X.Wg,1,none⟩
def ShAt (w:World)(s:Sh):Prop:=w.heap[X.Fd]? =some (.cells #[.int .i32 s.mu,.int .u32 s.ms,.map (some X.M)] X.tF)/\w.heap[X.Wg]? =some (.cells #[.int .u64 s.wg,.int .u32 s.ws] X.tW)
def AY (r:bk)(mine other:Δ)(o:Obj):Prop:=match r with
 |.a=>X.Dat mine other o
 |_=>X.Dat other mine o
structure RX (ro own:Nat->Prop)(w w₁:World):Prop where
 tape:w₁.tape=w.tape
 output:w₁.output=w.output
 size:w.heap.size<=w₁.heap.size
 os:OsLater w.os w₁.os
 keep:∀b,b<w.heap.size->own b\/ro b->w₁.heap[b]? =w.heap[b]?
 live:(∃s,ShAt X w s)->∃s,ShAt X w₁ s
def EvX (ro own:Nat->Prop)(n n':Nat)(e:Event):Prop:=
 (∃c,(own c\/(n<=c/\c<n')\/(ro c/\e.write=false))/\lA c e.loc)\/(e.loc= .cell ⟨X.Fd,2,none⟩/\e.write=false/\e.sync=false)\/∃m,e.loc= .mark m/\oe m
structure DX (deaf:Bool)(ro own:Nat->Prop)(w w':World)(es:Array Event):Prop where
 tape:w'.tape=w.tape
 output:w'.output=w.output
 size:w.heap.size<=w'.heap.size
 os:OsLater w.os w'.os
 keep:∀b,b<w.heap.size->¬own b->w'.heap[b]? =w.heap[b]?
 ev:∀e∈es,EvX X ro own w.heap.size w'.heap.size e
 mute:deaf=true->es=#[]
theorem RX.refl (ro own:Nat->Prop)(w:World):RX X ro own w w:=⟨rfl,rfl,Nat.le_refl _,.refl _,fun _ _ _=>rfl,id⟩
theorem RX.trans {ro own:Nat->Prop}{a b c:World}(h:RX X ro own a b)(k:RX X ro own b c):RX X ro own a c:=
 ⟨k.tape.trans h.tape,k.output.trans h.output,Nat.le_trans h.size k.size,h.os.trans k.os,fun x hx ho=>(k.keep x (Nat.lt_of_lt_of_le hx h.size) ho).trans (h.keep x hx ho),fun l=>k.live (h.live l)⟩
theorem RX.at (ro own:Nat->Prop)(w:World)(d:Nat):RX X ro own w (w.at d):=⟨rfl,rfl,Nat.le_refl _,.refl _,fun _ _ _=>rfl,id⟩
def eT (deaf:Bool)(ro:Nat->Prop):Co (Nat->Prop) where
 R:=fun own w w₁=>RX X ro own w w₁
 D:=fun own w w' es=>DX X deaf ro own w w' es
 up:=fun own w w' b=>own b\/(w.heap.size<=b/\b<w'.heap.size)
 refl:=fun own w=>RX.refl X ro own w
 trans:=fun _ _ _ _ h k=>h.trans X k
def fK:Pc->Nat
 |.un|.out|.la|.ur|.ud|.wk|.k1|.g1|.k2|.g2|.kw|.aq|.fin|.bad=>0
 |_=>1
def eD (p:Pc):Bool:=decide (fK p≠0)||p== .wk
inductive EvK where
 |dis|en|adm|aae|aad|adl|RL|RK|book
def ja (T T':Lo):EvK:=match T.pc with
 |.out=>if T'.pc= .l0 then .dis else .aad
 |.le|.ue|.e1|.e2|.ke=> .en
 |.la=> .adm
 |.ur=> .aae
 |.ud|.wk|.k1|.k2|.kw=> .dis
 |.aq=> .adl
 |.p1|.p2=> .RL
 |.pw=> .RK
 |_=> .book
def pJ (m:Mark):Event:=⟨.mark m,false,true⟩
def EvStop (T T':Lo)(es:Array Event):Prop:=match ja T T' with
 |.dis=>es=#[pJ .disable]
 |.en=>es=#[pJ .enable]
 |.adm=>es=#[pJ (.acquire (mA X))]
 |.aae=>es=#[pJ (.releaseMerge (mA X))]
 |.aad=>es=#[pJ (.releaseMerge (wA X))]
 |.adl=>es=#[pJ (.acquire (wA X))]
 |.RL=>es=#[pJ (.read (JB X))]
 |.RK=>es=#[pJ (.write (JB X))]
 |.book=>ConcM.BookOK X.Fd X.Wg 1 1 es/\∀e∈es,∀a:Addr,e.loc= .cell a->a.block=X.Fd->a.off≠2
variable (P:Program)
def iS (pc:Pc)(own:Nat->Prop):Nat->Prop:=match pc with
 |.la=>fun b=>own b\/b=X.M
 |.ur=>fun b=>own b/\b≠X.M
 |_=>own
def dH (Nx:Lo->Gh Δ->Goroutine->World->Prop)(T':Lo)(γ:Gh Δ):(Nat->Prop)->Goroutine->World->Prop:=
 fun own g w=>∃c,(T'.pc≠.ur->c=γ.mine)/\Nx T' {γ with own:=own,mine:=c} g w
def After (Nx:Lo->Gh Δ->Goroutine->World->Prop)(r:bk)(T':Lo)(γ:Gh Δ)(g:Goroutine)(w:World):Prop:=
 if T'.pc= .quit then ∃q,QuitsD P q 1 g else aD P (uk r) (eT X (eD T'.pc) γ.ro) (dH Nx T' γ) γ.own g w
def Yl (Nx:Lo->Gh Δ->Goroutine->World->Prop)(r:bk)(T:Lo)(γ:Gh Δ)(g:Goroutine)(w:World):Prop:=
 g.status= .running/\g.offers=none/\((T.pc= .us\/T.pc= .d4)->mayWake P g=true)/\
 (T.pc= .ur->∃o,w.heap[X.M]? =some o/\AY X r γ.mine γ.other o)/\
 ∀s,ShAt X w s->s.fits->
  (mv T s=[]->stepG P (uk r) g w= .go {g with status:= .blocked} w #[])/\
  ∀d:Δ,(T.pc= .la->∃o,w.heap[X.M]? =some o/\AY X r γ.mine d o)->mv T s≠[]->
   ∃q∈mv T s,q.1.pc≠.bad->(q.1.pc= .wk->γ.mine=X.fin r)/\∃g' w' es,stepG P (uk r) g w= .go g' w' es/\ShAt X w' q.2/\ConcM.Eff X.Fd X.Wg w w'/\EvStop X T q.1 es/\
    After X P Nx r q.1 {γ with own:=iS X T.pc γ.own,other:=if T.pc= .la then d else γ.other} g' w'
def GP:Nat->bk->Lo->Gh Δ->Goroutine->World->Prop
 |0,_,_,_,_,_=>True
 |k+1,r,T,γ,g,w=>Yl X P (GP k r) r T γ g w
def given (γ:Gh Δ):Gh Δ:={γ with ro:=fun b=>γ.ro b\/γ.own b,own:=fun _=>False}
def eK:Pc->bk
 |.g1=> .a
 |_=> .b
def gZ:Pc->Lo
 |.g1=>at_ .k2 0
 |_=>at_ .kw 0
def NE (Nx:Lo->Gh Δ->Goroutine->World->Prop)(T:Lo)(γ:Gh Δ)(g:Goroutine)(w:World):Prop:=
 g.status= .running/\g.offers=none/\∃g' child,stepG P true g w= .spawn g' child w #[]/\
  (∀K,aD P false (eT X false (given γ).ro) (dH (GP X P K (eK T.pc)) (at_ .out (X.N (eK T.pc))) {given γ with mine:=X.c0 (eK T.pc)}) (fun _=>False) child w)/\
  aD P true (eT X false (given γ).ro) (dH Nx (gZ T.pc) (given γ)) (fun _=>False) g' w
variable (Post:Gh Δ->Goroutine->World->Prop)
def SN (γ:Gh Δ)(g:Goroutine)(w:World):Prop:=
 g.status= .running/\g.offers=none/\∀o,w.heap[X.M]? =some o->X.Dat (X.fin .a) (X.fin .b) o->∃g',stepG P true g w= .go g' w #[pJ (.acquire (wA X))]/\Post γ g' w
def yB:Nat->Lo->Gh Δ->Goroutine->World->Prop
 |0,_,_,_,_=>True
 |k+1,T,γ,g,w=>if T.pc= .g1\/T.pc= .g2 then NE X P (yB k) T γ g w else if T.pc= .aq then SN X P Post γ g w else Yl X P (yB k) .m T γ g w
def AtR (k:Nat):bk->Lo->Gh Δ->Goroutine->World->Prop
 |.m=>yB X P Post k
 |r=>GP X P k r
end
section
variable {Δ:Type}{X:Cx Δ}{P:Program}{Post:Gh Δ->Goroutine->World->Prop}{r:bk}{k:Nat}{T:Lo}{γ:Gh Δ}{g:Goroutine}{w:World}
theorem AtR.running (h:AtR X P Post (k+1) r T γ g w):g.status= .running/\g.offers=none:=by
 cases r with
 |m=>
  have h':yB X P Post (k+1) T γ g w:=h;unfold yB at h';split at h'
  .exact⟨h'.1,h'.2.1⟩
  .split at h'
   .exact⟨h'.1,h'.2.1⟩
   .exact⟨h'.1,h'.2.1⟩
 |a=>exact⟨h.1,h.2.1⟩
 |b=>exact⟨h.1,h.2.1⟩
theorem AtR.law (h:AtR X P Post (k+1) r T γ g w)(hg:¬(T.pc= .g1\/T.pc= .g2))(ha:T.pc≠.aq):Yl X P (AtR X P Post k r) r T γ g w:=by
 cases r with
 |m=>
  have h':yB X P Post (k+1) T γ g w:=h;unfold yB at h';rw[if_neg hg,if_neg ha] at h';exact h'
 |a=>exact h
 |b=>exact h
end
def iV:Pc->Bool
 |.k1|.x1|.p1|.e1|.g1|.k2|.x2|.p2|.e2|.g2|.kw|.w1|.w2|.pw|.w3|.w4|.ke|.aq|.fin|.bad=>false
 |_=>true
def mc:Pc->Bool
 |.k1|.x1|.p1|.e1|.g1|.k2|.x2|.p2|.e2|.g2|.kw|.w1|.w2|.pw|.w3|.w4|.ke|.aq=>true
 |_=>false
def fo:Pc->Bool
 |.l0|.r0|.sq|.r1|.c2|.s1|.t2|.r2|.a1|.r3|.u0|.uc|.ul|.us=>true
 |_=>false
def jx:Pc->Bool
 |.d1|.d2|.d3|.d4=>true
 |_=>false
def kg:Pc->Bool
 |.le|.la|.ur|.ud|.ue|.wk|.k1|.p1|.e1|.k2|.p2|.e2|.kw|.pw|.ke=>true
 |_=>false
def jZ:Pc->Bool
 |.x1|.x2|.w1|.w2|.w3|.w4=>true
 |_=>false
def lr:Pc->Nat
 |.le=>5|.la=>4|.ur=>3|.ud=>2|.u0=>1|.ue=>10|.out=>9|.wk=>8|.d1=>7
 |.k1=>4|.x1=>3|.p1=>3|.e1=>2|.g1=>1|.k2=>4|.x2=>3|.p2=>3|.e2=>2|.g2=>1|.kw=>2|.w1=>1|.pw=>2|.w3=>1|.ke=>3|.aq=>2|.fin=>1
 |_=>0
theorem Cw (p:Pc):lr p<=10:=by cases p<;>simp[lr]
def i9 (T:Lo)(n:Nat):Lo:={T with n:=n}
theorem ab1 (T:Lo)(n:Nat):hd (i9 T n)=i9 (hd T) n:=by
 obtain⟨pc,old,nw,aw,sv,it,m⟩:=T;simp only[hd,apply_ite (fun x=>i9 x n)];rfl
theorem ac7 (T:Lo)(n:Nat):cl (i9 T n)=i9 (cl T) n:=by
 obtain⟨pc,old,nw,aw,sv,it,m⟩:=T;simp only[cl,apply_ite (fun x=>i9 x n)];rfl
theorem afK (T:Lo)(n:Nat):pm (i9 T n)=pm T:=by
 obtain⟨pc,old,nw,aw,sv,it,m⟩:=T;cases pc<;>rfl
theorem CR (T:Lo):(hd T).pc= .c2\/(hd T).pc= .sq\/(hd T).pc= .bad:=by
 simp only[hd]
 (repeat' split)<;>simp
theorem GA (T:Lo):(cl T).pc= .c2:=by
 simp only[cl]
 (repeat' split)<;>simp
theorem ab0 (T:Lo):(hd T).n=T.n:=by
 simp only[hd]
 (repeat' split)<;>simp
theorem ac6 (T:Lo):(cl T).n=T.n:=by
 simp only[cl]
 (repeat' split)<;>simp
theorem PL {T:Lo}{s:Sh}(hT:fo T.pc=true):mv T s=(mv (i9 (pm T) 1) ⟨s.mu,s.ms,0,0⟩).map (fun q=>(i9 q.1 T.n,⟨q.2.mu,q.2.ms,s.wg,s.ws⟩)):=by
 obtain⟨pc,old,nw,aw,sv,it,n⟩:=T;obtain⟨mu,ms,wg,ws⟩:=s;have h1:∀(T:Lo),i9 (hd (i9 T 1)) n=hd (i9 T n):=fun T=>by rw[ab1,ab1];rfl
 have h2:∀(T:Lo),i9 (cl (i9 T 1)) n=cl (i9 T n):=fun T=>by rw[ac7,ac7];rfl
 cases pc<;>simp only[fo,Bool.false_eq_true] at hT
 case r0=>simpa [mv,pm,i9] using(h1 {pc:= .r0,old:=mu}).symm
 case r1=>simpa [mv,pm,i9] using(h1 {pc:= .r1,old:=mu,nw:=nw,aw:=aw,sv:=sv,it:=IntKind.i64.wrap (it+1)}).symm
 case r3=>simpa [mv,pm,i9] using(h1 {pc:= .r3,old:=mu,nw:=nw,aw:=aw,sv:=sv,it:=it}).symm
 case sq=>
  have e:=(h2 {pc:= .sq,old:=old,nw:=nw,aw:=aw,sv:=sv,it:=it}).symm;simp only[i9] at e;simp only[mv,pm,i9]
  by_cases hi:it<4
  .simp[hi];exact e
  .simp[hi];exact e
 case a1=>
  by_cases hp:(mu=12/\nw=-11)\/(mu=20/\(nw=-7\/nw=-11))
  .have e1:mv ⟨.a1,old,nw,aw,sv,it,n⟩ ⟨mu,ms,wg,ws⟩=[(at_ .le n,⟨mu+nw,ms,wg,ws⟩)]:=if_pos hp
   have e2:mv (i9 (pm ⟨.a1,old,nw,aw,sv,it,n⟩) 1) ⟨mu,ms,0,0⟩=[(at_ .le 1,⟨mu+nw,ms,0,0⟩)]:=if_pos hp;exact e1.trans (by show _=List.map _ (mv (i9 (pm ⟨.a1,old,nw,aw,sv,it,n⟩) 1) ⟨mu,ms,0,0⟩);rw[e2];rfl)
  .have e1:mv ⟨.a1,old,nw,aw,sv,it,n⟩ ⟨mu,ms,wg,ws⟩=[(at_ .bad n,⟨mu,ms,wg,ws⟩)]:=if_neg hp
   have e2:mv (i9 (pm ⟨.a1,old,nw,aw,sv,it,n⟩) 1) ⟨mu,ms,0,0⟩=[(at_ .bad 1,⟨mu,ms,0,0⟩)]:=if_neg hp;exact e1.trans (by show _=List.map _ (mv (i9 (pm ⟨.a1,old,nw,aw,sv,it,n⟩) 1) ⟨mu,ms,0,0⟩);rw[e2];rfl)
 case r2=>
  have e:=(h1 {pc:= .r2,old:=mu,nw:=nw,aw:=true,sv:=sv,it:=0}).symm;simp only[i9] at e;simp only[mv,pm,i9]
  (repeat' split)<;>simp_all
 all_goals
  simp only[mv,pm,i9]
  (repeat' split)<;>simp_all
theorem An {T:Lo}{s:Sh}{q:Lo×Sh}(hT:fo T.pc=true)(h:q∈mv T s):q.1.pc≠.wk/\q.1.n=T.n/\(q.1.pc= .bad\/(iV q.1.pc=true/\pw q.1={pc:= .out})):=by
 have hh:=CR;have hc:=GA;have hn:=ab0;have cn:=ac6;have pwh:∀T,(hd T).pc= .bad\/(iV (hd T).pc=true/\pw (hd T)={pc:= .out}):=fun T=>by
  rcases hh T with e|e|e
  .exact .inr ⟨by rw[e];rfl,by unfold pw;rw[e]⟩
  .exact .inr ⟨by rw[e];rfl,by unfold pw;rw[e]⟩
  .exact .inl e
 have hw:∀T,(hd T).pc≠.wk:=fun T=>by rcases hh T with e|e|e<;>rw[e]<;>simp
 have pwc:∀T,iV (cl T).pc=true/\pw (cl T)={pc:= .out}:=fun T=>⟨by rw[hc T];rfl,by unfold pw;rw[hc T]⟩
 obtain⟨pc,old,nw,aw,sv,it,n⟩:=T;obtain⟨mu,ms,wg,ws⟩:=s;cases pc<;>simp only[fo,Bool.false_eq_true] at hT<;>simp only[mv] at h
 case r0=>simp only[List.mem_singleton] at h;subst h;exact⟨hw _,hn _,pwh _⟩
 case r1=>simp only[List.mem_singleton] at h;subst h;exact⟨hw _,hn _,pwh _⟩
 case r3=>simp only[List.mem_singleton] at h;subst h;exact⟨hw _,hn _,pwh _⟩
 case sq=>
  rcases List.mem_cons.1 h with rfl|h
  .exact⟨by rw[hc];simp,cn _,.inr (pwc _)⟩
  .split at h
   .simp only[List.mem_singleton] at h;subst h;exact⟨by simp,rfl,.inr ⟨rfl,rfl⟩⟩
   .simp at h
 case r2=>
  split at h
  .simp only[List.mem_singleton] at h;subst h;exact⟨hw _,hn _,pwh _⟩
  ·(repeat' split at h)<;>simp only[List.mem_singleton] at h<;>subst h<;>simp[iV,pw]
 all_goals ((repeat' split at h)<;>simp only[List.mem_cons,List.not_mem_nil,or_false] at h<;>first|contradiction|(obtain rfl:=h;simp[iV,pw];done)|(obtain rfl:=h;simp[iV,pw];split<;>simp)|(rcases h with rfl|rfl<;>simp[iV,pw]))
theorem uI {T:Lo}{s:Sh}{q:Lo×Sh}(hT:fo T.pc=true)(h:q∈mv T s):(pm q.1,q.2.mu,q.2.ms)∈xH (pm T) s.mu s.ms/\q.2.wg=s.wg/\q.2.ws=s.ws:=by
 have hpc:=(An hT h).1;rw[PL hT] at h;obtain⟨q0,h0,rfl⟩:=List.mem_map.1 h;refine⟨List.mem_map.2 ⟨q0,List.mem_filter.2 ⟨h0,by simpa [i9] using hpc⟩,by rw[afK]⟩,rfl,rfl⟩
theorem FT {T:Lo}(hT:fo T.pc=true):pw T={pc:= .out}:=by
 unfold pw;cases hp:T.pc<;>rw[hp] at hT<;>simp[fo] at hT<;>rfl
theorem uH {T:Lo}{s:Sh}{q:Lo×Sh}(hT:jx T.pc=true)(h:q∈mv T s):(pw q.1,q.2.wg,q.2.ws)∈R6 (pw T) s.wg s.ws/\q.2.mu=s.mu/\q.2.ms=s.ms/\q.1.n=T.n/\(q.1.pc= .bad\/(iV q.1.pc=true/\pm q.1=pm T/\lr q.1.pc<=lr T.pc)):=by
 obtain⟨pc,old,nw,aw,sv,it,n⟩:=T;obtain⟨mu,ms,wg,ws⟩:=s;cases pc<;>simp only[jx,Bool.false_eq_true] at hT<;>simp only[mv] at h<;>simp only[pw,R6,gw,mv]
 all_goals ((repeat' split at h)<;>simp only[List.mem_singleton] at h<;>subst h<;>simp_all [iV,pm,pw,lr])
theorem FZ {T:Lo}{s:Sh}{q:Lo×Sh}(hT:jZ T.pc=true)(h:q∈mv T s):(p0 q.1,q.2.wg,q.2.ws)∈mv0 (p0 T) s.wg s.ws/\q.2.mu=s.mu/\q.2.ms=s.ms/\(q.1.pc= .bad\/mc q.1.pc=true):=by
 obtain⟨pc,old,nw,aw,sv,it,n⟩:=T;obtain⟨mu,ms,wg,ws⟩:=s;cases pc<;>simp only[jZ,Bool.false_eq_true] at hT<;>simp only[mv] at h<;>simp only[p0,mv0,mv]
 all_goals ((repeat' split at h)<;>simp only[List.mem_singleton,List.not_mem_nil] at h<;>first|(subst h;simp_all [mc,p0])|contradiction)
theorem qY {T:Lo}{s:Sh}{q:Lo×Sh}(hT:kg T.pc=true)(h:q∈mv T s):q.2=s/\(iV T.pc=true->pm q.1=pm T)/\pw q.1=pw T/\p0 q.1=p0 T/\lr q.1.pc<lr T.pc/\iV q.1.pc=iV T.pc/\mc q.1.pc=mc T.pc/\q.1.pc≠.bad/\(iV T.pc=true->q.1.n=T.n):=by
 obtain⟨pc,old,nw,aw,sv,it,n⟩:=T;cases pc<;>simp only[kg,Bool.false_eq_true] at hT<;>simp only[mv,List.mem_singleton] at h<;>subst h<;>simp[pm,pw,p0,lr,iV,mc]
def nr (L:bk->Lo)(r1 r2:Nat):Nat:=((L .a).n+(L .b).n)*1400+(r1+r2)*32+(lr (L .m).pc+lr (L .a).pc+lr (L .b).pc)
def upd {α:Type}(L:bk->α)(r:bk)(x:α):bk->α:=fun y=>if y=r then x else L y
theorem upd_same {α:Type}(L:bk->α)(r:bk)(x:α):upd L r x r=x:=by simp[upd]
theorem upd_ne {α:Type}(L:bk->α){r y:bk}(x:α)(h:y≠r):upd L r x y=L y:=by simp[upd,h]
structure uv (L:bk->Lo)(s:Sh)(r1 r2:Nat):Prop where
 YH:Jz ⟨pm (L .a),pm (L .b),s.mu,s.ms⟩ r1
 lm:r1<27
 P2:NV ⟨p0 (L .m),pw (L .a),pw (L .b),s.wg,s.ws⟩ r2
 st:mc (L .m).pc=true
 wa:iV (L .a).pc=true
 wb:iV (L .b).pc=true
section
variable {L:bk->Lo}{s:Sh}{r1 r2:Nat}{q:Lo×Sh}
theorem uv.VB (h:uv L s r1 r2)(hq:q∈mv (L .a) s)(hu:(L .a).pc≠.un):q.1.pc≠.bad/\∃r1' r2',uv (upd L .a q.1) q.2 r1' r2'/\nr (upd L .a q.1) r1' r2'<nr L r1 r2:=by
 have hl:=Cw q.1.pc;have hw:=h.wa;obtain⟨hM,hl1,hG,hst,xJ,hwb⟩:=h;have nq:∀r1' r2',nr (upd L .a q.1) r1' r2'=(q.1.n+(L .b).n)*1400+(r1'+r2')*32+(lr (L .m).pc+lr q.1.pc+lr (L .b).pc):=fun r1' r2'=>by simp[nr,upd]<;>omega
 have lj:nr L r1 r2=((L .a).n+(L .b).n)*1400+(r1+r2)*32+(lr (L .m).pc+lr (L .a).pc+lr (L .b).pc):=by simp[nr]<;>omega
 have FM:=hM.facts;have FG:=hG.facts
 by_cases c1:kg (L .a).pc=true
 .obtain⟨e0,e1,e2,_,e4,e5,_,e7,e8⟩:=qY c1 hq
  have e1:=e1 hw;have e8:=e8 hw;refine⟨e7,r1,r2,⟨?_,hl1,?_,by simpa [upd] using hst,?_,?_⟩,by rw[nq,lj,e8];omega⟩
  .simp[upd,e0,e1];exact hM
  .simp[upd,e0,e2];exact hG
  .simp[upd,e5,hw,xJ]
  .simp[upd,e5,hw,hwb]
 by_cases c2:fo (L .a).pc=true
 .obtain⟨m1,m2,m3⟩:=uI c2 hq
  obtain⟨_,n1,n2⟩:=An c2 hq;obtain⟨r1',i1,i2,i3⟩:=hM.RH m1;have hnb:q.1.pc≠.bad:=fun e=>by
   have:=FM.noA _ m1
   apply this
   simp[pm,e]
  obtain⟨w1,w2⟩:=n2.resolve_left hnb;have hlt:r1'<r1:=i2.resolve_left (fun e=>by
   have e:(pm (L .a)).pc= .out:=e
   revert e
   cases hp:(L .a).pc<;>rw[hp] at c2<;>simp[fo] at c2<;>simp[pm,hp])
  refine⟨hnb,r1',r2,⟨?_,i3,?_,by simpa [upd] using hst,?_,?_⟩,by rw[nq,lj,n1];have:=Cw (L .a).pc;omega⟩
  .simp[upd];exact i1
  .rw[FT c2] at hG
   simp[upd,m2,m3,w2];exact hG
  .simp[upd,w1,xJ]
  .simp[upd,w1,hwb]
 by_cases c3:jx (L .a).pc=true
 .obtain⟨m1,m2,m3,m4,m5⟩:=uH c3 hq
  obtain⟨r2',i1,i2⟩:=hG.step (H:=⟨p0 (L .m),pw q.1,pw (L .b),q.2.wg,q.2.ws⟩) (by
   unfold GG.succs;exact List.mem_append_left _ (List.mem_append_right _ (List.mem_map.2 ⟨_,m1,rfl⟩)))
  have hnb:q.1.pc≠.bad:=fun e=>by
   have:=(FG.no ⟨p0 (L .m),pw q.1,pw (L .b),q.2.wg,q.2.ws⟩ (by
    unfold GG.succs;exact List.mem_append_left _ (List.mem_append_right _ (List.mem_map.2 ⟨_,m1,rfl⟩)))).2.1
   apply this
   simp[pw,e]
  obtain⟨w1,w2,w3⟩:=m5.resolve_left hnb;refine⟨hnb,r1,r2',⟨?_,hl1,?_,by simpa [upd] using hst,?_,?_⟩,by rw[nq,lj,m4];omega⟩
  .simp[upd,m2,m3,w2];exact hM
  .simp[upd];exact i1
  .simp[upd,w1,xJ]
  .simp[upd,w1,hwb]
 .have ho:(L .a).pc= .out\/(L .a).pc= .quit:=by
   revert c1 c2 c3 hw hu
   cases (L .a).pc<;>simp[kg,fo,jx,iV]
  rcases ho with ho|ho
  .have XS:pm (L .a)={pc:= .out}:=by simp[pm,ho]
   have epw:pw (L .a)={pc:= .out}:=by simp[pw,ho]
   rw[XS] at hM;rw[epw] at hG;simp only[mv,ho] at hq;rcases List.mem_cons.1 hq with rfl|hq
   .refine⟨by simp,r1,r2,⟨?_,hl1,?_,by simpa [upd] using hst,?_,?_⟩,by rw[nq,lj,ho];simp[lr]⟩
    .simp[upd,pm];exact hM
    .simp[upd,pw];exact hG
    .first|(simp[upd];done)|(simp[upd];first|exact xJ|exact hwb|rfl)
    .first|(simp[upd];done)|(simp[upd];first|exact xJ|exact hwb|rfl)
   .split at hq
    .rename_i hn
     simp only[List.mem_singleton] at hq;subst hq;obtain⟨r1',i1,_,i3⟩:=hM.RH (q:=({pc:= .l0},s.mu,s.ms)) (by simp[xH,mv,pm]);refine⟨by simp,r1',r2,⟨?_,i3,?_,by simpa [upd] using hst,?_,?_⟩,by rw[nq,lj,ho];simp[lr];omega⟩
     .simp[upd,pm];exact i1
     .simp[upd,pw];exact hG
     .first|(simp[upd];done)|(simp[upd];first|exact xJ|exact hwb|rfl)
     .first|(simp[upd];done)|(simp[upd];first|exact xJ|exact hwb|rfl)
    .simp at hq
  .simp[mv,ho] at hq
theorem uv.Vz (h:uv L s r1 r2)(hq:q∈mv (L .b) s)(hu:(L .b).pc≠.un):q.1.pc≠.bad/\∃r1' r2',uv (upd L .b q.1) q.2 r1' r2'/\nr (upd L .b q.1) r1' r2'<nr L r1 r2:=by
 have hl:=Cw q.1.pc;have hw:=h.wb;obtain⟨hM,hl1,hG,hst,xJ,hwb⟩:=h;have nq:∀r1' r2',nr (upd L .b q.1) r1' r2'=(q.1.n+(L .a).n)*1400+(r1'+r2')*32+(lr (L .m).pc+lr q.1.pc+lr (L .a).pc):=fun r1' r2'=>by simp[nr,upd]<;>omega
 have lj:nr L r1 r2=((L .b).n+(L .a).n)*1400+(r1+r2)*32+(lr (L .m).pc+lr (L .b).pc+lr (L .a).pc):=by simp[nr]<;>omega
 have FM:=hM.facts;have FG:=hG.facts
 by_cases c1:kg (L .b).pc=true
 .obtain⟨e0,e1,e2,_,e4,e5,_,e7,e8⟩:=qY c1 hq
  have e1:=e1 hw;have e8:=e8 hw;refine⟨e7,r1,r2,⟨?_,hl1,?_,by simpa [upd] using hst,?_,?_⟩,by rw[nq,lj,e8];omega⟩
  .simp[upd,e0,e1];exact hM
  .simp[upd,e0,e2];exact hG
  .simp[upd,e5,hw,xJ]
  .simp[upd,e5,hw,hwb]
 by_cases c2:fo (L .b).pc=true
 .obtain⟨m1,m2,m3⟩:=uI c2 hq
  obtain⟨_,n1,n2⟩:=An c2 hq;obtain⟨r1',i1,i2,i3⟩:=hM.RG m1;have hnb:q.1.pc≠.bad:=fun e=>by
   have:=FM.noB _ m1
   apply this
   simp[pm,e]
  obtain⟨w1,w2⟩:=n2.resolve_left hnb;have hlt:r1'<r1:=i2.resolve_left (fun e=>by
   have e:(pm (L .b)).pc= .out:=e
   revert e
   cases hp:(L .b).pc<;>rw[hp] at c2<;>simp[fo] at c2<;>simp[pm,hp])
  refine⟨hnb,r1',r2,⟨?_,i3,?_,by simpa [upd] using hst,?_,?_⟩,by rw[nq,lj,n1];have:=Cw (L .b).pc;omega⟩
  .simp[upd];exact i1
  .rw[FT c2] at hG
   simp[upd,m2,m3,w2];exact hG
  .simp[upd,w1,xJ]
  .simp[upd,w1,hwb]
 by_cases c3:jx (L .b).pc=true
 .obtain⟨m1,m2,m3,m4,m5⟩:=uH c3 hq
  obtain⟨r2',i1,i2⟩:=hG.step (H:=⟨p0 (L .m),pw (L .a),pw q.1,q.2.wg,q.2.ws⟩) (by
   unfold GG.succs;exact List.mem_append_right _ (List.mem_map.2 ⟨_,m1,rfl⟩))
  have hnb:q.1.pc≠.bad:=fun e=>by
   have:=(FG.no ⟨p0 (L .m),pw (L .a),pw q.1,q.2.wg,q.2.ws⟩ (by
    unfold GG.succs;exact List.mem_append_right _ (List.mem_map.2 ⟨_,m1,rfl⟩))).2.2
   apply this
   simp[pw,e]
  obtain⟨w1,w2,w3⟩:=m5.resolve_left hnb;refine⟨hnb,r1,r2',⟨?_,hl1,?_,by simpa [upd] using hst,?_,?_⟩,by rw[nq,lj,m4];omega⟩
  .simp[upd,m2,m3,w2];exact hM
  .simp[upd];exact i1
  .simp[upd,w1,xJ]
  .simp[upd,w1,hwb]
 .have ho:(L .b).pc= .out\/(L .b).pc= .quit:=by
   revert c1 c2 c3 hw hu
   cases (L .b).pc<;>simp[kg,fo,jx,iV]
  rcases ho with ho|ho
  .have XS:pm (L .b)={pc:= .out}:=by simp[pm,ho]
   have epw:pw (L .b)={pc:= .out}:=by simp[pw,ho]
   rw[XS] at hM;rw[epw] at hG;simp only[mv,ho] at hq;rcases List.mem_cons.1 hq with rfl|hq
   .refine⟨by simp,r1,r2,⟨?_,hl1,?_,by simpa [upd] using hst,?_,?_⟩,by rw[nq,lj,ho];simp[lr]⟩
    .simp[upd,pm];exact hM
    .simp[upd,pw];exact hG
    .first|(simp[upd];done)|(simp[upd];first|exact xJ|exact hwb|rfl)
    .first|(simp[upd];done)|(simp[upd];first|exact xJ|exact hwb|rfl)
   .split at hq
    .rename_i hn
     simp only[List.mem_singleton] at hq;subst hq;obtain⟨r1',i1,_,i3⟩:=hM.RG (q:=({pc:= .l0},s.mu,s.ms)) (by simp[xH,mv,pm]);refine⟨by simp,r1',r2,⟨?_,i3,?_,by simpa [upd] using hst,?_,?_⟩,by rw[nq,lj,ho];simp[lr];omega⟩
     .simp[upd,pm];exact i1
     .simp[upd,pw];exact hG
     .first|(simp[upd];done)|(simp[upd];first|exact xJ|exact hwb|rfl)
     .first|(simp[upd];done)|(simp[upd];first|exact xJ|exact hwb|rfl)
    .simp at hq
  .simp[mv,ho] at hq
theorem uv.Vy (h:uv L s r1 r2)(hq:q∈mv (L .m) s):q.1.pc≠.bad/\∃r1' r2',uv (upd L .m q.1) q.2 r1' r2'/\nr (upd L .m q.1) r1' r2'<nr L r1 r2:=by
 have hl:=Cw q.1.pc;obtain⟨hM,hl1,hG,hst,xJ,hwb⟩:=h;have nq:∀r1' r2',nr (upd L .m q.1) r1' r2'=((L .a).n+(L .b).n)*1400+(r1'+r2')*32+(lr q.1.pc+lr (L .a).pc+lr (L .b).pc):=fun r1' r2'=>by simp[nr,upd]
 have lj:nr L r1 r2=((L .a).n+(L .b).n)*1400+(r1+r2)*32+(lr (L .m).pc+lr (L .a).pc+lr (L .b).pc):=rfl;have FG:=hG.facts
 by_cases c1:kg (L .m).pc=true
 .obtain⟨e0,_,_,e3,e4,_,e6,e7,_⟩:=qY c1 hq
  refine⟨e7,r1,r2,⟨?_,hl1,?_,?_,?_,?_⟩,by rw[nq,lj];omega⟩
  .simp[upd,e0];exact hM
  .simp[upd,e0,e3];exact hG
  .simp[upd,e6,hst]
  .simp[upd,xJ]
  .simp[upd,hwb]
 by_cases c2:jZ (L .m).pc=true
 .obtain⟨m1,m2,m3,m5⟩:=FZ c2 hq
  have hm:(⟨p0 q.1,pw (L .a),pw (L .b),q.2.wg,q.2.ws⟩:GG)∈GG.succs ⟨p0 (L .m),pw (L .a),pw (L .b),s.wg,s.ws⟩:=by
   unfold GG.succs;exact List.mem_append_left _ (List.mem_append_left _ (List.mem_append_right _ (List.mem_map.2 ⟨_,m1,rfl⟩)))
  obtain⟨r2',i1,i2⟩:=hG.step hm;have hnb:q.1.pc≠.bad:=fun e=>by
   have:=(FG.no _ hm).1
   apply this
   simp[p0,e]
  refine⟨hnb,r1,r2',⟨?_,hl1,?_,?_,?_,?_⟩,by rw[nq,lj];omega⟩
  .simp[upd,m2,m3];exact hM
  .simp[upd];exact i1
  .simp[upd,m5.resolve_left hnb]
  .simp[upd,xJ]
  .simp[upd,hwb]
 .exfalso
  revert c1 c2 hst hq
  cases hp:(L .m).pc<;>simp[kg,jZ,mc,mv,hp]
theorem uv.move (h:uv L s r1 r2){r:bk}(hq:q∈mv (L r) s)(hu:(L r).pc≠.un):q.1.pc≠.bad/\∃r1' r2',uv (upd L r q.1) q.2 r1' r2'/\nr (upd L r q.1) r1' r2'<nr L r1 r2:=by
 cases r with
 |m=>exact h.Vy hq
 |a=>exact h.VB hq hu
 |b=>exact h.Vz hq hu
theorem uv.fits (h:uv L s r1 r2):s.fits:=⟨h.YH.facts.fits.1,h.YH.facts.fits.2.1,h.P2.facts.fits.2.2.1,h.P2.facts.fits.2.2.2⟩
theorem uv.go {N:Nat}(h:uv L s r1 r2)(hg:(L .m).pc= .g1\/(L .m).pc= .g2)(hn:(L (eK (L .m).pc)).n=N):
  (L (eK (L .m).pc)).pc= .un/\∃r2',uv (upd (upd L .m (gZ (L .m).pc)) (eK (L .m).pc) (at_ .out N)) s r1 r2'/\nr (upd (upd L .m (gZ (L .m).pc)) (eK (L .m).pc) (at_ .out N)) r1 r2'<nr L r1 r2:=by
 obtain⟨hM,hl1,hG,hst,xJ,hwb⟩:=h;have FG:=hG.facts;have RD:∀T:Lo,(pw T).pc= .un->T.pc= .un:=fun T=>by cases hp:T.pc<;>simp[pw,hp]
 rcases hg with hg|hg
 .have e0:p0 (L .m)={pc:= .g1}:=by simp[p0,hg]
  rw[e0] at hG FG;have ha:(L .a).pc= .un:=RD _ (FG.Zk (.inr rfl)).1;have XS:pm (L .a)={pc:= .out}:=by simp[pm,ha]
  have epw:pw (L .a)={pc:= .un}:=by simp[pw,ha]
  have hc:eK (L .m).pc= .a:=by rw[hg];rfl
  rw[hc] at hn⊢;have hb:gZ (L .m).pc=at_ .k2 0:=by rw[hg];rfl
  rw[hb];rw[XS] at hM;obtain⟨r2',i1,i2⟩:=hG.step (H:=⟨{pc:= .x2},{pc:= .out},pw (L .b),s.wg,s.ws⟩) (by unfold GG.succs;simp);refine⟨ha,r2',⟨?_,hl1,?_,?_,?_,?_⟩,?_⟩
  .simp[upd,pm];exact hM
  .simp[upd,pw,p0];exact i1
  .first|(simp[upd];done)|(simp[upd];rfl)
  .first|(simp[upd];done)|(simp[upd];first|exact xJ|exact hwb|rfl)
  .simp[upd,hwb]
  .simp[nr,upd,lr,hg,ha,hn];omega
 .have e0:p0 (L .m)={pc:= .g2}:=by simp[p0,hg]
  rw[e0] at hG FG;have ha:(L .b).pc= .un:=RD _ (FG.Zj (.inr rfl)).2;have XS:pm (L .b)={pc:= .out}:=by simp[pm,ha]
  have epw:pw (L .b)={pc:= .un}:=by simp[pw,ha]
  have hc:eK (L .m).pc= .b:=by rw[hg];rfl
  rw[hc] at hn⊢;have hb:gZ (L .m).pc=at_ .kw 0:=by rw[hg];rfl
  rw[hb];rw[XS] at hM;obtain⟨r2',i1,i2⟩:=hG.step (H:=⟨{pc:= .w1},pw (L .a),{pc:= .out},s.wg,s.ws⟩) (by unfold GG.succs;simp);refine⟨ha,r2',⟨?_,hl1,?_,?_,?_,?_⟩,?_⟩
  .simp[upd,pm];exact hM
  .simp[upd,pw,p0];exact i1
  .first|(simp[upd];done)|(simp[upd];rfl)
  .simp[upd,xJ]
  .first|(simp[upd];done)|(simp[upd];first|exact xJ|exact hwb|rfl)
  .simp[nr,upd,lr,hg,ha,hn];omega
end
def born (L:bk->Lo)(r:bk):Prop:=(L r).pc≠.un
instance (L:bk->Lo)(r:bk):Decidable (born L r):=by unfold born;infer_instance
def nb (L:bk->Lo):Nat:=(if(L .a).pc= .un then 0 else 1)+(if(L .b).pc= .un then 0 else 1)
def Lo.sleeps (T:Lo)(s:Sh):Bool:=(T.pc== .s1&&s.ms==0)||(T.pc== .w3&&s.ws==0)
def past:Pc->Bool
 |.wk|.d1|.d2|.d3|.d4|.quit=>true
 |_=>false
def K2:bk->bk
 |.a=> .b
 |_=> .a
def hold (L:bk->Lo):Option bk:=if(L .a).pc= .ur then some .a else if(L .b).pc= .ur then some .b else none
section
variable {Δ:Type}(X:Cx Δ)(P:Program)(Post:Gh Δ->Goroutine->World->Prop)
def Sit (k:Nat)(r:bk)(T:Lo)(γ:Gh Δ)(ρ:Rk)(aw d q:Nat)(s:Sh)(g:Goroutine)(w:World):Prop:=
 (T.pc≠.quit/\d=fK T.pc/\aw=1/\gz P (uk r) (eT X (eD T.pc) γ.ro) (dH (AtR X P Post k r) T γ) ρ γ.own g w)\/
 (T.pc≠.quit/\d=fK T.pc/\aw=0/\T.sleeps s=true/\∃g₀,g={g₀ with status:= .blocked}/\∀w₁,RX X γ.ro γ.own w w₁->dH (AtR X P Post k r) T γ γ.own g₀ w₁)\/
 (T.pc= .quit/\aw=0/\QuitsD P q d g)
end
section
variable {Δ:Type}{X:Cx Δ}{P:Program}{Post:Gh Δ->Goroutine->World->Prop}{k:Nat}{r:bk}{T:Lo}{γ:Gh Δ}{ρ:Rk}{aw d q:Nat}{s s':Sh}{g x x':Goroutine}{w w₁:World}
theorem iL {own:Nat->Prop}(h:dH (AtR X P Post (k+1) r) T γ own g w):g.status= .running/\g.offers=none:=let⟨_,_,h⟩:=h;h.running
theorem iU {b:Bool}{own:Nat->Prop}(h:gz P (uk r) (eT X b γ.ro) (dH (AtR X P Post (k+1) r) T γ) ρ own g w):g.status= .running:=by
 cases ρ with
 |zero=>exact(iL (h w (RX.refl X _ _ w))).1
 |mk f=>exact h.elim (fun h=>(iL (h w (RX.refl X _ _ w))).1) fun h=>h.1
theorem wz {b:Bool}{S:(Nat->Prop)->Goroutine->World->Prop}{own:Nat->Prop}(h:∀w₁,RX X γ.ro own w w₁->S own g w₁):gz P (uk r) (eT X b γ.ro) S ρ own g w:=by
 cases ρ with
 |zero=>exact h
 |mk f=>exact .inl h
theorem Sit.status (h:Sit X P Post (k+1) r T γ ρ aw d q s g w):g.status= .running\/g.status= .blocked\/g.status= .finished:=by
 rcases h with⟨_,_,_,hg⟩|⟨_,_,_,_,g₀,rfl,_⟩|⟨_,_,hq⟩
 .exact .inl (iU hg)
 .exact .inr (.inl rfl)
 .exact hq.status.elim .inl fun x=> .inr (.inr x)
theorem Sit.other (h:Sit X P Post (k+1) r T γ ρ aw d q s g w)(hr:RX X γ.ro γ.own w w₁)(hw:T.sleeps s=true->T.sleeps s'=true\/(mayWake P x=true/\x'.status= .running)):
  ∃aw',Sit X P Post (k+1) r T γ ρ aw' d q s' (woken P x x' w₁ g) w₁:=by
 rcases h with⟨h1,h2,h3,hg⟩|⟨h1,h2,h3,h4,g₀,rfl,hg⟩|⟨h1,h2,hq⟩
 .refine⟨1,.inl ⟨h1,h2,rfl,?_⟩⟩
  have:woken P x x' w₁ g=g:=by unfold woken;split;exact again_running _ (.inl (iU hg));rfl
  rw[this];exact hg.rely hr
 .have hst:=hg w₁ hr
  have hg':∀w₂,RX X γ.ro γ.own w₁ w₂->dH (AtR X P Post (k+1) r) T γ γ.own g₀ w₂:=fun w₂ h₂=>hg w₂ (hr.trans X h₂)
  by_cases hc:(mayWake P x&&x'.status != .blocked&&x'.status != .waiting)=true
  .refine⟨1,.inl ⟨h1,h2,rfl,?_⟩⟩
   have:woken P x x' w₁ {g₀ with status:= .blocked}=g₀:=by unfold woken;rw[if_pos hc];exact ConcR.again_blocked (iL hst).1 (iL hst).2 _
   rw[this];exact wz hg'
  .have:woken P x x' w₁ {g₀ with status:= .blocked}={g₀ with status:= .blocked}:=by unfold woken;rw[if_neg hc]
   rw[this];rcases hw h4 with h5|⟨h5,h6⟩
   .exact⟨0,.inr (.inl ⟨h1,h2,rfl,h5,g₀,rfl,hg'⟩)⟩
   .exact absurd (by simp[h5,h6]) hc
 .exact⟨0,.inr (.inr ⟨h1,rfl,by rw[woken_quitsD hq];exact hq⟩)⟩
theorem Sit.rely (h:Sit X P Post (k+1) r T γ ρ aw d q s g w)(hr:RX X γ.ro γ.own w w₁):Sit X P Post (k+1) r T γ ρ aw d q s g w₁:=by
 rcases h with⟨h1,h2,h3,hg⟩|⟨h1,h2,h3,h4,g₀,rfl,hg⟩|h
 .exact .inl ⟨h1,h2,h3,hg.rely hr⟩
 .exact .inr (.inl ⟨h1,h2,h3,h4,g₀,rfl,fun w₂ h₂=>hg w₂ (hr.trans X h₂)⟩)
 .exact .inr (.inr h)
end
section
variable {Δ:Type}(X:Cx Δ)(S0:Nat->Prop)
def xM (l:Loc):Prop:=∃a:Addr,l= .cell a/\(S0 a.block\/a.block=X.Wg\/(a.block=X.Fd/\a.off≠2))
def ND (γ:bk->Gh Δ)(L:bk->Lo)(r:bk)(l:Loc):Prop:=born L r/\((∃c,(γ r).ro c/\lA c l)\/∃sp,l= .cell ⟨X.Fd,2,sp⟩)
structure Lay (γ:bk->Gh Δ)(L:bk->Lo)(B:Nat):Prop where
 sp:∀r c,(γ r).own c\/(γ r).ro c->c≠X.Fd/\c≠X.Wg/\¬S0 c/\c<B
 YB:∀r,¬(γ r).ro X.M
 uf:∀r,(γ r).own X.M↔(L r).pc= .ur
 apart:∀r r' c,(γ r).own c->(γ r').own c->r=r'
 y6:∀r r' c,(γ r).own c->¬(γ r').ro c
 lv:∀r c,(γ r).own c\/(γ r).ro c->born L r
 fm:X.Fd≠X.M
 fw:X.Fd≠X.Wg
 mw:X.M≠X.Wg
 s0:∀c,S0 c->c<B/\c≠X.Fd/\c≠X.M/\c≠X.Wg
 uj:X.Fd<B
 Am:X.M<B
 sG:X.Wg<B
end
section
variable {Δ:Type}{X:Cx Δ}{S0:Nat->Prop}{γ:bk->Gh Δ}{L:bk->Lo}{B:Nat}
theorem FH {l:Loc}(h:xM X S0 l):l.isMemory=true:=by obtain⟨a,rfl,_⟩:=h;rfl
theorem kE {c:Nat}{a:Addr}(h:lA c (.cell a)):a.block=c:=by
 rcases h with⟨a',e,h⟩|h
 .cases e;exact h
 .cases h
theorem Lay.ap (h:Lay X S0 γ L B)(hx:¬((L .a).pc= .ur/\(L .b).pc= .ur))(hm:(L .m).pc≠.ur):Ap (xM X S0) (ND X γ L) (born L) (fun r=>(γ r).own) X.M (hold L) B:=by
 have FY:∀c l,c≠X.Fd->c≠X.Wg->¬S0 c->lA c l->¬xM X S0 l:=fun c l h1 h2 h3 hb ⟨a,e,ha⟩=>by
  subst e;have:=kE hb;subst this;rcases ha with ha|ha|ha
  .exact h3 ha
  .exact h2 ha
  .exact h1 ha.1
 have K8:∀r c l,(∀r',¬(γ r').ro c)->c≠X.Fd->lA c l->¬ND X γ L r l:=fun r c l h1 h2 hb ⟨_,hr⟩=>by
  rcases hr with⟨c',h3,hb'⟩|⟨sp,e⟩
  .exact h1 r (lA.uniq hb hb'▸h3)
  .subst e
   exact h2 (kE hb).symm
 refine⟨fun r c l ho hb=>?_,fun r c l r' ho hb=>?_,h.apart,fun r l hr hs=>?_,fun l hb=>⟨?_,fun r=>?_⟩,fun r ho=>?_,fun r c ho=>h.lv r c (.inl ho),fun c l hb hc=>⟨?_,fun r=>?_⟩,h.Am,fun r c ho=>(h.sp r c (.inl ho)).2.2.2,fun l=>FH,fun r l hr=>?_⟩
 .obtain⟨a1,a2,a3,_⟩:=h.sp r c (.inl ho)
  exact FY c l a1 a2 a3 hb
 .obtain⟨a1,a2,a3,_⟩:=h.sp r c (.inl ho)
  exact K8 r' c l (fun r''=>h.y6 r r'' c ho) a1 hb
 .rcases hr.2 with⟨c,h3,hb⟩|⟨sp,e⟩
  .obtain⟨a1,a2,a3,_⟩:=h.sp r c (.inr h3)
   exact FY c l a1 a2 a3 hb hs
  .subst e
   obtain⟨a,e,ha⟩:=hs;cases e;rcases ha with ha|ha|ha
   .exact(h.s0 _ ha).2.1 rfl
   .exact h.fw ha
   .exact ha.2 rfl
 .exact FY X.M l (fun e=>h.fm e.symm) h.mw (fun e=>(h.s0 _ e).2.2.1 rfl) hb
 .exact K8 r X.M l h.YB (fun e=>h.fm e.symm) hb
 .have hu:=(h.uf r).1 ho
  unfold hold;cases r with
  |m=>exact absurd hu hm
  |a=>rw[if_pos hu]
  |b=>rw[if_neg fun e=>hx ⟨e,hu⟩,if_pos hu]
 .refine FY c l (fun e=>?_) (fun e=>?_) (fun e=>?_) hb
  .have:=h.uj;omega
  .have:=h.sG;omega
  .have:=(h.s0 _ e).1;omega
 .refine K8 r c l (fun r' e=>?_) (fun e=>?_) hb
  .have:=(h.sp r' c (.inr e)).2.2.2;omega
  .have:=h.uj;omega
 .rcases hr.2 with⟨c,_,hb⟩|⟨sp,rfl⟩
  .exact hb.mem
  .rfl
theorem Lay.grow (h:Lay X S0 γ L B){r:bk}{B':Nat}(hB:B<=B')(hr:born L r):
  Lay X S0 (upd γ r {γ r with own:=fun b=>(γ r).own b\/(B<=b/\b<B')}) L B':=by
 have ho:∀r' c,(upd γ r {γ r with own:=fun b=>(γ r).own b\/(B<=b/\b<B')} r').own c->(γ r').own c\/(r'=r/\B<=c/\c<B'):=fun r' c h'=>by
  by_cases e:r'=r
  .subst e;rw[upd_same] at h';exact h'.imp id fun z=>⟨rfl,z⟩
  .rw[upd_ne _ _ e] at h';exact .inl h'
 have hro:∀r' c,(upd γ r {γ r with own:=fun b=>(γ r).own b\/(B<=b/\b<B')} r').ro c->(γ r').ro c:=fun r' c h'=>by
  by_cases e:r'=r
  .subst e;rw[upd_same] at h';exact h'
  .rw[upd_ne _ _ e] at h';exact h'
 refine⟨fun r' c h'=>?_,fun r' h'=>h.YB r' (hro _ _ h'),fun r'=>⟨fun h'=>?_,fun h'=>?_⟩,fun r' r'' c h' h''=>?_,fun r' r'' c h' h''=>?_,fun r' c h'=>?_,h.fm,h.fw,h.mw,fun c hc=>⟨Nat.lt_of_lt_of_le (h.s0 c hc).1 hB,(h.s0 c hc).2⟩,Nat.lt_of_lt_of_le h.uj hB,Nat.lt_of_lt_of_le h.Am hB,Nat.lt_of_lt_of_le h.sG hB⟩
 .rcases h' with h'|h'
  .rcases ho _ _ h' with h'|⟨_,h1,h2⟩
   .obtain⟨a1,a2,a3,a4⟩:=h.sp r' c (.inl h')
    exact⟨a1,a2,a3,by omega⟩
   .exact⟨fun e=>by have:=h.uj;omega,fun e=>by have:=h.sG;omega,fun e=>by have:=(h.s0 c e).1;omega,h2⟩
  .obtain⟨a1,a2,a3,a4⟩:=h.sp r' c (.inr (hro _ _ h'))
   exact⟨a1,a2,a3,by omega⟩
 .rcases ho _ _ h' with h'|⟨_,h1,_⟩
  .exact(h.uf r').1 h'
  .have:=h.Am;omega
 .have:=(h.uf r').2 h'
  by_cases e:r'=r
  .subst e;rw[upd_same];exact .inl this
  .rw[upd_ne _ _ e];exact this
 .rcases ho _ _ h' with h1|⟨e1,h1,_⟩<;>rcases ho _ _ h'' with h2|⟨e2,h2,_⟩
  .exact h.apart _ _ c h1 h2
  .have:=(h.sp r' c (.inl h1)).2.2.2;omega
  .have:=(h.sp r'' c (.inl h2)).2.2.2;omega
  .rw[e1,e2]
 .rcases ho _ _ h' with h1|⟨_,h1,_⟩
  .exact h.y6 _ _ c h1 (hro _ _ h'')
  .have:=(h.sp r'' c (.inr (hro _ _ h''))).2.2.2;omega
 .rcases h' with h'|h'
  .rcases ho _ _ h' with h'|⟨rfl,_⟩
   .exact h.lv r' c (.inl h')
   .exact hr
  .exact h.lv r' c (.inr (hro _ _ h'))
end
theorem TI.mono {n0:Nat}{Sh:Loc->Prop}{RO RO':bk->Loc->Prop}{lv lv':bk->Prop}{own own':bk->Nat->Prop}{M:Nat}{hold:Option bk}{mA wA:Addr}{B:Nat}{t:Trace}
  (h:TI n0 Sh RO lv own M hold mA wA B t) (h1:∀r l,RO' r l->RO r l) (h2:∀r,lv' r↔lv r) (h3:∀r c,own' r c->own r c):TI n0 Sh RO' lv' own' M hold mA wA B t:=by
 have e:lv'=lv:=funext fun r=>propext (h2 r)
 subst e;exact⟨h.clean,h.quiet,fun r c ho=>h.own r c (h3 r c ho),fun r i x hx hr=>h.ro r i x hx (h1 r _ hr),h.guard,h.base,h.work,h.over,h.ids,h.Pw,h.nrW,h.low⟩
end aH
end
section
open Go.Conc
open Go.ConcN (sumTo)
open Go.ConcM (OsLater)
namespace aH
structure Cf (Δ:Type) where
 n0:Nat
 L:bk->Lo
 γ:bk->Gh Δ
 k:bk->Nat
 ρ:bk->Rk
 aw:bk->Nat
 ds:bk->Nat
 q:Nat->Nat
 s:Sh
 r1:Nat
 r2:Nat
def LtF (a b:bk->Rk):Prop:=∃r,Rk.Lt (a r) (b r)/\∀r',r'≠r->a r'=b r'
theorem VM:WellFounded LtF:=by
 have key:∀x:Rk,Acc Rk.Lt x->∀y:Rk,Acc Rk.Lt y->∀z:Rk,Acc Rk.Lt z->∀f:bk->Rk,f .m=x->f .a=y->f .b=z->Acc LtF f:=by
  intro x hx
  induction hx with
  |intro x _ ihx=>
  intro y hy
  induction hy with
  |intro y hy' ihy=>
  intro z hz
  induction hz with
  |intro z hz' ihz=>
  intro f h1 h2 h3;refine⟨_,fun g hg=>?_⟩;obtain⟨r,hl,he⟩:=hg;cases r with
  |m=>exact ihx _ (h1▸hl) _ (Rk.acc _) _ (Rk.acc _) g rfl rfl rfl
  |a=>exact ihy _ (h2▸hl) _ (Rk.acc _) g ((he .m (by simp)).trans h1) rfl rfl
  |b=>exact ihz _ (h3▸hl) g ((he .m (by simp)).trans h1) ((he .a (by simp)).trans h2) rfl
 exact⟨fun f=>key _ (Rk.acc _) _ (Rk.acc _) _ (Rk.acc _) f rfl rfl rfl⟩
abbrev Ms:=Nat×(bk->Rk)×Nat×Nat
def SK:Ms->Ms->Prop:=Prod.Lex (·<·) (Prod.Lex LtF (Prod.Lex (·<·) (·<·)))
theorem VL:WellFounded SK:=(Prod.lex Nat.lt_wfRel (Prod.lex ⟨LtF,VM⟩ (Prod.lex Nat.lt_wfRel Nat.lt_wfRel))).wf
def awS (aw:bk->Nat):Nat:=aw .m+aw .a+aw .b
def Cf.ms {Δ:Type}(C:Cf Δ)(n:Nat):Ms:=(nr C.L C.r1 C.r2,C.ρ,sumTo n C.q,awS C.aw)
section
variable {Δ:Type}(X:Cx Δ)(P:Program)(Post:Gh Δ->Goroutine->World->Prop)(S0:Nat->Prop)
structure Core (C:Cf Δ)(gs:Array Goroutine)(w:World)(t:Trace):Prop where
 qX:0<C.n0
 size:gs.size=C.n0+nb C.L
 tab:uv C.L C.s C.r1 C.r2
 fuel:∀r,born C.L r->nr C.L C.r1 C.r2<C.k r
 sh:ShAt X w C.s
 sit:∀r,born C.L r->∃g,gs[gid C.n0 r]? =some g/\Sit X P Post (C.k r) r (C.L r) (C.γ r) (C.ρ r) (C.aw r) (C.ds r) (C.q (gid C.n0 r)) C.s g w
 RB:∀r,¬born C.L r->(C.γ r).mine=X.c0 r/\(C.L r).n=X.N r
 old:∀i g,0<i->i<C.n0->gs[i]? =some g->QuitsD P (C.q i) (Deaf t i) g
 above:∀j,gs.size<=j->Deaf t j=0
 deaf:∀r,born C.L r->Deaf t (gid C.n0 r)=C.ds r
 data:(C.L .a).pc≠.ur->(C.L .b).pc≠.ur->∃o,w.heap[X.M]? =some o/\X.Dat (C.γ .a).mine (C.γ .b).mine o
 E1:∀r,(C.L r).pc= .ur->(C.γ r).other=(C.γ (K2 r)).mine
 fin:∀r,past (C.L r).pc=true->(C.γ r).mine=X.fin r
 rel:∀r,past (C.L r).pc=true->∃p,ConcN.RelBy (wA X) t (gid C.n0 r) p
 lay:Lay X S0 C.γ C.L w.heap.size
 ti:TI C.n0 (xM X S0) (ND X C.γ C.L) (born C.L) (fun r=>(C.γ r).own) X.M (hold C.L) (mA X) (wA X) w.heap.size t
def AX (n0:Nat)(μ:Ms)(m:Machine)(t:Trace):Prop:=∃(C:Cf Δ) (gs:Array Goroutine) (w:World) (sl:Option (Nat×Nat)),C.n0=n0/\m=crowd gs w sl/\Core X P Post S0 C gs w t/\μ=C.ms gs.size
end
section
variable {Δ:Type}{X:Cx Δ}{P:Program}{Post:Gh Δ->Goroutine->World->Prop}{S0:Nat->Prop}{C:Cf Δ}{gs:Array Goroutine}{w w':World}{t:Trace}{sl:Option (Nat×Nat)}{r:bk}{x x':Goroutine}{es:Array Event}
theorem lk {L:bk->Lo}{s:Sh}{r1 r2:Nat}(h:uv L s r1 r2):¬((L .a).pc= .ur/\(L .b).pc= .ur):=fun⟨x,y⟩=>h.YH.facts.excl ⟨by simp[pm,x],by simp[pm,y]⟩
theorem ji {L:bk->Lo}{s:Sh}{r1 r2:Nat}(h:uv L s r1 r2){p:Pc}(hp:mc p=false):(L .m).pc≠p:=fun e=>by have:=h.st;rw[e,hp] at this;cases this
theorem Core.ap (c:Core X P Post S0 C gs w t):Ap (xM X S0) (ND X C.γ C.L) (born C.L) (fun r=>(C.γ r).own) X.M (hold C.L) w.heap.size:=c.lay.ap (lk c.tab) (ji c.tab rfl)
theorem Core.oB (c:Core X P Post S0 C gs w t):born C.L .m:=ji c.tab rfl
theorem Core.kpos (c:Core X P Post S0 C gs w t)(hr:born C.L r):∃k',C.k r=k'+1:=by
 have:=c.fuel r hr;exact⟨C.k r-1,by omega⟩
theorem Ic (lay:Lay X S0 C.γ C.L w.heap.size){deaf:Bool}(h:DX X deaf (C.γ r).ro (C.γ r).own w w' es){r':bk}(hne:r'≠r):RX X (C.γ r').ro (C.γ r').own w w':=by
 have no:∀b,b=X.Fd\/b=X.Wg->¬(C.γ r).own b:=fun b hb ho=>by
  obtain⟨a1,a2,_⟩:=lay.sp r b (.inl ho);exact hb.elim a1 a2
 refine⟨h.tape,h.output,h.size,h.os,fun b hb ho=>h.keep b hb fun ho'=>?_,fun⟨s,hs⟩=>⟨s,?_,?_⟩⟩
 .rcases ho with ho|ho
  .exact hne (lay.apart _ _ b ho ho')
  .exact lay.y6 _ _ b ho' ho
 .rw[h.keep _ lay.uj (no _ (.inl rfl))];exact hs.1
 .rw[h.keep _ lay.sG (no _ (.inr rfl))];exact hs.2
theorem OC (lay:Lay X S0 C.γ C.L w.heap.size){deaf:Bool}(h:DX X deaf (C.γ r).ro (C.γ r).own w w' es){s:Sh}(hs:ShAt X w s):ShAt X w' s:=by
 have no:∀b,b=X.Fd\/b=X.Wg->¬(C.γ r).own b:=fun b hb ho=>by
  obtain⟨a1,a2,_⟩:=lay.sp r b (.inl ho);exact hb.elim a1 a2
 exact⟨by rw[h.keep _ lay.uj (no _ (.inl rfl))];exact hs.1,by rw[h.keep _ lay.sG (no _ (.inr rfl))];exact hs.2⟩
theorem Id (lay:Lay X S0 C.γ C.L w.heap.size)(h:ConcM.Eff X.Fd X.Wg w w'){s:Sh}(hs:ShAt X w' s)(r':bk):RX X (C.γ r').ro (C.γ r').own w w':=
 ⟨h.tape,h.output,by rw[h.size];exact Nat.le_refl _,h.os,fun b _ ho=>by
  obtain⟨a1,a2,_⟩:=lay.sp r' b ho;exact h.block b a1 a2,fun _=>⟨s,hs⟩⟩
theorem Ay (c:Core X P Post S0 C gs w t)(hr:born C.L r):gid C.n0 r<gs.size:=by
 obtain⟨g,hg,_⟩:=c.sit r hr;exact(Array.getElem?_eq_some_iff.1 hg).1
theorem uO {n0:Nat}(hn:0<n0){i:Nat}(h0:0<i)(h1:i<n0)(r:bk):gid n0 r≠i:=by cases r<;>simp[gid]<;>omega
theorem Core.others (c:Core X P Post S0 C gs w t)(hr:born C.L r)(abE:∀r',r'≠r->RX X (C.γ r').ro (C.γ r').own w w'){s':Sh}
  (hw:∀r',r'≠r->(C.L r').sleeps C.s=true->(C.L r').sleeps s'=true\/(mayWake P x=true/\x'.status= .running)):
  ∃aw':bk->Nat,∀r',r'≠r->born C.L r'->∃g,((gs.map (woken P x x' w')).setIfInBounds (gid C.n0 r) x')[gid C.n0 r']? =some g/\Sit X P Post (C.k r') r' (C.L r') (C.γ r') (C.ρ r') (aw' r') (C.ds r') (C.q (gid C.n0 r')) s' g w':=by
 have key:∀r',∃a,r'≠r->born C.L r'->∃g,((gs.map (woken P x x' w')).setIfInBounds (gid C.n0 r) x')[gid C.n0 r']? =some g/\Sit X P Post (C.k r') r' (C.L r') (C.γ r') (C.ρ r') a (C.ds r') (C.q (gid C.n0 r')) s' g w':=fun r'=>by
  by_cases h:r'≠r/\born C.L r'
  .obtain⟨h1,h2⟩:=h
   obtain⟨g,hg,hs⟩:=c.sit r' h2;obtain⟨k',hk⟩:=c.kpos h2;rw[hk] at hs⊢;obtain⟨a,ha⟩:=hs.other (x:=x) (x':=x') (abE r' h1) (hw r' h1);exact⟨a,fun _ _=>⟨_,by rw[ConcN.get_map_set _ _ _ _ (fun e=>h1 (j5 c.qX e).symm),hg];rfl,ha⟩⟩
  .exact⟨0,fun h1 h2=>absurd ⟨h1,h2⟩ h⟩
 exact⟨fun r'=>(key r').choose,fun r'=>(key r').choose_spec⟩
theorem tE {g:Nat}{fn:FuncId}{pos:String}{es:Array Event}:∀op∈MemOp.ofEvents g fn pos es,op.g=g:=fun op h=>by obtain⟨e,_,rfl⟩:=Go.Conc.mem_ofEvents h;rfl
theorem Core.olds (c:Core X P Post S0 C gs w t){fn:FuncId}{pos:String}{es:Array Event}:∀i g,0<i->i<C.n0->((gs.map (woken P x x' w')).setIfInBounds (gid C.n0 r) x')[i]? =some g->QuitsD P (C.q i) (Deaf (t++MemOp.ofEvents (gid C.n0 r) fn pos es) i) g:=by
 intro i g h0 h1 hg;rw[ConcN.get_map_set _ _ _ _ (uO c.qX h0 h1 r)] at hg;obtain⟨y,hy,rfl⟩:=Option.map_eq_some_iff.1 hg;have hq:=c.old i y h0 h1 hy;rw[woken_quitsD hq,Deaf_other t (uO c.qX h0 h1 r) _ tE];exact hq
theorem xe (c:Core X P Post S0 C gs w t)(hr:born C.L r){fn:FuncId}{pos:String}{es:Array Event}{n:Nat}(hn:n=gs.size):∀j,n<=j->Deaf (t++MemOp.ofEvents (gid C.n0 r) fn pos es) j=0:=by
 intro j hj;have:=Ay c hr;rw[Deaf_other t (g':=gid C.n0 r) (by omega) _ tE];exact c.above j (by omega)
theorem tQ (c:Core X P Post S0 C gs w t){fn:FuncId}{pos:String}{es:Array Event}{r':bk}(hne:r'≠r)(hr':born C.L r'):Deaf (t++MemOp.ofEvents (gid C.n0 r) fn pos es) (gid C.n0 r')=C.ds r':=by
 rw[Deaf_other t (fun e=>hne (j5 c.qX e).symm) _ tE];exact c.deaf r' hr'
theorem vO (c:Core X P Post S0 C gs w t){fn:FuncId}{pos:String}{es:Array Event}{r':bk}(hne:r'≠r){p:Nat}(h:ConcN.RelBy (wA X) t (gid C.n0 r') p):ConcN.RelBy (wA X) (t++MemOp.ofEvents (gid C.n0 r) fn pos es) (gid C.n0 r') p:=
 ConcN.RelBy.appOther h tE fun e=>hne (j5 c.qX e).symm
theorem qW {m:Mark}(h:oe m):(MemAct.mark m).touch? =none/\m≠.disable/\m≠.enable/\(∀a,m≠.release a)/\∀B,(MemAct.mark m).low B:=by
 cases m<;>simp[oe] at h<;>simp[MemAct.touch?,MemAct.low]
theorem dn {e:Event}{m:Mark}(h:e.loc= .mark m):MemAct.ofEvent e= .mark m:=by
 obtain⟨l,a,b⟩:=e;cases h;cases a<;>cases b<;>rfl
theorem og {e:Event}{c:Nat}(h:lA c e.loc):(∀m,MemAct.ofEvent e≠.mark m)/\(∀B,c<B->(MemAct.ofEvent e).low B)/\∀z,(MemAct.ofEvent e).touch? =some z->z.loc=e.loc/\z.write=e.write:=by
 obtain⟨l,a,b⟩:=e;rcases h with⟨ad,h,hc⟩|h
 .simp only at h
  subst h;refine⟨fun m=>by cases a<;>cases b<;>simp[MemAct.ofEvent],fun B hB=>?_,fun z hz=>?_⟩
  .have:(MemAct.access ⟨.cell ad,a,b⟩).low B:=by show ad.block<B;omega
   cases a<;>cases b<;>exact this
  .cases a<;>cases b<;>simp[MemAct.ofEvent,MemAct.touch?] at hz<;>subst hz<;>exact⟨rfl,rfl⟩
 .simp only at h
  subst h;refine⟨fun m=>by cases a<;>cases b<;>simp[MemAct.ofEvent],fun B hB=>?_,fun z hz=>?_⟩
  .have h1:(MemAct.access ⟨.obj c,a,b⟩).low B:=hB
   have h2:(MemAct.close c).low B:=hB;cases a<;>cases b<;>first|exact h1|exact h2
  .cases a<;>cases b<;>simp[MemAct.ofEvent,MemAct.touch?] at hz<;>subst hz<;>exact⟨rfl,rfl⟩
theorem Io (c:Core X P Post S0 C gs w t)(hr:born C.L r){deaf:Bool}(h:DX X deaf (C.γ r).ro (C.γ r).own w w' es){fn:FuncId}{pos:String}:
  ∀op∈MemOp.ofEvents (gid C.n0 r) fn pos es,OkOp C.n0 (xM X S0) (ND X C.γ C.L) (fun r=>(C.γ r).own) (mA X) (wA X) w.heap.size w'.heap.size r op/\op.act≠.mark .disable/\op.act≠.mark .enable:=by
 intro op hop;obtain⟨e,he,rfl⟩:=Go.Conc.mem_ofEvents hop;rcases h.ev e he with⟨b,hb,hin⟩|⟨h1,h2,h3⟩|⟨m,h1,h2⟩
 .obtain⟨e1,e2,e3⟩:=og hin
  have hlow:b<w'.heap.size:=by
   rcases hb with hb|hb|hb
   .have:=(c.lay.sp r b (.inl hb)).2.2.2;have:=h.size;omega
   .exact hb.2
   .have:=(c.lay.sp r b (.inr hb.1)).2.2.2;have:=h.size;omega
  refine⟨⟨rfl,e1 _,e1 _,e2 _ hlow,fun z hz=>?_⟩,e1 _,e1 _⟩;obtain⟨z1,z2⟩:=e3 z hz;rw[z1,z2];rcases hb with hb|hb|hb
  .exact .inr (.inl ⟨b,hin,.inl hb⟩)
  .exact .inr (.inl ⟨b,hin,.inr hb⟩)
  .exact .inr (.inr (.inl ⟨⟨hr,.inl ⟨b,hb.1,hin⟩⟩,hb.2⟩))
 .have hin:lA X.Fd e.loc:=by rw[h1];exact .inl ⟨_,rfl,rfl⟩
  obtain⟨e1,e2,e3⟩:=og hin;refine⟨⟨rfl,e1 _,e1 _,e2 _ (Nat.lt_of_lt_of_le c.lay.uj h.size),fun z hz=>?_⟩,e1 _,e1 _⟩;obtain⟨z1,z2⟩:=e3 z hz;rw[z1,z2];exact .inr (.inr (.inl ⟨⟨hr,.inr ⟨none,h1⟩⟩,h2⟩))
 .obtain⟨m1,m2,m3,m4,m5⟩:=qW h2
  have e0:=dn h1;refine⟨⟨rfl,?_,?_,?_,fun z hz=>?_⟩,?_,?_⟩<;>simp only[e0]
  .simpa using m4 _
  .simpa using m4 _
  .exact m5 _
  .simp only[e0,m1] at hz;cases hz
  .simpa using m2
  .simpa using m3
theorem xg {g:Nat}{fn:FuncId}{pos:String}{es:Array Event}(hd:Deaf t g=0)(hes:∀e∈es,e.loc≠.mark .disable/\e.loc≠.mark .enable){i:Nat}{z:Touch}(hi:t.size<=i)
  (hz:touchAt (t++MemOp.ofEvents g fn pos es) i=some z) (hm:z.loc.isMemory=true):(t++MemOp.ofEvents g fn pos es).counts i:=by
 refine⟨z,hz,hm,.inr ?_⟩;obtain⟨op,ho,_⟩:=touch_of hz;have hg:op.g=g:=by
  rcases getElem?_append_cases ho with⟨h,_⟩|⟨_,h⟩
  .omega
  .exact tE op h
 have hlt:=lt_size_of_getElem? ho;have hsz:(MemOp.ofEvents g fn pos es).size=es.size:=by rw[ofEvents_eq];simp
 refine⟨g,by simp[Trace.g?,ho,hg],?_⟩;have:=deaf_inside t g fn pos es (i-t.size) (by rw[Array.size_append,hsz] at hlt;omega);rw[show t.size+(i-t.size)=i by omega] at this;rw[this,deafBehind_still (fun e he=>hes e (by
  obtain⟨j,hj⟩:=Array.mem_iff_getElem?.1 he;rw[Array.getElem?_extract] at hj;split at hj
  .exact Array.mem_of_getElem? hj
  .cases hj)),hd]
theorem J8 (c:Core X P Post S0 C gs w t)(hr:born C.L r)(hx:gs[gid C.n0 r]? =some x){f:World->Rk}(hρ:C.ρ r= .mk f)(hnq:(C.L r).pc≠.quit)(hdd:C.ds r=fK (C.L r).pc)
  (hs:stepG P (uk r) x w= .go x' w' es) (hD:DX X (eD (C.L r).pc) (C.γ r).ro (C.γ r).own w w' es)
  (hl:gz P (uk r) (eT X (eD (C.L r).pc) (C.γ r).ro) (dH (AtR X P Post (C.k r) r) (C.L r) (C.γ r)) (f w) (fun b=>(C.γ r).own b\/(w.heap.size<=b/\b<w'.heap.size)) x' w'):
  ∃m₁ ops μ',runT P (crowd gs w sl) (gid C.n0 r)=(.next m₁,ops)/\SK μ' (C.ms gs.size)/\AX X P Post S0 C.n0 μ' m₁ (t++ops):=by
 have hrun:=runT_crowd_go (P:=P) (sl:=sl) (i:=gid C.n0 r) hx (by rw[As c.qX];exact hs);obtain⟨aw',haw⟩:=c.others (x:=x) (x':=x') hr (fun r' h=>Ic c.lay hD h) (s':=C.s) fun r' _ h=> .inl h
 have hok:=Io c hr hD (fn:=x.frame.fn) (pos:=x.frame.place);have hmarks:∀e∈es,e.loc≠.mark .disable/\e.loc≠.mark .enable:=fun e he=>by
  have:=hok {g:=gid C.n0 r,fn:=x.frame.fn,pos:=x.frame.place,act:= .ofEvent e} (by rw[ofEvents_eq];exact Array.mem_map.2 ⟨e,he,rfl⟩);exact⟨fun h=>this.2.1 (dn h),fun h=>this.2.2 (dn h)⟩
 have hdeaf:Deaf (t++MemOp.ofEvents (gid C.n0 r) x.frame.fn x.frame.place es) (gid C.n0 r)=C.ds r:=by
  rw[Deaf_own,deafBehind_still hmarks];exact c.deaf r hr
 have hcnt:r≠.m->∀i z,t.size<=i->touchAt (t++MemOp.ofEvents (gid C.n0 r) x.frame.fn x.frame.place es) i=some z->z.loc.isMemory=true->(t++MemOp.ofEvents (gid C.n0 r) x.frame.fn x.frame.place es).counts i\/(xM X S0 z.loc/\z.kind= .atomic):=fun _ i z hi hz hm=>by
  by_cases hd0:fK (C.L r).pc=0
  .exact .inl (xg (by rw[c.deaf r hr,hdd,hd0]) hmarks hi hz hm)
  .have he:=hD.mute (by simp[eD,hd0])
   subst he;obtain⟨op,ho,_⟩:=touch_of hz;have:=lt_size_of_getElem? ho;simp[ofEvents_none] at this;omega
 have hti:=TI.app c.qX c.ap c.ti hr hD.size (fun op ho=>(hok op ho).1) hcnt;have hsz:((gs.map (woken P x x' w')).setIfInBounds (gid C.n0 r) x').size=gs.size:=by simp
 let own':Nat->Prop:=fun b=>(C.γ r).own b\/(w.heap.size<=b/\b<w'.heap.size)
 let C':Cf Δ:={C with γ:=upd C.γ r {C.γ r with own:=own'},ρ:=upd C.ρ r (f w),aw:=upd aw' r 1}
 have ni:∀r',(C'.γ r').mine=(C.γ r').mine/\(C'.γ r').other=(C.γ r').other/\(C'.γ r').ro=(C.γ r').ro:=fun r'=>by
  by_cases e:r'=r
  .subst e;simp[C',upd_same]
  .simp[C',upd_ne _ _ e]
 refine⟨_,_,C'.ms gs.size,hrun,.right _ (.left _ _ ⟨r,?_,fun r' h=>upd_ne _ _ h⟩),C',_,w',sl,rfl,rfl,?_,by rw[hsz]⟩
 .show Rk.Lt (upd C.ρ r (f w) r) (C.ρ r)
  rw[upd_same,hρ];exact⟨f,w,rfl,rfl⟩
 .refine⟨c.qX,by rw[hsz];exact c.size,c.tab,c.fuel,OC c.lay hD c.sh,fun r' hr'=>?_,fun r' hr'=>?_,c.olds,xe c hr hsz,fun r' hr'=>?_,fun h1 h2=>?_,fun r' h=>?_,fun r' h=>?_,fun r' h=>?_,c.lay.grow hD.size hr,?_⟩
  .by_cases e:r'=r
   .subst e
    refine⟨x',ConcN.get_map_set_same _ _ _ (Ay c hr),.inl ⟨hnq,hdd,by simp[C',upd_same],?_⟩⟩;simp only[C',upd_same];exact hl
   .obtain⟨g,h1,h2⟩:=haw r' e hr'
    refine⟨g,h1,?_⟩;simp only[C',upd_ne _ _ e];exact h2
  .rw[(ni r').1];exact c.RB r' hr'
  .by_cases e:r'=r
   .subst e;exact hdeaf
   .exact tQ c e hr'
  .obtain⟨o,h3,h4⟩:=c.data h1 h2
   refine⟨o,?_,by rw[(ni .a).1,(ni .b).1];exact h4⟩;rw[hD.keep _ c.lay.Am fun ho=>?_]
   .exact h3
   .have:=(c.lay.uf r).1 ho
    cases r with
    |m=>exact ji c.tab rfl this
    |a=>exact h1 this
    |b=>exact h2 this
  .rw[(ni r').2.1,(ni _).1];exact c.E1 r' h
  .rw[(ni r').1];exact c.fin r' h
  .obtain⟨p,hp⟩:=c.rel r' h
   by_cases e:r'=r
   .subst e
    have he:=hD.mute (by
     revert h
     cases (C.L r').pc<;>simp[past,eD,fK])
    subst he;rw[ofEvents_none,Array.append_empty];exact⟨p,hp⟩
   .exact⟨p,vO c e hp⟩
  .refine TI.mono hti (fun r' l h=>?_) (fun _=>Iff.rfl) (fun r' b h=>?_)
   .exact⟨h.1,by have:=h.2;rw[(ni r').2.2] at this;exact this⟩
   .by_cases e:r'=r
    .subst e
     simp only[C',upd_same] at h;exact h.imp id fun z=>⟨rfl,z⟩
    .simp only[C',upd_ne _ _ e] at h
     exact .inl h
end
end aH
end
end
end Go.Proofs.YtchcmhodnkgojaaGreat
