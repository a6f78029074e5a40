/- Alike is true at every input: the same calls make the same disk, whatever another store does between them: the given statement Rows.AlikeSaid, with no condition beside the row's own. -/
import Derived.Test.YtchcmhodnkgojaaGreatPart11
import Derived.Conc.HoldsTime
import Derived.Leaving
import Derived.ProofKit
import Derived.Carry
import Derived.Deep.Slices
import Derived.Lib.SmallJoins
set_option linter.all false
set_option maxRecDepth 100000
set_option maxHeartbeats 8000000
namespace Go.Proofs.YtchcmhodnkgojaaGreat
noncomputable section
section
open Go.RowKit Go.Lib
theorem uJ:37<aN 200:=by decide
section
variable {L:List UInt8}{n:Nat}{H:bR}
theorem yT (h:Has L n H)(h7:eg H)(s:Nat)(p c:List UInt8)(hp:p∈P7)(a:Int):(DS.calm L a).pY n s (aF p) (aF c)=(DS.calm L a).put n s (aF p) (aF c):=by
 obtain⟨m,hr,hm⟩:=h;have hm7:=h7.slots hm;have Li:=nU (x:=DS.calm L a) hr rfl hm7;unfold DS.pY;rw[show(DS.calm L a).failed=false from rfl,Li];simp only[Bool.false_eq_true,if_false];rw[if_neg];refine Nat.not_lt.2 (IU _ fun f hf _=>?_);rcases List.mem_append.1 hf with hf|hf
 .rw[sC (x:=DS.calm L a) hr rfl] at hf
  exact(hm7.files hr f hf).2
 .obtain rfl:=List.mem_singleton.1 hf
  exact hp
theorem qD (h:Has L n H)(h7:eg H)(s:Nat)(p:ByteArray)(a:Int):(DS.calm L a).fQ n s p=(DS.calm L a).remove n s p:=by
 obtain⟨m,hr,hm⟩:=h;have Li:=nU (x:=DS.calm L a) hr rfl (h7.slots hm);unfold DS.fQ;rw[show(DS.calm L a).failed=false from rfl,Li];simp only[Bool.false_eq_true,if_false]
theorem Ay (h:Has L n H)(s:Nat)(p:List UInt8)(hs:H s p=none)(a:Int):(DS.calm L a).remove n s (aF p)=(DS.calm L a,.int .i64 5):=by
 obtain⟨m,hr,hm⟩:=h;have hh:=hm s p;rw[hs] at hh;exact BV n s (aF p) (DS.calm L a) (p7 (x:=DS.calm L a) hr rfl s p hh)
theorem eg.set {H:bR}(h:eg H){s:Nat}{p:List UInt8}(hs:s<=2/\p∈P7)(r:Option (List UInt8)):eg (fj H s p r):=fun s' p' hn=>by
 unfold fj at hn;split at hn
 .rename_i e;rw[e.1,e.2];exact hs
 .exact h s' p' hn
def zw (H:bR)(k sd pt:Int)(ct:ByteArray):bR×Int:=
 if bC k 4=2 then(if H (bC sd 2) (mW (bC pt 7))=none then(H,5) else(fj H (bC sd 2) (mW (bC pt 7)) none,0))
 else(fj H (bC sd 2) (mW (bC pt 7)) (some (de ct).data.toList),0)
theorem I1 (h:Has L n H)(h7:eg H)(hn:37<aN n)(k sd pt:Int)(ct:ByteArray):
  ∃L' N,Has L' n (zw H k sd pt ct).1/\eg (zw H k sd pt ct).1/\(0:Int)<=N/\N<=5/\∀a,(DS.calm L a).act n k sd pt ct=(DS.calm L' (a+N),.int .i64 (zw H k sd pt ct).2):=by
 have hs:=n3 sd 2;have hp:=n3 pt 7;have hcl:=C4 ct;have hpm:=HV (bC pt 7) hp;have hsp:bC sd 2<=2/\mW (bC pt 7)∈P7:=⟨by omega,hpm⟩
 unfold zw DS.act
 by_cases hk:bC k 4=2
 .simp only[if_pos hk]
  by_cases hx:H (bC sd 2) (mW (bC pt 7))=none
  .simp only[if_pos hx]
   refine⟨L,0,h,h7,by omega,by omega,fun a=>?_⟩;rw[qD h h7,<-mP,Ay h _ _ hx,Int.add_zero]
  .simp only[if_neg hx]
   obtain⟨L',q1,q2⟩:=qe h _ _ hx;refine⟨L',2,q1,h7.set hsp _,by omega,by omega,fun a=>?_⟩;rw[qD h h7,<-mP,q2]
 .simp only[if_neg hk]
  obtain⟨L',q1,q2⟩:=uY h h7.eight (by omega) (bC sd 2) (mW (bC pt 7)) _ (AT (by omega) hpm) hcl;refine⟨L',5,q1,h7.set hsp _,by omega,by omega,fun a=>?_⟩;have hb:aF (de ct).data.toList=de ct:=by simp[aF]
  have:=yT h h7 (bC sd 2) (mW (bC pt 7)) (de ct).data.toList hpm a;rw[hb,mP] at this;rw[this];have q:=q2 a;rw[hb,mP] at q;exact q
end
def rU (H:bR):List (List UInt8):=@dite _ (∃ps,jl H ps) (Classical.propDecidable _) (fun h=>h.choose) fun _=>[]
theorem C9 {H:bR}{ps:List (List UInt8)}(h:jl H ps):rU H=ps:=by
 unfold rU;rw[dif_pos ⟨ps,h⟩];exact(Exists.choose_spec (⟨ps,h⟩:∃ps,jl H ps)).uniq h
def vo (L:List UInt8)(H:bR):List UInt8×Int:=(((DS.calm L 0).xg 200 (gh H (rU H))).1.aM,((DS.calm L 0).xg 200 (gh H (rU H))).1.acts)
def Fh (L:List UInt8)(H:bR)(k sd pt:Int)(ct:ByteArray):List UInt8×Int:=
 if bC k 4=3 then vo L H else(((DS.calm L 0).act 200 k sd pt ct).1.aM,((DS.calm L 0).act 200 k sd pt ct).1.acts)
theorem Bh {L L':List UInt8}{H:bR}{k:Int}{ps:List (List UInt8)}{v:Value}(hP:jl H ps)(h:∀a,(DS.calm L a).xg 200 (gh H ps)=(DS.calm L' (a+k),v)):vo L H=(L',k):=by
 unfold vo;rw[C9 hP,h 0,Int.zero_add];rfl
structure bn (w:World)(F:List Nat)(s d:Nat)(L:List UInt8)(a:Int)(H:bR):Prop where
 store:aS w F s d 200 (DS.calm L a)
 has:Has L 200 H
 seven:eg H
 lo:0<=a
section
variable {w w' wL:World}{F:List Nat}{s d:Nat}{L:List UInt8}{a:Int}{H:bR}
theorem bn.ay (h:bn w F s d L a H)(t:Go.Proofs.YtchcmhodnkgojaaGreat.dU)(k:Nat):bn (ay w t k) F s d L a H:=⟨h.store.ay t k,h.has,h.seven,h.lo⟩
theorem bn.blk {S:List Nat}(h:bn w F s d L a H)(f:eF S w w')(h1:s∉S)(h2:∀k∈S,k∉F):bn w' F s d L a H:=⟨h.store.blk f h1 h2,h.has,h.seven,h.lo⟩
theorem bn.new (h:bn w F s d L a H)(f:aR [] w w'):bn w' F s d L a H:=⟨h.store.new f,h.has,h.seven,h.lo⟩
theorem bn.ok (h:bn w F s d L a H)(ha:a<=900000000):AR (DS.calm L a) 200:=NP h.has h.seven uJ a h.lo ha
theorem bn.synced (h:bn wL F s d L a H){v:Value}(hR:zz F s d 200 (DS.calm L a) wL v w'):
  ∃ps cv F' L' k,v= .tuple #[.agg #[.int .i64 (gh H ps).length,cv],.int .i64 0]/\jl H ps/\bn w' F' s d L' (a+k) (jP H)/\bP F F' wL/\eF F wL w'/\(0:Int)<=k/\k<=80/\(gh H ps=[]->L'=L/\k=0)/\
   w'.ownsRow wL.heap.size 9 1 cv (xo H ps).length (iG (xo H ps))/\(∀g,cv.ownBlock=some g->g∉F')/\vo L H=(L',k):=by
 have hm:=Cl h.has h.seven a;rcases hR with⟨h1,_⟩|⟨_,ps,F',hP,hS,hG,hB,hv⟩
 .exact absurd hm h1
 .have RP:=sI (x:=DS.calm L a) h.has rfl hP
  obtain⟨e1,e2⟩:=sm (x:=DS.calm L a) h.has rfl ps;obtain⟨L',k,q1,q2,q3,q4,q5,q6⟩:=yM h.has h.seven uJ RP;rw[e1,q5 a] at hS;rw[e1,e2,q5 a] at hv;rcases hv with⟨cv,_,rfl,h7,h8⟩|⟨e,h6,h7,_⟩
  .exact⟨ps,cv,F',L',k,rfl,RP,⟨hS,q1,q2,by have:=h.lo;omega⟩,hG,hB,q3,q4,q6,h7,h8,Bh RP q5⟩
  .cases h7;exact absurd rfl h6
theorem bn.NQ (h:bn wL F s d L a H){e:Int}(hR:iV F s d 200 (DS.calm L a) wL e w'):e=0/\∃F' L' k,bn w' F' s d L' (a+k) (jP H)/\bP F F' wL/\eF F wL w'/\(0:Int)<=k/\k<=80/\vo L H=(L',k):=by
 have hm:=Cl h.has h.seven a;rcases hR with⟨h1,_⟩|⟨_,ps,F',hP,hS,hG,hB,hv⟩
 .exact absurd hm h1
 .have RP:=sI (x:=DS.calm L a) h.has rfl hP
  obtain⟨e1,e2⟩:=sm (x:=DS.calm L a) h.has rfl ps;obtain⟨L',k,q1,q2,q3,q4,q5,q6⟩:=yM h.has h.seven uJ RP;rw[e1,q5 a] at hS hv;cases hv;exact⟨rfl,F',L',k,⟨hS,q1,q2,by have:=h.lo;omega⟩,hG,hB,q3,q4,Bh RP q5⟩
def uH (H:bR)(k sd pt:Int)(ct:ByteArray):bR×Int:=if bC k 4=3 then(jP H,0) else zw H k sd pt ct
theorem Nc (H:bR)(k sd pt:Int)(ct:ByteArray):(uH H k sd pt ct).2=0\/(uH H k sd pt ct).2=5:=by
 unfold uH zw;split
 .exact .inl rfl
 .split
  .split
   .exact .inr rfl
   .exact .inl rfl
  .exact .inl rfl
theorem bn.iC (h:bn wL F s d L a H){k sd pt:Int}{ct:ByteArray}{v:Value}(hR:Jk F s d 200 (DS.calm L a) k sd pt ct wL v w'):
  v= .int .i64 (uH H k sd pt ct).2/\∃F' L' N,bn w' F' s d L' (a+N) (uH H k sd pt ct).1/\bP F F' wL/\eF F wL w'/\(0:Int)<=N/\N<=80/\Fh L H k sd pt ct=(L',N):=by
 rcases hR with⟨h3,rfl,F',h4,h5,h6⟩|⟨h3,e,rfl,hE⟩
 .unfold uH
  rw[if_neg h3];obtain⟨L',N,q1,q2,q3,q4,q5⟩:=I1 h.has h.seven uJ k sd pt ct;have hL:Fh L H k sd pt ct=(L',N):=by
   unfold Fh;rw[if_neg h3,q5 0,Int.zero_add];rfl
  rw[q5 a] at h4⊢;exact⟨rfl,F',L',N,⟨h4,q1,q2,by have:=h.lo;omega⟩,h5,h6,q3,by omega,hL⟩
 .unfold uH
  rw[if_pos h3];obtain⟨rfl,F',L',N,q1,q2,q3,q4,q5,q6⟩:=h.NQ hE;exact⟨rfl,F',L',N,q1,q2,q3,q4,q5,by unfold Fh;rw[if_pos h3];exact q6⟩
end
def H0:bR:=fun _ _=>none
theorem sQ (n:Nat)(h:16<=n):Has (eY n) n H0:=⟨_,Hq n h,fun _ _ i f hf=>by cases hf⟩
def H1:bR:=fj H0 0 [97] (some [102,105,114,115,116])
theorem Sj:([97]:List UInt8)∈P7:=Ei.2 ⟨0,by omega,by decide⟩
theorem zZ:eg H0:=fun _ _ h=>absurd rfl h
theorem SV:eg H1:=zZ.set ⟨by omega,Sj⟩ _
theorem SK {ps:List (List UInt8)}(h:jl H1 ps):gh H1 ps=[([97],0)]:=by
 have hmem:∀l,l∈ps↔l=[97]:=fun l=>by
  rw[h.2];unfold H1 fj H0
  by_cases e:l=[97]<;>simp[e]
 have hps:ps=[[97]]:=by
  cases ps with
  |nil=>exact absurd ((hmem [97]).2 rfl) (by simp)
  |cons p r=>
   have hp:=(hmem p).1 (by simp);subst hp;cases r with
   |nil=>rfl
   |cons q r=>
    have hq:=(hmem q).1 (by simp);subst hq;have:=(List.pairwise_cons.1 h.1).1 [97] (by simp);exact absurd this (List.lt_irrefl _)
 rw[hps];rfl
abbrev St:=List UInt8×Int×bR
def AF:List UInt8:=((DS.calm (eY 200) 0).put 200 0 ⟨#[97]⟩ (aF [102,105,114,115,116])).1.aM
def st0:St:=((vo AF H1).1,5+(vo AF H1).2,jP H1)
def nxt (st:St)(y:nm):St:=((Fh st.1 st.2.2 y.kind y.side y.path y.content).1,st.2.1+(Fh st.1 st.2.2 y.kind y.side y.path y.content).2,(uH st.2.2 y.kind y.side y.path y.content).1)
def pB (l:List nm):St:=l.foldl nxt st0
theorem vK {l:List nm}{k:Nat}{L L':List UInt8}{a N:Int}{H:bR}(hk:k<l.length)(h:pB (l.take k)=(L,a,H))(hN:Fh L H l[k].kind l[k].side l[k].path l[k].content=(L',N)):
  pB (l.take (k+1))=(L',a+N,(uH H l[k].kind l[k].side l[k].path l[k].content).1):=by
 unfold pB at h⊢;rw[List.take_succ_eq_append_getElem hk,List.foldl_append,h];simp only[List.foldl_cons,List.foldl_nil,nxt,hN]
theorem Zp:jP H1 1 [97]=some [102,105,114,115,116]:=by decide
end
section
open Go.RowKit Go.Lib Go.Sort
def X8 (l:List nm)(wL:World)(v:Value)(w':World):Prop:=∃s d F L a H,v= .pointer (some ⟨s,0,none⟩)/\bn w' F s d L a H/\bP [] F wL/\eF [] wL w'/\wL.heap.size<=s/\a<=30000/\pB (l.take 300)=(L,a,H)
def tu (sl:Value)(s k:Nat)(u:Nat->Value):Act:={tmps:=#[sl,u 1,u 2,.pointer (some ⟨s,0,none⟩),u 4,u 5,u 6,u 7,u 8,u 9,.int .i64 k,u 11,u 12,u 13,u 14,u 15,u 16,u 17,u 18,u 19,u 20,u 21,u 22,u 23,u 24,u 25,u 26,u 27,u 28,u 29,u 30,u 31,u 32,u 33,u 34,u 35,u 36,u 37,u 38,u 39,u 40,u 41,u 42,u 43,u 44,u 45,u 46,u 47,u 48,u 49,u 50,u 51,u 52,u 53,u 54,u 55,u 56,u 57,u 58,u 59,u 60,u 61,u 62,u 63,u 64,u 65,u 66,u 67,u 68,u 69,u 70,u 71,u 72,u 73,u 74],defers:=[]}
theorem bP.nil {F:List Nat}{w:World}(g:bP [] F w)(hG:pr w):0∉F:=g.zero hG (by simp)
theorem oe {F:List Nat}{w wa wb:World}(g:bP [] F w)(hB:eF F wa wb)(hA:eF [] w wa):eF [] w wb:=(hA.trans hB fun i hi=>(g i hi).imp (by simp) id)
end
section
open Go.Conc
namespace aj
section
variable (Ok:Env)(r:Nat)
def eP (f:FuncId)(D:jU)(t:List Item)(R:Act->World->Prop)(a:Act)(wL:World):Prop:=
 ∀(CS:List Frame) (π:Nat->Nat) (M:Machine) (tr:Trace),AS Ok π wL M tr (G ((base f).at (bg π a D) t) CS)->VA Ok.H wL a.tmps->a.defers=[]->
  (∀(a':Act) (D':jU) (bG:World) (b6:Nat->Nat) (M':Machine) (jO:Trace) (todo:List Item),r∉sl D'->(∃t d,R a' (ay bG t d))->AS Ok b6 bG M' jO (G {(base f).at (bg b6 a' D') todo with mode:= .returning} CS)->
   VA Ok.H bG a'.tmps->a'.defers=[]->(∀b,b<wL.heap.size->b6 b=π b)->wL.heap.size<=bG.heap.size->Ok.Ok M' jO)->Ok.Ok M tr
end
section
variable {Ok:Env}{r:Nat}{f:FuncId}{D:jU}{k t:List Item}{R:Act->World->Prop}{a:Act}{wL:World}
theorem fJ (t':dU)(d:Nat):eP Ok r f D t R a (ay wL t' d)↔eP Ok r f D t R a wL:=
 ⟨fun h CS π M tr hp=>h CS π M tr ((AS.ay t' d).2 hp),fun h CS π M tr hp=>h CS π M tr ((AS.ay t' d).1 hp)⟩
theorem gV {t':List Item}(hs:∀(b:Act) (CS:List Frame) (w:World),(∀x,iN (sl D) x=true->a.eval x= .bool true->b.eval x= .bool true)->(∀x,iN (sl D) x=true->a.eval x= .bool false->b.eval x= .bool false)->stepG PP true (G ((base f).at b t) CS) w= .go (G ((base f).at b t') CS) w)
  (h:eP Ok r f D t' R a wL):eP Ok r f D t R a wL:=fun CS π M tr hp ha hd hk=>by
 have ev:∀(x:Operand) (t:Bool),iN (sl D) x=true->a.eval x= .bool t->(bg π a D).eval x= .bool t:=fun x t ho hx=>by
  cases x with
  |tmp i=>
   show(wh D (a.tmps.map (Value.ren π))).getD i undef=_;rw[Array.getD_eq_getD_getElem?,qX D _ i (FO ho),<-Array.getD_eq_getD_getElem?,jB,show a.tmps.getD i undef=_ from hx];simp
  |const v=>exact hx
  |global g=>cases hx
  |func f=>cases hx
 exact eu hp (hs _ _ · (fun x ho=>ev x true ho) fun x ho=>ev x false ho) fun M' jO hp'=>h CS π M' jO hp' ha hd hk
theorem dj {x y:Code}(h:eP Ok r f D (.code x::.code y::k) R a wL):eP Ok r f D (.code (.seq x y)::k) R a wL:=gV (fun _ _ _ _ _=>stepG_seq) h
theorem pj {id:Nat}{c:Code}(h:eP Ok r f D (.code c::.inBlock id::k) R a wL):eP Ok r f D (.code (.block id c)::k) R a wL:=gV (fun _ _ _ _ _=>stepG_block) h
theorem oA {id:Nat}(h:eP Ok r f D k R a wL):eP Ok r f D (.inBlock id::k) R a wL:=gV (fun _ _ _ _ _=>stepG_inBlock) h
theorem MC {c:Code}(h:eP Ok r f D (.code c::.inLoop c::k) R a wL):eP Ok r f D (.code (.loop c)::k) R a wL:=gV (fun _ _ _ _ _=>stepG_loop) h
theorem EU {c:Code}(h:eP Ok r f D (.code c::.inLoop c::k) R a wL):eP Ok r f D (.inLoop c::k) R a wL:=gV (fun _ _ _ _ _=>stepG_inLoop) h
theorem xq (h:eP Ok r f D k R a wL):eP Ok r f D (.code .skip::k) R a wL:=gV (fun _ _ _ _ _=>stepG_skip) h
theorem rS {id:Nat}{k':List Item}(he:exitTo id k=some k')(h:eP Ok r f D k' R a wL):eP Ok r f D (.code (.exit id)::k) R a wL:=gV (fun _ _ _ _ _=>stepG_exit he) h
theorem jD {x:Operand}{p q:Code}{b:Bool}(hx:a.eval x= .bool b)(ho:iN (sl D) x=true)(h:eP Ok r f D (.code (if b then p else q)::k) R a wL):eP Ok r f D (.code (.cond x p q)::k) R a wL:=by
 refine gV (fun b' CS w h1 h2=>?_) h;cases b with
 |true=>exact stepG_cond (h1 x ho hx)
 |false=>exact stepG_cond (h2 x ho hx)
theorem eO {id:Nat}{ops:Array Oper}(h:eP Ok r f D (.inRegion ops (List.range ops.size)::k) R a wL):eP Ok r f D (.code (.region id ops false)::k) R a wL:=gV (fun _ _ _ _ _=>stepG_region) h
theorem ck {ops:Array Oper}(h:eP Ok r f D k R a wL):eP Ok r f D (.inRegion ops []::k) R a wL:=gV (fun _ _ _ _ _=>stepG_region_end) h
def xG (Ok:Env)(r:Nat)(fM:Option Nat)(f:FuncId)(D:jU)(k:List Item)(R:Act->World->Prop):Exit->Act->World->Prop
 |.normal,a,w=>eP Ok r f D k R a w
 |.exit id,a,w=>fM=some id/\∃k',exitTo id k=some k'/\eP Ok r f D k' R a w
 |.ret,a,w=>∃t d,R a (ay w t d)
 |_,_,_=>False
theorem D6 {fM:Option Nat}:QOk fM (xG Ok r fM f D k R) where
 tape:=fun e a w t d=>by
  cases e with
  |normal=>exact fJ t d
  |exit id=>exact and_congr Iff.rfl (exists_congr fun k'=>and_congr Iff.rfl (fJ t d))
  |ret=>exact Iff.rfl
  |_=>exact Iff.rfl
 out:=fun e a w h=>by
  cases e with
  |normal=>exact .inl rfl
  |ret=>exact .inr (.inl rfl)
  |exit id=>exact .inr (.inr ⟨id,rfl,h.1⟩)
  |_=>exact h.elim
theorem C7 {t0:List Item}(fM:Option Nat)(hr:r∉sl D)(h0:∃fn,PP.funcs[f]? =some fn)(AX:∀it∈t0,bV (sl D) PP S0 E0 true it=true)(hx:∀id,fM=some id->∃y,exitTo id k=some y)
  (hwp:∀t d,WpT PP t0 (xG Ok r fM f D k R) a (ay wL t d)):eP Ok r f D (t0++k) R a wL:=fun CS π M tr hp ha hd hk=>by
 refine j7 hp (fun own w hl=>K3 Bp (fun _ _ h=>h) h0 wN D6 (B:=base f) (D0:=D) (CS:=CS) (kT:=k) rfl (by simp[base]) hx AX hl ha hd hwp) ?_;rintro Dead s g w M' jO hz ⟨e,a',bG,b6,q,hl,hd',ha',hg,hag,hsz⟩ hs;have go:∀k',g=G ((base f).at (bg b6 a' D) k') CS->eP Ok r f D k' R a' bG->Ok.Ok M' jO:=fun k' e h=>
  h CS b6 M' jO ⟨Dead,s,w,e▸hz,hl,hs⟩ ha' hd' fun a2 D2 A9 uq M2 Be todo r2 rr p v d g2 z=>hk a2 D2 A9 uq M2 Be todo r2 rr p v d (fun b hb=>(g2 b (Nat.lt_of_lt_of_le hb hsz)).trans (hag b hb)) (Nat.le_trans hsz z)
 cases e with
 |normal=>exact go k hg q
 |exit id=>
  obtain⟨_,k',h1,h2⟩:=q;obtain⟨y,h3,h4⟩:=hg;rw[h1] at h3;cases h3;exact go k' h4 h2
 |ret=>
  obtain⟨todo,rfl⟩:=hg;exact hk a' D bG b6 M' jO todo hr q ⟨Dead,s,w,hz,hl,hs⟩ ha' hd' hag hsz
 |_=>exact q.elim
theorem dG {cd:Code}(fM:Option Nat)(hr:r∉sl D)(h0:∃fn,PP.funcs[f]? =some fn)(AX:eL (sl D) PP S0 E0 true cd=true)(hx:∀id,fM=some id->∃y,exitTo id k=some y)
  (I:World->Prop) (hb:∀w t d,I w->I (ay w t d)) (hI:I wL) (hwp:∀w,I w->w.heap.size=wL.heap.size->cd.wp PP (xG Ok r fM f D k R) a w):eP Ok r f D (.code cd::k) R a wL:=
 C7 (t0:=[.code cd]) fM hr h0 (fun it hit=>by simp at hit;subst hit;exact AX) hx fun t d=>hwp _ (hb _ t d hI) rfl
theorem pi {ops:Array Oper}{i:Nat}{rest:List Nat}{o:Oper}(ho:ops[i]? =some o)(sc:eE (sl D) PP S0 E0 true o=true)(hw:∀π,Region.wanted o (yielded ops (bg π a D).tmps)=true)
  (h:∀t d,uponE o a (fun a' w'=>eP Ok r f D (.inRegion ops rest::k) R a' w') (fun _ _ _=>False) ((execOp a.eval o).run PP (ay wL t d))):eP Ok r f D (.inRegion ops (i::rest)::k) R a wL:=fun CS π M tr hp ha hd hk=>by
 have hkb:(base f).kind≠.early:=by simp[base]
 obtain⟨_,_,hdst⟩:=kq sc;refine j7 (Stop:=fun s g w=>∃a' bG b6,eP Ok r f D (.inRegion ops rest::k) R a' bG/\g=G ((base f).at (bg b6 a' D) (.inRegion ops rest::k)) CS/\Link Ok.H no s no b6 bG w/\VA Ok.H bG a'.tmps/\a'.defers=[]/\(∀b,b<wL.heap.size->b6 b=π b)/\wL.heap.size<=bG.heap.size) hp (fun own w hl=>?_) ?_
 .refine aD.step rfl fun w₁ hR=>?_
  obtain⟨r1,r2,r3⟩:=wN.rel own w w₁ hR;obtain⟨b6,hl',F0,hag⟩:=hl.rely r1 r2 r3;have hl1:LW Ok.H no (ay wL w₁.tape w₁.drawn):=hl'.lw.ay _ _;have eπ:bg π a D=bg b6 a D:=j6 ha (fun b hb=>(F0 b hb).symm) D;have h1:=h w₁.tape w₁.drawn
  have both:=fun {x bG} (hr:(execOp a.eval o).run PP (ay wL w₁.tape w₁.drawn)= .ok x bG)=>mS Bp hl'.inj hl'.zero (fun _ _ h=>h) hl1 hl'.wr D ha sc hr fun i _=>hag i
  cases hr:(execOp a.eval o).run PP (ay wL w₁.tape w₁.drawn) with
  |halt hh u=>rw[hr] at h1;exact h1.elim
  |ok nx u=>
   rw[hr] at h1;obtain⟨l1,l2,x',w',e1,e2,e3,e4,e5,e6⟩:=both hr;obtain⟨o1,o2⟩:=hl'.qV (fun i _=>hag i) l1 l2 e3 e4 (fun e he=>e5 e (mem_listed (fn:=(base f).fn) he))
   have fin:∀v:Value,eP Ok r f D (.inRegion ops rest::k) R (a.put o.dst v) u->VV (fY Ok.H u) v->aD PP true kK (fun s g w=>∃a' bG b6,eP Ok r f D (.inRegion ops rest::k) R a' bG/\g=G ((base f).at (bg b6 a' D) (.inRegion ops rest::k)) CS/\Link Ok.H no s no b6 bG w/\VA Ok.H bG a'.tmps/\a'.defers=[]/\(∀b,b<wL.heap.size->b6 b=π b)/\wL.heap.size<=bG.heap.size)
     (kK.up own w₁ w') (G ((base f).at (bg b6 (a.put o.dst v) D) (.inRegion ops rest::k)) CS) w':=fun v hc hv=>
    .stop fun w₂ ⟨d,e⟩=>⟨_,u,b6,hc,rfl,by rw[e];exact(o2 _ fun b=>Iff.rfl).at d,jf (VA.grow ha l2) hv,(put_defers _ _ _).trans hd,fun b hb=>(F0 b hb).symm,l2⟩
   cases nx with
   |value v=>
    cases e2;refine⟨_,w',_,by rw[eπ];exact stepG_value ho (hw _) hkb e1,o1,?_⟩;rw[hU _ _ _ _ hdst];exact fin v h1 e6
   |skip=>
    cases e2;refine⟨_,w',_,by rw[eπ];exact stepG_none ho (hw _) hkb e1,o1,?_⟩;have e:(bg b6 a D).put o.dst undef=bg b6 (a.put o.dst undef) D:=by
     have:=hU (π:=b6) a D o.dst undef hdst
     rwa [show Value.ren b6 undef=undef by simp[undef]] at this
    rw[e];exact fin undef h1 gz
   |_=>exact h1.elim
 .rintro Dead s g w M' jO hz ⟨a',bG,b6,hc,rfl,hl,ha',hd',hag,hsz⟩ hs
  exact hc CS b6 M' jO ⟨Dead,s,w,hz,hl,hs⟩ ha' hd' fun a2 D2 A9 uq M2 Be todo r2 rr p v d g2 z=>hk a2 D2 A9 uq M2 Be todo r2 rr p v d (fun b hb=>(g2 b (Nat.lt_of_lt_of_le hb hsz)).trans (hag b hb)) (Nat.le_trans hsz z)
theorem Mz {ops:Array Oper}{i:Nat}{rest:List Nat}{o:Oper}(ho:ops[i]? =some o)(sc:eE (sl D) PP S0 E0 true o=true)(hg:o.guard=none)
  (h:∀t d,uponE o a (fun a' w'=>eP Ok r f D (.inRegion ops rest::k) R a' w') (fun _ _ _=>False) ((execOp a.eval o).run PP (ay wL t d))):eP Ok r f D (.inRegion ops (i::rest)::k) R a wL:=
 pi ho sc (fun π=>by simp[Region.wanted,hg]) h
theorem va {ops:Array Oper}{i:Nat}{rest:List Nat}{o:Oper}(ho:ops[i]? =some o)(hdst:∀t,o.dst=some t->t∉sl D)(hw:∀π,Region.wanted o (yielded ops (bg π a D).tmps)=false)
  (h:eP Ok r f D (.inRegion ops rest::k) R (a.put o.dst undef) wL):eP Ok r f D (.inRegion ops (i::rest)::k) R a wL:=fun CS π M tr hp ha hd hk=>by
 refine eu hp (fun w=>stepG_unwanted ho (hw π)) fun M1 GU hp1=>?_
 have e:=hU (π:=π) a D o.dst undef hdst;rw[show Value.ren π undef=undef by simp[undef]] at e;rw[e] at hp1;exact h CS π M1 GU hp1 (jf ha gz) ((put_defers _ _ _).trans hd) hk
theorem sZ {ops:Array Oper}{i:Nat}{rest:List Nat}{o:Oper}(v:Value)(hv:∀r,¬Value.Has r v)(ho:ops[i]? =some o)(hg:o.guard=none)(hdst:∀t,o.dst=some t->t∉sl D)
  (hrun:∀(π:Nat->Nat) (w:World),(execOp (bg π a D).eval o).runT PP w #[]=(.ok (.value v) w,#[])) (h:eP Ok r f D (.inRegion ops rest::k) R (a.put o.dst v) wL):eP Ok r f D (.inRegion ops (i::rest)::k) R a wL:=fun CS π M tr hp ha hd hk=>by
 have hwd:∀c:Array Value,Region.wanted o (yielded ops c)=true:=fun c=>by simp[Region.wanted,hg]
 have hkb:(base f).kind≠.early:=by simp[base]
 have hl0:∀w,listed PP (base f).fn (bg π a D) o w=#[]:=fun w=>by
  unfold listed;rw[show(execOp (bg π a D).eval o).events PP w #[]=#[] from congrArg Prod.snd (hrun π w)];simp[seen]
 refine eu hp (fun w=>by rw[stepG_value ho (hwd _) hkb (by rw[<-Sem.runT_fst PP _ w #[],hrun]),hl0]) fun M1 GU hp1=>?_
 have e:=hU (π:=π) a D o.dst v hdst;rw[eQ v fun r hr=>absurd hr (hv r)] at e;rw[e] at hp1;exact h CS π M1 GU hp1 (jf ha fun r hr=>absurd hr (hv r)) ((put_defers _ _ _).trans hd) hk
def lQ:jU->Nat->Value->jU
 |[],_,_=>[]
 |p::D,d,v=>if p.1=d then(d,v)::D else p::lQ D d v
theorem Ci:∀(D:jU) (d:Nat) (v:Value) (c:Array Value),(sl D).Nodup->d∈sl D->(wh D c).setIfInBounds d v=wh (lQ D d v) c
 |[],_,_,_,_,h=>by simp[sl] at h
 |p::D,d,v,c,hn,h=>by
  simp only[sl,List.map_cons,List.nodup_cons] at hn;unfold lQ;split
  .rename_i e
   show(wh D (c.setIfInBounds p.1 p.2)).setIfInBounds d v=wh D (c.setIfInBounds d v);have hd:d∉sl D:=e▸hn.1;rw[Ag D _ d v hd,e]
   congr 1
   simp
  .rename_i e
   have hd:d∈sl D:=by
    simp only[sl,List.map_cons,List.mem_cons] at h;exact h.resolve_left fun q=>e q.symm
   exact Ci D d v (c.setIfInBounds p.1 p.2) hn.2 hd
theorem Mx {ops:Array Oper}{i:Nat}{rest:List Nat}{o:Oper}(d:Nat)(v:Value)(ho:ops[i]? =some o)(hwd:∀π,Region.wanted o (yielded ops (bg π a D).tmps)=true)(hdst:o.dst=some d)(hn:(sl D).Nodup)(hmem:d∈sl D)
  (hrun:∀(π:Nat->Nat) (w:World),(execOp (bg π a D).eval o).runT PP w #[]=(.ok (.value v) w,#[])) (h:eP Ok r f (lQ D d v) (.inRegion ops rest::k) R a wL):eP Ok r f D (.inRegion ops (i::rest)::k) R a wL:=fun CS π M tr hp ha hd hk=>by
 have hkb:(base f).kind≠.early:=by simp[base]
 have hl0:∀w,listed PP (base f).fn (bg π a D) o w=#[]:=fun w=>by
  unfold listed;rw[show(execOp (bg π a D).eval o).events PP w #[]=#[] from congrArg Prod.snd (hrun π w)];simp[seen]
 refine eu hp (fun w=>by rw[stepG_value ho (hwd π) hkb (by rw[<-Sem.runT_fst PP _ w #[],hrun]),hl0]) fun M1 GU hp1=>?_
 have e:(bg π a D).put o.dst v=bg π a (lQ D d v):=by
  rw[hdst];simp only[Act.put,bg];rw[Ci D d v _ hn hmem]
 rw[e] at hp1;exact h CS π M1 GU hp1 ha hd hk
theorem ju {ops:Array Oper}{i:Nat}{rest:List Nat}{o:Oper}(d:Nat)(v:Value)(ho:ops[i]? =some o)(hg:o.guard=none)(hdst:o.dst=some d)(hn:(sl D).Nodup)(hmem:d∈sl D)
  (hrun:∀(π:Nat->Nat) (w:World),(execOp (bg π a D).eval o).runT PP w #[]=(.ok (.value v) w,#[])) (h:eP Ok r f (lQ D d v) (.inRegion ops rest::k) R a wL):eP Ok r f D (.inRegion ops (i::rest)::k) R a wL:=
 Mx d v ho (fun π=>by simp[Region.wanted,hg]) hdst hn hmem hrun h
theorem rT {ops:Array Oper}{i:Nat}{rest:List Nat}{o:Oper}{f2:FuncId}(xs:Array Operand)(args:Array Value){R2:Value->World->Prop}(ho:ops[i]? =some o)(hg:o.guard=none)(hxs:xs.all mY=true)(hoff:xs.all (iN (sl D))=true)(hdst:∀t,o.dst=some t->t∉sl D)
  (hrun:∀(b:Act) (w:World),(execOp b.eval o).runT PP w #[]=(.ok (.enter f2 (xs.map b.eval)) w,#[])) (hargs:xs.map a.eval=args) (hcc:CC Ok f2 args R2 wL)
  (h:∀v w',R2 v w'->wL.heap.size<=w'.heap.size->eP Ok r f D (.inRegion ops rest::k) R (a.put o.dst v) w'):eP Ok r f D (.inRegion ops (i::rest)::k) R a wL:=fun CS π M tr hp ha hd hk=>by
 subst hargs;have hwd:∀c:Array Value,Region.wanted o (yielded ops c)=true:=fun c=>by simp[Region.wanted,hg]
 have hkb:(base f).kind≠.early:=by simp[base]
 have hev:xs.map (bg π a D).eval=(xs.map a.eval).map (Value.ren π):=by
  rw[Array.map_map];exact Array.map_congr_left fun x hx=>kG a D (Array.all_eq_true_iff_forall_mem.1 hxs x hx) (Array.all_eq_true_iff_forall_mem.1 hoff x hx)
 have hr:∀w,(execOp (bg π a D).eval o).run PP w= .ok (.enter f2 ((xs.map a.eval).map (Value.ren π))) w:=fun w=>by rw[<-Sem.runT_fst PP _ w #[],hrun,hev]
 have hl0:∀w,listed PP (base f).fn (bg π a D) o w=#[]:=fun w=>by
  unfold listed;rw[show(execOp (bg π a D).eval o).events PP w #[]=#[] from congrArg Prod.snd (hrun _ w)];simp[seen]
 refine eu hp (fun w=>by rw[stepG_enter ho (hwd _) hkb (hr w),hl0]) fun M1 GU hp1=>?_
 refine hcc _ CS π M1 GU hp1 (fun v hv=>?_) fun v bG b6 M' jO ⟨t,d,hR⟩ hp' hv hag hsz=>?_
 .obtain⟨x,hx,rfl⟩:=Array.mem_map.1 hv
  exact k9 ha (Array.all_eq_true_iff_forall_mem.1 hxs x hx)
 .have hc:eP Ok r f D (.inRegion ops rest::k) R (a.put o.dst v) bG:=(fJ t d).1 (h v _ hR hsz)
  have e:((base f).at (bg π a D) (.inRegion ops (i::rest)::k)).finish (Value.ren b6 v)=(base f).at (bg b6 (a.put o.dst v) D) (.inRegion ops rest::k):=by
   rw[Frame.finish_at,ho,Option.bind_some,j6 ha hag,hU _ _ _ _ hdst]
  rw[e] at hp';exact hc CS b6 M' jO hp' (jf (VA.grow ha hsz) hv) ((put_defers _ _ _).trans hd) fun a2 D2 A9 uq M2 Be todo r2 rr p v d g2 z=>hk a2 D2 A9 uq M2 Be todo r2 rr p v d (fun b hb=>(g2 b (Nat.lt_of_lt_of_le hb hsz)).trans (hag b hb)) (Nat.le_trans hsz z)
def CCt (Ok:Env)(f:FuncId)(targs:Array Value)(R:Value->World->Prop)(wL:World):Prop:=
 ∀(c:Frame) (CS:List Frame) (π:Nat->Nat) (M:Machine) (tr:Trace),AS Ok π wL M tr (G (Frame.enter PP f targs .normal) (c::CS))->
  (∀(v:Value) (bG:World) (b6:Nat->Nat) (M':Machine) (jO:Trace),(∃t d,R v (ay bG t d))->AS Ok b6 bG M' jO (G (c.finish (Value.ren b6 v)) CS)->VV (fY Ok.H bG) v->
   (∀b,b<wL.heap.size->b6 b=π b)->wL.heap.size<=bG.heap.size->Ok.Ok M' jO)->Ok.Ok M tr
theorem zm {a:Act}{π:Nat->Nat}{D:jU}{r:Nat}(h:r∉sl D):(bg π a D).tmps.getD r undef=Value.ren π (a.tmps.getD r undef):=by
 show(wh D (a.tmps.map (Value.ren π))).getD r undef=_;rw[Array.getD_eq_getD_getElem?,qX D _ r h,<-Array.getD_eq_getD_getElem?,jB]
theorem EX {fn:Func}{cd:Code}{targs:Array Value}{R2:Value->World->Prop}(a0:Act)(D0:jU)(hf:PP.funcs[f]? =some fn)(hb:fn.body=some cd)(hres:fn.results=#[.tmp r])(ha0:VA Ok.H wL a0.tmps)(hd0:a0.defers=[])
  (he:∀π,bg π a0 D0={tmps:=targs++Array.replicate (fn.ntmps-targs.size) undef,defers:=[]}) (h:eP Ok r f D0 [.code cd] (fun a w=>R2 (a.tmps.getD r undef) w) a0 wL):CCt Ok f targs R2 wL:=fun c CS π M tr hp hk=>by
 rw[enter_at _ hf hb,<-he π] at hp;refine h (c::CS) π M tr hp ha0 hd0 fun a' D' bG b6 M' jO todo hr hR hp' ha' hd' hag hsz=>?_
 have hg:=zm (a:=a') (π:=b6) hr;refine eu hp' (fun w=>stepG_leave (b:=base f) (a:=bg b6 a' D') (todo:=todo) (v:=Value.ren b6 (a'.tmps.getD r undef)) rfl rfl hf ?_ ?_) fun M2 Be hp2=>hk _ bG b6 M2 Be hR hp2 (k9 (x:= .tmp r) ha' rfl) hag hsz
 .rw[results_tmp hres,hg]
 .have e:results fn (bg b6 a' D').tmps=pure ((bg b6 a' D').tmps.getD r undef):=by simp[results,hres]
  rw[e];rfl
theorem s9 {ops:Array Oper}{i:Nat}{rest:List Nat}{o:Oper}{f2:FuncId}(targs:Array Value){R2:Value->World->Prop}(ho:ops[i]? =some o)(hg:o.guard=none)(hdst:∀t,o.dst=some t->t∉sl D)
  (hrun:∀(π:Nat->Nat) (w:World),(execOp (bg π a D).eval o).runT PP w #[]=(.ok (.enter f2 targs) w,#[])) (hcc:CCt Ok f2 targs R2 wL)
  (h:∀v w',R2 v w'->wL.heap.size<=w'.heap.size->eP Ok r f D (.inRegion ops rest::k) R (a.put o.dst v) w'):eP Ok r f D (.inRegion ops (i::rest)::k) R a wL:=fun CS π M tr hp ha hd hk=>by
 have hwd:∀c:Array Value,Region.wanted o (yielded ops c)=true:=fun c=>by simp[Region.wanted,hg]
 have hkb:(base f).kind≠.early:=by simp[base]
 have hr:∀w,(execOp (bg π a D).eval o).run PP w= .ok (.enter f2 targs) w:=fun w=>by rw[<-Sem.runT_fst PP _ w #[],hrun]
 have hl0:∀w,listed PP (base f).fn (bg π a D) o w=#[]:=fun w=>by
  unfold listed;rw[show(execOp (bg π a D).eval o).events PP w #[]=#[] from congrArg Prod.snd (hrun π w)];simp[seen]
 refine eu hp (fun w=>by rw[stepG_enter ho (hwd _) hkb (hr w),hl0]) fun M1 GU hp1=>?_
 refine hcc _ CS π M1 GU hp1 fun v bG b6 M' jO ⟨t,d,hR⟩ hp' hv hag hsz=>?_
 have hc:eP Ok r f D (.inRegion ops rest::k) R (a.put o.dst v) bG:=(fJ t d).1 (h v _ hR hsz);have e:((base f).at (bg π a D) (.inRegion ops (i::rest)::k)).finish (Value.ren b6 v)=(base f).at (bg b6 (a.put o.dst v) D) (.inRegion ops rest::k):=by
  rw[Frame.finish_at,ho,Option.bind_some,j6 ha hag,hU _ _ _ _ hdst]
 rw[e] at hp';exact hc CS b6 M' jO hp' (jf (VA.grow ha hsz) hv) ((put_defers _ _ _).trans hd) fun a2 D2 A9 uq M2 Be todo r2 rr p v d g2 z=>hk a2 D2 A9 uq M2 Be todo r2 rr p v d (fun b hb=>(g2 b (Nat.lt_of_lt_of_le hb hsz)).trans (hag b hb)) (Nat.le_trans hsz z)
theorem rR {c:Code}(I:jU->Act->World->Prop)(μ:Act->World->Nat)(h0:I D a wL)
  (round:∀D a w,I D a w->(∀D' a' w',I D' a' w'->μ a' w'<μ a w->eP Ok r f D' (.inLoop c::k) R a' w')->eP Ok r f D (.code c::.inLoop c::k) R a w):eP Ok r f D (.code (.loop c)::k) R a wL:=by
 have key:∀n D a w,I D a w->μ a w=n->eP Ok r f D (.code c::.inLoop c::k) R a w:=by
  intro n
  induction n using Nat.strongRecOn with
  |_ n ih=>exact fun D a w hI hn=>round D a w hI fun D' a' w' hI' hl=>EU (ih _ (hn▸hl) D' a' w' hI' rfl)
 exact MC (key _ _ _ _ h0 rfl)
theorem IX {ops:Array Oper}{i:Nat}{rest:List Nat}{o:Oper}(q:Nat)(ob:Obj)(hq:Ok.K q=some ob)(v:Value)(hv:∀r,¬Value.Has r v)(ho:ops[i]? =some o)(hwd:∀π,Region.wanted o (yielded ops (bg π a D).tmps)=true)(hdst:∀t,o.dst=some t->t∉sl D)
  (hrun:∀(π:Nat->Nat) (w:World),w.heap[q]? =some ob->(execOp (bg π a D).eval o).run PP w= .ok (.value v) w)
  (hev:∀(π:Nat->Nat) (w:World),w.heap[q]? =some ob->∀e∈(execOp (bg π a D).eval o).events PP w #[],e.sync=false/\aI.ls q e.loc)
  (h:eP Ok r f D (.inRegion ops rest::k) R (a.put o.dst v) wL):eP Ok r f D (.inRegion ops (i::rest)::k) R a wL:=fun CS π M tr hp ha hd hk=>by
 have hkb:(base f).kind≠.early:=by simp[base]
 obtain⟨Sh,own,w,h1,h2,h3,h4,h5⟩:=hp
 let KK:Nat->Prop:=fun q=>∃o,Ok.K q=some o
 have kk:∀q,KK q->q<w.heap.size/\∀l,aI.ls q l->¬Sh l:=fun q ⟨o,hq⟩=>⟨(Array.getElem?_eq_some_iff.1 (h5 q o hq).2.1).1,(h5 q o hq).2.2⟩
 have hA:=h3.union KK kk;have e:=hU (π:=π) a D o.dst v hdst;rw[eQ v fun r hr=>absurd hr (hv r)] at e;have tree:aD PP true kK (fun s g w'=>s=(fun b=>own b\/KK b)/\g=G ((base f).at (bg π (a.put o.dst v) D) (.inRegion ops rest::k)) CS/\∃d,w'=w.at d) (fun b=>own b\/KK b) (G ((base f).at (bg π a D) (.inRegion ops (i::rest)::k)) CS) w:=by
  refine aD.step rfl fun w₁ hR=>?_
  obtain⟨d,rfl⟩:=hR;have hw:(w.at d).heap[q]? =some ob:=(h5 q ob hq).2.1;refine⟨_,w.at d,_,stepG_value ho (hwd π) hkb (hrun π _ hw),⟨Nat.le_refl _,fun _ _ _=>rfl,rfl,rfl,rfl,fun ev he=>?_⟩,?_⟩
  .obtain⟨_,hb⟩:=hev π _ hw ev (by simpa using mem_listed (fn:=(base f).fn) he)
   exact .inl ⟨q,.inl (.inr ⟨ob,hq⟩),hb⟩
  .rw[Fp,e]
   exact .stop fun w₂ ⟨d2,e2⟩=>⟨rfl,rfl,d2,by rw[e2];rfl⟩
 obtain⟨N,M',t',g',w',e1,e2,⟨s',⟨rfl,rfl,d,rfl⟩,e4⟩,e5,_⟩:=kx h1 (uW tree hA);exact Ok.back _ _ _ _ _ e1 (h CS π M' t' ⟨Sh,own,_,e2,h2.at d,e4.part fun b hb=> .inl hb,h4,h5⟩ (jf ha fun r hr=>absurd hr (hv r)) ((put_defers _ _ _).trans hd) hk)
theorem xu {ops:Array Oper}{i:Nat}{rest:List Nat}{o:Oper}(q:Nat)(ob:Obj)(hq:Ok.K q=some ob)(v:Value)(hv:∀r,¬Value.Has r v)(ho:ops[i]? =some o)(hg:o.guard=none)(hdst:∀t,o.dst=some t->t∉sl D)
  (hrun:∀(π:Nat->Nat) (w:World),w.heap[q]? =some ob->(execOp (bg π a D).eval o).run PP w= .ok (.value v) w)
  (hev:∀(π:Nat->Nat) (w:World),w.heap[q]? =some ob->∀e∈(execOp (bg π a D).eval o).events PP w #[],e.sync=false/\aI.ls q e.loc)
  (h:eP Ok r f D (.inRegion ops rest::k) R (a.put o.dst v) wL):eP Ok r f D (.inRegion ops (i::rest)::k) R a wL:=
 IX q ob hq v hv ho (fun π=>by simp[Region.wanted,hg]) hdst hrun hev h
end
theorem Cq {f:FuncId}{fn:Func}{cd:Code}{r:Tmp}{args:Array Value}{W:World}{H:Nat->Prop}{K:Nat->Option Obj}{wL:World}{R2:Value->World->Prop}{Post:Value->World->Prop}(hf:PP.funcs[f]? =some fn)(hb:fn.body=some cd)(hi:PP.inits.idxOf? f=none)(hres:fn.results=#[.tmp r])
  (hl:Link H no (fun b=>b<W.heap.size/\K b=none) no id wL W) (hKW:∀q o,K q=some o->W.heap[q]? =some o) (a0:Act) (D0:jU) (ha0:VA H wL a0.tmps) (hd0:a0.defers=[]) (he:bg id a0 D0={tmps:=args++Array.replicate (fn.ntmps-args.size) undef,defers:=[]}) (hsz:wL.heap.size=W.heap.size)
  (h:eP (R8 Post W H K) r f D0 [.code cd] (fun a w=>R2 (a.tmps.getD r undef) w) a0 wL)
  (post:∀(v:Value) (bG:World) (π:Nat->Nat) (own:Nat->Prop) (w':World),(∃t d,R2 v (ay bG t d))->Link H no own no π bG w'->VV (fY H bG) v->(∀b,b<W.heap.size->π b=b)->W.heap.size<=bG.heap.size->W.heap.size<=w'.heap.size->ConcM.OsLater W.os w'.os->w'.output=W.output->(∀q o,K q=some o->w'.heap[q]? =some o)->Post (Value.ren π v) w'):
  Nf Post (solo (G (Frame.enter PP f args .normal) []) W) #[]:=by
 have hz:Zero PP (fun _=>False) (solo (G (Frame.enter PP f args .normal) []) W) #[] (G (Frame.enter PP f args .normal) []) W:=
  ⟨⟨_,none,_,rfl,rfl,leavers_one PP _,by simp[X2]⟩,⟨past_nil.clean,fun i a ha=>absurd ha (by simp[touchAt,Trace.act?]),past_nil.over,rfl,by simp⟩⟩
 have hp:AS (R8 Post W H K) id wL (solo (G (Frame.enter PP f args .normal) []) W) #[] (G (Frame.enter PP f args .normal) []):=⟨fun _=>False,_,W,hz,hl,⟨fun b hb l hl h=>h,fun b hb=>hb.1,fun l b h=>h.elim,fun l h=>h.elim⟩,⟨.refl _,rfl⟩,fun q o (ho:K q=some o)=>⟨fun hb=>(by rw[hb.2] at ho;cases ho),hKW q o ho,fun _ _ h=>h⟩⟩
 rw[enter_at _ hf hb,<-he] at hp;rw[enter_at _ hf hb,<-he];refine h [] id _ _ hp ha0 hd0 fun a' D' bG b6 M' jO todo hrD hR hp' ha' hd' hag hsz'=>?_
 have hgo:=zm (a:=a') (π:=b6) hrD;obtain⟨Dead,own,w,hz',hl',hs,hos,hkf⟩:=hp';obtain⟨gs,sl,q,rfl,h0,hL,_⟩:=hz'.ex;have hvv:VV (fY H bG) (a'.tmps.getD r undef):=k9 (x:= .tmp r) ha' rfl;have afT:W.heap.size<=w.heap.size:=by
  rcases Nat.eq_zero_or_pos W.heap.size with h0|h0
  .omega
  .have h1:=hl'.lt (W.heap.size-1) (by omega)
   rw[hag _ (by omega)] at h1;have h2:W.heap.size-1<w.heap.size:=h1;omega
 have hpost:=fun w'' (d:Nat) (e:w''=w.at d)=>post (a'.tmps.getD r undef) bG b6 own w'' hR (by rw[e];exact hl'.at d) hvv (fun b hb=>(hag b (by rw[hsz];exact hb)).trans rfl) (hsz▸hsz') (by rw[e];exact afT) (by rw[e];exact hos.1) (by rw[e];exact hos.2) fun q o hq=>by rw[e];exact(hkf q o hq).2.1
 refine beside_ends (Shun:=Dead) (B:=w.heap.size) (D:=fun _ _ _=>False) (fun _ _ _ h=>h.elim) (n:=0) h0 hL hz'.past fun w₁ ⟨d,e⟩=>⟨rfl,Value.ren b6 (a'.tmps.getD r undef),#[],?_,by simp,hpost w₁ d e⟩
 have hr:(results fn (bg b6 a' D').tmps).run PP w₁= .ok (Value.ren b6 (a'.tmps.getD r undef)) w₁:=by
  rw[results_tmp hres];rw[hgo]
 have he:(results fn (bg b6 a' D').tmps).events PP w₁ #[]=#[]:=by
  have e:results fn (bg b6 a' D').tmps=pure ((bg b6 a' D').tmps.getD r undef):=by simp[results,hres]
  rw[e];rfl
 simp[G,stepG,unwind,doReturn,Frame.at,base,hf,hi,bg,wh] at hr he⊢;rw[hr,he];have hi2:=hi;simp at hi2;simp[seen,GStep.after,hi2]
end aj
end
section
open Go.Conc Go.RowKit Go.Lib Go.Sort
def rn (u:Nat->Value):Nat->Nat->List Value->List Value
 |_,0,r=>r
 |i,n+1,r=>u i::rn u (i+1) n r
namespace aj
section
variable {Ok:Env}{r:Nat}{f:FuncId}{D:jU}{k t:List Item}{R:Act->World->Prop}{a:Act}{wL w1:World}{ops:Array Oper}{i:Nat}{rest:List Nat}{o:Oper}
theorem fK (x:Operand)(ho:ops[i]? =some o)(hop:o.op= .assign x\/o.op= .move x)(sc:eE (sl D) PP S0 E0 true o=true)(hg:o.guard=none)
  (h:eP Ok r f D (.inRegion ops rest::k) R (a.put o.dst (a.eval x)) wL):eP Ok r f D (.inRegion ops (i::rest)::k) R a wL:=by
 refine Mz ho sc hg fun t d=>?_
 have e:(execOp a.eval o).run PP (ay wL t d)= .ok (.value (a.eval x)) (ay wL t d):=by
  unfold execOp;rcases hop with hop|hop<;>rw[hop]<;>rfl
 rw[e];exact(fJ t d).2 h
theorem ie (v:Value)(ho:ops[i]? =some o)(sc:eE (sl D) PP S0 E0 true o=true)(hg:o.guard=none)
  (hr:∀t d,(execOp a.eval o).run PP (ay wL t d)= .ok (.value v) (ay w1 t d)) (h:eP Ok r f D (.inRegion ops rest::k) R (a.put o.dst v) w1):eP Ok r f D (.inRegion ops (i::rest)::k) R a wL:=by
 refine Mz ho sc hg fun t d=>?_
 rw[hr];exact(fJ t d).2 h
theorem rQ (v:Value)(ho:ops[i]? =some o)(sc:eE (sl D) PP S0 E0 true o=true)(hw:∀π,Region.wanted o (yielded ops (bg π a D).tmps)=true)
  (hr:∀t d,(execOp a.eval o).run PP (ay wL t d)= .ok (.value v) (ay w1 t d)) (h:eP Ok r f D (.inRegion ops rest::k) R (a.put o.dst v) w1):eP Ok r f D (.inRegion ops (i::rest)::k) R a wL:=by
 refine pi ho sc hw fun t d=>?_
 rw[hr];exact(fJ t d).2 h
theorem lj (a':Act)(e:a=a')(h:eP Ok r f D t R a' wL):eP Ok r f D t R a wL:=e▸h
theorem ee (B:(Nat->Value)->Act)(e:a=B fun i=>a.tmps.getD i undef)(h:∀u,eP Ok r f D t R (B u) wL):eP Ok r f D t R a wL:=e▸h _
theorem Gt (D':jU)(e:D=D')(h:eP Ok r f D' t R a wL):eP Ok r f D t R a wL:=e▸h
theorem xd {π:Nat->Nat}{x:Operand}{q:IntKind}{n:Int}(hx:mY x=true)(ho:iN (sl D) x=true)(h:a.eval x= .int q n):(bg π a D).eval x= .int q n:=(kG a D hx ho).trans (by rw[h];simp)
theorem agY (t:TypeId)(x:Operand)(ho:ops[i]? =some o)(hop:o.op= .load t x)(sc:eE (sl D) PP S0 E0 true o=true)(hg:o.guard=none)
  (ha:(Tryz.prog.underlying t).map (fun d=>match d with|.struct _|.array _ _=>true|_=>false)=some false) (b:Addr) (hx:a.eval x= .pointer (some b)) (v:Value) (hc:wL.cell? b=some v)
  (h:eP Ok r f D (.inRegion ops rest::k) R (a.put o.dst v) wL):eP Ok r f D (.inRegion ops (i::rest)::k) R a wL:=by
 refine ie (w1:=wL) v ho sc hg (fun t' d=>?_) h;have hc':(ay wL t' d).cell? b=some v:=hc;have h1:aI.RT (kJ.load t (.pointer (some b))).sem (ay wL t' d) (.value v) (ay wL t' d) #[⟨.cell b,false,false⟩]:=by
  refine aI.RT.eG (x:=v) ?_ (.pure _);show aI.RT (do if<-isAgg t then Pure.pure (.agg (<-loadCells b (<-Go.sizeOf t))) else load b) _ _ _ _;refine(aI.gC ha).aP ?_;simp only[Bool.false_eq_true,if_false];exact aI.jZ hc'
 have:=h1.run;unfold execOp;rw[hop];show(do pure (.value (<-Instr.loadAt t (a.eval x))):Sem Next).run _ _=_;rw[hx];exact this
theorem My {l:List Nat}(fM:Option Nat)(hr:r∉sl D)(h0:∃fn,PP.funcs[f]? =some fn)(AX:bV (sl D) PP S0 E0 true (.inRegion ops l)=true)(hx:∀id,fM=some id->∃y,exitTo id k=some y)
  (I:World->Prop) (hb:∀w t d,I w->I (ay w t d)) (hI:I wL) (hwp:∀w,I w->w.heap.size=wL.heap.size->wpOps PP ops (xG Ok r fM f D k R) l a w):eP Ok r f D (.inRegion ops l::k) R a wL:=
 C7 (t0:=[.inRegion ops l]) fM hr h0 (fun it hit=>by simp at hit;subst hit;exact AX) hx fun t d b k cs=>wp_ops l a _ (hwp _ (hb _ t d hI) rfl) b k cs
theorem Mw {l:List Nat}(m:Nat)(hl:l=List.range' m (ops.toList.drop m).length)(hr:r∉sl D)(h0:∃fn,PP.funcs[f]? =some fn)(AX:bV (sl D) PP S0 E0 true (.inRegion ops l)=true)
  (I:World->Prop) (hb:∀w t d,I w->I (ay w t d)) (hI:I wL) (hwp:∀w,I w->w.heap.size=wL.heap.size->wpList PP ops (xG Ok r none f D k R) (ops.toList.drop m) a w):eP Ok r f D (.inRegion ops l::k) R a wL:=by
 refine My none hr h0 AX (by simp) I hb hI fun w h1 h2=>?_
 rw[hl,wpOps_eq_wpList (ops.toList.drop m) m fun j=>by rw[List.getElem?_drop,Array.getElem?_toList]];exact hwp w h1 h2
end
end aj
theorem B4 {w w':World}{q off:Nat}{ob:Obj}{l:List Value}(h:w.rangeAt q off l)(hq:w.heap[q]? =some ob)(hq':w'.heap[q]? =some ob):w'.rangeAt q off l:=fun i v hv=>by
 have:=h i v hv;unfold World.cell? at this⊢;rw[hq] at this;rw[hq'];exact this
namespace aI
theorem UB {w:World}{t:TypeId}{m:Nat}(b off len cap j:Nat)(hj:j<len)(ht:PP.underlying t=some (.slice (PP.elem t)))(hm:(PP.info? (PP.elem t)).map (·.size)=some m):
  RT (Instr.indexAt t (.slice (some ⟨b,off,none⟩) len cap) (.int .i64 j)) w (.pointer (some ⟨b,off+j*m,none⟩)) w #[]:=by
 unfold Instr.indexAt;refine RT.aP (x:=(IntKind.i64,(j:Int))) (.pure _) ?_;refine(fB ht).aP ?_;refine RT.aP (.pure _) ?_;refine(fB ht).aP ?_;simp only;rw[if_pos ⟨by omega,by omega⟩];refine(oK hm).aP ?_;have e:(Addr.add ⟨b,off,none⟩ ((j:Int).toNat*m))=⟨b,off+j*m,none⟩:=by rw[Int.toNat_natCast,Addr.add_mid]
 rw[e];exact .pure _
end aI
section
variable {o:Oper}{x y:Operand}
theorem Er {t:TypeId}{m:Nat}(ht:aj.PP.underlying t=some (.slice (aj.PP.elem t)))(hm:(aj.PP.info? (aj.PP.elem t)).map (·.size)=some m)(b off len cap j:Nat)(hj:j<len)(a:Act)(hop:o.op= .indexAddr t x y)(hx:a.eval x= .slice (some ⟨b,off,none⟩) len cap)(hy:a.eval y= .int .i64 j)(w:World):
  (execOp a.eval o).runT aj.PP w #[]=(.ok (.value (.pointer (some ⟨b,off+j*m,none⟩))) w,#[]):=by
 have h:aI.RT (do pure (.value (<-Instr.indexAt t (a.eval x) (a.eval y))):Sem Next) w (.value (.pointer (some ⟨b,off+j*m,none⟩))) w #[]:=by
  rw[hx,hy];exact(aI.UB b off len cap j hj ht hm).aP (.pure _)
 unfold execOp;rw[hop];exact h #[]
theorem oV {t:TypeId}{b off:Nat}{ob:Obj}{vs:Array Value}{w:World}(hn:(aj.PP.info? t).map (·.size)=some vs.size)(h0:0<vs.size)(hw:w.heap[b]? =some ob)(hra:∀w:World,w.heap[b]? =some ob->w.rangeAt b off vs.toList)(a:Act)(hop:o.op= .load t x)(ha:(aj.PP.underlying t).map (fun d=>match d with|.struct _|.array _ _=>true|_=>false)=some true:=by kernel_rfl)(hx:a.eval x= .pointer (some ⟨b,off,none⟩):=by kernel_rfl):
  (execOp a.eval o).run aj.PP w= .ok (.value (.agg vs)) w/\∀e∈(execOp a.eval o).events aj.PP w #[],e.sync=false/\aI.ls b e.loc:=by
 have hr:=hra w hw;have hcell:∀i,i<vs.size->w.cell? ⟨b,off+i,none⟩=vs[i]? :=fun i hi=>by
  have:=hr i vs[i] (by rw[Array.getElem?_toList,Array.getElem?_eq_getElem hi]);rw[this,Array.getElem?_eq_getElem hi]
 obtain⟨cs,u,f,rfl⟩:∃cs u f,ob= .cells cs u f:=by
  have:=hcell 0 h0;rw[Array.getElem?_eq_getElem h0] at this;unfold World.cell? at this;rw[hw] at this;cases ob with
  |cells cs u f=>exact⟨cs,u,f,rfl⟩
  |_=>cases this
 have hc:∀i,i<vs.size->cs[off+i]? =vs[i]? :=fun i hi=>by
  have:=hcell i hi;unfold World.cell? at this;rw[hw] at this;simpa using this
 have hle:off+vs.size<=cs.size:=by
  have:=hc (vs.size-1) (by omega);rw[Array.getElem?_eq_getElem (by omega:vs.size-1<vs.size)] at this;have:=(Array.getElem?_eq_some_iff.1 this).1;omega
 have he:cs.extract off (off+vs.size)=vs:=by
  apply Array.ext_getElem?
  intro i;rw[Array.getElem?_extract]
  by_cases hi:i<vs.size
  .rw[if_pos (by omega),hc i hi]
  .rw[if_neg (by omega),Array.getElem?_eq_none (by omega)]
 obtain⟨ev,h1,h2⟩:=aI.jy (t:=t) (off:=off) (n:=vs.size) hw ha hn hle;rw[he] at h1;have h3:execOp a.eval o=(kJ.load t (.pointer (some ⟨b,off,none⟩))).sem:=by
  unfold execOp;rw[hop];show(do pure (.value (<-Instr.loadAt t (a.eval x))):Sem Next)=_;rw[hx];rfl
 rw[h3];refine⟨h1.run,fun e he=>(h2 e ?_).1⟩;have h4:(kJ.load t (.pointer (some ⟨b,off,none⟩))).sem.events aj.PP w #[]=#[]++ev:=congrArg Prod.snd (h1 #[]);rw[h4] at he;simpa using he
end
theorem Az {k sd pt:Int}{ct:ByteArray}:∀r,¬Value.Has r (.agg (dS k sd pt ct)):=fun r h=>by
 cases h with
 |agg hv h=>
  simp[dS] at hv;rcases hv with rfl|rfl|rfl|rfl<;>cases h
end
section
open Go.RowKit Go.Lib Go.Sort
def Ec (sv x y z:Value):jU:=[(0,sv),(53,x),(63,y),(65,z)]
section
variable {sv x y z:Value}
theorem mX:2∉sl (Ec sv x y z):=by simp[sl,Ec]
theorem sK:(sl (Ec sv x y z)).Nodup:=by simp[sl,Ec]
theorem U0:53∈sl (Ec sv x y z):=by simp[sl,Ec]
theorem UZ:63∈sl (Ec sv x y z):=by simp[sl,Ec]
theorem UY:65∈sl (Ec sv x y z):=by simp[sl,Ec]
end
def Ds (K:Nat->Option Obj)(ad:Option Addr)(l:List nm):Prop:=∀j,(hj:j<l.length)->(l[j]).Ok/\∃b off,ad=some ⟨b,off,none⟩/\∃ob,K b=some ob/\∀w:World,w.heap[b]? =some ob->w.rangeAt b (off+j*4) (l[j]).cells.toList
open aI aI.Sq in
theorem th {E:aj.Env}{wL:World}(ad:Option Addr)(cap:Nat)(l:List nm)(h:Ds E.K ad l)(hG:pr wL):
  aj.CCt E 30 #[.slice ad l.length cap] (X8 l wL) wL:=by
 refine aj.EX (r:=2) {tmps:=#[undef,undef,undef,undef,undef,undef,undef,undef,undef,undef,undef,undef,undef,undef,undef,undef,undef,undef,undef,undef,undef,undef,undef,undef,undef,undef,undef,undef,undef,undef,undef,undef,undef,undef,undef,undef,undef,undef,undef,undef,undef,undef,undef,undef,undef,undef,undef,undef,undef,undef,undef,undef,undef,undef,undef,undef,undef,undef,undef,undef,undef,undef,undef,undef,undef,undef,undef,undef,undef,undef,undef,undef,undef,undef,undef],defers:=[]} (Ec (.slice ad l.length cap) undef undef undef) Tryz.func30 rfl rfl (fun v hv=>?_) rfl (fun π=>by kernel_rfl) ?_
 .simp only[List.mem_toArray,List.mem_cons,List.not_mem_nil,or_self,or_false] at hv
  subst hv;exact gz
 refine aj.dj ?_;refine aj.dG none mX ⟨_,Tryz.func30⟩ (by kernel_rfl) (by simp) (fun w=>eF [] wL w) (fun w t k h=>h.tape t k) (eF.refl _ _) fun w hB hsz=>?_
 clear hsz;go_wp2_with fail;refine aj.dj ?_;refine aj.dG none mX ⟨_,Tryz.func30⟩ (by kernel_rfl) (by simp) (fun w=>eF [] wL w) (fun w t k h=>h.tape t k) hB fun w2 hB2 hsz=>?_
 clear hB hsz;go_wp2_with fail;refine(O6 200 w2 (by omega) (by omega)).mono ?_;rintro e w3 ⟨s,d,F,rfl,hs,f3,g3,l3⟩;have hC:bn w3 F s d (eY 200) 0 H0:=⟨hs,sQ 200 (by omega),zZ,by omega⟩
 have hB:eF [] wL w3:=hB2.trans f3.blk;have hg:bP [] F wL:=(bP.refl [] wL).trans g3 hB2.size;have hls:wL.heap.size<=s:=Nat.le_trans hB2.size l3;clear hs f3 g3 l3 hB2;go_wp2_with fail;refine aj.dj ?_
 refine aj.dG none mX ⟨_,Tryz.func30⟩ (by kernel_rfl) (by simp) (fun w=>bn w F s d (eY 200) 0 H0/\eF [] wL w) (fun w t k h=>⟨h.1.ay t k,h.2.tape t k⟩) ⟨hC,hB⟩ fun w4 hI hsz=>?_
 clear hC hB hsz;obtain⟨hC,hB⟩:=hI;go_wp2_with fail
 obtain⟨L1,q1,q2⟩:=uY (sQ 200 (by omega)) zZ.eight (by decide) 0 [97] [102,105,114,115,116] (by decide) (by decide);have QY:Hid (AF=L1):=by
  show _=_;unfold AF;exact(congrArg (fun z:DS×Value=>z.1.aM) (q2 0)).trans rfl
 have adc:Hid ((DS.calm (eY 200) 0).pY 200 0 ⟨#[97]⟩ wZ=(DS.calm L1 5,.int .i64 0)):=((yT (sQ 200 (by omega)) zZ 0 [97] [102,105,114,115,116] Sj 0).trans (q2 0)).trans (by rw[Int.zero_add]);refine aj.dj ?_
 refine aj.dG none mX ⟨_,Tryz.func30⟩ (by kernel_rfl) (by simp) (fun w=>bn w F s d (eY 200) 0 H0/\eF [] wL w) (fun w t k h=>⟨h.1.ay t k,h.2.tape t k⟩) ⟨hC,hB⟩ fun w4 hI hsz=>?_
 clear hC hB hsz;obtain⟨hC,hB⟩:=hI;go_wp2_with fail;refine(yS F s d 200 _ 0 ⟨#[97]⟩ wZ w4 hC.store (oh _ _ _ (by omega)) (by show 0<55;omega) (by omega) (by decide) (by decide) (by decide)).mono ?_;rintro e w5 ⟨rfl,⟨F1,hs1,g1⟩,f1⟩;rw[adc.out] at hs1⊢;have jG:bn w5 F1 s d L1 5 H1:=⟨hs1,q1,SV,by omega⟩
 have hB1:eF [] wL w5:=oe hg f1.blk hB;have hg1:bP [] F1 wL:=hg.trans g1 hB.size;clear hC hB hs1 f1 g1 adc q1 q2 hg;go_wp2_with fail
 refine aj.dj (aj.eO (aj.fK _ rfl (.inr rfl) (by kernel_rfl) rfl ?_))
 refine aj.rT (f2:=31) #[.tmp 24] #[.pointer (some ⟨s,0,none⟩)] (R2:=zz F1 s d 200 (DS.calm L1 5) w5) rfl rfl (by kernel_rfl) (by kernel_rfl) (cA (by kernel_rfl)) (fun b w=>by kernel_rfl) (by kernel_rfl) (Gw jG.store (hG.blk hB1 (by simp)) (hg1.nil hG) (jG.ok (by omega))) fun v w6 hR _=>?_
 obtain⟨ps,cv,F2,L2,k2,rfl,hP,hC2,hg2,hB2,hk0,hk1,_,hcv,_,hsl⟩:=jG.synced hR;have HST:Hid (st0=(L2,5+k2,jP H1)):=by
  show _=_;unfold st0;rw[QY.out,hsl]
 clear hsl QY;rw[SK hP];have hB2':eF [] wL w6:=oe hg1 hB2 hB1;have Ey:bP [] F2 wL:=hg1.trans hg2 hB1.size;obtain⟨XM,EY,abH⟩:=cy hcv;generalize (xo H1 ps).length=cl at abH;subst abH;clear hcv hR jG hB1 hg1 hg2 hB2 hP
 refine aj.fK _ rfl (.inr rfl) (by kernel_rfl) rfl (aj.ie (w1:=w6) (.agg #[.int .i64 1,.slice XM cl EY]) rfl (by kernel_rfl) rfl (fun t d=>by kernel_rfl) (aj.ie (w1:=w6) (.int .i64 0) rfl (by kernel_rfl) rfl (fun t d=>by kernel_rfl) ?_))
 refine aj.lj {tmps:=(undef::undef::.pointer none::.pointer (some ⟨s,0,none⟩)::.int .i64 0::.int .i64 0::rn (fun _=>undef) 0 5 (.tuple #[.pointer (some ⟨s,0,none⟩),.int .i64 0]::.tuple #[.pointer (some ⟨s,0,none⟩),.int .i64 0]::.pointer (some ⟨s,0,none⟩)::.int .i64 0::.pointer (some ⟨s,0,none⟩)::.bool false::.bool false::.int .i64 0::.bool false::.bool false::.pointer (some ⟨s,0,none⟩)::.int .i64 0::.tuple #[.agg #[.int .i64 1,.slice XM cl EY],.int .i64 0]::.pointer (some ⟨s,0,none⟩)::.tuple #[.agg #[.int .i64 1,.slice XM cl EY],.int .i64 0]::.agg #[.int .i64 1,.slice XM cl EY]::.int .i64 0::rn (fun _=>undef) 0 47 [])).toArray,defers:=[]} (by kernel_rfl) ?_
 simp only[rn];refine aj.Mw 5 rfl mX ⟨_,Tryz.func30⟩ (by kernel_rfl) (fun w=>bn w F2 s d L2 (5+k2) (jP H1)/\eF [] wL w) (fun w t k h=>⟨h.1.ay t k,h.2.tape t k⟩) ⟨hC2,hB2'⟩ fun w7 hI _=>?_
 clear hC2 hB2';obtain⟨hC,hB⟩:=hI;show wpList _ _ _ [_,_,_] _ _;refine aA rfl ?_;refine ax.go (bv rfl 58 rfl _ nq ?_);intro w8 b8 l8 f8 r8;go_wp2_with (with_reducible first|refine ah 58 rfl ?_);refine ax.go (lL rfl 58 _ _ rfl b8 rfl #[.int .i64 1,.slice XM cl EY] rfl eT (by simp[Value.oneCell']) _ _ r8 rfl ?_);intro w9 f9 r9
 have f79:aR [] w7 w9:=f8.trans f9 (by simpa using l8);have hC9:=hC.new f79;have hB9:=hB.trans f79.blk;clear hC hB f8 f9 r8 l8 f79;go_wp2_with fail
 have ade:Hid ((DS.calm L2 (5+k2)).get 200 1 ⟨#[97]⟩=(.string wZ,0)):=by
  show _=_;have h1:=Has.content (x:=DS.calm L2 (5+k2)) hC9.has rfl 1 [97];rw[Zp] at h1;unfold DS.get;rw[show(DS.calm L2 (5+k2)).failed=false from rfl,if_neg (by simp)];have h2:(DS.calm L2 (5+k2)).content 200 1 ⟨#[97]⟩=some [102,105,114,115,116]:=h1;rw[show((1:Nat):Int)=1 from rfl,h2];rfl
 refine aj.dj ?_;refine aj.dG none mX ⟨_,Tryz.func30⟩ (by kernel_rfl) (by simp) (fun w=>bn w F2 s d L2 (5+k2) (jP H1)/\eF [] wL w/\Row w b8 #[.int .i64 1,.slice XM cl EY] 58) (fun w t k h=>⟨h.1.ay t k,h.2.1.tape t k,h.2.2⟩) ⟨hC9,hB9,r9⟩ fun w4 hI hsz=>?_
 clear hC9 hB9 r9 hsz;obtain⟨hC,hB,r8⟩:=hI;go_wp2_with fail;refine(PW F2 s d 200 _ 1 ⟨#[97]⟩ w4 hC.store (by omega) (by decide) (by decide)).mono ?_;rintro e w5 ⟨rfl,f5⟩;rw[ade.out];have hC5:=hC.new f5;have Ys:=hB.trans f5.blk;have r5:=f5.row r8;clear ade hC hB r8 f5;go_wp2_with fail;refine aj.dj ?_
 refine aj.dG none mX ⟨_,Tryz.func30⟩ (by kernel_rfl) (by simp) (fun w=>bn w F2 s d L2 (5+k2) (jP H1)/\eF [] wL w/\Row w b8 #[.int .i64 1,.slice XM cl EY] 58) (fun w t k h=>⟨h.1.ay t k,h.2.1.tape t k,h.2.2⟩) ⟨hC5,Ys,r5⟩ fun w4 hI hsz=>?_
 clear hC5 Ys r5 hsz;obtain⟨hC,hB,r8⟩:=hI;have c8:w4.cell? ⟨b8,0,none⟩=some (.int .i64 1):=by rw[r8.cell];rfl
 have hfl:(!wZ.toList==[102,105,114,115,116])=false:=by rw[show wZ=aF [102,105,114,115,116] from rfl,Dd];rfl
 go_wp2_with fail;clear hfl c8 r8
 refine aj.dj (aj.dj ?_);refine aj.dG none mX ⟨_,Tryz.func30⟩ (by kernel_rfl) (by simp) (fun w=>bn w F2 s d L2 (5+k2) (jP H1)/\eF [] wL w) (fun w t k h=>⟨h.1.ay t k,h.2.tape t k⟩) ⟨hC,hB⟩ fun w5 hI hsz=>?_
 clear hC hB hsz;obtain⟨hC,hB⟩:=hI;go_wp2_with fail;refine aj.pj ?_;refine aj.ee (tu undef s 0) (by kernel_rfl) fun u=>?_
 refine aj.rR (fun D a w=>∃(x y z:Value) (k:Nat) (F:List Nat) (L:List UInt8) (aa:Int) (H:bR) (u:Nat->Value),D=Ec (.slice ad l.length cap) x y z/\a=tu undef s k u/\k<=l.length/\k<=300/\bn w F s d L aa H/\aa<=100+80*k/\bP [] F wL/\eF [] wL w/\Hid (pB (l.take k)=(L,aa,H))) (fun a _=>300-(intOf (a.tmps.getD 10 undef)).toNat)
  ⟨_,_,_,0,F2,L2,5+k2,jP H1,u,rfl,rfl,by omega,by omega,hC,by omega,Ey,hB,HST⟩ ?_
 clear hC hB Ey u HST;rintro D a w ⟨x,y,z,k,Fk,Lk,ak,Hk,u,rfl,rfl,hkl,hk3,hC,hak,Yp,hB,HR⟩ ih
 have ih':∀(x y z:Value) (k':Nat) (F:List Nat) (L:List UInt8) (aa:Int) (H:bR) (u:Nat->Value) (w':World),k'=k+1->k'<=l.length->k'<=300->bn w' F s d L aa H->aa<=100+80*k'->bP [] F wL->eF [] wL w'->Hid (pB (l.take k')=(L,aa,H))->aj.eP _ _ _ (Ec (.slice ad l.length cap) x y z) _ _ (tu undef s k' u) w':=fun x y z k' F L aa H u w' e1 e2 e3 e4 e5 e6 e7 e8=>ih _ _ _ ⟨x,y,z,k',F,L,aa,H,u,rfl,rfl,e2,e3,e4,e5,e6,e7,e8⟩ (by subst e1;simp[tu,intOf];omega)
 clear ih;unfold tu at ih'⊢;refine aj.dj (aj.dj (aj.eO ?_));refine aj.fK _ rfl (.inr rfl) (by kernel_rfl) rfl (aj.ju 53 (.slice ad l.length cap) rfl rfl rfl sK U0 (fun π w=>by kernel_rfl) ?_);refine aj.Gt (Ec (.slice ad l.length cap) (.slice ad l.length cap) y z) rfl ?_
 refine aj.sZ (.int .i64 l.length) (by intro r hr;cases hr) rfl rfl (cA (by kernel_rfl)) (fun π w=>by kernel_rfl) ?_;refine aj.ie (w1:=w) (.bool (decide ((k:Int)<(l.length:Int)))) rfl (by kernel_rfl) rfl (fun t d=>by kernel_rfl) (aj.fK _ rfl (.inr rfl) (by kernel_rfl) rfl ?_)
 by_cases hlt:k<l.length
 .by_cases hlt3:k<300
  .obtain⟨hok,b,off,rfl,ob,hK,hra⟩:=h k hlt
   have HS:=fun(L':List UInt8) (N:Int)=>vK (L':=L') (N:=N) hlt HR.out
   clear HR;generalize l[k]=y at hok hra HS;replace HS:Hid _:=HS;have hd1:decide ((k:Int)<(l.length:Int))=true:=by simp;omega
   have hd2:decide ((k:Int)<300)=true:=by simp;omega
   rw[hd1];refine aj.lj {tmps:=(undef::u 1::u 2::.pointer (some ⟨s,0,none⟩)::rn u 4 6 (.int .i64 k::rn u 11 41 (.int .i64 k::u 53::.int .i64 l.length::.bool true::.bool true::rn u 57 18 []))).toArray,defers:=[]} (by kernel_rfl) ?_;simp only[rn]
   refine aj.pi rfl (by kernel_rfl) (fun π=>by kernel_rfl) (fun tt dd=>(show aj.eP _ _ _ _ _ _ _ (ay w tt dd) from(aj.fJ tt dd).2 ?_));refine aj.rQ (w1:=w) (.bool (decide ((k:Int)<300))) rfl (by kernel_rfl) (fun π=>by kernel_rfl) (fun t d=>by kernel_rfl) ?_;rw[hd2]
   refine aj.ie (w1:=w) (.bool true) rfl (by kernel_rfl) rfl (fun t d=>by kernel_rfl) (aj.ck ?_);refine aj.lj {tmps:=(undef::u 1::u 2::.pointer (some ⟨s,0,none⟩)::rn u 4 6 (.int .i64 k::rn u 11 41 (.int .i64 k::u 53::.int .i64 l.length::.bool true::.bool true::.int .i64 k::.bool true::.bool true::rn u 60 15 []))).toArray,defers:=[]} (by kernel_rfl) ?_;simp only[rn]
   clear hd1 hd2;refine aj.jD (b:=true) rfl rfl ?_;rw[if_pos rfl];refine aj.xq (aj.dj (aj.pj (aj.dj (aj.eO ?_))));refine aj.fK _ rfl (.inr rfl) (by kernel_rfl) rfl (aj.ju 63 (.slice (some ⟨b,off,none⟩) l.length cap) rfl rfl rfl sK UZ (fun π w=>by kernel_rfl) (aj.fK _ rfl (.inr rfl) (by kernel_rfl) rfl ?_))
   refine aj.ju 65 (.pointer (some ⟨b,off+k*4,none⟩)) rfl rfl rfl sK UY (fun π w=>Er (m:=4) (x:= .tmp 63) (y:= .tmp 64) (by kernel_rfl) (by kernel_rfl) b off l.length cap k hlt _ rfl (by kernel_rfl) (aj.xd (by kernel_rfl) (by kernel_rfl) (by kernel_rfl)) w) ?_
   refine aj.Gt (Ec (.slice (some ⟨b,off,none⟩) l.length cap) (.slice (some ⟨b,off,none⟩) l.length cap) (.slice (some ⟨b,off,none⟩) l.length cap) (.pointer (some ⟨b,off+k*4,none⟩))) rfl ?_
   refine aj.xu b ob hK (.agg y.cells) Az rfl rfl (cA (by kernel_rfl)) (fun π w hw=>(oV (x:= .tmp 65) lZ (by show 0<4;omega) hw hra _ rfl).1) (fun π w hw=>(oV (x:= .tmp 65) lZ (by show 0<4;omega) hw hra _ rfl).2) ?_
   refine aj.rT (f2:=17) #[.tmp 62,.tmp 66] #[.pointer (some ⟨s,0,none⟩),.agg (dS y.kind y.side y.path y.content)] (R2:=Jk Fk s d 200 (DS.calm Lk ak) y.kind y.side y.path y.content w) rfl rfl (by kernel_rfl) (by kernel_rfl) (cA (by kernel_rfl)) (fun b w=>by kernel_rfl) (by kernel_rfl)
    (E2 y.kind y.side y.path y.content hC.store (hG.blk hB (by simp)) (Yp.nil hG) (oh _ _ _ hC.lo) (by show 0<55;omega) (fun _=>hC.ok (by omega)) hok.1.1 hok.1.2 hok.2.1.1 hok.2.1.2 hok.2.2.1 hok.2.2.2) fun v w6 hR _=>?_
   obtain⟨rfl,F',L',N,hC',hg',hB',hN0,hN1,hal⟩:=hC.iC hR;have HR:=HS.out L' N hal;clear hal HS;have Wo:=Nc Hk y.kind y.side y.path y.content;have hgn:bP [] F' wL:=Yp.trans hg' hB.size;have hBn:eF [] wL w6:=oe Yp hB' hB;generalize uH Hk y.kind y.side y.path y.content=re at Wo hC' HR⊢;obtain⟨Hn,en⟩:=re;clear hR hg' hB' hC hB hra Yp hK
   refine aj.fK _ rfl (.inl rfl) (by kernel_rfl) rfl (aj.ck ?_);refine aj.ee (fun u=>{tmps:=(undef::u 1::u 2::.pointer (some ⟨s,0,none⟩)::.int .i64 en::rn u 5 5 (.int .i64 k::rn u 11 64 [])).toArray,defers:=[]}) (by kernel_rfl) fun u=>?_
   simp only[rn];simp only at Wo hC' HR;replace HR:Hid _:=HR;refine aj.dG none mX ⟨_,Tryz.func30⟩ (by kernel_rfl) (by simp) (fun w=>bn w F' s d L' (ak+N) Hn/\eF [] wL w) (fun w t k h=>⟨h.1.ay t k,h.2.tape t k⟩) ⟨hC',hBn⟩ fun w7 hI hsz=>?_
   clear hC' hBn hsz;obtain⟨hC,hB⟩:=hI;rcases Wo with rfl|rfl
   all_goals
    go_wp2_with fail;refine aj.oA ?_;refine aj.dG none mX ⟨_,Tryz.func30⟩ (by kernel_rfl) (by simp) (fun w=>bn w F' s d L' (ak+N) Hn/\eF [] wL w) (fun w t k h=>⟨h.1.ay t k,h.2.tape t k⟩) ⟨hC,hB⟩ fun w8 hI hsz=>?_
    clear hC hB hsz;obtain⟨hC,hB⟩:=hI;go_wp2_with fail;refine aj.ee (tu undef s (k+1)) (by kernel_rfl) fun u=>?_
    exact ih' _ _ _ (k+1) F' L' (ak+N) Hn u w8 rfl (by omega) (by omega) hC (by push_cast;omega) hgn hB HR
  .have hd1:decide ((k:Int)<(l.length:Int))=true:=by simp;omega
   have hd2:decide ((k:Int)<300)=false:=by simp;omega
   rw[hd1];refine aj.lj {tmps:=(undef::u 1::u 2::.pointer (some ⟨s,0,none⟩)::rn u 4 6 (.int .i64 k::rn u 11 41 (.int .i64 k::u 53::.int .i64 l.length::.bool true::.bool true::rn u 57 18 []))).toArray,defers:=[]} (by kernel_rfl) ?_;simp only[rn]
   refine aj.pi rfl (by kernel_rfl) (fun π=>by kernel_rfl) (fun tt dd=>(show aj.eP _ _ _ _ _ _ _ (ay w tt dd) from(aj.fJ tt dd).2 ?_));refine aj.rQ (w1:=w) (.bool (decide ((k:Int)<300))) rfl (by kernel_rfl) (fun π=>by kernel_rfl) (fun t d=>by kernel_rfl) ?_;rw[hd2]
   refine aj.ie (w1:=w) (.bool false) rfl (by kernel_rfl) rfl (fun t d=>by kernel_rfl) (aj.ck ?_);refine aj.lj {tmps:=(undef::u 1::u 2::.pointer (some ⟨s,0,none⟩)::rn u 4 6 (.int .i64 k::rn u 11 41 (.int .i64 k::u 53::.int .i64 l.length::.bool true::.bool true::.int .i64 k::.bool false::.bool false::rn u 60 15 []))).toArray,defers:=[]} (by kernel_rfl) ?_
   simp only[rn];refine aj.jD (b:=false) rfl rfl ?_;rw[if_neg (by simp)];refine aj.rS rfl (aj.dG none mX ⟨_,Tryz.func30⟩ (by kernel_rfl) (by simp) (fun w=>bn w Fk s d Lk ak Hk/\eF [] wL w) (fun w t k h=>⟨h.1.ay t k,h.2.tape t k⟩) ⟨hC,hB⟩ fun w6 hI hsz=>?_);go_wp2_with fail
   exact⟨w6.tape,w6.drawn,s,d,Fk,Lk,ak,Hk,rfl,hI.1,Yp,hI.2,hls,by omega,by rw[<-HR.out,show l.take 300=l.take k by rw[show k=300 by omega]]⟩
 .have hd1:decide ((k:Int)<(l.length:Int))=false:=by simp;omega
  rw[hd1];refine aj.lj {tmps:=(undef::u 1::u 2::.pointer (some ⟨s,0,none⟩)::rn u 4 6 (.int .i64 k::rn u 11 41 (.int .i64 k::u 53::.int .i64 l.length::.bool false::.bool false::rn u 57 18 []))).toArray,defers:=[]} (by kernel_rfl) ?_;simp only[rn]
  refine aj.va rfl (cA (by kernel_rfl)) (fun π=>by kernel_rfl) (aj.va rfl (cA (by kernel_rfl)) (fun π=>by kernel_rfl) ?_);refine aj.ie (w1:=w) (.bool false) rfl (by kernel_rfl) rfl (fun t d=>by kernel_rfl) (aj.ck ?_)
  refine aj.lj {tmps:=(undef::u 1::u 2::.pointer (some ⟨s,0,none⟩)::rn u 4 6 (.int .i64 k::rn u 11 41 (.int .i64 k::u 53::.int .i64 l.length::.bool false::.bool false::undef::undef::.bool false::rn u 60 15 []))).toArray,defers:=[]} (by kernel_rfl) ?_;simp only[rn];refine aj.jD (b:=false) rfl rfl ?_;rw[if_neg (by simp)]
  refine aj.rS rfl (aj.dG none mX ⟨_,Tryz.func30⟩ (by kernel_rfl) (by simp) (fun w=>bn w Fk s d Lk ak Hk/\eF [] wL w) (fun w t k h=>⟨h.1.ay t k,h.2.tape t k⟩) ⟨hC,hB⟩ fun w6 hI hsz=>?_);go_wp2_with fail
  exact⟨w6.tape,w6.drawn,s,d,Fk,Lk,ak,Hk,rfl,hI.1,Yp,hI.2,hls,by omega,by rw[<-HR.out,show l.take 300=l.take k by rw[List.take_of_length_le (by omega),List.take_of_length_le (by omega)]]⟩
end
section
open Go.RowKit Go.Lib
section
variable {w w':World}{F:List Nat}{s d:Nat}{L:List UInt8}{a:Int}{H:bR}
theorem bn.acts (h:bn w F s d L a H):Calls Tryz.prog 18 #[.pointer (some ⟨s,0,none⟩)] w fun e w'=>e= .returned (.int .i64 a)/\w'=w:=Hi F s d 200 _ w h.store
end
def Sk (wL:World)(v:Value)(w':World):Prop:=v= .bool true/\eF [] wL w'
def ac8 (r:Nat)(wL:World)(a:Act)(w:World):Prop:=Sk wL (a.tmps.getD r undef) w
theorem FJ {r:Nat}{wL w:World}{a:Act}(h:a.tmps.getD r undef= .bool true)(hB:eF [] wL w):∃(t:Go.Proofs.YtchcmhodnkgojaaGreat.dU) (d:Nat),ac8 r wL a (ay w t d):=⟨w.tape,w.drawn,h,hB⟩
def Dx (n:Nat):Act:={tmps:=Array.replicate n undef,defers:=[]}
theorem GS {n:Nat}{H:Nat->Prop}{wL:World}:aj.VA H wL (Dx n).tmps:=fun v hv=>by
 rw[(Array.mem_replicate.1 hv).2];exact gz
end
section
open Go.RowKit Go.Lib Go.Sort
structure Ap (F:List Nat)(s:Nat)(F':List Nat)(s':Nat):Prop where
 a:s∉F'
 b:s'∉F
 c:s≠s'
 d:∀k∈F',k∉F
section
variable {w w':World}{F F' G:List Nat}{s s' d:Nat}{L:List UInt8}{a:Int}{H:bR}
theorem Ap.symm (h:Ap F s F' s'):Ap F' s' F s:=⟨h.b,h.a,h.c.symm,fun k hk hk'=>h.d k hk' hk⟩
theorem Ap.fresh (hC:bn w F s d L a H)(g:bP [] F' w)(hs:w.heap.size<=s'):Ap F s F' s':=by
 have h1:=hC.store.row.lt;refine⟨fun q=>(g s q).elim (by simp) (by omega),fun q=>?_,by omega,fun k hk q=>?_⟩
 .have:=hC.store.disk.lt s' q
  omega
 .have:=hC.store.disk.lt k q
  exact(g k hk).elim (by simp) (by omega)
theorem Ap.grow (h:Ap F s F' s')(hC:bn w F s d L a H)(g:bP F' G w):Ap F s G s':=by
 have h1:=hC.store.row.lt;refine⟨fun q=>(g s q).elim h.a (by omega),h.b,h.c,fun k hk q=>?_⟩;have:=hC.store.disk.lt k q;exact(g k hk).elim (fun x=>h.d k x q) (by omega)
theorem bn.off (hC:bn w F s d L a H)(h:Ap F s F' s')(hB:eF F' w w'):bn w' F s d L a H:=hC.blk hB h.a h.d
theorem bn.U7 (hC:bn w F s d L a H)(hB:eF [] w w'):bn w' F s d L a H:=hC.blk hB (by simp) (by simp)
end
def YX:jU->Nat->Value
 |[],_=>undef
 |p::D,i=>if p.1=i then p.2 else YX D i
theorem li {Ok:aj.Env}{r:Nat}{f:FuncId}{D:jU}{t:List Item}{R:Act->World->Prop}{a:Act}{wL:World}(B:(Nat->Value)->jU)(h:∀x,aj.eP Ok r f (B x) t R a wL)(e:D=B fun i=>YX D i:=by kernel_rfl):aj.eP Ok r f D t R a wL:=e▸h _
theorem zy {K:Nat->Option Obj}:Ds K none []:=fun j hj=>absurd hj (by simp)
theorem BN {l:List nm}{k:Nat}{L:List UInt8}{a:Int}{H:bR}(h:pB (l.take k)=(L,a,H))(hk:k=l.length\/k=300)(h1:k<=l.length)(h2:k<=300):pB (l.take 300)=(L,a,H):=by
 rw[<-h];rcases hk with rfl|rfl
 .rw[List.take_of_length_le (by omega),List.take_of_length_le (by omega)]
 .rfl
def sb (sv sx:Value)(x:Nat->Value):jU:=[(0,sv),(1,sx),(9,x 9),(24,x 24),(34,x 34),(36,x 36),(40,x 40),(44,x 44),(46,x 46)]
section
variable {sv sx:Value}{x:Nat->Value}
theorem wi:4∉sl (sb sv sx x):=by simp[sl,sb]
end
def xF (s1 s2 s3 k:Nat)(u:Nat->Value):Act:={tmps:=#[undef,undef,u 2,u 3,u 4,.pointer (some ⟨s1,0,none⟩),.pointer (some ⟨s2,0,none⟩),.pointer (some ⟨s3,0,none⟩),.int .i64 k,undef,u 10,u 11,u 12,u 13,u 14,u 15,u 16,u 17,u 18,u 19,u 20,u 21,u 22,u 23,undef,u 25,u 26,u 27,u 28,u 29,u 30,u 31,u 32,u 33,undef,u 35,undef,u 37,u 38,u 39,undef,u 41,u 42,u 43,undef,u 45,undef,u 47,u 48,u 49,u 50,u 51,u 52,u 53,u 54,u 55,u 56,u 57,u 58,u 59,u 60],defers:=[]}
open aI aI.Sq in
theorem IY {E:aj.Env}{wL:World}(ad:Option Addr)(cap:Nat)(l:List nm)(h:Ds E.K ad l)(xI:Option Addr)(cap2:Nat)(l2:List nm)(h2:Ds E.K xI l2)(hG:pr wL){cd:Code}(hcd:Tryz.f8.body=some cd):
  aj.eP E 4 8 (sb (.slice ad l.length cap) (.slice xI l2.length cap2) fun _=>undef) [.code cd] (ac8 4 wL) (Dx 61) wL:=by
 obtain rfl:=(Option.some.inj hcd).symm;clear hcd;have hB:eF [] wL wL:=eF.refl _ _;refine aj.lj {tmps:=(rn (fun _=>undef) 0 61 []).toArray,defers:=[]} (by kernel_rfl) ?_;simp only[rn];refine aj.dj ?_;refine aj.dG none wi ⟨_,Tryz.func8⟩ (by kernel_rfl) (by simp) (fun w=>eF [] wL w) (fun w t k h=>h.tape t k) hB fun w1 hI hsz=>?_
 clear hB hsz;have hB:=hI;clear hI;go_wp2_with fail;refine aj.dj (aj.eO ?_);refine aj.ju 9 (.slice ad l.length cap) rfl rfl rfl (by simp[sl,sb,aj.lQ]) (by simp[sl,sb,aj.lQ]) (fun π w=>by kernel_rfl) ?_
 refine aj.s9 (f2:=30) #[.slice ad l.length cap] rfl rfl (cA (by kernel_rfl)) (fun π w=>by kernel_rfl) (th ad cap l h (hG.blk hB (by simp))) fun v wb1 hR _=>?_
 obtain⟨s1,d1,F1,L1,a1,H1,rfl,jG,hg1,hB1,af6,ha1,Nt⟩:=hR;replace hg1:bP [] F1 wL:=(bP.refl [] wL).trans hg1 hB.size;replace hB:=hB.trans hB1;replace Nt:Hid _:=Nt;clear hB1 af6;refine aj.fK _ rfl (.inl rfl) (by kernel_rfl) rfl (aj.ck ?_)
 refine aj.ee (fun u=>{tmps:=(undef::undef::rn u 2 3 (.pointer (some ⟨s1,0,none⟩)::rn u 6 3 (undef::rn u 10 14 (undef::rn u 25 9 (undef::u 35::undef::rn u 37 3 (undef::rn u 41 3 (undef::u 45::undef::rn u 47 14 []))))))).toArray,defers:=[]}) (by kernel_rfl) fun u=>?_
 simp only[rn];refine aj.dj (aj.eO ?_);refine aj.s9 (f2:=30) #[.slice none 0 0] rfl rfl (cA (by kernel_rfl)) (fun π w=>by kernel_rfl) (th none 0 [] zy (hG.blk hB (by simp))) fun v wb2 hR _=>?_
 obtain⟨s2,d2,F2,L2,a2,H2,rfl,hC2,hg2,hB2,abv,ha2,hR2⟩:=hR;have ac1:=Ap.fresh jG hg2 abv;replace jG:=jG.U7 hB2;replace hg2:bP [] F2 wL:=(bP.refl [] wL).trans hg2 hB.size;replace hB:=hB.trans hB2;replace hR2:Hid _:=hR2;clear hB2 abv;refine aj.fK _ rfl (.inl rfl) (by kernel_rfl) rfl (aj.ck ?_)
 refine aj.ee (fun u=>{tmps:=(undef::undef::rn u 2 3 (.pointer (some ⟨s1,0,none⟩)::.pointer (some ⟨s2,0,none⟩)::u 7::u 8::undef::rn u 10 14 (undef::rn u 25 9 (undef::u 35::undef::rn u 37 3 (undef::rn u 41 3 (undef::u 45::undef::rn u 47 14 [])))))).toArray,defers:=[]}) (by kernel_rfl) fun u=>?_
 simp only[rn];refine aj.dj (aj.eO ?_);refine aj.s9 (f2:=30) #[.slice none 0 0] rfl rfl (cA (by kernel_rfl)) (fun π w=>by kernel_rfl) (th none 0 [] zy (hG.blk hB (by simp))) fun v wb3 hR _=>?_
 obtain⟨s3,d3,F3,L3,a3,H3,rfl,RS,hg3,hB3,Wf,ha3,hR3⟩:=hR;have ac0:=Ap.fresh jG hg3 Wf;replace jG:=jG.U7 hB3;have acZ:=Ap.fresh hC2 hg3 Wf;replace hC2:=hC2.U7 hB3;replace hg3:bP [] F3 wL:=(bP.refl [] wL).trans hg3 hB.size;replace hB:=hB.trans hB3;replace hR3:Hid _:=hR3;clear hB3 Wf;refine aj.fK _ rfl (.inl rfl) (by kernel_rfl) rfl (aj.ck ?_)
 refine aj.ee (fun u=>{tmps:=(undef::undef::rn u 2 3 (.pointer (some ⟨s1,0,none⟩)::.pointer (some ⟨s2,0,none⟩)::.pointer (some ⟨s3,0,none⟩)::u 8::undef::rn u 10 14 (undef::rn u 25 9 (undef::u 35::undef::rn u 37 3 (undef::rn u 41 3 (undef::u 45::undef::rn u 47 14 [])))))).toArray,defers:=[]}) (by kernel_rfl) fun u=>?_
 simp only[rn];refine li (fun x=>sb (.slice ad l.length cap) (.slice xI l2.length cap2) x) fun x=>?_
 refine aj.dj ?_;refine aj.dG none wi ⟨_,Tryz.func8⟩ (by kernel_rfl) (by simp) (fun w=>bn w F1 s1 d1 L1 a1 H1/\bn w F2 s2 d2 L2 a2 H2/\bn w F3 s3 d3 L3 a3 H3/\eF [] wL w) (fun w t k h=>⟨h.1.ay t k,h.2.1.ay t k,h.2.2.1.ay t k,h.2.2.2.tape t k⟩) ⟨jG,hC2,RS,hB⟩ fun w2 hI hsz=>?_
 clear jG hC2 RS hB hsz;obtain⟨jG,hC2,RS,hB⟩:=hI;go_wp2_with fail;refine aj.dj ?_;refine aj.dj ?_
 refine aj.dG none wi ⟨_,Tryz.func8⟩ (by kernel_rfl) (by simp) (fun w=>bn w F1 s1 d1 L1 a1 H1/\bn w F2 s2 d2 L2 a2 H2/\bn w F3 s3 d3 L3 a3 H3/\eF [] wL w) (fun w t k h=>⟨h.1.ay t k,h.2.1.ay t k,h.2.2.1.ay t k,h.2.2.2.tape t k⟩) ⟨jG,hC2,RS,hB⟩ fun w3 hI hsz=>?_
 clear jG hC2 RS hB hsz;obtain⟨jG,hC2,RS,hB⟩:=hI;go_wp2_with fail;refine aj.pj ?_;refine aj.ee (xF s1 s2 s3 0) (by kernel_rfl) fun u=>?_
 refine aj.rR (fun D a w=>∃(x:Nat->Value) (k:Nat) (Ft Fu:List Nat) (Lt Lu:List UInt8) (at_ au:Int) (Ht Hu:bR) (u:Nat->Value),D=sb (.slice ad l.length cap) (.slice xI l2.length cap2) x/\a=xF s1 s2 s3 k u/\k<=l.length/\k<=300/\bn w F1 s1 d1 L1 a1 H1/\bn w Ft s2 d2 Lt at_ Ht/\bn w Fu s3 d3 Lu au Hu/\eF [] wL w/\Ap F1 s1 Ft s2/\Ap F1 s1 Fu s3/\Ap Ft s2 Fu s3/\bP [] Ft wL/\bP [] Fu wL/\at_<=30000+80*k/\au<=30000+80*k/\Hid (pB (l.take k)=(Lt,at_,Ht))) (fun a _=>300-(intOf (a.tmps.getD 8 undef)).toNat)
  ⟨_,0,F2,F3,L2,L3,a2,a3,H2,H3,u,rfl,rfl,by omega,by omega,jG,hC2,RS,hB,ac1,ac0,acZ,hg2,hg3,by omega,by omega,hR2⟩ ?_
 clear hC2 RS hB ac1 ac0 acZ hg2 hg3 u x hR2 hR3 jG ha2 ha3;rintro D a w ⟨x,k,Ft,Fu,Lt,Lu,at_,au,Ht,Hu,u,rfl,rfl,hkl,hk3,jG,wS,AA,hB,Fc,Fb,yC,hgt,hgu,hat,hau,HR⟩ ih
 have ih':∀(x:Nat->Value) (k':Nat) (Ft Fu:List Nat) (Lt Lu:List UInt8) (at_ au:Int) (Ht Hu:bR) (u:Nat->Value) (w:World),k'=k+1->k'<=l.length->k'<=300->(bn w F1 s1 d1 L1 a1 H1/\bn w Ft s2 d2 Lt at_ Ht/\bn w Fu s3 d3 Lu au Hu/\eF [] wL w/\Ap F1 s1 Ft s2/\Ap F1 s1 Fu s3/\Ap Ft s2 Fu s3/\bP [] Ft wL/\bP [] Fu wL/\at_<=30000+80*(k+1)/\au<=30000+80*(k+1)/\Hid (pB (l.take (k+1))=(Lt,at_,Ht)))->aj.eP _ _ _ (sb (.slice ad l.length cap) (.slice xI l2.length cap2) x) _ _ (xF s1 s2 s3 k' u) w:=fun x k' Ft Fu Lt Lu at_ au Ht Hu u w e1 e2 e3 e4=>ih _ _ _ ⟨x,k',Ft,Fu,Lt,Lu,at_,au,Ht,Hu,u,rfl,rfl,e2,e3,by subst e1;push_cast;exact e4⟩ (by subst e1;simp[xF,intOf];omega)
 clear ih;unfold xF at ih'⊢;refine aj.dj (aj.dj (aj.eO ?_));refine aj.fK _ rfl (.inr rfl) (by kernel_rfl) rfl (aj.ju 24 (.slice ad l.length cap) rfl rfl rfl (by simp[sl,sb,aj.lQ]) (by simp[sl,sb,aj.lQ]) (fun π w=>by kernel_rfl) ?_)
 refine aj.sZ (.int .i64 l.length) (by intro r hr;cases hr) rfl rfl (cA (by kernel_rfl)) (fun π w=>by kernel_rfl) ?_;refine aj.ie (w1:=w) (.bool (decide ((k:Int)<(l.length:Int)))) rfl (by kernel_rfl) rfl (fun t d=>by kernel_rfl) ?_;refine aj.fK _ rfl (.inr rfl) (by kernel_rfl) rfl ?_
 by_cases hlt:k<l.length
 .have hd1:decide ((k:Int)<(l.length:Int))=true:=by simp;omega
  by_cases hlt3:k<300
  .have hd2:decide ((k:Int)<300)=true:=by simp;omega
   rw[hd1];refine aj.ee (fun u=>{tmps:=(undef::undef::rn u 2 3 (.pointer (some ⟨s1,0,none⟩)::.pointer (some ⟨s2,0,none⟩)::.pointer (some ⟨s3,0,none⟩)::.int .i64 k::undef::rn u 10 14 (undef::u 25::.bool true::.bool true::rn u 28 6 (undef::u 35::undef::rn u 37 3 (undef::rn u 41 3 (undef::u 45::undef::rn u 47 14 [])))))).toArray,defers:=[]}) (by kernel_rfl) fun u=>?_
   simp only[rn];refine aj.pi rfl (by kernel_rfl) (fun π=>by kernel_rfl) (fun tt dd=>(show aj.eP _ _ _ _ _ _ _ (ay w tt dd) from(aj.fJ tt dd).2 ?_));refine aj.rQ (w1:=w) (.bool (decide ((k:Int)<300))) rfl (by kernel_rfl) (fun π=>by kernel_rfl) (fun t d=>by kernel_rfl) ?_;rw[hd2]
   refine aj.ie (w1:=w) (.bool true) rfl (by kernel_rfl) rfl (fun t d=>by kernel_rfl) (aj.ck ?_)
   refine aj.ee (fun u=>{tmps:=(undef::undef::rn u 2 3 (.pointer (some ⟨s1,0,none⟩)::.pointer (some ⟨s2,0,none⟩)::.pointer (some ⟨s3,0,none⟩)::.int .i64 k::undef::rn u 10 14 (undef::rn u 25 5 (.bool true::rn u 31 3 (undef::u 35::undef::rn u 37 3 (undef::rn u 41 3 (undef::u 45::undef::rn u 47 14 []))))))).toArray,defers:=[]}) (by kernel_rfl) fun u=>?_
   simp only[rn];refine aj.jD (b:=true) rfl rfl ?_;rw[if_pos rfl];refine aj.xq (aj.dj (aj.pj (aj.dj (aj.eO ?_))));obtain⟨hok,b,off,rfl,ob,hK,hra⟩:=h k hlt;have HS:=fun(L':List UInt8) (N:Int)=>vK (L':=L') (N:=N) hlt HR.out
   clear HR hd1 hd2;generalize l[k]=y at hok hra HS;replace HS:Hid _:=HS;refine li (fun x=>sb (.slice (some ⟨b,off,none⟩) l.length cap) (.slice xI l2.length cap2) x) fun x=>?_
   refine aj.fK _ rfl (.inr rfl) (by kernel_rfl) rfl (aj.ju 34 (.slice (some ⟨b,off,none⟩) l.length cap) rfl rfl rfl (by simp[sl,sb,aj.lQ]) (by simp[sl,sb,aj.lQ]) (fun π w=>by kernel_rfl) (aj.fK _ rfl (.inr rfl) (by kernel_rfl) rfl ?_))
   refine aj.ju 36 (.pointer (some ⟨b,off+k*4,none⟩)) rfl rfl rfl (by simp[sl,sb,aj.lQ]) (by simp[sl,sb,aj.lQ]) (fun π w=>Er (m:=4) (x:= .tmp 34) (y:= .tmp 35) (by kernel_rfl) (by kernel_rfl) b off l.length cap k hlt _ rfl (by kernel_rfl) (aj.xd (by kernel_rfl) (by kernel_rfl) (by kernel_rfl)) w) ?_
   refine aj.xu b ob hK (.agg y.cells) Az rfl rfl (cA (by kernel_rfl)) (fun π w hw=>(oV (x:= .tmp 36) lZ (by show 0<4;omega) hw hra _ rfl).1) (fun π w hw=>(oV (x:= .tmp 36) lZ (by show 0<4;omega) hw hra _ rfl).2) ?_
   refine aj.rT (f2:=17) #[.tmp 33,.tmp 37] #[.pointer (some ⟨s2,0,none⟩),.agg (dS y.kind y.side y.path y.content)] (R2:=Jk Ft s2 d2 200 (DS.calm Lt at_) y.kind y.side y.path y.content w) rfl rfl (by kernel_rfl) (by kernel_rfl) (cA (by kernel_rfl)) (fun b w=>by kernel_rfl) (by kernel_rfl)
    (E2 y.kind y.side y.path y.content wS.store (hG.blk hB (by simp)) (hgt.nil hG) (oh _ _ _ wS.lo) (by show 0<55;omega) (fun _=>wS.ok (by omega)) hok.1.1 hok.1.2 hok.2.1.1 hok.2.1.2 hok.2.2.1 hok.2.2.2) fun v w6 hR _=>?_
   obtain⟨rfl,F',L',N,hC',hg',hB',hN0,hN1,hal⟩:=wS.iC hR;have HR:=HS.out L' N hal;clear hal HS hR;have Si:=Fc;have Dj:=yC.symm;replace Fc:=Fc.grow jG hg';replace yC:=(yC.symm.grow AA hg').symm;replace jG:=jG.off Si hB';replace AA:=AA.off Dj hB';have PT:eF [] wL w6:=oe hgt hB' hB;replace hgt:=hgt.trans hg' hB.size
   generalize uH Ht y.kind y.side y.path y.content=re at hC' HR⊢;obtain⟨Hn,en⟩:=re;simp only at hC' HR;replace HR:Hid _:=HR;clear hg' hB' hB wS hra hK Si Dj hok;refine aj.ck ?_
   refine aj.ee (fun u=>{tmps:=(undef::undef::rn u 2 3 (.pointer (some ⟨s1,0,none⟩)::.pointer (some ⟨s2,0,none⟩)::.pointer (some ⟨s3,0,none⟩)::.int .i64 k::undef::rn u 10 14 (undef::rn u 25 9 (undef::u 35::undef::rn u 37 3 (undef::rn u 41 3 (undef::u 45::undef::rn u 47 14 [])))))).toArray,defers:=[]}) (by kernel_rfl) fun u=>?_
   simp only[rn];refine li (fun x=>sb (.slice (some ⟨b,off,none⟩) l.length cap) (.slice xI l2.length cap2) x) fun x=>?_
   refine aj.dj (aj.eO ?_);refine aj.fK _ rfl (.inr rfl) (by kernel_rfl) rfl (aj.ju 40 (.slice xI l2.length cap2) rfl rfl rfl (by simp[sl,sb,aj.lQ]) (by simp[sl,sb,aj.lQ]) (fun π w=>by kernel_rfl) ?_);refine aj.sZ (.int .i64 l2.length) (by intro r hr;cases hr) rfl rfl (cA (by kernel_rfl)) (fun π w=>by kernel_rfl) ?_
   refine aj.ie (w1:=w6) (.bool (decide ((k:Int)<(l2.length:Int)))) rfl (by kernel_rfl) rfl (fun t d=>by kernel_rfl) ?_;refine aj.ck ?_
   by_cases abu:k<l2.length
   .have hd3:decide ((k:Int)<(l2.length:Int))=true:=by simp;omega
    rw[hd3];refine aj.ee (fun u=>{tmps:=(undef::undef::rn u 2 3 (.pointer (some ⟨s1,0,none⟩)::.pointer (some ⟨s2,0,none⟩)::.pointer (some ⟨s3,0,none⟩)::.int .i64 k::undef::rn u 10 14 (undef::rn u 25 9 (undef::u 35::undef::rn u 37 3 (undef::u 41::.bool true::u 43::undef::u 45::undef::rn u 47 14 []))))).toArray,defers:=[]}) (by kernel_rfl) fun u=>?_
    simp only[rn];refine aj.jD (b:=true) rfl rfl ?_;rw[if_pos rfl];refine aj.eO ?_;obtain⟨hok,b2,off2,rfl,ob,hK,hra⟩:=h2 k abu;have ajG:=hlt;clear hd3 hlt;have hlt:=abu;generalize l2[k]=y at hok hra;refine li (fun x=>sb (.slice (some ⟨b,off,none⟩) l.length cap) (.slice (some ⟨b2,off2,none⟩) l2.length cap2) x) fun x=>?_
    refine aj.fK _ rfl (.inr rfl) (by kernel_rfl) rfl (aj.ju 44 (.slice (some ⟨b2,off2,none⟩) l2.length cap2) rfl rfl rfl (by simp[sl,sb,aj.lQ]) (by simp[sl,sb,aj.lQ]) (fun π w=>by kernel_rfl) (aj.fK _ rfl (.inr rfl) (by kernel_rfl) rfl ?_))
    refine aj.ju 46 (.pointer (some ⟨b2,off2+k*4,none⟩)) rfl rfl rfl (by simp[sl,sb,aj.lQ]) (by simp[sl,sb,aj.lQ]) (fun π w=>Er (m:=4) (x:= .tmp 44) (y:= .tmp 45) (by kernel_rfl) (by kernel_rfl) b2 off2 l2.length cap2 k hlt _ rfl (by kernel_rfl) (aj.xd (by kernel_rfl) (by kernel_rfl) (by kernel_rfl)) w) ?_
    refine aj.xu b2 ob hK (.agg y.cells) Az rfl rfl (cA (by kernel_rfl)) (fun π w hw=>(oV (x:= .tmp 46) lZ (by show 0<4;omega) hw hra _ rfl).1) (fun π w hw=>(oV (x:= .tmp 46) lZ (by show 0<4;omega) hw hra _ rfl).2) ?_
    refine aj.rT (f2:=17) #[.tmp 43,.tmp 47] #[.pointer (some ⟨s3,0,none⟩),.agg (dS y.kind y.side y.path y.content)] (R2:=Jk Fu s3 d3 200 (DS.calm Lu au) y.kind y.side y.path y.content w6) rfl rfl (by kernel_rfl) (by kernel_rfl) (cA (by kernel_rfl)) (fun b w=>by kernel_rfl) (by kernel_rfl)
     (E2 y.kind y.side y.path y.content AA.store (hG.blk PT (by simp)) (hgu.nil hG) (oh _ _ _ AA.lo) (by show 0<55;omega) (fun _=>AA.ok (by omega)) hok.1.1 hok.1.2 hok.2.1.1 hok.2.1.2 hok.2.2.1 hok.2.2.2) fun v w7 hR _=>?_
    obtain⟨rfl,F2',L2',N2,PS,Ey,hB2',hM0,hM1,agj⟩:=AA.iC hR;clear agj hR;have Sg:=Fb;have Dj:=yC;replace Fb:=Fb.grow jG Ey;replace yC:=yC.grow hC' Ey;replace jG:=jG.off Sg hB2';replace hC':=hC'.off Dj hB2';have hBx:eF [] wL w7:=oe hgu hB2' PT;replace hgu:=hgu.trans Ey PT.size;generalize uH Hu y.kind y.side y.path y.content=re at PS⊢
    obtain⟨Hm,em⟩:=re;simp only at PS;clear Ey hB2' PT AA hra hK Sg Dj hok;have AA:=PS;clear PS;refine aj.ck ?_
    refine aj.ee (fun u=>{tmps:=(undef::undef::rn u 2 3 (.pointer (some ⟨s1,0,none⟩)::.pointer (some ⟨s2,0,none⟩)::.pointer (some ⟨s3,0,none⟩)::.int .i64 k::undef::rn u 10 14 (undef::rn u 25 9 (undef::u 35::undef::rn u 37 3 (undef::rn u 41 3 (undef::u 45::undef::rn u 47 14 [])))))).toArray,defers:=[]}) (by kernel_rfl) fun u=>?_
    simp only[rn];refine aj.oA ?_;refine li (fun x=>sb (.slice (some ⟨b,off,none⟩) l.length cap) (.slice (some ⟨b2,off2,none⟩) l2.length cap2) x) fun x=>?_
    refine aj.dG none wi ⟨_,Tryz.func8⟩ (by kernel_rfl) (by simp) (fun w=>bn w F1 s1 d1 L1 a1 H1/\bn w F' s2 d2 L' (at_+N) Hn/\bn w F2' s3 d3 L2' (au+N2) Hm/\eF [] wL w) (fun w t k h=>⟨h.1.ay t k,h.2.1.ay t k,h.2.2.1.ay t k,h.2.2.2.tape t k⟩) ⟨jG,hC',AA,hBx⟩ fun w4 hI hsz=>?_
    clear jG hC' AA hBx hsz;obtain⟨jG,hC',AA,hBx⟩:=hI;go_wp2_with fail;refine aj.ee (xF s1 s2 s3 (k+1)) (by kernel_rfl) fun u=>?_
    exact ih' _ (k+1) F' F2' L' L2' (at_+N) (au+N2) Hn Hm u _ rfl (by omega) (by omega) ⟨jG,hC',AA,hBx,Fc,Fb,yC,hgt,hgu,by omega,by omega,HR⟩
   .have hd3:decide ((k:Int)<(l2.length:Int))=false:=by simp;omega
    rw[hd3];refine aj.ee (fun u=>{tmps:=(undef::undef::rn u 2 3 (.pointer (some ⟨s1,0,none⟩)::.pointer (some ⟨s2,0,none⟩)::.pointer (some ⟨s3,0,none⟩)::.int .i64 k::undef::rn u 10 14 (undef::rn u 25 9 (undef::u 35::undef::rn u 37 3 (undef::u 41::.bool false::u 43::undef::u 45::undef::rn u 47 14 []))))).toArray,defers:=[]}) (by kernel_rfl) fun u=>?_
    simp only[rn];refine aj.jD (b:=false) rfl rfl ?_;rw[if_neg (by simp)];refine aj.xq ?_;have hBx:=PT;clear PT;refine aj.oA ?_;refine li (fun x=>sb (.slice (some ⟨b,off,none⟩) l.length cap) (.slice xI l2.length cap2) x) fun x=>?_
    refine aj.dG none wi ⟨_,Tryz.func8⟩ (by kernel_rfl) (by simp) (fun w=>bn w F1 s1 d1 L1 a1 H1/\bn w F' s2 d2 L' (at_+N) Hn/\bn w Fu s3 d3 Lu au Hu/\eF [] wL w) (fun w t k h=>⟨h.1.ay t k,h.2.1.ay t k,h.2.2.1.ay t k,h.2.2.2.tape t k⟩) ⟨jG,hC',AA,hBx⟩ fun w5 hI hsz=>?_
    clear jG hC' AA hBx hsz;obtain⟨jG,hC',AA,hBx⟩:=hI;go_wp2_with fail;refine aj.ee (xF s1 s2 s3 (k+1)) (by kernel_rfl) fun u=>?_
    exact ih' _ (k+1) F' Fu L' Lu (at_+N) au Hn Hu u _ rfl (by omega) (by omega) ⟨jG,hC',AA,hBx,Fc,Fb,yC,hgt,hgu,by omega,by omega,HR⟩
  .have hd2:decide ((k:Int)<300)=false:=by simp;omega
   rw[hd1];refine aj.ee (fun u=>{tmps:=(undef::undef::rn u 2 3 (.pointer (some ⟨s1,0,none⟩)::.pointer (some ⟨s2,0,none⟩)::.pointer (some ⟨s3,0,none⟩)::.int .i64 k::undef::rn u 10 14 (undef::u 25::.bool true::.bool true::rn u 28 6 (undef::u 35::undef::rn u 37 3 (undef::rn u 41 3 (undef::u 45::undef::rn u 47 14 [])))))).toArray,defers:=[]}) (by kernel_rfl) fun u=>?_
   simp only[rn];refine aj.pi rfl (by kernel_rfl) (fun π=>by kernel_rfl) (fun tt dd=>(show aj.eP _ _ _ _ _ _ _ (ay w tt dd) from(aj.fJ tt dd).2 ?_));refine aj.rQ (w1:=w) (.bool (decide ((k:Int)<300))) rfl (by kernel_rfl) (fun π=>by kernel_rfl) (fun t d=>by kernel_rfl) ?_;rw[hd2]
   refine aj.ie (w1:=w) (.bool false) rfl (by kernel_rfl) rfl (fun t d=>by kernel_rfl) (aj.ck ?_)
   refine aj.ee (fun u=>{tmps:=(undef::undef::rn u 2 3 (.pointer (some ⟨s1,0,none⟩)::.pointer (some ⟨s2,0,none⟩)::.pointer (some ⟨s3,0,none⟩)::.int .i64 k::undef::rn u 10 14 (undef::rn u 25 5 (.bool false::rn u 31 3 (undef::u 35::undef::rn u 37 3 (undef::rn u 41 3 (undef::u 45::undef::rn u 47 14 []))))))).toArray,defers:=[]}) (by kernel_rfl) fun u=>?_
   simp only[rn];refine aj.jD (b:=false) rfl rfl ?_;rw[if_neg (by simp)];refine aj.rS rfl ?_;refine li (fun x=>sb (.slice ad l.length cap) (.slice xI l2.length cap2) x) fun x=>?_
   have HR2:=BN HR.out (by omega) hkl hk3;rw[Nt.out] at HR2;simp only[Prod.mk.injEq] at HR2;obtain⟨rfl,rfl,rfl⟩:=HR2;clear ih' HR Nt AA Fc Fb yC hgt hgu hat hau h h2 hG ha1 hg1
   refine aj.dG none wi ⟨_,Tryz.func8⟩ (by kernel_rfl) (by simp) (fun w=>bn w F1 s1 d1 L1 a1 H1/\bn w Ft s2 d2 L1 a1 H1/\eF [] wL w) (fun w t k h=>⟨h.1.ay t k,h.2.1.ay t k,h.2.2.tape t k⟩) ⟨jG,wS,hB⟩ fun w6 hI hsz=>?_
   clear jG wS hB hsz;obtain⟨jG,wS,hB⟩:=hI;go_wp2_with fail;refine(mq F1 s1 d1 200 _ _ jG.store).mono ?_;rintro e wy ⟨rfl,fy⟩;replace jG:=jG.new fy;replace wS:=wS.new fy;replace hB:=hB.trans fy.blk;clear fy;go_wp2_with fail;refine(mq Ft s2 d2 200 _ _ wS.store).mono ?_;rintro e wz ⟨rfl,fz⟩;replace jG:=jG.new fz;replace wS:=wS.new fz
   replace hB:=hB.trans fz.blk;clear fz;go_wp2_with fail;refine jG.acts.mono ?_;rintro e w9 ⟨rfl,rfl⟩;go_wp2_with fail;refine wS.acts.mono ?_;rintro e w9 ⟨rfl,rfl⟩;go_wp2_with fail;exact FJ (by kernel_rfl) hB
 .have hd1:decide ((k:Int)<(l.length:Int))=false:=by simp;omega
  rw[hd1];refine aj.ee (fun u=>{tmps:=(undef::undef::rn u 2 3 (.pointer (some ⟨s1,0,none⟩)::.pointer (some ⟨s2,0,none⟩)::.pointer (some ⟨s3,0,none⟩)::.int .i64 k::undef::rn u 10 14 (undef::u 25::.bool false::.bool false::rn u 28 6 (undef::u 35::undef::rn u 37 3 (undef::rn u 41 3 (undef::u 45::undef::rn u 47 14 [])))))).toArray,defers:=[]}) (by kernel_rfl) fun u=>?_
  simp only[rn];refine aj.va rfl (cA (by kernel_rfl)) (fun π=>by kernel_rfl) (aj.va rfl (cA (by kernel_rfl)) (fun π=>by kernel_rfl) ?_);refine aj.ie (w1:=w) (.bool false) rfl (by kernel_rfl) rfl (fun t d=>by kernel_rfl) (aj.ck ?_)
  refine aj.ee (fun u=>{tmps:=(undef::undef::rn u 2 3 (.pointer (some ⟨s1,0,none⟩)::.pointer (some ⟨s2,0,none⟩)::.pointer (some ⟨s3,0,none⟩)::.int .i64 k::undef::rn u 10 14 (undef::rn u 25 5 (.bool false::rn u 31 3 (undef::u 35::undef::rn u 37 3 (undef::rn u 41 3 (undef::u 45::undef::rn u 47 14 []))))))).toArray,defers:=[]}) (by kernel_rfl) fun u=>?_
  simp only[rn];refine aj.jD (b:=false) rfl rfl ?_;rw[if_neg (by simp)];refine aj.rS rfl ?_;refine li (fun x=>sb (.slice ad l.length cap) (.slice xI l2.length cap2) x) fun x=>?_
  have HR2:=BN HR.out (by omega) hkl hk3;rw[Nt.out] at HR2;simp only[Prod.mk.injEq] at HR2;obtain⟨rfl,rfl,rfl⟩:=HR2;clear ih' HR Nt AA Fc Fb yC hgt hgu hat hau h h2 hG ha1 hg1
  refine aj.dG none wi ⟨_,Tryz.func8⟩ (by kernel_rfl) (by simp) (fun w=>bn w F1 s1 d1 L1 a1 H1/\bn w Ft s2 d2 L1 a1 H1/\eF [] wL w) (fun w t k h=>⟨h.1.ay t k,h.2.1.ay t k,h.2.2.tape t k⟩) ⟨jG,wS,hB⟩ fun w7 hI hsz=>?_
  clear jG wS hB hsz;obtain⟨jG,wS,hB⟩:=hI;go_wp2_with fail;refine(mq F1 s1 d1 200 _ _ jG.store).mono ?_;rintro e wy ⟨rfl,fy⟩;replace jG:=jG.new fy;replace wS:=wS.new fy;replace hB:=hB.trans fy.blk;clear fy;go_wp2_with fail;refine(mq Ft s2 d2 200 _ _ wS.store).mono ?_;rintro e wz ⟨rfl,fz⟩;replace jG:=jG.new fz;replace wS:=wS.new fz
  replace hB:=hB.trans fz.blk;clear fz;go_wp2_with fail;refine jG.acts.mono ?_;rintro e w9 ⟨rfl,rfl⟩;go_wp2_with fail;refine wS.acts.mono ?_;rintro e w9 ⟨rfl,rfl⟩;go_wp2_with fail;exact FJ (by kernel_rfl) hB
end
section
open Go.ChangeShapes Go.WideShapes Go.ChangeAt Go.RowKit Go.Deep Go.Joins Go.Lib Go.Conc Go.ConcM
theorem qi {n:Int}(h:(Lit.int .i64 n).wf=true):wY n:=by
 unfold wY;simp[Lit.wf] at h;exact h
section
variable {H:Type}{enc:TypeId×Value->H}{w:World}{base:Nat}{spare:Nat->Bool}{held:Bool}
theorem tb:Tryz.prog.cellsOf 24=4:=by kernel_rfl
theorem IZ:Tryz.prog.cellsOf 3=1:=by kernel_rfl
theorem uk {fuel:Nat}{cs:List Value}{x:DataW H×List MemPlace}(h:DataW.trod enc Tryz.prog w base spare held fuel 24 cs=some x):∃y:nm,y.Ok/\cs=y.cells.toList:=by
 obtain⟨y0,y1,y2,y3,n,hx,hl,h0,h1,h2,h3⟩:=trod_struct4 Tryz.underlying24 h;rw[tb] at hl;simp only[IZ,AJ] at h0 h1 h2 h3
 match cs,hl with
 |[c0,c1,c2,c3],_=>
  obtain⟨a0,e0,_,w0⟩:=DataW.trod_int Tryz.underlying3 h0;obtain⟨a1,e1,_,w1⟩:=DataW.trod_int Tryz.underlying3 h1;obtain⟨a2,e2,_,w2⟩:=DataW.trod_int Tryz.underlying3 h2;obtain⟨a3,e3,_,w3⟩:=DataW.trod_string Tryz.underlying9 h3;simp at e0 e1 e2 e3;subst e0 e1 e2 e3;exact⟨⟨a0,a1,a2,a3⟩,⟨qi w0,qi w1,qi w2⟩,rfl⟩
theorem FU {α:Type}{Pr:Nat->α->Prop}:∀n:Nat,(∀i,i<n->∃y,Pr i y)->∃l:List α,l.length=n/\∀i,(h:i<l.length)->Pr i l[i]
 |0,_=>⟨[],rfl,fun i h=>by simp at h⟩
 |n+1,h=>by
  obtain⟨l,hl,hp⟩:=FU n fun i hi=>h i (by omega)
  obtain⟨y,hy⟩:=h n (by omega);refine⟨l++[y],by simp[hl],fun i hi=>?_⟩
  by_cases hi2:i<l.length
  .rw[List.getElem_append_left hi2]
   exact hp i hi2
  .have:i=n:=by simp at hi;omega
   subst this;rw[List.getElem_append_right (by omega)];simpa [hl] using hy
theorem rZ {W:World}{a:Option Addr}{len cap fuel:Nat}{x:DataW H×List MemPlace}(h:DataW.trod enc Tryz.prog W 0 spare held fuel 22 [.slice a len cap]=some x):∃l:List nm,l.length=len/\Nk W a l/\len<=cap/\cap<=maxLen:=by
 rcases open_slice Tryz.underlying22 h with⟨hcs,_⟩|⟨ad,len',cap',m,n,D,Pl,hcs,_,hl,hm,hmm,_,hcell⟩
 .simp at hcs
  obtain⟨rfl,rfl,rfl⟩:=hcs;exact⟨[],rfl,fun j hj=>by simp at hj,by omega,by omega⟩
 .simp at hcs
  obtain⟨rfl,rfl,rfl⟩:=hcs;have hlm:len<=m:=by rw[hmm];split<;>omega
  have hel:∀i,i<len->∃y:nm,y.Ok/\∃b off,some ad=some (⟨b,off,none⟩:Addr)/\W.rangeAt b (off+i*4) y.cells.toList:=by
   intro i hi;obtain⟨cs',h1,h2⟩:=hcell i (by omega);obtain⟨y,hy,rfl⟩:=uk h2;refine⟨y,hy,?_⟩;obtain⟨_,hlen,h3⟩:=World.cells?_some h1;rw[tb] at h1 hlen h3;obtain⟨b,off,spot⟩:=ad;have hspot:spot=none:=by
    obtain⟨cs0,k1,k2⟩:=hcell 0 (by omega);obtain⟨y0,_,rfl⟩:=uk k2;obtain⟨_,_,k3⟩:=World.cells?_some k1;rw[tb] at k3;have:=World.cell?_spot ((k3 0 (by omega)).trans (show y0.cells.toList[0]? =some (.int .i64 y0.kind) from rfl));simpa [Addr.add] using this
   subst hspot;refine⟨b,off,rfl,fun j v hj=>?_⟩;have hj4:j<4:=by
    have:=(List.getElem?_eq_some_iff.1 hj).1;rw[hlen] at this;exact this
   have h5:=h3 j hj4;rw[Addr.add_mid,Addr.add_mid,hj] at h5;exact h5
  obtain⟨l,hl2,hp⟩:=FU len hel;exact⟨l,hl2,fun j hj=>hp j hj,hl,hm⟩
end
theorem G0:((begin Tryz.prog (fun _ _=>0) default).world.heap[0]?).bind Obj.row? =some (#[.int .i64 0],3):=by kernel_rfl
theorem xY:Tryz.prog.globals.size=1:=by kernel_rfl
theorem xv:Tryz.prog.cellTypes Tryz.prog.depth 3=some [3]:=by kernel_rfl
def zA (w:World):Prop:=∃c t f,w.heap[0]? =some (.cells c t f)/\∀v∈c,∃q,v= .int .i64 q
theorem zA.yl {w:World}(h:zA w):pr w:=by
 obtain⟨c,t,f,h1,h2⟩:=h;refine⟨c,t,f,h1,fun v hv r hr=>?_⟩;obtain⟨q,rfl⟩:=h2 v hv;cases hr
theorem wU {w:World}(h:w.ShapedOpen Tryz.prog):zA w:=by
 obtain⟨cs,h1,h2,h3⟩:=h.1 0 _ _ (by rw[xY];omega) G0;obtain⟨ts,e1,_,e3⟩:=h3 (by kernel_rfl);rw[xv] at e1;obtain rfl:=Option.some.inj e1;refine⟨cs,_,_,h1,fun v hv=>?_⟩;obtain⟨i,hi,rfl⟩:=Array.mem_iff_getElem.1 hv;obtain⟨u,hu,hc⟩:=e3 i cs[i] (by simp[hi]);have:u=3:=by
  simp only[List.length_singleton,Nat.mod_one] at hu;simpa using hu.symm
 subst this;unfold Cell.ok at hc;rw[show Tryz.prog.underlying 3=some (.int .i64) by kernel_rfl] at hc;generalize cs[i]=x at hc;cases x<;>simp at hc;rename_i k n;exact⟨n,by rw[hc.1]⟩
def hide (W:World):World:={W with heap:=W.heap.mapIdx fun b o=>if b=0 then o else .cells #[] 1000000 (0,0)}
def hidden (W:World)(b:Nat):Prop:=b<W.heap.size/\b≠0
theorem fV (W:World):(hide W).heap.size=W.heap.size:=by simp[hide]
theorem ry (W:World)(b:Nat):(hide W).heap[b]? =(W.heap[b]?).map fun o=>if b=0 then o else .cells #[] 1000000 (0,0):=by simp[hide]
theorem IA {W:World}(h:pr W):pr (hide W):=by
 obtain⟨c,t,f,h1,h2⟩:=h;exact⟨c,t,f,by rw[ry,h1];simp,h2⟩
theorem K2 {W:World}(h:pr W):Link (hidden W) aj.no (fun b=>b<W.heap.size) aj.no id (hide W) W:=by
 obtain⟨c,t,f,h1,h2⟩:=h;have h0:=(Array.getElem?_eq_some_iff.1 h1).1;have at0:∀b o,(hide W).heap[b]? =some o->¬hidden W b->b=0/\o= .cells c t f:=fun b o hb hn=>by
  have hlt:b<W.heap.size:=by rw[<-fV];exact(Array.getElem?_eq_some_iff.1 hb).1
  have hz:b=0:=Classical.byContradiction fun q=>hn ⟨hlt,q⟩
  subst hz;rw[ry,h1] at hb;simp at hb;exact⟨rfl,hb.symm⟩
 have hid:∀b o,(hide W).heap[b]? =some o->hidden W b->o= .cells #[] 1000000 (0,0):=fun b o hb hh=>by
  rw[ry,Array.getElem?_eq_getElem hh.1,Option.map_some,if_neg hh.2] at hb;exact(Option.some.inj hb).symm
 have low:∀b,hidden W b\/aj.no b->b<(hide W).heap.size:=fun b hb=>by rw[fV];exact hb.elim (·.1) False.elim
 have vz:fY (hidden W) (hide W) 0:=⟨by rw[fV];exact h0,fun q=>q.2 rfl⟩
 refine⟨fun _ _ e=>e,rfl,fun b hb=>by rw[fV] at hb;exact hb,⟨fun b o hb hh _=>?_,hid,fun b o _ hz=>hz.elim,low,fun b hz=>hz.elim,vz,fun b o hb hh r hr=>?_⟩,⟨fun _ _ e=>e,rfl,rfl,fun b hb _=>by
  have hb:b<(hide W).heap.size:=hb;rw[fV] at hb;exact hb,fun b o hb hh _=>?_,hid,fun b o _ hz=>hz.elim,low,fun b o hb i hi=>?_⟩,fun b hb _=>by rw[<-fV];exact hb.1,fun b hz=>hz.elim⟩
 .obtain⟨rfl,rfl⟩:=at0 b o hb hh
  trivial
 .obtain⟨rfl,rfl⟩:=at0 b o hb hh
  cases hr with
  |cells hv hr=>exact absurd hr (h2 _ hv r)
 .obtain⟨rfl,rfl⟩:=at0 b o hb hh
  refine⟨trivial,?_⟩;show W.heap[0]? =_;rw[h1];rw[nW fun r hr=>by cases hr with|cells hv hr=>exact absurd hr (h2 _ hv r)]
 .by_cases hh:hidden W b
  .have:=hid b o hb hh
   subst this;exact hi.elim
  .obtain⟨rfl,rfl⟩:=at0 b o hb hh
   exact hi.elim
theorem Ek {W:World}(h:pr W)(K:Nat->Option Obj)(h0:K 0=none):Link (hidden W) aj.no (fun b=>b<W.heap.size/\K b=none) aj.no id (hide W) W:=by
 have hl:=K2 h;refine⟨hl.inj,hl.zero,hl.lt,hl.lw,hl.wr,fun b hv hz=>⟨hl.own b hv hz,?_⟩,hl.ro⟩;have hb:b=0:=Classical.byContradiction fun q=>hv.2 ⟨by have:=hv.1;rwa [fV] at this,q⟩
 subst hb;exact h0
theorem mz {H:Type}{enc:TypeId×Value->H}{a:Assume}{os:Os}{f:FuncId}{fn:Func}{s:ChangeSpec}{F:Stop.Interp}{conds:List PathCond}{apart fresh handsOn:Bool}
  (own:ownKnob Tryz.prog.godebug=none) (started:os.Started) (hfn:Tryz.prog.funcs[f]? =some fn)
  (witness:∃(w:World) (tape:Tape) (i:Input),w.os=os/\(w.forCall tape i).Shaped Tryz.checked.prog/\i.vars=[]/\Input.okWide Tryz.checked.prog (w.forCall tape i) .any w.heap.size f i/\
   s.pre6 enc Tryz.checked.prog fn conds apart (w.forCall tape i).memory i.args/\a.holds Tryz.checked.prog (lone (Frame.enter Tryz.checked.prog f i.args .normal) [] (w.forCall tape i)))
  (runs:∀(W:World) (base:Nat) (args:Array Value) (ds gs:List (DataW H)) (before:List MemPlace),zA W->
   (∀(j:Nat) t v,fn.params[j]? =some t->args[j]? =some v->Value.okWide Tryz.prog W .any base t v)->
   DataW.Whole enc Tryz.prog fn.params.toList s.vars apart W args.toList ds gs before->
   conds.all (PathCond.test Tryz.prog ⟨fn.params.toList,ds,s.plain.varTypes Tryz.prog,gs⟩)=true->
   (DataW.weightsEach Tryz.prog (fn.params.toList++s.plain.varTypes Tryz.prog) (ds++gs)).all (·<=reachBytes)=true->
   aj.Nf (fun v W'=>s.post enc Tryz.prog fn apart fresh handsOn false W args v {W' with os:=W.os}/\OsLater W.os W'.os) (solo (G (Frame.enter Tryz.prog f args .normal) []) W) #[]):
  ReturnsInLeavingWide a Tryz.checked os f .any (s.pre6 enc Tryz.checked.prog fn conds apart) ((OpenSpec.ofChange s).postWith enc Tryz.checked.prog fn F (outsideKept [.timePasses]) apart fresh handsOn):=by
 refine returnsInLeavingWide_of_good own started witness ?_;intro w tape i _ hsh _ hok hpre _;obtain⟨_,_,_,fn',hfn',_,_,_,_,hval⟩:=hok;have e:fn'=fn:=Option.some.inj (hfn'.symm.trans hfn);subst e;obtain⟨⟨ds,gs,before,hw,hc⟩,hz⟩:=hpre;have hw':=DataW.Whole.of_heap (w':=w.forCall tape i) (by rfl) hw
 obtain⟨N,last,o,w',t',r1,r2,r3,v,e,hp,r4⟩:=runs (w.forCall tape i) w.heap.size i.args ds gs before (wU hsh) hval hw' hc (hz.weights hw);exact⟨N,last,o,w',t',r1,r2,r3,v,e,postWith_blind (postWith_of_post hp.1 hp.2),r4⟩
theorem K6:ownKnob Tryz.prog.godebug=none:=by kernel_rfl
theorem zi:laidOutB Tryz.prog=true:=by kernel_rfl
def K0 (W:World)(b:Nat):Option Obj:=if b=0 then none else W.heap[b]?
theorem aa8 {W:World}(q:Nat)(o:Obj)(h:K0 W q=some o):W.heap[q]? =some o:=by
 unfold K0 at h;split at h
 .cases h
 .exact h
theorem Na {W:World}{ad:Option Addr}{l:List nm}(hG:zA W)(h:Nk W ad l):Ds (K0 W) ad l:=fun j hj=>by
 obtain⟨h1,b,off,rfl,h2⟩:=h j hj;have h3:W.cell? ⟨b,off+j*4+3,none⟩=some (.string l[j].content):=h2 3 _ rfl;obtain⟨ob,Yo⟩:∃ob,W.heap[b]? =some ob:=by
  unfold World.cell? at h3;cases hb:W.heap[b]? with
  |none=>rw[hb] at h3;cases h3
  |some ob=>exact⟨ob,rfl⟩
 have hb0:b≠0:=by
  rintro rfl;obtain⟨c,t,f,g1,g2⟩:=hG;unfold World.cell? at h3;rw[g1] at h3;simp only[Option.isSome_none,Bool.false_eq_true,if_false] at h3;obtain⟨q,hq⟩:=g2 _ (Array.mem_of_getElem? h3);cases hq
 exact⟨h1,b,off,rfl,ob,by unfold K0;rw[if_neg hb0];exact Yo,fun w hw=>B4 h2 Yo hw⟩
section
variable {W bG w':World}{π:Nat->Nat}{own:Nat->Prop}
theorem Cy {t:Go.Proofs.YtchcmhodnkgojaaGreat.dU}{d:Nat}(hG:zA W)(hB:eF [] (hide W) (ay bG t d))(hl:Link (hidden W) aj.no own aj.no π bG w')(hK:∀q o,K0 W q=some o->w'.heap[q]? =some o):∀k,k<W.heap.size->w'.heap[k]? =W.heap[k]? :=fun k hk=>by
 by_cases h0:k=0
 .subst h0
  obtain⟨c,t',f,g1,g2⟩:=hG;have e1:bG.heap[0]? =(hide W).heap[0]? :=hB.block 0 (by rw[fV];exact hk) (by simp);rw[ry,g1] at e1;simp only[Option.map_some,if_true] at e1;have e2:=(hl.wr.ok 0 _ e1 (fun q=>q.2 rfl) id).2;rw[hl.zero,nW fun r hr=>by
   cases hr with
   |cells hv hr=>
    obtain⟨q,rfl⟩:=g2 _ hv;cases hr] at e2
  rw[e2,g1]
 .have e:W.heap[k]? =some W.heap[k]:=Array.getElem?_eq_getElem hk
  rw[hK k W.heap[k] (by unfold K0;rw[if_neg h0];exact e),e]
theorem wH {H:Type}{enc:TypeId×Value->H}{P:Program}{t:TypeId}(hl:laidOutB P=true)(hr:P.readableRec t=true)(hrow:t<P.types.size){W W':World}{v:Value}{d:DataW H}{ps:List MemPlace}
  (h:DataW.Trod enc P W 0 (fun _=>true) true t v d ps) (hb:∀k,k<W.heap.size->W'.heap[k]? =W.heap[k]?) (hlt:∀x∈ps,x.block<W.heap.size):
  DataW.Trod enc P W' 0 (fun b=>decide (b<W.heap.size)) true t v d ps:=
 WideElems.Trod_stays hl hr hrow h (fun x hx=>by
  cases x with
  |cell b o=>exact World.cell?_of_block (w:=W) (hb b (hlt _ hx))
  |map b=>exact hb b (hlt _ hx)) (fun x hx=>by simpa using hlt x hx)
theorem Cz {W w':World}(hos:w'.os=W.os)(ho:w'.output=W.output)(hb:∀k,k<W.heap.size->w'.heap[k]? =W.heap[k]?)(may:MemPlace->Prop):W.keptBut w' may:=by
 refine⟨hos,ho,fun i hi=>?_⟩;rw[hb i hi];split<;>simp_all
end
theorem AO (os:Os)(started:os.Started)(H:Type)(enc:TypeId×Value->H)(F:Stop.Interp):
  ReturnsInLeavingWide Rows.alikeRow.assume Tryz.checked os 8 .any (Rows.alikeRow.pre enc Tryz.prog Tryz.f8 (OpenSpec.ofChange Rows.alikeSpec))
   ((OpenSpec.ofChange Rows.alikeSpec).postWith enc Tryz.prog Tryz.f8 F (outsideKept [.timePasses]) Rows.alikeRow.apart Rows.alikeRow.fresh Rows.alikeRow.handsOn):=by
 refine mz (s:=Rows.alikeSpec) (conds:=[]) K6 started Tryz.func8
  (ChangeSpec.witness6c (enc:=enc) (C:=Tryz.checked) ⟨#[],#[.slice none 0 0,.slice none 0 0],[]⟩ 8 (by kernel_rfl) (by kernel_rfl) (by kernel_rfl) (by kernel_rfl)) ?_
 intro W base args ds gs before hG hval0 hW hcnd _;have hval:∀(j:Nat) t v,Tryz.f8.params[j]? =some t->args[j]? =some v->Value.okWide Tryz.prog W .any base t v:=hval0;have hW':=hW;obtain⟨p,q,Yt,hV,rfl,hfz,hnd⟩:=hW;have hA:DataW.TrodAll enc Tryz.prog W 0 (fun _=>true) true Tryz.f8.params.toList args.toList ds p:=Yt;rw[Tryz.params8] at hA hval
 obtain⟨v0,v1,d0,d1,p0,p1,rfl,rfl,rfl,h0,h1⟩:=trodAll_two hA;have lt0:∀x∈p0,x.block<W.heap.size:=by obtain⟨m,hm⟩:=h0;exact DataW.trod_lt m _ _ _ hm
 have lt1:∀x∈p1,x.block<W.heap.size:=by obtain⟨m,hm⟩:=h1;exact DataW.trod_lt m _ _ _ hm
 obtain⟨rfl,rfl⟩:=trodVars_none hV;have k0:=h0;obtain⟨aik,g0⟩:=h0;obtain⟨a0,ai9,cap0,rfl⟩:=okWide_slice Tryz.underlying22 (hval 0 22 v0 rfl rfl);obtain⟨l0,rfl,Wr,hl0,hcap0⟩:=rZ (by simpa [Value.cells] using g0);have k1:=h1;obtain⟨fuel1,g1⟩:=h1;obtain⟨a1,ai8,acQ,rfl⟩:=okWide_slice Tryz.underlying22 (hval 1 22 v1 rfl rfl)
 obtain⟨l1,rfl,Wq,hl1,hcap1⟩:=rZ (by simpa [Value.cells] using g1);clear Yt hval0
 refine aj.Cq (W:=W) (H:=hidden W) (K:=K0 W) (wL:=hide W) (R2:=Sk (hide W)) Tryz.func8 rfl (by kernel_rfl) rfl (Ek hG.yl (K0 W) rfl) aa8 (Dx 61) (sb (.slice a0 l0.length cap0) (.slice a1 l1.length acQ) fun _=>undef) GS rfl (by kernel_rfl) (fV W) (IY a0 cap0 l0 (Na hG Wr) a1 acQ l1 (Na hG Wq) (IA hG.yl) rfl) ?_
 intro v bG π own w' ⟨t,d,hv,hB⟩ hl hvv hag hs1 hs2 hos hout hK;subst hv;have hb:=Cy hG hB hl hK;rw[show Value.ren π (.bool true)= .bool true by simp]
 exact⟨⟨_,_,_,[],_,[],hW',trodAll_mk1 (shut_bool Tryz.underlying4 _),(trodAll_cons_mk (wH zi (by kernel_rfl) (of_decide_eq_true (by kernel_rfl)) k0 hb lt0) (trodAll_cons_mk (wH zi (by kernel_rfl) (of_decide_eq_true (by kernel_rfl)) k1 hb lt1) trodAll_mk0)),rfl,Cz (W:=W) (w':={w' with os:=W.os}) rfl hout hb _,fun h=>by cases h⟩,hos⟩
theorem alike_said:Rows.AlikeSaid:=
 OpenClaim.holds_of_wide_leaving_time 8 Tryz.f8 rfl rfl rfl rfl rfl rfl rfl ⟨rfl,rfl,rfl,rfl,rfl⟩ rfl rfl rfl rfl rfl (by kernel_rfl) Tryz.func8 (by kernel_rfl)
  (of_decide_eq_true (by kernel_rfl)) (by unfold Func.isWrapper;first|(rw[if_pos (by decide+kernel)];kernel_rfl)|(rw[if_neg (by decide+kernel)];exact⟨rfl,rfl⟩))
  (fun os started H enc _ F=>AO os started H enc F)
end
end
end Go.Proofs.YtchcmhodnkgojaaGreat
