/- Opened is true at every input: bytes that were changed, or any bytes, are none, or some store, whose calls end: the given statement Rows.OpenedSaid, with no condition beside the row's own. -/
import Derived.Test.YtchcmhodnkgojaaGreatPart11
import Derived.Laws.RangeAny
import Derived.WalkMore
import Derived.Conc.HoldsTime
import Derived.Leaving
import Derived.ProofKit
import Derived.Carry
import Derived.Deep.Slices
import Derived.Lib.SmallJoins
import Derived.ChangeMaps5
set_option linter.all false
set_option maxRecDepth 100000
set_option maxHeartbeats 8000000
namespace Go.Proofs.YtchcmhodnkgojaaGreat
noncomputable section
section
open Go.RowKit Go.Lib
theorem vv:37<aH 200:=by decide
section
variable {L:List Γ}{n:Nat}{H:bW}
theorem zH (h:Has L n H)(h7:et H)(s:Nat)(p c:List Γ)(hp:p∈P7)(a:Int):(DS.calm L a).mF n s (aB p) (aB c)=(DS.calm L a).put n s (aB p) (aB c):=by
 obtain⟨m,hr,hm⟩:=h;have hm7:=h7.slots hm;have MR:=oR (x:=DS.calm L a) hr rfl hm7;unfold DS.mF;rw[show(DS.calm L a).failed=false from rfl,MR];simp only[ι,if_false];rw[ζ];refine Nat.not_lt.2 (Ke _ λf hf _=>?_);rcases ag8.1 hf with hf|hf
 .rw[mI (x:=DS.calm L a) hr rfl] at hf
  exact(hm7.files hr f hf).2
 .obtain rfl:=ad2.1 hf
  exact hp
theorem rJ (h:Has L n H)(h7:et H)(s:Nat)(p:Ξ)(a:Int):(DS.calm L a).gB n s p=(DS.calm L a).remove n s p:=by
 obtain⟨m,hr,hm⟩:=h;have MR:=oR (x:=DS.calm L a) hr rfl (h7.slots hm);unfold DS.gB;rw[show(DS.calm L a).failed=false from rfl,MR];simp only[ι,if_false]
theorem sF (h:Has L n H)(s:Nat)(p:List Γ)(hs:H s p=none)(a:Int):(DS.calm L a).remove n s (aB p)=(DS.calm L a,.int .i64 5):=by
 obtain⟨m,hr,hm⟩:=h;have hh:=hm s p;rw[hs] at hh;exact CY n s (aB p) (DS.calm L a) (qT (x:=DS.calm L a) hr rfl s p hh)
theorem et.set {H:bW}(h:et H){s:Nat}{p:List Γ}(hs:s<=2/\p∈P7)(r:Option (List Γ)):et (eP H s p r):=λs' p' hn=>by
 unfold eP at hn;split at hn
 .rename_i e;rw[e.1,e.2];exact hs
 .exact h s' p' hn
def Al (H:bW)(k sd pt:Int)(ct:Ξ):bW×Int:=
 if bD k 4=2 then(if H (bD sd 2) (nV (bD pt 7))=none then(H,5) else(eP H (bD sd 2) (nV (bD pt 7)) none,0))
 else(eP H (bD sd 2) (nV (bD pt 7)) (some (dj ct).data.toList),0)
theorem Kn (h:Has L n H)(h7:et H)(hn:37<aH n)(k sd pt:Int)(ct:Ξ):
  ∃L' N,Has L' n (Al H k sd pt ct).1/\et (Al H k sd pt ct).1/\(0:Int)<=N/\N<=5/\∀a,(DS.calm L a).act n k sd pt ct=(DS.calm L' (a+N),.int .i64 (Al H k sd pt ct).2):=by
 have hs:=mL sd 2;have hp:=mL pt 7;have hcl:=Ec ct;have hpm:=Je (bD pt 7) hp;have hsp:bD sd 2<=2/\nV (bD pt 7)∈P7:=⟨by omega,hpm⟩
 unfold Al DS.act
 by_cases hk:bD k 4=2
 .simp only[χ hk]
  by_cases hx:H (bD sd 2) (nV (bD pt 7))=none
  .simp only[χ hx]
   refine⟨L,0,h,h7,by omega,by omega,λa=>?_⟩;rw[rJ h h7,<-nO,sF h _ _ hx,Int.add_zero]
  .simp only[ζ hx]
   obtain⟨L',q1,q2⟩:=ny h _ _ hx;refine⟨L',2,q1,h7.set hsp _,by omega,by omega,λa=>?_⟩;rw[rJ h h7,<-nO,q2]
 .simp only[ζ hk]
  obtain⟨L',q1,q2⟩:=vK h h7.eight (by omega) (bD sd 2) (nV (bD pt 7)) _ (BI (by omega) hpm) hcl;refine⟨L',5,q1,h7.set hsp _,by omega,by omega,λa=>?_⟩;have hb:aB (dj ct).data.toList=dj ct:=by simp[aB]
  have:=zH h h7 (bD sd 2) (nV (bD pt 7)) (dj ct).data.toList hpm a;rw[hb,nO] at this;rw[this];have q:=q2 a;rw[hb,nO] at q;exact q
end
def sU (H:bW):List (List Γ):=@dite _ (∃ps,jA H ps) (Classical.propDecidable _) (λh=>h.choose) λ_=>[]
theorem Ei {H:bW}{ps:List (List Γ)}(h:jA H ps):sU H=ps:=by
 unfold sU;rw[dif_pos ⟨ps,h⟩];exact(Exists.choose_spec (⟨ps,h⟩:∃ps,jA H ps)).uniq h
def v7 (L:List Γ)(H:bW):List Γ×Int:=(((DS.calm L 0).xX 200 (dW H (sU H))).1.aJ,((DS.calm L 0).xX 200 (dW H (sU H))).1.acts)
def Gy (L:List Γ)(H:bW)(k sd pt:Int)(ct:Ξ):List Γ×Int:=
 if bD k 4=3 then v7 L H else(((DS.calm L 0).act 200 k sd pt ct).1.aJ,((DS.calm L 0).act 200 k sd pt ct).1.acts)
theorem Ce {L L':List Γ}{H:bW}{k:Int}{ps:List (List Γ)}{v:Φ}(hP:jA H ps)(h:∀a,(DS.calm L a).xX 200 (dW H ps)=(DS.calm L' (a+k),v)):v7 L H=(L',k):=by
 unfold v7;rw[Ei hP,h 0,Int.zero_add];rfl
structure cP (w:Θ)(F:List Nat)(s d:Nat)(L:List Γ)(a:Int)(H:bW):Prop where
 store:aP w F s d 200 (DS.calm L a)
 has:Has L 200 H
 seven:et H
 lo:0<=a
section
variable {w w' wL:Θ}{F:List Nat}{s d:Nat}{L:List Γ}{a:Int}{H:bW}
theorem cP.az (h:cP w F s d L a H)(t:Go.Proofs.YtchcmhodnkgojaaGreat.dZ)(k:Nat):cP (az w t k) F s d L a H:=⟨h.store.az t k,h.has,h.seven,h.lo⟩
theorem cP.new (h:cP w F s d L a H)(f:aO [] w w'):cP w' F s d L a H:=⟨h.store.new f,h.has,h.seven,h.lo⟩
theorem cP.ok (h:cP w F s d L a H)(ha:a<=900000000):yt (DS.calm L a) 200:=Po h.has h.seven vv a h.lo ha
theorem cP.synced (h:cP wL F s d L a H){v:Φ}(hR:yq F s d 200 (DS.calm L a) wL v w'):
  ∃ps cv F' L' k,v= .tuple #[.agg #[.int .i64 (dW H ps).length,cv],.int .i64 0]/\jA H ps/\cP w' F' s d L' (a+k) (j7 H)/\bZ F F' wL/\dN F wL w'/\(0:Int)<=k/\k<=80/\(dW H ps=[]->L'=L/\k=0)/\
   w'.ownsRow wL.heap.size 9 1 cv (x8 H ps).length (fx (x8 H ps))/\(∀g,cv.ownBlock=some g->g∉F')/\v7 L H=(L',k):=by
 have hm:=Dk h.has h.seven a;rcases hR with⟨h1,_⟩|⟨_,ps,F',hP,hS,hG,hB,hv⟩
 .exact absurd hm h1
 .have MY:=pS (x:=DS.calm L a) h.has rfl hP
  obtain⟨e1,e2⟩:=pK (x:=DS.calm L a) h.has rfl ps;obtain⟨L',k,q1,q2,q3,q4,q5,q6⟩:=zA h.has h.seven vv MY;rw[e1,q5 a] at hS;rw[e1,e2,q5 a] at hv;rcases hv with⟨cv,_,rfl,h7,h8⟩|⟨e,h6,h7,_⟩
  .exact⟨ps,cv,F',L',k,rfl,MY,⟨hS,q1,q2,by have:=h.lo;omega⟩,hG,hB,q3,q4,q6,h7,h8,Ce MY q5⟩
  .cases h7;exact absurd rfl h6
theorem cP.Pp (h:cP wL F s d L a H){e:Int}(hR:iZ F s d 200 (DS.calm L a) wL e w'):e=0/\∃F' L' k,cP w' F' s d L' (a+k) (j7 H)/\bZ F F' wL/\dN F wL w'/\(0:Int)<=k/\k<=80/\v7 L H=(L',k):=by
 have hm:=Dk h.has h.seven a;rcases hR with⟨h1,_⟩|⟨_,ps,F',hP,hS,hG,hB,hv⟩
 .exact absurd hm h1
 .have MY:=pS (x:=DS.calm L a) h.has rfl hP
  obtain⟨e1,e2⟩:=pK (x:=DS.calm L a) h.has rfl ps;obtain⟨L',k,q1,q2,q3,q4,q5,q6⟩:=zA h.has h.seven vv MY;rw[e1,q5 a] at hS hv;cases hv;exact⟨rfl,F',L',k,⟨hS,q1,q2,by have:=h.lo;omega⟩,hG,hB,q3,q4,Ce MY q5⟩
def zp (H:bW)(k sd pt:Int)(ct:Ξ):bW×Int:=if bD k 4=3 then(j7 H,0) else Al H k sd pt ct
theorem OI (H:bW)(k sd pt:Int)(ct:Ξ):(zp H k sd pt ct).2=0\/(zp H k sd pt ct).2=5:=by
 unfold zp Al;split
 .exact .inl rfl
 .split
  .split
   .exact .inr rfl
   .exact .inl rfl
  .exact .inl rfl
theorem cP.jc (h:cP wL F s d L a H){k sd pt:Int}{ct:Ξ}{v:Φ}(hR:SL F s d 200 (DS.calm L a) k sd pt ct wL v w'):
  v= .int .i64 (zp H k sd pt ct).2/\∃F' L' N,cP w' F' s d L' (a+N) (zp H k sd pt ct).1/\bZ F F' wL/\dN F wL w'/\(0:Int)<=N/\N<=80/\Gy L H k sd pt ct=(L',N):=by
 rcases hR with⟨h3,rfl,F',h4,h5,h6⟩|⟨h3,e,rfl,hE⟩
 .unfold zp
  rw[ζ h3];obtain⟨L',N,q1,q2,q3,q4,q5⟩:=Kn h.has h.seven vv k sd pt ct;have hL:Gy L H k sd pt ct=(L',N):=by
   unfold Gy;rw[ζ h3,q5 0,Int.zero_add];rfl
  rw[q5 a] at h4⊢;exact⟨rfl,F',L',N,⟨h4,q1,q2,by have:=h.lo;omega⟩,h5,h6,q3,by omega,hL⟩
 .unfold zp
  rw[χ h3];obtain⟨rfl,F',L',N,q1,q2,q3,q4,q5,q6⟩:=h.Pp hE;exact⟨rfl,F',L',N,q1,q2,q3,q4,q5,by unfold Gy;rw[χ h3];exact q6⟩
end
def H0:bW:=λ_ _=>none
theorem tN (n:Nat)(h:16<=n):Has (fD n) n H0:=⟨_,I6 n h,λ_ _ i f hf=>by cases hf⟩
def H1:bW:=eP H0 0 [97] (some [102,105,114,115,116])
theorem TW:([97]:List Γ)∈P7:=Fs.2 ⟨0,by omega,by decide⟩
theorem AK:et H0:=λ_ _ h=>absurd rfl h
theorem UG:et H1:=AK.set ⟨by omega,TW⟩ _
theorem Uv {ps:List (List Γ)}(h:jA H1 ps):dW H1 ps=[([97],0)]:=by
 have hmem:∀l,l∈ps↔l=[97]:=λl=>by
  rw[h.2];unfold H1 eP H0
  by_cases e:l=[97]<;>simp[e]
 have hps:ps=[[97]]:=by
  cases ps with
  |nil=>exact absurd ((hmem [97]).2 rfl) (by simp)
  |cons p r=>
   have hp:=(hmem p).1 (by simp);subst hp;cases r with
   |nil=>rfl
   |cons q r=>
    have hq:=(hmem q).1 (by simp);subst hq;have:=(List.pairwise_cons.1 h.1).1 [97] (by simp);exact absurd this (List.lt_irrefl _)
 rw[hps];rfl
abbrev St:=List Γ×Int×bW
def Br:List Γ:=((DS.calm (fD 200) 0).put 200 0 ⟨#[97]⟩ (aB [102,105,114,115,116])).1.aJ
def st0:St:=((v7 Br H1).1,5+(v7 Br H1).2,j7 H1)
def nxt (st:St)(y:qk):St:=((Gy st.1 st.2.2 y.kind y.side y.path y.content).1,st.2.1+(Gy st.1 st.2.2 y.kind y.side y.path y.content).2,(zp st.2.2 y.kind y.side y.path y.content).1)
def zN (l:List qk):St:=l.foldl nxt st0
theorem E1 {l:List qk}{k:Nat}{L L':List Γ}{a N:Int}{H:bW}(hk:k<l.length)(h:zN (l.take k)=(L,a,H))(hN:Gy L H l[k].kind l[k].side l[k].path l[k].content=(L',N)):
  zN (l.take (k+1))=(L',a+N,(zp H l[k].kind l[k].side l[k].path l[k].content).1):=by
 unfold zN at h⊢;rw[ac0 hk,List.foldl_append,h];simp only[List.foldl_cons,List.foldl_nil,nxt,hN]
theorem aaY:j7 H1 1 [97]=some [102,105,114,115,116]:=by decide
end
section
open Go.RowKit Go.Lib Go.Sort
def ZJ (l:List qk)(wL:Θ)(v:Φ)(w':Θ):Prop:=∃s d F L a H,v= .pointer (some ⟨s,0,none⟩)/\cP w' F s d L a H/\bZ [] F wL/\dN [] wL w'/\wL.heap.size<=s/\a<=30000/\zN (l.take 300)=(L,a,H)
def tY (sl:Φ)(s k:Nat)(u:Nat->Φ):Act:={tmps:=#[sl,u 1,u 2,.pointer (some ⟨s,0,none⟩),u 4,u 5,u 6,u 7,u 8,u 9,.int .i64 k,u 11,u 12,u 13,u 14,u 15,u 16,u 17,u 18,u 19,u 20,u 21,u 22,u 23,u 24,u 25,u 26,u 27,u 28,u 29,u 30,u 31,u 32,u 33,u 34,u 35,u 36,u 37,u 38,u 39,u 40,u 41,u 42,u 43,u 44,u 45,u 46,u 47,u 48,u 49,u 50,u 51,u 52,u 53,u 54,u 55,u 56,u 57,u 58,u 59,u 60,u 61,u 62,u 63,u 64,u 65,u 66,u 67,u 68,u 69,u 70,u 71,u 72,u 73,u 74],defers:=[]}
theorem bZ.nil {F:List Nat}{w:Θ}(g:bZ [] F w)(hG:pH w):0∉F:=g.zero hG (by simp)
theorem mQ {F:List Nat}{w wa wb:Θ}(g:bZ [] F w)(hB:dN F wa wb)(hA:dN [] w wa):dN [] w wb:=(hA.trans hB λi hi=>(g i hi).imp (by simp) id)
end
section
open Go.Conc
namespace av
section
variable (Ok:Env)(r:List Nat)
def fo (f:aa9)(D:lx)(t:List Item)(R:Act->Θ->Prop)(a:Act)(wL:Θ):Prop:=
 ∀(CS:List κ) (π:Nat->Nat) (M:Machine) (tr:Trace),BH Ok π wL M tr (G ((base f).at (aY π a D) t) CS)->VA Ok.H wL a.tmps->a.defers=[]->
  (∀(a':Act) (D':lx) (bI:Θ) (cu:Nat->Nat) (M':Machine) (j6:Trace) (todo:List Item),(∀y∈r,y∉sl D')->(∃t d,R a' (az bI t d))->BH Ok cu bI M' j6 (G {(base f).at (aY cu a' D') todo with mode:= .returning} CS)->
   VA Ok.H bI a'.tmps->a'.defers=[]->(∀b,b<wL.heap.size->cu b=π b)->wL.heap.size<=bI.heap.size->Ok.Ok M' j6)->Ok.Ok M tr
end
section
variable {Ok:Env}{r:List Nat}{f:aa9}{D:lx}{k t:List Item}{R:Act->Θ->Prop}{a:Act}{wL:Θ}
theorem iY (t':dZ)(d:Nat):fo Ok r f D t R a (az wL t' d)↔fo Ok r f D t R a wL:=
 ⟨λh CS π M tr hp=>h CS π M tr ((BH.az t' d).2 hp),λh CS π M tr hp=>h CS π M tr ((BH.az t' d).1 hp)⟩
theorem ik {t':List Item}(hs:∀(b:Act) (CS:List κ) (w:Θ),(∀x,iR (sl D) x=true->a.eval x= .bool true->b.eval x= .bool true)->(∀x,iR (sl D) x=true->a.eval x= .bool false->b.eval x= .bool false)->stepG PP true (G ((base f).at b t) CS) w= .go (G ((base f).at b t') CS) w)
  (h:fo Ok r f D t' R a wL):fo Ok r f D t R a wL:=λCS π M tr hp ha hd hk=>by
 have ev:∀(x:aa8) (t:Bool),iR (sl D) x=true->a.eval x= .bool t->(aY π a D).eval x= .bool t:=λx t ho hx=>by
  cases x with
  |tmp i=>
   show(xd D (a.tmps.map (Value.ren π))).getD i undef=_;rw[ac3,sf D _ i (G5 ho),<-ac3,jP,show a.tmps.getD i undef=_ from hx];simp
  |const v=>exact hx
  |global g=>cases hx
  |func f=>cases hx
 exact eC hp (hs _ _ · (λx ho=>ev x true ho) λx ho=>ev x false ho) λM' j6 hp'=>h CS π M' j6 hp' ha hd hk
theorem ck {x y:Code}(h:fo Ok r f D (.code x::.code y::k) R a wL):fo Ok r f D (.code (.seq x y)::k) R a wL:=ik (λ_ _ _ _ _=>stepG_seq) h
theorem qa {id:Nat}{c:Code}(h:fo Ok r f D (.code c::.inBlock id::k) R a wL):fo Ok r f D (.code (.block id c)::k) R a wL:=ik (λ_ _ _ _ _=>stepG_block) h
theorem pB {id:Nat}(h:fo Ok r f D k R a wL):fo Ok r f D (.inBlock id::k) R a wL:=ik (λ_ _ _ _ _=>stepG_inBlock) h
theorem N9 {c:Code}(h:fo Ok r f D (.code c::.inLoop c::k) R a wL):fo Ok r f D (.code (.loop c)::k) R a wL:=ik (λ_ _ _ _ _=>stepG_loop) h
theorem Ge {c:Code}(h:fo Ok r f D (.code c::.inLoop c::k) R a wL):fo Ok r f D (.inLoop c::k) R a wL:=ik (λ_ _ _ _ _=>stepG_inLoop) h
theorem N4 (h:fo Ok r f D k R a wL):fo Ok r f D (.code .skip::k) R a wL:=ik (λ_ _ _ _ _=>stepG_skip) h
theorem Eg {id:Nat}{k':List Item}(he:exitTo id k=some k')(h:fo Ok r f D k' R a wL):fo Ok r f D (.code (.exit id)::k) R a wL:=ik (λ_ _ _ _ _=>stepG_exit he) h
theorem ya {x:aa8}{p q:Code}{b:Bool}(hx:a.eval x= .bool b)(ho:iR (sl D) x=true)(h:fo Ok r f D (.code (if b then p else q)::k) R a wL):fo Ok r f D (.code (.cond x p q)::k) R a wL:=by
 refine ik (λb' CS w h1 h2=>?_) h;cases b with
 |true=>exact stepG_cond (h1 x ho hx)
 |false=>exact stepG_cond (h2 x ho hx)
theorem jy {id:Nat}{ops:Array Oper}(h:fo Ok r f D (.inRegion ops (List.range ops.size)::k) R a wL):fo Ok r f D (.code (.region id ops false)::k) R a wL:=ik (λ_ _ _ _ _=>stepG_region) h
theorem eF {ops:Array Oper}(h:fo Ok r f D k R a wL):fo Ok r f D (.inRegion ops []::k) R a wL:=ik (λ_ _ _ _ _=>stepG_region_end) h
def yo (Ok:Env)(r:List Nat)(gv:Option Nat)(f:aa9)(D:lx)(k:List Item)(R:Act->Θ->Prop):Exit->Act->Θ->Prop
 |.normal,a,w=>fo Ok r f D k R a w
 |.exit id,a,w=>gv=some id/\∃k',exitTo id k=some k'/\fo Ok r f D k' R a w
 |.ret,a,w=>∃t d,R a (az w t d)
 |_,_,_=>False
theorem E9 {gv:Option Nat}:QOk gv (yo Ok r gv f D k R) where
 tape:=λe a w t d=>by
  cases e with
  |normal=>exact iY t d
  |exit id=>exact and_congr Iff.rfl (exists_congr λk'=>and_congr Iff.rfl (iY t d))
  |ret=>exact Iff.rfl
  |_=>exact Iff.rfl
 out:=λe a w h=>by
  cases e with
  |normal=>exact .inl rfl
  |ret=>exact .inr (.inl rfl)
  |exit id=>exact .inr (.inr ⟨id,rfl,h.1⟩)
  |_=>exact h.elim
theorem Ef {t0:List Item}(gv:Option Nat)(hr:∀y∈r,y∉sl D)(h0:∃fn,PP.funcs[f]? =some fn)(BN:∀it∈t0,cj (sl D) PP S0 E0 true it=true)(hx:∀id,gv=some id->∃y,exitTo id k=some y)
  (hwp:∀t d,WpT PP t0 (yo Ok r gv f D k R) a (az wL t d)):fo Ok r f D (t0++k) R a wL:=λCS π M tr hp ha hd hk=>by
 refine kF hp (λown w hl=>MD Cp (λ_ _ h=>h) h0 xB E9 (B:=base f) (D0:=D) (CS:=CS) (kT:=k) rfl (by simp[base]) hx BN hl ha hd hwp) ?_;rintro Dead s g w M' j6 hz ⟨e,a',bI,cu,q,hl,hd',ha',hg,hag,hsz⟩ hs;have go:∀k',g=G ((base f).at (aY cu a' D) k') CS->fo Ok r f D k' R a' bI->Ok.Ok M' j6:=λk' e h=>
  h CS cu M' j6 ⟨Dead,s,w,e▸hz,hl,hs⟩ ha' hd' λa2 D2 BZ vc M2 Cb todo r2 rr p v d g2 z=>hk a2 D2 BZ vc M2 Cb todo r2 rr p v d (λb hb=>(g2 b (ψ hb hsz)).trans (hag b hb)) (ae3 hsz z)
 cases e with
 |normal=>exact go k hg q
 |exit id=>
  obtain⟨_,k',h1,h2⟩:=q;obtain⟨y,h3,h4⟩:=hg;rw[h1] at h3;cases h3;exact go k' h4 h2
 |ret=>
  obtain⟨todo,rfl⟩:=hg;exact hk a' D bI cu M' j6 todo hr q ⟨Dead,s,w,hz,hl,hs⟩ ha' hd' hag hsz
 |_=>exact q.elim
theorem bU {cd:Code}(gv:Option Nat)(hr:∀y∈r,y∉sl D)(h0:∃fn,PP.funcs[f]? =some fn)(hx:∀id,gv=some id->∃y,exitTo id k=some y)(I:Θ->Prop)(hb:∀w t d,I w->I (az w t d))(hI:I wL)(hwp:∀w,I w->w.heap.size=wL.heap.size->cd.wp PP (yo Ok r gv f D k R) a w)(BN:eU (sl D) PP S0 E0 true cd=true:=by kernel_rfl):fo Ok r f D (.code cd::k) R a wL:=
 Ef (t0:=[.code cd]) gv hr h0 (λit hit=>by simp at hit;subst hit;exact BN) hx λt d=>hwp _ (hb _ t d hI) rfl
theorem vO {ops:Array Oper}{i:Nat}{rest:List Nat}{o:Oper}(ho:ops[i]? =some o)(s9:eM (sl D) PP S0 E0 true o=true)(hw:∀π,Region.wanted o (yielded ops (aY π a D).tmps)=true)
  (h:∀t d,uponE o a (λa' w'=>fo Ok r f D (.inRegion ops rest::k) R a' w') (λ_ _ _=>False) ((execOp a.eval o).run PP (az wL t d))):fo Ok r f D (.inRegion ops (i::rest)::k) R a wL:=λCS π M tr hp ha hd hk=>by
 have hkb:(base f).kind≠.early:=by simp[base]
 obtain⟨_,_,hdst⟩:=kU s9;refine kF (Stop:=λs g w=>∃a' bI cu,fo Ok r f D (.inRegion ops rest::k) R a' bI/\g=G ((base f).at (aY cu a' D) (.inRegion ops rest::k)) CS/\Link Ok.H no s no cu bI w/\VA Ok.H bI a'.tmps/\a'.defers=[]/\(∀b,b<wL.heap.size->cu b=π b)/\wL.heap.size<=bI.heap.size) hp (λown w hl=>?_) ?_
 .refine aD.step rfl λw₁ hR=>?_
  obtain⟨r1,r2,r3⟩:=xB.rel own w w₁ hR;obtain⟨cu,hl',Hj,hag⟩:=hl.rely r1 r2 r3;have hl1:LW Ok.H no (az wL w₁.tape w₁.drawn):=hl'.lw.az _ _;have eπ:aY π a D=aY cu a D:=kD ha (λb hb=>(Hj b hb).symm) D;have h1:=h w₁.tape w₁.drawn
  have both:=fun {x bI} (hr:(execOp a.eval o).run PP (az wL w₁.tape w₁.drawn)= .ok x bI)=>nQ Cp hl'.inj hl'.zero (λ_ _ h=>h) hl1 hl'.wr D ha s9 hr λi _=>hag i
  cases hr:(execOp a.eval o).run PP (az wL w₁.tape w₁.drawn) with
  |halt hh u=>rw[hr] at h1;exact h1.elim
  |ok nx u=>
   rw[hr] at h1;obtain⟨l1,l2,x',w',e1,e2,e3,e4,e5,e6⟩:=both hr;obtain⟨o1,o2⟩:=hl'.sc (λi _=>hag i) l1 l2 e3 e4 (λe he=>e5 e (mem_listed (fn:=(base f).fn) he))
   have fin:∀v:Φ,fo Ok r f D (.inRegion ops rest::k) R (a.put o.dst v) u->VV (gV Ok.H u) v->aD PP true ly (λs g w=>∃a' bI cu,fo Ok r f D (.inRegion ops rest::k) R a' bI/\g=G ((base f).at (aY cu a' D) (.inRegion ops rest::k)) CS/\Link Ok.H no s no cu bI w/\VA Ok.H bI a'.tmps/\a'.defers=[]/\(∀b,b<wL.heap.size->cu b=π b)/\wL.heap.size<=bI.heap.size)
     (ly.up own w₁ w') (G ((base f).at (aY cu (a.put o.dst v) D) (.inRegion ops rest::k)) CS) w':=λv hc hv=>
    .stop λw₂ ⟨d,e⟩=>⟨_,u,cu,hc,rfl,by rw[e];exact(o2 _ λb=>Iff.rfl).at d,jo (VA.grow ha l2) hv,(put_defers _ _ _).trans hd,λb hb=>(Hj b hb).symm,l2⟩
   cases nx with
   |value v=>
    cases e2;refine⟨_,w',_,by rw[eπ];exact stepG_value ho (hw _) hkb e1,o1,?_⟩;rw[iq _ _ _ _ hdst];exact fin v h1 e6
   |skip=>
    cases e2;refine⟨_,w',_,by rw[eπ];exact stepG_none ho (hw _) hkb e1,o1,?_⟩;have e:(aY cu a D).put o.dst undef=aY cu (a.put o.dst undef) D:=by
     have:=iq (π:=cu) a D o.dst undef hdst
     rwa [show Value.ren cu undef=undef by simp[undef]] at this
    rw[e];exact fin undef h1 fT
   |_=>exact h1.elim
 .rintro Dead s g w M' j6 hz ⟨a',bI,cu,hc,rfl,hl,ha',hd',hag,hsz⟩ hs
  exact hc CS cu M' j6 ⟨Dead,s,w,hz,hl,hs⟩ ha' hd' λa2 D2 BZ vc M2 Cb todo r2 rr p v d g2 z=>hk a2 D2 BZ vc M2 Cb todo r2 rr p v d (λb hb=>(g2 b (ψ hb hsz)).trans (hag b hb)) (ae3 hsz z)
theorem N8 {ops:Array Oper}{i:Nat}{rest:List Nat}{o:Oper}(ho:ops[i]? =some o)(s9:eM (sl D) PP S0 E0 true o=true)(hg:o.guard=none)
  (h:∀t d,uponE o a (λa' w'=>fo Ok r f D (.inRegion ops rest::k) R a' w') (λ_ _ _=>False) ((execOp a.eval o).run PP (az wL t d))):fo Ok r f D (.inRegion ops (i::rest)::k) R a wL:=
 vO ho s9 (λπ=>by simp[Region.wanted,hg]) h
theorem Id {ops:Array Oper}{i:Nat}{rest:List Nat}{o:Oper}(ho:ops[i]? =some o)(hdst:∀t,o.dst=some t->t∉sl D)(hw:∀π,Region.wanted o (yielded ops (aY π a D).tmps)=false)
  (h:fo Ok r f D (.inRegion ops rest::k) R (a.put o.dst undef) wL):fo Ok r f D (.inRegion ops (i::rest)::k) R a wL:=λCS π M tr hp ha hd hk=>by
 refine eC hp (λw=>stepG_unwanted ho (hw π)) λM1 IA hp1=>?_
 have e:=iq (π:=π) a D o.dst undef hdst;rw[show Value.ren π undef=undef by simp[undef]] at e;rw[e] at hp1;exact h CS π M1 IA hp1 (jo ha fT) ((put_defers _ _ _).trans hd) hk
theorem Kh {ops:Array Oper}{i:Nat}{rest:List Nat}{o:Oper}(v:Φ)(hv:∀r,¬Value.Has r v)(ho:ops[i]? =some o)(hg:o.guard=none)(hdst:∀t,o.dst=some t->t∉sl D)
  (hrun:∀(π:Nat->Nat) (w:Θ),(execOp (aY π a D).eval o).runT PP w #[]=(.ok (.value v) w,#[])) (h:fo Ok r f D (.inRegion ops rest::k) R (a.put o.dst v) wL):fo Ok r f D (.inRegion ops (i::rest)::k) R a wL:=λCS π M tr hp ha hd hk=>by
 have hwd:∀c:Array Φ,Region.wanted o (yielded ops c)=true:=λc=>by simp[Region.wanted,hg]
 have hkb:(base f).kind≠.early:=by simp[base]
 have hl0:∀w,listed PP (base f).fn (aY π a D) o w=#[]:=λw=>by
  unfold listed;rw[show(execOp (aY π a D).eval o).events PP w #[]=#[] from congrArg Prod.snd (hrun π w)];simp[seen]
 refine eC hp (λw=>by rw[stepG_value ho (hwd _) hkb (by rw[<-Sem.runT_fst PP _ w #[],hrun]),hl0]) λM1 IA hp1=>?_
 have e:=iq (π:=π) a D o.dst v hdst;rw[e9 v λr hr=>absurd hr (hv r)] at e;rw[e] at hp1;exact h CS π M1 IA hp1 (jo ha λr hr=>absurd hr (hv r)) ((put_defers _ _ _).trans hd) hk
def IZ:lx->Nat->Φ->lx
 |[],_,_=>[]
 |p::D,d,v=>if p.1=d then(d,v)::D else p::IZ D d v
theorem Df:∀(D:lx) (d:Nat) (v:Φ) (c:Array Φ),(sl D).Nodup->d∈sl D->(xd D c).setIfInBounds d v=xd (IZ D d v) c
 |[],_,_,_,_,h=>by simp[sl] at h
 |p::D,d,v,c,hn,h=>by
  simp only[sl,List.map_cons,List.nodup_cons] at hn;unfold IZ;split
  .rename_i e
   show(xd D (c.setIfInBounds p.1 p.2)).setIfInBounds d v=xd D (c.setIfInBounds d v);have hd:d∉sl D:=e▸hn.1;rw[A1 D _ d v hd,e]
   congr 1
   simp
  .rename_i e
   have hd:d∈sl D:=by
    simp only[sl,List.map_cons,ab8] at h;exact h.resolve_left λq=>e q.symm
   exact Df D d v (c.setIfInBounds p.1 p.2) hn.2 hd
theorem N5 {ops:Array Oper}{i:Nat}{rest:List Nat}{o:Oper}(d:Nat)(v:Φ)(ho:ops[i]? =some o)(hwd:∀π,Region.wanted o (yielded ops (aY π a D).tmps)=true)(hdst:o.dst=some d)(hn:(sl D).Nodup)(hmem:d∈sl D)
  (hrun:∀(π:Nat->Nat) (w:Θ),(execOp (aY π a D).eval o).runT PP w #[]=(.ok (.value v) w,#[])) (h:fo Ok r f (IZ D d v) (.inRegion ops rest::k) R a wL):fo Ok r f D (.inRegion ops (i::rest)::k) R a wL:=λCS π M tr hp ha hd hk=>by
 have hkb:(base f).kind≠.early:=by simp[base]
 have hl0:∀w,listed PP (base f).fn (aY π a D) o w=#[]:=λw=>by
  unfold listed;rw[show(execOp (aY π a D).eval o).events PP w #[]=#[] from congrArg Prod.snd (hrun π w)];simp[seen]
 refine eC hp (λw=>by rw[stepG_value ho (hwd π) hkb (by rw[<-Sem.runT_fst PP _ w #[],hrun]),hl0]) λM1 IA hp1=>?_
 have e:(aY π a D).put o.dst v=aY π a (IZ D d v):=by
  rw[hdst];simp only[Act.put,aY];rw[Df D d v _ hn hmem]
 rw[e] at hp1;exact h CS π M1 IA hp1 ha hd hk
theorem vN {ops:Array Oper}{i:Nat}{rest:List Nat}{o:Oper}(d:Nat)(v:Φ)(ho:ops[i]? =some o)(hg:o.guard=none)(hdst:o.dst=some d)(hn:(sl D).Nodup)(hmem:d∈sl D)
  (hrun:∀(π:Nat->Nat) (w:Θ),(execOp (aY π a D).eval o).runT PP w #[]=(.ok (.value v) w,#[])) (h:fo Ok r f (IZ D d v) (.inRegion ops rest::k) R a wL):fo Ok r f D (.inRegion ops (i::rest)::k) R a wL:=
 N5 d v ho (λπ=>by simp[Region.wanted,hg]) hdst hn hmem hrun h
theorem sS {ops:Array Oper}{i:Nat}{rest:List Nat}{o:Oper}{f2:aa9}(xs:Array aa8)(args:Array Φ){R2:Φ->Θ->Prop}(ho:ops[i]? =some o)(hg:o.guard=none)(hxs:xs.all nX=true)(hoff:xs.all (iR (sl D))=true)(hdst:∀t,o.dst=some t->t∉sl D)
  (hrun:∀(b:Act) (w:Θ),(execOp b.eval o).runT PP w #[]=(.ok (.enter f2 (xs.map b.eval)) w,#[])) (hargs:xs.map a.eval=args) (hcc:CC Ok f2 args R2 wL)
  (h:∀v w',R2 v w'->wL.heap.size<=w'.heap.size->fo Ok r f D (.inRegion ops rest::k) R (a.put o.dst v) w'):fo Ok r f D (.inRegion ops (i::rest)::k) R a wL:=λCS π M tr hp ha hd hk=>by
 subst hargs;have hwd:∀c:Array Φ,Region.wanted o (yielded ops c)=true:=λc=>by simp[Region.wanted,hg]
 have hkb:(base f).kind≠.early:=by simp[base]
 have hev:xs.map (aY π a D).eval=(xs.map a.eval).map (Value.ren π):=by
  rw[Array.map_map];exact Array.map_congr_left λx hx=>lk a D (af0.1 hxs x hx) (af0.1 hoff x hx)
 have hr:∀w,(execOp (aY π a D).eval o).run PP w= .ok (.enter f2 ((xs.map a.eval).map (Value.ren π))) w:=λw=>by rw[<-Sem.runT_fst PP _ w #[],hrun,hev]
 have hl0:∀w,listed PP (base f).fn (aY π a D) o w=#[]:=λw=>by
  unfold listed;rw[show(execOp (aY π a D).eval o).events PP w #[]=#[] from congrArg Prod.snd (hrun _ w)];simp[seen]
 refine eC hp (λw=>by rw[stepG_enter ho (hwd _) hkb (hr w),hl0]) λM1 IA hp1=>?_
 refine hcc _ CS π M1 IA hp1 (λv hv=>?_) λv bI cu M' j6 ⟨t,d,hR⟩ hp' hv hag hsz=>?_
 .obtain⟨x,hx,rfl⟩:=Array.mem_map.1 hv
  exact lR ha (af0.1 hxs x hx)
 .have hc:fo Ok r f D (.inRegion ops rest::k) R (a.put o.dst v) bI:=(iY t d).1 (h v _ hR hsz)
  have e:((base f).at (aY π a D) (.inRegion ops (i::rest)::k)).finish (Value.ren cu v)=(base f).at (aY cu (a.put o.dst v) D) (.inRegion ops rest::k):=by
   rw[Frame.finish_at,ho,Option.bind_some,kD ha hag,iq _ _ _ _ hdst]
  rw[e] at hp';exact hc CS cu M' j6 hp' (jo (VA.grow ha hsz) hv) ((put_defers _ _ _).trans hd) λa2 D2 BZ vc M2 Cb todo r2 rr p v d g2 z=>hk a2 D2 BZ vc M2 Cb todo r2 rr p v d (λb hb=>(g2 b (ψ hb hsz)).trans (hag b hb)) (ae3 hsz z)
def CCt (Ok:Env)(f:aa9)(targs:Array Φ)(R:Φ->Θ->Prop)(wL:Θ):Prop:=
 ∀(c:κ) (CS:List κ) (π:Nat->Nat) (M:Machine) (tr:Trace),BH Ok π wL M tr (G (Frame.enter PP f targs .normal) (c::CS))->
  (∀(v:Φ) (bI:Θ) (cu:Nat->Nat) (M':Machine) (j6:Trace),(∃t d,R v (az bI t d))->BH Ok cu bI M' j6 (G (c.finish (Value.ren cu v)) CS)->VV (gV Ok.H bI) v->
   (∀b,b<wL.heap.size->cu b=π b)->wL.heap.size<=bI.heap.size->Ok.Ok M' j6)->Ok.Ok M tr
theorem Aa {a:Act}{π:Nat->Nat}{D:lx}{r:Nat}(h:r∉sl D):(aY π a D).tmps.getD r undef=Value.ren π (a.tmps.getD r undef):=by
 show(xd D (a.tmps.map (Value.ren π))).getD r undef=_;rw[ac3,sf D _ r h,<-ac3,jP]
theorem Gi {fn:Func}{r:Tmp}{cd:Code}{targs:Array Φ}{R2:Φ->Θ->Prop}(a0:Act)(D0:lx)(hf:PP.funcs[f]? =some fn)(hb:fn.body=some cd)(hres:fn.results=#[.tmp r])(ha0:VA Ok.H wL a0.tmps)(hd0:a0.defers=[])
  (he:∀π,aY π a0 D0={tmps:=targs++Array.replicate (fn.ntmps-targs.size) undef,defers:=[]}) (h:fo Ok [r] f D0 [.code cd] (λa w=>R2 (a.tmps.getD r undef) w) a0 wL):CCt Ok f targs R2 wL:=λc CS π M tr hp hk=>by
 rw[enter_at _ hf hb,<-he π] at hp;refine h (c::CS) π M tr hp ha0 hd0 λa' D' bI cu M' j6 todo hr hR hp' ha' hd' hag hsz=>?_
 have hg:=Aa (a:=a') (π:=cu) (hr r (by simp));refine eC hp' (λw=>stepG_leave (b:=base f) (a:=aY cu a' D') (todo:=todo) (v:=Value.ren cu (a'.tmps.getD r undef)) rfl rfl hf ?_ ?_) λM2 Cb hp2=>hk _ bI cu M2 Cb hR hp2 (lR (x:= .tmp r) ha' rfl) hag hsz
 .rw[results_tmp hres,hg]
 .have e:results fn (aY cu a' D').tmps=pure ((aY cu a' D').tmps.getD r undef):=by simp[results,hres]
  rw[e];rfl
theorem Ki {ops:Array Oper}{i:Nat}{rest:List Nat}{o:Oper}{f2:aa9}(targs:Array Φ){R2:Φ->Θ->Prop}(ho:ops[i]? =some o)(hg:o.guard=none)(hdst:∀t,o.dst=some t->t∉sl D)
  (hrun:∀(π:Nat->Nat) (w:Θ),(execOp (aY π a D).eval o).runT PP w #[]=(.ok (.enter f2 targs) w,#[])) (hcc:CCt Ok f2 targs R2 wL)
  (h:∀v w',R2 v w'->wL.heap.size<=w'.heap.size->fo Ok r f D (.inRegion ops rest::k) R (a.put o.dst v) w'):fo Ok r f D (.inRegion ops (i::rest)::k) R a wL:=λCS π M tr hp ha hd hk=>by
 have hwd:∀c:Array Φ,Region.wanted o (yielded ops c)=true:=λc=>by simp[Region.wanted,hg]
 have hkb:(base f).kind≠.early:=by simp[base]
 have hr:∀w,(execOp (aY π a D).eval o).run PP w= .ok (.enter f2 targs) w:=λw=>by rw[<-Sem.runT_fst PP _ w #[],hrun]
 have hl0:∀w,listed PP (base f).fn (aY π a D) o w=#[]:=λw=>by
  unfold listed;rw[show(execOp (aY π a D).eval o).events PP w #[]=#[] from congrArg Prod.snd (hrun π w)];simp[seen]
 refine eC hp (λw=>by rw[stepG_enter ho (hwd _) hkb (hr w),hl0]) λM1 IA hp1=>?_
 refine hcc _ CS π M1 IA hp1 λv bI cu M' j6 ⟨t,d,hR⟩ hp' hv hag hsz=>?_
 have hc:fo Ok r f D (.inRegion ops rest::k) R (a.put o.dst v) bI:=(iY t d).1 (h v _ hR hsz);have e:((base f).at (aY π a D) (.inRegion ops (i::rest)::k)).finish (Value.ren cu v)=(base f).at (aY cu (a.put o.dst v) D) (.inRegion ops rest::k):=by
  rw[Frame.finish_at,ho,Option.bind_some,kD ha hag,iq _ _ _ _ hdst]
 rw[e] at hp';exact hc CS cu M' j6 hp' (jo (VA.grow ha hsz) hv) ((put_defers _ _ _).trans hd) λa2 D2 BZ vc M2 Cb todo r2 rr p v d g2 z=>hk a2 D2 BZ vc M2 Cb todo r2 rr p v d (λb hb=>(g2 b (ψ hb hsz)).trans (hag b hb)) (ae3 hsz z)
theorem sR {c:Code}(I:lx->Act->Θ->Prop)(μ:Act->Θ->Nat)(h0:I D a wL)
  (round:∀D a w,I D a w->(∀D' a' w',I D' a' w'->μ a' w'<μ a w->fo Ok r f D' (.inLoop c::k) R a' w')->fo Ok r f D (.code c::.inLoop c::k) R a w):fo Ok r f D (.code (.loop c)::k) R a wL:=by
 have key:∀n D a w,I D a w->μ a w=n->fo Ok r f D (.code c::.inLoop c::k) R a w:=by
  intro n
  induction n using Nat.strongRecOn with
  |_ n ih=>exactλD a w hI hn=>round D a w hI λD' a' w' hI' hl=>Ge (ih _ (hn▸hl) D' a' w' hI' rfl)
 exact N9 (key _ _ _ _ h0 rfl)
theorem Kg {ops:Array Oper}{i:Nat}{rest:List Nat}{o:Oper}(q:Nat)(ob:Obj)(hq:Ok.K q=some ob)(v:Φ)(hv:∀r,¬Value.Has r v)(ho:ops[i]? =some o)(hwd:∀π,Region.wanted o (yielded ops (aY π a D).tmps)=true)(hdst:∀t,o.dst=some t->t∉sl D)
  (hrun:∀(π:Nat->Nat) (w:Θ),w.heap[q]? =some ob->(execOp (aY π a D).eval o).run PP w= .ok (.value v) w)
  (hev:∀(π:Nat->Nat) (w:Θ),w.heap[q]? =some ob->∀e∈(execOp (aY π a D).eval o).events PP w #[],e.sync=false/\aG.lX q e.loc)
  (h:fo Ok r f D (.inRegion ops rest::k) R (a.put o.dst v) wL):fo Ok r f D (.inRegion ops (i::rest)::k) R a wL:=λCS π M tr hp ha hd hk=>by
 have hkb:(base f).kind≠.early:=by simp[base]
 obtain⟨Sh,own,w,h1,h2,h3,h4,h5⟩:=hp
 let KK:Nat->Prop:=λq=>∃o,Ok.K q=some o
 have kk:∀q,KK q->q<w.heap.size/\∀l,aG.lX q l->¬Sh l:=λq ⟨o,hq⟩=>⟨(Ψ.1 (h5 q o hq).2.1).1,(h5 q o hq).2.2⟩
 have hA:=h3.union KK kk;have e:=iq (π:=π) a D o.dst v hdst;rw[e9 v λr hr=>absurd hr (hv r)] at e;have tree:aD PP true ly (λs g w'=>s=(λb=>own b\/KK b)/\g=G ((base f).at (aY π (a.put o.dst v) D) (.inRegion ops rest::k)) CS/\∃d,w'=w.at d) (λb=>own b\/KK b) (G ((base f).at (aY π a D) (.inRegion ops (i::rest)::k)) CS) w:=by
  refine aD.step rfl λw₁ hR=>?_
  obtain⟨d,rfl⟩:=hR;have hw:(w.at d).heap[q]? =some ob:=(h5 q ob hq).2.1;refine⟨_,w.at d,_,stepG_value ho (hwd π) hkb (hrun π _ hw),⟨φ _,λ_ _ _=>rfl,rfl,rfl,rfl,λev he=>?_⟩,?_⟩
  .obtain⟨_,hb⟩:=hev π _ hw ev (by simpa using mem_listed (fn:=(base f).fn) he)
   exact .inl ⟨q,.inl (.inr ⟨ob,hq⟩),hb⟩
  .rw[GI,e]
   exact .stop λw₂ ⟨d2,e2⟩=>⟨rfl,rfl,d2,by rw[e2];rfl⟩
 obtain⟨N,M',t',g',w',e1,e2,⟨s',⟨rfl,rfl,d,rfl⟩,e4⟩,e5,_⟩:=kY h1 (vI tree hA);exact Ok.back _ _ _ _ _ e1 (h CS π M' t' ⟨Sh,own,_,e2,h2.at d,e4.part λb hb=> .inl hb,h4,h5⟩ (jo ha λr hr=>absurd hr (hv r)) ((put_defers _ _ _).trans hd) hk)
theorem Oa {ops:Array Oper}{i:Nat}{rest:List Nat}{o:Oper}(q:Nat)(ob:Obj)(hq:Ok.K q=some ob)(v:Φ)(hv:∀r,¬Value.Has r v)(ho:ops[i]? =some o)(hg:o.guard=none)(hdst:∀t,o.dst=some t->t∉sl D)
  (hrun:∀(π:Nat->Nat) (w:Θ),w.heap[q]? =some ob->(execOp (aY π a D).eval o).run PP w= .ok (.value v) w)
  (hev:∀(π:Nat->Nat) (w:Θ),w.heap[q]? =some ob->∀e∈(execOp (aY π a D).eval o).events PP w #[],e.sync=false/\aG.lX q e.loc)
  (h:fo Ok r f D (.inRegion ops rest::k) R (a.put o.dst v) wL):fo Ok r f D (.inRegion ops (i::rest)::k) R a wL:=
 Kg q ob hq v hv ho (λπ=>by simp[Region.wanted,hg]) hdst hrun hev h
end
theorem Dp {f:aa9}{fn:Func}{cd:Code}{r:Tmp}{args:Array Φ}{W:Θ}{H:Nat->Prop}{K:Nat->Option Obj}{wL:Θ}{R2:Φ->Θ->Prop}{Post:Φ->Θ->Prop}(hf:PP.funcs[f]? =some fn)(hb:fn.body=some cd)(hi:PP.inits.idxOf? f=none)(hres:fn.results=#[.tmp r])
  (hl:Link H no (λb=>b<W.heap.size/\K b=none) no id wL W) (hKW:∀q o,K q=some o->W.heap[q]? =some o) (a0:Act) (D0:lx) (ha0:VA H wL a0.tmps) (hd0:a0.defers=[]) (he:aY id a0 D0={tmps:=args++Array.replicate (fn.ntmps-args.size) undef,defers:=[]}) (hsz:wL.heap.size=W.heap.size)
  (h:fo (TP Post W H K) [r] f D0 [.code cd] (λa w=>R2 (a.tmps.getD r undef) w) a0 wL)
  (post:∀(v:Φ) (bI:Θ) (π:Nat->Nat) (own:Nat->Prop) (w':Θ),(∃t d,R2 v (az bI t d))->Link H no own no π bI w'->VV (gV H bI) v->(∀b,b<W.heap.size->π b=b)->W.heap.size<=bI.heap.size->W.heap.size<=w'.heap.size->ConcM.OsLater W.os w'.os->w'.output=W.output->(∀q o,K q=some o->w'.heap[q]? =some o)->Post (Value.ren π v) w'):
  OK Post (solo (G (Frame.enter PP f args .normal) []) W) #[]:=by
 have hz:Zero PP (λ_=>False) (solo (G (Frame.enter PP f args .normal) []) W) #[] (G (Frame.enter PP f args .normal) []) W:=
  ⟨⟨_,none,_,rfl,rfl,leavers_one PP _,by simp[ZD]⟩,⟨past_nil.clean,λi a ha=>absurd ha (by simp[touchAt,Trace.act?]),past_nil.over,rfl,by simp⟩⟩
 have hp:BH (TP Post W H K) id wL (solo (G (Frame.enter PP f args .normal) []) W) #[] (G (Frame.enter PP f args .normal) []):=⟨λ_=>False,_,W,hz,hl,⟨λb hb l hl h=>h,λb hb=>hb.1,λl b h=>h.elim,λl h=>h.elim⟩,⟨.refl _,rfl⟩,λq o (ho:K q=some o)=>⟨λhb=>(by rw[hb.2] at ho;cases ho),hKW q o ho,λ_ _ h=>h⟩⟩
 rw[enter_at _ hf hb,<-he] at hp;rw[enter_at _ hf hb,<-he];refine h [] id _ _ hp ha0 hd0 λa' D' bI cu M' j6 todo hrD hR hp' ha' hd' hag hsz'=>?_
 have hgo:=Aa (a:=a') (π:=cu) (hrD r (by simp));obtain⟨Dead,own,w,hz',hl',hs,hos,hkf⟩:=hp';obtain⟨gs,sl,q,rfl,h0,hL,_⟩:=hz'.ex;have hvv:VV (gV H bI) (a'.tmps.getD r undef):=lR (x:= .tmp r) ha' rfl;have ahA:W.heap.size<=w.heap.size:=by
  rcases Nat.eq_zero_or_pos W.heap.size with h0|h0
  .omega
  .have h1:=hl'.lt (W.heap.size-1) (by omega)
   rw[hag _ (by omega)] at h1;have h2:W.heap.size-1<w.heap.size:=h1;omega
 have hpost:=λw'' (d:Nat) (e:w''=w.at d)=>post (a'.tmps.getD r undef) bI cu own w'' hR (by rw[e];exact hl'.at d) hvv (λb hb=>(hag b (by rw[hsz];exact hb)).trans rfl) (hsz▸hsz') (by rw[e];exact ahA) (by rw[e];exact hos.1) (by rw[e];exact hos.2) λq o hq=>by rw[e];exact(hkf q o hq).2.1
 refine beside_ends (Shun:=Dead) (B:=w.heap.size) (D:=λ_ _ _=>False) (λ_ _ _ h=>h.elim) (n:=0) h0 hL hz'.past λw₁ ⟨d,e⟩=>⟨rfl,Value.ren cu (a'.tmps.getD r undef),#[],?_,by simp,hpost w₁ d e⟩
 have hr:(results fn (aY cu a' D').tmps).run PP w₁= .ok (Value.ren cu (a'.tmps.getD r undef)) w₁:=by
  rw[results_tmp hres];rw[hgo]
 have he:(results fn (aY cu a' D').tmps).events PP w₁ #[]=#[]:=by
  have e:results fn (aY cu a' D').tmps=pure ((aY cu a' D').tmps.getD r undef):=by simp[results,hres]
  rw[e];rfl
 simp[G,stepG,unwind,doReturn,Frame.at,base,hf,hi,aY,xd] at hr he⊢;rw[hr,he];have hi2:=hi;simp at hi2;simp[seen,GStep.after,hi2]
end av
end
section
open Go.Conc Go.RowKit Go.Lib Go.Sort
def rn (u:Nat->Φ):Nat->Nat->List Φ->List Φ
 |_,0,r=>r
 |i,n+1,r=>u i::rn u (i+1) n r
namespace av
section
variable {Ok:Env}{r:List Nat}{f:aa9}{D:lx}{k t:List Item}{R:Act->Θ->Prop}{a:Act}{wL w1:Θ}{ops:Array Oper}{i:Nat}{rest:List Nat}{o:Oper}
theorem mz (x:aa8)(ho:ops[i]? =some o)(hop:o.op= .assign x\/o.op= .move x)(hg:o.guard=none)(h:fo Ok r f D (.inRegion ops rest::k) R (a.put o.dst (a.eval x)) wL)(s9:eM (sl D) PP S0 E0 true o=true:=by kernel_rfl):fo Ok r f D (.inRegion ops (i::rest)::k) R a wL:=by
 refine N8 ho s9 hg λt d=>?_
 have e:(execOp a.eval o).run PP (az wL t d)= .ok (.value (a.eval x)) (az wL t d):=by
  unfold execOp;rcases hop with hop|hop<;>rw[hop]<;>rfl
 rw[e];exact(iY t d).2 h
theorem nI (v:Φ)(ho:ops[i]? =some o)(hg:o.guard=none)(hr:∀t d,(execOp a.eval o).run PP (az wL t d)= .ok (.value v) (az w1 t d))(h:fo Ok r f D (.inRegion ops rest::k) R (a.put o.dst v) w1)(s9:eM (sl D) PP S0 E0 true o=true:=by kernel_rfl):fo Ok r f D (.inRegion ops (i::rest)::k) R a wL:=by
 refine N8 ho s9 hg λt d=>?_
 rw[hr];exact(iY t d).2 h
theorem Ee (v:Φ)(ho:ops[i]? =some o)(s9:eM (sl D) PP S0 E0 true o=true)(hw:∀π,Region.wanted o (yielded ops (aY π a D).tmps)=true)
  (hr:∀t d,(execOp a.eval o).run PP (az wL t d)= .ok (.value v) (az w1 t d)) (h:fo Ok r f D (.inRegion ops rest::k) R (a.put o.dst v) w1):fo Ok r f D (.inRegion ops (i::rest)::k) R a wL:=by
 refine vO ho s9 hw λt d=>?_
 rw[hr];exact(iY t d).2 h
theorem nJ (a':Act)(e:a=a')(h:fo Ok r f D t R a' wL):fo Ok r f D t R a wL:=e▸h
theorem ku (B:(Nat->Φ)->Act)(h:∀u,fo Ok r f D t R (B u) wL)(e:a=B λi=>a.tmps.getD i undef:=by kernel_rfl):fo Ok r f D t R a wL:=e▸h _
theorem Bx (D':lx)(e:D=D')(h:fo Ok r f D' t R a wL):fo Ok r f D t R a wL:=e▸h
theorem NK {π:Nat->Nat}{x:aa8}{q:IntKind}{n:Int}(hx:nX x=true)(ho:iR (sl D) x=true)(h:a.eval x= .int q n):(aY π a D).eval x= .int q n:=(lk a D hx ho).trans (by rw[h];simp)
theorem aiz (t:η)(x:aa8)(ho:ops[i]? =some o)(hop:o.op= .load t x)(s9:eM (sl D) PP S0 E0 true o=true)(hg:o.guard=none)
  (ha:(Tryz.prog.underlying t).map (λd=>match d with|.struct _|.array _ _=>true|_=>false)=some false) (b:Addr) (hx:a.eval x= .pointer (some b)) (v:Φ) (hc:wL.cell? b=some v)
  (h:fo Ok r f D (.inRegion ops rest::k) R (a.put o.dst v) wL):fo Ok r f D (.inRegion ops (i::rest)::k) R a wL:=by
 refine nI (w1:=wL) v ho (s9:=s9) hg (λt' d=>?_) h;have hc':(az wL t' d).cell? b=some v:=hc;have h1:aG.RT (lu.load t (.pointer (some b))).sem (az wL t' d) (.value v) (az wL t' d) #[⟨.cell b,false,false⟩]:=by
  refine aG.RT.eN (x:=v) ?_ (.pure _);show aG.RT (do if<-isAgg t then Pure.pure (.agg (<-loadCells b (<-Go.sizeOf t))) else load b) _ _ _ _;refine(aG.ib ha).aS ?_;simp only[ι,if_false];exact aG.kh hc'
 have:=h1.run;unfold execOp;rw[hop];show(do pure (.value (<-Instr.loadAt t (a.eval x))):Sem Next).run _ _=_;rw[hx];exact this
theorem N6 {l:List Nat}(gv:Option Nat)(hr:∀y∈r,y∉sl D)(h0:∃fn,PP.funcs[f]? =some fn)(BN:cj (sl D) PP S0 E0 true (.inRegion ops l)=true)(hx:∀id,gv=some id->∃y,exitTo id k=some y)
  (I:Θ->Prop) (hb:∀w t d,I w->I (az w t d)) (hI:I wL) (hwp:∀w,I w->w.heap.size=wL.heap.size->wpOps PP ops (yo Ok r gv f D k R) l a w):fo Ok r f D (.inRegion ops l::k) R a wL:=
 Ef (t0:=[.inRegion ops l]) gv hr h0 (λit hit=>by simp at hit;subst hit;exact BN) hx λt d b k cs=>wp_ops l a _ (hwp _ (hb _ t d hI) rfl) b k cs
theorem N0 {l:List Nat}(m:Nat)(hl:l=List.range' m (ops.toList.drop m).length)(hr:∀y∈r,y∉sl D)(h0:∃fn,PP.funcs[f]? =some fn)(BN:cj (sl D) PP S0 E0 true (.inRegion ops l)=true)
  (I:Θ->Prop) (hb:∀w t d,I w->I (az w t d)) (hI:I wL) (hwp:∀w,I w->w.heap.size=wL.heap.size->wpList PP ops (yo Ok r none f D k R) (ops.toList.drop m) a w):fo Ok r f D (.inRegion ops l::k) R a wL:=by
 refine N6 none hr h0 BN (by simp) I hb hI λw h1 h2=>?_
 rw[hl,wpOps_eq_wpList (ops.toList.drop m) m λj=>by rw[ag2,ah9]];exact hwp w h1 h2
end
end av
theorem C6 {w w':Θ}{q off:Nat}{ob:Obj}{l:List Φ}(h:w.rangeAt q off l)(hq:w.heap[q]? =some ob)(hq':w'.heap[q]? =some ob):w'.rangeAt q off l:=λi v hv=>by
 have:=h i v hv;unfold World.cell? at this⊢;rw[hq] at this;rw[hq'];exact this
namespace aG
theorem V7 {w:Θ}{t:η}{m:Nat}(b off len cap j:Nat)(hj:j<len)(ht:PP.underlying t=some (.slice (PP.elem t)))(hm:(PP.info? (PP.elem t)).map (·.size)=some m):
  RT (Instr.indexAt t (.slice (some ⟨b,off,none⟩) len cap) (.int .i64 j)) w (.pointer (some ⟨b,off+j*m,none⟩)) w #[]:=by
 unfold Instr.indexAt;refine RT.aS (x:=(IntKind.i64,(j:Int))) (.pure _) ?_;refine(fY ht).aS ?_;refine RT.aS (.pure _) ?_;refine(fY ht).aS ?_;simp only;rw[χ ⟨by omega,by omega⟩];refine(pM hm).aS ?_;have e:(Addr.add ⟨b,off,none⟩ ((j:Int).toNat*m))=⟨b,off+j*m,none⟩:=by rw[Int.toNat_natCast,Addr.add_mid]
 rw[e];exact .pure _
end aG
section
variable {o:Oper}{x y:aa8}
theorem XE {t:η}{m:Nat}(ht:av.PP.underlying t=some (.slice (av.PP.elem t)))(hm:(av.PP.info? (av.PP.elem t)).map (·.size)=some m)(b off len cap j:Nat)(hj:j<len)(a:Act)(hop:o.op= .indexAddr t x y)(hx:a.eval x= .slice (some ⟨b,off,none⟩) len cap)(hy:a.eval y= .int .i64 j)(w:Θ):
  (execOp a.eval o).runT av.PP w #[]=(.ok (.value (.pointer (some ⟨b,off+j*m,none⟩))) w,#[]):=by
 have h:aG.RT (do pure (.value (<-Instr.indexAt t (a.eval x) (a.eval y))):Sem Next) w (.value (.pointer (some ⟨b,off+j*m,none⟩))) w #[]:=by
  rw[hx,hy];exact(aG.V7 b off len cap j hj ht hm).aS (.pure _)
 unfold execOp;rw[hop];exact h #[]
theorem Hb {t:η}{b off:Nat}{ob:Obj}{vs:Array Φ}{w:Θ}(ha:(av.PP.underlying t).map (λd=>match d with|.struct _|.array _ _=>true|_=>false)=some true)(hn:(av.PP.info? t).map (·.size)=some vs.size)(h0:0<vs.size)
  (hw:w.heap[b]? =some ob) (hra:∀w:Θ,w.heap[b]? =some ob->w.rangeAt b off vs.toList) (a:Act) (hop:o.op= .load t x) (hx:a.eval x= .pointer (some ⟨b,off,none⟩)):
  (execOp a.eval o).run av.PP w= .ok (.value (.agg vs)) w/\∀e∈(execOp a.eval o).events av.PP w #[],e.sync=false/\aG.lX b e.loc:=by
 have hr:=hra w hw;have hcell:∀i,i<vs.size->w.cell? ⟨b,off+i,none⟩=vs[i]? :=λi hi=>by
  have:=hr i vs[i] (by rw[ah9,ν hi]);rw[this,ν hi]
 obtain⟨cs,u,f,rfl⟩:∃cs u f,ob= .cells cs u f:=by
  have:=hcell 0 h0;rw[ν h0] at this;unfold World.cell? at this;rw[hw] at this;cases ob with
  |cells cs u f=>exact⟨cs,u,f,rfl⟩
  |_=>cases this
 have hc:∀i,i<vs.size->cs[off+i]? =vs[i]? :=λi hi=>by
  have:=hcell i hi;unfold World.cell? at this;rw[hw] at this;simpa using this
 have hle:off+vs.size<=cs.size:=by
  have:=hc (vs.size-1) (by omega);rw[ν (by omega:vs.size-1<vs.size)] at this;have:=(Ψ.1 this).1;omega
 have he:cs.extract off (off+vs.size)=vs:=by
  apply Array.ext_getElem?
  intro i;rw[Array.getElem?_extract]
  by_cases hi:i<vs.size
  .rw[χ (by omega),hc i hi]
  .rw[ζ (by omega),Array.getElem?_eq_none (by omega)]
 obtain⟨ev,h1,h2⟩:=aG.jL (t:=t) (off:=off) (n:=vs.size) hw ha hn hle;rw[he] at h1;have h3:execOp a.eval o=(lu.load t (.pointer (some ⟨b,off,none⟩))).sem:=by
  unfold execOp;rw[hop];show(do pure (.value (<-Instr.loadAt t (a.eval x))):Sem Next)=_;rw[hx];rfl
 rw[h3];refine⟨h1.run,λe he=>(h2 e ?_).1⟩;have h4:(lu.load t (.pointer (some ⟨b,off,none⟩))).sem.events av.PP w #[]=#[]++ev:=congrArg Prod.snd (h1 #[]);rw[h4] at he;simpa using he
end
theorem Rh {k sd pt:Int}{ct:Ξ}:∀r,¬Value.Has r (.agg (eJ k sd pt ct)):=λr h=>by
 cases h with
 |agg hv h=>
  simp[eJ] at hv;rcases hv with rfl|rfl|rfl|rfl<;>cases h
end
section
open Go.RowKit Go.Lib Go.Sort
def Fh (sv x y z:Φ):lx:=[(0,sv),(53,x),(63,y),(65,z)]
section
variable {sv x y z:Φ}
theorem nW:∀i∈[2],i∉sl (Fh sv x y z):=by simp[sl,Fh]
theorem tG:(sl (Fh sv x y z)).Nodup:=by simp[sl,Fh]
theorem Wy:53∈sl (Fh sv x y z):=by simp[sl,Fh]
theorem Wx:63∈sl (Fh sv x y z):=by simp[sl,Fh]
theorem Ww:65∈sl (Fh sv x y z):=by simp[sl,Fh]
end
def OP (K:Nat->Option Obj)(ad:Option Addr)(l:List qk):Prop:=∀j,(hj:j<l.length)->(l[j]).Ok/\∃b off,ad=some ⟨b,off,none⟩/\∃ob,K b=some ob/\∀w:Θ,w.heap[b]? =some ob->w.rangeAt b (off+j*4) (l[j]).cells.toList
open aG aG.Sq in
theorem Kl {E:av.Env}{wL:Θ}(ad:Option Addr)(cap:Nat)(l:List qk)(h:OP E.K ad l)(hG:pH wL):
  av.CCt E 30 #[.slice ad l.length cap] (ZJ l wL) wL:=by
 refine av.Gi (r:=2) {tmps:=#[undef,undef,undef,undef,undef,undef,undef,undef,undef,undef,undef,undef,undef,undef,undef,undef,undef,undef,undef,undef,undef,undef,undef,undef,undef,undef,undef,undef,undef,undef,undef,undef,undef,undef,undef,undef,undef,undef,undef,undef,undef,undef,undef,undef,undef,undef,undef,undef,undef,undef,undef,undef,undef,undef,undef,undef,undef,undef,undef,undef,undef,undef,undef,undef,undef,undef,undef,undef,undef,undef,undef,undef,undef,undef,undef],defers:=[]} (Fh (.slice ad l.length cap) undef undef undef) Tryz.func30 rfl rfl (λv hv=>?_) rfl (λπ=>by kernel_rfl) ?_
 .simp only[List.mem_toArray,ab8,List.not_mem_nil,or_self,or_false] at hv
  subst hv;exact fT
 refine av.ck ?_;refine av.bU none nW ⟨_,Tryz.func30⟩ (by simp) (λw=>dN [] wL w) (λw t k h=>h.tape t k) (dN.refl _ _) λw hB hsz=>?_
 clear hsz;go_wp2_with fail;refine av.ck ?_;refine av.bU none nW ⟨_,Tryz.func30⟩ (by simp) (λw=>dN [] wL w) (λw t k h=>h.tape t k) hB λw2 hB2 hsz=>?_
 clear hB hsz;go_wp2_with fail;refine(QA 200 w2 (by omega) (by omega)).mono ?_;rintro e w3 ⟨s,d,F,rfl,hs,f3,g3,l3⟩;have hC:cP w3 F s d (fD 200) 0 H0:=⟨hs,tN 200 (by omega),AK,by omega⟩
 have hB:dN [] wL w3:=hB2.trans f3.blk;have hg:bZ [] F wL:=(bZ.refl [] wL).trans g3 hB2.size;have hls:wL.heap.size<=s:=ae3 hB2.size l3;clear hs f3 g3 l3 hB2;go_wp2_with fail;refine av.ck ?_
 refine av.bU none nW ⟨_,Tryz.func30⟩ (by simp) (λw=>cP w F s d (fD 200) 0 H0/\dN [] wL w) (λw t k h=>⟨h.1.az t k,h.2.tape t k⟩) ⟨hC,hB⟩ λw4 hI hsz=>?_
 clear hC hB hsz;obtain⟨hC,hB⟩:=hI;go_wp2_with fail
 obtain⟨L1,q1,q2⟩:=vK (tN 200 (by omega)) AK.eight (by decide) 0 [97] [102,105,114,115,116] (by decide) (by decide);have SG:Hid (Br=L1):=by
  show _=_;unfold Br;exact(congrArg (λz:DS×Φ=>z.1.aJ) (q2 0)).trans rfl
 have aeS:Hid ((DS.calm (fD 200) 0).mF 200 0 ⟨#[97]⟩ xO=(DS.calm L1 5,.int .i64 0)):=((zH (tN 200 (by omega)) AK 0 [97] [102,105,114,115,116] TW 0).trans (q2 0)).trans (by rw[Int.zero_add]);refine av.ck ?_
 refine av.bU none nW ⟨_,Tryz.func30⟩ (by simp) (λw=>cP w F s d (fD 200) 0 H0/\dN [] wL w) (λw t k h=>⟨h.1.az t k,h.2.tape t k⟩) ⟨hC,hB⟩ λw4 hI hsz=>?_
 clear hC hB hsz;obtain⟨hC,hB⟩:=hI;go_wp2_with fail;refine(tg F s d 200 _ 0 ⟨#[97]⟩ xO w4 hC.store (mR _ _ _ (by omega)) (by show 0<55;omega) (by omega) (by decide) (by decide) (by decide)).mono ?_;rintro e w5 ⟨rfl,⟨F1,hs1,g1⟩,f1⟩;rw[aeS.out] at hs1⊢;have hC1:cP w5 F1 s d L1 5 H1:=⟨hs1,q1,UG,by omega⟩
 have hB1:dN [] wL w5:=mQ hg f1.blk hB;have hg1:bZ [] F1 wL:=hg.trans g1 hB.size;clear hC hB hs1 f1 g1 aeS q1 q2 hg;go_wp2_with fail
 refine av.ck (av.jy (av.mz _ rfl (.inr rfl) rfl ?_))
 refine av.sS (f2:=31) #[.tmp 24] #[.pointer (some ⟨s,0,none⟩)] (R2:=yq F1 s d 200 (DS.calm L1 5) w5) rfl rfl (by kernel_rfl) (by kernel_rfl) (eD (by kernel_rfl)) (λb w=>by kernel_rfl) (by kernel_rfl) (Bz hC1.store (hG.blk hB1 (by simp)) (hg1.nil hG) (hC1.ok (by omega))) λv w6 hR _=>?_
 obtain⟨ps,cv,F2,L2,k2,rfl,hP,hC2,hg2,hB2,hk0,hk1,_,hcv,_,hsl⟩:=hC1.synced hR;have HST:Hid (st0=(L2,5+k2,j7 H1)):=by
  show _=_;unfold st0;rw[SG.out,hsl]
 clear hsl SG;rw[Uv hP];have hB2':dN [] wL w6:=mQ hg1 hB2 hB1;have adh:bZ [] F2 wL:=hg1.trans hg2 hB1.size;obtain⟨Zm,Gj,adp⟩:=bM hcv;generalize (x8 H1 ps).length=cl at adp;subst adp;clear hcv hR hC1 hB1 hg1 hg2 hB2 hP
 refine av.mz _ rfl (.inr rfl) rfl (av.nI (w1:=w6) (.agg #[.int .i64 1,.slice Zm cl Gj]) rfl rfl (λt d=>by kernel_rfl) (av.nI (w1:=w6) (.int .i64 0) rfl rfl (λt d=>by kernel_rfl) ?_))
 refine av.nJ {tmps:=(undef::undef::.pointer none::.pointer (some ⟨s,0,none⟩)::.int .i64 0::.int .i64 0::rn (λ_=>undef) 0 5 (.tuple #[.pointer (some ⟨s,0,none⟩),.int .i64 0]::.tuple #[.pointer (some ⟨s,0,none⟩),.int .i64 0]::.pointer (some ⟨s,0,none⟩)::.int .i64 0::.pointer (some ⟨s,0,none⟩)::.bool false::.bool false::.int .i64 0::.bool false::.bool false::.pointer (some ⟨s,0,none⟩)::.int .i64 0::.tuple #[.agg #[.int .i64 1,.slice Zm cl Gj],.int .i64 0]::.pointer (some ⟨s,0,none⟩)::.tuple #[.agg #[.int .i64 1,.slice Zm cl Gj],.int .i64 0]::.agg #[.int .i64 1,.slice Zm cl Gj]::.int .i64 0::rn (λ_=>undef) 0 47 [])).toArray,defers:=[]} (by kernel_rfl) ?_
 simp only[rn];refine av.N0 5 rfl nW ⟨_,Tryz.func30⟩ (by kernel_rfl) (λw=>cP w F2 s d L2 (5+k2) (j7 H1)/\dN [] wL w) (λw t k h=>⟨h.1.az t k,h.2.tape t k⟩) ⟨hC2,hB2'⟩ λw7 hI _=>?_
 clear hC2 hB2';obtain⟨hC,hB⟩:=hI;show wpList _ _ _ [_,_,_] _ _;refine ay rfl ?_;refine ai.go (bh rfl 58 rfl _ lA ?_);intro w8 b8 l8 f8 r8;go_wp2_with (with_reducible first|refine ah 58 rfl ?_);refine ai.go (kz rfl 58 _ _ rfl b8 rfl #[.int .i64 1,.slice Zm cl Gj] rfl ez (by simp[Value.oneCell']) _ _ r8 rfl ?_);intro w9 f9 r9
 have f79:aO [] w7 w9:=f8.trans f9 (by simpa using l8);have hC9:=hC.new f79;have hB9:=hB.trans f79.blk;clear hC hB f8 f9 r8 l8 f79;go_wp2_with fail
 have aeT:Hid ((DS.calm L2 (5+k2)).get 200 1 ⟨#[97]⟩=(.string xO,0)):=by
  show _=_;have h1:=Has.content (x:=DS.calm L2 (5+k2)) hC9.has rfl 1 [97];rw[aaY] at h1;unfold DS.get;rw[show(DS.calm L2 (5+k2)).failed=false from rfl,ζ (by simp)];have h2:(DS.calm L2 (5+k2)).content 200 1 ⟨#[97]⟩=some [102,105,114,115,116]:=h1;rw[show((1:Nat):Int)=1 from rfl,h2];rfl
 refine av.ck ?_;refine av.bU none nW ⟨_,Tryz.func30⟩ (by simp) (λw=>cP w F2 s d L2 (5+k2) (j7 H1)/\dN [] wL w/\Row w b8 #[.int .i64 1,.slice Zm cl Gj] 58) (λw t k h=>⟨h.1.az t k,h.2.1.tape t k,h.2.2⟩) ⟨hC9,hB9,r9⟩ λw4 hI hsz=>?_
 clear hC9 hB9 r9 hsz;obtain⟨hC,hB,r8⟩:=hI;go_wp2_with fail;refine(Hu F2 s d 200 _ 1 ⟨#[97]⟩ w4 hC.store (by omega) (by decide) (by decide)).mono ?_;rintro e w5 ⟨rfl,f5⟩;rw[aeT.out];have hC5:=hC.new f5;have Rm:=hB.trans f5.blk;have r5:=f5.row r8;clear aeT hC hB r8 f5;go_wp2_with fail;refine av.ck ?_
 refine av.bU none nW ⟨_,Tryz.func30⟩ (by simp) (λw=>cP w F2 s d L2 (5+k2) (j7 H1)/\dN [] wL w/\Row w b8 #[.int .i64 1,.slice Zm cl Gj] 58) (λw t k h=>⟨h.1.az t k,h.2.1.tape t k,h.2.2⟩) ⟨hC5,Rm,r5⟩ λw4 hI hsz=>?_
 clear hC5 Rm r5 hsz;obtain⟨hC,hB,r8⟩:=hI;have c8:w4.cell? ⟨b8,0,none⟩=some (.int .i64 1):=by rw[r8.cell];rfl
 have hfl:(!xO.toList==[102,105,114,115,116])=false:=by rw[show xO=aB [102,105,114,115,116] from rfl,En];rfl
 go_wp2_with fail;clear hfl c8 r8
 refine av.ck (av.ck ?_);refine av.bU none nW ⟨_,Tryz.func30⟩ (by simp) (λw=>cP w F2 s d L2 (5+k2) (j7 H1)/\dN [] wL w) (λw t k h=>⟨h.1.az t k,h.2.tape t k⟩) ⟨hC,hB⟩ λw5 hI hsz=>?_
 clear hC hB hsz;obtain⟨hC,hB⟩:=hI;go_wp2_with fail;refine av.qa ?_;refine av.ku (tY undef s 0) λu=>?_
 refine av.sR (λD a w=>∃(x y z:Φ) (k:Nat) (F:List Nat) (L:List Γ) (aa:Int) (H:bW) (u:Nat->Φ),D=Fh (.slice ad l.length cap) x y z/\a=tY undef s k u/\k<=l.length/\k<=300/\cP w F s d L aa H/\aa<=100+80*k/\bZ [] F wL/\dN [] wL w/\Hid (zN (l.take k)=(L,aa,H))) (λa _=>300-(intOf (a.tmps.getD 10 undef)).toNat)
  ⟨_,_,_,0,F2,L2,5+k2,j7 H1,u,rfl,rfl,by omega,by omega,hC,by omega,adh,hB,HST⟩ ?_
 clear hC hB adh u HST;rintro D a w ⟨x,y,z,k,Fk,Lk,ak,Hk,u,rfl,rfl,hkl,hk3,hC,hak,Z0,hB,HR⟩ ih
 have ih':∀(x y z:Φ) (k':Nat) (F:List Nat) (L:List Γ) (aa:Int) (H:bW) (u:Nat->Φ) (w':Θ),k'=k+1->k'<=l.length->k'<=300->cP w' F s d L aa H->aa<=100+80*k'->bZ [] F wL->dN [] wL w'->Hid (zN (l.take k')=(L,aa,H))->av.fo _ _ _ (Fh (.slice ad l.length cap) x y z) _ _ (tY undef s k' u) w':=λx y z k' F L aa H u w' e1 e2 e3 e4 e5 e6 e7 e8=>ih _ _ _ ⟨x,y,z,k',F,L,aa,H,u,rfl,rfl,e2,e3,e4,e5,e6,e7,e8⟩ (by subst e1;simp[tY,intOf];omega)
 clear ih;unfold tY at ih'⊢;refine av.ck (av.ck (av.jy ?_));refine av.mz _ rfl (.inr rfl) rfl (av.vN 53 (.slice ad l.length cap) rfl rfl rfl tG Wy (λπ w=>by kernel_rfl) ?_);refine av.Bx (Fh (.slice ad l.length cap) (.slice ad l.length cap) y z) rfl ?_
 refine av.Kh (.int .i64 l.length) (by intro r hr;cases hr) rfl rfl (eD (by kernel_rfl)) (λπ w=>by kernel_rfl) ?_;refine av.nI (w1:=w) (.bool (decide ((k:Int)<(l.length:Int)))) rfl rfl (λt d=>by kernel_rfl) (av.mz _ rfl (.inr rfl) rfl ?_)
 by_cases hlt:k<l.length
 .by_cases hlt3:k<300
  .obtain⟨hok,b,off,rfl,ob,hK,hra⟩:=h k hlt
   have HS:=λ(L':List Γ) (N:Int)=>E1 (L':=L') (N:=N) hlt HR.out
   clear HR;generalize l[k]=y at hok hra HS;replace HS:Hid _:=HS;have hd1:decide ((k:Int)<(l.length:Int))=true:=by simp;omega
   have hd2:decide ((k:Int)<300)=true:=by simp;omega
   rw[hd1];refine av.nJ {tmps:=(undef::u 1::u 2::.pointer (some ⟨s,0,none⟩)::rn u 4 6 (.int .i64 k::rn u 11 41 (.int .i64 k::u 53::.int .i64 l.length::.bool true::.bool true::rn u 57 18 []))).toArray,defers:=[]} (by kernel_rfl) ?_;simp only[rn]
   refine av.vO rfl (by kernel_rfl) (λπ=>by kernel_rfl) (λtt dd=>(show av.fo _ _ _ _ _ _ _ (az w tt dd) from(av.iY tt dd).2 ?_));refine av.Ee (w1:=w) (.bool (decide ((k:Int)<300))) rfl (by kernel_rfl) (λπ=>by kernel_rfl) (λt d=>by kernel_rfl) ?_;rw[hd2]
   refine av.nI (w1:=w) (.bool true) rfl rfl (λt d=>by kernel_rfl) (av.eF ?_);refine av.nJ {tmps:=(undef::u 1::u 2::.pointer (some ⟨s,0,none⟩)::rn u 4 6 (.int .i64 k::rn u 11 41 (.int .i64 k::u 53::.int .i64 l.length::.bool true::.bool true::.int .i64 k::.bool true::.bool true::rn u 60 15 []))).toArray,defers:=[]} (by kernel_rfl) ?_;simp only[rn]
   clear hd1 hd2;refine av.ya (b:=true) rfl rfl ?_;rw[χ rfl];refine av.N4 (av.ck (av.qa (av.ck (av.jy ?_))));refine av.mz _ rfl (.inr rfl) rfl (av.vN 63 (.slice (some ⟨b,off,none⟩) l.length cap) rfl rfl rfl tG Wx (λπ w=>by kernel_rfl) (av.mz _ rfl (.inr rfl) rfl ?_))
   refine av.vN 65 (.pointer (some ⟨b,off+k*4,none⟩)) rfl rfl rfl tG Ww (λπ w=>XE (m:=4) (x:= .tmp 63) (y:= .tmp 64) (by kernel_rfl) (by kernel_rfl) b off l.length cap k hlt _ rfl (by kernel_rfl) (av.NK (by kernel_rfl) (by kernel_rfl) (by kernel_rfl)) w) ?_
   refine av.Bx (Fh (.slice (some ⟨b,off,none⟩) l.length cap) (.slice (some ⟨b,off,none⟩) l.length cap) (.slice (some ⟨b,off,none⟩) l.length cap) (.pointer (some ⟨b,off+k*4,none⟩))) rfl ?_
   refine av.Oa b ob hK (.agg y.cells) Rh rfl rfl (eD (by kernel_rfl)) (λπ w hw=>(Hb (x:= .tmp 65) (by kernel_rfl) DD (by show 0<4;omega) hw hra _ rfl (by kernel_rfl)).1) (λπ w hw=>(Hb (x:= .tmp 65) (by kernel_rfl) DD (by show 0<4;omega) hw hra _ rfl (by kernel_rfl)).2) ?_
   refine av.sS (f2:=17) #[.tmp 62,.tmp 66] #[.pointer (some ⟨s,0,none⟩),.agg (eJ y.kind y.side y.path y.content)] (R2:=SL Fk s d 200 (DS.calm Lk ak) y.kind y.side y.path y.content w) rfl rfl (by kernel_rfl) (by kernel_rfl) (eD (by kernel_rfl)) (λb w=>by kernel_rfl) (by kernel_rfl)
    (Zi y.kind y.side y.path y.content hC.store (hG.blk hB (by simp)) (Z0.nil hG) (mR _ _ _ hC.lo) (by show 0<55;omega) (λ_=>hC.ok (by omega)) hok.1.1 hok.1.2 hok.2.1.1 hok.2.1.2 hok.2.2.1 hok.2.2.2) λv w6 hR _=>?_
   obtain⟨rfl,F',L',N,hC',hg',hB',hN0,hN1,hal⟩:=hC.jc hR;have HR:=HS.out L' N hal;clear hal HS;have XY:=OI Hk y.kind y.side y.path y.content;have hgn:bZ [] F' wL:=Z0.trans hg' hB.size;have hBn:dN [] wL w6:=mQ Z0 hB' hB;generalize zp Hk y.kind y.side y.path y.content=re at XY hC' HR⊢;obtain⟨Hn,en⟩:=re;clear hR hg' hB' hC hB hra Z0 hK
   refine av.mz _ rfl (.inl rfl) rfl (av.eF ?_);refine av.ku (λu=>{tmps:=(undef::u 1::u 2::.pointer (some ⟨s,0,none⟩)::.int .i64 en::rn u 5 5 (.int .i64 k::rn u 11 64 [])).toArray,defers:=[]}) λu=>?_
   simp only[rn];simp only at XY hC' HR;replace HR:Hid _:=HR;refine av.bU none nW ⟨_,Tryz.func30⟩ (by simp) (λw=>cP w F' s d L' (ak+N) Hn/\dN [] wL w) (λw t k h=>⟨h.1.az t k,h.2.tape t k⟩) ⟨hC',hBn⟩ λw7 hI hsz=>?_
   clear hC' hBn hsz;obtain⟨hC,hB⟩:=hI;rcases XY with rfl|rfl
   all_goals
    go_wp2_with fail;refine av.pB ?_;refine av.bU none nW ⟨_,Tryz.func30⟩ (by simp) (λw=>cP w F' s d L' (ak+N) Hn/\dN [] wL w) (λw t k h=>⟨h.1.az t k,h.2.tape t k⟩) ⟨hC,hB⟩ λw8 hI hsz=>?_
    clear hC hB hsz;obtain⟨hC,hB⟩:=hI;go_wp2_with fail;refine av.ku (tY undef s (k+1)) λu=>?_
    exact ih' _ _ _ (k+1) F' L' (ak+N) Hn u w8 rfl (by omega) (by omega) hC (by push_cast;omega) hgn hB HR
  .have hd1:decide ((k:Int)<(l.length:Int))=true:=by simp;omega
   have hd2:decide ((k:Int)<300)=false:=by simp;omega
   rw[hd1];refine av.nJ {tmps:=(undef::u 1::u 2::.pointer (some ⟨s,0,none⟩)::rn u 4 6 (.int .i64 k::rn u 11 41 (.int .i64 k::u 53::.int .i64 l.length::.bool true::.bool true::rn u 57 18 []))).toArray,defers:=[]} (by kernel_rfl) ?_;simp only[rn]
   refine av.vO rfl (by kernel_rfl) (λπ=>by kernel_rfl) (λtt dd=>(show av.fo _ _ _ _ _ _ _ (az w tt dd) from(av.iY tt dd).2 ?_));refine av.Ee (w1:=w) (.bool (decide ((k:Int)<300))) rfl (by kernel_rfl) (λπ=>by kernel_rfl) (λt d=>by kernel_rfl) ?_;rw[hd2]
   refine av.nI (w1:=w) (.bool false) rfl rfl (λt d=>by kernel_rfl) (av.eF ?_);refine av.nJ {tmps:=(undef::u 1::u 2::.pointer (some ⟨s,0,none⟩)::rn u 4 6 (.int .i64 k::rn u 11 41 (.int .i64 k::u 53::.int .i64 l.length::.bool true::.bool true::.int .i64 k::.bool false::.bool false::rn u 60 15 []))).toArray,defers:=[]} (by kernel_rfl) ?_
   simp only[rn];refine av.ya (b:=false) rfl rfl ?_;rw[ζ (by simp)];refine av.Eg rfl (av.bU none nW ⟨_,Tryz.func30⟩ (by simp) (λw=>cP w Fk s d Lk ak Hk/\dN [] wL w) (λw t k h=>⟨h.1.az t k,h.2.tape t k⟩) ⟨hC,hB⟩ λw6 hI hsz=>?_);go_wp2_with fail
   exact⟨w6.tape,w6.drawn,s,d,Fk,Lk,ak,Hk,rfl,hI.1,Z0,hI.2,hls,by omega,by rw[<-HR.out,show l.take 300=l.take k by rw[show k=300 by omega]]⟩
 .have hd1:decide ((k:Int)<(l.length:Int))=false:=by simp;omega
  rw[hd1];refine av.nJ {tmps:=(undef::u 1::u 2::.pointer (some ⟨s,0,none⟩)::rn u 4 6 (.int .i64 k::rn u 11 41 (.int .i64 k::u 53::.int .i64 l.length::.bool false::.bool false::rn u 57 18 []))).toArray,defers:=[]} (by kernel_rfl) ?_;simp only[rn]
  refine av.Id rfl (eD (by kernel_rfl)) (λπ=>by kernel_rfl) (av.Id rfl (eD (by kernel_rfl)) (λπ=>by kernel_rfl) ?_);refine av.nI (w1:=w) (.bool false) rfl rfl (λt d=>by kernel_rfl) (av.eF ?_)
  refine av.nJ {tmps:=(undef::u 1::u 2::.pointer (some ⟨s,0,none⟩)::rn u 4 6 (.int .i64 k::rn u 11 41 (.int .i64 k::u 53::.int .i64 l.length::.bool false::.bool false::undef::undef::.bool false::rn u 60 15 []))).toArray,defers:=[]} (by kernel_rfl) ?_;simp only[rn];refine av.ya (b:=false) rfl rfl ?_;rw[ζ (by simp)]
  refine av.Eg rfl (av.bU none nW ⟨_,Tryz.func30⟩ (by simp) (λw=>cP w Fk s d Lk ak Hk/\dN [] wL w) (λw t k h=>⟨h.1.az t k,h.2.tape t k⟩) ⟨hC,hB⟩ λw6 hI hsz=>?_);go_wp2_with fail
  exact⟨w6.tape,w6.drawn,s,d,Fk,Lk,ak,Hk,rfl,hI.1,Z0,hI.2,hls,by omega,by rw[<-HR.out,show l.take 300=l.take k by rw[θ (by omega),θ (by omega)]]⟩
end
section
open Go.RowKit Go.Lib
theorem AU (F:List Nat)(s d n:Nat)(x:DS)(w:Θ)(h:aP w F s d n x)(hf:x.failed=false)(hp:x.pending n=false):Calls Tryz.prog 32 #[.pointer (some ⟨s,0,none⟩)] w λe w'=>e= .returned (.int .i64 0)/\aO [] w w':=by
 have c0:=h.cell;obtain⟨bl,vw,hdi⟩:=h.nF;have hd:=kZ F s d n x w h;have hq:=o6 d bl n vw x w hdi;rw[hf] at hd;rw[hp] at hq;clear hf hp hdi;go_enter Tryz.func32,Tryz.ntmps32;go_wp2_with fail;refine hd.mono ?_;rintro e w1 ⟨rfl,rfl⟩;go_wp2_with fail;refine hq.mono ?_;rintro e w2 ⟨rfl,f2⟩;go_wp2_with fail;go_ret;exact⟨rfl,f2⟩
theorem C3 (M:Nat)(hM:M<=48)(F:List Nat)(s d n:Nat)(x:DS)(ss:List (List Γ×Nat))(w:Θ)(h:aP w F s d n x)(hf:x.failed=false)(hp:x.pending n=true)
  (hx:x.Fit (10*M+30)) (eZ:x.waiting.length<55) (hj:x.content n 3 ⟨#[]⟩=some (cy ss)) (h0:0<ss.length) (hl:ss.length<=M) (hok:fg ss) (hs:ss.Pairwise λp q=>p.1<q.1):
  Calls Tryz.prog 32 #[.pointer (some ⟨s,0,none⟩)] w λe w'=>e= .returned (x.ll n ss).2/\∃F',aP w' F' s d n (x.ll n ss).1/\bZ F F' w/\aO F w w':=by
 have c0:=h.cell;obtain⟨bl,vw,hdi⟩:=h.nF;have hd:=kZ F s d n x w h;have hq:=o6 d bl n vw x w hdi;have he:=λw2 f2=>Ib M hM F d n x ss w2 ((h.new f2).disk) hx eZ hj h0 hl hok hs
 rw[hf] at hd;rw[hp] at hq;clear hf hp hdi hj hx eZ h0 hl hok hs hM;replace he:Hid _:=he;generalize hz:x.ll n ss=z at he⊢;clear hz;go_enter Tryz.func32,Tryz.ntmps32;go_wp2_with fail;refine hd.mono ?_;rintro e w1 ⟨rfl,rfl⟩;go_wp2_with fail;refine hq.mono ?_;rintro e w2 ⟨rfl,f2⟩;have h2:=h.new f2;have c2:=h2.cell;clear c0;go_wp2_with fail;refine(he.out w2 f2).mono ?_
 rintro e w3 ⟨rfl,F',h3,f3,g3⟩;clear c2;go_wp2_with fail;go_ret;exact⟨rfl,F',⟨f3.row h2.row h2.ne,h3,λhF=>(g3 s hF).elim h2.ne λq=>by have:=h2.row.lt;omega⟩,(bZ.refl F _).trans g3 f2.size,(f2.mono).trans f3 (λi hi=> .inl hi)⟩
section
variable {w w':Θ}{F:List Nat}{s d:Nat}{L:List Γ}{a:Int}{H:bW}
theorem cP.bytes (h:cP w F s d L a H):Calls Tryz.prog 26 #[.pointer (some ⟨s,0,none⟩)] w λe w'=>e= .returned (.string ⟨L.toArray⟩)/\aO [] w w':=EX F s d 200 _ w h.store
theorem dN.row {S:List Nat}(h:dN S w w'){b:Nat}{c:Array Φ}{t:η}(hr:Row w b c t)(hb:b∉S:=by simp):Row w' b c t:=by
 unfold Row at*;rw[h.block b (Ψ.1 hr).1 hb];exact hr
end
def TX (wL:Θ)(v:Φ)(w':Θ):Prop:=v= .bool true/\dN [] wL w'
def ZB (r:Nat)(wL:Θ)(a:Act)(w:Θ):Prop:=TX wL (a.tmps.getD r undef) w
theorem P5 {r:Nat}{wL w:Θ}{a:Act}(h:a.tmps.getD r undef= .bool true)(hB:dN [] wL w):∃(t:Go.Proofs.YtchcmhodnkgojaaGreat.dZ) (d:Nat),ZB r wL a (az w t d):=⟨w.tape,w.drawn,h,hB⟩
end
section
open Go.RowKit Go.Lib Go.Sort
theorem uC:∀(fs:List cH) (seen:List od),ei seen fs=true->(∀f∈fs,cT f.set f.path=true)/\(fs.map nameOf).Nodup/\∀f∈fs,nameOf f∉seen
 |[],_,_=>⟨by simp,by simp,by simp⟩
 |f::fs,seen,h=>by
  unfold ei at h;simp only[ξ,Bool.not_eq_true'] at h;obtain⟨h1,h2,h3⟩:=h;obtain⟨i1,i2,i3⟩:=uC fs _ h3;have h2':nameOf f∉seen:=λhm=>by rw[List.contains_iff_mem.2 hm] at h2;cases h2
  refine⟨?_,?_,?_⟩
  .intro g hg
   rcases ab8.1 hg with rfl|hg
   .exact h1
   .exact i1 g hg
  .rw[List.map_cons,List.nodup_cons]
   refine⟨λhm=>?_,i2⟩;obtain⟨g,hg,e⟩:=ae0.1 hm;exact i3 g hg (by simp[e])
  .intro g hg
   rcases ab8.1 hg with rfl|hg
   .exact h2'
   .exact λhm=>i3 g hg (by simp[hm])
theorem su {α β:Type}(f:α->β):∀(l:List α),(l.map f).Nodup->∀a∈l,∀b∈l,f a=f b->a=b
 |[],_,a,ha,_,_,_=>by simp at ha
 |c::l,h,a,ha,b,hb,e=>by
  rw[List.map_cons,List.nodup_cons] at h;rcases ab8.1 ha with rfl|ha1
  .rcases ab8.1 hb with rfl|hb1
   .rfl
   .exact absurd (ae0.2 ⟨b,hb1,e.symm⟩) h.1
  .rcases ab8.1 hb with hb1|hb1
   .subst hb1
    exact absurd (ae0.2 ⟨a,ha1,e⟩) h.1
   .exact su f l h.2 a ha1 b hb1 e
def slotsOf (x:DS)(n:Nat):dy:=λi=>if i∈taken x n then some (fileAt x i) else none
theorem gC {x:DS}{n i:Nat}{f:cH}:slotsOf x n i=some f↔i∈taken x n/\fileAt x i=f:=by
 unfold slotsOf
 by_cases h:i∈taken x n
 .rw[χ h];simp[h]
 .rw[ζ h];simp[h]
theorem AS {x:DS}{n:Nat}(hl:x.aJ.length=64*n)(h16:16<=n)(hw:x.waiting=[])(hs:x.sound n=true):mT x.aJ n (slotsOf x n):=by
 unfold DS.sound at hs;simp only[ξ] at hs;obtain⟨h1,h2,h3⟩:=hs;obtain⟨n1,n2,_⟩:=uC _ _ h3;have ht:taken x n=(List.range (aH n)).filter λi=>(slotsOf x n i).isSome:=by
  have hm:∀i,i<aH n->(i∈taken x n↔(da (x.read 0) i==1)=true):=λi hi=>by
   unfold taken gz;rw[af9];exact⟨λh=>h.2,λh=>⟨af3.2 hi,h⟩⟩
  conv=>lhs;unfold taken gz
  refine List.filter_congr λi hi=>?_
  have hi':=hm i (af3.1 hi);unfold slotsOf
  by_cases h:i∈taken x n
  .rw[χ h,hi'.1 h];rfl
  .rw[ζ h,Bool.eq_false_iff.2 λq=>h (hi'.2 q)];rfl
 have hroot:jk x.aJ 0=d6 n (slotsOf x n):=by
  unfold DS.tz at h1;rw[ht,wP n _ _ (λi hi=>by
   obtain⟨f,hf⟩:=Option.isSome_iff_exists.1 hi;exact jJ x n i (gC.1 hf).1),pR x hw] at h1
  exact(eq_of_beq h1).symm
 refine⟨hl,h16,hroot,λi f hf=>?_,λi f hf=>jJ x n i (gC.1 hf).1,λi f hf=>?_,λi j f g hf hg e=>?_⟩
 .obtain⟨hi,rfl⟩:=gC.1 hf
  unfold DS.nm at h2;have h4:=ae6.1 h2 i hi;unfold uu at h4;have e:=eq_of_beq h4;show _=cB (eB (ci x i)) (cN (ci x i)) (bu (ci x i));rw[e];unfold ci DS.sec;rw[oX x hw,oX x hw]
 .obtain⟨hi,rfl⟩:=gC.1 hf
  exact⟨n1 _ (ae0.2 ⟨i,hi,rfl⟩),oW _⟩
 .obtain⟨hi,rfl⟩:=gC.1 hf
  obtain⟨hj,rfl⟩:=gC.1 hg;unfold aM at n2;rw[List.map_map] at n2;exact su _ _ n2 i hi j hj e
def FV (m:dy):bW:=λs p=>(z8 m s p).choose
theorem Bs (m:dy)(s:Nat)(p:List Γ):holds m s p (FV m s p):=(z8 m s p).choose_spec
def AZ (fs:List cH):List (List Γ):=compact ((dI fs).mergeSort λx y=>decide (x<=y))
theorem sP (qs:List (List Γ)):∀(i:Nat) (hi:i<qs.length),qs[i]∈compact qs
 |0,hi=>by
  unfold compact compactUpTo;refine ae0.2 ⟨0,af9.2 ⟨af3.2 hi,by simp[keeps]⟩,?_⟩;rw[getElem!_pos qs.toArray 0 (by simpa using hi)];simp
 |i+1,hi=>by
  by_cases e:qs[i]=qs[i+1]
  .rw[<-e]
   exact sP qs i (by omega)
  .unfold compact compactUpTo
   refine ae0.2 ⟨i+1,af9.2 ⟨af3.2 hi,?_⟩,?_⟩
   .unfold keeps
    rw[ai1]
    right
    rw[getElem!_pos qs.toArray (i+1) (by simpa using hi),getElem!_pos qs.toArray (i+1-1) (by simp;omega)];simpa usingλq=>e q.symm
   .rw[getElem!_pos qs.toArray (i+1) (by simpa using hi)]
    simp
theorem pk {fs:List cH}{p:List Γ}:p∈AZ fs↔∃f∈fs,f.set≠3/\f.path=p:=by
 have h1:p∈dI fs↔∃f∈fs,f.set≠3/\f.path=p:=by
  unfold dI;rw[ae0];exact⟨λ⟨f,hf,e⟩=>⟨f,(af9.1 hf).1,by simpa using(af9.1 hf).2,e⟩,λ⟨f,hf,h3,e⟩=>⟨f,af9.2 ⟨hf,by simpa using h3⟩,e⟩⟩
 rw[<-h1];unfold AZ;constructor
 .intro h
  exact List.mem_mergeSort.1 (uU h)
 .intro h
  obtain⟨i,hi,e⟩:=List.getElem_of_mem (List.mem_mergeSort.2 h);rw[<-e];exact sP _ i hi
structure QF (Q:List (List Γ))(H:bW):Prop where
 names:∀s p,H s p≠none->(s<=2/\p∈Q)\/(s=3/\p=[])
 len:Q.length<=7
 path:∀p∈Q,bQ p=true
theorem zV {s:Nat}{p:List Γ}(h:cT s p=true)(hs:s≠3):s<=2/\bQ p=true:=by
 unfold cT at h
 by_cases e:(s:Int)=0\/(s:Int)=1\/(s:Int)=2
 .rw[χ e] at h
  exact⟨by omega,h⟩
 .rw[ζ e,ζ (by omega)] at h
  cases h
theorem QB {s:Nat}{p:List Γ}(hs:s<=2)(hp:bQ p=true):cT s p=true:=by
 unfold cT;rw[χ (by omega)];exact hp
section
variable {L:List Γ}{n:Nat}{H:bW}{Q:List (List Γ)}{m:dy}{x:DS}
theorem FI {s:Nat}{p:List Γ}{r:Option (List Γ)}(h:holds m s p r)(hn:r≠none):∃i f,m i=some f/\f.set=s/\f.path=p:=by
 cases r with
 |none=>exact absurd rfl hn
 |some c=>
  obtain⟨i,hi⟩:=h;exact⟨i,_,hi,rfl,rfl⟩
theorem S9 (hr:mT x.aJ n m)(hw:x.waiting=[])(hm:∀s p,holds m s p (H s p))(fs:List cH)(hfs:∀f∈fs,f.set<=2/\bQ f.path=true)(hc:jw (aM x n++fs)<=7):QF (AZ (aM x n++fs)) H:=by
 refine⟨λs p hn=>?_,hc,λp hp=>?_⟩
 .obtain⟨i,f,hf,rfl,rfl⟩:=FI (hm s p) hn
  have hg:=(hr.good i f hf).1
  by_cases h3:f.set=3
  .right
   refine⟨h3,?_⟩;rw[h3] at hg;unfold cT at hg;simpa using hg
  .left
   refine⟨(zV hg h3).1,pk.2 ⟨f,List.mem_append_left _ ?_,h3,rfl⟩⟩;rw[mI hr hw];exact hr.mem.2 ⟨i,hf⟩
 .obtain⟨f,hf,h3,rfl⟩:=pk.1 hp
  rcases ag8.1 hf with hf|hf
  .rw[mI hr hw] at hf
   obtain⟨i,hi⟩:=hr.mem.1 hf;exact(zV (hr.good i f hi).1 h3).2
  .exact(hfs f hf).2
theorem QF.set (h:QF Q H){s:Nat}{p:List Γ}(hs:(s<=2/\p∈Q)\/(s=3/\p=[]))(r:Option (List Γ)):QF Q (eP H s p r):=by
 refine⟨λs' p' hn=>?_,h.len,h.path⟩;unfold eP at hn
 by_cases e:s'=s/\p'=p
 .obtain⟨rfl,rfl⟩:=e
  exact hs
 .rw[ζ e] at hn
  exact h.names s' p' hn
theorem QF.name (h:QF Q H){s:Nat}{p:List Γ}(hs:(s<=2/\p∈Q)\/(s=3/\p=[])):cT s p=true:=by
 rcases hs with⟨h1,h2⟩|⟨rfl,rfl⟩
 .exact QB h1 (h.path p h2)
 .rfl
structure j4 (L:List Γ)(n:Nat)(Q:List (List Γ))(H:bW):Prop where
 has:Has L n H
 qf:QF Q H
theorem j4.put (h:j4 L n Q H)(s:Nat)(p c:List Γ)(hs:(s<=2/\p∈Q)\/(s=3/\p=[]))(hc:c.length<=96):
  ∃L' H' k e,j4 L' n Q H'/\(0:Int)<=k/\k<=5/\(H'=eP H s p (some c)/\e=0\/H'=H/\e=7)/\∀a,(DS.calm L a).put n s (aB p) (aB c)=(DS.calm L' (a+k),.int .i64 e):=by
 obtain⟨⟨m,hr,hm⟩,hq⟩:=h
 by_cases hroom:∃i,i<aH n/\m i=none
 .obtain⟨L',q1,q2⟩:=DK hr hm hroom s p c (hq.name hs) hc
  exact⟨L',_,5,0,⟨q1,hq.set hs _⟩,by omega,by omega,.inl ⟨rfl,rfl⟩,q2⟩
 .exact⟨L,H,0,7,⟨⟨m,hr,hm⟩,hq⟩,by omega,by omega,.inr ⟨rfl,rfl⟩,λa=>by rw[Int.add_zero];exact LP hr hroom s _ _ a⟩
theorem j4.remove (h:j4 L n Q H)(s:Nat)(p:List Γ)(hs:(s<=2/\p∈Q)\/(s=3/\p=[])):
  ∃L' H' k e,j4 L' n Q H'/\(0:Int)<=k/\k<=5/\∀a,(DS.calm L a).remove n s (aB p)=(DS.calm L' (a+k),.int .i64 e):=by
 by_cases hn:H s p=none
 .exact⟨L,H,0,5,h,by omega,by omega,λa=>by rw[Int.add_zero];exact sF h.has s p hn a⟩
 .obtain⟨L',q1,q2⟩:=ny h.has s p hn
  exact⟨L',_,2,0,⟨q1,h.qf.set hs _⟩,by omega,by omega,q2⟩
theorem j4.all:∀(ws:List db) {L:List Γ} {H:bW},j4 L n Q H->(∀w∈ws,(w.set<=2/\w.path∈Q)/\∀c,w.becomes=some c->c.length<=96)->
  ∃L' H' k e,j4 L' n Q H'/\(0:Int)<=k/\k<=5*(ws.length:Int)/\∀a,(DS.calm L a).ft n ws=(DS.calm L' (a+k),.int .i64 e)
 |[],L,H,h,_=>⟨L,H,0,0,h,by omega,by simp,λa=>by simp[DS.ft]⟩
 |w::r,L,H,h,hw=>by
  obtain⟨⟨hs,hp⟩,hc⟩:=hw w List.mem_cons_self;have one:∃L1 H1 k1 e1,j4 L1 n Q H1/\(0:Int)<=k1/\k1<=5/\∀a,(DS.calm L a).sN n w=(DS.calm L1 (a+k1),.int .i64 e1):=by
   unfold DS.sN;cases hb:w.becomes with
   |none=>exact h.remove w.set w.path (.inl ⟨hs,hp⟩)
   |some c=>
    obtain⟨L1,H1,k1,e1,q1,q2,q3,_,q5⟩:=h.put w.set w.path c (.inl ⟨hs,hp⟩) (hc c hb);exact⟨L1,H1,k1,e1,q1,q2,q3,q5⟩
  obtain⟨L1,H1,k1,e1,q1,q2,q3,q4⟩:=one
  by_cases he:e1=0
  .obtain⟨L2,H2,k2,e2,r1,r2,r3,r4⟩:=j4.all r q1 λw' hw'=>hw w' (ah3 _ hw')
   refine⟨L2,H2,k1+k2,e2,r1,by omega,by rw[List.length_cons];push_cast;omega,λa=>?_⟩;unfold DS.ft;rw[q4 a,χ (by simpa [mC] using he),r4,Int.add_assoc]
  .refine⟨L1,H1,k1,e1,q1,q2,by rw[List.length_cons];push_cast;omega,λa=>?_⟩
   unfold DS.ft;rw[q4 a,ζ (by simpa [mC] using he)]
theorem j4.writes (h:j4 L n Q H)(a:Int){ss:List (List Γ×Nat)}(hss:fg ss):∀w∈bB (DS.calm L a) n ss,(w.set<=2/\w.path∈Q)/\∀c,w.becomes=some c->c.length<=96:=by
 intro w hw;unfold bB at hw;obtain⟨p,hp,hw⟩:=List.mem_flatMap.1 hw;have h2:=(hss p hp).2;have key:∀s:Nat,s<=2->w∈dl (DS.calm L a) n p s->(w.set<=2/\w.path∈Q)/\∀c,w.becomes=some c->c.length<=96:=by
  intro s hs hm;unfold dl at hm;have e1:=Has.content (x:=DS.calm L a) h.has rfl s p.1;have e2:=Has.content (x:=DS.calm L a) h.has rfl p.2 p.1
  by_cases e:(DS.calm L a).content n s (aB p.1)=(DS.calm L a).content n p.2 (aB p.1)
  .rw[χ e] at hm;simp at hm
  .rw[ζ e] at hm
   obtain rfl:=ad2.1 hm;refine⟨⟨hs,?_⟩,λc hc=>kr hc⟩;rw[e1,e2] at e
   by_cases hn:H s p.1=none
   .rcases h.qf.names p.2 p.1 (λq=>e (hn.trans q.symm)) with q|q
    .exact q.2
    .omega
   .rcases h.qf.names s p.1 hn with q|q
    .exact q.2
    .omega
 unfold fv at hw;rcases ag8.1 hw with hw|hw
 .exact key _ (by omega) hw
 .exact key 2 (by omega) hw
theorem j4.ll (h:j4 L n Q H)(a:Int){ss:List (List Γ×Nat)}(hss:fg ss):
  ∃L' H' k e,j4 L' n Q H'/\(0:Int)<=k/\k<=10*(ss.length:Int)+5/\(DS.calm L a).ll n ss=(DS.calm L' (a+k),.int .i64 e):=by
 have hwl:=gy (DS.calm L a) n ss;obtain⟨L1,H1,k1,e1,q1,q2,q3,q4⟩:=j4.all _ h (h.writes a hss);unfold DS.ll;rw[q4 a]
 by_cases he:e1=0
 .rw[χ (by simpa [mC] using he)]
  obtain⟨L2,H2,k2,e2,r1,r2,r3,r4⟩:=q1.remove 3 [] (.inr ⟨rfl,rfl⟩);refine⟨L2,H2,k1+k2,e2,r1,by omega,by omega,?_⟩;have:=r4 (a+k1);rw[<-Int.add_assoc];exact this
 .rw[ζ (by simpa [mC] using he)]
  exact⟨L1,H1,k1,e1,q1,q2,by omega,rfl⟩
theorem j4.sync (h:j4 L n Q H)(a:Int)(h0:0<=a)(h1:a<=900000000):yt (DS.calm L a) n:=by
 refine⟨rfl,λ_=>mR L a 105 h0,λps hP=>?_⟩;have MY:=pS (x:=DS.calm L a) h.has rfl hP;rw[(pK (x:=DS.calm L a) h.has rfl ps).1];have hmem:∀l∈ps,l∈Q:=by
  intro l hl;have h2:=(MY.2 l).1 hl;have key:∀s,s<=2->H s l≠none->l∈Q:=λs hs hn=>by
   rcases h.qf.names s l hn with q|q
   .exact q.2
   .omega
  by_cases e2:H 2 l=none
  .rcases h2 with h2|h2
   .exact key 0 (by omega) λq=>h2 (q.trans e2.symm)
   .exact key 1 (by omega) λq=>h2 (q.trans e2.symm)
  .exact key 2 (by omega) e2
 have hpl:ps.length<=7:=ae3 (pJ ps Q (MY.1.imp λhab e=>by subst e;exact List.lt_irrefl _ hab) hmem) h.qf.len;have hsl:(dW H ps).length<=7:=ae3 (List.length_filterMap_le _ _) hpl;have hok:fg (dW H ps):=by
  intro p hp;unfold dW at hp;obtain⟨l,hl,e⟩:=List.mem_filterMap.1 hp;obtain⟨q,hq,rfl⟩:=τ.1 e;exact⟨h.qf.path _ (hmem l hl),GK hq⟩
 refine⟨hsl,hok,λhb=>?_⟩;have hej:(cy (dW H ps)).length<=63:=by have:=pu (dW H ps) λp hpm=>pd (hok p hpm).1;omega
 obtain⟨L',H',k,e,q1,q2,q3,q4,q5⟩:=h.put 3 [] (cy (dW H ps)) (.inr ⟨rfl,rfl⟩) (by omega);have kE:(DS.calm L a).put n 3 ⟨#[]⟩ (aB (cy (dW H ps)))=(DS.calm L' (a+k),.int .i64 e):=q5 a;unfold DS.begin at hb⊢
 by_cases hf:n6 (DS.calm L a) n (dW H ps) ((aH n:Int)-(taken (DS.calm L a) n).length-1)=false
 .rw[χ hf] at hb
  simp[mC] at hb
 .rw[ζ hf,kE] at hb⊢
  have he:e=0:=by simpa [mC] using hb
  have:=Has.content (x:=DS.calm L' (a+k)) q1.has rfl 3 [];rw[(q4.resolve_right λh=>by omega).1,show eP H 3 [] (some (cy (dW H ps))) 3 []=some (cy (dW H ps)) by unfold eP;rw[χ ⟨rfl,rfl⟩]] at this;exact this
end
end
section
open Go.RowKit Go.Lib
theorem tD {ss:List (List Γ×Nat)}(h:∀j (hj:j+1<ss.length),(ss[j]'(by omega)).1<(ss[j+1]'hj).1):ss.Pairwise λp q=>p.1<q.1:=by
 have key:∀d i (hi:i+d+1<ss.length),(ss[i]'(by omega)).1<(ss[i+d+1]'hi).1:=by
  intro d
  induction d with
  |zero=>exactλi hi=>h i hi
  |succ d ih=>exactλi hi=>List.lt_trans (ih i (by omega)) (h (i+d+1) hi)
 rw[List.pairwise_iff_getElem];intro i j hi hj hij;have:=key (j-i-1) i (by omega);simpa [show i+(j-i-1)+1=j by omega] using this
theorem DE (base:Nat)(v:Φ)(ss:List (List Γ×Nat))(w:Θ)(hv:w.ownsRow base 168 2 v ss.length (b6 ss))(h0:0<ss.length)(hl:ss.length<=54):
  Calls Tryz.prog 141 #[v] w λe w'=>(∃b,e= .returned (.bool b)/\(b=true->ss.Pairwise λp q=>p.1<q.1))/\aO [] w w':=by
 obtain⟨ad,cap,hv'⟩:=bM hv;subst hv';obtain⟨g,cur,rfl,hg,hle,_,hcs,htk⟩:=dL hv;have hcell:∀k (hk:k<ss.length),cur[k*2]? =some (.string (aB ss[k].1)):=λk hk=>by
  have h1:=rI ss k hk;rw[<-htk,ah8 (by omega)] at h1;simpa using h1
 go_enter Tryz.func141,Tryz.ntmps141;go_wp2_with fail
 go_loopw [7] (λc wr=>∃k:Nat,c= .int .i64 k/\k+1<=ss.length/\aO [] w wr/\Hid (∀j (hj:j+1<ss.length),j<k->(ss[j]'(by omega)).1<(ss[j+1]'hj).1)) (λc _=>ss.length-(intOf c).toNat)
 case atStart=>exact⟨0,rfl,by omega,aO.refl _ _,λj hj h=>by omega⟩
 case round=>
  obtain⟨k,rfl,hk,fk,HK⟩:=hrel
  by_cases hlt:k+1<ss.length
  .have hgr:=fk.row (b:=g) hg (by simp)
   have c1:wr.cell? ⟨g,k*2,none⟩=some (.string (aB (ss[k]'(by omega)).1)):=by rw[hgr.cell];exact hcell k (by omega)
   have c2:wr.cell? ⟨g,(k+1)*2,none⟩=some (.string (aB (ss[k+1]'hlt).1)):=by rw[hgr.cell];exact hcell (k+1) hlt
   obtain⟨bb,ads⟩:∃bb,bb=decide ((ss[k]'(by omega)).1<(ss[k+1]'hlt).1):=⟨_,rfl⟩
   have hbb:Hid (bb=decide ((ss[k]'(by omega)).1<(ss[k+1]'hlt).1)):=ads;clear ads;have HL:Hid (bb=true->∀j (hj:j+1<ss.length),j<k+1->(ss[j]'(by omega)).1<(ss[j+1]'hj).1):=λh j hj hjk=>by
    rcases Nat.lt_succ_iff_lt_or_eq.1 hjk with h'|rfl
    .exact HK.out j hj h'
    .rw[hbb.out] at h;exact of_decide_eq_true h
   generalize (ss[k]'(by omega)).1=p1 at*;generalize (ss[k+1]'hlt).1=p2 at*;go_wp2_with fail;have fin:∀(Z:List (Nat×Φ)),True:=λ_=>trivial
   refine fE ?_;refine aQ rfl (some 10) rfl (.slice (some ⟨g,0,none⟩) ss.length cap) (λw' hw'=>by go_simp) ?_;simp only[Act.put,bm,bn,bk];refine aQ rfl (some 11) rfl (.int .i64 k) (λw' hw'=>by go_simp) ?_;simp only[Act.put,bm,bn,bk]
   refine aQ rfl (some 12) rfl (.pointer (some ⟨g,k*2,none⟩)) (λw' hw'=>by go_simp;intro hh;omega) ?_;simp only[Act.put,bm,bn,bk];refine aQ rfl (some 13) rfl (.pointer (some ⟨g,k*2,none⟩)) (λw' hw'=>by go_simp) ?_;simp only[Act.put,bm,bn,bk];refine aQ rfl (some 14) rfl (.string (aB p1)) (λw' hw'=>by have cc:=hw'.Ig c1 (by simp);go_simp) ?_
   simp only[Act.put,bm,bn,bk];refine aQ rfl (some 15) rfl (.slice (some ⟨g,0,none⟩) ss.length cap) (λw' hw'=>by go_simp) ?_;simp only[Act.put,bm,bn,bk];refine aQ rfl (some 16) rfl (.int .i64 k) (λw' hw'=>by go_simp) ?_;simp only[Act.put,bm,bn,bk];refine aQ rfl (some 17) rfl (.int .i64 (k+1:Nat)) (λw' hw'=>by go_simp;rw[IntKind.wrap_i64];omega) ?_
   simp only[Act.put,bm,bn,bk];refine aQ rfl (some 18) rfl (.pointer (some ⟨g,(k+1)*2,none⟩)) (λw' hw'=>by go_simp;intro hh;have:=hh (by omega);omega) ?_;simp only[Act.put,bm,bn,bk];refine aQ rfl (some 19) rfl (.pointer (some ⟨g,(k+1)*2,none⟩)) (λw' hw'=>by go_simp) ?_;simp only[Act.put,bm,bn,bk]
   refine aQ rfl (some 20) rfl (.string (aB p2)) (λw' hw'=>by have cc:=hw'.Ig c2 (by simp);go_simp) ?_;simp only[Act.put,bm,bn,bk];refine aQ rfl (some 21) rfl (.bool (!bb)) (λw' hw'=>by go_simp;rw[bytesLess_eq,Lib.toList_data,Lib.toList_data,hbb.out,Bool.eq_iff_iff];simp[aB];exact⟨of_decide_eq_true,decide_eq_true⟩) ?_;simp only[Act.put,bm,bn,bk];intro w2 f2
   have RI:=fk.trans f2;cases bb with
   |true=>
    go_wp2_with fail
    go_roundw
    case rel=>exact⟨k+1,by go_num,by omega,RI,HL.out rfl⟩
    case measure=>simp[intOf];omega
   |false=>
    go_wp2_with fail;go_ret;exact⟨⟨_,rfl,λh=>by cases h⟩,RI⟩
  .go_wp2_with fail
   go_ret;exact⟨⟨true,rfl,λ_=>tD λj hj=>HK.out j hj (by omega)⟩,fk⟩
section
variable {P:ω}
theorem G9 (w:Θ)(b:Nat)(s:Ξ)(pos:Nat)(ty:η)(hb:w.heap[b]? =some (.stringIter s pos))(h:pos<s.size):
  (Instr.next (.pointer (some ⟨b,0,none⟩)) true ty).run P w= .ok (.tuple #[.bool true,.int .i64 pos,.int .i32 (Utf8.decode s pos).1]) {w with heap:=w.heap.setIfInBounds b (.stringIter s (pos+(Utf8.decode s pos).2))}:=by
 simp only[Instr.next,getObj,setObj,Sem.run_bind,Sem.run,hb,Result.andThen,h,if_true];simp[goInt]
theorem Dj (w:Θ)(b:Nat)(s:Ξ)(pos:Nat)(ty:η)(hb:w.heap[b]? =some (.stringIter s pos))(h:¬pos<s.size):
  (Instr.next (.pointer (some ⟨b,0,none⟩)) true ty).run P w= .ok (.tuple #[.bool false]) w:=by
 simp[Instr.next,getObj,Sem.run,hb,h]
variable {ops:Array Oper}{Q:Exit->Act->Θ->Prop}{a:Act}{w:Θ}{rest:List Oper}{o:Oper}
theorem je {x:aa8}(_:o.op= .next x true)(h:ai (wpList P ops Q (o::rest) a w)):wpList P ops Q (o::rest) a w:=h
end
theorem DP (w:Θ)(s:Ξ)(p:Nat):aO [] w (w.iter s p):=aO.alloc _ _ _
theorem DO {w wr:Θ}(f:aO [] w wr)(b:Nat)(hb:w.heap.size<=b)(o:Obj):aO [] w {wr with heap:=wr.heap.setIfInBounds b o}:=by
 refine⟨f.os,f.tape,f.output,by simpa using f.size,λk hk hS=>?_⟩;show(wr.heap.setIfInBounds b o)[k]? =_;rw[aa6 (by omega)];exact f.block k hk hS
def LR:Ξ:=⟨#[76,82]⟩
theorem RS {r:Int}(h0:128<=r)(hv:Lib.validRune r=true):(∃b c:Γ,Utf8.encode r=⟨#[b,c]⟩/\128<=c.toNat)\/3<=(Utf8.encode r).size/\(Utf8.encode r).size<=4:=by
 have hv':Utf8.valid r=true:=by
  unfold Lib.validRune at hv;unfold Utf8.valid;have:=of_decide_eq_true hv;simp only[ag9,ξ,ai1];omega
 unfold Utf8.encode;simp only[hv',if_true]
 by_cases h1:r.toNat<0x80
 .omega
 .rw[ζ h1]
  by_cases h2:r.toNat<0x800
  .rw[χ h2]
   refine .inl ⟨_,_,rfl,?_⟩;simp;omega
  .rw[ζ h2]
   right
   by_cases h3:r.toNat<0x10000
   .rw[χ h3];exact⟨φ 3,(by omega:(3:Nat)<=4)⟩
   .rw[ζ h3];exact⟨(by omega:(3:Nat)<=4),φ 4⟩
theorem V4 (r:Int)(w:Θ)(h0:0<=r)(h1:r<=2147483647):
  Calls Tryz.prog 181 #[.string LR,.int .i32 r] w λe w'=>∃m:Int,e= .returned (.int .i64 m)/\aO [] w w':=by
 by_cases ha:r<128
 .refine(Tryz.strings_IndexRune_ascii LR r w h0 ha).mono ?_
  rintro e w' ⟨rfl,rfl⟩;exact⟨_,rfl,aO.refl _ _⟩
 .by_cases he:r=65533
  .subst he
   go_enter Tryz.func181,Tryz.ntmps181;go_wp2_with (with_reducible first|refine je rfl ?_)
   go_loopw [5,6] (λ_ _ wr=>∃i,wr.heap[w.heap.size]? =some (.stringIter LR i)/\i<=2/\aO [] w wr) (λ_ _ wr=>2-wr.iterPos w.heap.size)
   case atStart=>exact⟨0,World.iter_heap _ _ _,by omega,DP _ _ _⟩
   case round=>
    obtain⟨i,hi,hi2,fi⟩:=hrel
    by_cases hlt:i<2
    .have hnx:=λty=>G9 (P:=Tryz.prog) wr w.heap.size LR i ty hi hlt
     have hdec:Utf8.decode LR i=(if i=0 then 76 else 82,1):=by
      rcases(by omega:i=0\/i=1) with rfl|rfl<;>rfl
     rw[hdec] at hnx;have fi2:=DO fi w.heap.size (φ _) (.stringIter LR (i+1));have hi3:({wr with heap:=wr.heap.setIfInBounds w.heap.size (.stringIter LR (i+1))}:Θ).heap[w.heap.size]? =some (.stringIter LR (i+1)):=by
      show(wr.heap.setIfInBounds w.heap.size _)[w.heap.size]? =_;have:w.heap.size<wr.heap.size:=by
       rcases Ψ.1 hi with⟨h,_⟩;exact h
      simp[Array.getElem?_setIfInBounds_self,this]
     have hme:2-({wr with heap:=wr.heap.setIfInBounds w.heap.size (.stringIter LR (i+1))}:Θ).iterPos w.heap.size<2-wr.iterPos w.heap.size:=by
      unfold World.iterPos;rw[hi3,hi];simp only;omega
     generalize ({wr with heap:=wr.heap.setIfInBounds w.heap.size (.stringIter LR (i+1))}:Θ)=w2 at*;have hne:((((if i=0 then 76 else 82:Nat)):Int)==65533)=false:=by
      rcases(by omega:i=0\/i=1) with rfl|rfl<;>rfl
     generalize (if i=0 then 76 else 82:Nat)=cc at*;have ZF:Hid (∀ty,(Instr.next (.pointer (some ⟨w.heap.size,0,none⟩)) true ty).run Tryz.prog wr= .ok (.tuple #[.bool true,.int .i64 i,.int .i32 cc]) w2):=hnx;clear hnx hdec;go_wp2_with (with_reducible first|refine je rfl ?_);refine ai.go (bN rfl (.tuple #[.bool true,.int .i64 i,.int .i32 cc]) w2 (by go_simp;rw[ZF.out];rfl) ?_)
     go_wp2_with fail
     go_roundw
     case rel=>exact⟨i+1,hi3,by omega,fi2⟩
     case measure=>exact hme
    .have hnx:=λty=>Dj (P:=Tryz.prog) wr w.heap.size LR i ty hi hlt
     have ZF:Hid (∀ty,(Instr.next (.pointer (some ⟨w.heap.size,0,none⟩)) true ty).run Tryz.prog wr= .ok (.tuple #[.bool false]) wr):=hnx;clear hnx;go_wp2_with (with_reducible first|refine je rfl ?_);refine ai.go (bN rfl (.tuple #[.bool false]) wr (by go_simp;rw[ZF.out];rfl) ?_);go_wp2_with fail;go_ret;exact⟨_,rfl,fi⟩
  .have he':(r==65533)=false:=by simpa using he
   cases hv:Lib.validRune r with
   |false=>
    go_enter Tryz.func181,Tryz.ntmps181;go_wp2_with fail;refine(Tryz.utf8_ValidRune r w).mono ?_;rintro e w1 ⟨rfl,rfl⟩;rw[hv];go_wp2_with fail;go_ret;exact⟨_,rfl,aO.refl _ _⟩
   |true=>
    have henc:=RS (by omega) hv;have HV:Hid (Lib.validRune r=true):=hv;clear hv;go_enter Tryz.func181,Tryz.ntmps181;go_wp2_with (with_reducible first|refine fy rfl ?_);refine(Tryz.utf8_ValidRune r w).mono ?_;rintro e w1 ⟨rfl,rfl⟩;rw[HV.out];go_wp2_with (with_reducible first|refine fy rfl ?_)
    go_step3
    go_wp2_with (with_reducible first|refine fy rfl ?_);refine ai.go (bN rfl (.string (Utf8.encode r)) w1 (by kernel_rfl) ?_);generalize Utf8.encode r=rs at*;rcases henc with⟨b,c,rfl,hc⟩|⟨hlo,hhi⟩
    .have e2:(⟨#[b,c]⟩:Ξ).size=2:=rfl
     have hne:(82==(c.toNat:Int))=false:=by simp;omega
     go_wp2_with fail
     go_loopw [9] (λc' wr=>c'= .int .i64 1/\wr=w1) (λ_ _=>0)
     case atStart=>exact⟨rfl,rfl⟩
     case round=>
      obtain⟨rfl,rfl⟩:=hrel;have q0:(1:Int)<((⟨#[76,82]⟩:Ξ).size:Int):=by decide
      have q1:(1:Int)<((⟨#[b,c]⟩:Ξ).size:Int):=by rw[e2];decide
      have hib:Lib.indexByte [] c=-1:=rfl;go_wp2_with fail
      go_step3
      go_wp2_with fail;refine fE ?_;refine aQ rfl (some 27) rfl (.string LR) (λw' hw'=>by go_simp) ?_;simp only[Act.put,bm,bn,bk];refine aQ rfl (some 28) rfl (.int .i64 1) (λw' hw'=>by go_simp) ?_;simp only[Act.put,bm,bn,bk];refine aQ rfl (some 29) rfl (.int .u8 82) (λw' hw'=>by kernel_rfl) ?_
      simp only[Act.put,bm,bn,bk];refine aQ rfl (some 30) rfl (.string ⟨#[b,c]⟩) (λw' hw'=>by go_simp) ?_;simp only[Act.put,bm,bn,bk];refine aQ rfl (some 31) rfl (.int .i64 1) (λw' hw'=>by go_simp) ?_;simp only[Act.put,bm,bn,bk];refine aQ rfl (some 32) rfl (.int .u8 c.toNat) (λw' hw'=>by kernel_rfl) ?_;simp only[Act.put,bm,bn,bk]
      refine aQ rfl (some 33) rfl (.bool true) (λw' hw'=>by go_simp;omega) ?_;simp only[Act.put,bm,bn,bk];intro w2 f2;go_wp2_with fail;refine fE ?_;refine aQ rfl (some 34) rfl (.string LR) (λw' hw'=>by go_simp) ?_;simp only[Act.put,bm,bn,bk];refine aQ rfl (some 35) rfl (.int .i64 1) (λw' hw'=>by go_simp) ?_
      simp only[Act.put,bm,bn,bk];refine aQ rfl (some 36) rfl (.int .i64 2) (λw' hw'=>by kernel_rfl) ?_;simp only[Act.put,bm,bn,bk];refine aQ rfl (some 37) rfl (.string ⟨#[]⟩) (λw' hw'=>by kernel_rfl) ?_;simp only[Act.put,bm,bn,bk];refine aQ rfl (some 38) rfl (.string ⟨#[b,c]⟩) (λw' hw'=>by go_simp) ?_;simp only[Act.put,bm,bn,bk]
      refine aQ rfl (some 39) rfl (.int .i64 1) (λw' hw'=>by go_simp) ?_;simp only[Act.put,bm,bn,bk];refine aQ rfl (some 40) rfl (.int .u8 c.toNat) (λw' hw'=>by kernel_rfl) ?_;simp only[Act.put,bm,bn,bk];refine jz rfl (some 41) rfl 139 #[.string ⟨#[]⟩,.int .u8 c.toNat] (.int .i64 (-1)) (λ_ _=>by go_simp) (λw' hw'=>?_) ?_
      .refine(Tryz.strings_IndexByte ⟨#[]⟩ c.toNat w').mono ?_
       rintro e w1 ⟨rfl,rfl⟩;exact⟨rfl,hw'⟩
      simp only[Act.put,bm,bn,bk];refine aQ rfl (some 11) rfl (.int .i64 (-1)) (λw' hw'=>by go_simp) ?_;simp only[Act.put,bm,bn,bk];intro w3 f3;go_wp2_with fail;rw[Exit.noGoto_ret];simp(config:={zetaDelta:=true}) only[Exit.inBlock,Exit.then,Exit.noGoto_ret];go_ret;exact⟨_,rfl,f2.trans f3⟩
    .go_wp2_with fail
     go_loopw [9] (λc' wr=>c'= .int .i64 ((rs.size:Int)-1)/\wr=w1) (λ_ _=>0)
     case atStart=>exact⟨rfl,rfl⟩
     case round=>
      obtain⟨rfl,rfl⟩:=hrel;have hn:¬((rs.size:Int)-1<2):=by omega
      go_wp2_with fail;go_ret;exact⟨_,rfl,aO.refl _ _⟩
theorem aeI (s:Ξ)(w:Θ)(hs:s.size<=1000):
  Calls Tryz.prog 140 #[.string s,.string ⟨#[76,82]⟩] w λe w'=>∃m:Int,e= .returned (.int .i64 m)/\-1<=m/\m<=s.size/\aO [] w w':=by
 by_cases h8:8<s.size
 .refine(Tryz.strings_IndexAny_long (zero_of_info (n:=256) (by kernel_rfl)).1 s ⟨#[76,82]⟩ w (by decide) h8 (by omega) (by decide) (λj b hj=>by
   have:b∈([76,82]:List Γ):=af7 hj;simp at this;rcases this with rfl|rfl<;>decide)).mono ?_
  rintro e w' ⟨rfl,rfl⟩;have h1:=Lib.indexAny_ge [76,82] s.data.toList;have h2:Lib.indexAny s.data.toList [76,82]<=s.data.toList.length:=by
   generalize s.data.toList=l
   induction l with
   |nil=>simp[Lib.indexAny]
   |cons a l ih=>
    simp only[Lib.indexAny,List.length_cons]
    push_cast
    repeat' split
    all_goals omega
  exact⟨_,rfl,h1,by rw[Lib.size_eq];exact h2,(aO.alloc [] _ _).trans (aO.alloc [] _ _)⟩
 .have h8z:decide ((8:Int)<(s.size:Int))=false:=decide_eq_false (by omega)
  go_enter Tryz.func140,Tryz.ntmps140;go_wp2_with (with_reducible first|refine je rfl ?_);refine(Tryz.strings_shouldUseASCIISet s.size w).mono ?_;rintro e w1 ⟨rfl,rfl⟩;rw[h8z];go_wp2_with (with_reducible first|refine je rfl ?_)
  go_loopw [9,10] (λ_ _ wr=>∃i,wr.heap[w1.heap.size]? =some (.stringIter s i)/\aO [] w1 wr) (λ_ _ wr=>s.size-wr.iterPos w1.heap.size)
  case atStart=>exact⟨0,World.iter_heap _ _ _,DP _ _ _⟩
  case round=>
   obtain⟨i,hi,fi⟩:=hrel
   by_cases hlt:i<s.size
   .have hnx:=λty=>G9 (P:=Tryz.prog) wr w1.heap.size s i ty hi hlt
    obtain⟨cc,dd,hdec⟩:∃cc dd,Utf8.decode s i=(cc,dd):=⟨_,_,rfl⟩
    have hle:cc<=2147483647:=by have:=decode_le s i;rw[hdec] at this;exact this
    have hdd:1<=dd:=by
     by_cases ha:(s[i]'hlt).toNat<128
     .have:=decode_ascii s i hlt ha;rw[hdec] at this;cases this;omega
     .have:=(decode_high s i hlt (by omega)).2;rw[hdec] at this;exact this
    rw[hdec] at hnx;have fi2:=DO fi w1.heap.size (φ _) (.stringIter s (i+dd));have hi3:({wr with heap:=wr.heap.setIfInBounds w1.heap.size (.stringIter s (i+dd))}:Θ).heap[w1.heap.size]? =some (.stringIter s (i+dd)):=by
     show(wr.heap.setIfInBounds w1.heap.size _)[w1.heap.size]? =_;have:w1.heap.size<wr.heap.size:=by
      rcases Ψ.1 hi with⟨h,_⟩;exact h
     simp[Array.getElem?_setIfInBounds_self,this]
    have hold:wr.iterPos w1.heap.size=i:=by unfold World.iterPos;rw[hi]
    generalize ({wr with heap:=wr.heap.setIfInBounds w1.heap.size (.stringIter s (i+dd))}:Θ)=w2 at*;have ZF:Hid (∀ty,(Instr.next (.pointer (some ⟨w1.heap.size,0,none⟩)) true ty).run Tryz.prog wr= .ok (.tuple #[.bool true,.int .i64 i,.int .i32 cc]) w2):=hnx;have hb2:w1.heap.size<w2.heap.size:=by
     rcases Ψ.1 hi3 with⟨h,_⟩;exact h
    clear hnx hdec hi;go_wp2_with (with_reducible first|refine je rfl ?_);refine ai.go (bN rfl (.tuple #[.bool true,.int .i64 i,.int .i32 cc]) w2 (by go_simp;rw[ZF.out];rfl) ?_);go_wp2_with fail;refine(V4 cc w2 (by omega) (by omega)).mono ?_;rintro e w3 ⟨m,rfl,f3⟩;have hi4:w3.heap[w1.heap.size]? =some (.stringIter s (i+dd)):=(f3.block _ hb2 (by simp)).trans hi3
    have fi4:=fi2.trans f3;have hnew:w3.iterPos w1.heap.size=i+dd:=by unfold World.iterPos;rw[hi4]
    clear hi3 fi2 f3 hb2
    by_cases hm:0<=m
    .go_wp2_with fail
     go_ret;exact⟨_,rfl,by omega,by omega,fi4⟩
    .go_wp2_with fail
     go_roundw
     case rel=>exact⟨i+dd,hi4,fi4⟩
     case measure=>rw[hold,hnew];omega
   .have hnx:=λty=>Dj (P:=Tryz.prog) wr w1.heap.size s i ty hi hlt
    have ZF:Hid (∀ty,(Instr.next (.pointer (some ⟨w1.heap.size,0,none⟩)) true ty).run Tryz.prog wr= .ok (.tuple #[.bool false]) wr):=hnx;clear hnx;go_wp2_with (with_reducible first|refine je rfl ?_);refine ai.go (bN rfl (.tuple #[.bool false]) wr (by go_simp;rw[ZF.out];rfl) ?_);go_wp2_with fail;go_ret;exact⟨_,rfl,by omega,by omega,fi⟩
theorem Jz (c:Γ):(Lib.indexByte [76,82] c=-1)\/(Lib.indexByte [76,82] c=0/\c=Oc 0)\/(Lib.indexByte [76,82] c=1/\c=Oc 1):=by
 by_cases h0:c=76
 .subst h0;right;left;decide
 .by_cases h1:c=82
  .subst h1;right;right;decide
  .left
   have g0:(76:Γ)≠c:=λe=>h0 e.symm
   have g1:(82:Γ)≠c:=λe=>h1 e.symm
   simp[Lib.indexByte,h0,h1,g0,g1]
theorem A5 {ss:List (List Γ×Nat)}(h:fg ss){p:List Γ}{s:Nat}(hp:bQ p=true)(hs:s<=1):fg (ss++[(p,s)]):=by
 intro q hq;rcases ag8.1 hq with hq|hq
 .exact h q hq
 .obtain rfl:=ad2.1 hq
  exact⟨hp,hs⟩
theorem J0 (ss:List (List Γ×Nat))(p:List Γ)(s:Nat)(r:List Γ):cy (ss++[(p,s)])++r=cy ss++(Oc s::(p++r)):=by
 simp[cy,Oc]
theorem L4 {p:List Γ}(h:bQ p=true):1<=p.length:=by
 unfold bQ at h;simp only[ξ] at h;simpa using h.1.1
theorem Dz (c:List Γ)(w:Θ)(hc:c.length<=96):
  Calls Tryz.prog 94 #[.string (aB c)] w λe w'=>∃u g ss,e= .returned (.tuple #[u,.bool g])/\w'.ownsRow w.heap.size 168 2 u ss.length (b6 ss)/\aO [] w w'/\ss.length<=48/\fg ss/\
   (g=true->c=cy ss/\0<ss.length/\ss.Pairwise λp q=>p.1<q.1):=by
 go_enter Tryz.func94,Tryz.ntmps94;go_wp2_with fail
 go_loopw [4,5] (λu t wr=>∃(ss:List (List Γ×Nat)) (r:List Γ),t= .string (aB r)/\Hid (c=cy ss++r)/\Hid (fg ss)/\2*ss.length+r.length<=96/\aO [] w wr/\wr.ownsRow w.heap.size 168 2 u ss.length (b6 ss)) (λ_ t _=>match t with|.string s=>s.size|_=>0)
 case atStart=>exact⟨[],c,rfl,(by simp[cy]:c=cy []++c),(λp hp=>by simp at hp),by simpa using hc,aO.refl _ _,World.ownsRow_nil _ _ _ _⟩
 case round=>
  obtain⟨ss,r,rfl,HC,HO,hlen,fk,ho⟩:=hrel;cases r with
  |nil=>
   have e0:aB []=⟨#[]⟩:=rfl;rw[e0];obtain⟨ad4,cap4,hu4⟩:=bM ho;subst hu4;have ac7:ss.length<=48:=by simp at hlen;omega
   have HC':Hid (c=cy ss):=HC.out.trans (by simp)
   by_cases h0:0<ss.length
   .go_wp2_with fail
    refine(DE w.heap.size _ ss wr ho h0 (by omega)).mono ?_;rintro e w2 ⟨⟨b,rfl,hb⟩,f2⟩;have HB:Hid (b=true->ss.Pairwise λp q=>p.1<q.1):=hb;clear hb;go_wp2_with fail
    go_ret2
    exact⟨_,b,ss,rfl,f2.owns ho,fk.trans f2,ac7,HO.out,λhb=>⟨HC'.out,h0,HB.out hb⟩⟩
   .go_wp2_with fail
    go_ret2
    exact⟨_,false,ss,rfl,ho,fk,ac7,HO.out,λhb=>by cases hb⟩
  |cons c0 r=>
   obtain⟨sv,hsv⟩:∃sv,Lib.indexByte [76,82] c0=sv:=⟨_,rfl⟩
   have hlet:=Jz c0;rw[hsv] at hlet;have HSV:Hid (Lib.indexByte [76,82] c0=sv):=hsv;clear hsv;rw[List.length_cons] at hlen;go_wp2_with (with_reducible first|refine dn 9 rfl ?_|refine jf rfl ?_|refine cU rfl ?_);refine ai.go (bN rfl (.bool true) wr (by go_simp;simp[aB]) ?_)
   go_wp2_with (with_reducible first|refine dn 9 rfl ?_|refine jf rfl ?_|refine cU rfl ?_);refine ai.go (bN rfl (.int .u8 c0.toNat) wr (by kernel_rfl) ?_);go_wp2_with (with_reducible first|refine dn 9 rfl ?_|refine cU rfl ?_);refine(Tryz.strings_IndexByte ⟨#[76,82]⟩ c0.toNat wr).mono ?_;rintro e w1 ⟨rfl,rfl⟩
   rw[show Lib.indexByte (⟨#[76,82]⟩:Ξ).data.toList (c0.toNat:Int).toNat.toUInt8=sv by simpa using HSV.out];go_wp2_with (with_reducible first|refine dn 9 rfl ?_|refine cU rfl ?_);refine ai.go (bN rfl (.string (aB r)) w1 (by go_simp;rw[χ (by rw[cE];simp;omega),gU,cE,θ (φ _)];rfl) ?_)
   go_wp2_with (with_reducible first|refine dn 9 rfl ?_|refine cU rfl ?_);refine(aeI (aB r) w1 (by rw[cE];omega)).mono ?_;rintro e w2 ⟨m,rfl,hm0,hm1,f2⟩;rw[cE] at hm1;have RI:=fk.trans f2;have ho2:=f2.owns ho;clear fk ho f2 HSV
   have cut:∃p1 r',Hid (r=p1++r')/\(m<0/\p1=r\/∃k:Nat,m=k/\k<=r.length/\p1=r.take k):=by
    by_cases hm:m<0
    .exact⟨r,[],(by simp:r=r++[]),.inl ⟨hm,rfl⟩⟩
    .exact⟨r.take m.toNat,r.drop m.toNat,(List.take_append_drop _ _).symm,.inr ⟨m.toNat,by omega,by omega,rfl⟩⟩
   obtain⟨p1,r',HR,hcut⟩:=cut;have HX:Hid ((aB (c0::r)).extract (1+(p1.length:Int)).toNat (aB (c0::r)).size=aB r'):=by
    have:=x4 c0 p1 r';rw[<-HR.out] at this;exact this
   have hpl:p1.length+r'.length=r.length:=by rw[HR.out,af1]
   have hps:(aB p1).size<=9223372036854775807:=by
    rw[cE];omega
   have ac6:sv=-1\/∃sd:Nat,sd<=1/\sv=sd/\c0=Oc sd:=by
    rcases hlet with h|⟨h,e⟩|⟨h,e⟩
    .exact .inl h
    .exact .inr ⟨0,by omega,h,e⟩
    .exact .inr ⟨1,by omega,h,e⟩
   clear hlet;rcases ac6 with hl|⟨sd,hsd,rfl,hc0⟩
   .subst hl
    rcases hcut with⟨hm,rfl⟩|⟨k,rfl,hk,rfl⟩
    .go_wp2_with fail
     go_ret2
     exact⟨_,false,[],rfl,World.ownsRow_nil _ _ _ _,RI,by simp,(λp hp=>by simp at hp),λhb=>by cases hb⟩
    .go_wp2_with (with_reducible first|refine cU rfl ?_)
     refine ai.go (bN rfl (.string (aB (r.take k))) w2 (by go_simp;rw[χ (by rw[cE];omega),gU];simp) ?_);go_wp2_with fail
     go_ret2
     exact⟨_,false,[],rfl,World.ownsRow_nil _ _ _ _,RI,by simp,(λp hp=>by simp at hp),λhb=>by cases hb⟩
   .have HC0:Hid (c0=Oc sd):=hc0
    have h48:ss.length<=48:=by omega
    clear hc0;rcases hcut with⟨hm,hp1⟩|⟨k,hmk,hk,hp1⟩
    all_goals
     first
      |(
        subst hmk;go_wp2_with (with_reducible first|refine cU rfl ?_);refine ai.go (bN rfl (.string (aB (r.take k))) w2 (by go_simp;rw[χ (by rw[cE];omega),gU];simp) ?_);rw[<-hp1];clear hp1)
      |(subst hp1)
     go_wp2_with (with_reducible first|refine bq rfl ?_|refine br rfl ?_);refine(ju (aB p1) w2 hps).mono ?_;rintro e w3 ⟨rfl,f3⟩;have JR:=RI.trans f3;have ho3:=f3.owns ho2;clear ho2 f3;cases hpt:bQ (aB p1).data.toList with
     |false=>
      go_wp2_with fail
      go_ret2
      exact⟨_,false,[],rfl,World.ownsRow_nil _ _ _ _,JR,by simp,(λp hp=>by simp at hp),λhb=>by cases hb⟩
     |true=>
      have HP:Hid (bQ p1=true):=by show _=_;simpa [aB] using hpt
      clear hpt;go_wp2_with (with_reducible first|refine bE 168 rfl ?_|refine bq rfl ?_|refine br rfl ?_);refine ai.go (bN rfl (.agg #[.string (aB p1),.int .i64 sd]) w3 (by kernel_rfl) ?_);go_wp2_with (with_reducible first|refine bq rfl ?_|refine br rfl ?_)
      refine ai.go (fj rfl 109 168 2 24 kH _ rfl (.agg #[.string (aB p1),.int .i64 sd]) rfl rfl ?_);intro w8 b8 l8 f8 r8;go_wp2_with (with_reducible first|refine bq rfl ?_|refine br rfl ?_);have qX:=f8.owns ho3;have FS:=JR.trans f8;have hbase:w.heap.size<=w8.heap.size:=FS.size
      refine ai.go (fK rfl 109 168 2 24 kH _ _ rfl w.heap.size u4 _ _ rfl qX b8 1 1 [.string (aB p1),.int .i64 sd] rfl _ _ r8 rfl rfl (by simp[Value.oneCell']) (by omega) (by omega) (by omega) hbase ?_);intro g' cap' w9 BP f9 _;have JQ:=FS.trans f9 (by intro j hj;right;simp at hj;exact(qX.lt j hj).1)
      have XJ:w9.ownsRow w.heap.size 168 2 (.slice (some ⟨g',0,none⟩) (ss.length+1) cap') (ss++[(p1,sd)]).length (b6 (ss++[(p1,sd)])):=by
       rw[m6,af1];exact BP
      clear ho3 qX BP r8 f8 f9 l8 RI JR FS hbase;go_wp2_with (with_reducible first|refine Cg rfl ?_|refine cU rfl ?_);refine ai.go (bN rfl (.int .i64 p1.length) w9 (by kernel_rfl) ?_);have hw1:wrap64 (1+(p1.length:Int))=1+p1.length:=IntWalk.wrap64_in _ (by omega);go_wp2_with (with_reducible first|refine cU rfl ?_)
      refine ai.go (bN rfl (.string (aB r')) w9 (by go_simp;rw[χ (by rw[cE];simp;omega),HX.out]) ?_);go_wp2_with fail
      go_roundw
      case rel=>exact⟨ss++[(p1,sd)],r',rfl,(by show c=_;rw[J0,<-HC0.out,<-HR.out];exact HC.out),A5 HO.out HP.out hsd,by rw[af1];have:=L4 HP.out;simp;omega,JQ,XJ⟩
      case measure=>simp[cE];omega
structure aiI (x:DS)(n:Nat)(ss:List (List Γ×Nat)):Prop where
 text:x.content n 3 ⟨#[]⟩=some (cy ss)
 aa2:0<ss.length
 few:ss.length<=48
 ok:fg ss
 order:ss.Pairwise λp q=>p.1<q.1
def Ue (p:Prop)(e:Ending):Prop:=∃b,e= .returned (.bool b)/\(b=true->p)
def DS.Tv (x:DS)(n:Nat):Prop:=x.pending n=false\/∃ss,aiI x n ss
theorem FA (d bl n:Nat)(vw:Φ)(x:DS)(w:Θ)(h:bv w d bl n vw x):Calls Tryz.prog 106 #[.pointer (some ⟨d,0,none⟩)] w λe w'=>Ue (x.Tv n) e/\aO [] w w':=by
 have hn:aH n<=54:=by unfold aH;have:=h.hi;omega
 have ht:(taken x n).length<=aH n:=ae3 (List.length_filter_le _ _) (by rw[List.length_range];exact φ _);cases hc:x.content n 3 ⟨#[]⟩ with
 |none=>
  have hp:x.pending n=false:=by unfold DS.pending;rw[hc];rfl
  refine(FC d bl n vw x w h hp).mono ?_;rintro e w1 ⟨rfl,f1⟩;exact⟨⟨true,rfl,λ_=> .inl hp⟩,f1⟩
 |some c=>
  have hcl:=kr hc;have HC:Hid (x.content n 3 ⟨#[]⟩=some c):=hc;go_enter Tryz.func106,Tryz.ntmps106;go_wp2_with fail;refine(eS w).mono ?_;rintro e w1 ⟨rfl,f1⟩;have h1:=h.new f1;go_wp2_with fail;refine(mS d bl n vw x 3 ⟨#[]⟩ w1 h1).mono ?_;rintro e w2 ⟨rfl,f2⟩;have h2:=h1.new f2;have fw2:=f1.trans f2;rw[HC.out];clear hc
  simp only[Option.getD_some,Option.isSome_some];go_wp2_with fail;refine(Dz c w2 hcl).mono ?_;rintro e w3 ⟨u,g,ss,rfl,ho3,f3,hl,hok,hg⟩;have HG:Hid (g=true->c=cy ss/\0<ss.length/\ss.Pairwise λp q=>p.1<q.1):=hg;clear hg;have h3:=h2.new f3;have vp:=fw2.trans f3;clear f1 f2 f3 h1 h2 fw2;obtain⟨ad,cap,hu⟩:=bM ho3;subst hu;cases g with
  |false=>
   go_wp2_with fail;go_ret;exact⟨⟨false,rfl,λh=>by cases h⟩,vp⟩
  |true=>
   obtain⟨rfl,h0,hs⟩:=HG.out rfl;go_wp2_with fail;refine(DQ d bl n vw x w3 h3).mono ?_;rintro e w4 ⟨rfl,f4⟩;have h4:=h3.new f4;have XM:=f4.owns ho3;have yB:=vp.trans f4;clear f4 h3 ho3 vp;go_wp2_with fail;refine(DU d bl n vw x _ _ ss ((aH n:Int)-(taken x n).length) w4 h4 XM (by omega) (λp hp=>(hok p hp).2) (by omega) (by omega)).mono ?_
   rintro e w5 ⟨rfl,f5⟩;have po:=yB.trans f5;generalize n6 x n ss _=b;go_wp2_with fail;go_ret;exact⟨⟨b,rfl,λ_=> .inr ⟨ss,HC.out,h0,hl,hok,hs⟩⟩,po⟩
theorem DB (F:List Nat)(s d n:Nat)(x:DS)(w:Θ)(h:aP w F s d n x):Calls Tryz.prog 73 #[.pointer (some ⟨s,0,none⟩)] w λe w'=>Ue (x.mX n=true/\x.Tv n) e/\aO [] w w':=by
 have c0:=h.cell;obtain⟨bl,vw,hd⟩:=h.nF;have HS:Hid (x.mX n=(x.sound n&&decide (jw (aM x n)<=7))):=rfl;have hfl:(aM x n).length<=54:=by unfold aM;rw[ag0];exact eR x n
 go_enter Tryz.func73,Tryz.ntmps73;go_wp2_with fail;refine(IL d bl n vw x w hd).mono ?_;rintro e w1 ⟨rfl,f1⟩;have h1:=h.new f1;have hd1:=hd.new f1;have c0:=h1.cell;cases hs:x.sound n with
 |false=>
  go_wp2_with fail;go_ret;exact⟨⟨false,rfl,λh=>by cases h⟩,f1⟩
 |true=>
  rw[hs] at HS;go_wp2_with fail;refine(vT d bl n vw x w1 hd1).mono ?_;rintro e w2 ⟨v,rfl,hv,f2⟩;go_wp2_with fail;refine(Ak _ v (aM x n) w2 hv (by omega)).mono ?_;rintro e w3 ⟨rfl,f3⟩;have fw:=(f1.trans f2).trans f3;generalize jw (aM x n)=m at*
  by_cases hm:m<=7
  .have HT:Hid (x.mX n=true):=by show _=_;rw[HS.out];simp[hm]
   have hm':(m:Int)<=7:=by omega
   have h3:=h.new fw;have hd3:=hd.new fw;clear c0;have c0:=h3.cell;go_wp2_with fail;refine(FA d bl n vw x w3 hd3).mono ?_;rintro e w4 ⟨⟨b,rfl,hb⟩,f4⟩;have HB:Hid (b=true->x.Tv n):=hb;clear hb;have yB:=fw.trans f4;go_wp2_with fail;go_ret;exact⟨⟨b,rfl,λh=>⟨HT.out,HB.out h⟩⟩,yB⟩
  .have hm':¬(m:Int)<=7:=by omega
   go_wp2_with fail;go_ret;exact⟨⟨false,rfl,λh=>by cases h⟩,fw⟩
def aeR (b:Ξ)(w:Θ)(v:Φ)(w':Θ):Prop:=aO [] w w'/\(v= .tuple #[.pointer none,.int .i64 2]\/
 ∃n s d F,v= .tuple #[.pointer (some ⟨s,0,none⟩),.int .i64 0]/\aP w' F s d n (DS.fresh b.data.toList)/\bZ [] F w/\w.heap.size<=s/\b.size=64*n/\16<=n/\(DS.fresh b.data.toList).mX n=true/\(DS.fresh b.data.toList).Tv n)
theorem Me (b:Ξ)(w:Θ)(hsz:b.size<=9223372036854775807):
  Calls Tryz.prog 38 #[.string b] w λe w'=>∃v,e= .returned v/\aeR b w v w':=by
 by_cases hr:(b.size:Int).tmod 64=0
 .obtain⟨n,hn⟩:∃n:Nat,b.size=64*n:=⟨b.size/64,by
   have:((b.size:Int).tmod 64)=((b.size%64:Nat):Int):=by rw[Int.tmod_eq_emod_of_nonneg (by omega)];omega
   omega⟩
  have hq:(b.size:Int).tdiv 64=n:=by rw[hn];push_cast;exact Int.mul_tdiv_cancel_left _ (by decide)
  go_enter Tryz.func38,Tryz.ntmps38;go_wp2_with fail;refine(xw n w).mono ?_;rintro e w1 ⟨rfl,rfl⟩
  by_cases hin:16<=n/\n<=400
  .have e1:(decide (16<=(n:Int))&&decide ((n:Int)<=400))=true:=by
    rw[decide_eq_true (by omega),decide_eq_true (by omega)];rfl
   rw[e1];go_wp2_with fail;refine(rR b n w1 hn hin.1 hin.2).mono ?_;rintro e w2 ⟨s,d,F,rfl,hs,f2,g2,l2⟩;go_wp2_with fail;refine(DB F s d n _ w2 hs).mono ?_;rintro e w3 ⟨⟨r,rfl,hok⟩,f3⟩;have HK:Hid (r=true->(DS.fresh b.data.toList).mX n=true/\(DS.fresh b.data.toList).Tv n):=hok;have hs3:=hs.new f3;have fw:=f2.trans f3;clear hs f2 f3 hok;cases r with
   |true=>
    go_wp2_with fail
    all_goals
     go_ret2
     exact⟨_,rfl,fw,.inr ⟨n,s,d,F,rfl,hs3,g2,l2,hn,hin.1,HK.out (by simp)⟩⟩
   |false=>
    go_wp2_with fail
    all_goals
     go_ret2
     exact⟨_,rfl,fw,.inl rfl⟩
  .have e1:(decide (16<=(n:Int))&&decide ((n:Int)<=400))=false:=by
    by_cases h16:16<=n
    .rw[decide_eq_false (p:=(n:Int)<=400) (by omega),Bool.and_false]
    .rw[decide_eq_false (p:=16<=(n:Int)) (by omega)];rfl
   rw[e1];go_wp2_with fail
   all_goals
    go_ret2
    exact⟨_,rfl,aO.refl _ _,.inl rfl⟩
 .have hr':((b.size:Int).tmod 64==0)=false:=by simpa using hr
  go_enter Tryz.func38,Tryz.ntmps38;go_wp2_with fail
  all_goals
   go_ret2
   exact⟨_,rfl,aO.refl _ _,.inl rfl⟩
end
section
open Go.RowKit Go.Lib Go.Sort
section
variable {L:List Γ}{n:Nat}{H:bW}{Q:List (List Γ)}
theorem j4.pending (h:j4 L n Q H)(a:Int):(DS.calm L a).pending n=(H 3 []).isSome:=by
 have:=Has.content (x:=DS.calm L a) h.has rfl 3 [];unfold DS.pending;exact congrArg Option.isSome this
structure GA (y:DS)(n:Nat)(Q:List (List Γ))(H:bW)(L:List Γ)(a:Int):Prop where
 eq:y=DS.calm L a
 fine:j4 L n Q H
 lo:0<=a
 hi:a<=1000
 Tv:y.Tv n
def vk:Ξ:=⟨#[110,101,119]⟩
theorem Md (hl:L.length=64*n)(h16:16<=n)(hok:(DS.fresh L).mX n=true)(hj:(DS.fresh L).Tv n):
  ∃Q H L1 a1,GA ((DS.fresh L).mF n 1 ⟨#[98]⟩ vk).1 n Q H L1 a1:=by
 have hok':=hok;unfold DS.mX at hok;simp only[ξ,ai1] at hok;have hr:=AS (x:=DS.fresh L) hl h16 rfl hok.1;generalize slotsOf (DS.fresh L) n=m at hr;have hm:=Bs m;have X2:Has L n (FV m):=⟨m,hr,hm⟩
 generalize FV m=H at hm X2;have q0:=S9 hr rfl hm [] (by simp) (by simpa using hok.2);have f0:j4 L n _ H:=⟨X2,q0⟩
 have stay:∃Q H L1 a1,GA (DS.fresh L) n Q H L1 a1:=⟨_,H,L,0,rfl,f0,by omega,by omega,hj⟩
 unfold DS.mF;rw[ζ (by simp[DS.fresh])]
 by_cases hp:(DS.fresh L).pending n=true
 .rw[χ hp]
  exact stay
 .rw[ζ hp]
  by_cases hc:7<jw (aM (DS.fresh L) n++[⟨1,[98],vk.data.toList⟩])
  .rw[χ hc]
   exact stay
  .rw[ζ hc]
   have q1:=S9 hr rfl hm [⟨1,[98],vk.data.toList⟩] (λf hf=>by rw[ad2.1 hf];exact⟨by decide,by decide⟩) (by omega);have f1:j4 L n _ H:=⟨X2,q1⟩
   obtain⟨L',H',k,e,p1,p2,p3,p4,p5⟩:=f1.put 1 [98] vk.data.toList (.inl ⟨by omega,pk.2 ⟨_,List.mem_append_right _ (ad2.2 rfl),by decide,rfl⟩⟩) (by decide);have e5:(DS.fresh L).put n 1 ⟨#[98]⟩ vk=(DS.calm L' (0+k),.int .i64 e):=p5 0;rw[e5];refine⟨_,H',L',0+k,rfl,p1,by omega,by omega,.inl ?_⟩;have h0:=f0.pending 0;have h3:H 3 []=none:=by
    cases hh:H 3 [] with
    |none=>rfl
    |some c=>rw[hh] at h0;exact absurd h0 hp
   show(DS.calm L' (0+k)).pending n=false;rw[p1.pending];rcases p4 with⟨rfl,_⟩|⟨rfl,_⟩
   .rw[show eP H 1 [98] (some vk.data.toList) 3 []=H 3 [] by unfold eP;rw[ζ (by simp)],h3];rfl
   .rw[h3];rfl
theorem A3 {y:DS}{a:Int}(h:GA y n Q H L a)(F:List Nat)(s d:Nat)(w:Θ)(hS:aP w F s d n y):
  Calls Tryz.prog 32 #[.pointer (some ⟨s,0,none⟩)] w λe w'=>∃v F' L2 a2 H2,e= .returned v/\aP w' F' s d n (DS.calm L2 a2)/\j4 L2 n Q H2/\0<=a2/\a2<=2000/\bZ F F' w/\aO F w w':=by
 obtain⟨rfl,hf,h0,h1,hj⟩:=h;rcases hj with hp|⟨ss,hj⟩
 .refine(AU F s d n _ w hS rfl hp).mono ?_
  rintro e w' ⟨rfl,f⟩;exact⟨_,F,L,a,H,rfl,hS.new f,hf,h0,by omega,bZ.refl _ _,f.mono⟩
 .have hp:(DS.calm L a).pending n=true:=by unfold DS.pending;rw[hj.text];rfl
  obtain⟨L2,H2,k,e2,q1,q2,q3,q4⟩:=hf.ll a hj.ok;refine(C3 48 (by omega) F s d n _ ss w hS rfl hp (mR _ _ _ h0) (by show 0<55;omega) hj.text hj.aa2 hj.few hj.ok hj.order).mono ?_;rintro e w' ⟨rfl,F',h1',g1,f1⟩;rw[q4] at h1'⊢;have:=hj.few;exact⟨_,F',L2,a+k,H2,rfl,h1',q1,by omega,by omega,g1,f1⟩
end
end
section
open Go.RowKit Go.Lib
section
variable (w:Θ)
theorem nn:Calls Tryz.prog 44 #[.pointer none] w λe w'=>e= .returned (.bool true)/\w'=w:=by
 go_enter Tryz.func44,Tryz.ntmps44;go_wp2_with fail;go_ret;exact⟨rfl,rfl⟩
theorem xx:Calls Tryz.prog 46 #[.pointer none] w λe w'=>e= .returned (.bool true)/\w'=w:=by
 go_enter Tryz.func46,Tryz.ntmps46;go_wp2_with fail;refine(nn w).mono ?_;rintro e w1 ⟨rfl,rfl⟩;go_wp2_with fail;go_ret;exact⟨rfl,rfl⟩
theorem yY:Calls Tryz.prog 54 #[.pointer none] w λe w'=>e= .returned (.int .i64 3)/\w'=w:=by
 go_enter Tryz.func54,Tryz.ntmps54;go_wp2_with fail;refine(xx w).mono ?_;rintro e w1 ⟨rfl,rfl⟩;go_wp2_with fail;go_ret;exact⟨rfl,rfl⟩
theorem Mz (side:Int):Calls Tryz.prog 23 #[.pointer none,.int .i64 side] w λe w'=>e= .returned (.tuple #[.slice none 0 0,.int .i64 3])/\w'=w:=by
 go_enter Tryz.func23,Tryz.ntmps23;go_wp2_with fail;refine(nn w).mono ?_;rintro e w1 ⟨rfl,rfl⟩;go_wp2_with fail
 go_ret2
 exact⟨rfl,rfl⟩
theorem get_nil (side:Int)(p:Ξ):Calls Tryz.prog 22 #[.pointer none,.int .i64 side,.string p] w λe w'=>e= .returned (.tuple #[.string ⟨#[]⟩,.int .i64 3])/\w'=w:=by
 go_enter Tryz.func22,Tryz.ntmps22;go_wp2_with fail;refine(nn w).mono ?_;rintro e w1 ⟨rfl,rfl⟩;go_wp2_with fail
 go_ret2
 exact⟨rfl,rfl⟩
theorem Qf (side:Int)(p c:Ξ):Calls Tryz.prog 39 #[.pointer none,.int .i64 side,.string p,.string c] w λe w'=>e= .returned (.int .i64 3)/\aO [] w w':=by
 go_enter Tryz.func39,Tryz.ntmps39;go_wp2_with fail;refine(nn w).mono ?_;rintro e w1 ⟨rfl,rfl⟩;go_wp2_with fail;go_ret;exact⟨rfl,aO.refl _ _⟩
theorem C2:Calls Tryz.prog 32 #[.pointer none] w λe w'=>e= .returned (.int .i64 3)/\w'=w:=by
 go_enter Tryz.func32,Tryz.ntmps32;go_wp2_with fail;refine(xx w).mono ?_;rintro e w1 ⟨rfl,rfl⟩;go_wp2_with fail;go_ret;exact⟨rfl,rfl⟩
end
open aG aG.Sq in
theorem Ej {E:av.Env}{wL:Θ}:av.CC E 31 #[.pointer none] (λv w'=>v= .tuple #[eg,.int .i64 3]/\dN [] wL w') wL:=by
 refine av.lq Tryz.func31 rfl ?_;refine av.ep ?_;refine rl {tmps:=#[.pointer none,undef,undef,undef,undef,undef,undef,undef,undef,undef,undef,undef,undef,undef,undef,undef,undef,undef,undef,undef,undef,undef,undef,undef,undef,undef,undef,undef,undef,undef,undef,undef,undef],defers:=[]} (by kernel_rfl) ?_
 refine av.eX none ⟨_,Tryz.func31⟩ (λw=>dN [] wL w) (λw t k h=>h.tape t k) (dN.refl _ _) λw hB hsz=>?_
 go_wp2_with (with_reducible first|refine ay rfl ?_);refine ai.go (bh rfl 58 rfl _ lA ?_);intro w1 b2 l2 f2 r2;have hB1:=hB.trans f2.blk;have adt:wL.heap.size<=b2:=by omega
 clear hB f2;go_wp2_with fail;refine av.ep (av.eX none ⟨_,Tryz.func31⟩ (λw=>dN [] wL w/\Row w b2 eg.cells 58) (λw t k h=>⟨h.1.tape t k,h.2⟩) ⟨hB1,r2⟩ λw2 hI hsz2=>?_);obtain⟨hB2,r2'⟩:=hI;clear hB1 r2 hsz2;go_wp2_with fail;refine(yY w2).mono ?_;rintro e w3 ⟨rfl,rfl⟩
 go_wp2_with (with_reducible first|refine bE 58 rfl ?_|refine ah 58 rfl ?_);refine ai.go (bN rfl eg w3 (by kernel_rfl) ?_);go_wp2_with (with_reducible first|refine ah 58 rfl ?_);refine ai.go (kz rfl 58 _ _ rfl b2 rfl eg.cells rfl ez (by decide) _ _ r2' rfl ?_);intro w4 f4 r4;go_wp2_with fail
 refine⟨w4.tape,w4.drawn,.tuple #[eg,.int .i64 3],?_,rfl,?_⟩
 .exact kj (tp:=2) (tq:=3) (ty:=58) rfl _ _ b2 _ _ rfl r4 ez
 .exact hB2.trans f4.blk (by intro i hi;right;simp at hi;omega)
def j5 (w:Θ)(g:Nat)(r:List Γ):Prop:=∀j,(hj:j<r.length)->w.cell? ⟨g,j,none⟩=some (.int .u8 (r[j].toNat:Int))/\w.frozen? ⟨g,j,none⟩=false
theorem j5.set {w:Θ}{g:Nat}{r:List Γ}(h:j5 w g r)(i:Nat)(hi:i<r.length)(x:Γ):j5 (w.setCell ⟨g,i,none⟩ (.int .u8 (x.toNat:Int))) g (r.set i x):=by
 intro j hj;rw[List.length_set] at hj;refine⟨?_,by rw[World.frozen?_setCell];exact(h j hj).2⟩
 by_cases e:i=j
 .subst e
  rw[World.cell?_setCell_same (h:=(h i hi).1),List.getElem_set_self]
 .rw[World.cell?_setCell_other (h:=by simpa using e),(h j hj).1,List.getElem_set_ne e]
theorem Iv {P:ω}{ops:Array Oper}{Q:Exit->Act->Θ->Prop}{a:Act}{w:Θ}{rest:List Oper}{o:Oper}(hg:o.guard=none)(src dst e:η)(x:aa8)(ho:o.op= .convert src dst x)
  (hs:P.underlying src=some .string) (hd:P.underlying dst=some (.slice e)) (he:P.underlying e=some (.int .u8)) (l:List Γ) (hx:a.eval x= .string (aB l))
  (h:∀(w1:Θ) (b cap:Nat),w.heap.size<=b->aO [] w w1->j5 w1 b l->wpList P ops Q rest (a.put o.dst (.slice (some ⟨b,0,none⟩) l.length cap)) w1):wpList P ops Q (o::rest) a w:=by
 have hr:=run_bytes_of_string (P:=P) w src dst e (aB l) hs hd he;generalize hm:(bytesRow (aB l) (grownCap w (aB l).size 0 e))=row at hr;have hb:(w.drew.alloc (.cells row e (row.size,row.size+1))).heap[w.heap.size]? =some (.cells row e (row.size,row.size+1)):=by
  show(w.heap.push _)[w.heap.size]? =_;simp
 have hf:aO [] w (w.drew.alloc (.cells row e (row.size,row.size+1))):=(aO.drew [] w).trans (aO.alloc [] _ _);generalize w.drew.alloc (.cells row e (row.size,row.size+1))=w1 at hr hb hf;have h':=h w1 w.heap.size (grownCap w (aB l).size 0 e) (φ _) hf λj hj=>by
  have hj2:row[j]? =some (.int .u8 (l[j].toNat:Int)):=by
   rw[<-hm,bytesRow_at (aB l) _ j (by simpa [aB,ByteArray.size] using hj)];simp[aB]
  have hlt:j<row.size:=(Ψ.1 hj2).1;refine⟨by rw[Lib.cell_of_heap hb];exact hj2,?_⟩;unfold World.frozen?;rw[hb];simp;omega
 have hsz:(aB l).size=l.length:=by simp[aB,ByteArray.size]
 rw[hsz] at h' hr;refine bN hg (.slice (some ⟨w.heap.size,0,none⟩) l.length (grownCap w l.length 0 e)) w1 ?_ h';simp only[execOp,ho,hx,Sem.run_bind];rw[hr];rfl
end
section
open Go.RowKit Go.Lib Go.Sort
def Ji (sv x:Φ):lx:=[(0,sv),(17,x)]
section
variable {sv x:Φ}
theorem gW:∀y∈[8],y∉sl (Ji sv x):=by simp[sl,Ji]
theorem Jh:(sl (Ji sv x)).Nodup:=by simp[sl,Ji]
theorem Wv:17∈sl (Ji sv x):=by simp[sl,Ji]
end
def seqB:Code->Option Code
 |.seq _ b=>some b
 |_=>none
def ab6:Option Code:=Tryz.f12.body.bind λc=>(seqB c).bind λc=>(seqB c).bind λc=>(seqB c).bind λc=>(seqB c).bind λc=>(seqB c).bind seqB
def G3 (g cp:Nat)(any:Ξ)(u:Nat->Φ):Act:={tmps:=(undef::u 1::u 2::.string any::rn u 4 6 (.slice (some ⟨g,0,none⟩) 12800 cp::rn u 11 6 (undef::rn u 18 73 []))).toArray,defers:=[]}
def xe (g k:Nat)(u:Nat->Φ):Act:={tmps:=(undef::rn u 1 12 (.slice (some ⟨g,0,none⟩) 2 2::.int .i64 k::u 15::u 16::undef::rn u 18 73 [])).toArray,defers:=[]}
section
variable {F:List Nat}{s d n:Nat}{x:DS}(w:Θ)(h:aP w F s d n x)
include h
theorem Jw:Calls Tryz.prog 23 #[.pointer (some ⟨s,0,none⟩),.int .i64 0] w λe w'=>(∃v,e= .returned v)/\aO [] w w':=by
 refine Calls.mono (MC F s d n x 0 w h (by omega)) ?_;rintro e w' ⟨⟨_,_,h1⟩,h2⟩;exact⟨⟨_,h1⟩,h2⟩
theorem M0:Calls Tryz.prog 22 #[.pointer (some ⟨s,0,none⟩),.int .i64 2,.string ⟨#[97]⟩] w λe w'=>(∃v,e= .returned v)/\aO [] w w':=by
 refine Calls.mono (Hu F s d n x 2 ⟨#[97]⟩ w h (by omega) (by decide) (by decide)) ?_;rintro e w' ⟨h1,h2⟩;exact⟨⟨_,h1⟩,h2⟩
theorem LU (hx:x.Fit 5)(eZ:x.waiting.length<55):Calls Tryz.prog 39 #[.pointer (some ⟨s,0,none⟩),.int .i64 1,.string ⟨#[98]⟩,.string vk] w λe w'=>(∃v,e= .returned v)/\(∃F',aP w' F' s d n (x.mF n 1 ⟨#[98]⟩ vk).1/\bZ F F' w)/\aO F w w':=by
 refine Calls.mono (tg F s d n x 1 ⟨#[98]⟩ vk w h hx eZ (by omega) (by decide) (by decide) (by decide)) ?_;rintro e w' ⟨h1,h2⟩;exact⟨⟨_,h1⟩,h2⟩
end
open aG aG.Sq in
theorem N7 {E:av.Env}{wL w:Θ}(sv x:Φ)(any:Ξ)(hany:any.size<=9223372036854775807)(hG:pH wL){c10:Code}(hc:ab6=some c10)(g cp:Nat)(r:List Γ)(u:Nat->Φ)(hr:r.length=12800)(hcs:j5 w g r)(hB:dN [] wL w):
  av.fo E [8] 12 (Ji sv x) [.code c10] (ZB 8 wL) (G3 g cp any u) w:=by
 obtain rfl:=(ae7 hc).symm;clear hc;unfold G3;simp only[rn];refine av.ck ?_;refine av.bU none gW ⟨_,Tryz.func12⟩ (by simp) (λw=>j5 w g r/\dN [] wL w) (λw t k h=>⟨h.1,h.2.tape t k⟩) ⟨hcs,hB⟩ λw1 hI hsz=>?_
 clear hcs hB hsz;obtain⟨hcs,hB⟩:=hI;have HC:Hid (j5 w1 g r):=hcs;have HL:Hid (r.length=12800):=hr;clear hcs hr;go_wp2_with (with_reducible first|refine fy rfl ?_);refine ai.go (bN rfl (.string (aB r)) w1 (xQ 85 9 5 _ rfl Tryz.underlying85 Tryz.underlying5 Tryz.underlying9 g 12800 cp rfl r HL.out (λj hj=>(HC.out j hj).1)) ?_);go_wp2_with fail
 have f2:aO [] w1 (w1.alloc (Obj.cells #[Value.string (aB r),Value.string any] 9)):=aO.alloc _ _ _;have r2:Row (w1.alloc (Obj.cells #[Value.string (aB r),Value.string any] 9)) w1.heap.size #[Value.string (aB r),Value.string any] 9:=Row.new _ _ _;generalize w1.alloc (Obj.cells #[Value.string (aB r),Value.string any] 9)=w2 at f2 r2⊢;replace hB:=hB.trans f2.blk;clear f2 HC
 generalize w1.heap.size=g2 at r2⊢;refine av.ck (av.ck ?_);refine av.bU none gW ⟨_,Tryz.func12⟩ (by simp) (λw=>dN [] wL w/\Row w g2 #[Value.string (aB r),Value.string any] 9) (λw t k h=>⟨h.1.tape t k,h.2⟩) ⟨hB,r2⟩ λw3 hI hsz=>?_
 clear hB r2 hsz;obtain⟨hB,r2⟩:=hI;go_wp2_with fail;refine av.qa ?_;refine av.ku (xe g2 0) λu=>?_
 refine av.sR (λD a w=>∃(k:Nat) (u:Nat->Φ),D=Ji sv x/\a=xe g2 k u/\k<=2/\dN [] wL w/\Row w g2 #[Value.string (aB r),Value.string any] 9) (λa _=>2-(intOf (a.tmps.getD 14 undef)).toNat)
  ⟨0,u,rfl,rfl,by omega,hB,r2⟩ ?_
 clear hB r2 u;rintro D a w ⟨k,u,rfl,rfl,hk,hB,r2⟩ ih;have ih':∀(u:Nat->Φ) (w:Θ),k<2->dN [] wL w->Row w g2 #[Value.string (aB r),Value.string any] 9->av.fo _ _ _ (Ji sv x) _ _ (xe g2 (k+1) u) w:=λu w e1 e2 e3=>ih _ _ _ ⟨k+1,u,rfl,rfl,by omega,e2,e3⟩ (by simp[xe,rn,intOf];omega)
 clear ih;unfold xe;simp only[rn];refine av.ck ?_;refine av.bU (some 2) gW ⟨_,Tryz.func12⟩ (λid hid=>by cases hid;exact⟨_,rfl⟩) (λw=>dN [] wL w/\Row w g2 #[Value.string (aB r),Value.string any] 9) (λw t k h=>⟨h.1.tape t k,h.2⟩) ⟨hB,r2⟩ λw4 hI hsz=>?_
 clear hB r2 hsz;obtain⟨hB,r2⟩:=hI
 by_cases hlt:k<2
 .go_wp2_with fail
  refine av.ck (av.qa (av.ck ?_));refine av.bU none gW ⟨_,Tryz.func12⟩ (by simp) (λw=>dN [] wL w/\Row w g2 #[Value.string (aB r),Value.string any] 9) (λw t k h=>⟨h.1.tape t k,h.2⟩) ⟨hB,r2⟩ λw5 hI hsz=>?_
  clear hB r2 hsz;obtain⟨hB,r2⟩:=hI;obtain⟨y,hy,hcell⟩:∃y:Ξ,y.size<=9223372036854775807/\w5.cell? ⟨g2,k,none⟩=some (.string y):=by
   rcases(by omega:k=0\/k=1) with rfl|rfl
   .exact⟨aB r,by rw[cE,HL.out];decide,by rw[r2.cell];rfl⟩
   .exact⟨any,hany,by rw[r2.cell];rfl⟩
  go_wp2_with fail;refine(Me y w5 hy).mono ?_;rintro e w6 ⟨v,rfl,f6,hR⟩;have Rm:=hB.size;have hg2:=r2.lt;replace hB:=hB.trans f6.blk;replace r2:=f6.row r2;clear hcell f6;rcases hR with rfl|⟨n,s,d,F,rfl,hS,hg,hls,hyn,hn16,hok,ac8⟩
  .go_wp2_with fail
   refine av.ck ?_;refine av.bU none gW ⟨_,Tryz.func12⟩ (by simp) (λw=>dN [] wL w/\Row w g2 #[Value.string (aB r),Value.string any] 9) (λw t k h=>⟨h.1.tape t k,h.2⟩) ⟨hB,r2⟩ λw7 hI hsz=>?_
   clear hB r2 hsz;obtain⟨hB,r2⟩:=hI;go_wp2_with fail;refine av.ck ?_;refine av.bU none gW ⟨_,Tryz.func12⟩ (by simp) (λw=>dN [] wL w/\Row w g2 #[Value.string (aB r),Value.string any] 9) (λw t k h=>⟨h.1.tape t k,h.2⟩) ⟨hB,r2⟩ λw8 hI hsz=>?_
   clear hB r2 hsz;obtain⟨hB,r2⟩:=hI;go_wp2_with fail;refine(Mz w8 0).mono ?_;rintro e w9 ⟨rfl,rfl⟩;go_wp2_with fail;refine av.ck ?_;refine av.bU none gW ⟨_,Tryz.func12⟩ (by simp) (λw=>dN [] wL w/\Row w g2 #[Value.string (aB r),Value.string any] 9) (λw t k h=>⟨h.1.tape t k,h.2⟩) ⟨hB,r2⟩ λw10 hI hsz=>?_
   clear hB r2 hsz;obtain⟨hB,r2⟩:=hI;go_wp2_with fail;refine(get_nil w10 2 ⟨#[97]⟩).mono ?_;rintro e w11 ⟨rfl,rfl⟩;go_wp2_with fail;refine av.ck ?_;refine av.bU none gW ⟨_,Tryz.func12⟩ (by simp) (λw=>dN [] wL w/\Row w g2 #[Value.string (aB r),Value.string any] 9) (λw t k h=>⟨h.1.tape t k,h.2⟩) ⟨hB,r2⟩ λw12 hI hsz=>?_
   clear hB r2 hsz;obtain⟨hB,r2⟩:=hI;go_wp2_with fail;refine(Qf w12 1 ⟨#[98]⟩ vk).mono ?_;rintro e w13 ⟨rfl,f⟩;replace hB:=hB.trans f.blk;replace r2:=f.row r2;clear f;go_wp2_with fail;refine av.ck ?_
   refine av.bU none gW ⟨_,Tryz.func12⟩ (by simp) (λw=>dN [] wL w/\Row w g2 #[Value.string (aB r),Value.string any] 9) (λw t k h=>⟨h.1.tape t k,h.2⟩) ⟨hB,r2⟩ λw14 hI hsz=>?_
   clear hB r2 hsz;obtain⟨hB,r2⟩:=hI;go_wp2_with fail;refine(C2 w14).mono ?_;rintro e w15 ⟨rfl,rfl⟩;go_wp2_with fail;refine av.jy (av.mz _ rfl (.inr rfl) rfl ?_)
   refine av.sS (f2:=31) #[.tmp 89] #[.pointer none] (R2:=λv w'=>v= .tuple #[eg,.int .i64 3]/\dN [] w15 w') rfl rfl (by kernel_rfl) (by kernel_rfl) (eD (by kernel_rfl)) (λb w=>by kernel_rfl) (by kernel_rfl) Ej λv w16 hR _=>?_
   obtain⟨rfl,hB2⟩:=hR;replace hB:=hB.trans hB2;replace r2:=hB2.row r2;clear hB2;refine av.eF (av.pB ?_);refine av.bU none gW ⟨_,Tryz.func12⟩ (by simp) (λw=>dN [] wL w/\Row w g2 #[Value.string (aB r),Value.string any] 9) (λw t k h=>⟨h.1.tape t k,h.2⟩) ⟨hB,r2⟩ λw17 hI hsz=>?_
   clear hB r2 hsz;obtain⟨hB,r2⟩:=hI;go_wp2_with fail;refine av.ku (xe g2 (k+1)) λu=>?_
   exact ih' u _ hlt hB r2
  .have hgw:bZ [] F wL:=(bZ.refl [] wL).trans hg Rm
   have hgF:g2∉F:=λhF=>by rcases hg g2 hF with q|q;simp at q;omega
   have hyl:y.data.toList.length=64*n:=by rw[<-hyn];show y.data.toList.length=y.data.size;simp
   obtain⟨Q,H,L1,a1,hO⟩:=Md hyl hn16 hok ac8;obtain⟨x0,hx0⟩:∃x0,x0=DS.fresh y.data.toList:=⟨_,rfl⟩
   rw[<-hx0] at hS hO;have hfit:x0.Fit 5:=by rw[hx0];exact mR _ 0 5 (by omega)
   have eZ:x0.waiting.length<55:=by rw[hx0];show 0<55;omega
   clear hx0 hyl hok ac8 hls hyn hn16 hg Rm;go_wp2_with fail;refine av.ck ?_;refine av.bU none gW ⟨_,Tryz.func12⟩ (by simp) (λw=>dN [] wL w/\Row w g2 #[Value.string (aB r),Value.string any] 9/\aP w F s d n x0) (λw t k h=>⟨h.1.tape t k,h.2.1,h.2.2.az t k⟩) ⟨hB,r2,hS⟩ λw18 hI hsz=>?_
   clear hB r2 hS hsz;obtain⟨hB,r2,hS⟩:=hI;go_wp2_with fail;refine av.ck ?_;refine av.bU none gW ⟨_,Tryz.func12⟩ (by simp) (λw=>dN [] wL w/\Row w g2 #[Value.string (aB r),Value.string any] 9/\aP w F s d n x0) (λw t k h=>⟨h.1.tape t k,h.2.1,h.2.2.az t k⟩) ⟨hB,r2,hS⟩ λw19 hI hsz=>?_
   clear hB r2 hS hsz;obtain⟨hB,r2,hS⟩:=hI;go_wp2_with fail;refine(Jw w19 hS).mono ?_;rintro e w20 ⟨⟨v,rfl⟩,f⟩;replace hB:=hB.trans f.blk;replace r2:=f.row r2;replace hS:=hS.new f;clear f;go_wp2_with fail;refine av.ck ?_
   refine av.bU none gW ⟨_,Tryz.func12⟩ (by simp) (λw=>dN [] wL w/\Row w g2 #[Value.string (aB r),Value.string any] 9/\aP w F s d n x0) (λw t k h=>⟨h.1.tape t k,h.2.1,h.2.2.az t k⟩) ⟨hB,r2,hS⟩ λw21 hI hsz=>?_
   clear hB r2 hS hsz;obtain⟨hB,r2,hS⟩:=hI;go_wp2_with fail;refine(M0 w21 hS).mono ?_;rintro e w22 ⟨⟨v,rfl⟩,f⟩;replace hB:=hB.trans f.blk;replace r2:=f.row r2;replace hS:=hS.new f;clear f;go_wp2_with fail;refine av.ck ?_
   refine av.bU none gW ⟨_,Tryz.func12⟩ (by simp) (λw=>dN [] wL w/\Row w g2 #[Value.string (aB r),Value.string any] 9/\aP w F s d n x0) (λw t k h=>⟨h.1.tape t k,h.2.1,h.2.2.az t k⟩) ⟨hB,r2,hS⟩ λw23 hI hsz=>?_
   clear hB r2 hS hsz;obtain⟨hB,r2,hS⟩:=hI;go_wp2_with fail;refine(LU w23 hS hfit eZ).mono ?_;rintro e w24 ⟨⟨v,rfl⟩,⟨F2,hS2,g⟩,f⟩;replace hS2:aP w24 F2 s d n (x0.mF n 1 ⟨#[98]⟩ vk).1:=hS2;generalize (x0.mF n 1 ⟨#[98]⟩ vk).1=x1 at hO hS2;have XR:g2∉F2:=λhF=>(g g2 hF).elim hgF λq=>by have:=r2.lt;omega
   have XQ:bZ [] F2 wL:=hgw.trans g hB.size;replace hB:=mQ hgw f.blk hB;replace r2:=f.row r2 hgF;clear f g hS hgF hgw hfit eZ;have hS:=hS2;clear hS2;go_wp2_with fail;refine av.ck ?_
   refine av.bU none gW ⟨_,Tryz.func12⟩ (by simp) (λw=>dN [] wL w/\Row w g2 #[Value.string (aB r),Value.string any] 9/\aP w F2 s d n x1) (λw t k h=>⟨h.1.tape t k,h.2.1,h.2.2.az t k⟩) ⟨hB,r2,hS⟩ λw25 hI hsz=>?_
   clear hB r2 hS hsz;obtain⟨hB,r2,hS⟩:=hI;go_wp2_with fail;refine(A3 hO F2 s d w25 hS).mono ?_;rintro e w26 ⟨v,F3,L2,a2,H2,rfl,hS2,hF,h0,h1,g,f⟩;have adg:g2∉F3:=λhF=>(g g2 hF).elim XR λq=>by have:=r2.lt;omega
   have XP:bZ [] F3 wL:=XQ.trans g hB.size;replace hB:=mQ XQ f.blk hB;replace r2:=f.row r2 XR;clear f g hS XR XQ hO;have hS:=hS2;clear hS2;go_wp2_with fail;refine av.jy (av.mz _ rfl (.inr rfl) rfl ?_)
   refine av.sS (f2:=31) #[.tmp 89] #[.pointer (some ⟨s,0,none⟩)] (R2:=yq F3 s d n (DS.calm L2 a2) w26) rfl rfl (by kernel_rfl) (by kernel_rfl) (eD (by kernel_rfl)) (λb w=>by kernel_rfl) (by kernel_rfl) (Bz hS (hG.blk hB (by simp)) (XP.nil hG) (hF.sync a2 h0 (by omega))) λv w27 hR _=>?_
   have hB2:dN F3 w26 w27:=by
    rcases hR with⟨_,_,_,q⟩|⟨_,_,_,_,_,_,q,_⟩
    .exact q.mono
    .exact q
   replace r2:=hB2.row r2 adg;replace hB:=mQ XP hB2 hB;clear hB2 hR hS hF h0 h1 adg XP;refine av.eF (av.pB ?_);refine av.bU none gW ⟨_,Tryz.func12⟩ (by simp) (λw=>dN [] wL w/\Row w g2 #[Value.string (aB r),Value.string any] 9) (λw t k h=>⟨h.1.tape t k,h.2⟩) ⟨hB,r2⟩ λw28 hI hsz=>?_
   clear hB r2 hsz;obtain⟨hB,r2⟩:=hI;go_wp2_with fail;refine av.ku (xe g2 (k+1)) λu=>?_
   exact ih' u _ hlt hB r2
 .obtain rfl:k=2:=by omega
  go_wp2_with fail;refine⟨rfl,_,rfl,?_⟩;refine av.bU none gW ⟨_,Tryz.func12⟩ (by simp) (λw=>dN [] wL w) (λw t k h=>h.tape t k) hB λw5 hI hsz=>?_
  clear hB hsz;have hB:=hI;clear hI;go_wp2_with fail;exact P5 (by kernel_rfl) hB
def pU (Sy:Int)(b any:Ξ):Act:={tmps:=(undef::.int .i64 Sy::.string b::.string any::rn (λ_=>undef) 4 87 []).toArray,defers:=[]}
open aG aG.Sq in
theorem Gd {E:av.Env}{wL:Θ}(ad:Option Addr)(cap:Nat)(l:List qk)(h:OP E.K ad l)(Sy:Int)(hat:-9223372036854775808<=Sy/\Sy<=9223372036854775807)(b any:Ξ)(hb:b.size<=9223372036854775807)(hany:any.size<=9223372036854775807)(hG:pH wL){cd:Code}(hcd:Tryz.f12.body=some cd):
  av.fo E [8] 12 (Ji (.slice ad l.length cap) undef) [.code cd] (ZB 8 wL) (pU Sy b any) wL:=by
 obtain rfl:=(ae7 hcd).symm;clear hcd;obtain⟨c10,h10⟩:=Option.isSome_iff_exists.1 (show ab6.isSome=true by kernel_rfl);have tail:=λ(w:Θ) (g cp:Nat) (r:List Γ) (u:Nat->Φ) hr hcs hB=>N7 (E:=E) (wL:=wL) (w:=w) (.slice ad l.length cap) (.slice ad l.length cap) any hany hG h10 g cp r u hr hcs hB
 obtain rfl:=(ae7 h10).symm;clear h10;replace tail:Hid _:=tail;have hB:dN [] wL wL:=dN.refl _ _;unfold pU;simp only[rn];refine av.ck ?_;refine av.bU none gW ⟨_,Tryz.func12⟩ (by simp) (λw=>dN [] wL w) (λw t k h=>h.tape t k) hB λw1 hI hsz=>?_
 clear hB hsz;have hB:=hI;clear hI;go_wp2_with fail;refine av.ck (av.jy ?_);refine av.vN 17 (.slice ad l.length cap) rfl rfl rfl Jh Wv (λπ w=>by kernel_rfl) ?_;refine av.Bx (Ji (.slice ad l.length cap) (.slice ad l.length cap)) rfl ?_
 refine av.Ki (f2:=30) #[.slice ad l.length cap] rfl rfl (eD (by kernel_rfl)) (λπ w=>by kernel_rfl) (Kl ad cap l h (hG.blk hB (by simp))) λv wb hR _=>?_
 obtain⟨s,d,F,L,a,H,rfl,hC,hg,hB0,hls,ha,hrs⟩:=hR;have hL:L.length=12800:=by
  obtain⟨m,hr,_⟩:=hC.has;exact hr.len
 replace hB:=hB.trans hB0;clear hB0 hls hrs ha hg h;refine av.mz _ rfl (.inl rfl) rfl (av.eF ?_);refine av.ku (λu=>{tmps:=(undef::.int .i64 Sy::.string b::.string any::rn u 4 5 (.pointer (some ⟨s,0,none⟩)::rn u 10 7 (undef::rn u 18 73 []))).toArray,defers:=[]}) λu=>?_
 simp only[rn];refine av.ck ?_;refine av.bU none gW ⟨_,Tryz.func12⟩ (by simp) (λw=>cP w F s d L a H/\dN [] wL w) (λw t k h=>⟨h.1.az t k,h.2.tape t k⟩) ⟨hC,hB⟩ λw2 hI hsz=>?_
 clear hC hB hsz;obtain⟨hC,hB⟩:=hI;go_wp2_with fail
 refine av.ck ?_;refine av.bU none gW ⟨_,Tryz.func12⟩ (by simp) (λw=>cP w F s d L a H/\dN [] wL w) (λw t k h=>⟨h.1.az t k,h.2.tape t k⟩) ⟨hC,hB⟩ λw3 hI hsz=>?_
 clear hC hB hsz;obtain⟨hC,hB⟩:=hI;go_wp2_with (with_reducible first|refine fy rfl ?_);refine hC.bytes.mono ?_;rintro e w4 ⟨rfl,f4⟩;replace hB:=hB.trans f4.blk;clear f4 hC;go_wp2_with (with_reducible first|refine fy rfl ?_);refine ai.go (Iv rfl 9 85 5 _ rfl Tryz.underlying9 Tryz.underlying85 Tryz.underlying5 L rfl ?_);intro w5 g cp lg f5 hcs
 have hgL:wL.heap.size<=g:=by have:=hB.size;omega
 replace hB:=hB.trans f5.blk;clear f5 lg;rw[hL];go_wp2_with fail
 refine av.ck ?_;refine av.bU none gW ⟨_,Tryz.func12⟩ (by simp) (λw=>j5 w g L/\dN [] wL w) (λw t k h=>⟨h.1,h.2.tape t k⟩) ⟨hcs,hB⟩ λw6 hI hsz=>?_
 clear hcs hB hsz;obtain⟨hcs,hB⟩:=hI;have HC:Hid (j5 w6 g L):=hcs;clear hcs;go_wp2_with fail;refine(oZ Sy 12800 w6 hat.1 hat.2 (hn:=(by decide)) (hn2:=(by decide))).mono ?_;rintro e w7 ⟨rfl,rfl⟩;have hi:=mL Sy 12800 (h:=(by decide));generalize bD Sy 12800=i at hi⊢;go_wp2_with fail
 refine av.ck ?_;refine av.bU none gW ⟨_,Tryz.func12⟩ (by simp) (λw=>j5 w g L/\dN [] wL w) (λw t k h=>⟨h.1,h.2.tape t k⟩) ⟨HC.out,hB⟩ λw8 hI hsz=>?_
 clear HC hB hsz;obtain⟨hcs,hB⟩:=hI;have HC:Hid (j5 w8 g L):=hcs;clear hcs;go_wp2_with fail
 go_loopw [12] (λc wr=>∃(k:Nat) (r:List Γ),c= .int .i64 k/\i+k<=12800/\Hid (r.length=12800)/\Hid (j5 wr g r)/\dN [] wL wr) (λc _=>12800-(intOf c).toNat)
 case atStart=>exact⟨0,L,rfl,by omega,hL,HC,hB⟩
 case round=>
  obtain⟨k,r,rfl,hk,HL,HC,hB⟩:=hrel
  by_cases h1:k<b.size
  .have hd1:decide ((k:Int)<(b.size:Int))=true:=by simp;omega
   by_cases h2:i+k<12800
   .have hd2:decide (((i:Int)+k)<12800)=true:=by simp;omega
    obtain⟨hc0,hz0⟩:=HC.out (i+k) (by rw[HL.out];omega);generalize (r[i+k]'(by rw[HL.out];omega))=old at hc0;have HS:=λx=>HC.out.set (i+k) (by rw[HL.out];omega) x
    replace HS:Hid _:=HS;go_wp2_with (with_reducible first|refine jf rfl ?_);refine ai.go (bN rfl (.int .u8 ((b[k]'h1).toNat:Int)) wr (by go_simp) ?_);generalize b[k]'h1=nb;go_wp2_with fail
    go_roundw
    case rel=>exact⟨k+1,r.set (i+k) nb,by go_num,by omega,(List.length_set ..).trans HL.out,HS.out nb,hB.trans (aO.setCell [g] wr ⟨g,i+k,none⟩ (.int .u8 (nb.toNat:Int)) (by simp)).blk (by intro j hj;right;simp at hj;omega)⟩
    case measure=>simp[intOf];omega
   .have hd2:decide (((i:Int)+k)<12800)=false:=by simp;omega
    go_wp2_with fail;refine av.ku (G3 g cp any) λu=>?_
    exact tail.out _ _ _ _ _ HL.out HC.out hB
  .have hd1:decide ((k:Int)<(b.size:Int))=false:=by simp;omega
   go_wp2_with fail;refine av.ku (G3 g cp any) λu=>?_
   exact tail.out _ _ _ _ _ HL.out HC.out hB
end
section
open Go.ChangeShapes Go.WideShapes Go.ChangeAt Go.RowKit Go.Deep Go.Joins Go.Lib Go.Conc Go.ConcM
theorem nC {n:Int}(h:(Lit.int .i64 n).wf=true):xN n:=by
 unfold xN;simp[Lit.wf] at h;exact h
section
variable {H:Type}{enc:η×Φ->H}{w:Θ}{base:Nat}{spare:Nat->Bool}{held:Bool}
theorem tS:Tryz.prog.cellsOf 24=4:=by kernel_rfl
theorem Kj:Tryz.prog.cellsOf 3=1:=by kernel_rfl
theorem u9 {fuel:Nat}{cs:List Φ}{x:DataW H×List MemPlace}(h:DataW.trod enc Tryz.prog w base spare held fuel 24 cs=some x):∃y:qk,y.Ok/\cs=y.cells.toList:=by
 obtain⟨y0,y1,y2,y3,n,hx,hl,h0,h1,h2,h3⟩:=trod_struct4 Tryz.underlying24 h;rw[tS] at hl;simp only[Kj,By] at h0 h1 h2 h3
 match cs,hl with
 |[c0,c1,c2,c3],_=>
  obtain⟨a0,e0,_,w0⟩:=DataW.trod_int Tryz.underlying3 h0;obtain⟨a1,e1,_,w1⟩:=DataW.trod_int Tryz.underlying3 h1;obtain⟨a2,e2,_,w2⟩:=DataW.trod_int Tryz.underlying3 h2;obtain⟨a3,e3,_,w3⟩:=DataW.trod_string Tryz.underlying9 h3;simp at e0 e1 e2 e3;subst e0 e1 e2 e3;exact⟨⟨a0,a1,a2,a3⟩,⟨nC w0,nC w1,nC w2⟩,rfl⟩
theorem Hd {α:Type}{Pr:Nat->α->Prop}:∀n:Nat,(∀i,i<n->∃y,Pr i y)->∃l:List α,l.length=n/\∀i,(h:i<l.length)->Pr i l[i]
 |0,_=>⟨[],rfl,λi h=>by simp at h⟩
 |n+1,h=>by
  obtain⟨l,hl,hp⟩:=Hd n λi hi=>h i (by omega)
  obtain⟨y,hy⟩:=h n (by omega);refine⟨l++[y],by simp[hl],λi hi=>?_⟩
  by_cases hi2:i<l.length
  .rw[List.getElem_append_left hi2]
   exact hp i hi2
  .have:i=n:=by simp at hi;omega
   subst this;rw[List.getElem_append_right (by omega)];simpa [hl] using hy
theorem BF {W:Θ}{a:Option Addr}{len cap fuel:Nat}{x:DataW H×List MemPlace}(h:DataW.trod enc Tryz.prog W 0 spare held fuel 22 [.slice a len cap]=some x):∃l:List qk,l.length=len/\OQ W a l/\len<=cap/\cap<=maxLen:=by
 rcases open_slice Tryz.underlying22 h with⟨hcs,_⟩|⟨ad,len',cap',m,n,D,Pl,hcs,_,hl,hm,hmm,_,hcell⟩
 .simp at hcs
  obtain⟨rfl,rfl,rfl⟩:=hcs;exact⟨[],rfl,λj hj=>by simp at hj,by omega,by omega⟩
 .simp at hcs
  obtain⟨rfl,rfl,rfl⟩:=hcs;have hlm:len<=m:=by rw[hmm];split<;>omega
  have hel:∀i,i<len->∃y:qk,y.Ok/\∃b off,some ad=some (⟨b,off,none⟩:Addr)/\W.rangeAt b (off+i*4) y.cells.toList:=by
   intro i hi;obtain⟨cs',h1,h2⟩:=hcell i (by omega);obtain⟨y,hy,rfl⟩:=u9 h2;refine⟨y,hy,?_⟩;obtain⟨_,hlen,h3⟩:=World.cells?_some h1;rw[tS] at h1 hlen h3;obtain⟨b,off,spot⟩:=ad;have hspot:spot=none:=by
    obtain⟨cs0,k1,k2⟩:=hcell 0 (by omega);obtain⟨y0,_,rfl⟩:=u9 k2;obtain⟨_,_,k3⟩:=World.cells?_some k1;rw[tS] at k3;have:=World.cell?_spot ((k3 0 (by omega)).trans (show y0.cells.toList[0]? =some (.int .i64 y0.kind) from rfl));simpa [Addr.add] using this
   subst hspot;refine⟨b,off,rfl,λj v hj=>?_⟩;have hj4:j<4:=by
    have:=(List.getElem?_eq_some_iff.1 hj).1;rw[hlen] at this;exact this
   have h5:=h3 j hj4;rw[Addr.add_mid,Addr.add_mid,hj] at h5;exact h5
  obtain⟨l,hl2,hp⟩:=Hd len hel;exact⟨l,hl2,λj hj=>hp j hj,hl,hm⟩
end
theorem IG:((begin Tryz.prog (λ_ _=>0) default).world.heap[0]?).bind Obj.row? =some (#[.int .i64 0],3):=by kernel_rfl
theorem yJ:Tryz.prog.globals.size=1:=by kernel_rfl
theorem yd:Tryz.prog.cellTypes Tryz.prog.depth 3=some [3]:=by kernel_rfl
def An (w:Θ):Prop:=∃c t f,w.heap[0]? =some (.cells c t f)/\∀v∈c,∃q,v= .int .i64 q/\c.size=1
theorem An.y8 {w:Θ}(h:An w):pH w:=by
 obtain⟨c,t,f,h1,h2⟩:=h;refine⟨c,t,f,h1,λv hv r hr=>?_⟩;obtain⟨q,rfl,_⟩:=h2 v hv;cases hr
theorem xH {w:Θ}(h:w.ShapedOpen Tryz.prog):An w:=by
 obtain⟨cs,h1,h2,h3⟩:=h.1 0 _ _ (by rw[yJ];omega) IG;obtain⟨ts,e1,_,e3⟩:=h3 (by kernel_rfl);rw[yd] at e1;obtain rfl:=ae7 e1;refine⟨cs,_,_,h1,λv hv=>?_⟩;obtain⟨i,hi,rfl⟩:=Array.mem_iff_getElem.1 hv;obtain⟨u,hu,hc⟩:=e3 i cs[i] (by simp[hi]);have:u=3:=by
  simp only[List.length_singleton,Nat.mod_one] at hu;simpa using hu.symm
 subst this;unfold Cell.ok at hc;rw[show Tryz.prog.underlying 3=some (.int .i64) by kernel_rfl] at hc;generalize cs[i]=x at hc;cases x<;>simp at hc;rename_i k n;exact⟨n,by rw[hc.1],by simpa using h2⟩
def hide (W:Θ):Θ:={W with heap:=W.heap.mapIdx λb o=>if b=0 then o else .cells #[] 1000000 (0,0)}
def hidden (W:Θ)(b:Nat):Prop:=b<W.heap.size/\b≠0
theorem gT (W:Θ):(hide W).heap.size=W.heap.size:=by simp[hide]
theorem sD (W:Θ)(b:Nat):(hide W).heap[b]? =(W.heap[b]?).map λo=>if b=0 then o else .cells #[] 1000000 (0,0):=by simp[hide]
theorem JL {W:Θ}(h:pH W):pH (hide W):=by
 obtain⟨c,t,f,h1,h2⟩:=h;exact⟨c,t,f,by rw[sD,h1];simp,h2⟩
theorem My {W:Θ}(h:pH W):Link (hidden W) av.no (λb=>b<W.heap.size) av.no id (hide W) W:=by
 obtain⟨c,t,f,h1,h2⟩:=h;have h0:=(Ψ.1 h1).1;have at0:∀b o,(hide W).heap[b]? =some o->¬hidden W b->b=0/\o= .cells c t f:=λb o hb hn=>by
  have hlt:b<W.heap.size:=by rw[<-gT];exact(Ψ.1 hb).1
  have hz:b=0:=ad9 λq=>hn ⟨hlt,q⟩
  subst hz;rw[sD,h1] at hb;simp at hb;exact⟨rfl,hb.symm⟩
 have hid:∀b o,(hide W).heap[b]? =some o->hidden W b->o= .cells #[] 1000000 (0,0):=λb o hb hh=>by
  rw[sD,ν hh.1,ε,ζ hh.2] at hb;exact(ae7 hb).symm
 have low:∀b,hidden W b\/av.no b->b<(hide W).heap.size:=λb hb=>by rw[gT];exact hb.elim (·.1) False.elim
 have vz:gV (hidden W) (hide W) 0:=⟨by rw[gT];exact h0,λq=>q.2 rfl⟩
 refine⟨λ_ _ e=>e,rfl,λb hb=>by rw[gT] at hb;exact hb,⟨λb o hb hh _=>?_,hid,λb o _ hz=>hz.elim,low,λb hz=>hz.elim,vz,λb o hb hh r hr=>?_⟩,⟨λ_ _ e=>e,rfl,rfl,λb hb _=>by
  have hb:b<(hide W).heap.size:=hb;rw[gT] at hb;exact hb,λb o hb hh _=>?_,hid,λb o _ hz=>hz.elim,low,λb o hb i hi=>?_⟩,λb hb _=>by rw[<-gT];exact hb.1,λb hz=>hz.elim⟩
 .obtain⟨rfl,rfl⟩:=at0 b o hb hh
  trivial
 .obtain⟨rfl,rfl⟩:=at0 b o hb hh
  cases hr with
  |cells hv hr=>exact absurd hr (h2 _ hv r)
 .obtain⟨rfl,rfl⟩:=at0 b o hb hh
  refine⟨trivial,?_⟩;show W.heap[0]? =_;rw[h1];rw[oT λr hr=>by cases hr with|cells hv hr=>exact absurd hr (h2 _ hv r)]
 .by_cases hh:hidden W b
  .have:=hid b o hb hh
   subst this;exact hi.elim
  .obtain⟨rfl,rfl⟩:=at0 b o hb hh
   exact hi.elim
theorem Fu {W:Θ}(h:pH W)(K:Nat->Option Obj)(h0:K 0=none):Link (hidden W) av.no (λb=>b<W.heap.size/\K b=none) av.no id (hide W) W:=by
 have hl:=My h;refine⟨hl.inj,hl.zero,hl.lt,hl.lw,hl.wr,λb hv hz=>⟨hl.own b hv hz,?_⟩,hl.ro⟩;have hb:b=0:=ad9 λq=>hv.2 ⟨by have:=hv.1;rwa [gT] at this,q⟩
 subst hb;exact h0
theorem nj {H:Type}{enc:η×Φ->H}{a:Assume}{os:Os}{f:aa9}{fn:Func}{s:ChangeSpec}{F:Stop.Interp}{conds:List PathCond}{apart fresh handsOn:Bool}
  (own:ownKnob Tryz.prog.godebug=none) (started:os.Started) (hfn:Tryz.prog.funcs[f]? =some fn)
  (witness:∃(w:Θ) (tape:Tape) (i:Input),w.os=os/\(w.forCall tape i).Shaped Tryz.checked.prog/\i.vars=[]/\Input.okWide Tryz.checked.prog (w.forCall tape i) .any w.heap.size f i/\
   s.pre6 enc Tryz.checked.prog fn conds apart (w.forCall tape i).memory i.args/\a.holds Tryz.checked.prog (lone (Frame.enter Tryz.checked.prog f i.args .normal) [] (w.forCall tape i)))
  (runs:∀(W:Θ) (base:Nat) (args:Array Φ) (ds gs:List (DataW H)) (before:List MemPlace),An W->
   (∀(j:Nat) t v,fn.params[j]? =some t->args[j]? =some v->Value.okWide Tryz.prog W .any base t v)->
   DataW.Whole enc Tryz.prog fn.params.toList s.vars apart W args.toList ds gs before->
   conds.all (PathCond.test Tryz.prog ⟨fn.params.toList,ds,s.plain.varTypes Tryz.prog,gs⟩)=true->
   (DataW.weightsEach Tryz.prog (fn.params.toList++s.plain.varTypes Tryz.prog) (ds++gs)).all (·<=reachBytes)=true->
   av.OK (λv W'=>s.post enc Tryz.prog fn apart fresh handsOn false W args v {W' with os:=W.os}/\OsLater W.os W'.os) (solo (G (Frame.enter Tryz.prog f args .normal) []) W) #[]):
  ReturnsInLeavingWide a Tryz.checked os f .any (s.pre6 enc Tryz.checked.prog fn conds apart) ((OpenSpec.ofChange s).postWith enc Tryz.checked.prog fn F (outsideKept [.timePasses]) apart fresh handsOn):=by
 refine returnsInLeavingWide_of_good own started witness ?_;intro w tape i _ hsh _ hok hpre _;obtain⟨_,_,_,fn',hfn',_,_,_,_,hval⟩:=hok;have e:fn'=fn:=ae7 (hfn'.symm.trans hfn);subst e;obtain⟨⟨ds,gs,before,hw,hc⟩,hz⟩:=hpre;have hw':=DataW.Whole.of_heap (w':=w.forCall tape i) (by rfl) hw
 obtain⟨N,last,o,w',t',r1,r2,r3,v,e,hp,r4⟩:=runs (w.forCall tape i) w.heap.size i.args ds gs before (xH hsh) hval hw' hc (hz.weights hw);exact⟨N,last,o,w',t',r1,r2,r3,v,e,postWith_blind (postWith_of_post hp.1 hp.2),r4⟩
theorem MG:ownKnob Tryz.prog.godebug=none:=by kernel_rfl
theorem JC:laidOutB Tryz.prog=true:=by kernel_rfl
def K0 (W:Θ)(b:Nat):Option Obj:=if b=0 then none else W.heap[b]?
theorem acM {W:Θ}(q:Nat)(o:Obj)(h:K0 W q=some o):W.heap[q]? =some o:=by
 unfold K0 at h;split at h
 .cases h
 .exact h
theorem Zy {W:Θ}{ad:Option Addr}{l:List qk}(hG:An W)(h:OQ W ad l):OP (K0 W) ad l:=λj hj=>by
 obtain⟨h1,b,off,rfl,h2⟩:=h j hj;have h3:W.cell? ⟨b,off+j*4+3,none⟩=some (.string l[j].content):=h2 3 _ rfl;obtain⟨ob,ZZ⟩:∃ob,W.heap[b]? =some ob:=by
  unfold World.cell? at h3;cases hb:W.heap[b]? with
  |none=>rw[hb] at h3;cases h3
  |some ob=>exact⟨ob,rfl⟩
 have hb0:b≠0:=by
  rintro rfl;obtain⟨c,t,f,g1,g2⟩:=hG;unfold World.cell? at h3;rw[g1] at h3;simp only[Option.isSome_none,ι,if_false] at h3;obtain⟨q,hq,_⟩:=g2 _ (Array.mem_of_getElem? h3);cases hq
 exact⟨h1,b,off,rfl,ob,by unfold K0;rw[ζ hb0];exact ZZ,λw hw=>C6 h2 ZZ hw⟩
section
variable {W bI w':Θ}{π:Nat->Nat}{own:Nat->Prop}
theorem Dw {t:Go.Proofs.YtchcmhodnkgojaaGreat.dZ}{d:Nat}(hG:An W)(hB:dN [] (hide W) (az bI t d))(hl:Link (hidden W) av.no own av.no π bI w')(hK:∀q o,K0 W q=some o->w'.heap[q]? =some o):∀k,k<W.heap.size->w'.heap[k]? =W.heap[k]? :=λk hk=>by
 by_cases h0:k=0
 .subst h0
  obtain⟨c,t',f,g1,g2⟩:=hG;have e1:bI.heap[0]? =(hide W).heap[0]? :=hB.block 0 (by rw[gT];exact hk) (by simp);rw[sD,g1] at e1;simp only[ε,if_true] at e1;have e2:=(hl.wr.ok 0 _ e1 (λq=>q.2 rfl) id).2;rw[hl.zero,oT λr hr=>by
   cases hr with
   |cells hv hr=>
    obtain⟨q,rfl,_⟩:=g2 _ hv;cases hr] at e2
  rw[e2,g1]
 .have e:W.heap[k]? =some W.heap[k]:=ν hk
  rw[hK k W.heap[k] (by unfold K0;rw[ζ h0];exact e),e]
theorem Fz {H:Type}{enc:η×Φ->H}{P:ω}{t:η}(hl:laidOutB P=true)(hr:P.readableRec t=true)(hrow:t<P.types.size){W W':Θ}{v:Φ}{d:DataW H}{ps:List MemPlace}
  (h:DataW.Trod enc P W 0 (λ_=>true) true t v d ps) (hb:∀k,k<W.heap.size->W'.heap[k]? =W.heap[k]?) (hlt:∀x∈ps,x.block<W.heap.size):
  DataW.Trod enc P W' 0 (λb=>decide (b<W.heap.size)) true t v d ps:=
 WideElems.Trod_stays hl hr hrow h (λx hx=>by
  cases x with
  |cell b o=>exact World.cell?_of_block (w:=W) (hb b (hlt _ hx))
  |map b=>exact hb b (hlt _ hx)) (λx hx=>by simpa using hlt x hx)
theorem Dx {W w':Θ}(hos:w'.os=W.os)(ho:w'.output=W.output)(hb:∀k,k<W.heap.size->w'.heap[k]? =W.heap[k]?)(may:MemPlace->Prop):W.keptBut w' may:=by
 refine⟨hos,ho,λi hi=>?_⟩;rw[hb i hi];split<;>simp_all
end
theorem Fi {SB:Int}{b2 b3:Ξ}{H:Nat->Prop}{wL:Θ}:av.VA H wL (pU SB b2 b3).tmps:=λv hv=>by
 unfold pU at hv;simp only[rn,List.mem_toArray,ab8,List.not_mem_nil,or_false,or_self] at hv;rcases hv with rfl|rfl|rfl|rfl|rfl
 .exact fT
 .intro b hb;cases hb
 .intro b hb;cases hb
 .intro b hb;cases hb
 .exact fT
theorem Dg (sv:Φ)(SB:Int)(b2 b3:Ξ):aY id (pU SB b2 b3) (Ji sv undef)={tmps:=#[sv,.int .i64 SB,.string b2,.string b3]++Array.replicate (Tryz.f12.ntmps-4) undef,defers:=[]}:=by
 rw[show Value.int .i64 SB=Value.ren id (.int .i64 SB) by simp,show Value.string b2=Value.ren id (.string b2) by simp,show Value.string b3=Value.ren id (.string b3) by simp]
 kernel_rfl
theorem yU (os:Os)(started:os.Started)(H:Type)(enc:η×Φ->H)(F:Stop.Interp):
  ReturnsInLeavingWide Rows.openedRow.assume Tryz.checked os 12 .any (Rows.openedRow.pre enc Tryz.prog Tryz.f12 (OpenSpec.ofChange Rows.openedSpec))
   ((OpenSpec.ofChange Rows.openedSpec).postWith enc Tryz.prog Tryz.f12 F (outsideKept [.timePasses]) Rows.openedRow.apart Rows.openedRow.fresh Rows.openedRow.handsOn):=by
 refine nj (s:=Rows.openedSpec) (conds:=[]) MG started Tryz.func12
  (ChangeSpec.witness6c (enc:=enc) (C:=Tryz.checked) ⟨#[],#[.slice none 0 0,.int .i64 0,.string ⟨#[]⟩,.string ⟨#[]⟩],[]⟩ 8 (by kernel_rfl) (by kernel_rfl) (by kernel_rfl) (by kernel_rfl)) ?_
 intro W base args ds gs before hG hval0 hW hcnd _;have hval:∀(j:Nat) t v,Tryz.f12.params[j]? =some t->args[j]? =some v->Value.okWide Tryz.prog W .any base t v:=hval0;have hW':=hW;obtain⟨p,q,Z3,hV,rfl,hfz,hnd⟩:=hW;have hA:DataW.TrodAll enc Tryz.prog W 0 (λ_=>true) true Tryz.f12.params.toList args.toList ds p:=Z3;rw[Tryz.params12] at hA hval
 obtain⟨v0,v1,v2,v3,d0,d1,d2,d3,p0,p1,p2,p3,rfl,rfl,rfl,h0,h1,h2,h3⟩:=trodAll_four hA;have lt0:∀x∈p0,x.block<W.heap.size:=by obtain⟨m,hm⟩:=h0;exact DataW.trod_lt m _ _ _ hm
 obtain⟨rfl,rfl⟩:=trodVars_none hV;have k0:=h0;obtain⟨ajZ,g0⟩:=h0;obtain⟨a0,akY,cap0,rfl⟩:=okWide_slice Tryz.underlying22 (hval 0 22 v0 rfl rfl);obtain⟨l0,rfl,X0,hl0,hcap0⟩:=BF (by simpa [Value.cells] using g0);obtain⟨SB,rfl,rfl,rfl,w1⟩:=open_int Tryz.underlying3 (hval 1 3 v1 rfl rfl) h1
 obtain⟨b2,rfl,rfl,rfl,w2⟩:=Go.ChangeMaps.open_string Tryz.underlying9 (hval 2 9 v2 rfl rfl) h2;obtain⟨b3,rfl,rfl,rfl,w3⟩:=Go.ChangeMaps.open_string Tryz.underlying9 (hval 3 9 v3 rfl rfl) h3;have hb2:b2.size<=9223372036854775807:=ae3 w2 (by decide);have hb3:b3.size<=9223372036854775807:=ae3 w3 (by decide);clear Z3 hval0
 refine av.Dp (W:=W) (H:=hidden W) (K:=K0 W) (wL:=hide W) (R2:=TX (hide W)) Tryz.func12 rfl (by kernel_rfl) rfl (Fu hG.y8 (K0 W) rfl) acM (pU SB b2 b3) (Ji (.slice a0 l0.length cap0) undef) Fi rfl (Dg _ _ _ _) (gT W) (Gd a0 cap0 l0 (Zy hG X0) SB (nC w1) b2 b3 hb2 hb3 (JL hG.y8) rfl) ?_
 intro v bI π own w' ⟨t,d,hv,hB⟩ hl hvv hag hs1 hs2 hos hout hK;subst hv;have hb:=Dw hG hB hl hK;rw[show Value.ren π (.bool true)= .bool true by simp]
 exact⟨⟨_,_,_,[],_,[],hW',trodAll_mk1 (shut_bool Tryz.underlying4 _),(trodAll_cons_mk (Fz JC (by kernel_rfl) (of_decide_eq_true (by kernel_rfl)) k0 hb lt0) (trodAll_cons_mk (shut_int Tryz.underlying3 w1) (trodAll_cons_mk (Go.ChangeMaps.shut_string Tryz.underlying9 w2) (trodAll_cons_mk (Go.ChangeMaps.shut_string Tryz.underlying9 w3) trodAll_mk0)))),rfl,Dx (W:=W) (w':={w' with os:=W.os}) rfl hout hb _,λh=>by cases h⟩,hos⟩
theorem opened_said:Rows.OpenedSaid:=
 OpenClaim.holds_of_wide_leaving_time 12 Tryz.f12 rfl rfl rfl rfl rfl rfl rfl ⟨rfl,rfl,rfl,rfl,rfl⟩ rfl rfl rfl rfl rfl (by kernel_rfl) Tryz.func12 (by kernel_rfl)
  (of_decide_eq_true (by kernel_rfl)) (by unfold Func.isWrapper;first|(rw[χ (by decide+kernel)];kernel_rfl)|(rw[ζ (by decide+kernel)];exact⟨rfl,rfl⟩))
  (λos started H enc _ F=>yU os started H enc F)
end
end
end Go.Proofs.YtchcmhodnkgojaaGreat
