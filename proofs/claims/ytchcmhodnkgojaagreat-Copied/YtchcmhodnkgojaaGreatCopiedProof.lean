/- Copied is true at every input: at any time a store on a copy of the bytes has the same files and goes on alike: the given statement Rows.CopiedSaid, with no condition beside the row's own. -/
import Derived.Test.YtchcmhodnkgojaaGreatPart11
import Derived.Test.YtchcmhodnkgojaaGreatPart12
import Derived.Conc.HoldsTime
import Derived.Leaving
import Derived.ProofKit
import Derived.Carry
import Derived.Deep.Slices
import Derived.Lib.SmallJoins
set_option linter.all false
set_option maxRecDepth 100000
set_option maxHeartbeats 8000000
namespace Go.Proofs.YtchcmhodnkgojaaGreat
noncomputable section
section
open Go.RowKit Go.Lib
theorem vW:37<aJ 200:=by decide
section
variable {L:List η}{n:Nat}{H:bZ}
theorem Ad (h:Has L n H)(h7:ez H)(s:Nat)(p c:List η)(hp:p∈P7)(a:Int):(DS.calm L a).qS n s (aB p) (aB c)=(DS.calm L a).put n s (aB p) (aB c):=by
 obtain⟨m,hr,hm⟩:=h;have hm7:=h7.slots hm;have Nk:=lR (x:=DS.calm L a) hr rfl hm7;unfold DS.qS;rw[show(DS.calm L a).failed=false from rfl,Nk];simp only[τ,if_false];rw[ζ];refine Nat.not_lt.2 (AQ _ λf hf _=>?_);rcases List.mem_append.1 hf with hf|hf
 .rw[kM (x:=DS.calm L a) hr rfl] at hf
  exact(hm7.files hr f hf).2
 .obtain rfl:=ae1.1 hf
  exact hp
theorem rT (h:Has L n H)(h7:ez H)(s:Nat)(p:Ξ)(a:Int):(DS.calm L a).gO n s p=(DS.calm L a).remove n s p:=by
 obtain⟨m,hr,hm⟩:=h;have Nk:=lR (x:=DS.calm L a) hr rfl (h7.slots hm);unfold DS.gO;rw[show(DS.calm L a).failed=false from rfl,Nk];simp only[τ,if_false]
theorem BS (h:Has L n H)(s:Nat)(p:List η)(hs:H s p=none)(a:Int):(DS.calm L a).remove n s (aB p)=(DS.calm L a,.int .i64 5):=by
 obtain⟨m,hr,hm⟩:=h;have hh:=hm s p;rw[hs] at hh;exact Du n s (aB p) (DS.calm L a) (qX (x:=DS.calm L a) hr rfl s p hh)
theorem ez.set {H:bZ}(h:ez H){s:Nat}{p:List η}(hs:s<=2/\p∈P7)(r:Option (List η)):ez (fK H s p r):=λs' p' hn=>by
 unfold fK at hn;split at hn
 .rename_i e;rw[e.1,e.2];exact hs
 .exact h s' p' hn
def AU (H:bZ)(k sd pt:Int)(ct:Ξ):bZ×Int:=
 if br k 4=2 then(if H (br sd 2) (io (br pt 7))=none then(H,5) else(fK H (br sd 2) (io (br pt 7)) none,0))
 else(fK H (br sd 2) (io (br pt 7)) (some (di ct).data.toList),0)
theorem KB (h:Has L n H)(h7:ez H)(hn:37<aJ n)(k sd pt:Int)(ct:Ξ):
  ∃L' N,Has L' n (AU H k sd pt ct).1/\ez (AU H k sd pt ct).1/\(0:Int)<=N/\N<=5/\∀a,(DS.calm L a).act n k sd pt ct=(DS.calm L' (a+N),.int .i64 (AU H k sd pt ct).2):=by
 have hs:=o6 sd 2;have hp:=o6 pt 7;have hcl:=EA ct;have hpm:=JA (br pt 7) hp;have hsp:br sd 2<=2/\io (br pt 7)∈P7:=⟨by omega,hpm⟩
 unfold AU DS.act
 by_cases hk:br k 4=2
 .simp only[ξ hk]
  by_cases hx:H (br sd 2) (io (br pt 7))=none
  .simp only[ξ hx]
   refine⟨L,0,h,h7,by omega,by omega,λa=>?_⟩;rw[rT h h7,<-lC,BS h _ _ hx,Int.add_zero]
  .simp only[ζ hx]
   obtain⟨L',q1,q2⟩:=ri h _ _ hx;refine⟨L',2,q1,h7.set hsp _,by omega,by omega,λa=>?_⟩;rw[rT h h7,<-lC,q2]
 .simp only[ζ hk]
  obtain⟨L',q1,q2⟩:=wo h h7.eight (by omega) (br sd 2) (io (br pt 7)) _ (Cl (by omega) hpm) hcl;refine⟨L',5,q1,h7.set hsp _,by omega,by omega,λa=>?_⟩;have hb:aB (di ct).data.toList=di ct:=by simp[aB]
  have:=Ad h h7 (br sd 2) (io (br pt 7)) (di ct).data.toList hpm a;rw[hb,lC] at this;rw[this];have q:=q2 a;rw[hb,lC] at q;exact q
end
def tv (H:bZ):List (List η):=@dite _ (∃ps,jH H ps) (Classical.propDecidable _) (λh=>h.choose) λ_=>[]
theorem EG {H:bZ}{ps:List (List η)}(h:jH H ps):tv H=ps:=by
 unfold tv;rw[dif_pos ⟨ps,h⟩];exact(Exists.choose_spec (⟨ps,h⟩:∃ps,jH H ps)).uniq h
def wP (L:List η)(H:bZ):List η×Int:=(((DS.calm L 0).yx 200 (ib H (tv H))).1.aI,((DS.calm L 0).yx 200 (ib H (tv H))).1.acts)
def G4 (L:List η)(H:bZ)(k sd pt:Int)(ct:Ξ):List η×Int:=
 if br k 4=3 then wP L H else(((DS.calm L 0).act 200 k sd pt ct).1.aI,((DS.calm L 0).act 200 k sd pt ct).1.acts)
theorem CN {L L':List η}{H:bZ}{k:Int}{ps:List (List η)}{v:Φ}(hP:jH H ps)(h:∀a,(DS.calm L a).yx 200 (ib H ps)=(DS.calm L' (a+k),v)):wP L H=(L',k):=by
 unfold wP;rw[EG hP,h 0,Int.zero_add];rfl
structure bh (w:Θ)(F:List Nat)(s d:Nat)(L:List η)(a:Int)(H:bZ):Prop where
 store:aP w F s d 200 (DS.calm L a)
 has:Has L 200 H
 seven:ez H
 lo:0<=a
section
variable {w w' wL:Θ}{F:List Nat}{s d:Nat}{L:List η}{a:Int}{H:bZ}
theorem bh.az (h:bh w F s d L a H)(t:Go.Proofs.YtchcmhodnkgojaaGreat.d7)(k:Nat):bh (az w t k) F s d L a H:=⟨h.store.az t k,h.has,h.seven,h.lo⟩
theorem bh.blk {S:List Nat}(h:bh w F s d L a H)(f:d8 S w w')(h1:s∉S)(h2:∀k∈S,k∉F):bh w' F s d L a H:=⟨h.store.blk f h1 h2,h.has,h.seven,h.lo⟩
theorem bh.new (h:bh w F s d L a H)(f:aQ [] w w'):bh w' F s d L a H:=⟨h.store.new f,h.has,h.seven,h.lo⟩
theorem bh.ok (h:bh w F s d L a H)(ha:a<=900000000):Cj (DS.calm L a) 200:=PG h.has h.seven vW a h.lo ha
theorem bh.synced (h:bh wL F s d L a H){v:Φ}(hR:AW F s d 200 (DS.calm L a) wL v w'):
  ∃ps cv F' L' k,v= .tuple #[.agg #[.int .i64 (ib H ps).length,cv],.int .i64 0]/\jH H ps/\bh w' F' s d L' (a+k) (kh H)/\bV F F' wL/\d8 F wL w'/\(0:Int)<=k/\k<=80/\(ib H ps=[]->L'=L/\k=0)/\
   w'.ownsRow wL.heap.size 9 1 cv (yE H ps).length (fo (yE H ps))/\(∀g,cv.ownBlock=some g->g∉F')/\wP L H=(L',k):=by
 have hm:=DM h.has h.seven a;rcases hR with⟨h1,_⟩|⟨_,ps,F',hP,hS,hG,hB,hv⟩
 .exact absurd hm h1
 .have TK:=tY (x:=DS.calm L a) h.has rfl hP
  obtain⟨e1,e2⟩:=tL (x:=DS.calm L a) h.has rfl ps;obtain⟨L',k,q1,q2,q3,q4,q5,q6⟩:=z6 h.has h.seven vW TK;rw[e1,q5 a] at hS;rw[e1,e2,q5 a] at hv;rcases hv with⟨cv,_,rfl,h7,h8⟩|⟨e,h6,h7,_⟩
  .exact⟨ps,cv,F',L',k,rfl,TK,⟨hS,q1,q2,by have:=h.lo;omega⟩,hG,hB,q3,q4,q6,h7,h8,CN TK q5⟩
  .cases h7;exact absurd rfl h6
theorem bh.PH (h:bh wL F s d L a H){e:Int}(hR:jj F s d 200 (DS.calm L a) wL e w'):e=0/\∃F' L' k,bh w' F' s d L' (a+k) (kh H)/\bV F F' wL/\d8 F wL w'/\(0:Int)<=k/\k<=80/\wP L H=(L',k):=by
 have hm:=DM h.has h.seven a;rcases hR with⟨h1,_⟩|⟨_,ps,F',hP,hS,hG,hB,hv⟩
 .exact absurd hm h1
 .have TK:=tY (x:=DS.calm L a) h.has rfl hP
  obtain⟨e1,e2⟩:=tL (x:=DS.calm L a) h.has rfl ps;obtain⟨L',k,q1,q2,q3,q4,q5,q6⟩:=z6 h.has h.seven vW TK;rw[e1,q5 a] at hS hv;cases hv;exact⟨rfl,F',L',k,⟨hS,q1,q2,by have:=h.lo;omega⟩,hG,hB,q3,q4,CN TK q5⟩
def tD (H:bZ)(k sd pt:Int)(ct:Ξ):bZ×Int:=if br k 4=3 then(kh H,0) else AU H k sd pt ct
theorem yW (H:bZ)(k sd pt:Int)(ct:Ξ):(tD H k sd pt ct).2=0\/(tD H k sd pt ct).2=5:=by
 unfold tD AU;split
 .exact .inl rfl
 .split
  .split
   .exact .inr rfl
   .exact .inl rfl
  .exact .inl rfl
theorem bh.ia (h:bh wL F s d L a H){k sd pt:Int}{ct:Ξ}{v:Φ}(hR:EW F s d 200 (DS.calm L a) k sd pt ct wL v w'):
  v= .int .i64 (tD H k sd pt ct).2/\∃F' L' N,bh w' F' s d L' (a+N) (tD H k sd pt ct).1/\bV F F' wL/\d8 F wL w'/\(0:Int)<=N/\N<=80/\G4 L H k sd pt ct=(L',N):=by
 rcases hR with⟨h3,rfl,F',h4,h5,h6⟩|⟨h3,e,rfl,hE⟩
 .unfold tD
  rw[ζ h3];obtain⟨L',N,q1,q2,q3,q4,q5⟩:=KB h.has h.seven vW k sd pt ct;have hL:G4 L H k sd pt ct=(L',N):=by
   unfold G4;rw[ζ h3,q5 0,Int.zero_add];rfl
  rw[q5 a] at h4⊢;exact⟨rfl,F',L',N,⟨h4,q1,q2,by have:=h.lo;omega⟩,h5,h6,q3,by omega,hL⟩
 .unfold tD
  rw[ξ h3];obtain⟨rfl,F',L',N,q1,q2,q3,q4,q5,q6⟩:=h.PH hE;exact⟨rfl,F',L',N,q1,q2,q3,q4,q5,by unfold G4;rw[ξ h3];exact q6⟩
end
def H0:bZ:=λ_ _=>none
theorem uj (n:Nat)(h:16<=n):Has (fv n) n H0:=⟨_,Js n h,λ_ _ i f hf=>by cases hf⟩
def H1:bZ:=fK H0 0 [97] (some [102,105,114,115,116])
theorem Ud:([97]:List η)∈P7:=BE.2 ⟨0,by omega,by decide⟩
theorem Bi:ez H0:=λ_ _ h=>absurd rfl h
theorem UP:ez H1:=Bi.set ⟨by omega,Ud⟩ _
theorem UE {ps:List (List η)}(h:jH H1 ps):ib H1 ps=[([97],0)]:=by
 have hmem:∀l,l∈ps↔l=[97]:=λl=>by
  rw[h.2];unfold H1 fK H0
  by_cases e:l=[97]<;>simp[e]
 have hps:ps=[[97]]:=by
  cases ps with
  |nil=>exact absurd ((hmem [97]).2 rfl) (by simp)
  |cons p r=>
   have hp:=(hmem p).1 (by simp);subst hp;cases r with
   |nil=>rfl
   |cons q r=>
    have hq:=(hmem q).1 (by simp);subst hq;have:=(List.pairwise_cons.1 h.1).1 [97] (by simp);exact absurd this (List.lt_irrefl _)
 rw[hps];rfl
abbrev St:=List η×Int×bZ
def BY:List η:=((DS.calm (fv 200) 0).put 200 0 ⟨#[97]⟩ (aB [102,105,114,115,116])).1.aI
def st0:St:=((wP BY H1).1,5+(wP BY H1).2,kh H1)
def nxt (st:St)(y:ql):St:=((G4 st.1 st.2.2 y.kind y.side y.path y.content).1,st.2.1+(G4 st.1 st.2.2 y.kind y.side y.path y.content).2,(tD st.2.2 y.kind y.side y.path y.content).1)
def Ak (l:List ql):St:=l.foldl nxt st0
theorem Fu {l:List ql}{k:Nat}{L L':List η}{a N:Int}{H:bZ}(hk:k<l.length)(h:Ak (l.take k)=(L,a,H))(hN:G4 L H l[k].kind l[k].side l[k].path l[k].content=(L',N)):
  Ak (l.take (k+1))=(L',a+N,(tD H l[k].kind l[k].side l[k].path l[k].content).1):=by
 unfold Ak at h⊢;rw[ac0 hk,List.foldl_append,h];simp only[List.foldl_cons,List.foldl_nil,nxt,hN]
theorem aa1:kh H1 1 [97]=some [102,105,114,115,116]:=by decide
end
section
open Go.RowKit Go.Lib Go.Sort
theorem d8.cell {S:List Nat}{w w':Θ}(h:d8 S w w'){a:Addr}{v:Φ}(hc:w.cell? a=some v)(ha:a.block∉S):w'.cell? a=some v:=by
 unfold World.cell? at hc⊢;cases hb:w.heap[a.block]? with
 |none=>rw[hb] at hc;cases hc
 |some o=>
  rw[h.block a.block (Ψ.1 hb).1 ha,hb];rw[hb] at hc;exact hc
def ZI (l:List ql)(wL:Θ)(v:Φ)(w':Θ):Prop:=∃s d F L a H,v= .pointer (some ⟨s,0,none⟩)/\bh w' F s d L a H/\bV [] F wL/\d8 [] wL w'/\wL.heap.size<=s/\a<=30000/\Ak (l.take 300)=(L,a,H)
def uB (sl:Φ)(s k:Nat)(u:Nat->Φ):Act:={tmps:=#[sl,u 1,u 2,.pointer (some ⟨s,0,none⟩),u 4,u 5,u 6,u 7,u 8,u 9,.int .i64 k,u 11,u 12,u 13,u 14,u 15,u 16,u 17,u 18,u 19,u 20,u 21,u 22,u 23,u 24,u 25,u 26,u 27,u 28,u 29,u 30,u 31,u 32,u 33,u 34,u 35,u 36,u 37,u 38,u 39,u 40,u 41,u 42,u 43,u 44,u 45,u 46,u 47,u 48,u 49,u 50,u 51,u 52,u 53,u 54,u 55,u 56,u 57,u 58,u 59,u 60,u 61,u 62,u 63,u 64,u 65,u 66,u 67,u 68,u 69,u 70,u 71,u 72,u 73,u 74],defers:=[]}
theorem bV.nil {F:List Nat}{w:Θ}(g:bV [] F w)(hG:qk w):0∉F:=g.zero hG (by simp)
theorem lp {F:List Nat}{w wa wb:Θ}(g:bV [] F w)(hB:d8 F wa wb)(hA:d8 [] w wa):d8 [] w wb:=(hA.trans hB λi hi=>(g i hi).imp (by simp) id)
end
section
open Go.Conc
namespace ai
section
variable (Ok:Env)(r:Nat)
def eN (f:ab9)(D:j6)(t:List Item)(R:Act->Θ->Prop)(a:Act)(wL:Θ):Prop:=
 ∀(CS:List κ) (π:Nat->Nat) (M:Machine) (tr:Trace),Ck Ok π wL M tr (G ((base f).at (aT π a D) t) CS)->VA Ok.H wL a.tmps->a.defers=[]->
  (∀(a':Act) (D':j6) (bD:Θ) (co:Nat->Nat) (M':Machine) (j4:Trace) (todo:List Item),r∉sl D'->(∃t d,R a' (az bD t d))->Ck Ok co bD M' j4 (G {(base f).at (aT co a' D') todo with mode:= .returning} CS)->
   VA Ok.H bD a'.tmps->a'.defers=[]->(∀b,b<wL.heap.size->co b=π b)->wL.heap.size<=bD.heap.size->Ok.Ok M' j4)->Ok.Ok M tr
end
section
variable {Ok:Env}{r:Nat}{f:ab9}{D:j6}{k t:List Item}{R:Act->Θ->Prop}{a:Act}{wL:Θ}
theorem fC (t':d7)(d:Nat):eN Ok r f D t R a (az wL t' d)↔eN Ok r f D t R a wL:=
 ⟨λh CS π M tr hp=>h CS π M tr ((Ck.az t' d).2 hp),λh CS π M tr hp=>h CS π M tr ((Ck.az t' d).1 hp)⟩
theorem iy {t':List Item}(hs:∀(b:Act) (CS:List κ) (w:Θ),(∀x,i9 (sl D) x=true->a.eval x= .bool true->b.eval x= .bool true)->(∀x,i9 (sl D) x=true->a.eval x= .bool false->b.eval x= .bool false)->stepG PP true (G ((base f).at b t) CS) w= .go (G ((base f).at b t') CS) w)
  (h:eN Ok r f D t' R a wL):eN Ok r f D t R a wL:=λCS π M tr hp ha hd hk=>by
 have ev:∀(x:aa9) (t:Bool),i9 (sl D) x=true->a.eval x= .bool t->(aT π a D).eval x= .bool t:=λx t ho hx=>by
  cases x with
  |tmp i=>
   show(xJ D (a.tmps.map (Value.ren π))).getD i undef=_;rw[ac4,sG D _ i (Hu ho),<-ac4,jY,show a.tmps.getD i undef=_ from hx];simp
  |const v=>exact hx
  |global g=>cases hx
  |func f=>cases hx
 exact eh hp (hs _ _ · (λx ho=>ev x true ho) λx ho=>ev x false ho) λM' j4 hp'=>h CS π M' j4 hp' ha hd hk
theorem cq {x y:Code}(h:eN Ok r f D (.code x::.code y::k) R a wL):eN Ok r f D (.code (.seq x y)::k) R a wL:=iy (λ_ _ _ _ _=>stepG_seq) h
theorem qa {id:Nat}{c:Code}(h:eN Ok r f D (.code c::.inBlock id::k) R a wL):eN Ok r f D (.code (.block id c)::k) R a wL:=iy (λ_ _ _ _ _=>stepG_block) h
theorem pD {id:Nat}(h:eN Ok r f D k R a wL):eN Ok r f D (.inBlock id::k) R a wL:=iy (λ_ _ _ _ _=>stepG_inBlock) h
theorem Oz {c:Code}(h:eN Ok r f D (.code c::.inLoop c::k) R a wL):eN Ok r f D (.code (.loop c)::k) R a wL:=iy (λ_ _ _ _ _=>stepG_loop) h
theorem GJ {c:Code}(h:eN Ok r f D (.code c::.inLoop c::k) R a wL):eN Ok r f D (.inLoop c::k) R a wL:=iy (λ_ _ _ _ _=>stepG_inLoop) h
theorem tn (h:eN Ok r f D k R a wL):eN Ok r f D (.code .skip::k) R a wL:=iy (λ_ _ _ _ _=>stepG_skip) h
theorem pE {id:Nat}{k':List Item}(he:exitTo id k=some k')(h:eN Ok r f D k' R a wL):eN Ok r f D (.code (.exit id)::k) R a wL:=iy (λ_ _ _ _ _=>stepG_exit he) h
theorem ji {x:aa9}{p q:Code}{b:Bool}(hx:a.eval x= .bool b)(ho:i9 (sl D) x=true)(h:eN Ok r f D (.code (if b then p else q)::k) R a wL):eN Ok r f D (.code (.cond x p q)::k) R a wL:=by
 refine iy (λb' CS w h1 h2=>?_) h;cases b with
 |true=>exact stepG_cond (h1 x ho hx)
 |false=>exact stepG_cond (h2 x ho hx)
theorem eY {id:Nat}{ops:Array Oper}(h:eN Ok r f D (.inRegion ops (List.range ops.size)::k) R a wL):eN Ok r f D (.code (.region id ops false)::k) R a wL:=iy (λ_ _ _ _ _=>stepG_region) h
theorem cg {ops:Array Oper}(h:eN Ok r f D k R a wL):eN Ok r f D (.inRegion ops []::k) R a wL:=iy (λ_ _ _ _ _=>stepG_region_end) h
def yT (Ok:Env)(r:Nat)(gz:Option Nat)(f:ab9)(D:j6)(k:List Item)(R:Act->Θ->Prop):Exit->Act->Θ->Prop
 |.normal,a,w=>eN Ok r f D k R a w
 |.exit id,a,w=>gz=some id/\∃k',exitTo id k=some k'/\eN Ok r f D k' R a w
 |.ret,a,w=>∃t d,R a (az w t d)
 |_,_,_=>False
theorem FE {gz:Option Nat}:QOk gz (yT Ok r gz f D k R) where
 tape:=λe a w t d=>by
  cases e with
  |normal=>exact fC t d
  |exit id=>exact and_congr Iff.rfl (exists_congr λk'=>and_congr Iff.rfl (fC t d))
  |ret=>exact Iff.rfl
  |_=>exact Iff.rfl
 out:=λe a w h=>by
  cases e with
  |normal=>exact .inl rfl
  |ret=>exact .inr (.inl rfl)
  |exit id=>exact .inr (.inr ⟨id,rfl,h.1⟩)
  |_=>exact h.elim
theorem EE {t0:List Item}(gz:Option Nat)(hr:r∉sl D)(h0:∃fn,PP.funcs[f]? =some fn)(Cq:∀it∈t0,ce (sl D) PP S0 E0 true it=true)(hx:∀id,gz=some id->∃y,exitTo id k=some y)
  (hwp:∀t d,WpT PP t0 (yT Ok r gz f D k R) a (az wL t d)):eN Ok r f D (t0++k) R a wL:=λCS π M tr hp ha hd hk=>by
 refine jB hp (λown w hl=>MX CW (λ_ _ h=>h) h0 x5 FE (B:=base f) (D0:=D) (CS:=CS) (kT:=k) rfl (by simp[base]) hx Cq hl ha hd hwp) ?_;rintro Dead s g w M' j4 hz ⟨e,a',bD,co,q,hl,hd',ha',hg,hag,hsz⟩ hs;have go:∀k',g=G ((base f).at (aT co a' D) k') CS->eN Ok r f D k' R a' bD->Ok.Ok M' j4:=λk' e h=>
  h CS co M' j4 ⟨Dead,s,w,e▸hz,hl,hs⟩ ha' hd' λa2 D2 CE vH M2 CK todo r2 rr p v d g2 z=>hk a2 D2 CE vH M2 CK todo r2 rr p v d (λb hb=>(g2 b (ψ hb hsz)).trans (hag b hb)) (ae6 hsz z)
 cases e with
 |normal=>exact go k hg q
 |exit id=>
  obtain⟨_,k',h1,h2⟩:=q;obtain⟨y,h3,h4⟩:=hg;rw[h1] at h3;cases h3;exact go k' h4 h2
 |ret=>
  obtain⟨todo,rfl⟩:=hg;exact hk a' D bD co M' j4 todo hr q ⟨Dead,s,w,hz,hl,hs⟩ ha' hd' hag hsz
 |_=>exact q.elim
theorem cD {cd:Code}(gz:Option Nat)(hr:r∉sl D)(h0:∃fn,PP.funcs[f]? =some fn)(Cq:eU (sl D) PP S0 E0 true cd=true)(hx:∀id,gz=some id->∃y,exitTo id k=some y)
  (I:Θ->Prop) (hb:∀w t d,I w->I (az w t d)) (hI:I wL) (hwp:∀w,I w->w.heap.size=wL.heap.size->cd.wp PP (yT Ok r gz f D k R) a w):eN Ok r f D (.code cd::k) R a wL:=
 EE (t0:=[.code cd]) gz hr h0 (λit hit=>by simp at hit;subst hit;exact Cq) hx λt d=>hwp _ (hb _ t d hI) rfl
theorem nO {ops:Array Oper}{i:Nat}{rest:List Nat}{o:Oper}(ho:ops[i]? =some o)(tG:eM (sl D) PP S0 E0 true o=true)(hw:∀π,Region.wanted o (yielded ops (aT π a D).tmps)=true)
  (h:∀t d,uponE o a (λa' w'=>eN Ok r f D (.inRegion ops rest::k) R a' w') (λ_ _ _=>False) ((execOp a.eval o).run PP (az wL t d))):eN Ok r f D (.inRegion ops (i::rest)::k) R a wL:=λCS π M tr hp ha hd hk=>by
 have hkb:(base f).kind≠.early:=by simp[base]
 obtain⟨_,_,hdst⟩:=k9 tG;refine jB (Stop:=λs g w=>∃a' bD co,eN Ok r f D (.inRegion ops rest::k) R a' bD/\g=G ((base f).at (aT co a' D) (.inRegion ops rest::k)) CS/\Link Ok.H no s no co bD w/\VA Ok.H bD a'.tmps/\a'.defers=[]/\(∀b,b<wL.heap.size->co b=π b)/\wL.heap.size<=bD.heap.size) hp (λown w hl=>?_) ?_
 .refine aC.step rfl λw₁ hR=>?_
  obtain⟨r1,r2,r3⟩:=x5.rel own w w₁ hR;obtain⟨co,hl',Id,hag⟩:=hl.rely r1 r2 r3;have hl1:LW Ok.H no (az wL w₁.tape w₁.drawn):=hl'.lw.az _ _;have eπ:aT π a D=aT co a D:=kN ha (λb hb=>(Id b hb).symm) D;have h1:=h w₁.tape w₁.drawn
  have both:=fun {x bD} (hr:(execOp a.eval o).run PP (az wL w₁.tape w₁.drawn)= .ok x bD)=>nV CW hl'.inj hl'.zero (λ_ _ h=>h) hl1 hl'.wr D ha tG hr λi _=>hag i
  cases hr:(execOp a.eval o).run PP (az wL w₁.tape w₁.drawn) with
  |halt hh u=>rw[hr] at h1;exact h1.elim
  |ok nx u=>
   rw[hr] at h1;obtain⟨l1,l2,x',w',e1,e2,e3,e4,e5,e6⟩:=both hr;obtain⟨o1,o2⟩:=hl'.sD (λi _=>hag i) l1 l2 e3 e4 (λe he=>e5 e (mem_listed (fn:=(base f).fn) he))
   have fin:∀v:Φ,eN Ok r f D (.inRegion ops rest::k) R (a.put o.dst v) u->VV (hU Ok.H u) v->aC PP true lG (λs g w=>∃a' bD co,eN Ok r f D (.inRegion ops rest::k) R a' bD/\g=G ((base f).at (aT co a' D) (.inRegion ops rest::k)) CS/\Link Ok.H no s no co bD w/\VA Ok.H bD a'.tmps/\a'.defers=[]/\(∀b,b<wL.heap.size->co b=π b)/\wL.heap.size<=bD.heap.size)
     (lG.up own w₁ w') (G ((base f).at (aT co (a.put o.dst v) D) (.inRegion ops rest::k)) CS) w':=λv hc hv=>
    .stop λw₂ ⟨d,e⟩=>⟨_,u,co,hc,rfl,by rw[e];exact(o2 _ λb=>Iff.rfl).at d,iZ (VA.grow ha l2) hv,(put_defers _ _ _).trans hd,λb hb=>(Id b hb).symm,l2⟩
   cases nx with
   |value v=>
    cases e2;refine⟨_,w',_,by rw[eπ];exact stepG_value ho (hw _) hkb e1,o1,?_⟩;rw[gU _ _ _ _ hdst];exact fin v h1 e6
   |skip=>
    cases e2;refine⟨_,w',_,by rw[eπ];exact stepG_none ho (hw _) hkb e1,o1,?_⟩;have e:(aT co a D).put o.dst undef=aT co (a.put o.dst undef) D:=by
     have:=gU (π:=co) a D o.dst undef hdst
     rwa [show Value.ren co undef=undef by simp[undef]] at this
    rw[e];exact fin undef h1 ij
   |_=>exact h1.elim
 .rintro Dead s g w M' j4 hz ⟨a',bD,co,hc,rfl,hl,ha',hd',hag,hsz⟩ hs
  exact hc CS co M' j4 ⟨Dead,s,w,hz,hl,hs⟩ ha' hd' λa2 D2 CE vH M2 CK todo r2 rr p v d g2 z=>hk a2 D2 CE vH M2 CK todo r2 rr p v d (λb hb=>(g2 b (ψ hb hsz)).trans (hag b hb)) (ae6 hsz z)
theorem Oy {ops:Array Oper}{i:Nat}{rest:List Nat}{o:Oper}(ho:ops[i]? =some o)(tG:eM (sl D) PP S0 E0 true o=true)(hg:o.guard=none)
  (h:∀t d,uponE o a (λa' w'=>eN Ok r f D (.inRegion ops rest::k) R a' w') (λ_ _ _=>False) ((execOp a.eval o).run PP (az wL t d))):eN Ok r f D (.inRegion ops (i::rest)::k) R a wL:=
 nO ho tG (λπ=>by simp[Region.wanted,hg]) h
theorem mb {ops:Array Oper}{i:Nat}{rest:List Nat}{o:Oper}(ho:ops[i]? =some o)(hdst:∀t,o.dst=some t->t∉sl D)(hw:∀π,Region.wanted o (yielded ops (aT π a D).tmps)=false)
  (h:eN Ok r f D (.inRegion ops rest::k) R (a.put o.dst undef) wL):eN Ok r f D (.inRegion ops (i::rest)::k) R a wL:=λCS π M tr hp ha hd hk=>by
 refine eh hp (λw=>stepG_unwanted ho (hw π)) λM1 E3 hp1=>?_
 have e:=gU (π:=π) a D o.dst undef hdst;rw[show Value.ren π undef=undef by simp[undef]] at e;rw[e] at hp1;exact h CS π M1 E3 hp1 (iZ ha ij) ((put_defers _ _ _).trans hd) hk
theorem ut {ops:Array Oper}{i:Nat}{rest:List Nat}{o:Oper}(v:Φ)(hv:∀r,¬Value.Has r v)(ho:ops[i]? =some o)(hg:o.guard=none)(hdst:∀t,o.dst=some t->t∉sl D)
  (hrun:∀(π:Nat->Nat) (w:Θ),(execOp (aT π a D).eval o).runT PP w #[]=(.ok (.value v) w,#[])) (h:eN Ok r f D (.inRegion ops rest::k) R (a.put o.dst v) wL):eN Ok r f D (.inRegion ops (i::rest)::k) R a wL:=λCS π M tr hp ha hd hk=>by
 have hwd:∀c:Array Φ,Region.wanted o (yielded ops c)=true:=λc=>by simp[Region.wanted,hg]
 have hkb:(base f).kind≠.early:=by simp[base]
 have hl0:∀w,listed PP (base f).fn (aT π a D) o w=#[]:=λw=>by
  unfold listed;rw[show(execOp (aT π a D).eval o).events PP w #[]=#[] from congrArg Prod.snd (hrun π w)];simp[seen]
 refine eh hp (λw=>by rw[stepG_value ho (hwd _) hkb (by rw[<-Sem.runT_fst PP _ w #[],hrun]),hl0]) λM1 E3 hp1=>?_
 have e:=gU (π:=π) a D o.dst v hdst;rw[eZ v λr hr=>absurd hr (hv r)] at e;rw[e] at hp1;exact h CS π M1 E3 hp1 (iZ ha λr hr=>absurd hr (hv r)) ((put_defers _ _ _).trans hd) hk
def fT:j6->Nat->Φ->j6
 |[],_,_=>[]
 |p::D,d,v=>if p.1=d then(d,v)::D else p::fT D d v
theorem xI:∀(D:j6) (d:Nat) (v:Φ) (c:Array Φ),(sl D).Nodup->d∈sl D->(xJ D c).setIfInBounds d v=xJ (fT D d v) c
 |[],_,_,_,_,h=>by simp[sl] at h
 |p::D,d,v,c,hn,h=>by
  simp only[sl,List.map_cons,List.nodup_cons] at hn;unfold fT;split
  .rename_i e
   show(xJ D (c.setIfInBounds p.1 p.2)).setIfInBounds d v=xJ D (c.setIfInBounds d v);have hd:d∉sl D:=e▸hn.1;rw[Bx D _ d v hd,e]
   congr 1
   simp
  .rename_i e
   have hd:d∈sl D:=by
    simp only[sl,List.map_cons,ac5] at h;exact h.resolve_left λq=>e q.symm
   exact xI D d v (c.setIfInBounds p.1 p.2) hn.2 hd
theorem yG {ops:Array Oper}{i:Nat}{rest:List Nat}{o:Oper}(d:Nat)(v:Φ)(ho:ops[i]? =some o)(hwd:∀π,Region.wanted o (yielded ops (aT π a D).tmps)=true)(hdst:o.dst=some d)(hn:(sl D).Nodup)(hmem:d∈sl D)
  (hrun:∀(π:Nat->Nat) (w:Θ),(execOp (aT π a D).eval o).runT PP w #[]=(.ok (.value v) w,#[])) (h:eN Ok r f (fT D d v) (.inRegion ops rest::k) R a wL):eN Ok r f D (.inRegion ops (i::rest)::k) R a wL:=λCS π M tr hp ha hd hk=>by
 have hkb:(base f).kind≠.early:=by simp[base]
 have hl0:∀w,listed PP (base f).fn (aT π a D) o w=#[]:=λw=>by
  unfold listed;rw[show(execOp (aT π a D).eval o).events PP w #[]=#[] from congrArg Prod.snd (hrun π w)];simp[seen]
 refine eh hp (λw=>by rw[stepG_value ho (hwd π) hkb (by rw[<-Sem.runT_fst PP _ w #[],hrun]),hl0]) λM1 E3 hp1=>?_
 have e:(aT π a D).put o.dst v=aT π a (fT D d v):=by
  rw[hdst];simp only[Act.put,aT];rw[xI D d v _ hn hmem]
 rw[e] at hp1;exact h CS π M1 E3 hp1 ha hd hk
theorem gZ {ops:Array Oper}{i:Nat}{rest:List Nat}{o:Oper}(d:Nat)(v:Φ)(ho:ops[i]? =some o)(hg:o.guard=none)(hdst:o.dst=some d)(hn:(sl D).Nodup)(hmem:d∈sl D)
  (hrun:∀(π:Nat->Nat) (w:Θ),(execOp (aT π a D).eval o).runT PP w #[]=(.ok (.value v) w,#[])) (h:eN Ok r f (fT D d v) (.inRegion ops rest::k) R a wL):eN Ok r f D (.inRegion ops (i::rest)::k) R a wL:=
 yG d v ho (λπ=>by simp[Region.wanted,hg]) hdst hn hmem hrun h
theorem mY {ops:Array Oper}{i:Nat}{rest:List Nat}{o:Oper}{f2:ab9}(xs:Array aa9)(args:Array Φ){R2:Φ->Θ->Prop}(ho:ops[i]? =some o)(hg:o.guard=none)(hxs:xs.all n4=true)(hoff:xs.all (i9 (sl D))=true)(hdst:∀t,o.dst=some t->t∉sl D)
  (hrun:∀(b:Act) (w:Θ),(execOp b.eval o).runT PP w #[]=(.ok (.enter f2 (xs.map b.eval)) w,#[])) (hargs:xs.map a.eval=args) (hcc:CC Ok f2 args R2 wL)
  (h:∀v w',R2 v w'->wL.heap.size<=w'.heap.size->eN Ok r f D (.inRegion ops rest::k) R (a.put o.dst v) w'):eN Ok r f D (.inRegion ops (i::rest)::k) R a wL:=λCS π M tr hp ha hd hk=>by
 subst hargs;have hwd:∀c:Array Φ,Region.wanted o (yielded ops c)=true:=λc=>by simp[Region.wanted,hg]
 have hkb:(base f).kind≠.early:=by simp[base]
 have hev:xs.map (aT π a D).eval=(xs.map a.eval).map (Value.ren π):=by
  rw[Array.map_map];exact Array.map_congr_left λx hx=>lz a D (ae7.1 hxs x hx) (ae7.1 hoff x hx)
 have hr:∀w,(execOp (aT π a D).eval o).run PP w= .ok (.enter f2 ((xs.map a.eval).map (Value.ren π))) w:=λw=>by rw[<-Sem.runT_fst PP _ w #[],hrun,hev]
 have hl0:∀w,listed PP (base f).fn (aT π a D) o w=#[]:=λw=>by
  unfold listed;rw[show(execOp (aT π a D).eval o).events PP w #[]=#[] from congrArg Prod.snd (hrun _ w)];simp[seen]
 refine eh hp (λw=>by rw[stepG_enter ho (hwd _) hkb (hr w),hl0]) λM1 E3 hp1=>?_
 refine hcc _ CS π M1 E3 hp1 (λv hv=>?_) λv bD co M' j4 ⟨t,d,hR⟩ hp' hv hag hsz=>?_
 .obtain⟨x,hx,rfl⟩:=Array.mem_map.1 hv
  exact l9 ha (ae7.1 hxs x hx)
 .have hc:eN Ok r f D (.inRegion ops rest::k) R (a.put o.dst v) bD:=(fC t d).1 (h v _ hR hsz)
  have e:((base f).at (aT π a D) (.inRegion ops (i::rest)::k)).finish (Value.ren co v)=(base f).at (aT co (a.put o.dst v) D) (.inRegion ops rest::k):=by
   rw[Frame.finish_at,ho,Option.bind_some,kN ha hag,gU _ _ _ _ hdst]
  rw[e] at hp';exact hc CS co M' j4 hp' (iZ (VA.grow ha hsz) hv) ((put_defers _ _ _).trans hd) λa2 D2 CE vH M2 CK todo r2 rr p v d g2 z=>hk a2 D2 CE vH M2 CK todo r2 rr p v d (λb hb=>(g2 b (ψ hb hsz)).trans (hag b hb)) (ae6 hsz z)
def CCt (Ok:Env)(f:ab9)(targs:Array Φ)(R:Φ->Θ->Prop)(wL:Θ):Prop:=
 ∀(c:κ) (CS:List κ) (π:Nat->Nat) (M:Machine) (tr:Trace),Ck Ok π wL M tr (G (Frame.enter PP f targs .normal) (c::CS))->
  (∀(v:Φ) (bD:Θ) (co:Nat->Nat) (M':Machine) (j4:Trace),(∃t d,R v (az bD t d))->Ck Ok co bD M' j4 (G (c.finish (Value.ren co v)) CS)->VV (hU Ok.H bD) v->
   (∀b,b<wL.heap.size->co b=π b)->wL.heap.size<=bD.heap.size->Ok.Ok M' j4)->Ok.Ok M tr
theorem AF {a:Act}{π:Nat->Nat}{D:j6}{r:Nat}(h:r∉sl D):(aT π a D).tmps.getD r undef=Value.ren π (a.tmps.getD r undef):=by
 show(xJ D (a.tmps.map (Value.ren π))).getD r undef=_;rw[ac4,sG D _ r h,<-ac4,jY]
theorem GO {fn:Func}{cd:Code}{targs:Array Φ}{R2:Φ->Θ->Prop}(a0:Act)(D0:j6)(hf:PP.funcs[f]? =some fn)(hb:fn.body=some cd)(hres:fn.results=#[.tmp r])(ha0:VA Ok.H wL a0.tmps)(hd0:a0.defers=[])
  (he:∀π,aT π a0 D0={tmps:=targs++Array.replicate (fn.ntmps-targs.size) undef,defers:=[]}) (h:eN Ok r f D0 [.code cd] (λa w=>R2 (a.tmps.getD r undef) w) a0 wL):CCt Ok f targs R2 wL:=λc CS π M tr hp hk=>by
 rw[enter_at _ hf hb,<-he π] at hp;refine h (c::CS) π M tr hp ha0 hd0 λa' D' bD co M' j4 todo hr hR hp' ha' hd' hag hsz=>?_
 have hg:=AF (a:=a') (π:=co) hr;refine eh hp' (λw=>stepG_leave (b:=base f) (a:=aT co a' D') (todo:=todo) (v:=Value.ren co (a'.tmps.getD r undef)) rfl rfl hf ?_ ?_) λM2 CK hp2=>hk _ bD co M2 CK hR hp2 (l9 (x:= .tmp r) ha' rfl) hag hsz
 .rw[results_tmp hres,hg]
 .have e:results fn (aT co a' D').tmps=pure ((aT co a' D').tmps.getD r undef):=by simp[results,hres]
  rw[e];rfl
theorem Ky {ops:Array Oper}{i:Nat}{rest:List Nat}{o:Oper}{f2:ab9}(targs:Array Φ){R2:Φ->Θ->Prop}(ho:ops[i]? =some o)(hg:o.guard=none)(hdst:∀t,o.dst=some t->t∉sl D)
  (hrun:∀(π:Nat->Nat) (w:Θ),(execOp (aT π a D).eval o).runT PP w #[]=(.ok (.enter f2 targs) w,#[])) (hcc:CCt Ok f2 targs R2 wL)
  (h:∀v w',R2 v w'->wL.heap.size<=w'.heap.size->eN Ok r f D (.inRegion ops rest::k) R (a.put o.dst v) w'):eN Ok r f D (.inRegion ops (i::rest)::k) R a wL:=λCS π M tr hp ha hd hk=>by
 have hwd:∀c:Array Φ,Region.wanted o (yielded ops c)=true:=λc=>by simp[Region.wanted,hg]
 have hkb:(base f).kind≠.early:=by simp[base]
 have hr:∀w,(execOp (aT π a D).eval o).run PP w= .ok (.enter f2 targs) w:=λw=>by rw[<-Sem.runT_fst PP _ w #[],hrun]
 have hl0:∀w,listed PP (base f).fn (aT π a D) o w=#[]:=λw=>by
  unfold listed;rw[show(execOp (aT π a D).eval o).events PP w #[]=#[] from congrArg Prod.snd (hrun π w)];simp[seen]
 refine eh hp (λw=>by rw[stepG_enter ho (hwd _) hkb (hr w),hl0]) λM1 E3 hp1=>?_
 refine hcc _ CS π M1 E3 hp1 λv bD co M' j4 ⟨t,d,hR⟩ hp' hv hag hsz=>?_
 have hc:eN Ok r f D (.inRegion ops rest::k) R (a.put o.dst v) bD:=(fC t d).1 (h v _ hR hsz);have e:((base f).at (aT π a D) (.inRegion ops (i::rest)::k)).finish (Value.ren co v)=(base f).at (aT co (a.put o.dst v) D) (.inRegion ops rest::k):=by
  rw[Frame.finish_at,ho,Option.bind_some,kN ha hag,gU _ _ _ _ hdst]
 rw[e] at hp';exact hc CS co M' j4 hp' (iZ (VA.grow ha hsz) hv) ((put_defers _ _ _).trans hd) λa2 D2 CE vH M2 CK todo r2 rr p v d g2 z=>hk a2 D2 CE vH M2 CK todo r2 rr p v d (λb hb=>(g2 b (ψ hb hsz)).trans (hag b hb)) (ae6 hsz z)
theorem tu {c:Code}(I:j6->Act->Θ->Prop)(μ:Act->Θ->Nat)(h0:I D a wL)
  (round:∀D a w,I D a w->(∀D' a' w',I D' a' w'->μ a' w'<μ a w->eN Ok r f D' (.inLoop c::k) R a' w')->eN Ok r f D (.code c::.inLoop c::k) R a w):eN Ok r f D (.code (.loop c)::k) R a wL:=by
 have key:∀n D a w,I D a w->μ a w=n->eN Ok r f D (.code c::.inLoop c::k) R a w:=by
  intro n
  induction n using Nat.strongRecOn with
  |_ n ih=>exactλD a w hI hn=>round D a w hI λD' a' w' hI' hl=>GJ (ih _ (hn▸hl) D' a' w' hI' rfl)
 exact Oz (key _ _ _ _ h0 rfl)
theorem AS {ops:Array Oper}{i:Nat}{rest:List Nat}{o:Oper}(q:Nat)(ob:Obj)(hq:Ok.K q=some ob)(v:Φ)(hv:∀r,¬Value.Has r v)(ho:ops[i]? =some o)(hwd:∀π,Region.wanted o (yielded ops (aT π a D).tmps)=true)(hdst:∀t,o.dst=some t->t∉sl D)
  (hrun:∀(π:Nat->Nat) (w:Θ),w.heap[q]? =some ob->(execOp (aT π a D).eval o).run PP w= .ok (.value v) w)
  (hev:∀(π:Nat->Nat) (w:Θ),w.heap[q]? =some ob->∀e∈(execOp (aT π a D).eval o).events PP w #[],e.sync=false/\aG.lF q e.loc)
  (h:eN Ok r f D (.inRegion ops rest::k) R (a.put o.dst v) wL):eN Ok r f D (.inRegion ops (i::rest)::k) R a wL:=λCS π M tr hp ha hd hk=>by
 have hkb:(base f).kind≠.early:=by simp[base]
 obtain⟨Sh,own,w,h1,h2,h3,h4,h5⟩:=hp
 let KK:Nat->Prop:=λq=>∃o,Ok.K q=some o
 have kk:∀q,KK q->q<w.heap.size/\∀l,aG.lF q l->¬Sh l:=λq ⟨o,hq⟩=>⟨(Ψ.1 (h5 q o hq).2.1).1,(h5 q o hq).2.2⟩
 have hA:=h3.union KK kk;have e:=gU (π:=π) a D o.dst v hdst;rw[eZ v λr hr=>absurd hr (hv r)] at e;have tree:aC PP true lG (λs g w'=>s=(λb=>own b\/KK b)/\g=G ((base f).at (aT π (a.put o.dst v) D) (.inRegion ops rest::k)) CS/\∃d,w'=w.at d) (λb=>own b\/KK b) (G ((base f).at (aT π a D) (.inRegion ops (i::rest)::k)) CS) w:=by
  refine aC.step rfl λw₁ hR=>?_
  obtain⟨d,rfl⟩:=hR;have hw:(w.at d).heap[q]? =some ob:=(h5 q ob hq).2.1;refine⟨_,w.at d,_,stepG_value ho (hwd π) hkb (hrun π _ hw),⟨ι _,λ_ _ _=>rfl,rfl,rfl,rfl,λev he=>?_⟩,?_⟩
  .obtain⟨_,hb⟩:=hev π _ hw ev (by simpa using mem_listed (fn:=(base f).fn) he)
   exact .inl ⟨q,.inl (.inr ⟨ob,hq⟩),hb⟩
  .rw[A1,e]
   exact .stop λw₂ ⟨d2,e2⟩=>⟨rfl,rfl,d2,by rw[e2];rfl⟩
 obtain⟨N,M',t',g',w',e1,e2,⟨s',⟨rfl,rfl,d,rfl⟩,e4⟩,e5,_⟩:=lj h1 (wm tree hA);exact Ok.back _ _ _ _ _ e1 (h CS π M' t' ⟨Sh,own,_,e2,h2.at d,e4.part λb hb=> .inl hb,h4,h5⟩ (iZ ha λr hr=>absurd hr (hv r)) ((put_defers _ _ _).trans hd) hk)
theorem pC {ops:Array Oper}{i:Nat}{rest:List Nat}{o:Oper}(q:Nat)(ob:Obj)(hq:Ok.K q=some ob)(v:Φ)(hv:∀r,¬Value.Has r v)(ho:ops[i]? =some o)(hg:o.guard=none)(hdst:∀t,o.dst=some t->t∉sl D)
  (hrun:∀(π:Nat->Nat) (w:Θ),w.heap[q]? =some ob->(execOp (aT π a D).eval o).run PP w= .ok (.value v) w)
  (hev:∀(π:Nat->Nat) (w:Θ),w.heap[q]? =some ob->∀e∈(execOp (aT π a D).eval o).events PP w #[],e.sync=false/\aG.lF q e.loc)
  (h:eN Ok r f D (.inRegion ops rest::k) R (a.put o.dst v) wL):eN Ok r f D (.inRegion ops (i::rest)::k) R a wL:=
 AS q ob hq v hv ho (λπ=>by simp[Region.wanted,hg]) hdst hrun hev h
end
theorem DQ {f:ab9}{fn:Func}{cd:Code}{r:Tmp}{args:Array Φ}{W:Θ}{H:Nat->Prop}{K:Nat->Option Obj}{wL:Θ}{R2:Φ->Θ->Prop}{Post:Φ->Θ->Prop}(hf:PP.funcs[f]? =some fn)(hb:fn.body=some cd)(hi:PP.inits.idxOf? f=none)(hres:fn.results=#[.tmp r])
  (hl:Link H no (λb=>b<W.heap.size/\K b=none) no id wL W) (hKW:∀q o,K q=some o->W.heap[q]? =some o) (a0:Act) (D0:j6) (ha0:VA H wL a0.tmps) (hd0:a0.defers=[]) (he:aT id a0 D0={tmps:=args++Array.replicate (fn.ntmps-args.size) undef,defers:=[]}) (hsz:wL.heap.size=W.heap.size)
  (h:eN (TW Post W H K) r f D0 [.code cd] (λa w=>R2 (a.tmps.getD r undef) w) a0 wL)
  (post:∀(v:Φ) (bD:Θ) (π:Nat->Nat) (own:Nat->Prop) (w':Θ),(∃t d,R2 v (az bD t d))->Link H no own no π bD w'->VV (hU H bD) v->(∀b,b<W.heap.size->π b=b)->W.heap.size<=bD.heap.size->W.heap.size<=w'.heap.size->ConcM.OsLater W.os w'.os->w'.output=W.output->(∀q o,K q=some o->w'.heap[q]? =some o)->Post (Value.ren π v) w'):
  O3 Post (solo (G (Frame.enter PP f args .normal) []) W) #[]:=by
 have hz:Zero PP (λ_=>False) (solo (G (Frame.enter PP f args .normal) []) W) #[] (G (Frame.enter PP f args .normal) []) W:=
  ⟨⟨_,none,_,rfl,rfl,leavers_one PP _,by simp[ZD]⟩,⟨past_nil.clean,λi a ha=>absurd ha (by simp[touchAt,Trace.act?]),past_nil.over,rfl,by simp⟩⟩
 have hp:Ck (TW Post W H K) id wL (solo (G (Frame.enter PP f args .normal) []) W) #[] (G (Frame.enter PP f args .normal) []):=⟨λ_=>False,_,W,hz,hl,⟨λb hb l hl h=>h,λb hb=>hb.1,λl b h=>h.elim,λl h=>h.elim⟩,⟨.refl _,rfl⟩,λq o (ho:K q=some o)=>⟨λhb=>(by rw[hb.2] at ho;cases ho),hKW q o ho,λ_ _ h=>h⟩⟩
 rw[enter_at _ hf hb,<-he] at hp;rw[enter_at _ hf hb,<-he];refine h [] id _ _ hp ha0 hd0 λa' D' bD co M' j4 todo hrD hR hp' ha' hd' hag hsz'=>?_
 have hgo:=AF (a:=a') (π:=co) hrD;obtain⟨Dead,own,w,hz',hl',hs,hos,hkf⟩:=hp';obtain⟨gs,sl,q,rfl,h0,hL,_⟩:=hz'.ex;have hvv:VV (hU H bD) (a'.tmps.getD r undef):=l9 (x:= .tmp r) ha' rfl;have ahB:W.heap.size<=w.heap.size:=by
  rcases Nat.eq_zero_or_pos W.heap.size with h0|h0
  .omega
  .have h1:=hl'.lt (W.heap.size-1) (by omega)
   rw[hag _ (by omega)] at h1;have h2:W.heap.size-1<w.heap.size:=h1;omega
 have hpost:=λw'' (d:Nat) (e:w''=w.at d)=>post (a'.tmps.getD r undef) bD co own w'' hR (by rw[e];exact hl'.at d) hvv (λb hb=>(hag b (by rw[hsz];exact hb)).trans rfl) (hsz▸hsz') (by rw[e];exact ahB) (by rw[e];exact hos.1) (by rw[e];exact hos.2) λq o hq=>by rw[e];exact(hkf q o hq).2.1
 refine beside_ends (Shun:=Dead) (B:=w.heap.size) (D:=λ_ _ _=>False) (λ_ _ _ h=>h.elim) (n:=0) h0 hL hz'.past λw₁ ⟨d,e⟩=>⟨rfl,Value.ren co (a'.tmps.getD r undef),#[],?_,by simp,hpost w₁ d e⟩
 have hr:(results fn (aT co a' D').tmps).run PP w₁= .ok (Value.ren co (a'.tmps.getD r undef)) w₁:=by
  rw[results_tmp hres];rw[hgo]
 have he:(results fn (aT co a' D').tmps).events PP w₁ #[]=#[]:=by
  have e:results fn (aT co a' D').tmps=pure ((aT co a' D').tmps.getD r undef):=by simp[results,hres]
  rw[e];rfl
 simp[G,stepG,unwind,doReturn,Frame.at,base,hf,hi,aT,xJ] at hr he⊢;rw[hr,he];have hi2:=hi;simp at hi2;simp[seen,GStep.after,hi2]
end ai
end
section
open Go.Conc Go.RowKit Go.Lib Go.Sort
def rn (u:Nat->Φ):Nat->Nat->List Φ->List Φ
 |_,0,r=>r
 |i,n+1,r=>u i::rn u (i+1) n r
namespace ai
section
variable {Ok:Env}{r:Nat}{f:ab9}{D:j6}{k t:List Item}{R:Act->Θ->Prop}{a:Act}{wL w1:Θ}{ops:Array Oper}{i:Nat}{rest:List Nat}{o:Oper}
theorem ew (x:aa9)(ho:ops[i]? =some o)(hop:o.op= .assign x\/o.op= .move x)(tG:eM (sl D) PP S0 E0 true o=true)(hg:o.guard=none)
  (h:eN Ok r f D (.inRegion ops rest::k) R (a.put o.dst (a.eval x)) wL):eN Ok r f D (.inRegion ops (i::rest)::k) R a wL:=by
 refine Oy ho tG hg λt d=>?_
 have e:(execOp a.eval o).run PP (az wL t d)= .ok (.value (a.eval x)) (az wL t d):=by
  unfold execOp;rcases hop with hop|hop<;>rw[hop]<;>rfl
 rw[e];exact(fC t d).2 h
theorem fR (v:Φ)(ho:ops[i]? =some o)(tG:eM (sl D) PP S0 E0 true o=true)(hg:o.guard=none)
  (hr:∀t d,(execOp a.eval o).run PP (az wL t d)= .ok (.value v) (az w1 t d)) (h:eN Ok r f D (.inRegion ops rest::k) R (a.put o.dst v) w1):eN Ok r f D (.inRegion ops (i::rest)::k) R a wL:=by
 refine Oy ho tG hg λt d=>?_
 rw[hr];exact(fC t d).2 h
theorem mX (v:Φ)(ho:ops[i]? =some o)(tG:eM (sl D) PP S0 E0 true o=true)(hw:∀π,Region.wanted o (yielded ops (aT π a D).tmps)=true)
  (hr:∀t d,(execOp a.eval o).run PP (az wL t d)= .ok (.value v) (az w1 t d)) (h:eN Ok r f D (.inRegion ops rest::k) R (a.put o.dst v) w1):eN Ok r f D (.inRegion ops (i::rest)::k) R a wL:=by
 refine nO ho tG hw λt d=>?_
 rw[hr];exact(fC t d).2 h
theorem mc (a':Act)(e:a=a')(h:eN Ok r f D t R a' wL):eN Ok r f D t R a wL:=e▸h
theorem dm (B:(Nat->Φ)->Act)(e:a=B λi=>a.tmps.getD i undef)(h:∀u,eN Ok r f D t R (B u) wL):eN Ok r f D t R a wL:=e▸h _
theorem Iw (D':j6)(e:D=D')(h:eN Ok r f D' t R a wL):eN Ok r f D t R a wL:=e▸h
theorem mW {π:Nat->Nat}{x:aa9}{q:IntKind}{n:Int}(hx:n4 x=true)(ho:i9 (sl D) x=true)(h:a.eval x= .int q n):(aT π a D).eval x= .int q n:=(lz a D hx ho).trans (by rw[h];simp)
theorem ED (d:Nat)(ho:ops[i]? =some o)(hw:∀π,Region.wanted o (yielded ops (aT π a D).tmps)=false)(hdst:o.dst=some d)(hn:(sl D).Nodup)(hmem:d∈sl D)
  (h:eN Ok r f (fT D d undef) (.inRegion ops rest::k) R a wL):eN Ok r f D (.inRegion ops (i::rest)::k) R a wL:=λCS π M tr hp ha hd hk=>by
 refine eh hp (λw=>stepG_unwanted ho (hw π)) λM1 E3 hp1=>?_
 have e:(aT π a D).put o.dst undef=aT π a (fT D d undef):=by
  rw[hdst];simp only[Act.put,aT];rw[xI D d undef _ hn hmem]
 rw[e] at hp1;exact h CS π M1 E3 hp1 ha hd hk
theorem aiE (t:Γ)(x:aa9)(ho:ops[i]? =some o)(hop:o.op= .load t x)(tG:eM (sl D) PP S0 E0 true o=true)(hg:o.guard=none)
  (ha:(Tryz.prog.underlying t).map (λd=>match d with|.struct _|.array _ _=>true|_=>false)=some false) (b:Addr) (hx:a.eval x= .pointer (some b)) (v:Φ) (hc:wL.cell? b=some v)
  (h:eN Ok r f D (.inRegion ops rest::k) R (a.put o.dst v) wL):eN Ok r f D (.inRegion ops (i::rest)::k) R a wL:=by
 refine fR (w1:=wL) v ho tG hg (λt' d=>?_) h;have hc':(az wL t' d).cell? b=some v:=hc;have h1:aG.RT (ku.load t (.pointer (some b))).sem (az wL t' d) (.value v) (az wL t' d) #[⟨.cell b,false,false⟩]:=by
  refine aG.RT.eJ (x:=v) ?_ (.pure _);show aG.RT (do if<-isAgg t then Pure.pure (.agg (<-loadCells b (<-Go.sizeOf t))) else load b) _ _ _ _;refine(aG.gn ha).aR ?_;simp only[τ,if_false];exact aG.jK hc'
 have:=h1.run;unfold execOp;rw[hop];show(do pure (.value (<-Instr.loadAt t (a.eval x))):Sem Next).run _ _=_;rw[hx];exact this
theorem Ox {l:List Nat}(gz:Option Nat)(hr:r∉sl D)(h0:∃fn,PP.funcs[f]? =some fn)(Cq:ce (sl D) PP S0 E0 true (.inRegion ops l)=true)(hx:∀id,gz=some id->∃y,exitTo id k=some y)
  (I:Θ->Prop) (hb:∀w t d,I w->I (az w t d)) (hI:I wL) (hwp:∀w,I w->w.heap.size=wL.heap.size->wpOps PP ops (yT Ok r gz f D k R) l a w):eN Ok r f D (.inRegion ops l::k) R a wL:=
 EE (t0:=[.inRegion ops l]) gz hr h0 (λit hit=>by simp at hit;subst hit;exact Cq) hx λt d b k cs=>wp_ops l a _ (hwp _ (hb _ t d hI) rfl) b k cs
theorem Ow {l:List Nat}(m:Nat)(hl:l=List.range' m (ops.toList.drop m).length)(hr:r∉sl D)(h0:∃fn,PP.funcs[f]? =some fn)(Cq:ce (sl D) PP S0 E0 true (.inRegion ops l)=true)
  (I:Θ->Prop) (hb:∀w t d,I w->I (az w t d)) (hI:I wL) (hwp:∀w,I w->w.heap.size=wL.heap.size->wpList PP ops (yT Ok r none f D k R) (ops.toList.drop m) a w):eN Ok r f D (.inRegion ops l::k) R a wL:=by
 refine Ox none hr h0 Cq (by simp) I hb hI λw h1 h2=>?_
 rw[hl,wpOps_eq_wpList (ops.toList.drop m) m λj=>by rw[ag0,ag2]];exact hwp w h1 h2
end
end ai
theorem DA {w w':Θ}{q off:Nat}{ob:Obj}{l:List Φ}(h:w.rangeAt q off l)(hq:w.heap[q]? =some ob)(hq':w'.heap[q]? =some ob):w'.rangeAt q off l:=λi v hv=>by
 have:=h i v hv;unfold World.cell? at this⊢;rw[hq] at this;rw[hq'];exact this
namespace aG
theorem Wf {w:Θ}{t:Γ}{m:Nat}(b off len cap j:Nat)(hj:j<len)(ht:PP.underlying t=some (.slice (PP.elem t)))(hm:(PP.info? (PP.elem t)).map (·.size)=some m):
  RT (Instr.indexAt t (.slice (some ⟨b,off,none⟩) len cap) (.int .i64 j)) w (.pointer (some ⟨b,off+j*m,none⟩)) w #[]:=by
 unfold Instr.indexAt;refine RT.aR (x:=(IntKind.i64,(j:Int))) (.pure _) ?_;refine(fZ ht).aR ?_;refine RT.aR (.pure _) ?_;refine(fZ ht).aR ?_;simp only;rw[ξ ⟨by omega,by omega⟩];refine(pN hm).aR ?_;have e:(Addr.add ⟨b,off,none⟩ ((j:Int).toNat*m))=⟨b,off+j*m,none⟩:=by rw[Int.toNat_natCast,Addr.add_mid]
 rw[e];exact .pure _
end aG
section
variable {o:Oper}{x y:aa9}
theorem ui {t:Γ}{m:Nat}(b off len cap j:Nat)(hj:j<len)(a:Act)(hop:o.op= .indexAddr t x y)(hy:a.eval y= .int .i64 j)(w:Θ)(ht:ai.PP.underlying t=some (.slice (ai.PP.elem t)):=by kernel_rfl)(hm:(ai.PP.info? (ai.PP.elem t)).map (·.size)=some m:=by kernel_rfl)(hx:a.eval x= .slice (some ⟨b,off,none⟩) len cap:=by kernel_rfl):
  (execOp a.eval o).runT ai.PP w #[]=(.ok (.value (.pointer (some ⟨b,off+j*m,none⟩))) w,#[]):=by
 have h:aG.RT (do pure (.value (<-Instr.indexAt t (a.eval x) (a.eval y))):Sem Next) w (.value (.pointer (some ⟨b,off+j*m,none⟩))) w #[]:=by
  rw[hx,hy];exact(aG.Wf b off len cap j hj ht hm).aR (.pure _)
 unfold execOp;rw[hop];exact h #[]
theorem jL {t:Γ}{b off:Nat}{ob:Obj}{vs:Array Φ}{w:Θ}(hn:(ai.PP.info? t).map (·.size)=some vs.size)(h0:0<vs.size)(hw:w.heap[b]? =some ob)(hra:∀w:Θ,w.heap[b]? =some ob->w.rangeAt b off vs.toList)(a:Act)(hop:o.op= .load t x)(ha:(ai.PP.underlying t).map (λd=>match d with|.struct _|.array _ _=>true|_=>false)=some true:=by kernel_rfl)(hx:a.eval x= .pointer (some ⟨b,off,none⟩):=by kernel_rfl):
  (execOp a.eval o).run ai.PP w= .ok (.value (.agg vs)) w/\∀e∈(execOp a.eval o).events ai.PP w #[],e.sync=false/\aG.lF b e.loc:=by
 have hr:=hra w hw;have hcell:∀i,i<vs.size->w.cell? ⟨b,off+i,none⟩=vs[i]? :=λi hi=>by
  have:=hr i vs[i] (by rw[ag2,ν hi]);rw[this,ν hi]
 obtain⟨cs,u,f,rfl⟩:∃cs u f,ob= .cells cs u f:=by
  have:=hcell 0 h0;rw[ν h0] at this;unfold World.cell? at this;rw[hw] at this;cases ob with
  |cells cs u f=>exact⟨cs,u,f,rfl⟩
  |_=>cases this
 have hc:∀i,i<vs.size->cs[off+i]? =vs[i]? :=λi hi=>by
  have:=hcell i hi;unfold World.cell? at this;rw[hw] at this;simpa using this
 have hle:off+vs.size<=cs.size:=by
  have:=hc (vs.size-1) (by omega);rw[ν (by omega:vs.size-1<vs.size)] at this;have:=(Ψ.1 this).1;omega
 have he:cs.extract off (off+vs.size)=vs:=by
  apply Array.ext_getElem?
  intro i;rw[Array.getElem?_extract]
  by_cases hi:i<vs.size
  .rw[ξ (by omega),hc i hi]
  .rw[ζ (by omega),Array.getElem?_eq_none (by omega)]
 obtain⟨ev,h1,h2⟩:=aG.jU (t:=t) (off:=off) (n:=vs.size) hw ha hn hle;rw[he] at h1;have h3:execOp a.eval o=(ku.load t (.pointer (some ⟨b,off,none⟩))).sem:=by
  unfold execOp;rw[hop];show(do pure (.value (<-Instr.loadAt t (a.eval x))):Sem Next)=_;rw[hx];rfl
 rw[h3];refine⟨h1.run,λe he=>(h2 e ?_).1⟩;have h4:(ku.load t (.pointer (some ⟨b,off,none⟩))).sem.events ai.PP w #[]=#[]++ev:=congrArg Prod.snd (h1 #[]);rw[h4] at he;simpa using he
end
theorem sU {k sd pt:Int}{ct:Ξ}:∀r,¬Value.Has r (.agg (dH k sd pt ct)):=λr h=>by
 cases h with
 |agg hv h=>
  simp[dH] at hv;rcases hv with rfl|rfl|rfl|rfl<;>cases h
end
section
open Go.RowKit Go.Lib Go.Sort
def FL (sv x y z:Φ):j6:=[(0,sv),(53,x),(63,y),(65,z)]
section
variable {sv x y z:Φ}
theorem nZ:2∉sl (FL sv x y z):=by simp[sl,FL]
theorem t7:(sl (FL sv x y z)).Nodup:=by simp[sl,FL]
theorem WF:53∈sl (FL sv x y z):=by simp[sl,FL]
theorem WE:63∈sl (FL sv x y z):=by simp[sl,FL]
theorem WD:65∈sl (FL sv x y z):=by simp[sl,FL]
end
def II (K:Nat->Option Obj)(ad:Option Addr)(l:List ql):Prop:=∀j,(hj:j<l.length)->(l[j]).Ok/\∃b off,ad=some ⟨b,off,none⟩/\∃ob,K b=some ob/\∀w:Θ,w.heap[b]? =some ob->w.rangeAt b (off+j*4) (l[j]).cells.toList
open aG aG.Sq in
theorem Kz {E:ai.Env}{wL:Θ}(ad:Option Addr)(cap:Nat)(l:List ql)(h:II E.K ad l)(hG:qk wL):
  ai.CCt E 30 #[.slice ad l.length cap] (ZI l wL) wL:=by
 refine ai.GO (r:=2) {tmps:=#[undef,undef,undef,undef,undef,undef,undef,undef,undef,undef,undef,undef,undef,undef,undef,undef,undef,undef,undef,undef,undef,undef,undef,undef,undef,undef,undef,undef,undef,undef,undef,undef,undef,undef,undef,undef,undef,undef,undef,undef,undef,undef,undef,undef,undef,undef,undef,undef,undef,undef,undef,undef,undef,undef,undef,undef,undef,undef,undef,undef,undef,undef,undef,undef,undef,undef,undef,undef,undef,undef,undef,undef,undef,undef,undef],defers:=[]} (FL (.slice ad l.length cap) undef undef undef) Tryz.func30 rfl rfl (λv hv=>?_) rfl (λπ=>by kernel_rfl) ?_
 .simp only[List.mem_toArray,ac5,List.not_mem_nil,or_self,or_false] at hv
  subst hv;exact ij
 refine ai.cq ?_;refine ai.cD none nZ ⟨_,Tryz.func30⟩ (by kernel_rfl) (by simp) (λw=>d8 [] wL w) (λw t k h=>h.tape t k) (d8.refl _ _) λw hB hsz=>?_
 clear hsz;go_wp2_with fail;refine ai.cq ?_;refine ai.cD none nZ ⟨_,Tryz.func30⟩ (by kernel_rfl) (by simp) (λw=>d8 [] wL w) (λw t k h=>h.tape t k) hB λw2 hB2 hsz=>?_
 clear hB hsz;go_wp2_with fail;refine(QR 200 w2 (by omega) (by omega)).mono ?_;rintro e w3 ⟨s,d,F,rfl,hs,f3,g3,l3⟩;have hC:bh w3 F s d (fv 200) 0 H0:=⟨hs,uj 200 (by omega),Bi,by omega⟩
 have hB:d8 [] wL w3:=hB2.trans f3.blk;have hg:bV [] F wL:=(bV.refl [] wL).trans g3 hB2.size;have hls:wL.heap.size<=s:=ae6 hB2.size l3;clear hs f3 g3 l3 hB2;go_wp2_with fail;refine ai.cq ?_
 refine ai.cD none nZ ⟨_,Tryz.func30⟩ (by kernel_rfl) (by simp) (λw=>bh w F s d (fv 200) 0 H0/\d8 [] wL w) (λw t k h=>⟨h.1.az t k,h.2.tape t k⟩) ⟨hC,hB⟩ λw4 hI hsz=>?_
 clear hC hB hsz;obtain⟨hC,hB⟩:=hI;go_wp2_with fail
 obtain⟨L1,q1,q2⟩:=wo (uj 200 (by omega)) Bi.eight (by decide) 0 [97] [102,105,114,115,116] (by decide) (by decide);have SO:Hid (BY=L1):=by
  show _=_;unfold BY;exact(congrArg (λz:DS×Φ=>z.1.aI) (q2 0)).trans rfl
 have aeS:Hid ((DS.calm (fv 200) 0).qS 200 0 ⟨#[97]⟩ yn=(DS.calm L1 5,.int .i64 0)):=((Ad (uj 200 (by omega)) Bi 0 [97] [102,105,114,115,116] Ud 0).trans (q2 0)).trans (by rw[Int.zero_add]);refine ai.cq ?_
 refine ai.cD none nZ ⟨_,Tryz.func30⟩ (by kernel_rfl) (by simp) (λw=>bh w F s d (fv 200) 0 H0/\d8 [] wL w) (λw t k h=>⟨h.1.az t k,h.2.tape t k⟩) ⟨hC,hB⟩ λw4 hI hsz=>?_
 clear hC hB hsz;obtain⟨hC,hB⟩:=hI;go_wp2_with fail;refine(Ac F s d 200 _ 0 ⟨#[97]⟩ yn w4 hC.store (ly _ _ _ (by omega)) (by show 0<55;omega) (by omega) (by decide) (by decide) (by decide)).mono ?_;rintro e w5 ⟨rfl,⟨F1,hs1,g1⟩,f1⟩;rw[aeS.out] at hs1⊢;have hC1:bh w5 F1 s d L1 5 H1:=⟨hs1,q1,UP,by omega⟩
 have hB1:d8 [] wL w5:=lp hg f1.blk hB;have hg1:bV [] F1 wL:=hg.trans g1 hB.size;clear hC hB hs1 f1 g1 aeS q1 q2 hg;go_wp2_with fail
 refine ai.cq (ai.eY (ai.ew _ rfl (.inr rfl) (by kernel_rfl) rfl ?_))
 refine ai.mY (f2:=31) #[.tmp 24] #[.pointer (some ⟨s,0,none⟩)] (R2:=AW F1 s d 200 (DS.calm L1 5) w5) rfl rfl (by kernel_rfl) (by kernel_rfl) (bK (by kernel_rfl)) (λb w=>by kernel_rfl) (by kernel_rfl) (Iz hC1.store (hG.blk hB1 (by simp)) (hg1.nil hG) (hC1.ok (by omega))) λv w6 hR _=>?_
 obtain⟨ps,cv,F2,L2,k2,rfl,hP,hC2,hg2,hB2,hk0,hk1,_,hcv,_,hsl⟩:=hC1.synced hR;have HST:Hid (st0=(L2,5+k2,kh H1)):=by
  show _=_;unfold st0;rw[SO.out,hsl]
 clear hsl SO;rw[UE hP];have hB2':d8 [] wL w6:=lp hg1 hB2 hB1;have adh:bV [] F2 wL:=hg1.trans hg2 hB1.size;obtain⟨Zn,GP,adp⟩:=bW hcv;generalize (yE H1 ps).length=cl at adp;subst adp;clear hcv hR hC1 hB1 hg1 hg2 hB2 hP
 refine ai.ew _ rfl (.inr rfl) (by kernel_rfl) rfl (ai.fR (w1:=w6) (.agg #[.int .i64 1,.slice Zn cl GP]) rfl (by kernel_rfl) rfl (λt d=>by kernel_rfl) (ai.fR (w1:=w6) (.int .i64 0) rfl (by kernel_rfl) rfl (λt d=>by kernel_rfl) ?_))
 refine ai.mc {tmps:=(undef::undef::.pointer none::.pointer (some ⟨s,0,none⟩)::.int .i64 0::.int .i64 0::rn (λ_=>undef) 0 5 (.tuple #[.pointer (some ⟨s,0,none⟩),.int .i64 0]::.tuple #[.pointer (some ⟨s,0,none⟩),.int .i64 0]::.pointer (some ⟨s,0,none⟩)::.int .i64 0::.pointer (some ⟨s,0,none⟩)::.bool false::.bool false::.int .i64 0::.bool false::.bool false::.pointer (some ⟨s,0,none⟩)::.int .i64 0::.tuple #[.agg #[.int .i64 1,.slice Zn cl GP],.int .i64 0]::.pointer (some ⟨s,0,none⟩)::.tuple #[.agg #[.int .i64 1,.slice Zn cl GP],.int .i64 0]::.agg #[.int .i64 1,.slice Zn cl GP]::.int .i64 0::rn (λ_=>undef) 0 47 [])).toArray,defers:=[]} (by kernel_rfl) ?_
 simp only[rn];refine ai.Ow 5 rfl nZ ⟨_,Tryz.func30⟩ (by kernel_rfl) (λw=>bh w F2 s d L2 (5+k2) (kh H1)/\d8 [] wL w) (λw t k h=>⟨h.1.az t k,h.2.tape t k⟩) ⟨hC2,hB2'⟩ λw7 hI _=>?_
 clear hC2 hB2';obtain⟨hC,hB⟩:=hI;show wpList _ _ _ [_,_,_] _ _;refine ay rfl ?_;refine aj.go (aY rfl 58 rfl _ oy ?_);intro w8 b8 l8 f8 r8;go_wp2_with (with_reducible first|refine ah 58 rfl ?_);refine aj.go (gC rfl 58 _ _ rfl b8 rfl #[.int .i64 1,.slice Zn cl GP] rfl fj (by simp[Value.oneCell']) _ _ r8 rfl ?_);intro w9 f9 r9
 have f79:aQ [] w7 w9:=f8.trans f9 (by simpa using l8);have hC9:=hC.new f79;have hB9:=hB.trans f79.blk;clear hC hB f8 f9 r8 l8 f79;go_wp2_with fail
 have aeT:Hid ((DS.calm L2 (5+k2)).get 200 1 ⟨#[97]⟩=(.string yn,0)):=by
  show _=_;have h1:=Has.content (x:=DS.calm L2 (5+k2)) hC9.has rfl 1 [97];rw[aa1] at h1;unfold DS.get;rw[show(DS.calm L2 (5+k2)).failed=false from rfl,ζ (by simp)];have h2:(DS.calm L2 (5+k2)).content 200 1 ⟨#[97]⟩=some [102,105,114,115,116]:=h1;rw[show((1:Nat):Int)=1 from rfl,h2];rfl
 refine ai.cq ?_;refine ai.cD none nZ ⟨_,Tryz.func30⟩ (by kernel_rfl) (by simp) (λw=>bh w F2 s d L2 (5+k2) (kh H1)/\d8 [] wL w/\Row w b8 #[.int .i64 1,.slice Zn cl GP] 58) (λw t k h=>⟨h.1.az t k,h.2.1.tape t k,h.2.2⟩) ⟨hC9,hB9,r9⟩ λw4 hI hsz=>?_
 clear hC9 hB9 r9 hsz;obtain⟨hC,hB,r8⟩:=hI;go_wp2_with fail;refine(Im F2 s d 200 _ 1 ⟨#[97]⟩ w4 hC.store (by omega) (by decide) (by decide)).mono ?_;rintro e w5 ⟨rfl,f5⟩;rw[aeT.out];have hC5:=hC.new f5;have Z3:=hB.trans f5.blk;have r5:=f5.row r8;clear aeT hC hB r8 f5;go_wp2_with fail;refine ai.cq ?_
 refine ai.cD none nZ ⟨_,Tryz.func30⟩ (by kernel_rfl) (by simp) (λw=>bh w F2 s d L2 (5+k2) (kh H1)/\d8 [] wL w/\Row w b8 #[.int .i64 1,.slice Zn cl GP] 58) (λw t k h=>⟨h.1.az t k,h.2.1.tape t k,h.2.2⟩) ⟨hC5,Z3,r5⟩ λw4 hI hsz=>?_
 clear hC5 Z3 r5 hsz;obtain⟨hC,hB,r8⟩:=hI;have c8:w4.cell? ⟨b8,0,none⟩=some (.int .i64 1):=by rw[r8.cell];rfl
 have hfl:(!yn.toList==[102,105,114,115,116])=false:=by rw[show yn=aB [102,105,114,115,116] from rfl,pF];rfl
 go_wp2_with fail;clear hfl c8 r8
 refine ai.cq (ai.cq ?_);refine ai.cD none nZ ⟨_,Tryz.func30⟩ (by kernel_rfl) (by simp) (λw=>bh w F2 s d L2 (5+k2) (kh H1)/\d8 [] wL w) (λw t k h=>⟨h.1.az t k,h.2.tape t k⟩) ⟨hC,hB⟩ λw5 hI hsz=>?_
 clear hC hB hsz;obtain⟨hC,hB⟩:=hI;go_wp2_with fail;refine ai.qa ?_;refine ai.dm (uB undef s 0) (by kernel_rfl) λu=>?_
 refine ai.tu (λD a w=>∃(x y z:Φ) (k:Nat) (F:List Nat) (L:List η) (aa:Int) (H:bZ) (u:Nat->Φ),D=FL (.slice ad l.length cap) x y z/\a=uB undef s k u/\k<=l.length/\k<=300/\bh w F s d L aa H/\aa<=100+80*k/\bV [] F wL/\d8 [] wL w/\Hid (Ak (l.take k)=(L,aa,H))) (λa _=>300-(intOf (a.tmps.getD 10 undef)).toNat)
  ⟨_,_,_,0,F2,L2,5+k2,kh H1,u,rfl,rfl,by omega,by omega,hC,by omega,adh,hB,HST⟩ ?_
 clear hC hB adh u HST;rintro D a w ⟨x,y,z,k,Fk,Lk,ak,Hk,u,rfl,rfl,hkl,hk3,hC,hak,Z0,hB,HR⟩ ih
 have ih':∀(x y z:Φ) (k':Nat) (F:List Nat) (L:List η) (aa:Int) (H:bZ) (u:Nat->Φ) (w':Θ),k'=k+1->k'<=l.length->k'<=300->bh w' F s d L aa H->aa<=100+80*k'->bV [] F wL->d8 [] wL w'->Hid (Ak (l.take k')=(L,aa,H))->ai.eN _ _ _ (FL (.slice ad l.length cap) x y z) _ _ (uB undef s k' u) w':=λx y z k' F L aa H u w' e1 e2 e3 e4 e5 e6 e7 e8=>ih _ _ _ ⟨x,y,z,k',F,L,aa,H,u,rfl,rfl,e2,e3,e4,e5,e6,e7,e8⟩ (by subst e1;simp[uB,intOf];omega)
 clear ih;unfold uB at ih'⊢;refine ai.cq (ai.cq (ai.eY ?_));refine ai.ew _ rfl (.inr rfl) (by kernel_rfl) rfl (ai.gZ 53 (.slice ad l.length cap) rfl rfl rfl t7 WF (λπ w=>by kernel_rfl) ?_);refine ai.Iw (FL (.slice ad l.length cap) (.slice ad l.length cap) y z) rfl ?_
 refine ai.ut (.int .i64 l.length) (by intro r hr;cases hr) rfl rfl (bK (by kernel_rfl)) (λπ w=>by kernel_rfl) ?_;refine ai.fR (w1:=w) (.bool (decide ((k:Int)<(l.length:Int)))) rfl (by kernel_rfl) rfl (λt d=>by kernel_rfl) (ai.ew _ rfl (.inr rfl) (by kernel_rfl) rfl ?_)
 by_cases hlt:k<l.length
 .by_cases hlt3:k<300
  .obtain⟨hok,b,off,rfl,ob,hK,hra⟩:=h k hlt
   have HS:=λ(L':List η) (N:Int)=>Fu (L':=L') (N:=N) hlt HR.out
   clear HR;generalize l[k]=y at hok hra HS;replace HS:Hid _:=HS;have hd1:decide ((k:Int)<(l.length:Int))=true:=by simp;omega
   have hd2:decide ((k:Int)<300)=true:=by simp;omega
   rw[hd1];refine ai.mc {tmps:=(undef::u 1::u 2::.pointer (some ⟨s,0,none⟩)::rn u 4 6 (.int .i64 k::rn u 11 41 (.int .i64 k::u 53::.int .i64 l.length::.bool true::.bool true::rn u 57 18 []))).toArray,defers:=[]} (by kernel_rfl) ?_;simp only[rn]
   refine ai.nO rfl (by kernel_rfl) (λπ=>by kernel_rfl) (λtt dd=>(show ai.eN _ _ _ _ _ _ _ (az w tt dd) from(ai.fC tt dd).2 ?_));refine ai.mX (w1:=w) (.bool (decide ((k:Int)<300))) rfl (by kernel_rfl) (λπ=>by kernel_rfl) (λt d=>by kernel_rfl) ?_;rw[hd2]
   refine ai.fR (w1:=w) (.bool true) rfl (by kernel_rfl) rfl (λt d=>by kernel_rfl) (ai.cg ?_);refine ai.mc {tmps:=(undef::u 1::u 2::.pointer (some ⟨s,0,none⟩)::rn u 4 6 (.int .i64 k::rn u 11 41 (.int .i64 k::u 53::.int .i64 l.length::.bool true::.bool true::.int .i64 k::.bool true::.bool true::rn u 60 15 []))).toArray,defers:=[]} (by kernel_rfl) ?_;simp only[rn]
   clear hd1 hd2;refine ai.ji (b:=true) rfl rfl ?_;rw[ξ rfl];refine ai.tn (ai.cq (ai.qa (ai.cq (ai.eY ?_))));refine ai.ew _ rfl (.inr rfl) (by kernel_rfl) rfl (ai.gZ 63 (.slice (some ⟨b,off,none⟩) l.length cap) rfl rfl rfl t7 WE (λπ w=>by kernel_rfl) (ai.ew _ rfl (.inr rfl) (by kernel_rfl) rfl ?_))
   refine ai.gZ 65 (.pointer (some ⟨b,off+k*4,none⟩)) rfl rfl rfl t7 WD (λπ w=>ui (m:=4) (x:= .tmp 63) (y:= .tmp 64) b off l.length cap k hlt _ rfl (ai.mW (by kernel_rfl) (by kernel_rfl) (by kernel_rfl)) w) ?_
   refine ai.Iw (FL (.slice (some ⟨b,off,none⟩) l.length cap) (.slice (some ⟨b,off,none⟩) l.length cap) (.slice (some ⟨b,off,none⟩) l.length cap) (.pointer (some ⟨b,off+k*4,none⟩))) rfl ?_
   refine ai.pC b ob hK (.agg y.cells) sU rfl rfl (bK (by kernel_rfl)) (λπ w hw=>(jL (x:= .tmp 65) ir (by show 0<4;omega) hw hra _ rfl).1) (λπ w hw=>(jL (x:= .tmp 65) ir (by show 0<4;omega) hw hra _ rfl).2) ?_
   refine ai.mY (f2:=17) #[.tmp 62,.tmp 66] #[.pointer (some ⟨s,0,none⟩),.agg (dH y.kind y.side y.path y.content)] (R2:=EW Fk s d 200 (DS.calm Lk ak) y.kind y.side y.path y.content w) rfl rfl (by kernel_rfl) (by kernel_rfl) (bK (by kernel_rfl)) (λb w=>by kernel_rfl) (by kernel_rfl)
    (yL y.kind y.side y.path y.content hC.store (hG.blk hB (by simp)) (Z0.nil hG) (ly _ _ _ hC.lo) (by show 0<55;omega) (λ_=>hC.ok (by omega)) hok.1.1 hok.1.2 hok.2.1.1 hok.2.1.2 hok.2.2.1 hok.2.2.2) λv w6 hR _=>?_
   obtain⟨rfl,F',L',N,hC',hg',hB',hN0,hN1,hal⟩:=hC.ia hR;have HR:=HS.out L' N hal;clear hal HS;have ya:=yW Hk y.kind y.side y.path y.content;have hgn:bV [] F' wL:=Z0.trans hg' hB.size;have hBn:d8 [] wL w6:=lp Z0 hB' hB;generalize tD Hk y.kind y.side y.path y.content=re at ya hC' HR⊢;obtain⟨Hn,en⟩:=re;clear hR hg' hB' hC hB hra Z0 hK
   refine ai.ew _ rfl (.inl rfl) (by kernel_rfl) rfl (ai.cg ?_);refine ai.dm (λu=>{tmps:=(undef::u 1::u 2::.pointer (some ⟨s,0,none⟩)::.int .i64 en::rn u 5 5 (.int .i64 k::rn u 11 64 [])).toArray,defers:=[]}) (by kernel_rfl) λu=>?_
   simp only[rn];simp only at ya hC' HR;replace HR:Hid _:=HR;refine ai.cD none nZ ⟨_,Tryz.func30⟩ (by kernel_rfl) (by simp) (λw=>bh w F' s d L' (ak+N) Hn/\d8 [] wL w) (λw t k h=>⟨h.1.az t k,h.2.tape t k⟩) ⟨hC',hBn⟩ λw7 hI hsz=>?_
   clear hC' hBn hsz;obtain⟨hC,hB⟩:=hI;rcases ya with rfl|rfl
   all_goals
    go_wp2_with fail;refine ai.pD ?_;refine ai.cD none nZ ⟨_,Tryz.func30⟩ (by kernel_rfl) (by simp) (λw=>bh w F' s d L' (ak+N) Hn/\d8 [] wL w) (λw t k h=>⟨h.1.az t k,h.2.tape t k⟩) ⟨hC,hB⟩ λw8 hI hsz=>?_
    clear hC hB hsz;obtain⟨hC,hB⟩:=hI;go_wp2_with fail;refine ai.dm (uB undef s (k+1)) (by kernel_rfl) λu=>?_
    exact ih' _ _ _ (k+1) F' L' (ak+N) Hn u w8 rfl (by omega) (by omega) hC (by push_cast;omega) hgn hB HR
  .have hd1:decide ((k:Int)<(l.length:Int))=true:=by simp;omega
   have hd2:decide ((k:Int)<300)=false:=by simp;omega
   rw[hd1];refine ai.mc {tmps:=(undef::u 1::u 2::.pointer (some ⟨s,0,none⟩)::rn u 4 6 (.int .i64 k::rn u 11 41 (.int .i64 k::u 53::.int .i64 l.length::.bool true::.bool true::rn u 57 18 []))).toArray,defers:=[]} (by kernel_rfl) ?_;simp only[rn]
   refine ai.nO rfl (by kernel_rfl) (λπ=>by kernel_rfl) (λtt dd=>(show ai.eN _ _ _ _ _ _ _ (az w tt dd) from(ai.fC tt dd).2 ?_));refine ai.mX (w1:=w) (.bool (decide ((k:Int)<300))) rfl (by kernel_rfl) (λπ=>by kernel_rfl) (λt d=>by kernel_rfl) ?_;rw[hd2]
   refine ai.fR (w1:=w) (.bool false) rfl (by kernel_rfl) rfl (λt d=>by kernel_rfl) (ai.cg ?_);refine ai.mc {tmps:=(undef::u 1::u 2::.pointer (some ⟨s,0,none⟩)::rn u 4 6 (.int .i64 k::rn u 11 41 (.int .i64 k::u 53::.int .i64 l.length::.bool true::.bool true::.int .i64 k::.bool false::.bool false::rn u 60 15 []))).toArray,defers:=[]} (by kernel_rfl) ?_
   simp only[rn];refine ai.ji (b:=false) rfl rfl ?_;rw[ζ (by simp)];refine ai.pE rfl (ai.cD none nZ ⟨_,Tryz.func30⟩ (by kernel_rfl) (by simp) (λw=>bh w Fk s d Lk ak Hk/\d8 [] wL w) (λw t k h=>⟨h.1.az t k,h.2.tape t k⟩) ⟨hC,hB⟩ λw6 hI hsz=>?_);go_wp2_with fail
   exact⟨w6.tape,w6.drawn,s,d,Fk,Lk,ak,Hk,rfl,hI.1,Z0,hI.2,hls,by omega,by rw[<-HR.out,show l.take 300=l.take k by rw[show k=300 by omega]]⟩
 .have hd1:decide ((k:Int)<(l.length:Int))=false:=by simp;omega
  rw[hd1];refine ai.mc {tmps:=(undef::u 1::u 2::.pointer (some ⟨s,0,none⟩)::rn u 4 6 (.int .i64 k::rn u 11 41 (.int .i64 k::u 53::.int .i64 l.length::.bool false::.bool false::rn u 57 18 []))).toArray,defers:=[]} (by kernel_rfl) ?_;simp only[rn]
  refine ai.mb rfl (bK (by kernel_rfl)) (λπ=>by kernel_rfl) (ai.mb rfl (bK (by kernel_rfl)) (λπ=>by kernel_rfl) ?_);refine ai.fR (w1:=w) (.bool false) rfl (by kernel_rfl) rfl (λt d=>by kernel_rfl) (ai.cg ?_)
  refine ai.mc {tmps:=(undef::u 1::u 2::.pointer (some ⟨s,0,none⟩)::rn u 4 6 (.int .i64 k::rn u 11 41 (.int .i64 k::u 53::.int .i64 l.length::.bool false::.bool false::undef::undef::.bool false::rn u 60 15 []))).toArray,defers:=[]} (by kernel_rfl) ?_;simp only[rn];refine ai.ji (b:=false) rfl rfl ?_;rw[ζ (by simp)]
  refine ai.pE rfl (ai.cD none nZ ⟨_,Tryz.func30⟩ (by kernel_rfl) (by simp) (λw=>bh w Fk s d Lk ak Hk/\d8 [] wL w) (λw t k h=>⟨h.1.az t k,h.2.tape t k⟩) ⟨hC,hB⟩ λw6 hI hsz=>?_);go_wp2_with fail
  exact⟨w6.tape,w6.drawn,s,d,Fk,Lk,ak,Hk,rfl,hI.1,Z0,hI.2,hls,by omega,by rw[<-HR.out,show l.take 300=l.take k by rw[θ (by omega),θ (by omega)]]⟩
end
section
open Go.RowKit Go.Lib
def vV (H:bZ):List (List η):=nj (λq=>H (q/7) (io (q%7))) 21
theorem kz (H:bZ):(vV H).length=21:=fA _ _
section
variable {w w':Θ}{F:List Nat}{s d:Nat}{L:List η}{a:Int}{H:bZ}
theorem Has.state (h:Has L 200 H)(a:Int):(DS.calm L a).state 200=vV H:=by
 unfold DS.state vV
 congr 1
 funext q
 exact Has.content (x:=DS.calm L a) h rfl (q/7) (io (q%7))
theorem bh.seen (h:bh w F s d L a H):Calls Tryz.prog 15 #[.pointer (some ⟨s,0,none⟩)] w λe w'=>e= .returned (.tuple #[.agg (dr (vV H)),.bool true])/\aQ [] w w':=by
 obtain⟨m,hr,hm⟩:=id h.has;have:=LK F s d 200 (DS.calm L a) m w h.store rfl rfl hr (h.seven.slots hm)
 rwa [h.has.state a] at this
theorem bh.copied (h:bh w F s d L a H):Calls Tryz.prog 16 #[.pointer (some ⟨s,0,none⟩)] w λe w'=>∃s' d' F',e= .returned (.pointer (some ⟨s',0,none⟩))/\bh w' F' s' d' L 0 H/\aQ [] w w'/\bV [] F' w/\w.heap.size<=s':=by
 obtain⟨m,hr,hm⟩:=id h.has;refine(GC F s d 200 (DS.calm L a) m w h.store hr (h.seven.slots hm)).mono ?_;rintro e w' ⟨s',d',F',rfl,h1,h2,h3,h4⟩;exact⟨s',d',F',rfl,⟨h1,h.has,h.seven,Int.le_refl _⟩,h2,h3,h4⟩
theorem bh.bytes (h:bh w F s d L a H):Calls Tryz.prog 26 #[.pointer (some ⟨s,0,none⟩)] w λe w'=>e= .returned (.string ⟨L.toArray⟩)/\aQ [] w w':=xj F s d 200 _ w h.store
theorem jS (H:bZ):(Tryz.prog.info? 33).map (·.size)=some (dr (vV H)).size:=by rw[cX,kz];exact nF
theorem d8.row {S:List Nat}(h:d8 S w w'){b:Nat}{c:Array Φ}{t:Γ}(hr:Row w b c t)(hb:b∉S:=by simp):Row w' b c t:=by
 unfold Row at*;rw[h.block b (Ψ.1 hr).1 hb];exact hr
end
theorem m7 {P:χ}{ops:Array Oper}{Q:Exit->Act->Θ->Prop}{a:Act}{w:Θ}{rest:List Oper}{o:Oper}(h:wpList P ops Q ({o with guard:=none}::rest) a w)(hw:Region.wanted o (yielded ops a.tmps)=true:=by kernel_rfl):wpList P ops Q (o::rest) a w:=by
 unfold wpList at h⊢;rw[ξ hw];rw[ξ (by simp[Region.wanted])] at h;exact h
def Ue (wL:Θ)(v:Φ)(w':Θ):Prop:=v= .bool true/\d8 [] wL w'
def aeP (r:Nat)(wL:Θ)(a:Act)(w:Θ):Prop:=Ue wL (a.tmps.getD r undef) w
theorem Qo {r:Nat}{wL w:Θ}{a:Act}(h:a.tmps.getD r undef= .bool true)(hB:d8 [] wL w):∃(t:Go.Proofs.YtchcmhodnkgojaaGreat.d7) (d:Nat),aeP r wL a (az w t d):=⟨w.tape,w.drawn,h,hB⟩
def E2 (n:Nat):Act:={tmps:=Array.replicate n undef,defers:=[]}
theorem IV {n:Nat}{H:Nat->Prop}{wL:Θ}:ai.VA H wL (E2 n).tmps:=λv hv=>by
 rw[(Array.mem_replicate.1 hv).2];exact ij
end
section
open Go.RowKit Go.Lib Go.Sort
structure Ap (F:List Nat)(s:Nat)(F':List Nat)(s':Nat):Prop where
 a:s∉F'
 b:s'∉F
 c:s≠s'
 d:∀k∈F',k∉F
section
variable {w w':Θ}{F F' G:List Nat}{s s' d:Nat}{L:List η}{a:Int}{H:bZ}
theorem Ap.symm (h:Ap F s F' s'):Ap F' s' F s:=⟨h.b,h.a,h.c.symm,λk hk hk'=>h.d k hk' hk⟩
theorem Ap.fresh (hC:bh w F s d L a H)(g:bV [] F' w)(hs:w.heap.size<=s'):Ap F s F' s':=by
 have h1:=hC.store.row.lt;refine⟨λq=>(g s q).elim (by simp) (by omega),λq=>?_,by omega,λk hk q=>?_⟩
 .have:=hC.store.disk.lt s' q
  omega
 .have:=hC.store.disk.lt k q
  exact(g k hk).elim (by simp) (by omega)
theorem Ap.grow (h:Ap F s F' s')(hC:bh w F s d L a H)(g:bV F' G w):Ap F s G s':=by
 have h1:=hC.store.row.lt;refine⟨λq=>(g s q).elim h.a (by omega),h.b,h.c,λk hk q=>?_⟩;have:=hC.store.disk.lt k q;exact(g k hk).elim (λx=>h.d k x q) (by omega)
theorem bh.off (hC:bh w F s d L a H)(h:Ap F s F' s')(hB:d8 F' w w'):bh w' F s d L a H:=hC.blk hB h.a h.d
end
def aaz:j6->Nat->Φ
 |[],_=>undef
 |p::D,i=>if p.1=i then p.2 else aaz D i
theorem fS {Ok:ai.Env}{r:Nat}{f:ab9}{D:j6}{t:List Item}{R:Act->Θ->Prop}{a:Act}{wL:Θ}(B:(Nat->Φ)->j6)(h:∀x,ai.eN Ok r f (B x) t R a wL)(e:D=B λi=>aaz D i:=by kernel_rfl):ai.eN Ok r f D t R a wL:=e▸h _
theorem KS {K:Nat->Option Obj}:II K none []:=λj hj=>absurd hj (by simp)
def Ul (K:Nat->Option Obj)(wL:Θ)(ad:Option Addr)(l:List Int):Prop:=∀j,(hj:j<l.length)->∃b off,ad=some ⟨b,off,none⟩/\
 ((∃ob,K b=some ob/\∀w:Θ,w.heap[b]? =some ob->w.cell? ⟨b,off+j,none⟩=some (.int .i64 l[j]))\/(b=0/\wL.cell? ⟨0,off+j,none⟩=some (.int .i64 l[j])))
theorem JV:(ai.PP.underlying 3).map (λd=>match d with|.struct _|.array _ _=>true|_=>false)=some false:=by kernel_rfl
theorem sN {o:Oper}{x:aa9}{b off:Nat}{v:Φ}{w:Θ}(hc:w.cell? ⟨b,off,none⟩=some v)(a:Act)(hop:o.op= .load 3 x)(hx:a.eval x= .pointer (some ⟨b,off,none⟩)):
  (execOp a.eval o).run ai.PP w= .ok (.value v) w/\∀e∈(execOp a.eval o).events ai.PP w #[],e.sync=false/\aG.lF b e.loc:=by
 have h1:aG.RT (ku.load 3 (.pointer (some ⟨b,off,none⟩))).sem w (.value v) w #[⟨.cell ⟨b,off,none⟩,false,false⟩]:=by
  refine aG.RT.eJ (x:=v) ?_ (.pure _);show aG.RT (do if<-isAgg 3 then Pure.pure (.agg (<-loadCells ⟨b,off,none⟩ (<-Go.sizeOf 3))) else load ⟨b,off,none⟩) _ _ _ _;refine(aG.gn JV).aR ?_;simp only[τ,if_false];exact aG.jK hc
 have h3:execOp a.eval o=(ku.load 3 (.pointer (some ⟨b,off,none⟩))).sem:=by
  unfold execOp;rw[hop];show(do pure (.value (<-Instr.loadAt 3 (a.eval x))):Sem Next)=_;rw[hx];rfl
 rw[h3];refine⟨h1.run,λe he=>?_⟩;have h4:(ku.load 3 (.pointer (some ⟨b,off,none⟩))).sem.events ai.PP w #[]=#[]++#[⟨.cell ⟨b,off,none⟩,false,false⟩]:=congrArg Prod.snd (h1 #[]);rw[h4] at he;simp only[Array.empty_append,List.mem_toArray,ae1] at he;subst he;exact⟨rfl,.inl ⟨_,rfl,rfl⟩⟩
open Go.Conc in
theorem GI {Ok:ai.Env}{r:Nat}{f:ab9}{D:j6}{k:List Item}{R:Act->Θ->Prop}{a:Act}{wL:Θ}{ops:Array Oper}{i:Nat}{rest:List Nat}{o:Oper}(off:Nat)(q:Int)(hc:wL.cell? ⟨0,off,none⟩=some (.int .i64 q))(ho:ops[i]? =some o)
  (hwd:∀π,Region.wanted o (yielded ops (aT π a D).tmps)=true) (hdst:∀t,o.dst=some t->t∉sl D)
  (hrun:∀(π:Nat->Nat) (w:Θ),w.cell? ⟨0,off,none⟩=some (.int .i64 q)->(execOp (aT π a D).eval o).run ai.PP w= .ok (.value (.int .i64 q)) w)
  (hev:∀(π:Nat->Nat) (w:Θ),w.cell? ⟨0,off,none⟩=some (.int .i64 q)->∀e∈(execOp (aT π a D).eval o).events ai.PP w #[],e.sync=false/\aG.lF 0 e.loc)
  (h:ai.eN Ok r f D (.inRegion ops rest::k) R (a.put o.dst (.int .i64 q)) wL):ai.eN Ok r f D (.inRegion ops (i::rest)::k) R a wL:=λCS π M tr hp ha hd hk=>by
 have hkb:(base f).kind≠.early:=by simp[base]
 have e:=gU (π:=π) a D o.dst (.int .i64 q) hdst;rw[ck] at e;refine ai.jB (Stop:=λs g w'=>g=G ((base f).at (aT π (a.put o.dst (.int .i64 q)) D) (.inRegion ops rest::k)) CS/\Link Ok.H ai.no s ai.no π wL w') hp (λown w hl=>?_) λShun s g w' M' j4 hz hs hA=>h CS π M' j4 ⟨Shun,s,w',hs.1▸hz,hs.2,hA⟩ (iZ ha λr hr=>by cases hr) ((put_defers _ _ _).trans hd) hk
 have cell:∀d,(w.at d).cell? ⟨0,off,none⟩=some (.int .i64 q):=λd=>by
  have h0:=hl.lw.zero;unfold World.cell? at hc;cases hb:wL.heap[0]? with
  |none=>rw[hb] at hc;cases hc
  |some ob=>
   have h1:=(hl.wr.ok 0 ob hb h0.2 id).2;rw[hl.zero] at h1;rw[hb] at hc;cases ob with
   |cells cs u ff=>
    simp only[Option.isSome_none,τ,if_false] at hc;show(w.at d).cell? _=_;unfold World.cell?;rw[show(w.at d).heap[0]? =w.heap[0]? from rfl,h1];simp only[dC,Option.isSome_none,τ,if_false,af1,hc,ω,ck]
   |_=>cases hc
 refine aC.step rfl λw₁ hR=>?_
 obtain⟨d,rfl⟩:=hR;refine⟨_,w.at d,_,stepG_value ho (hwd π) hkb (hrun π _ (cell d)),⟨ι _,λ_ _ _=>rfl,rfl,rfl,rfl,λev he=>?_⟩,?_⟩
 .obtain⟨_,hb⟩:=hev π _ (cell d) ev (by simpa using mem_listed (fn:=(base f).fn) he)
  have:=hl.own 0 hl.lw.zero id;rw[hl.zero] at this;exact .inl ⟨0,.inl this,hb⟩
 .rw[ai.A1,e]
  exact .stop λw₂ ⟨d2,e2⟩=>⟨rfl,by rw[e2];exact(hl.at d).at d2⟩
theorem GH {Ok:ai.Env}{r:Nat}{f:ab9}{D:j6}{k:List Item}{R:Act->Θ->Prop}{a:Act}{wL:Θ}{ops:Array Oper}{i:Nat}{rest:List Nat}{o:Oper}{x:aa9}(b off:Nat)(q:Int)
  (hlk:(∃ob,Ok.K b=some ob/\∀w:Θ,w.heap[b]? =some ob->w.cell? ⟨b,off,none⟩=some (.int .i64 q))\/(b=0/\wL.cell? ⟨0,off,none⟩=some (.int .i64 q))) (ho:ops[i]? =some o)
  (hwd:∀π,Region.wanted o (yielded ops (aT π a D).tmps)=true) (hdst:∀t,o.dst=some t->t∉sl D) (hop:o.op= .load 3 x) (hx:∀π,(aT π a D).eval x= .pointer (some ⟨b,off,none⟩))
  (h:ai.eN Ok r f D (.inRegion ops rest::k) R (a.put o.dst (.int .i64 q)) wL):ai.eN Ok r f D (.inRegion ops (i::rest)::k) R a wL:=by
 rcases hlk with⟨ob,hK,hc⟩|⟨rfl,hc⟩
 .exact ai.AS b ob hK (.int .i64 q) (by intro r hr;cases hr) ho hwd hdst (λπ w hw=>(sN (hc w hw) _ hop (hx π)).1) (λπ w hw=>(sN (hc w hw) _ hop (hx π)).2) h
 .exact GI off q hc ho hwd hdst (λπ w hw=>(sN hw _ hop (hx π)).1) (λπ w hw=>(sN hw _ hop (hx π)).2) h
def kO (sv sx:Φ)(x:Nat->Φ):j6:=[(0,sv),(1,sx),(24,x 24),(35,x 35),(39,x 39),(41,x 41),(61,x 61),(63,x 63),(67,x 67),(69,x 69),(97,x 97),(99,x 99)]
section
variable {sv sx:Φ}{x:Nat->Φ}
theorem k8:4∉sl (kO sv sx x):=by simp[sl,kO]
end
def vu (s k:Nat)(u:Nat->Φ):Act:={tmps:=#[undef,undef,u 2,u 3,u 4,.pointer (some ⟨s,0,none⟩),.int .i64 k,u 7,u 8,u 9,u 10,u 11,u 12,u 13,u 14,u 15,u 16,u 17,u 18,u 19,u 20,u 21,u 22,u 23,undef,u 25,u 26,u 27,u 28,u 29,u 30,u 31,u 32,u 33,u 34,undef,u 36,u 37,u 38,undef,u 40,undef,u 42,u 43,u 44,u 45,u 46,u 47,u 48,u 49,u 50,u 51,u 52,u 53,u 54,u 55,u 56,u 57,u 58,u 59,u 60,undef,u 62,undef,u 64,u 65,u 66,undef,u 68,undef,u 70,u 71,u 72,u 73,u 74,u 75,u 76,u 77,u 78,u 79,u 80,u 81,u 82,u 83,u 84,u 85,u 86,u 87,u 88,u 89,u 90,u 91,u 92,u 93,u 94,u 95,u 96,undef,u 98,undef,u 100,u 101,u 102,u 103,u 104,u 105,u 106,u 107,u 108,u 109,u 110,u 111,u 112,u 113,u 114,u 115,u 116,u 117,u 118,u 119,u 120,u 121,u 122,u 123,u 124,u 125,u 126,u 127,u 128,u 129,u 130],defers:=[]}
open aG aG.Sq in
theorem GK {E:ai.Env}{wL:Θ}(ad:Option Addr)(cap:Nat)(l:List ql)(h:II E.K ad l)(yV:Option Addr)(cap2:Nat)(l2:List Int)(h2:Ul E.K wL yV l2)(hG:qk wL){cd:Code}(hcd:Tryz.f9.body=some cd):
  ai.eN E 4 9 (kO (.slice ad l.length cap) (.slice yV l2.length cap2) λ_=>undef) [.code cd] (aeP 4 wL) (E2 131) wL:=by
 obtain rfl:=(af0 hcd).symm;clear hcd;have hB:d8 [] wL wL:=d8.refl _ _;refine ai.mc {tmps:=(rn (λ_=>undef) 0 131 []).toArray,defers:=[]} (by kernel_rfl) ?_;simp only[rn];refine ai.cq ?_;refine ai.cD none k8 ⟨_,Tryz.func9⟩ (by kernel_rfl) (by simp) (λw=>d8 [] wL w) (λw t k h=>h.tape t k) hB λw1 hI hsz=>?_
 clear hB hsz;have hB:=hI;clear hI;go_wp2_with fail;refine ai.cq (ai.eY ?_);refine ai.Ky (f2:=30) #[.slice none 0 0] rfl rfl (bK (by kernel_rfl)) (λπ w=>by kernel_rfl) (Kz none 0 [] KS (hG.blk hB (by simp))) λv wb hR _=>?_
 obtain⟨s,d,F0,L0,a0,H0,rfl,hC,hg,hB0,hls,ha0,hrs⟩:=hR;replace hg:bV [] F0 wL:=(bV.refl [] wL).trans hg hB.size;replace hB:=hB.trans hB0;clear hB0 hls hrs;refine ai.ew _ rfl (.inl rfl) (by kernel_rfl) rfl (ai.cg ?_)
 refine ai.dm (λu=>{tmps:=(undef::undef::rn u 2 3 (.pointer (some ⟨s,0,none⟩)::rn u 6 18 (undef::rn u 25 10 (undef::rn u 36 3 (undef::u 40::undef::rn u 42 19 (undef::u 62::undef::rn u 64 3 (undef::u 68::undef::rn u 70 27 (undef::u 98::undef::rn u 100 31 [])))))))).toArray,defers:=[]}) (by kernel_rfl) λu=>?_
 simp only[rn];refine fS (λx=>kO (.slice ad l.length cap) (.slice yV l2.length cap2) x) λx=>?_
 refine ai.cq ?_;refine ai.cD none k8 ⟨_,Tryz.func9⟩ (by kernel_rfl) (by simp) (λw=>bh w F0 s d L0 a0 H0/\d8 [] wL w) (λw t k h=>⟨h.1.az t k,h.2.tape t k⟩) ⟨hC,hB⟩ λw2 hI hsz=>?_
 clear hC hB hsz;obtain⟨hC,hB⟩:=hI;go_wp2_with fail;refine ai.cq (ai.cq ?_);refine ai.cD none k8 ⟨_,Tryz.func9⟩ (by kernel_rfl) (by simp) (λw=>bh w F0 s d L0 a0 H0/\d8 [] wL w) (λw t k h=>⟨h.1.az t k,h.2.tape t k⟩) ⟨hC,hB⟩ λw3 hI hsz=>?_
 clear hC hB hsz;obtain⟨hC,hB⟩:=hI;go_wp2_with fail;refine ai.qa ?_;refine ai.dm (vu s 0) (by kernel_rfl) λu=>?_
 refine ai.tu (λD a w=>∃(x:Nat->Φ) (k:Nat) (F:List Nat) (L:List η) (aa:Int) (H:bZ) (u:Nat->Φ),D=kO (.slice ad l.length cap) (.slice yV l2.length cap2) x/\a=vu s k u/\k<=l.length/\k<=300/\bh w F s d L aa H/\d8 [] wL w/\bV [] F wL/\aa<=30000+80*k) (λa _=>300-(intOf (a.tmps.getD 6 undef)).toNat)
  ⟨_,0,F0,L0,a0,H0,u,rfl,rfl,by omega,by omega,hC,hB,hg,by omega⟩ ?_
 clear hC hB hg u x ha0 F0 L0 a0 H0;rintro D a w ⟨x,k,F,L,aa,H,u,rfl,rfl,hkl,hk3,hC,hB,hg,haa⟩ ih
 have ih':∀(x:Nat->Φ) (k':Nat) (F:List Nat) (L:List η) (aa:Int) (H:bZ) (u:Nat->Φ) (w:Θ),k'=k+1->k'<=l.length->k'<=300->(bh w F s d L aa H/\d8 [] wL w/\bV [] F wL/\aa<=30000+80*(k+1))->ai.eN _ _ _ (kO (.slice ad l.length cap) (.slice yV l2.length cap2) x) _ _ (vu s k' u) w:=λx k' F L aa H u w e1 e2 e3 e4=>ih _ _ _ ⟨x,k',F,L,aa,H,u,rfl,rfl,e2,e3,by subst e1;push_cast;exact e4⟩ (by subst e1;simp[vu,intOf];omega)
 clear ih;unfold vu at ih'⊢;refine ai.cq (ai.cq (ai.eY ?_));refine ai.ew _ rfl (.inr rfl) (by kernel_rfl) rfl (ai.gZ 24 (.slice ad l.length cap) rfl rfl rfl (by simp[sl,kO,ai.fT]) (by simp[sl,kO,ai.fT]) (λπ w=>by kernel_rfl) ?_)
 refine ai.ut (.int .i64 l.length) (by intro r hr;cases hr) rfl rfl (bK (by kernel_rfl)) (λπ w=>by kernel_rfl) ?_;refine ai.fR (w1:=w) (.bool (decide ((k:Int)<(l.length:Int)))) rfl (by kernel_rfl) rfl (λt d=>by kernel_rfl) ?_;refine ai.ew _ rfl (.inr rfl) (by kernel_rfl) rfl ?_
 rcases(by omega:(k<l.length/\k<300)\/¬k<l.length\/(k<l.length/\¬k<300)) with⟨hlt,hlt3⟩|hlt
 .have hd1:decide ((k:Int)<(l.length:Int))=true:=by simp;omega
  have hd2:decide ((k:Int)<300)=true:=by simp;omega
  rw[hd1];refine ai.dm (λu=>{tmps:=(undef::undef::rn u 2 3 (.pointer (some ⟨s,0,none⟩)::.int .i64 k::rn u 7 17 (undef::u 25::.bool true::.bool true::rn u 28 7 (undef::rn u 36 3 (undef::u 40::undef::rn u 42 19 (undef::u 62::undef::rn u 64 3 (undef::u 68::undef::rn u 70 27 (undef::u 98::undef::rn u 100 31 [])))))))).toArray,defers:=[]}) (by kernel_rfl) λu=>?_
  simp only[rn];refine ai.nO rfl (by kernel_rfl) (λπ=>by kernel_rfl) (λtt dd=>(show ai.eN _ _ _ _ _ _ _ (az w tt dd) from(ai.fC tt dd).2 ?_));refine ai.mX (w1:=w) (.bool (decide ((k:Int)<300))) rfl (by kernel_rfl) (λπ=>by kernel_rfl) (λt d=>by kernel_rfl) ?_;rw[hd2]
  refine ai.fR (w1:=w) (.bool true) rfl (by kernel_rfl) rfl (λt d=>by kernel_rfl) (ai.cg ?_)
  refine ai.dm (λu=>{tmps:=(undef::undef::rn u 2 3 (.pointer (some ⟨s,0,none⟩)::.int .i64 k::rn u 7 17 (undef::rn u 25 5 (.bool true::rn u 31 4 (undef::rn u 36 3 (undef::u 40::undef::rn u 42 19 (undef::u 62::undef::rn u 64 3 (undef::u 68::undef::rn u 70 27 (undef::u 98::undef::rn u 100 31 []))))))))).toArray,defers:=[]}) (by kernel_rfl) λu=>?_
  simp only[rn];refine ai.ji (b:=true) rfl rfl ?_;rw[ξ rfl];refine ai.tn (ai.cq (ai.qa ?_));obtain⟨hok,b,off,rfl,ob,hK,hra⟩:=h k hlt;clear hd1 hd2;generalize l[k]=y at hok hra;refine fS (λx=>kO (.slice (some ⟨b,off,none⟩) l.length cap) (.slice yV l2.length cap2) x) λx=>?_
  refine ai.cq ?_;refine ai.cD none k8 ⟨_,Tryz.func9⟩ (by kernel_rfl) (by simp) (λw=>bh w F s d L aa H/\d8 [] wL w) (λw t k h=>⟨h.1.az t k,h.2.tape t k⟩) ⟨hC,hB⟩ λw4 hI hsz=>?_
  clear hC hB hsz;obtain⟨hC,hB⟩:=hI;go_wp2_with fail;refine ai.cq (ai.cq (ai.eY ?_))
  refine ai.dm (λu=>{tmps:=(undef::undef::rn u 2 3 (.pointer (some ⟨s,0,none⟩)::.int .i64 k::.pointer (some ⟨s,0,none⟩)::rn u 8 16 (undef::rn u 25 10 (undef::rn u 36 3 (undef::u 40::undef::rn u 42 19 (undef::u 62::undef::rn u 64 3 (undef::u 68::undef::rn u 70 27 (undef::u 98::undef::rn u 100 31 [])))))))).toArray,defers:=[]}) (by kernel_rfl) λu=>?_
  simp only[rn];refine ai.ew _ rfl (.inr rfl) (by kernel_rfl) rfl (ai.gZ 35 (.slice yV l2.length cap2) rfl rfl rfl (by simp[sl,kO,ai.fT]) (by simp[sl,kO,ai.fT]) (λπ w=>by kernel_rfl) ?_);refine ai.ut (.int .i64 l2.length) (by intro r hr;cases hr) rfl rfl (bK (by kernel_rfl)) (λπ w=>by kernel_rfl) ?_
  refine ai.fR (w1:=w4) (.bool (decide ((k:Int)<(l2.length:Int)))) rfl (by kernel_rfl) rfl (λt d=>by kernel_rfl) ?_;refine ai.ew _ rfl (.inr rfl) (by kernel_rfl) rfl ?_
  by_cases ac9:k<l2.length
  .have hd3:decide ((k:Int)<(l2.length:Int))=true:=by simp;omega
   rw[hd3];clear hd3
   refine ai.dm (λu=>{tmps:=(undef::undef::rn u 2 3 (.pointer (some ⟨s,0,none⟩)::.int .i64 k::.pointer (some ⟨s,0,none⟩)::rn u 8 16 (undef::rn u 25 10 (undef::u 36::.bool true::.bool true::undef::u 40::undef::rn u 42 19 (undef::u 62::undef::rn u 64 3 (undef::u 68::undef::rn u 70 27 (undef::u 98::undef::rn u 100 31 []))))))).toArray,defers:=[]}) (by kernel_rfl) λu=>?_
   simp only[rn];obtain⟨b2,off2,rfl,hlk⟩:=h2 k ac9;refine fS (λx=>kO (.slice (some ⟨b,off,none⟩) l.length cap) (.slice (some ⟨b2,off2,none⟩) l2.length cap2) x) λx=>?_
   refine ai.yG 39 (.slice (some ⟨b2,off2,none⟩) l2.length cap2) rfl (λπ=>by kernel_rfl) rfl (by simp[sl,kO,ai.fT]) (by simp[sl,kO,ai.fT]) (λπ w=>by kernel_rfl) ?_;refine ai.nO rfl (by kernel_rfl) (λπ=>by kernel_rfl) (λtt dd=>(show ai.eN _ _ _ _ _ _ _ (az w4 tt dd) from(ai.fC tt dd).2 ?_))
   refine ai.yG 41 (.pointer (some ⟨b2,off2+k*1,none⟩)) rfl (λπ=>by kernel_rfl) rfl (by simp[sl,kO,ai.fT]) (by simp[sl,kO,ai.fT]) (λπ w=>ui (m:=1) (x:= .tmp 39) (y:= .tmp 40) b2 off2 l2.length cap2 k ac9 _ rfl (ai.mW (by kernel_rfl) (by kernel_rfl) (by kernel_rfl)) w) ?_;rw[Nat.mul_one]
   generalize l2[k]=q at hlk;refine GH (x:= .tmp 41) b2 (off2+k) q (hlk.imp id λhq=>⟨hq.1,hB.cell hq.2 (by simp)⟩) rfl (λπ=>by kernel_rfl) (bK (by kernel_rfl)) rfl (λπ=>by kernel_rfl) ?_;refine ai.mX (w1:=w4) (.int .i64 (Int.tmod q 2)) rfl (by kernel_rfl) (λπ=>by kernel_rfl) (λt d=>by kernel_rfl) ?_
   refine ai.mX (w1:=w4) (.bool (decide (Int.tmod q 2=0))) rfl (by kernel_rfl) (λπ=>by kernel_rfl) (λt d=>by kernel_rfl) ?_;refine ai.fR (w1:=w4) (.bool (decide (Int.tmod q 2=0))) rfl (by kernel_rfl) rfl (λt d=>by kernel_rfl) (ai.cg ?_)
   by_cases hq:Int.tmod q 2=0
   .rw[show decide (Int.tmod q 2=0)=true by simpa using hq]
    refine ai.dm (λu=>{tmps:=(undef::undef::rn u 2 3 (.pointer (some ⟨s,0,none⟩)::.int .i64 k::.pointer (some ⟨s,0,none⟩)::rn u 8 16 (undef::rn u 25 10 (undef::rn u 36 3 (undef::u 40::undef::rn u 42 3 (.bool true::rn u 46 15 (undef::u 62::undef::rn u 64 3 (undef::u 68::undef::rn u 70 27 (undef::u 98::undef::rn u 100 31 []))))))))).toArray,defers:=[]}) (by kernel_rfl) λu=>?_
    simp only[rn];refine ai.ji (b:=true) rfl rfl ?_;rw[ξ rfl];refine ai.cq ?_;refine ai.cD none k8 ⟨_,Tryz.func9⟩ (by kernel_rfl) (by simp) (λw=>bh w F s d L aa H/\d8 [] wL w) (λw t k h=>⟨h.1.az t k,h.2.tape t k⟩) ⟨hC,hB⟩ λw5 hI hsz=>?_
    clear hC hB hsz;obtain⟨hC,hB⟩:=hI;go_wp2_with fail;refine hC.copied.mono ?_;rintro e wc ⟨s2,d2,F2,rfl,hT,fc,gc,lc⟩;have ap:=Ap.fresh hC gc lc;have gT:bV [] F2 wL:=(bV.refl [] wL).trans gc hB.size;replace hC:=hC.new fc;replace hB:=hB.trans fc.blk;clear fc;clear gc lc;go_wp2_with fail;refine ai.cq ?_
    refine ai.cD none k8 ⟨_,Tryz.func9⟩ (by kernel_rfl) (by simp) (λw=>bh w F s d L aa H/\d8 [] wL w/\bh w F2 s2 d2 L 0 H) (λw t k h=>⟨h.1.az t k,h.2.1.tape t k,h.2.2.az t k⟩) ⟨hC,hB,hT⟩ λw6 hI hsz=>?_
    clear hC hB hT hsz;obtain⟨hC,hB,hT⟩:=hI;go_wp2_with fail;refine ai.cq ?_;refine ai.cD none k8 ⟨_,Tryz.func9⟩ (by kernel_rfl) (by simp) (λw=>bh w F s d L aa H/\d8 [] wL w/\bh w F2 s2 d2 L 0 H) (λw t k h=>⟨h.1.az t k,h.2.1.tape t k,h.2.2.az t k⟩) ⟨hC,hB,hT⟩ λw7 hI hsz=>?_
    clear hC hB hT hsz;obtain⟨hC,hB,hT⟩:=hI;go_wp2_with fail;refine hC.seen.mono ?_;rintro e w8 ⟨rfl,f9⟩;replace hC:=hC.new f9;replace hB:=hB.trans f9.blk;replace hT:=hT.new f9;clear f9;go_wp2_with (with_reducible first|refine ay rfl ?_|refine ah 33 rfl ?_);refine aj.go (aY rfl 33 rfl _ jq ?_);intro w13 b8 l10 f11 r12
    go_wp2_with (with_reducible first|refine ah 33 rfl ?_);refine aj.go (gC rfl 33 _ _ rfl b8 rfl (dr (vV (H))) rfl (jS _) (rR _) _ _ r12 (by rw[cX,kz];rfl) ?_);intro w14 f15 r8;have ff:aQ [] w8 w14:=f11.trans f15 (by simpa using l10);have TG:b8∉F/\s≠b8:=⟨λhF=>by have:=hC.store.disk.lt b8 hF;omega,by have:=hC.store.row.lt;omega⟩
    have TF:b8∉F2/\s2≠b8:=⟨λhF=>by have:=hT.store.disk.lt b8 hF;omega,by have:=hT.store.row.lt;omega⟩
    clear f11 f15 r12 l10;replace hC:=hC.new ff;replace hB:=hB.trans ff.blk;replace hT:=hT.new ff;clear ff;go_wp2_with fail;refine ai.cq ?_
    refine ai.cD none k8 ⟨_,Tryz.func9⟩ (by kernel_rfl) (by simp) (λw=>bh w F s d L aa H/\d8 [] wL w/\bh w F2 s2 d2 L 0 H/\Row w b8 (dr (vV (H))) 33) (λw t k h=>⟨h.1.az t k,h.2.1.tape t k,h.2.2.1.az t k,h.2.2.2⟩) ⟨hC,hB,hT,r8⟩ λw16 hI hsz=>?_
    clear hC hB hT r8 hsz;obtain⟨hC,hB,hT,r8⟩:=hI;go_wp2_with fail;refine hT.seen.mono ?_;rintro e w17 ⟨rfl,f18⟩;replace hC:=hC.new f18;replace hB:=hB.trans f18.blk;replace hT:=hT.new f18;replace r8:=f18.row r8;clear f18;go_wp2_with (with_reducible first|refine ay rfl ?_|refine ah 33 rfl ?_);refine aj.go (aY rfl 33 rfl _ jq ?_)
    intro w22 b10 l19 f20 r21;go_wp2_with (with_reducible first|refine ah 33 rfl ?_);refine aj.go (gC rfl 33 _ _ rfl b10 rfl (dr (vV (H))) rfl (jS _) (rR _) _ _ r21 (by rw[cX,kz];rfl) ?_);intro w23 f24 FD;have ff:aQ [] w17 w23:=f20.trans f24 (by simpa using l19)
    have Ns:b10∉F/\s≠b10:=⟨λhF=>by have:=hC.store.disk.lt b10 hF;omega,by have:=hC.store.row.lt;omega⟩
    have Nq:b10∉F2/\s2≠b10:=⟨λhF=>by have:=hT.store.disk.lt b10 hF;omega,by have:=hT.store.row.lt;omega⟩
    clear f20 f24 r21 l19;replace hC:=hC.new ff;replace hB:=hB.trans ff.blk;replace hT:=hT.new ff;replace r8:=ff.row r8;clear ff;go_wp2_with fail;refine ai.cq (ai.eY ?_)
    refine ai.dm (λu=>{tmps:=(undef::undef::rn u 2 3 (.pointer (some ⟨s,0,none⟩)::.int .i64 k::.pointer (some ⟨s2,0,none⟩)::.pointer (some ⟨b8,0,none⟩)::.bool true::.pointer (some ⟨b10,0,none⟩)::.bool true::rn u 12 12 (undef::rn u 25 10 (undef::rn u 36 3 (undef::u 40::undef::rn u 42 19 (undef::u 62::undef::rn u 64 3 (undef::u 68::undef::rn u 70 27 (undef::u 98::undef::rn u 100 31 [])))))))).toArray,defers:=[]}) (by kernel_rfl) λu=>?_
    simp only[rn];refine fS (λx=>kO (.slice (some ⟨b,off,none⟩) l.length cap) (.slice (some ⟨b2,off2,none⟩) l2.length cap2) x) λx=>?_
    refine ai.ew _ rfl (.inr rfl) (by kernel_rfl) rfl (ai.gZ 61 (.slice (some ⟨b,off,none⟩) l.length cap) rfl rfl rfl (by simp[sl,kO,ai.fT]) (by simp[sl,kO,ai.fT]) (λπ w=>by kernel_rfl) (ai.ew _ rfl (.inr rfl) (by kernel_rfl) rfl ?_))
    refine ai.gZ 63 (.pointer (some ⟨b,off+k*4,none⟩)) rfl rfl rfl (by simp[sl,kO,ai.fT]) (by simp[sl,kO,ai.fT]) (λπ w=>ui (m:=4) (x:= .tmp 61) (y:= .tmp 62) b off l.length cap k hlt _ rfl (ai.mW (by kernel_rfl) (by kernel_rfl) (by kernel_rfl)) w) ?_
    refine ai.pC b ob hK (.agg y.cells) sU rfl rfl (bK (by kernel_rfl)) (λπ w hw=>(jL (x:= .tmp 63) ir (by show 0<4;omega) hw hra _ rfl).1) (λπ w hw=>(jL (x:= .tmp 63) ir (by show 0<4;omega) hw hra _ rfl).2) ?_
    refine ai.mY (f2:=17) #[.tmp 60,.tmp 64] #[.pointer (some ⟨s,0,none⟩),.agg (dH y.kind y.side y.path y.content)] (R2:=EW F s d 200 (DS.calm L aa) y.kind y.side y.path y.content w23) rfl rfl (by kernel_rfl) (by kernel_rfl) (bK (by kernel_rfl)) (λb w=>by kernel_rfl) (by kernel_rfl)
     (yL y.kind y.side y.path y.content hC.store (hG.blk hB (by simp)) (hg.nil hG) (ly _ _ _ hC.lo) (by show 0<55;omega) (λ_=>hC.ok (by omega)) hok.1.1 hok.1.2 hok.2.1.1 hok.2.1.2 hok.2.2.1 hok.2.2.2) λv w6 hR _=>?_
    obtain⟨rfl,F',L',N,hC',hg',hB',hN0,hN1,hal⟩:=hC.ia hR;clear hR;have ap0:=ap.symm;replace ap:=(ap.symm.grow hT hg').symm;replace hT:=hT.off ap0 hB';replace r8:=hB'.row r8 TG.1;replace FD:=hB'.row FD Ns.1;have hsz0:=hB.size;replace hB:d8 [] wL w6:=lp hg hB' hB;replace hg:=hg.trans hg' hsz0;clear hg' hB' hC ap0 TG Ns;have hC:=hC';clear hC'
    refine ai.ew _ rfl (.inl rfl) (by kernel_rfl) rfl (ai.cg ?_)
    refine ai.dm (λu=>{tmps:=(undef::undef::rn u 2 3 (.pointer (some ⟨s,0,none⟩)::.int .i64 k::.pointer (some ⟨s2,0,none⟩)::.pointer (some ⟨b8,0,none⟩)::.bool true::.pointer (some ⟨b10,0,none⟩)::.bool true::.int .i64 (tD H y.kind y.side y.path y.content).2::rn u 13 11 (undef::rn u 25 10 (undef::rn u 36 3 (undef::u 40::undef::rn u 42 19 (undef::u 62::undef::rn u 64 3 (undef::u 68::undef::rn u 70 27 (undef::u 98::undef::rn u 100 31 [])))))))).toArray,defers:=[]}) (by kernel_rfl) λu=>?_
    simp only[rn];refine fS (λx=>kO (.slice (some ⟨b,off,none⟩) l.length cap) (.slice (some ⟨b2,off2,none⟩) l2.length cap2) x) λx=>?_
    refine ai.cq (ai.eY ?_);refine ai.ew _ rfl (.inr rfl) (by kernel_rfl) rfl (ai.gZ 67 (.slice (some ⟨b,off,none⟩) l.length cap) rfl rfl rfl (by simp[sl,kO,ai.fT]) (by simp[sl,kO,ai.fT]) (λπ w=>by kernel_rfl) (ai.ew _ rfl (.inr rfl) (by kernel_rfl) rfl ?_))
    refine ai.gZ 69 (.pointer (some ⟨b,off+k*4,none⟩)) rfl rfl rfl (by simp[sl,kO,ai.fT]) (by simp[sl,kO,ai.fT]) (λπ w=>ui (m:=4) (x:= .tmp 67) (y:= .tmp 68) b off l.length cap k hlt _ rfl (ai.mW (by kernel_rfl) (by kernel_rfl) (by kernel_rfl)) w) ?_
    refine ai.pC b ob hK (.agg y.cells) sU rfl rfl (bK (by kernel_rfl)) (λπ w hw=>(jL (x:= .tmp 69) ir (by show 0<4;omega) hw hra _ rfl).1) (λπ w hw=>(jL (x:= .tmp 69) ir (by show 0<4;omega) hw hra _ rfl).2) ?_
    refine ai.mY (f2:=17) #[.tmp 66,.tmp 70] #[.pointer (some ⟨s2,0,none⟩),.agg (dH y.kind y.side y.path y.content)] (R2:=EW F2 s2 d2 200 (DS.calm L 0) y.kind y.side y.path y.content w6) rfl rfl (by kernel_rfl) (by kernel_rfl) (bK (by kernel_rfl)) (λb w=>by kernel_rfl) (by kernel_rfl)
     (yL y.kind y.side y.path y.content hT.store (hG.blk hB (by simp)) (gT.nil hG) (ly _ _ _ hT.lo) (by show 0<55;omega) (λ_=>hT.ok (by omega)) hok.1.1 hok.1.2 hok.2.1.1 hok.2.1.2 hok.2.2.1 hok.2.2.2) λv w7 hR _=>?_
    obtain⟨rfl,F2',L2',N2,hT',hg',hB',hM0,hM1,X1⟩:=hT.ia hR;clear hR;rw[hal] at X1;simp only[af4] at X1;obtain⟨rfl,rfl⟩:=X1;have ap0:=ap;replace ap:=ap.grow hC hg';replace hC:=hC.off ap0 hB';replace r8:=hB'.row r8 TF.1;replace FD:=hB'.row FD Nq.1;replace hB:d8 [] wL w7:=lp gT hB' hB;clear hg' hB' hT ap0 ap TF Nq gT hM0 hM1 hal hra hK hok;have hT:=hT'
    clear hT';generalize tD H y.kind y.side y.path y.content=re at hC hT⊢;obtain⟨Hn,en⟩:=re;simp only at hC hT;refine ai.ew _ rfl (.inl rfl) (by kernel_rfl) rfl (ai.cg ?_)
    refine ai.dm (λu=>{tmps:=(undef::undef::rn u 2 3 (.pointer (some ⟨s,0,none⟩)::.int .i64 k::.pointer (some ⟨s2,0,none⟩)::.pointer (some ⟨b8,0,none⟩)::.bool true::.pointer (some ⟨b10,0,none⟩)::.bool true::.int .i64 en::.int .i64 en::rn u 14 10 (undef::rn u 25 10 (undef::rn u 36 3 (undef::u 40::undef::rn u 42 19 (undef::u 62::undef::rn u 64 3 (undef::u 68::undef::rn u 70 27 (undef::u 98::undef::rn u 100 31 [])))))))).toArray,defers:=[]}) (by kernel_rfl) λu=>?_
    simp only[rn];refine fS (λx=>kO (.slice (some ⟨b,off,none⟩) l.length cap) (.slice (some ⟨b2,off2,none⟩) l2.length cap2) x) λx=>?_
    refine ai.cq ?_;refine ai.cD none k8 ⟨_,Tryz.func9⟩ (by kernel_rfl) (by simp) (λw=>bh w F' s d L' (aa+N) Hn/\bh w F2' s2 d2 L' (0+N) Hn/\d8 [] wL w/\Row w b8 (dr (vV H)) 33/\Row w b10 (dr (vV H)) 33) (λw t k h=>⟨h.1.az t k,h.2.1.az t k,h.2.2.1.tape t k,h.2.2.2.1,h.2.2.2.2⟩) ⟨hC,hT,hB,r8,FD⟩ λw25 hI hsz=>?_
    clear hC hT hB r8 FD hsz;obtain⟨hC,hT,hB,r8,FD⟩:=hI;have HEQ:Hid ((vV H==vV H)=true):=by show _=_;simp
    go_wp2_with (with_reducible first|refine av 33 rfl ?_);refine aj.go (m7 (rL rfl 33 _ rfl b8 rfl kK (dr (vV H)) _ r8 (jS _) ?_));go_wp2_with (with_reducible first|refine av 33 rfl ?_);refine aj.go (m7 (rL rfl 33 _ rfl b10 rfl kK (dr (vV H)) _ FD (jS _) ?_));go_wp2_with fail
    refine(Dj (vV H) (vV H) (kz _) (kz _) _).mono ?_;rintro e w26 ⟨rfl,f27⟩;rw[HEQ.out];replace hC:=hC.new f27;replace hT:=hT.new f27;replace hB:=hB.trans f27.blk;replace r8:=f27.row r8;replace FD:=f27.row FD;clear f27;clear HEQ;go_wp2_with fail;refine hC.bytes.mono ?_;rintro e w28 ⟨rfl,f29⟩;replace hC:=hC.new f29;replace hT:=hT.new f29
    replace hB:=hB.trans f29.blk;replace r8:=f29.row r8;replace FD:=f29.row FD;clear f29;go_wp2_with fail;refine hT.bytes.mono ?_;rintro e w30 ⟨rfl,f31⟩;replace hC:=hC.new f31;replace hT:=hT.new f31;replace hB:=hB.trans f31.blk;replace r8:=f31.row r8;replace FD:=f31.row FD;clear f31;go_wp2_with fail;clear hT r8 FD
    show ai.eN _ _ _ _ (.code (.exit 1)::_) _ _ _;refine ai.pE rfl ?_;refine fS (λx=>kO (.slice (some ⟨b,off,none⟩) l.length cap) (.slice (some ⟨b2,off2,none⟩) l2.length cap2) x) λx=>?_
    refine ai.cD none k8 ⟨_,Tryz.func9⟩ (by kernel_rfl) (by simp) (λw=>bh w F' s d L' (aa+N) Hn/\d8 [] wL w) (λw t k h=>⟨h.1.az t k,h.2.tape t k⟩) ⟨hC,hB⟩ λw32 hI hsz=>?_
    clear hC hB hsz;obtain⟨hC,hB⟩:=hI;go_wp2_with fail;refine ai.dm (vu s (k+1)) (by kernel_rfl) λu=>?_
    exact ih' _ (k+1) F' L' (aa+N) Hn u _ rfl (by omega) (by omega) ⟨hC,hB,hg,by omega⟩
   .rw[show decide (Int.tmod q 2=0)=false by simpa using hq]
    refine ai.dm (λu=>{tmps:=(undef::undef::rn u 2 3 (.pointer (some ⟨s,0,none⟩)::.int .i64 k::.pointer (some ⟨s,0,none⟩)::rn u 8 16 (undef::rn u 25 10 (undef::rn u 36 3 (undef::u 40::undef::rn u 42 3 (.bool false::rn u 46 15 (undef::u 62::undef::rn u 64 3 (undef::u 68::undef::rn u 70 27 (undef::u 98::undef::rn u 100 31 []))))))))).toArray,defers:=[]}) (by kernel_rfl) λu=>?_
    simp only[rn];refine ai.ji (b:=false) rfl rfl ?_;rw[ζ (by simp)];refine ai.tn (ai.cq (ai.eY ?_));refine fS (λx=>kO (.slice (some ⟨b,off,none⟩) l.length cap) (.slice (some ⟨b2,off2,none⟩) l2.length cap2) x) λx=>?_
    refine ai.ew _ rfl (.inr rfl) (by kernel_rfl) rfl (ai.gZ 97 (.slice (some ⟨b,off,none⟩) l.length cap) rfl rfl rfl (by simp[sl,kO,ai.fT]) (by simp[sl,kO,ai.fT]) (λπ w=>by kernel_rfl) (ai.ew _ rfl (.inr rfl) (by kernel_rfl) rfl ?_))
    refine ai.gZ 99 (.pointer (some ⟨b,off+k*4,none⟩)) rfl rfl rfl (by simp[sl,kO,ai.fT]) (by simp[sl,kO,ai.fT]) (λπ w=>ui (m:=4) (x:= .tmp 97) (y:= .tmp 98) b off l.length cap k hlt _ rfl (ai.mW (by kernel_rfl) (by kernel_rfl) (by kernel_rfl)) w) ?_
    refine ai.pC b ob hK (.agg y.cells) sU rfl rfl (bK (by kernel_rfl)) (λπ w hw=>(jL (x:= .tmp 99) ir (by show 0<4;omega) hw hra _ rfl).1) (λπ w hw=>(jL (x:= .tmp 99) ir (by show 0<4;omega) hw hra _ rfl).2) ?_
    refine ai.mY (f2:=17) #[.tmp 96,.tmp 100] #[.pointer (some ⟨s,0,none⟩),.agg (dH y.kind y.side y.path y.content)] (R2:=EW F s d 200 (DS.calm L aa) y.kind y.side y.path y.content w4) rfl rfl (by kernel_rfl) (by kernel_rfl) (bK (by kernel_rfl)) (λb w=>by kernel_rfl) (by kernel_rfl)
     (yL y.kind y.side y.path y.content hC.store (hG.blk hB (by simp)) (hg.nil hG) (ly _ _ _ hC.lo) (by show 0<55;omega) (λ_=>hC.ok (by omega)) hok.1.1 hok.1.2 hok.2.1.1 hok.2.1.2 hok.2.2.1 hok.2.2.2) λv w6 hR _=>?_
    obtain⟨rfl,F',L',N,hC',hg',hB',hN0,hN1,hal⟩:=hC.ia hR;have ya:=yW H y.kind y.side y.path y.content;clear hal hR;have hsz0:=hB.size;replace hB:d8 [] wL w6:=lp hg hB' hB;replace hg:=hg.trans hg' hsz0;generalize tD H y.kind y.side y.path y.content=re at hC' ya⊢;obtain⟨Hn,en⟩:=re;simp only at hC' ya;clear hg' hB' hC hra hK hok;have hC:=hC';clear hC'
    refine ai.ew _ rfl (.inl rfl) (by kernel_rfl) rfl (ai.cg ?_)
    refine ai.dm (λu=>{tmps:=(undef::undef::rn u 2 3 (.pointer (some ⟨s,0,none⟩)::.int .i64 k::rn u 7 7 (.int .i64 en::rn u 15 9 (undef::rn u 25 10 (undef::rn u 36 3 (undef::u 40::undef::rn u 42 19 (undef::u 62::undef::rn u 64 3 (undef::u 68::undef::rn u 70 27 (undef::u 98::undef::rn u 100 31 []))))))))).toArray,defers:=[]}) (by kernel_rfl) λu=>?_
    simp only[rn];refine fS (λx=>kO (.slice (some ⟨b,off,none⟩) l.length cap) (.slice (some ⟨b2,off2,none⟩) l2.length cap2) x) λx=>?_
    refine ai.cD none k8 ⟨_,Tryz.func9⟩ (by kernel_rfl) (by simp) (λw=>bh w F' s d L' (aa+N) Hn/\d8 [] wL w) (λw t k h=>⟨h.1.az t k,h.2.tape t k⟩) ⟨hC,hB⟩ λw33 hI hsz=>?_
    clear hC hB hsz;obtain⟨hC,hB⟩:=hI;rcases ya with rfl|rfl
    all_goals
     go_wp2_with fail;refine ai.pD ?_;refine fS (λx=>kO (.slice (some ⟨b,off,none⟩) l.length cap) (.slice (some ⟨b2,off2,none⟩) l2.length cap2) x) λx=>?_
     refine ai.cD none k8 ⟨_,Tryz.func9⟩ (by kernel_rfl) (by simp) (λw=>bh w F' s d L' (aa+N) Hn/\d8 [] wL w) (λw t k h=>⟨h.1.az t k,h.2.tape t k⟩) ⟨hC,hB⟩ λw34 hI hsz=>?_
     clear hC hB hsz;obtain⟨hC,hB⟩:=hI;go_wp2_with fail;refine ai.dm (vu s (k+1)) (by kernel_rfl) λu=>?_
     exact ih' _ (k+1) F' L' (aa+N) Hn u _ rfl (by omega) (by omega) ⟨hC,hB,hg,by omega⟩
  .have hd3:decide ((k:Int)<(l2.length:Int))=false:=by simp;omega
   rw[hd3];clear hd3
   refine ai.dm (λu=>{tmps:=(undef::undef::rn u 2 3 (.pointer (some ⟨s,0,none⟩)::.int .i64 k::.pointer (some ⟨s,0,none⟩)::rn u 8 16 (undef::rn u 25 10 (undef::u 36::.bool false::.bool false::undef::u 40::undef::rn u 42 19 (undef::u 62::undef::rn u 64 3 (undef::u 68::undef::rn u 70 27 (undef::u 98::undef::rn u 100 31 []))))))).toArray,defers:=[]}) (by kernel_rfl) λu=>?_
   simp only[rn];skip;skip;skip;skip;skip;skip;skip;refine ai.ED 39 rfl (λπ=>by kernel_rfl) rfl (by simp[sl,kO,ai.fT]) (by simp[sl,kO,ai.fT]) ?_;refine ai.mb rfl (bK (by kernel_rfl)) (λπ=>by kernel_rfl) ?_;refine ai.ED 41 rfl (λπ=>by kernel_rfl) rfl (by simp[sl,kO,ai.fT]) (by simp[sl,kO,ai.fT]) ?_
   refine ai.mb rfl (bK (by kernel_rfl)) (λπ=>by kernel_rfl) (ai.mb rfl (bK (by kernel_rfl)) (λπ=>by kernel_rfl) (ai.mb rfl (bK (by kernel_rfl)) (λπ=>by kernel_rfl) ?_));refine ai.fR (w1:=w4) (.bool false) rfl (by kernel_rfl) rfl (λt d=>by kernel_rfl) (ai.cg ?_)
   refine ai.dm (λu=>{tmps:=(undef::undef::rn u 2 3 (.pointer (some ⟨s,0,none⟩)::.int .i64 k::.pointer (some ⟨s,0,none⟩)::rn u 8 16 (undef::rn u 25 10 (undef::rn u 36 3 (undef::u 40::undef::rn u 42 3 (.bool false::rn u 46 15 (undef::u 62::undef::rn u 64 3 (undef::u 68::undef::rn u 70 27 (undef::u 98::undef::rn u 100 31 []))))))))).toArray,defers:=[]}) (by kernel_rfl) λu=>?_
   simp only[rn];refine ai.ji (b:=false) rfl rfl ?_;rw[ζ (by simp)];refine ai.tn (ai.cq (ai.eY ?_));refine fS (λx=>kO (.slice (some ⟨b,off,none⟩) l.length cap) (.slice yV l2.length cap2) x) λx=>?_
   refine ai.ew _ rfl (.inr rfl) (by kernel_rfl) rfl (ai.gZ 97 (.slice (some ⟨b,off,none⟩) l.length cap) rfl rfl rfl (by simp[sl,kO,ai.fT]) (by simp[sl,kO,ai.fT]) (λπ w=>by kernel_rfl) (ai.ew _ rfl (.inr rfl) (by kernel_rfl) rfl ?_))
   refine ai.gZ 99 (.pointer (some ⟨b,off+k*4,none⟩)) rfl rfl rfl (by simp[sl,kO,ai.fT]) (by simp[sl,kO,ai.fT]) (λπ w=>ui (m:=4) (x:= .tmp 97) (y:= .tmp 98) b off l.length cap k hlt _ rfl (ai.mW (by kernel_rfl) (by kernel_rfl) (by kernel_rfl)) w) ?_
   refine ai.pC b ob hK (.agg y.cells) sU rfl rfl (bK (by kernel_rfl)) (λπ w hw=>(jL (x:= .tmp 99) ir (by show 0<4;omega) hw hra _ rfl).1) (λπ w hw=>(jL (x:= .tmp 99) ir (by show 0<4;omega) hw hra _ rfl).2) ?_
   refine ai.mY (f2:=17) #[.tmp 96,.tmp 100] #[.pointer (some ⟨s,0,none⟩),.agg (dH y.kind y.side y.path y.content)] (R2:=EW F s d 200 (DS.calm L aa) y.kind y.side y.path y.content w4) rfl rfl (by kernel_rfl) (by kernel_rfl) (bK (by kernel_rfl)) (λb w=>by kernel_rfl) (by kernel_rfl)
    (yL y.kind y.side y.path y.content hC.store (hG.blk hB (by simp)) (hg.nil hG) (ly _ _ _ hC.lo) (by show 0<55;omega) (λ_=>hC.ok (by omega)) hok.1.1 hok.1.2 hok.2.1.1 hok.2.1.2 hok.2.2.1 hok.2.2.2) λv w6 hR _=>?_
   obtain⟨rfl,F',L',N,hC',hg',hB',hN0,hN1,hal⟩:=hC.ia hR;have ya:=yW H y.kind y.side y.path y.content;clear hal hR;have hsz0:=hB.size;replace hB:d8 [] wL w6:=lp hg hB' hB;replace hg:=hg.trans hg' hsz0;generalize tD H y.kind y.side y.path y.content=re at hC' ya⊢;obtain⟨Hn,en⟩:=re;simp only at hC' ya;clear hg' hB' hC hra hK hok;have hC:=hC';clear hC'
   refine ai.ew _ rfl (.inl rfl) (by kernel_rfl) rfl (ai.cg ?_)
   refine ai.dm (λu=>{tmps:=(undef::undef::rn u 2 3 (.pointer (some ⟨s,0,none⟩)::.int .i64 k::rn u 7 7 (.int .i64 en::rn u 15 9 (undef::rn u 25 10 (undef::rn u 36 3 (undef::u 40::undef::rn u 42 19 (undef::u 62::undef::rn u 64 3 (undef::u 68::undef::rn u 70 27 (undef::u 98::undef::rn u 100 31 []))))))))).toArray,defers:=[]}) (by kernel_rfl) λu=>?_
   simp only[rn];refine fS (λx=>kO (.slice (some ⟨b,off,none⟩) l.length cap) (.slice yV l2.length cap2) x) λx=>?_
   refine ai.cD none k8 ⟨_,Tryz.func9⟩ (by kernel_rfl) (by simp) (λw=>bh w F' s d L' (aa+N) Hn/\d8 [] wL w) (λw t k h=>⟨h.1.az t k,h.2.tape t k⟩) ⟨hC,hB⟩ λw35 hI hsz=>?_
   clear hC hB hsz;obtain⟨hC,hB⟩:=hI;rcases ya with rfl|rfl
   all_goals
    go_wp2_with fail;refine ai.pD ?_;refine fS (λx=>kO (.slice (some ⟨b,off,none⟩) l.length cap) (.slice yV l2.length cap2) x) λx=>?_
    refine ai.cD none k8 ⟨_,Tryz.func9⟩ (by kernel_rfl) (by simp) (λw=>bh w F' s d L' (aa+N) Hn/\d8 [] wL w) (λw t k h=>⟨h.1.az t k,h.2.tape t k⟩) ⟨hC,hB⟩ λw36 hI hsz=>?_
    clear hC hB hsz;obtain⟨hC,hB⟩:=hI;go_wp2_with fail;refine ai.dm (vu s (k+1)) (by kernel_rfl) λu=>?_
    exact ih' _ (k+1) F' L' (aa+N) Hn u _ rfl (by omega) (by omega) ⟨hC,hB,hg,by omega⟩
 rcases hlt with hlt|⟨hlt,hlt3⟩
 all_goals
  first
   |(
     have hd1:decide ((k:Int)<(l.length:Int))=false:=by simp;omega
     rw[hd1];refine ai.dm (λu=>{tmps:=(undef::undef::rn u 2 3 (.pointer (some ⟨s,0,none⟩)::.int .i64 k::rn u 7 17 (undef::u 25::.bool false::.bool false::rn u 28 7 (undef::rn u 36 3 (undef::u 40::undef::rn u 42 19 (undef::u 62::undef::rn u 64 3 (undef::u 68::undef::rn u 70 27 (undef::u 98::undef::rn u 100 31 [])))))))).toArray,defers:=[]}) (by kernel_rfl) λu=>?_
     simp only[rn];refine ai.mb rfl (bK (by kernel_rfl)) (λπ=>by kernel_rfl) (ai.mb rfl (bK (by kernel_rfl)) (λπ=>by kernel_rfl) ?_);refine ai.fR (w1:=w) (.bool false) rfl (by kernel_rfl) rfl (λt d=>by kernel_rfl) (ai.cg ?_)
     refine ai.dm (λu=>{tmps:=(undef::undef::rn u 2 3 (.pointer (some ⟨s,0,none⟩)::.int .i64 k::rn u 7 17 (undef::rn u 25 5 (.bool false::rn u 31 4 (undef::rn u 36 3 (undef::u 40::undef::rn u 42 19 (undef::u 62::undef::rn u 64 3 (undef::u 68::undef::rn u 70 27 (undef::u 98::undef::rn u 100 31 []))))))))).toArray,defers:=[]}) (by kernel_rfl) λu=>?_
     simp only[rn];refine ai.ji (b:=false) rfl rfl ?_;rw[ζ (by simp)];refine ai.pE rfl ?_)
   |(
     have hd1:decide ((k:Int)<(l.length:Int))=true:=by simp;omega
     have hd2:decide ((k:Int)<300)=false:=by simp;omega
     rw[hd1];refine ai.dm (λu=>{tmps:=(undef::undef::rn u 2 3 (.pointer (some ⟨s,0,none⟩)::.int .i64 k::rn u 7 17 (undef::u 25::.bool true::.bool true::rn u 28 7 (undef::rn u 36 3 (undef::u 40::undef::rn u 42 19 (undef::u 62::undef::rn u 64 3 (undef::u 68::undef::rn u 70 27 (undef::u 98::undef::rn u 100 31 [])))))))).toArray,defers:=[]}) (by kernel_rfl) λu=>?_
     simp only[rn];refine ai.nO rfl (by kernel_rfl) (λπ=>by kernel_rfl) (λtt dd=>(show ai.eN _ _ _ _ _ _ _ (az w tt dd) from(ai.fC tt dd).2 ?_));refine ai.mX (w1:=w) (.bool (decide ((k:Int)<300))) rfl (by kernel_rfl) (λπ=>by kernel_rfl) (λt d=>by kernel_rfl) ?_;rw[hd2]
     refine ai.fR (w1:=w) (.bool false) rfl (by kernel_rfl) rfl (λt d=>by kernel_rfl) (ai.cg ?_)
     refine ai.dm (λu=>{tmps:=(undef::undef::rn u 2 3 (.pointer (some ⟨s,0,none⟩)::.int .i64 k::rn u 7 17 (undef::rn u 25 5 (.bool false::rn u 31 4 (undef::rn u 36 3 (undef::u 40::undef::rn u 42 19 (undef::u 62::undef::rn u 64 3 (undef::u 68::undef::rn u 70 27 (undef::u 98::undef::rn u 100 31 []))))))))).toArray,defers:=[]}) (by kernel_rfl) λu=>?_
     simp only[rn];refine ai.ji (b:=false) rfl rfl ?_;rw[ζ (by simp)];refine ai.pE rfl ?_)
  refine fS (λx=>kO (.slice ad l.length cap) (.slice yV l2.length cap2) x) λx=>?_
  clear ih' hg haa h hG;refine ai.cD none k8 ⟨_,Tryz.func9⟩ (by kernel_rfl) (by simp) (λw=>bh w F s d L aa H/\d8 [] wL w) (λw t k h=>⟨h.1.az t k,h.2.tape t k⟩) ⟨hC,hB⟩ λw56 hI hsz=>?_
  clear hC hB hsz;obtain⟨hC,hB⟩:=hI;go_wp2_with fail;refine hC.copied.mono ?_;rintro e wc ⟨s2,d2,F2,rfl,hT,fc,gc,lc⟩;replace hC:=hC.new fc;replace hB:=hB.trans fc.blk;clear fc;clear gc lc;go_wp2_with fail;refine hC.seen.mono ?_;rintro e w57 ⟨rfl,f58⟩;replace hC:=hC.new f58;replace hB:=hB.trans f58.blk;replace hT:=hT.new f58;clear f58
  go_wp2_with (with_reducible first|refine ay rfl ?_|refine ah 33 rfl ?_);refine aj.go (aY rfl 33 rfl _ jq ?_);intro w62 b16 l59 f60 r61;go_wp2_with (with_reducible first|refine ah 33 rfl ?_);refine aj.go (gC rfl 33 _ _ rfl b16 rfl (dr (vV (H))) rfl (jS _) (rR _) _ _ r61 (by rw[cX,kz];rfl) ?_);intro w63 f64 r16
  have ff:aQ [] w57 w63:=f60.trans f64 (by simpa using l59);clear f60 f64 r61 l59;replace hC:=hC.new ff;replace hB:=hB.trans ff.blk;replace hT:=hT.new ff;clear ff;go_wp2_with fail;refine hT.seen.mono ?_;rintro e w65 ⟨rfl,f66⟩;replace hC:=hC.new f66;replace hB:=hB.trans f66.blk;replace hT:=hT.new f66;replace r16:=f66.row r16;clear f66
  go_wp2_with (with_reducible first|refine ay rfl ?_|refine ah 33 rfl ?_);refine aj.go (aY rfl 33 rfl _ jq ?_);intro w70 b18 l67 f68 r69;go_wp2_with (with_reducible first|refine ah 33 rfl ?_);refine aj.go (gC rfl 33 _ _ rfl b18 rfl (dr (vV (H))) rfl (jS _) (rR _) _ _ r69 (by rw[cX,kz];rfl) ?_);intro ZK f72 r18
  have ff:aQ [] w65 ZK:=f68.trans f72 (by simpa using l67);clear f68 f72 r69 l67;replace hC:=hC.new ff;replace hB:=hB.trans ff.blk;replace hT:=hT.new ff;replace r16:=ff.row r16;clear ff;have HEQ:Hid ((vV H==vV H)=true):=by show _=_;simp
  go_wp2_with (with_reducible first|refine av 33 rfl ?_);refine aj.go (m7 (rL rfl 33 _ rfl b16 rfl kK (dr (vV H)) _ r16 (jS _) ?_));go_wp2_with (with_reducible first|refine av 33 rfl ?_);refine aj.go (m7 (rL rfl 33 _ rfl b18 rfl kK (dr (vV H)) _ r18 (jS _) ?_));go_wp2_with fail
  refine(Dj (vV H) (vV H) (kz _) (kz _) _).mono ?_;rintro e w73 ⟨rfl,f74⟩;rw[HEQ.out];replace hC:=hC.new f74;replace hB:=hB.trans f74.blk;replace hT:=hT.new f74;replace r16:=f74.row r16;replace r18:=f74.row r18;clear f74;clear HEQ;go_wp2_with fail;exact Qo (by kernel_rfl) hB
end
section
open Go.ChangeShapes Go.WideShapes Go.ChangeAt Go.RowKit Go.Deep Go.Joins Go.Lib Go.Conc Go.ConcM
theorem ru {n:Int}(h:(Lit.int .i64 n).wf=true):ym n:=by
 unfold ym;simp[Lit.wf] at h;exact h
section
variable {H:Type}{enc:Γ×Φ->H}{w:Θ}{base:Nat}{spare:Nat->Bool}{held:Bool}
theorem uv:Tryz.prog.cellsOf 24=4:=by kernel_rfl
theorem AT:Tryz.prog.cellsOf 3=1:=by kernel_rfl
theorem vE {fuel:Nat}{cs:List Φ}{x:DataW H×List MemPlace}(h:DataW.trod enc Tryz.prog w base spare held fuel 24 cs=some x):∃y:ql,y.Ok/\cs=y.cells.toList:=by
 obtain⟨y0,y1,y2,y3,n,hx,hl,h0,h1,h2,h3⟩:=trod_struct4 Tryz.underlying24 h;rw[uv] at hl;simp only[AT,tx] at h0 h1 h2 h3
 match cs,hl with
 |[c0,c1,c2,c3],_=>
  obtain⟨a0,e0,_,w0⟩:=DataW.trod_int Tryz.underlying3 h0;obtain⟨a1,e1,_,w1⟩:=DataW.trod_int Tryz.underlying3 h1;obtain⟨a2,e2,_,w2⟩:=DataW.trod_int Tryz.underlying3 h2;obtain⟨a3,e3,_,w3⟩:=DataW.trod_string Tryz.underlying9 h3;simp at e0 e1 e2 e3;subst e0 e1 e2 e3;exact⟨⟨a0,a1,a2,a3⟩,⟨ru w0,ru w1,ru w2⟩,rfl⟩
theorem BI {α:Type}{Pr:Nat->α->Prop}:∀n:Nat,(∀i,i<n->∃y,Pr i y)->∃l:List α,l.length=n/\∀i,(h:i<l.length)->Pr i l[i]
 |0,_=>⟨[],rfl,λi h=>by simp at h⟩
 |n+1,h=>by
  obtain⟨l,hl,hp⟩:=BI n λi hi=>h i (by omega)
  obtain⟨y,hy⟩:=h n (by omega);refine⟨l++[y],by simp[hl],λi hi=>?_⟩
  by_cases hi2:i<l.length
  .rw[List.getElem_append_left hi2]
   exact hp i hi2
  .have:i=n:=by simp at hi;omega
   subst this;rw[List.getElem_append_right (by omega)];simpa [hl] using hy
theorem Ch {W:Θ}{a:Option Addr}{len cap fuel:Nat}{x:DataW H×List MemPlace}(h:DataW.trod enc Tryz.prog W 0 spare held fuel 22 [.slice a len cap]=some x):∃l:List ql,l.length=len/\O8 W a l/\len<=cap/\cap<=maxLen:=by
 rcases open_slice Tryz.underlying22 h with⟨hcs,_⟩|⟨ad,len',cap',m,n,D,Pl,hcs,_,hl,hm,hmm,_,hcell⟩
 .simp at hcs
  obtain⟨rfl,rfl,rfl⟩:=hcs;exact⟨[],rfl,λj hj=>by simp at hj,by omega,by omega⟩
 .simp at hcs
  obtain⟨rfl,rfl,rfl⟩:=hcs;have hlm:len<=m:=by rw[hmm];split<;>omega
  have hel:∀i,i<len->∃y:ql,y.Ok/\∃b off,some ad=some (⟨b,off,none⟩:Addr)/\W.rangeAt b (off+i*4) y.cells.toList:=by
   intro i hi;obtain⟨cs',h1,h2⟩:=hcell i (by omega);obtain⟨y,hy,rfl⟩:=vE h2;refine⟨y,hy,?_⟩;obtain⟨_,hlen,h3⟩:=World.cells?_some h1;rw[uv] at h1 hlen h3;obtain⟨b,off,spot⟩:=ad;have hspot:spot=none:=by
    obtain⟨cs0,k1,k2⟩:=hcell 0 (by omega);obtain⟨y0,_,rfl⟩:=vE k2;obtain⟨_,_,k3⟩:=World.cells?_some k1;rw[uv] at k3;have:=World.cell?_spot ((k3 0 (by omega)).trans (show y0.cells.toList[0]? =some (.int .i64 y0.kind) from rfl));simpa [Addr.add] using this
   subst hspot;refine⟨b,off,rfl,λj v hj=>?_⟩;have hj4:j<4:=by
    have:=(List.getElem?_eq_some_iff.1 hj).1;rw[hlen] at this;exact this
   have h5:=h3 j hj4;rw[Addr.add_mid,Addr.add_mid,hj] at h5;exact h5
  obtain⟨l,hl2,hp⟩:=BI len hel;exact⟨l,hl2,λj hj=>hp j hj,hl,hm⟩
end
theorem I1:((begin Tryz.prog (λ_ _=>0) default).world.heap[0]?).bind Obj.row? =some (#[.int .i64 0],3):=by kernel_rfl
theorem zj:Tryz.prog.globals.size=1:=by kernel_rfl
theorem yJ:Tryz.prog.cellTypes Tryz.prog.depth 3=some [3]:=by kernel_rfl
def yY (w:Θ):Prop:=∃c t f,w.heap[0]? =some (.cells c t f)/\∀v∈c,∃q,v= .int .i64 q
theorem yY.zD {w:Θ}(h:yY w):qk w:=by
 obtain⟨c,t,f,h1,h2⟩:=h;refine⟨c,t,f,h1,λv hv r hr=>?_⟩;obtain⟨q,rfl⟩:=h2 v hv;cases hr
theorem yf {w:Θ}(h:w.ShapedOpen Tryz.prog):yY w:=by
 obtain⟨cs,h1,h2,h3⟩:=h.1 0 _ _ (by rw[zj];omega) I1;obtain⟨ts,e1,_,e3⟩:=h3 (by kernel_rfl);rw[yJ] at e1;obtain rfl:=af0 e1;refine⟨cs,_,_,h1,λv hv=>?_⟩;obtain⟨i,hi,rfl⟩:=Array.mem_iff_getElem.1 hv;obtain⟨u,hu,hc⟩:=e3 i cs[i] (by simp[hi]);have:u=3:=by
  simp only[List.length_singleton,Nat.mod_one] at hu;simpa using hu.symm
 subst this;unfold Cell.ok at hc;rw[show Tryz.prog.underlying 3=some (.int .i64) by kernel_rfl] at hc;generalize cs[i]=x at hc;cases x<;>simp at hc;rename_i k n;exact⟨n,by rw[hc.1]⟩
def hide (W:Θ):Θ:={W with heap:=W.heap.mapIdx λb o=>if b=0 then o else .cells #[] 1000000 (0,0)}
def hidden (W:Θ)(b:Nat):Prop:=b<W.heap.size/\b≠0
theorem gX (W:Θ):(hide W).heap.size=W.heap.size:=by simp[hide]
theorem pk (W:Θ)(b:Nat):(hide W).heap[b]? =(W.heap[b]?).map λo=>if b=0 then o else .cells #[] 1000000 (0,0):=by simp[hide]
theorem Kc {W:Θ}(h:qk W):qk (hide W):=by
 obtain⟨c,t,f,h1,h2⟩:=h;exact⟨c,t,f,by rw[pk,h1];simp,h2⟩
theorem MV {W:Θ}(h:qk W):Link (hidden W) ai.no (λb=>b<W.heap.size) ai.no id (hide W) W:=by
 obtain⟨c,t,f,h1,h2⟩:=h;have h0:=(Ψ.1 h1).1;have at0:∀b o,(hide W).heap[b]? =some o->¬hidden W b->b=0/\o= .cells c t f:=λb o hb hn=>by
  have hlt:b<W.heap.size:=by rw[<-gX];exact(Ψ.1 hb).1
  have hz:b=0:=ad2 λq=>hn ⟨hlt,q⟩
  subst hz;rw[pk,h1] at hb;simp at hb;exact⟨rfl,hb.symm⟩
 have hid:∀b o,(hide W).heap[b]? =some o->hidden W b->o= .cells #[] 1000000 (0,0):=λb o hb hh=>by
  rw[pk,ν hh.1,ω,ζ hh.2] at hb;exact(af0 hb).symm
 have low:∀b,hidden W b\/ai.no b->b<(hide W).heap.size:=λb hb=>by rw[gX];exact hb.elim (·.1) False.elim
 have vz:hU (hidden W) (hide W) 0:=⟨by rw[gX];exact h0,λq=>q.2 rfl⟩
 refine⟨λ_ _ e=>e,rfl,λb hb=>by rw[gX] at hb;exact hb,⟨λb o hb hh _=>?_,hid,λb o _ hz=>hz.elim,low,λb hz=>hz.elim,vz,λb o hb hh r hr=>?_⟩,⟨λ_ _ e=>e,rfl,rfl,λb hb _=>by
  have hb:b<(hide W).heap.size:=hb;rw[gX] at hb;exact hb,λb o hb hh _=>?_,hid,λb o _ hz=>hz.elim,low,λb o hb i hi=>?_⟩,λb hb _=>by rw[<-gX];exact hb.1,λb hz=>hz.elim⟩
 .obtain⟨rfl,rfl⟩:=at0 b o hb hh
  trivial
 .obtain⟨rfl,rfl⟩:=at0 b o hb hh
  cases hr with
  |cells hv hr=>exact absurd hr (h2 _ hv r)
 .obtain⟨rfl,rfl⟩:=at0 b o hb hh
  refine⟨trivial,?_⟩;show W.heap[0]? =_;rw[h1];rw[oV λr hr=>by cases hr with|cells hv hr=>exact absurd hr (h2 _ hv r)]
 .by_cases hh:hidden W b
  .have:=hid b o hb hh
   subst this;exact hi.elim
  .obtain⟨rfl,rfl⟩:=at0 b o hb hh
   exact hi.elim
theorem FV {W:Θ}(h:qk W)(K:Nat->Option Obj)(h0:K 0=none):Link (hidden W) ai.no (λb=>b<W.heap.size/\K b=none) ai.no id (hide W) W:=by
 have hl:=MV h;refine⟨hl.inj,hl.zero,hl.lt,hl.lw,hl.wr,λb hv hz=>⟨hl.own b hv hz,?_⟩,hl.ro⟩;have hb:b=0:=ad2 λq=>hv.2 ⟨by have:=hv.1;rwa [gX] at this,q⟩
 subst hb;exact h0
theorem ny {H:Type}{enc:Γ×Φ->H}{a:Assume}{os:Os}{f:ab9}{fn:Func}{s:ChangeSpec}{F:Stop.Interp}{conds:List PathCond}{apart fresh handsOn:Bool}
  (own:ownKnob Tryz.prog.godebug=none) (started:os.Started) (hfn:Tryz.prog.funcs[f]? =some fn)
  (witness:∃(w:Θ) (tape:Tape) (i:Input),w.os=os/\(w.forCall tape i).Shaped Tryz.checked.prog/\i.vars=[]/\Input.okWide Tryz.checked.prog (w.forCall tape i) .any w.heap.size f i/\
   s.pre6 enc Tryz.checked.prog fn conds apart (w.forCall tape i).memory i.args/\a.holds Tryz.checked.prog (lone (Frame.enter Tryz.checked.prog f i.args .normal) [] (w.forCall tape i)))
  (runs:∀(W:Θ) (base:Nat) (args:Array Φ) (ds gs:List (DataW H)) (before:List MemPlace),yY W->
   (∀(j:Nat) t v,fn.params[j]? =some t->args[j]? =some v->Value.okWide Tryz.prog W .any base t v)->
   DataW.Whole enc Tryz.prog fn.params.toList s.vars apart W args.toList ds gs before->
   conds.all (PathCond.test Tryz.prog ⟨fn.params.toList,ds,s.plain.varTypes Tryz.prog,gs⟩)=true->
   (DataW.weightsEach Tryz.prog (fn.params.toList++s.plain.varTypes Tryz.prog) (ds++gs)).all (·<=reachBytes)=true->
   ai.O3 (λv W'=>s.post enc Tryz.prog fn apart fresh handsOn false W args v {W' with os:=W.os}/\OsLater W.os W'.os) (solo (G (Frame.enter Tryz.prog f args .normal) []) W) #[]):
  ReturnsInLeavingWide a Tryz.checked os f .any (s.pre6 enc Tryz.checked.prog fn conds apart) ((OpenSpec.ofChange s).postWith enc Tryz.checked.prog fn F (outsideKept [.timePasses]) apart fresh handsOn):=by
 refine returnsInLeavingWide_of_good own started witness ?_;intro w tape i _ hsh _ hok hpre _;obtain⟨_,_,_,fn',hfn',_,_,_,_,hval⟩:=hok;have e:fn'=fn:=af0 (hfn'.symm.trans hfn);subst e;obtain⟨⟨ds,gs,before,hw,hc⟩,hz⟩:=hpre;have hw':=DataW.Whole.of_heap (w':=w.forCall tape i) (by rfl) hw
 obtain⟨N,last,o,w',t',r1,r2,r3,v,e,hp,r4⟩:=runs (w.forCall tape i) w.heap.size i.args ds gs before (yf hsh) hval hw' hc (hz.weights hw);exact⟨N,last,o,w',t',r1,r2,r3,v,e,postWith_blind (postWith_of_post hp.1 hp.2),r4⟩
theorem M0:ownKnob Tryz.prog.godebug=none:=by kernel_rfl
theorem Az:laidOutB Tryz.prog=true:=by kernel_rfl
def K0 (W:Θ)(b:Nat):Option Obj:=if b=0 then none else W.heap[b]?
theorem acN {W:Θ}(q:Nat)(o:Obj)(h:K0 W q=some o):W.heap[q]? =some o:=by
 unfold K0 at h;split at h
 .cases h
 .exact h
theorem Zz {W:Θ}{ad:Option Addr}{l:List ql}(hG:yY W)(h:O8 W ad l):II (K0 W) ad l:=λj hj=>by
 obtain⟨h1,b,off,rfl,h2⟩:=h j hj;have h3:W.cell? ⟨b,off+j*4+3,none⟩=some (.string l[j].content):=h2 3 _ rfl;obtain⟨ob,Pi⟩:∃ob,W.heap[b]? =some ob:=by
  unfold World.cell? at h3;cases hb:W.heap[b]? with
  |none=>rw[hb] at h3;cases h3
  |some ob=>exact⟨ob,rfl⟩
 have hb0:b≠0:=by
  rintro rfl;obtain⟨c,t,f,g1,g2⟩:=hG;unfold World.cell? at h3;rw[g1] at h3;simp only[Option.isSome_none,τ,if_false] at h3;obtain⟨q,hq⟩:=g2 _ (Array.mem_of_getElem? h3);cases hq
 exact⟨h1,b,off,rfl,ob,by unfold K0;rw[ζ hb0];exact Pi,λw hw=>DA h2 Pi hw⟩
section
variable {W bD w':Θ}{π:Nat->Nat}{own:Nat->Prop}
theorem DZ {t:Go.Proofs.YtchcmhodnkgojaaGreat.d7}{d:Nat}(hG:yY W)(hB:d8 [] (hide W) (az bD t d))(hl:Link (hidden W) ai.no own ai.no π bD w')(hK:∀q o,K0 W q=some o->w'.heap[q]? =some o):∀k,k<W.heap.size->w'.heap[k]? =W.heap[k]? :=λk hk=>by
 by_cases h0:k=0
 .subst h0
  obtain⟨c,t',f,g1,g2⟩:=hG;have e1:bD.heap[0]? =(hide W).heap[0]? :=hB.block 0 (by rw[gX];exact hk) (by simp);rw[pk,g1] at e1;simp only[ω,if_true] at e1;have e2:=(hl.wr.ok 0 _ e1 (λq=>q.2 rfl) id).2;rw[hl.zero,oV λr hr=>by
   cases hr with
   |cells hv hr=>
    obtain⟨q,rfl⟩:=g2 _ hv;cases hr] at e2
  rw[e2,g1]
 .have e:W.heap[k]? =some W.heap[k]:=ν hk
  rw[hK k W.heap[k] (by unfold K0;rw[ζ h0];exact e),e]
theorem xX {H:Type}{enc:Γ×Φ->H}{P:χ}{t:Γ}(hl:laidOutB P=true)(hr:P.readableRec t=true)(hrow:t<P.types.size){W W':Θ}{v:Φ}{d:DataW H}{ps:List MemPlace}
  (h:DataW.Trod enc P W 0 (λ_=>true) true t v d ps) (hb:∀k,k<W.heap.size->W'.heap[k]? =W.heap[k]?) (hlt:∀x∈ps,x.block<W.heap.size):
  DataW.Trod enc P W' 0 (λb=>decide (b<W.heap.size)) true t v d ps:=
 WideElems.Trod_stays hl hr hrow h (λx hx=>by
  cases x with
  |cell b o=>exact World.cell?_of_block (w:=W) (hb b (hlt _ hx))
  |map b=>exact hb b (hlt _ hx)) (λx hx=>by simpa using hlt x hx)
theorem D3 {W w':Θ}(hos:w'.os=W.os)(ho:w'.output=W.output)(hb:∀k,k<W.heap.size->w'.heap[k]? =W.heap[k]?)(may:MemPlace->Prop):W.keptBut w' may:=by
 refine⟨hos,ho,λi hi=>?_⟩;rw[hb i hi];split<;>simp_all
end
def IntsIn (W:Θ)(ad:Option Addr)(l:List Int):Prop:=∀j,(hj:j<l.length)->∃b off,ad=some ⟨b,off,none⟩/\W.cell? ⟨b,off+j,none⟩=some (.int .i64 l[j])
theorem BO {H:Type}{enc:Γ×Φ->H}{spare:Nat->Bool}{held:Bool}{W:Θ}{a:Option Addr}{len cap fuel:Nat}{x:DataW H×List MemPlace}(h:DataW.trod enc Tryz.prog W 0 spare held fuel 64 [.slice a len cap]=some x):∃l:List Int,l.length=len/\IntsIn W a l:=by
 rcases open_slice Tryz.underlying64 h with⟨hcs,_⟩|⟨ad,len',cap',m,n,D,Pl,hcs,_,hl,hm,hmm,_,hcell⟩
 .simp at hcs
  obtain⟨rfl,rfl,rfl⟩:=hcs;exact⟨[],rfl,λj hj=>by simp at hj⟩
 .simp at hcs
  obtain⟨rfl,rfl,rfl⟩:=hcs;have hlm:len<=m:=by rw[hmm];split<;>omega
  have hel:∀i,i<len->∃q:Int,∃b off,some ad=some (⟨b,off,none⟩:Addr)/\W.cell? ⟨b,off+i,none⟩=some (.int .i64 q):=by
   intro i hi;have one:∀i,i<m->∃q:Int,W.cell? (ad.add (i*1))=some (.int .i64 q):=λi hi=>by
    obtain⟨cs',h1,h2⟩:=hcell i hi;obtain⟨q,e0,_,w0⟩:=DataW.trod_int Tryz.underlying3 h2;obtain⟨_,hlen,h3⟩:=World.cells?_some h1;rw[AT] at h1 hlen h3;refine⟨q,?_⟩;have:=h3 0 (by omega);rw[e0] at this;simpa [Addr.add] using this
   obtain⟨b,off,spot⟩:=ad;have hspot:spot=none:=by
    obtain⟨q,hq⟩:=one 0 (by omega);have:=World.cell?_spot hq;simpa [Addr.add] using this
   subst hspot;obtain⟨q,hq⟩:=one i (by omega);rw[Nat.mul_one,Addr.add_mid] at hq;exact⟨q,b,off,rfl,hq⟩
  obtain⟨l,hl2,hp⟩:=BI len hel;exact⟨l,hl2,λj hj=>hp j hj⟩
theorem XH {W:Θ}{ad:Option Addr}{l:List Int}(hG:yY W)(h:IntsIn W ad l):Ul (K0 W) (hide W) ad l:=λj hj=>by
 obtain⟨b,off,rfl,h2⟩:=h j hj;refine⟨b,off,rfl,?_⟩
 by_cases hb:b=0
 .subst hb
  refine .inr ⟨rfl,?_⟩;obtain⟨c,t,f,g1,_⟩:=hG;unfold World.cell? at h2⊢;rw[pk];rw[g1] at h2⊢;simpa using h2
 .refine .inl ?_
  cases Pi:W.heap[b]? with
  |none=>unfold World.cell? at h2;rw[Pi] at h2;cases h2
  |some ob=>exact⟨ob,by unfold K0;rw[ζ hb];exact Pi,λw hw=>by
    unfold World.cell? at h2⊢;rw[Pi] at h2;rw[hw];exact h2⟩
theorem zM (os:Os)(started:os.Started)(H:Type)(enc:Γ×Φ->H)(F:Stop.Interp):
  ReturnsInLeavingWide Rows.copiedRow.assume Tryz.checked os 9 .any (Rows.copiedRow.pre enc Tryz.prog Tryz.f9 (OpenSpec.ofChange Rows.copiedSpec))
   ((OpenSpec.ofChange Rows.copiedSpec).postWith enc Tryz.prog Tryz.f9 F (outsideKept [.timePasses]) Rows.copiedRow.apart Rows.copiedRow.fresh Rows.copiedRow.handsOn):=by
 refine ny (s:=Rows.copiedSpec) (conds:=[]) M0 started Tryz.func9
  (ChangeSpec.witness6c (enc:=enc) (C:=Tryz.checked) ⟨#[],#[.slice none 0 0,.slice none 0 0],[]⟩ 8 (by kernel_rfl) (by kernel_rfl) (by kernel_rfl) (by kernel_rfl)) ?_
 intro W base args ds gs before hG hval0 hW hcnd _;have hval:∀(j:Nat) t v,Tryz.f9.params[j]? =some t->args[j]? =some v->Value.okWide Tryz.prog W .any base t v:=hval0;have hW':=hW;obtain⟨p,q,Z4,hV,rfl,hfz,hnd⟩:=hW;have hA:DataW.TrodAll enc Tryz.prog W 0 (λ_=>true) true Tryz.f9.params.toList args.toList ds p:=Z4;rw[Tryz.params9] at hA hval
 obtain⟨v0,v1,d0,d1,p0,p1,rfl,rfl,rfl,h0,h1⟩:=trodAll_two hA;have lt0:∀x∈p0,x.block<W.heap.size:=by obtain⟨m,hm⟩:=h0;exact DataW.trod_lt m _ _ _ hm
 have lt1:∀x∈p1,x.block<W.heap.size:=by obtain⟨m,hm⟩:=h1;exact DataW.trod_lt m _ _ _ hm
 obtain⟨rfl,rfl⟩:=trodVars_none hV;have k0:=h0;obtain⟨aj9,g0⟩:=h0;obtain⟨a0,ak4,cap0,rfl⟩:=okWide_slice Tryz.underlying22 (hval 0 22 v0 rfl rfl);obtain⟨l0,rfl,X3,hl0,hcap0⟩:=Ch (by simpa [Value.cells] using g0);have k1:=h1;obtain⟨fuel1,g1⟩:=h1;obtain⟨a1,ak3,aez,rfl⟩:=okWide_slice Tryz.underlying64 (hval 1 64 v1 rfl rfl)
 obtain⟨l1,rfl,XU⟩:=BO (by simpa [Value.cells] using g1);clear Z4 hval0
 refine ai.DQ (W:=W) (H:=hidden W) (K:=K0 W) (wL:=hide W) (R2:=Ue (hide W)) Tryz.func9 rfl (by kernel_rfl) rfl (FV hG.zD (K0 W) rfl) acN (E2 131) (kO (.slice a0 l0.length cap0) (.slice a1 l1.length aez) λ_=>undef) IV rfl (by kernel_rfl) (gX W) (GK a0 cap0 l0 (Zz hG X3) a1 aez l1 (XH hG XU) (Kc hG.zD) rfl) ?_
 intro v bD π own w' ⟨t,d,hv,hB⟩ hl hvv hag hs1 hs2 hos hout hK;subst hv;have hb:=DZ hG hB hl hK;rw[show Value.ren π (.bool true)= .bool true by simp]
 exact⟨⟨_,_,_,[],_,[],hW',trodAll_mk1 (shut_bool Tryz.underlying4 _),(trodAll_cons_mk (xX Az (by kernel_rfl) (of_decide_eq_true (by kernel_rfl)) k0 hb lt0) (trodAll_cons_mk (xX Az (by kernel_rfl) (of_decide_eq_true (by kernel_rfl)) k1 hb lt1) trodAll_mk0)),rfl,D3 (W:=W) (w':={w' with os:=W.os}) rfl hout hb _,λh=>by cases h⟩,hos⟩
theorem copied_said:Rows.CopiedSaid:=
 OpenClaim.holds_of_wide_leaving_time 9 Tryz.f9 rfl rfl rfl rfl rfl rfl rfl ⟨rfl,rfl,rfl,rfl,rfl⟩ rfl rfl rfl rfl rfl (by kernel_rfl) Tryz.func9 (by kernel_rfl)
  (of_decide_eq_true (by kernel_rfl)) (by unfold Func.isWrapper;first|(rw[ξ (by decide+kernel)];kernel_rfl)|(rw[ζ (by decide+kernel)];exact⟨rfl,rfl⟩))
  (λos started H enc _ F=>zM os started H enc F)
end
end
end Go.Proofs.YtchcmhodnkgojaaGreat
