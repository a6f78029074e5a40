/- Kept is true at every input: a Sync brings over what one side alone has changed, and leaves conflicts as they are: the given statement Rows.KeptSaid, with no condition beside the row's own. -/
import Derived.Test.YtchcmhodnkgojaaGreatPart11
import Derived.Conc.HoldsTime
import Derived.Leaving
import Derived.ProofKit
import Derived.Carry
import Derived.Deep.Slices
import Derived.Lib.SmallJoins
set_option linter.all false
set_option maxRecDepth 100000
set_option maxHeartbeats 8000000
namespace Go.Proofs.YtchcmhodnkgojaaGreat
noncomputable section
section
open Go.RowKit Go.Lib
theorem uy:37<aK 200:=by decide
section
variable {L:List UInt8}{n:Nat}{H:bO}
theorem yP (h:Has L n H)(h7:dW H)(s:Nat)(p c:List UInt8)(hp:p∈P7)(a:Int):(DS.calm L a).pX n s (aB p) (aB c)=(DS.calm L a).put n s (aB p) (aB c):=by
 obtain⟨m,hr,hm⟩:=h;have hm7:=h7.slots hm;have LF:=nW (x:=DS.calm L a) hr rfl hm7;unfold DS.pX;rw[show(DS.calm L a).failed=false from rfl,LF];simp only[Bool.false_eq_true,if_false];rw[if_neg];refine Nat.not_lt.2 (I9 _ fun f hf _=>?_);rcases List.mem_append.1 hf with hf|hf
 .rw[oP (x:=DS.calm L a) hr rfl] at hf
  exact(hm7.files hr f hf).2
 .obtain rfl:=List.mem_singleton.1 hf
  exact hp
theorem qB (h:Has L n H)(h7:dW H)(s:Nat)(p:ByteArray)(a:Int):(DS.calm L a).fS n s p=(DS.calm L a).remove n s p:=by
 obtain⟨m,hr,hm⟩:=h;have LF:=nW (x:=DS.calm L a) hr rfl (h7.slots hm);unfold DS.fS;rw[show(DS.calm L a).failed=false from rfl,LF];simp only[Bool.false_eq_true,if_false]
theorem Ax (h:Has L n H)(s:Nat)(p:List UInt8)(hs:H s p=none)(a:Int):(DS.calm L a).remove n s (aB p)=(DS.calm L a,.int .i64 5):=by
 obtain⟨m,hr,hm⟩:=h;have hh:=hm s p;rw[hs] at hh;exact B0 n s (aB p) (DS.calm L a) (p7 (x:=DS.calm L a) hr rfl s p hh)
theorem dW.set {H:bO}(h:dW H){s:Nat}{p:List UInt8}(hs:s<=2/\p∈P7)(r:Option (List UInt8)):dW (fl H s p r):=fun s' p' hn=>by
 unfold fl at hn;split at hn
 .rename_i e;rw[e.1,e.2];exact hs
 .exact h s' p' hn
def zx (H:bO)(k sd pt:Int)(ct:ByteArray):bO×Int:=
 if br k 4=2 then(if H (br sd 2) (cz (br pt 7))=none then(H,5) else(fl H (br sd 2) (cz (br pt 7)) none,0))
 else(fl H (br sd 2) (cz (br pt 7)) (some (de ct).data.toList),0)
theorem Ji (h:Has L n H)(h7:dW H)(hn:37<aK n)(k sd pt:Int)(ct:ByteArray):
  ∃L' N,Has L' n (zx H k sd pt ct).1/\dW (zx H k sd pt ct).1/\(0:Int)<=N/\N<=5/\∀a,(DS.calm L a).act n k sd pt ct=(DS.calm L' (a+N),.int .i64 (zx H k sd pt ct).2):=by
 have hs:=n9 sd 2;have hp:=n9 pt 7;have hcl:=Db ct;have hpm:=Ij (br pt 7) hp;have hsp:br sd 2<=2/\cz (br pt 7)∈P7:=⟨by omega,hpm⟩
 unfold zx DS.act
 by_cases hk:br k 4=2
 .simp only[if_pos hk]
  by_cases hx:H (br sd 2) (cz (br pt 7))=none
  .simp only[if_pos hx]
   refine⟨L,0,h,h7,by omega,by omega,fun a=>?_⟩;rw[qB h h7,<-kN,Ax h _ _ hx,Int.add_zero]
  .simp only[if_neg hx]
   obtain⟨L',q1,q2⟩:=qf h _ _ hx;refine⟨L',2,q1,h7.set hsp _,by omega,by omega,fun a=>?_⟩;rw[qB h h7,<-kN,q2]
 .simp only[if_neg hk]
  obtain⟨L',q1,q2⟩:=uN h h7.eight (by omega) (br sd 2) (cz (br pt 7)) _ (AW (by omega) hpm) hcl;refine⟨L',5,q1,h7.set hsp _,by omega,by omega,fun a=>?_⟩;have hb:aB (de ct).data.toList=de ct:=by simp[aB]
  have:=yP h h7 (br sd 2) (cz (br pt 7)) (de ct).data.toList hpm a;rw[hb,kN] at this;rw[this];have q:=q2 a;rw[hb,kN] at q;exact q
end
def rO (H:bO):List (List UInt8):=@dite _ (∃ps,gy H ps) (Classical.propDecidable _) (fun h=>h.choose) fun _=>[]
theorem Dk {H:bO}{ps:List (List UInt8)}(h:gy H ps):rO H=ps:=by
 unfold rO;rw[dif_pos ⟨ps,h⟩];exact(Exists.choose_spec (⟨ps,h⟩:∃ps,gy H ps)).uniq h
def vh (L:List UInt8)(H:bO):List UInt8×Int:=(((DS.calm L 0).xa 200 (fy H (rO H))).1.aS,((DS.calm L 0).xa 200 (fy H (rO H))).1.acts)
def Fr (L:List UInt8)(H:bO)(k sd pt:Int)(ct:ByteArray):List UInt8×Int:=
 if br k 4=3 then vh L H else(((DS.calm L 0).act 200 k sd pt ct).1.aS,((DS.calm L 0).act 200 k sd pt ct).1.acts)
theorem Bk {L L':List UInt8}{H:bO}{k:Int}{ps:List (List UInt8)}{v:Value}(hP:gy H ps)(h:∀a,(DS.calm L a).xa 200 (fy H ps)=(DS.calm L' (a+k),v)):vh L H=(L',k):=by
 unfold vh;rw[Dk hP,h 0,Int.zero_add];rfl
structure cB (w:World)(F:List Nat)(s d:Nat)(L:List UInt8)(a:Int)(H:bO):Prop where
 store:aQ w F s d 200 (DS.calm L a)
 has:Has L 200 H
 seven:dW H
 lo:0<=a
section
variable {w w' wL:World}{F:List Nat}{s d:Nat}{L:List UInt8}{a:Int}{H:bO}
theorem cB.ax (h:cB w F s d L a H)(t:Go.Proofs.YtchcmhodnkgojaaGreat.dU)(k:Nat):cB (ax w t k) F s d L a H:=⟨h.store.ax t k,h.has,h.seven,h.lo⟩
theorem cB.new (h:cB w F s d L a H)(f:aO [] w w'):cB w' F s d L a H:=⟨h.store.new f,h.has,h.seven,h.lo⟩
theorem cB.ok (h:cB w F s d L a H)(ha:a<=900000000):AU (DS.calm L a) 200:=Oe h.has h.seven uy a h.lo ha
theorem cB.synced (h:cB wL F s d L a H){v:Value}(hR:xE F s d 200 (DS.calm L a) wL v w'):
  ∃ps cv F' L' k,v= .tuple #[.agg #[.int .i64 (fy H ps).length,cv],.int .i64 0]/\gy H ps/\cB w' F' s d L' (a+k) (fh H)/\ce F F' wL/\eM F wL w'/\(0:Int)<=k/\k<=80/\(fy H ps=[]->L'=L/\k=0)/\
   w'.ownsRow wL.heap.size 9 1 cv (jq H ps).length (eW (jq H ps))/\(∀g,cv.ownBlock=some g->g∉F')/\vh L H=(L',k):=by
 have hm:=Cr h.has h.seven a;rcases hR with⟨h1,_⟩|⟨_,ps,F',hP,hS,hG,hB,hv⟩
 .exact absurd hm h1
 .have Sm:=sw (x:=DS.calm L a) h.has rfl hP
  obtain⟨e1,e2⟩:=se (x:=DS.calm L a) h.has rfl ps;obtain⟨L',k,q1,q2,q3,q4,q5,q6⟩:=yI h.has h.seven uy Sm;rw[e1,q5 a] at hS;rw[e1,e2,q5 a] at hv;rcases hv with⟨cv,_,rfl,h7,h8⟩|⟨e,h6,h7,_⟩
  .exact⟨ps,cv,F',L',k,rfl,Sm,⟨hS,q1,q2,by have:=h.lo;omega⟩,hG,hB,q3,q4,q6,h7,h8,Bk Sm q5⟩
  .cases h7;exact absurd rfl h6
theorem cB.Of (h:cB wL F s d L a H){e:Int}(hR:i7 F s d 200 (DS.calm L a) wL e w'):e=0/\∃F' L' k,cB w' F' s d L' (a+k) (fh H)/\ce F F' wL/\eM F wL w'/\(0:Int)<=k/\k<=80/\vh L H=(L',k):=by
 have hm:=Cr h.has h.seven a;rcases hR with⟨h1,_⟩|⟨_,ps,F',hP,hS,hG,hB,hv⟩
 .exact absurd hm h1
 .have Sm:=sw (x:=DS.calm L a) h.has rfl hP
  obtain⟨e1,e2⟩:=se (x:=DS.calm L a) h.has rfl ps;obtain⟨L',k,q1,q2,q3,q4,q5,q6⟩:=yI h.has h.seven uy Sm;rw[e1,q5 a] at hS hv;cases hv;exact⟨rfl,F',L',k,⟨hS,q1,q2,by have:=h.lo;omega⟩,hG,hB,q3,q4,Bk Sm q5⟩
def yx (H:bO)(k sd pt:Int)(ct:ByteArray):bO×Int:=if br k 4=3 then(fh H,0) else zx H k sd pt ct
theorem Nz (H:bO)(k sd pt:Int)(ct:ByteArray):(yx H k sd pt ct).2=0\/(yx H k sd pt ct).2=5:=by
 unfold yx zx;split
 .exact .inl rfl
 .split
  .split
   .exact .inr rfl
   .exact .inl rfl
  .exact .inl rfl
theorem cB.jd (h:cB wL F s d L a H){k sd pt:Int}{ct:ByteArray}{v:Value}(hR:Rs F s d 200 (DS.calm L a) k sd pt ct wL v w'):
  v= .int .i64 (yx H k sd pt ct).2/\∃F' L' N,cB w' F' s d L' (a+N) (yx H k sd pt ct).1/\ce F F' wL/\eM F wL w'/\(0:Int)<=N/\N<=80/\Fr L H k sd pt ct=(L',N):=by
 rcases hR with⟨h3,rfl,F',h4,h5,h6⟩|⟨h3,e,rfl,hE⟩
 .unfold yx
  rw[if_neg h3];obtain⟨L',N,q1,q2,q3,q4,q5⟩:=Ji h.has h.seven uy k sd pt ct;have hL:Fr L H k sd pt ct=(L',N):=by
   unfold Fr;rw[if_neg h3,q5 0,Int.zero_add];rfl
  rw[q5 a] at h4⊢;exact⟨rfl,F',L',N,⟨h4,q1,q2,by have:=h.lo;omega⟩,h5,h6,q3,by omega,hL⟩
 .unfold yx
  rw[if_pos h3];obtain⟨rfl,F',L',N,q1,q2,q3,q4,q5,q6⟩:=h.Of hE;exact⟨rfl,F',L',N,q1,q2,q3,q4,q5,by unfold Fr;rw[if_pos h3];exact q6⟩
end
def H0:bO:=fun _ _=>none
theorem sJ (n:Nat)(h:16<=n):Has (e9 n) n H0:=⟨_,Ia n h,fun _ _ i f hf=>by cases hf⟩
def H1:bO:=fl H0 0 [97] (some [102,105,114,115,116])
theorem SI:([97]:List UInt8)∈P7:=wm.2 ⟨0,by omega,by decide⟩
theorem zY:dW H0:=fun _ _ h=>absurd rfl h
theorem Tn:dW H1:=zY.set ⟨by omega,SI⟩ _
theorem S8 {ps:List (List UInt8)}(h:gy H1 ps):fy H1 ps=[([97],0)]:=by
 have hmem:∀l,l∈ps↔l=[97]:=fun l=>by
  rw[h.2];unfold H1 fl H0
  by_cases e:l=[97]<;>simp[e]
 have hps:ps=[[97]]:=by
  cases ps with
  |nil=>exact absurd ((hmem [97]).2 rfl) (by simp)
  |cons p r=>
   have hp:=(hmem p).1 (by simp);subst hp;cases r with
   |nil=>rfl
   |cons q r=>
    have hq:=(hmem q).1 (by simp);subst hq;have:=(List.pairwise_cons.1 h.1).1 [97] (by simp);exact absurd this (List.lt_irrefl _)
 rw[hps];rfl
abbrev St:=List UInt8×Int×bO
def AC:List UInt8:=((DS.calm (e9 200) 0).put 200 0 ⟨#[97]⟩ (aB [102,105,114,115,116])).1.aS
def st0:St:=((vh AC H1).1,5+(vh AC H1).2,fh H1)
def nxt (st:St)(y:pr):St:=((Fr st.1 st.2.2 y.kind y.side y.path y.content).1,st.2.1+(Fr st.1 st.2.2 y.kind y.side y.path y.content).2,(yx st.2.2 y.kind y.side y.path y.content).1)
def yU (l:List pr):St:=l.foldl nxt st0
theorem D9 {l:List pr}{k:Nat}{L L':List UInt8}{a N:Int}{H:bO}(hk:k<l.length)(h:yU (l.take k)=(L,a,H))(hN:Fr L H l[k].kind l[k].side l[k].path l[k].content=(L',N)):
  yU (l.take (k+1))=(L',a+N,(yx H l[k].kind l[k].side l[k].path l[k].content).1):=by
 unfold yU at h⊢;rw[List.take_succ_eq_append_getElem hk,List.foldl_append,h];simp only[List.foldl_cons,List.foldl_nil,nxt,hN]
theorem ZJ:fh H1 1 [97]=some [102,105,114,115,116]:=by decide
end
section
open Go.RowKit Go.Lib Go.Sort
def Yr (l:List pr)(wL:World)(v:Value)(w':World):Prop:=∃s d F L a H,v= .pointer (some ⟨s,0,none⟩)/\cB w' F s d L a H/\ce [] F wL/\eM [] wL w'/\wL.heap.size<=s/\a<=30000/\yU (l.take 300)=(L,a,H)
def sW (sl:Value)(s k:Nat)(u:Nat->Value):Act:={tmps:=#[sl,u 1,u 2,.pointer (some ⟨s,0,none⟩),u 4,u 5,u 6,u 7,u 8,u 9,.int .i64 k,u 11,u 12,u 13,u 14,u 15,u 16,u 17,u 18,u 19,u 20,u 21,u 22,u 23,u 24,u 25,u 26,u 27,u 28,u 29,u 30,u 31,u 32,u 33,u 34,u 35,u 36,u 37,u 38,u 39,u 40,u 41,u 42,u 43,u 44,u 45,u 46,u 47,u 48,u 49,u 50,u 51,u 52,u 53,u 54,u 55,u 56,u 57,u 58,u 59,u 60,u 61,u 62,u 63,u 64,u 65,u 66,u 67,u 68,u 69,u 70,u 71,u 72,u 73,u 74],defers:=[]}
theorem ce.nil {F:List Nat}{w:World}(g:ce [] F w)(hG:pq w):0∉F:=g.zero hG (by simp)
theorem rv {F:List Nat}{w wa wb:World}(g:ce [] F w)(hB:eM F wa wb)(hA:eM [] w wa):eM [] w wb:=(hA.trans hB fun i hi=>(g i hi).imp (by simp) id)
end
section
open Go.Conc
namespace az
section
variable (Ok:Env)(r:Nat)
def eV (f:FuncId)(D:kQ)(t:List Item)(R:Act->World->Prop)(a:Act)(wL:World):Prop:=
 ∀(CS:List Frame) (π:Nat->Nat) (M:Machine) (tr:Trace),AV Ok π wL M tr (G ((base f).at (bg π a D) t) CS)->VA Ok.H wL a.tmps->a.defers=[]->
  (∀(a':Act) (D':kQ) (bD:World) (cj:Nat->Nat) (M':Machine) (jR:Trace) (todo:List Item),r∉sl D'->(∃t d,R a' (ax bD t d))->AV Ok cj bD M' jR (G {(base f).at (bg cj a' D') todo with mode:= .returning} CS)->
   VA Ok.H bD a'.tmps->a'.defers=[]->(∀b,b<wL.heap.size->cj b=π b)->wL.heap.size<=bD.heap.size->Ok.Ok M' jR)->Ok.Ok M tr
end
section
variable {Ok:Env}{r:Nat}{f:FuncId}{D:kQ}{k t:List Item}{R:Act->World->Prop}{a:Act}{wL:World}
theorem i6 (t':dU)(d:Nat):eV Ok r f D t R a (ax wL t' d)↔eV Ok r f D t R a wL:=
 ⟨fun h CS π M tr hp=>h CS π M tr ((AV.ax t' d).2 hp),fun h CS π M tr hp=>h CS π M tr ((AV.ax t' d).1 hp)⟩
theorem gW {t':List Item}(hs:∀(b:Act) (CS:List Frame) (w:World),(∀x,iR (sl D) x=true->a.eval x= .bool true->b.eval x= .bool true)->(∀x,iR (sl D) x=true->a.eval x= .bool false->b.eval x= .bool false)->stepG PP true (G ((base f).at b t) CS) w= .go (G ((base f).at b t') CS) w)
  (h:eV Ok r f D t' R a wL):eV Ok r f D t R a wL:=fun CS π M tr hp ha hd hk=>by
 have ev:∀(x:Operand) (t:Bool),iR (sl D) x=true->a.eval x= .bool t->(bg π a D).eval x= .bool t:=fun x t ho hx=>by
  cases x with
  |tmp i=>
   show(v6 D (a.tmps.map (Value.ren π))).getD i undef=_;rw[Array.getD_eq_getD_getElem?,qV D _ i (FV ho),<-Array.getD_eq_getD_getElem?,jF,show a.tmps.getD i undef=_ from hx];simp
  |const v=>exact hx
  |global g=>cases hx
  |func f=>cases hx
 exact ep hp (hs _ _ · (fun x ho=>ev x true ho) fun x ho=>ev x false ho) fun M' jR hp'=>h CS π M' jR hp' ha hd hk
theorem ec {x y:Code}(h:eV Ok r f D (.code x::.code y::k) R a wL):eV Ok r f D (.code (.seq x y)::k) R a wL:=gW (fun _ _ _ _ _=>stepG_seq) h
theorem zw {id:Nat}{c:Code}(h:eV Ok r f D (.code c::.inBlock id::k) R a wL):eV Ok r f D (.code (.block id c)::k) R a wL:=gW (fun _ _ _ _ _=>stepG_block) h
theorem Dh {id:Nat}(h:eV Ok r f D k R a wL):eV Ok r f D (.inBlock id::k) R a wL:=gW (fun _ _ _ _ _=>stepG_inBlock) h
theorem MV {c:Code}(h:eV Ok r f D (.code c::.inLoop c::k) R a wL):eV Ok r f D (.code (.loop c)::k) R a wL:=gW (fun _ _ _ _ _=>stepG_loop) h
theorem E7 {c:Code}(h:eV Ok r f D (.code c::.inLoop c::k) R a wL):eV Ok r f D (.inLoop c::k) R a wL:=gW (fun _ _ _ _ _=>stepG_inLoop) h
theorem MR (h:eV Ok r f D k R a wL):eV Ok r f D (.code .skip::k) R a wL:=gW (fun _ _ _ _ _=>stepG_skip) h
theorem Di {id:Nat}{k':List Item}(he:exitTo id k=some k')(h:eV Ok r f D k' R a wL):eV Ok r f D (.code (.exit id)::k) R a wL:=gW (fun _ _ _ _ _=>stepG_exit he) h
theorem xm {x:Operand}{p q:Code}{b:Bool}(hx:a.eval x= .bool b)(ho:iR (sl D) x=true)(h:eV Ok r f D (.code (if b then p else q)::k) R a wL):eV Ok r f D (.code (.cond x p q)::k) R a wL:=by
 refine gW (fun b' CS w h1 h2=>?_) h;cases b with
 |true=>exact stepG_cond (h1 x ho hx)
 |false=>exact stepG_cond (h2 x ho hx)
theorem kK {id:Nat}{ops:Array Oper}(h:eV Ok r f D (.inRegion ops (List.range ops.size)::k) R a wL):eV Ok r f D (.code (.region id ops false)::k) R a wL:=gW (fun _ _ _ _ _=>stepG_region) h
theorem fL {ops:Array Oper}(h:eV Ok r f D k R a wL):eV Ok r f D (.inRegion ops []::k) R a wL:=gW (fun _ _ _ _ _=>stepG_region_end) h
def xC (Ok:Env)(r:Nat)(fN:Option Nat)(f:FuncId)(D:kQ)(k:List Item)(R:Act->World->Prop):Exit->Act->World->Prop
 |.normal,a,w=>eV Ok r f D k R a w
 |.exit id,a,w=>fN=some id/\∃k',exitTo id k=some k'/\eV Ok r f D k' R a w
 |.ret,a,w=>∃t d,R a (ax w t d)
 |_,_,_=>False
theorem Ei {fN:Option Nat}:QOk fN (xC Ok r fN f D k R) where
 tape:=fun e a w t d=>by
  cases e with
  |normal=>exact i6 t d
  |exit id=>exact and_congr Iff.rfl (exists_congr fun k'=>and_congr Iff.rfl (i6 t d))
  |ret=>exact Iff.rfl
  |_=>exact Iff.rfl
 out:=fun e a w h=>by
  cases e with
  |normal=>exact .inl rfl
  |ret=>exact .inr (.inl rfl)
  |exit id=>exact .inr (.inr ⟨id,rfl,h.1⟩)
  |_=>exact h.elim
theorem Dg {t0:List Item}(fN:Option Nat)(hr:r∉sl D)(h0:∃fn,PP.funcs[f]? =some fn)(A0:∀it∈t0,bY (sl D) PP S0 E0 true it=true)(hx:∀id,fN=some id->∃y,exitTo id k=some y)
  (hwp:∀t d,WpT PP t0 (xC Ok r fN f D k R) a (ax wL t d)):eV Ok r f D (t0++k) R a wL:=fun CS π M tr hp ha hd hk=>by
 refine kb hp (fun own w hl=>Lp Bs (fun _ _ h=>h) h0 wH Ei (B:=base f) (D0:=D) (CS:=CS) (kT:=k) rfl (by simp[base]) hx A0 hl ha hd hwp) ?_;rintro Dead s g w M' jR hz ⟨e,a',bD,cj,q,hl,hd',ha',hg,hag,hsz⟩ hs;have go:∀k',g=G ((base f).at (bg cj a' D) k') CS->eV Ok r f D k' R a' bD->Ok.Ok M' jR:=fun k' e h=>
  h CS cj M' jR ⟨Dead,s,w,e▸hz,hl,hs⟩ ha' hd' fun a2 D2 Bc t8 M2 Bh todo r2 rr p v d g2 z=>hk a2 D2 Bc t8 M2 Bh todo r2 rr p v d (fun b hb=>(g2 b (Nat.lt_of_lt_of_le hb hsz)).trans (hag b hb)) (Nat.le_trans hsz z)
 cases e with
 |normal=>exact go k hg q
 |exit id=>
  obtain⟨_,k',h1,h2⟩:=q;obtain⟨y,h3,h4⟩:=hg;rw[h1] at h3;cases h3;exact go k' h4 h2
 |ret=>
  obtain⟨todo,rfl⟩:=hg;exact hk a' D bD cj M' jR todo hr q ⟨Dead,s,w,hz,hl,hs⟩ ha' hd' hag hsz
 |_=>exact q.elim
theorem d6 {cd:Code}(fN:Option Nat)(hr:r∉sl D)(h0:∃fn,PP.funcs[f]? =some fn)(A0:eI (sl D) PP S0 E0 true cd=true)(hx:∀id,fN=some id->∃y,exitTo id k=some y)
  (I:World->Prop) (hb:∀w t d,I w->I (ax w t d)) (hI:I wL) (hwp:∀w,I w->w.heap.size=wL.heap.size->cd.wp PP (xC Ok r fN f D k R) a w):eV Ok r f D (.code cd::k) R a wL:=
 Dg (t0:=[.code cd]) fN hr h0 (fun it hit=>by simp at hit;subst hit;exact A0) hx fun t d=>hwp _ (hb _ t d hI) rfl
theorem uU {ops:Array Oper}{i:Nat}{rest:List Nat}{o:Oper}(ho:ops[i]? =some o)(rW:eB (sl D) PP S0 E0 true o=true)(hw:∀π,Region.wanted o (yielded ops (bg π a D).tmps)=true)
  (h:∀t d,uponE o a (fun a' w'=>eV Ok r f D (.inRegion ops rest::k) R a' w') (fun _ _ _=>False) ((execOp a.eval o).run PP (ax wL t d))):eV Ok r f D (.inRegion ops (i::rest)::k) R a wL:=fun CS π M tr hp ha hd hk=>by
 have hkb:(base f).kind≠.early:=by simp[base]
 obtain⟨_,_,hdst⟩:=kx rW;refine kb (Stop:=fun s g w=>∃a' bD cj,eV Ok r f D (.inRegion ops rest::k) R a' bD/\g=G ((base f).at (bg cj a' D) (.inRegion ops rest::k)) CS/\Link Ok.H no s no cj bD w/\VA Ok.H bD a'.tmps/\a'.defers=[]/\(∀b,b<wL.heap.size->cj b=π b)/\wL.heap.size<=bD.heap.size) hp (fun own w hl=>?_) ?_
 .refine aD.step rfl fun w₁ hR=>?_
  obtain⟨r1,r2,r3⟩:=wH.rel own w w₁ hR;obtain⟨cj,hl',Gf,hag⟩:=hl.rely r1 r2 r3;have hl1:LW Ok.H no (ax wL w₁.tape w₁.drawn):=hl'.lw.ax _ _;have eπ:bg π a D=bg cj a D:=ka ha (fun b hb=>(Gf b hb).symm) D;have h1:=h w₁.tape w₁.drawn
  have both:=fun {x bD} (hr:(execOp a.eval o).run PP (ax wL w₁.tape w₁.drawn)= .ok x bD)=>mX Bs hl'.inj hl'.zero (fun _ _ h=>h) hl1 hl'.wr D ha rW hr fun i _=>hag i
  cases hr:(execOp a.eval o).run PP (ax wL w₁.tape w₁.drawn) with
  |halt hh u=>rw[hr] at h1;exact h1.elim
  |ok nx u=>
   rw[hr] at h1;obtain⟨l1,l2,x',w',e1,e2,e3,e4,e5,e6⟩:=both hr;obtain⟨o1,o2⟩:=hl'.qT (fun i _=>hag i) l1 l2 e3 e4 (fun e he=>e5 e (mem_listed (fn:=(base f).fn) he))
   have fin:∀v:Value,eV Ok r f D (.inRegion ops rest::k) R (a.put o.dst v) u->VV (gh Ok.H u) v->aD PP true kR (fun s g w=>∃a' bD cj,eV Ok r f D (.inRegion ops rest::k) R a' bD/\g=G ((base f).at (bg cj a' D) (.inRegion ops rest::k)) CS/\Link Ok.H no s no cj bD w/\VA Ok.H bD a'.tmps/\a'.defers=[]/\(∀b,b<wL.heap.size->cj b=π b)/\wL.heap.size<=bD.heap.size)
     (kR.up own w₁ w') (G ((base f).at (bg cj (a.put o.dst v) D) (.inRegion ops rest::k)) CS) w':=fun v hc hv=>
    .stop fun w₂ ⟨d,e⟩=>⟨_,u,cj,hc,rfl,by rw[e];exact(o2 _ fun b=>Iff.rfl).at d,jk (VA.grow ha l2) hv,(put_defers _ _ _).trans hd,fun b hb=>(Gf b hb).symm,l2⟩
   cases nx with
   |value v=>
    cases e2;refine⟨_,w',_,by rw[eπ];exact stepG_value ho (hw _) hkb e1,o1,?_⟩;rw[hY _ _ _ _ hdst];exact fin v h1 e6
   |skip=>
    cases e2;refine⟨_,w',_,by rw[eπ];exact stepG_none ho (hw _) hkb e1,o1,?_⟩;have e:(bg cj a D).put o.dst undef=bg cj (a.put o.dst undef) D:=by
     have:=hY (π:=cj) a D o.dst undef hdst
     rwa [show Value.ren cj undef=undef by simp[undef]] at this
    rw[e];exact fin undef h1 gC
   |_=>exact h1.elim
 .rintro Dead s g w M' jR hz ⟨a',bD,cj,hc,rfl,hl,ha',hd',hag,hsz⟩ hs
  exact hc CS cj M' jR ⟨Dead,s,w,hz,hl,hs⟩ ha' hd' fun a2 D2 Bc t8 M2 Bh todo r2 rr p v d g2 z=>hk a2 D2 Bc t8 M2 Bh todo r2 rr p v d (fun b hb=>(g2 b (Nat.lt_of_lt_of_le hb hsz)).trans (hag b hb)) (Nat.le_trans hsz z)
theorem MU {ops:Array Oper}{i:Nat}{rest:List Nat}{o:Oper}(ho:ops[i]? =some o)(rW:eB (sl D) PP S0 E0 true o=true)(hg:o.guard=none)
  (h:∀t d,uponE o a (fun a' w'=>eV Ok r f D (.inRegion ops rest::k) R a' w') (fun _ _ _=>False) ((execOp a.eval o).run PP (ax wL t d))):eV Ok r f D (.inRegion ops (i::rest)::k) R a wL:=
 uU ho rW (fun π=>by simp[Region.wanted,hg]) h
theorem GB {ops:Array Oper}{i:Nat}{rest:List Nat}{o:Oper}(ho:ops[i]? =some o)(hdst:∀t,o.dst=some t->t∉sl D)(hw:∀π,Region.wanted o (yielded ops (bg π a D).tmps)=false)
  (h:eV Ok r f D (.inRegion ops rest::k) R (a.put o.dst undef) wL):eV Ok r f D (.inRegion ops (i::rest)::k) R a wL:=fun CS π M tr hp ha hd hk=>by
 refine ep hp (fun w=>stepG_unwanted ho (hw π)) fun M1 G4 hp1=>?_
 have e:=hY (π:=π) a D o.dst undef hdst;rw[show Value.ren π undef=undef by simp[undef]] at e;rw[e] at hp1;exact h CS π M1 G4 hp1 (jk ha gC) ((put_defers _ _ _).trans hd) hk
theorem Jd {ops:Array Oper}{i:Nat}{rest:List Nat}{o:Oper}(v:Value)(hv:∀r,¬Value.Has r v)(ho:ops[i]? =some o)(hg:o.guard=none)(hdst:∀t,o.dst=some t->t∉sl D)
  (hrun:∀(π:Nat->Nat) (w:World),(execOp (bg π a D).eval o).runT PP w #[]=(.ok (.value v) w,#[])) (h:eV Ok r f D (.inRegion ops rest::k) R (a.put o.dst v) wL):eV Ok r f D (.inRegion ops (i::rest)::k) R a wL:=fun CS π M tr hp ha hd hk=>by
 have hwd:∀c:Array Value,Region.wanted o (yielded ops c)=true:=fun c=>by simp[Region.wanted,hg]
 have hkb:(base f).kind≠.early:=by simp[base]
 have hl0:∀w,listed PP (base f).fn (bg π a D) o w=#[]:=fun w=>by
  unfold listed;rw[show(execOp (bg π a D).eval o).events PP w #[]=#[] from congrArg Prod.snd (hrun π w)];simp[seen]
 refine ep hp (fun w=>by rw[stepG_value ho (hwd _) hkb (by rw[<-Sem.runT_fst PP _ w #[],hrun]),hl0]) fun M1 G4 hp1=>?_
 have e:=hY (π:=π) a D o.dst v hdst;rw[eN v fun r hr=>absurd hr (hv r)] at e;rw[e] at hp1;exact h CS π M1 G4 hp1 (jk ha fun r hr=>absurd hr (hv r)) ((put_defers _ _ _).trans hd) hk
def Hv:kQ->Nat->Value->kQ
 |[],_,_=>[]
 |p::D,d,v=>if p.1=d then(d,v)::D else p::Hv D d v
theorem Cn:∀(D:kQ) (d:Nat) (v:Value) (c:Array Value),(sl D).Nodup->d∈sl D->(v6 D c).setIfInBounds d v=v6 (Hv D d v) c
 |[],_,_,_,_,h=>by simp[sl] at h
 |p::D,d,v,c,hn,h=>by
  simp only[sl,List.map_cons,List.nodup_cons] at hn;unfold Hv;split
  .rename_i e
   show(v6 D (c.setIfInBounds p.1 p.2)).setIfInBounds d v=v6 D (c.setIfInBounds d v);have hd:d∉sl D:=e▸hn.1;rw[Af D _ d v hd,e]
   congr 1
   simp
  .rename_i e
   have hd:d∈sl D:=by
    simp only[sl,List.map_cons,List.mem_cons] at h;exact h.resolve_left fun q=>e q.symm
   exact Cn D d v (c.setIfInBounds p.1 p.2) hn.2 hd
theorem MS {ops:Array Oper}{i:Nat}{rest:List Nat}{o:Oper}(d:Nat)(v:Value)(ho:ops[i]? =some o)(hwd:∀π,Region.wanted o (yielded ops (bg π a D).tmps)=true)(hdst:o.dst=some d)(hn:(sl D).Nodup)(hmem:d∈sl D)
  (hrun:∀(π:Nat->Nat) (w:World),(execOp (bg π a D).eval o).runT PP w #[]=(.ok (.value v) w,#[])) (h:eV Ok r f (Hv D d v) (.inRegion ops rest::k) R a wL):eV Ok r f D (.inRegion ops (i::rest)::k) R a wL:=fun CS π M tr hp ha hd hk=>by
 have hkb:(base f).kind≠.early:=by simp[base]
 have hl0:∀w,listed PP (base f).fn (bg π a D) o w=#[]:=fun w=>by
  unfold listed;rw[show(execOp (bg π a D).eval o).events PP w #[]=#[] from congrArg Prod.snd (hrun π w)];simp[seen]
 refine ep hp (fun w=>by rw[stepG_value ho (hwd π) hkb (by rw[<-Sem.runT_fst PP _ w #[],hrun]),hl0]) fun M1 G4 hp1=>?_
 have e:(bg π a D).put o.dst v=bg π a (Hv D d v):=by
  rw[hdst];simp only[Act.put,bg];rw[Cn D d v _ hn hmem]
 rw[e] at hp1;exact h CS π M1 G4 hp1 ha hd hk
theorem uT {ops:Array Oper}{i:Nat}{rest:List Nat}{o:Oper}(d:Nat)(v:Value)(ho:ops[i]? =some o)(hg:o.guard=none)(hdst:o.dst=some d)(hn:(sl D).Nodup)(hmem:d∈sl D)
  (hrun:∀(π:Nat->Nat) (w:World),(execOp (bg π a D).eval o).runT PP w #[]=(.ok (.value v) w,#[])) (h:eV Ok r f (Hv D d v) (.inRegion ops rest::k) R a wL):eV Ok r f D (.inRegion ops (i::rest)::k) R a wL:=
 MS d v ho (fun π=>by simp[Region.wanted,hg]) hdst hn hmem hrun h
theorem xn {ops:Array Oper}{i:Nat}{rest:List Nat}{o:Oper}{f2:FuncId}(xs:Array Operand)(args:Array Value){R2:Value->World->Prop}(ho:ops[i]? =some o)(hg:o.guard=none)(hxs:xs.all ng=true)(hoff:xs.all (iR (sl D))=true)(hdst:∀t,o.dst=some t->t∉sl D)
  (hrun:∀(b:Act) (w:World),(execOp b.eval o).runT PP w #[]=(.ok (.enter f2 (xs.map b.eval)) w,#[])) (hargs:xs.map a.eval=args) (hcc:CC Ok f2 args R2 wL)
  (h:∀v w',R2 v w'->wL.heap.size<=w'.heap.size->eV Ok r f D (.inRegion ops rest::k) R (a.put o.dst v) w'):eV Ok r f D (.inRegion ops (i::rest)::k) R a wL:=fun CS π M tr hp ha hd hk=>by
 subst hargs;have hwd:∀c:Array Value,Region.wanted o (yielded ops c)=true:=fun c=>by simp[Region.wanted,hg]
 have hkb:(base f).kind≠.early:=by simp[base]
 have hev:xs.map (bg π a D).eval=(xs.map a.eval).map (Value.ren π):=by
  rw[Array.map_map];exact Array.map_congr_left fun x hx=>kJ a D (Array.all_eq_true_iff_forall_mem.1 hxs x hx) (Array.all_eq_true_iff_forall_mem.1 hoff x hx)
 have hr:∀w,(execOp (bg π a D).eval o).run PP w= .ok (.enter f2 ((xs.map a.eval).map (Value.ren π))) w:=fun w=>by rw[<-Sem.runT_fst PP _ w #[],hrun,hev]
 have hl0:∀w,listed PP (base f).fn (bg π a D) o w=#[]:=fun w=>by
  unfold listed;rw[show(execOp (bg π a D).eval o).events PP w #[]=#[] from congrArg Prod.snd (hrun _ w)];simp[seen]
 refine ep hp (fun w=>by rw[stepG_enter ho (hwd _) hkb (hr w),hl0]) fun M1 G4 hp1=>?_
 refine hcc _ CS π M1 G4 hp1 (fun v hv=>?_) fun v bD cj M' jR ⟨t,d,hR⟩ hp' hv hag hsz=>?_
 .obtain⟨x,hx,rfl⟩:=Array.mem_map.1 hv
  exact lp ha (Array.all_eq_true_iff_forall_mem.1 hxs x hx)
 .have hc:eV Ok r f D (.inRegion ops rest::k) R (a.put o.dst v) bD:=(i6 t d).1 (h v _ hR hsz)
  have e:((base f).at (bg π a D) (.inRegion ops (i::rest)::k)).finish (Value.ren cj v)=(base f).at (bg cj (a.put o.dst v) D) (.inRegion ops rest::k):=by
   rw[Frame.finish_at,ho,Option.bind_some,ka ha hag,hY _ _ _ _ hdst]
  rw[e] at hp';exact hc CS cj M' jR hp' (jk (VA.grow ha hsz) hv) ((put_defers _ _ _).trans hd) fun a2 D2 Bc t8 M2 Bh todo r2 rr p v d g2 z=>hk a2 D2 Bc t8 M2 Bh todo r2 rr p v d (fun b hb=>(g2 b (Nat.lt_of_lt_of_le hb hsz)).trans (hag b hb)) (Nat.le_trans hsz z)
def CCt (Ok:Env)(f:FuncId)(targs:Array Value)(R:Value->World->Prop)(wL:World):Prop:=
 ∀(c:Frame) (CS:List Frame) (π:Nat->Nat) (M:Machine) (tr:Trace),AV Ok π wL M tr (G (Frame.enter PP f targs .normal) (c::CS))->
  (∀(v:Value) (bD:World) (cj:Nat->Nat) (M':Machine) (jR:Trace),(∃t d,R v (ax bD t d))->AV Ok cj bD M' jR (G (c.finish (Value.ren cj v)) CS)->VV (gh Ok.H bD) v->
   (∀b,b<wL.heap.size->cj b=π b)->wL.heap.size<=bD.heap.size->Ok.Ok M' jR)->Ok.Ok M tr
theorem zl {a:Act}{π:Nat->Nat}{D:kQ}{r:Nat}(h:r∉sl D):(bg π a D).tmps.getD r undef=Value.ren π (a.tmps.getD r undef):=by
 show(v6 D (a.tmps.map (Value.ren π))).getD r undef=_;rw[Array.getD_eq_getD_getElem?,qV D _ r h,<-Array.getD_eq_getD_getElem?,jF]
theorem Fb {fn:Func}{cd:Code}{targs:Array Value}{R2:Value->World->Prop}(a0:Act)(D0:kQ)(hf:PP.funcs[f]? =some fn)(hb:fn.body=some cd)(hres:fn.results=#[.tmp r])(ha0:VA Ok.H wL a0.tmps)(hd0:a0.defers=[])
  (he:∀π,bg π a0 D0={tmps:=targs++Array.replicate (fn.ntmps-targs.size) undef,defers:=[]}) (h:eV Ok r f D0 [.code cd] (fun a w=>R2 (a.tmps.getD r undef) w) a0 wL):CCt Ok f targs R2 wL:=fun c CS π M tr hp hk=>by
 rw[enter_at _ hf hb,<-he π] at hp;refine h (c::CS) π M tr hp ha0 hd0 fun a' D' bD cj M' jR todo hr hR hp' ha' hd' hag hsz=>?_
 have hg:=zl (a:=a') (π:=cj) hr;refine ep hp' (fun w=>stepG_leave (b:=base f) (a:=bg cj a' D') (todo:=todo) (v:=Value.ren cj (a'.tmps.getD r undef)) rfl rfl hf ?_ ?_) fun M2 Bh hp2=>hk _ bD cj M2 Bh hR hp2 (lp (x:= .tmp r) ha' rfl) hag hsz
 .rw[results_tmp hres,hg]
 .have e:results fn (bg cj a' D').tmps=pure ((bg cj a' D').tmps.getD r undef):=by simp[results,hres]
  rw[e];rfl
theorem Je {ops:Array Oper}{i:Nat}{rest:List Nat}{o:Oper}{f2:FuncId}(targs:Array Value){R2:Value->World->Prop}(ho:ops[i]? =some o)(hg:o.guard=none)(hdst:∀t,o.dst=some t->t∉sl D)
  (hrun:∀(π:Nat->Nat) (w:World),(execOp (bg π a D).eval o).runT PP w #[]=(.ok (.enter f2 targs) w,#[])) (hcc:CCt Ok f2 targs R2 wL)
  (h:∀v w',R2 v w'->wL.heap.size<=w'.heap.size->eV Ok r f D (.inRegion ops rest::k) R (a.put o.dst v) w'):eV Ok r f D (.inRegion ops (i::rest)::k) R a wL:=fun CS π M tr hp ha hd hk=>by
 have hwd:∀c:Array Value,Region.wanted o (yielded ops c)=true:=fun c=>by simp[Region.wanted,hg]
 have hkb:(base f).kind≠.early:=by simp[base]
 have hr:∀w,(execOp (bg π a D).eval o).run PP w= .ok (.enter f2 targs) w:=fun w=>by rw[<-Sem.runT_fst PP _ w #[],hrun]
 have hl0:∀w,listed PP (base f).fn (bg π a D) o w=#[]:=fun w=>by
  unfold listed;rw[show(execOp (bg π a D).eval o).events PP w #[]=#[] from congrArg Prod.snd (hrun π w)];simp[seen]
 refine ep hp (fun w=>by rw[stepG_enter ho (hwd _) hkb (hr w),hl0]) fun M1 G4 hp1=>?_
 refine hcc _ CS π M1 G4 hp1 fun v bD cj M' jR ⟨t,d,hR⟩ hp' hv hag hsz=>?_
 have hc:eV Ok r f D (.inRegion ops rest::k) R (a.put o.dst v) bD:=(i6 t d).1 (h v _ hR hsz);have e:((base f).at (bg π a D) (.inRegion ops (i::rest)::k)).finish (Value.ren cj v)=(base f).at (bg cj (a.put o.dst v) D) (.inRegion ops rest::k):=by
  rw[Frame.finish_at,ho,Option.bind_some,ka ha hag,hY _ _ _ _ hdst]
 rw[e] at hp';exact hc CS cj M' jR hp' (jk (VA.grow ha hsz) hv) ((put_defers _ _ _).trans hd) fun a2 D2 Bc t8 M2 Bh todo r2 rr p v d g2 z=>hk a2 D2 Bc t8 M2 Bh todo r2 rr p v d (fun b hb=>(g2 b (Nat.lt_of_lt_of_le hb hsz)).trans (hag b hb)) (Nat.le_trans hsz z)
theorem AK {c:Code}(I:kQ->Act->World->Prop)(μ:Act->World->Nat)(h0:I D a wL)
  (round:∀D a w,I D a w->(∀D' a' w',I D' a' w'->μ a' w'<μ a w->eV Ok r f D' (.inLoop c::k) R a' w')->eV Ok r f D (.code c::.inLoop c::k) R a w):eV Ok r f D (.code (.loop c)::k) R a wL:=by
 have key:∀n D a w,I D a w->μ a w=n->eV Ok r f D (.code c::.inLoop c::k) R a w:=by
  intro n
  induction n using Nat.strongRecOn with
  |_ n ih=>exact fun D a w hI hn=>round D a w hI fun D' a' w' hI' hl=>E7 (ih _ (hn▸hl) D' a' w' hI' rfl)
 exact MV (key _ _ _ _ h0 rfl)
theorem Jc {ops:Array Oper}{i:Nat}{rest:List Nat}{o:Oper}(q:Nat)(ob:Obj)(hq:Ok.K q=some ob)(v:Value)(hv:∀r,¬Value.Has r v)(ho:ops[i]? =some o)(hwd:∀π,Region.wanted o (yielded ops (bg π a D).tmps)=true)(hdst:∀t,o.dst=some t->t∉sl D)
  (hrun:∀(π:Nat->Nat) (w:World),w.heap[q]? =some ob->(execOp (bg π a D).eval o).run PP w= .ok (.value v) w)
  (hev:∀(π:Nat->Nat) (w:World),w.heap[q]? =some ob->∀e∈(execOp (bg π a D).eval o).events PP w #[],e.sync=false/\aH.lA q e.loc)
  (h:eV Ok r f D (.inRegion ops rest::k) R (a.put o.dst v) wL):eV Ok r f D (.inRegion ops (i::rest)::k) R a wL:=fun CS π M tr hp ha hd hk=>by
 have hkb:(base f).kind≠.early:=by simp[base]
 obtain⟨Sh,own,w,h1,h2,h3,h4,h5⟩:=hp
 let KK:Nat->Prop:=fun q=>∃o,Ok.K q=some o
 have kk:∀q,KK q->q<w.heap.size/\∀l,aH.lA q l->¬Sh l:=fun q ⟨o,hq⟩=>⟨(Array.getElem?_eq_some_iff.1 (h5 q o hq).2.1).1,(h5 q o hq).2.2⟩
 have hA:=h3.union KK kk;have e:=hY (π:=π) a D o.dst v hdst;rw[eN v fun r hr=>absurd hr (hv r)] at e;have tree:aD PP true kR (fun s g w'=>s=(fun b=>own b\/KK b)/\g=G ((base f).at (bg π (a.put o.dst v) D) (.inRegion ops rest::k)) CS/\∃d,w'=w.at d) (fun b=>own b\/KK b) (G ((base f).at (bg π a D) (.inRegion ops (i::rest)::k)) CS) w:=by
  refine aD.step rfl fun w₁ hR=>?_
  obtain⟨d,rfl⟩:=hR;have hw:(w.at d).heap[q]? =some ob:=(h5 q ob hq).2.1;refine⟨_,w.at d,_,stepG_value ho (hwd π) hkb (hrun π _ hw),⟨Nat.le_refl _,fun _ _ _=>rfl,rfl,rfl,rfl,fun ev he=>?_⟩,?_⟩
  .obtain⟨_,hb⟩:=hev π _ hw ev (by simpa using mem_listed (fn:=(base f).fn) he)
   exact .inl ⟨q,.inl (.inr ⟨ob,hq⟩),hb⟩
  .rw[Fy,e]
   exact .stop fun w₂ ⟨d2,e2⟩=>⟨rfl,rfl,d2,by rw[e2];rfl⟩
 obtain⟨N,M',t',g',w',e1,e2,⟨s',⟨rfl,rfl,d,rfl⟩,e4⟩,e5,_⟩:=kD h1 (uK tree hA);exact Ok.back _ _ _ _ _ e1 (h CS π M' t' ⟨Sh,own,_,e2,h2.at d,e4.part fun b hb=> .inl hb,h4,h5⟩ (jk ha fun r hr=>absurd hr (hv r)) ((put_defers _ _ _).trans hd) hk)
theorem MW {ops:Array Oper}{i:Nat}{rest:List Nat}{o:Oper}(q:Nat)(ob:Obj)(hq:Ok.K q=some ob)(v:Value)(hv:∀r,¬Value.Has r v)(ho:ops[i]? =some o)(hg:o.guard=none)(hdst:∀t,o.dst=some t->t∉sl D)
  (hrun:∀(π:Nat->Nat) (w:World),w.heap[q]? =some ob->(execOp (bg π a D).eval o).run PP w= .ok (.value v) w)
  (hev:∀(π:Nat->Nat) (w:World),w.heap[q]? =some ob->∀e∈(execOp (bg π a D).eval o).events PP w #[],e.sync=false/\aH.lA q e.loc)
  (h:eV Ok r f D (.inRegion ops rest::k) R (a.put o.dst v) wL):eV Ok r f D (.inRegion ops (i::rest)::k) R a wL:=
 Jc q ob hq v hv ho (fun π=>by simp[Region.wanted,hg]) hdst hrun hev h
end
theorem Cv {f:FuncId}{fn:Func}{cd:Code}{r:Tmp}{args:Array Value}{W:World}{H:Nat->Prop}{K:Nat->Option Obj}{wL:World}{R2:Value->World->Prop}{Post:Value->World->Prop}(hf:PP.funcs[f]? =some fn)(hb:fn.body=some cd)(hi:PP.inits.idxOf? f=none)(hres:fn.results=#[.tmp r])
  (hl:Link H no (fun b=>b<W.heap.size/\K b=none) no id wL W) (hKW:∀q o,K q=some o->W.heap[q]? =some o) (a0:Act) (D0:kQ) (ha0:VA H wL a0.tmps) (hd0:a0.defers=[]) (he:bg id a0 D0={tmps:=args++Array.replicate (fn.ntmps-args.size) undef,defers:=[]}) (hsz:wL.heap.size=W.heap.size)
  (h:eV (SA Post W H K) r f D0 [.code cd] (fun a w=>R2 (a.tmps.getD r undef) w) a0 wL)
  (post:∀(v:Value) (bD:World) (π:Nat->Nat) (own:Nat->Prop) (w':World),(∃t d,R2 v (ax bD t d))->Link H no own no π bD w'->VV (gh H bD) v->(∀b,b<W.heap.size->π b=b)->W.heap.size<=bD.heap.size->W.heap.size<=w'.heap.size->ConcM.OsLater W.os w'.os->w'.output=W.output->(∀q o,K q=some o->w'.heap[q]? =some o)->Post (Value.ren π v) w'):
  NC Post (solo (G (Frame.enter PP f args .normal) []) W) #[]:=by
 have hz:Zero PP (fun _=>False) (solo (G (Frame.enter PP f args .normal) []) W) #[] (G (Frame.enter PP f args .normal) []) W:=
  ⟨⟨_,none,_,rfl,rfl,leavers_one PP _,by simp[Ym]⟩,⟨past_nil.clean,fun i a ha=>absurd ha (by simp[touchAt,Trace.act?]),past_nil.over,rfl,by simp⟩⟩
 have hp:AV (SA Post W H K) id wL (solo (G (Frame.enter PP f args .normal) []) W) #[] (G (Frame.enter PP f args .normal) []):=⟨fun _=>False,_,W,hz,hl,⟨fun b hb l hl h=>h,fun b hb=>hb.1,fun l b h=>h.elim,fun l h=>h.elim⟩,⟨.refl _,rfl⟩,fun q o (ho:K q=some o)=>⟨fun hb=>(by rw[hb.2] at ho;cases ho),hKW q o ho,fun _ _ h=>h⟩⟩
 rw[enter_at _ hf hb,<-he] at hp;rw[enter_at _ hf hb,<-he];refine h [] id _ _ hp ha0 hd0 fun a' D' bD cj M' jR todo hrD hR hp' ha' hd' hag hsz'=>?_
 have hgo:=zl (a:=a') (π:=cj) hrD;obtain⟨Dead,own,w,hz',hl',hs,hos,hkf⟩:=hp';obtain⟨gs,sl,q,rfl,h0,hL,_⟩:=hz'.ex;have hvv:VV (gh H bD) (a'.tmps.getD r undef):=lp (x:= .tmp r) ha' rfl;have agd:W.heap.size<=w.heap.size:=by
  rcases Nat.eq_zero_or_pos W.heap.size with h0|h0
  .omega
  .have h1:=hl'.lt (W.heap.size-1) (by omega)
   rw[hag _ (by omega)] at h1;have h2:W.heap.size-1<w.heap.size:=h1;omega
 have hpost:=fun w'' (d:Nat) (e:w''=w.at d)=>post (a'.tmps.getD r undef) bD cj own w'' hR (by rw[e];exact hl'.at d) hvv (fun b hb=>(hag b (by rw[hsz];exact hb)).trans rfl) (hsz▸hsz') (by rw[e];exact agd) (by rw[e];exact hos.1) (by rw[e];exact hos.2) fun q o hq=>by rw[e];exact(hkf q o hq).2.1
 refine beside_ends (Shun:=Dead) (B:=w.heap.size) (D:=fun _ _ _=>False) (fun _ _ _ h=>h.elim) (n:=0) h0 hL hz'.past fun w₁ ⟨d,e⟩=>⟨rfl,Value.ren cj (a'.tmps.getD r undef),#[],?_,by simp,hpost w₁ d e⟩
 have hr:(results fn (bg cj a' D').tmps).run PP w₁= .ok (Value.ren cj (a'.tmps.getD r undef)) w₁:=by
  rw[results_tmp hres];rw[hgo]
 have he:(results fn (bg cj a' D').tmps).events PP w₁ #[]=#[]:=by
  have e:results fn (bg cj a' D').tmps=pure ((bg cj a' D').tmps.getD r undef):=by simp[results,hres]
  rw[e];rfl
 simp[G,stepG,unwind,doReturn,Frame.at,base,hf,hi,bg,v6] at hr he⊢;rw[hr,he];have hi2:=hi;simp at hi2;simp[seen,GStep.after,hi2]
end az
end
section
open Go.Conc Go.RowKit Go.Lib Go.Sort
def rn (u:Nat->Value):Nat->Nat->List Value->List Value
 |_,0,r=>r
 |i,n+1,r=>u i::rn u (i+1) n r
namespace az
section
variable {Ok:Env}{r:Nat}{f:FuncId}{D:kQ}{k t:List Item}{R:Act->World->Prop}{a:Act}{wL w1:World}{ops:Array Oper}{i:Nat}{rest:List Nat}{o:Oper}
theorem lQ (x:Operand)(ho:ops[i]? =some o)(hop:o.op= .assign x\/o.op= .move x)(rW:eB (sl D) PP S0 E0 true o=true)(hg:o.guard=none)
  (h:eV Ok r f D (.inRegion ops rest::k) R (a.put o.dst (a.eval x)) wL):eV Ok r f D (.inRegion ops (i::rest)::k) R a wL:=by
 refine MU ho rW hg fun t d=>?_
 have e:(execOp a.eval o).run PP (ax wL t d)= .ok (.value (a.eval x)) (ax wL t d):=by
  unfold execOp;rcases hop with hop|hop<;>rw[hop]<;>rfl
 rw[e];exact(i6 t d).2 h
theorem j6 (v:Value)(ho:ops[i]? =some o)(rW:eB (sl D) PP S0 E0 true o=true)(hg:o.guard=none)
  (hr:∀t d,(execOp a.eval o).run PP (ax wL t d)= .ok (.value v) (ax w1 t d)) (h:eV Ok r f D (.inRegion ops rest::k) R (a.put o.dst v) w1):eV Ok r f D (.inRegion ops (i::rest)::k) R a wL:=by
 refine MU ho rW hg fun t d=>?_
 rw[hr];exact(i6 t d).2 h
theorem De (v:Value)(ho:ops[i]? =some o)(rW:eB (sl D) PP S0 E0 true o=true)(hw:∀π,Region.wanted o (yielded ops (bg π a D).tmps)=true)
  (hr:∀t d,(execOp a.eval o).run PP (ax wL t d)= .ok (.value v) (ax w1 t d)) (h:eV Ok r f D (.inRegion ops rest::k) R (a.put o.dst v) w1):eV Ok r f D (.inRegion ops (i::rest)::k) R a wL:=by
 refine uU ho rW hw fun t d=>?_
 rw[hr];exact(i6 t d).2 h
theorem ls (a':Act)(e:a=a')(h:eV Ok r f D t R a' wL):eV Ok r f D t R a wL:=e▸h
theorem pi (B:(Nat->Value)->Act)(e:a=B fun i=>a.tmps.getD i undef)(h:∀u,eV Ok r f D t R (B u) wL):eV Ok r f D t R a wL:=e▸h _
theorem AJ (D':kQ)(e:D=D')(h:eV Ok r f D' t R a wL):eV Ok r f D t R a wL:=e▸h
theorem Mx {π:Nat->Nat}{x:Operand}{q:IntKind}{n:Int}(hx:ng x=true)(ho:iR (sl D) x=true)(h:a.eval x= .int q n):(bg π a D).eval x= .int q n:=(kJ a D hx ho).trans (by rw[h];simp)
theorem ahk (t:TypeId)(x:Operand)(ho:ops[i]? =some o)(hop:o.op= .load t x)(rW:eB (sl D) PP S0 E0 true o=true)(hg:o.guard=none)
  (ha:(Tryz.prog.underlying t).map (fun d=>match d with|.struct _|.array _ _=>true|_=>false)=some false) (b:Addr) (hx:a.eval x= .pointer (some b)) (v:Value) (hc:wL.cell? b=some v)
  (h:eV Ok r f D (.inRegion ops rest::k) R (a.put o.dst v) wL):eV Ok r f D (.inRegion ops (i::rest)::k) R a wL:=by
 refine j6 (w1:=wL) v ho rW hg (fun t' d=>?_) h;have hc':(ax wL t' d).cell? b=some v:=hc;have h1:aH.RT (kP.load t (.pointer (some b))).sem (ax wL t' d) (.value v) (ax wL t' d) #[⟨.cell b,false,false⟩]:=by
  refine aH.RT.eC (x:=v) ?_ (.pure _);show aH.RT (do if<-isAgg t then Pure.pure (.agg (<-loadCells b (<-Go.sizeOf t))) else load b) _ _ _ _;refine(aH.gO ha).aN ?_;simp only[Bool.false_eq_true,if_false];exact aH.j4 hc'
 have:=h1.run;unfold execOp;rw[hop];show(do pure (.value (<-Instr.loadAt t (a.eval x))):Sem Next).run _ _=_;rw[hx];exact this
theorem MT {l:List Nat}(fN:Option Nat)(hr:r∉sl D)(h0:∃fn,PP.funcs[f]? =some fn)(A0:bY (sl D) PP S0 E0 true (.inRegion ops l)=true)(hx:∀id,fN=some id->∃y,exitTo id k=some y)
  (I:World->Prop) (hb:∀w t d,I w->I (ax w t d)) (hI:I wL) (hwp:∀w,I w->w.heap.size=wL.heap.size->wpOps PP ops (xC Ok r fN f D k R) l a w):eV Ok r f D (.inRegion ops l::k) R a wL:=
 Dg (t0:=[.inRegion ops l]) fN hr h0 (fun it hit=>by simp at hit;subst hit;exact A0) hx fun t d b k cs=>wp_ops l a _ (hwp _ (hb _ t d hI) rfl) b k cs
theorem Df {l:List Nat}(m:Nat)(hl:l=List.range' m (ops.toList.drop m).length)(hr:r∉sl D)(h0:∃fn,PP.funcs[f]? =some fn)(A0:bY (sl D) PP S0 E0 true (.inRegion ops l)=true)
  (I:World->Prop) (hb:∀w t d,I w->I (ax w t d)) (hI:I wL) (hwp:∀w,I w->w.heap.size=wL.heap.size->wpList PP ops (xC Ok r none f D k R) (ops.toList.drop m) a w):eV Ok r f D (.inRegion ops l::k) R a wL:=by
 refine MT none hr h0 A0 (by simp) I hb hI fun w h1 h2=>?_
 rw[hl,wpOps_eq_wpList (ops.toList.drop m) m fun j=>by rw[List.getElem?_drop,Array.getElem?_toList]];exact hwp w h1 h2
end
end az
theorem Cd {w w':World}{q off:Nat}{ob:Obj}{l:List Value}(h:w.rangeAt q off l)(hq:w.heap[q]? =some ob)(hq':w'.heap[q]? =some ob):w'.rangeAt q off l:=fun i v hv=>by
 have:=h i v hv;unfold World.cell? at this⊢;rw[hq] at this;rw[hq'];exact this
namespace aH
theorem UX {w:World}{t:TypeId}{m:Nat}(b off len cap j:Nat)(hj:j<len)(ht:PP.underlying t=some (.slice (PP.elem t)))(hm:(PP.info? (PP.elem t)).map (·.size)=some m):
  RT (Instr.indexAt t (.slice (some ⟨b,off,none⟩) len cap) (.int .i64 j)) w (.pointer (some ⟨b,off+j*m,none⟩)) w #[]:=by
 unfold Instr.indexAt;refine RT.aN (x:=(IntKind.i64,(j:Int))) (.pure _) ?_;refine(fD ht).aN ?_;refine RT.aN (.pure _) ?_;refine(fD ht).aN ?_;simp only;rw[if_pos ⟨by omega,by omega⟩];refine(oI hm).aN ?_;have e:(Addr.add ⟨b,off,none⟩ ((j:Int).toNat*m))=⟨b,off+j*m,none⟩:=by rw[Int.toNat_natCast,Addr.add_mid]
 rw[e];exact .pure _
end aH
section
variable {o:Oper}{x y:Operand}
theorem Wv {t:TypeId}{m:Nat}(ht:az.PP.underlying t=some (.slice (az.PP.elem t)))(hm:(az.PP.info? (az.PP.elem t)).map (·.size)=some m)(b off len cap j:Nat)(hj:j<len)(a:Act)(hop:o.op= .indexAddr t x y)(hx:a.eval x= .slice (some ⟨b,off,none⟩) len cap)(hy:a.eval y= .int .i64 j)(w:World):
  (execOp a.eval o).runT az.PP w #[]=(.ok (.value (.pointer (some ⟨b,off+j*m,none⟩))) w,#[]):=by
 have h:aH.RT (do pure (.value (<-Instr.indexAt t (a.eval x) (a.eval y))):Sem Next) w (.value (.pointer (some ⟨b,off+j*m,none⟩))) w #[]:=by
  rw[hx,hy];exact(aH.UX b off len cap j hj ht hm).aN (.pure _)
 unfold execOp;rw[hop];exact h #[]
theorem F0 {t:TypeId}{b off:Nat}{ob:Obj}{vs:Array Value}{w:World}(ha:(az.PP.underlying t).map (fun d=>match d with|.struct _|.array _ _=>true|_=>false)=some true)(hn:(az.PP.info? t).map (·.size)=some vs.size)(h0:0<vs.size)
  (hw:w.heap[b]? =some ob) (hra:∀w:World,w.heap[b]? =some ob->w.rangeAt b off vs.toList) (a:Act) (hop:o.op= .load t x) (hx:a.eval x= .pointer (some ⟨b,off,none⟩)):
  (execOp a.eval o).run az.PP w= .ok (.value (.agg vs)) w/\∀e∈(execOp a.eval o).events az.PP w #[],e.sync=false/\aH.lA b e.loc:=by
 have hr:=hra w hw;have hcell:∀i,i<vs.size->w.cell? ⟨b,off+i,none⟩=vs[i]? :=fun i hi=>by
  have:=hr i vs[i] (by rw[Array.getElem?_toList,Array.getElem?_eq_getElem hi]);rw[this,Array.getElem?_eq_getElem hi]
 obtain⟨cs,u,f,rfl⟩:∃cs u f,ob= .cells cs u f:=by
  have:=hcell 0 h0;rw[Array.getElem?_eq_getElem h0] at this;unfold World.cell? at this;rw[hw] at this;cases ob with
  |cells cs u f=>exact⟨cs,u,f,rfl⟩
  |_=>cases this
 have hc:∀i,i<vs.size->cs[off+i]? =vs[i]? :=fun i hi=>by
  have:=hcell i hi;unfold World.cell? at this;rw[hw] at this;simpa using this
 have hle:off+vs.size<=cs.size:=by
  have:=hc (vs.size-1) (by omega);rw[Array.getElem?_eq_getElem (by omega:vs.size-1<vs.size)] at this;have:=(Array.getElem?_eq_some_iff.1 this).1;omega
 have he:cs.extract off (off+vs.size)=vs:=by
  apply Array.ext_getElem?
  intro i;rw[Array.getElem?_extract]
  by_cases hi:i<vs.size
  .rw[if_pos (by omega),hc i hi]
  .rw[if_neg (by omega),Array.getElem?_eq_none (by omega)]
 obtain⟨ev,h1,h2⟩:=aH.jC (t:=t) (off:=off) (n:=vs.size) hw ha hn hle;rw[he] at h1;have h3:execOp a.eval o=(kP.load t (.pointer (some ⟨b,off,none⟩))).sem:=by
  unfold execOp;rw[hop];show(do pure (.value (<-Instr.loadAt t (a.eval x))):Sem Next)=_;rw[hx];rfl
 rw[h3];refine⟨h1.run,fun e he=>(h2 e ?_).1⟩;have h4:(kP.load t (.pointer (some ⟨b,off,none⟩))).sem.events az.PP w #[]=#[]++ev:=congrArg Prod.snd (h1 #[]);rw[h4] at he;simpa using he
end
theorem Qe {k sd pt:Int}{ct:ByteArray}:∀r,¬Value.Has r (.agg (ew k sd pt ct)):=fun r h=>by
 cases h with
 |agg hv h=>
  simp[ew] at hv;rcases hv with rfl|rfl|rfl|rfl<;>cases h
end
section
open Go.RowKit Go.Lib Go.Sort
def Eo (sv x y z:Value):kQ:=[(0,sv),(53,x),(63,y),(65,z)]
section
variable {sv x y z:Value}
theorem nd:2∉sl (Eo sv x y z):=by simp[sl,Eo]
theorem sy:(sl (Eo sv x y z)).Nodup:=by simp[sl,Eo]
theorem Vn:53∈sl (Eo sv x y z):=by simp[sl,Eo]
theorem Vm:63∈sl (Eo sv x y z):=by simp[sl,Eo]
theorem Vl:65∈sl (Eo sv x y z):=by simp[sl,Eo]
end
def NH (K:Nat->Option Obj)(ad:Option Addr)(l:List pr):Prop:=∀j,(hj:j<l.length)->(l[j]).Ok/\∃b off,ad=some ⟨b,off,none⟩/\∃ob,K b=some ob/\∀w:World,w.heap[b]? =some ob->w.rangeAt b (off+j*4) (l[j]).cells.toList
open aH aH.Sq in
theorem Jg {E:az.Env}{wL:World}(ad:Option Addr)(cap:Nat)(l:List pr)(h:NH E.K ad l)(hG:pq wL):
  az.CCt E 30 #[.slice ad l.length cap] (Yr l wL) wL:=by
 refine az.Fb (r:=2) {tmps:=#[undef,undef,undef,undef,undef,undef,undef,undef,undef,undef,undef,undef,undef,undef,undef,undef,undef,undef,undef,undef,undef,undef,undef,undef,undef,undef,undef,undef,undef,undef,undef,undef,undef,undef,undef,undef,undef,undef,undef,undef,undef,undef,undef,undef,undef,undef,undef,undef,undef,undef,undef,undef,undef,undef,undef,undef,undef,undef,undef,undef,undef,undef,undef,undef,undef,undef,undef,undef,undef,undef,undef,undef,undef,undef,undef],defers:=[]} (Eo (.slice ad l.length cap) undef undef undef) Tryz.func30 rfl rfl (fun v hv=>?_) rfl (fun π=>by kernel_rfl) ?_
 .simp only[List.mem_toArray,List.mem_cons,List.not_mem_nil,or_self,or_false] at hv
  subst hv;exact gC
 refine az.ec ?_;refine az.d6 none nd ⟨_,Tryz.func30⟩ (by kernel_rfl) (by simp) (fun w=>eM [] wL w) (fun w t k h=>h.tape t k) (eM.refl _ _) fun w hB hsz=>?_
 clear hsz;go_wp2_with fail;refine az.ec ?_;refine az.d6 none nd ⟨_,Tryz.func30⟩ (by kernel_rfl) (by simp) (fun w=>eM [] wL w) (fun w t k h=>h.tape t k) hB fun w2 hB2 hsz=>?_
 clear hB hsz;go_wp2_with fail;refine(Px 200 w2 (by omega) (by omega)).mono ?_;rintro e w3 ⟨s,d,F,rfl,hs,f3,g3,l3⟩;have hC:cB w3 F s d (e9 200) 0 H0:=⟨hs,sJ 200 (by omega),zY,by omega⟩
 have hB:eM [] wL w3:=hB2.trans f3.blk;have hg:ce [] F wL:=(ce.refl [] wL).trans g3 hB2.size;have hls:wL.heap.size<=s:=Nat.le_trans hB2.size l3;clear hs f3 g3 l3 hB2;go_wp2_with fail;refine az.ec ?_
 refine az.d6 none nd ⟨_,Tryz.func30⟩ (by kernel_rfl) (by simp) (fun w=>cB w F s d (e9 200) 0 H0/\eM [] wL w) (fun w t k h=>⟨h.1.ax t k,h.2.tape t k⟩) ⟨hC,hB⟩ fun w4 hI hsz=>?_
 clear hC hB hsz;obtain⟨hC,hB⟩:=hI;go_wp2_with fail
 obtain⟨L1,q1,q2⟩:=uN (sJ 200 (by omega)) zY.eight (by decide) 0 [97] [102,105,114,115,116] (by decide) (by decide);have Rn:Hid (AC=L1):=by
  show _=_;unfold AC;exact(congrArg (fun z:DS×Value=>z.1.aS) (q2 0)).trans rfl
 have adt:Hid ((DS.calm (e9 200) 0).pX 200 0 ⟨#[97]⟩ wV=(DS.calm L1 5,.int .i64 0)):=((yP (sJ 200 (by omega)) zY 0 [97] [102,105,114,115,116] SI 0).trans (q2 0)).trans (by rw[Int.zero_add]);refine az.ec ?_
 refine az.d6 none nd ⟨_,Tryz.func30⟩ (by kernel_rfl) (by simp) (fun w=>cB w F s d (e9 200) 0 H0/\eM [] wL w) (fun w t k h=>⟨h.1.ax t k,h.2.tape t k⟩) ⟨hC,hB⟩ fun w4 hI hsz=>?_
 clear hC hB hsz;obtain⟨hC,hB⟩:=hI;go_wp2_with fail;refine(yO F s d 200 _ 0 ⟨#[97]⟩ wV w4 hC.store (wU _ _ _ (by omega) (by omega)) (by show 0<55;omega) (by omega) (by decide) (by decide) (by decide)).mono ?_;rintro e w5 ⟨rfl,⟨F1,hs1,g1⟩,f1⟩;rw[adt.out] at hs1⊢;have hC1:cB w5 F1 s d L1 5 H1:=⟨hs1,q1,Tn,by omega⟩
 have hB1:eM [] wL w5:=rv hg f1.blk hB;have hg1:ce [] F1 wL:=hg.trans g1 hB.size;clear hC hB hs1 f1 g1 adt q1 q2 hg;go_wp2_with fail
 refine az.ec (az.kK (az.lQ _ rfl (.inr rfl) (by kernel_rfl) rfl ?_))
 refine az.xn (f2:=31) #[.tmp 24] #[.pointer (some ⟨s,0,none⟩)] (R2:=xE F1 s d 200 (DS.calm L1 5) w5) rfl rfl (by kernel_rfl) (by kernel_rfl) (eL (by kernel_rfl)) (fun b w=>by kernel_rfl) (by kernel_rfl) (AM hC1.store (hG.blk hB1 (by simp)) (hg1.nil hG) (hC1.ok (by omega))) fun v w6 hR _=>?_
 obtain⟨ps,cv,F2,L2,k2,rfl,hP,hC2,hg2,hB2,hk0,hk1,_,hcv,_,hsl⟩:=hC1.synced hR;have HST:Hid (st0=(L2,5+k2,fh H1)):=by
  show _=_;unfold st0;rw[Rn.out,hsl]
 clear hsl Rn;rw[S8 hP];have hB2':eM [] wL w6:=rv hg1 hB2 hB1;have abV:ce [] F2 wL:=hg1.trans hg2 hB1.size;obtain⟨GH,rQ,LL⟩:=ci hcv;generalize (jq H1 ps).length=cl at LL;subst LL;clear hcv hR hC1 hB1 hg1 hg2 hB2 hP
 refine az.lQ _ rfl (.inr rfl) (by kernel_rfl) rfl (az.j6 (w1:=w6) (.agg #[.int .i64 1,.slice GH cl rQ]) rfl (by kernel_rfl) rfl (fun t d=>by kernel_rfl) (az.j6 (w1:=w6) (.int .i64 0) rfl (by kernel_rfl) rfl (fun t d=>by kernel_rfl) ?_))
 refine az.ls {tmps:=(undef::undef::.pointer none::.pointer (some ⟨s,0,none⟩)::.int .i64 0::.int .i64 0::rn (fun _=>undef) 0 5 (.tuple #[.pointer (some ⟨s,0,none⟩),.int .i64 0]::.tuple #[.pointer (some ⟨s,0,none⟩),.int .i64 0]::.pointer (some ⟨s,0,none⟩)::.int .i64 0::.pointer (some ⟨s,0,none⟩)::.bool false::.bool false::.int .i64 0::.bool false::.bool false::.pointer (some ⟨s,0,none⟩)::.int .i64 0::.tuple #[.agg #[.int .i64 1,.slice GH cl rQ],.int .i64 0]::.pointer (some ⟨s,0,none⟩)::.tuple #[.agg #[.int .i64 1,.slice GH cl rQ],.int .i64 0]::.agg #[.int .i64 1,.slice GH cl rQ]::.int .i64 0::rn (fun _=>undef) 0 47 [])).toArray,defers:=[]} (by kernel_rfl) ?_
 simp only[rn];refine az.Df 5 rfl nd ⟨_,Tryz.func30⟩ (by kernel_rfl) (fun w=>cB w F2 s d L2 (5+k2) (fh H1)/\eM [] wL w) (fun w t k h=>⟨h.1.ax t k,h.2.tape t k⟩) ⟨hC2,hB2'⟩ fun w7 hI _=>?_
 clear hC2 hB2';obtain⟨hC,hB⟩:=hI;show wpList _ _ _ [_,_,_] _ _;refine ay rfl ?_;refine al.go (bm rfl 58 rfl _ kU ?_);intro w8 b8 l8 f8 r8;go_wp2_with (with_reducible first|refine af 58 rfl ?_);refine al.go (iw rfl 58 _ _ rfl b8 rfl #[.int .i64 1,.slice GH cl rQ] rfl eJ (by simp[Value.oneCell']) _ _ r8 rfl ?_);intro w9 f9 r9
 have f79:aO [] w7 w9:=f8.trans f9 (by simpa using l8);have hC9:=hC.new f79;have hB9:=hB.trans f79.blk;clear hC hB f8 f9 r8 l8 f79;go_wp2_with fail
 have adu:Hid ((DS.calm L2 (5+k2)).get 200 1 ⟨#[97]⟩=(.string wV,0)):=by
  show _=_;have h1:=Has.content (x:=DS.calm L2 (5+k2)) hC9.has rfl 1 [97];rw[ZJ] at h1;unfold DS.get;rw[show(DS.calm L2 (5+k2)).failed=false from rfl,if_neg (by simp)];have h2:(DS.calm L2 (5+k2)).content 200 1 ⟨#[97]⟩=some [102,105,114,115,116]:=h1;rw[show((1:Nat):Int)=1 from rfl,h2];rfl
 refine az.ec ?_;refine az.d6 none nd ⟨_,Tryz.func30⟩ (by kernel_rfl) (by simp) (fun w=>cB w F2 s d L2 (5+k2) (fh H1)/\eM [] wL w/\Row w b8 #[.int .i64 1,.slice GH cl rQ] 58) (fun w t k h=>⟨h.1.ax t k,h.2.1.tape t k,h.2.2⟩) ⟨hC9,hB9,r9⟩ fun w4 hI hsz=>?_
 clear hC9 hB9 r9 hsz;obtain⟨hC,hB,r8⟩:=hI;go_wp2_with fail;refine(Gr F2 s d 200 _ 1 ⟨#[97]⟩ w4 hC.store (by omega) (by decide) (by decide)).mono ?_;rintro e w5 ⟨rfl,f5⟩;rw[adu.out];have hC5:=hC.new f5;have YM:=hB.trans f5.blk;have r5:=f5.row r8;clear adu hC hB r8 f5;go_wp2_with fail;refine az.ec ?_
 refine az.d6 none nd ⟨_,Tryz.func30⟩ (by kernel_rfl) (by simp) (fun w=>cB w F2 s d L2 (5+k2) (fh H1)/\eM [] wL w/\Row w b8 #[.int .i64 1,.slice GH cl rQ] 58) (fun w t k h=>⟨h.1.ax t k,h.2.1.tape t k,h.2.2⟩) ⟨hC5,YM,r5⟩ fun w4 hI hsz=>?_
 clear hC5 YM r5 hsz;obtain⟨hC,hB,r8⟩:=hI;have c8:w4.cell? ⟨b8,0,none⟩=some (.int .i64 1):=by rw[r8.cell];rfl
 have hfl:(!wV.toList==[102,105,114,115,116])=false:=by rw[show wV=aB [102,105,114,115,116] from rfl,oA];rfl
 go_wp2_with fail;clear hfl c8 r8
 refine az.ec (az.ec ?_);refine az.d6 none nd ⟨_,Tryz.func30⟩ (by kernel_rfl) (by simp) (fun w=>cB w F2 s d L2 (5+k2) (fh H1)/\eM [] wL w) (fun w t k h=>⟨h.1.ax t k,h.2.tape t k⟩) ⟨hC,hB⟩ fun w5 hI hsz=>?_
 clear hC hB hsz;obtain⟨hC,hB⟩:=hI;go_wp2_with fail;refine az.zw ?_;refine az.pi (sW undef s 0) (by kernel_rfl) fun u=>?_
 refine az.AK (fun D a w=>∃(x y z:Value) (k:Nat) (F:List Nat) (L:List UInt8) (aa:Int) (H:bO) (u:Nat->Value),D=Eo (.slice ad l.length cap) x y z/\a=sW undef s k u/\k<=l.length/\k<=300/\cB w F s d L aa H/\aa<=100+80*k/\ce [] F wL/\eM [] wL w/\Hid (yU (l.take k)=(L,aa,H))) (fun a _=>300-(intOf (a.tmps.getD 10 undef)).toNat)
  ⟨_,_,_,0,F2,L2,5+k2,fh H1,u,rfl,rfl,by omega,by omega,hC,by omega,abV,hB,HST⟩ ?_
 clear hC hB abV u HST;rintro D a w ⟨x,y,z,k,Fk,Lk,ak,Hk,u,rfl,rfl,hkl,hk3,hC,hak,YJ,hB,HR⟩ ih
 have ih':∀(x y z:Value) (k':Nat) (F:List Nat) (L:List UInt8) (aa:Int) (H:bO) (u:Nat->Value) (w':World),k'=k+1->k'<=l.length->k'<=300->cB w' F s d L aa H->aa<=100+80*k'->ce [] F wL->eM [] wL w'->Hid (yU (l.take k')=(L,aa,H))->az.eV _ _ _ (Eo (.slice ad l.length cap) x y z) _ _ (sW undef s k' u) w':=fun x y z k' F L aa H u w' e1 e2 e3 e4 e5 e6 e7 e8=>ih _ _ _ ⟨x,y,z,k',F,L,aa,H,u,rfl,rfl,e2,e3,e4,e5,e6,e7,e8⟩ (by subst e1;simp[sW,intOf];omega)
 clear ih;unfold sW at ih'⊢;refine az.ec (az.ec (az.kK ?_));refine az.lQ _ rfl (.inr rfl) (by kernel_rfl) rfl (az.uT 53 (.slice ad l.length cap) rfl rfl rfl sy Vn (fun π w=>by kernel_rfl) ?_);refine az.AJ (Eo (.slice ad l.length cap) (.slice ad l.length cap) y z) rfl ?_
 refine az.Jd (.int .i64 l.length) (by intro r hr;cases hr) rfl rfl (eL (by kernel_rfl)) (fun π w=>by kernel_rfl) ?_;refine az.j6 (w1:=w) (.bool (decide ((k:Int)<(l.length:Int)))) rfl (by kernel_rfl) rfl (fun t d=>by kernel_rfl) (az.lQ _ rfl (.inr rfl) (by kernel_rfl) rfl ?_)
 by_cases hlt:k<l.length
 .by_cases hlt3:k<300
  .obtain⟨hok,b,off,rfl,ob,hK,hra⟩:=h k hlt
   have HS:=fun(L':List UInt8) (N:Int)=>D9 (L':=L') (N:=N) hlt HR.out
   clear HR;generalize l[k]=y at hok hra HS;replace HS:Hid _:=HS;have hd1:decide ((k:Int)<(l.length:Int))=true:=by simp;omega
   have hd2:decide ((k:Int)<300)=true:=by simp;omega
   rw[hd1];refine az.ls {tmps:=(undef::u 1::u 2::.pointer (some ⟨s,0,none⟩)::rn u 4 6 (.int .i64 k::rn u 11 41 (.int .i64 k::u 53::.int .i64 l.length::.bool true::.bool true::rn u 57 18 []))).toArray,defers:=[]} (by kernel_rfl) ?_;simp only[rn]
   refine az.uU rfl (by kernel_rfl) (fun π=>by kernel_rfl) (fun tt dd=>(show az.eV _ _ _ _ _ _ _ (ax w tt dd) from(az.i6 tt dd).2 ?_));refine az.De (w1:=w) (.bool (decide ((k:Int)<300))) rfl (by kernel_rfl) (fun π=>by kernel_rfl) (fun t d=>by kernel_rfl) ?_;rw[hd2]
   refine az.j6 (w1:=w) (.bool true) rfl (by kernel_rfl) rfl (fun t d=>by kernel_rfl) (az.fL ?_);refine az.ls {tmps:=(undef::u 1::u 2::.pointer (some ⟨s,0,none⟩)::rn u 4 6 (.int .i64 k::rn u 11 41 (.int .i64 k::u 53::.int .i64 l.length::.bool true::.bool true::.int .i64 k::.bool true::.bool true::rn u 60 15 []))).toArray,defers:=[]} (by kernel_rfl) ?_;simp only[rn]
   clear hd1 hd2;refine az.xm (b:=true) rfl rfl ?_;rw[if_pos rfl];refine az.MR (az.ec (az.zw (az.ec (az.kK ?_))));refine az.lQ _ rfl (.inr rfl) (by kernel_rfl) rfl (az.uT 63 (.slice (some ⟨b,off,none⟩) l.length cap) rfl rfl rfl sy Vm (fun π w=>by kernel_rfl) (az.lQ _ rfl (.inr rfl) (by kernel_rfl) rfl ?_))
   refine az.uT 65 (.pointer (some ⟨b,off+k*4,none⟩)) rfl rfl rfl sy Vl (fun π w=>Wv (m:=4) (x:= .tmp 63) (y:= .tmp 64) (by kernel_rfl) (by kernel_rfl) b off l.length cap k hlt _ rfl (by kernel_rfl) (az.Mx (by kernel_rfl) (by kernel_rfl) (by kernel_rfl)) w) ?_
   refine az.AJ (Eo (.slice (some ⟨b,off,none⟩) l.length cap) (.slice (some ⟨b,off,none⟩) l.length cap) (.slice (some ⟨b,off,none⟩) l.length cap) (.pointer (some ⟨b,off+k*4,none⟩))) rfl ?_
   refine az.MW b ob hK (.agg y.cells) Qe rfl rfl (eL (by kernel_rfl)) (fun π w hw=>(F0 (x:= .tmp 65) (by kernel_rfl) CM (by show 0<4;omega) hw hra _ rfl (by kernel_rfl)).1) (fun π w hw=>(F0 (x:= .tmp 65) (by kernel_rfl) CM (by show 0<4;omega) hw hra _ rfl (by kernel_rfl)).2) ?_
   refine az.xn (f2:=17) #[.tmp 62,.tmp 66] #[.pointer (some ⟨s,0,none⟩),.agg (ew y.kind y.side y.path y.content)] (R2:=Rs Fk s d 200 (DS.calm Lk ak) y.kind y.side y.path y.content w) rfl rfl (by kernel_rfl) (by kernel_rfl) (eL (by kernel_rfl)) (fun b w=>by kernel_rfl) (by kernel_rfl)
    (X2 y.kind y.side y.path y.content hC.store (hG.blk hB (by simp)) (YJ.nil hG) (wU _ _ _ hC.lo (by omega)) (by show 0<55;omega) (fun _=>hC.ok (by omega)) hok.1.1 hok.1.2 hok.2.1.1 hok.2.1.2 hok.2.2.1 hok.2.2.2) fun v w6 hR _=>?_
   obtain⟨rfl,F',L',N,hC',hg',hB',hN0,hN1,hal⟩:=hC.jd hR;have HR:=HS.out L' N hal;clear hal HS;have WJ:=Nz Hk y.kind y.side y.path y.content;have hgn:ce [] F' wL:=YJ.trans hg' hB.size;have hBn:eM [] wL w6:=rv YJ hB' hB;generalize yx Hk y.kind y.side y.path y.content=re at WJ hC' HR⊢;obtain⟨Hn,en⟩:=re;clear hR hg' hB' hC hB hra YJ hK
   refine az.lQ _ rfl (.inl rfl) (by kernel_rfl) rfl (az.fL ?_);refine az.pi (fun u=>{tmps:=(undef::u 1::u 2::.pointer (some ⟨s,0,none⟩)::.int .i64 en::rn u 5 5 (.int .i64 k::rn u 11 64 [])).toArray,defers:=[]}) (by kernel_rfl) fun u=>?_
   simp only[rn];simp only at WJ hC' HR;replace HR:Hid _:=HR;refine az.d6 none nd ⟨_,Tryz.func30⟩ (by kernel_rfl) (by simp) (fun w=>cB w F' s d L' (ak+N) Hn/\eM [] wL w) (fun w t k h=>⟨h.1.ax t k,h.2.tape t k⟩) ⟨hC',hBn⟩ fun w7 hI hsz=>?_
   clear hC' hBn hsz;obtain⟨hC,hB⟩:=hI;rcases WJ with rfl|rfl
   all_goals
    go_wp2_with fail;refine az.Dh ?_;refine az.d6 none nd ⟨_,Tryz.func30⟩ (by kernel_rfl) (by simp) (fun w=>cB w F' s d L' (ak+N) Hn/\eM [] wL w) (fun w t k h=>⟨h.1.ax t k,h.2.tape t k⟩) ⟨hC,hB⟩ fun w8 hI hsz=>?_
    clear hC hB hsz;obtain⟨hC,hB⟩:=hI;go_wp2_with fail;refine az.pi (sW undef s (k+1)) (by kernel_rfl) fun u=>?_
    exact ih' _ _ _ (k+1) F' L' (ak+N) Hn u w8 rfl (by omega) (by omega) hC (by push_cast;omega) hgn hB HR
  .have hd1:decide ((k:Int)<(l.length:Int))=true:=by simp;omega
   have hd2:decide ((k:Int)<300)=false:=by simp;omega
   rw[hd1];refine az.ls {tmps:=(undef::u 1::u 2::.pointer (some ⟨s,0,none⟩)::rn u 4 6 (.int .i64 k::rn u 11 41 (.int .i64 k::u 53::.int .i64 l.length::.bool true::.bool true::rn u 57 18 []))).toArray,defers:=[]} (by kernel_rfl) ?_;simp only[rn]
   refine az.uU rfl (by kernel_rfl) (fun π=>by kernel_rfl) (fun tt dd=>(show az.eV _ _ _ _ _ _ _ (ax w tt dd) from(az.i6 tt dd).2 ?_));refine az.De (w1:=w) (.bool (decide ((k:Int)<300))) rfl (by kernel_rfl) (fun π=>by kernel_rfl) (fun t d=>by kernel_rfl) ?_;rw[hd2]
   refine az.j6 (w1:=w) (.bool false) rfl (by kernel_rfl) rfl (fun t d=>by kernel_rfl) (az.fL ?_);refine az.ls {tmps:=(undef::u 1::u 2::.pointer (some ⟨s,0,none⟩)::rn u 4 6 (.int .i64 k::rn u 11 41 (.int .i64 k::u 53::.int .i64 l.length::.bool true::.bool true::.int .i64 k::.bool false::.bool false::rn u 60 15 []))).toArray,defers:=[]} (by kernel_rfl) ?_
   simp only[rn];refine az.xm (b:=false) rfl rfl ?_;rw[if_neg (by simp)];refine az.Di rfl (az.d6 none nd ⟨_,Tryz.func30⟩ (by kernel_rfl) (by simp) (fun w=>cB w Fk s d Lk ak Hk/\eM [] wL w) (fun w t k h=>⟨h.1.ax t k,h.2.tape t k⟩) ⟨hC,hB⟩ fun w6 hI hsz=>?_);go_wp2_with fail
   exact⟨w6.tape,w6.drawn,s,d,Fk,Lk,ak,Hk,rfl,hI.1,YJ,hI.2,hls,by omega,by rw[<-HR.out,show l.take 300=l.take k by rw[show k=300 by omega]]⟩
 .have hd1:decide ((k:Int)<(l.length:Int))=false:=by simp;omega
  rw[hd1];refine az.ls {tmps:=(undef::u 1::u 2::.pointer (some ⟨s,0,none⟩)::rn u 4 6 (.int .i64 k::rn u 11 41 (.int .i64 k::u 53::.int .i64 l.length::.bool false::.bool false::rn u 57 18 []))).toArray,defers:=[]} (by kernel_rfl) ?_;simp only[rn]
  refine az.GB rfl (eL (by kernel_rfl)) (fun π=>by kernel_rfl) (az.GB rfl (eL (by kernel_rfl)) (fun π=>by kernel_rfl) ?_);refine az.j6 (w1:=w) (.bool false) rfl (by kernel_rfl) rfl (fun t d=>by kernel_rfl) (az.fL ?_)
  refine az.ls {tmps:=(undef::u 1::u 2::.pointer (some ⟨s,0,none⟩)::rn u 4 6 (.int .i64 k::rn u 11 41 (.int .i64 k::u 53::.int .i64 l.length::.bool false::.bool false::undef::undef::.bool false::rn u 60 15 []))).toArray,defers:=[]} (by kernel_rfl) ?_;simp only[rn];refine az.xm (b:=false) rfl rfl ?_;rw[if_neg (by simp)]
  refine az.Di rfl (az.d6 none nd ⟨_,Tryz.func30⟩ (by kernel_rfl) (by simp) (fun w=>cB w Fk s d Lk ak Hk/\eM [] wL w) (fun w t k h=>⟨h.1.ax t k,h.2.tape t k⟩) ⟨hC,hB⟩ fun w6 hI hsz=>?_);go_wp2_with fail
  exact⟨w6.tape,w6.drawn,s,d,Fk,Lk,ak,Hk,rfl,hI.1,YJ,hI.2,hls,by omega,by rw[<-HR.out,show l.take 300=l.take k by rw[List.take_of_length_le (by omega),List.take_of_length_le (by omega)]]⟩
end
section
open Go.RowKit Go.Lib
def FA (H:bO):List (List UInt8):=lV (fun q=>H (q/7) (cz (q%7))) 21
theorem ux (H:bO):(FA H).length=21:=fi _ _
theorem Oq (H:bO)(s p:Nat)(hs:s<3)(hp:p<7):(FA H)[s*7+p]? =some (cellOf (H s (cz p))):=by
 unfold FA lV;rw[List.getElem?_map,List.getElem?_range (by omega:s*7+p<21),Option.map_some,if_pos (by omega)];show some (cellOf (H ((s*7+p)/7) (cz ((s*7+p)%7))))=_;rw[show(s*7+p)/7=s by omega,show(s*7+p)%7=p by omega]
theorem Fa {a b:Option (List UInt8)}(h:cellOf a=cellOf b):a=b:=by
 cases a<;>cases b<;>simp[cellOf] at h
 .rfl
 .rw[h]
theorem rP (a b:Option (List UInt8)):((aB (cellOf a)).toList==(aB (cellOf b)).toList)=decide (a=b):=by
 rw[oA,oA]
 by_cases h:a=b
 .simp[h]
 .have h2:cellOf a≠cellOf b:=fun q=>h (Fa q)
  simp[h,h2]
theorem oL {w:World}{b:Nat}{H:bO}{t:TypeId}(h:Row w b (ik (FA H)) t)(s p:Nat)(hp:p<7)(hs:s<3:=by omega):w.cell? ⟨b,s*7+p,none⟩=some (.string (aB (cellOf (H s (cz p))))):=by
 rw[h.cell,vo _ _ (by rw[ux];omega),(List.getElem_eq_iff _).2 (Oq H s p hs hp)]
section
variable {w w':World}{F:List Nat}{s d:Nat}{L:List UInt8}{a:Int}{H:bO}
theorem Has.state (h:Has L 200 H)(a:Int):(DS.calm L a).state 200=FA H:=by
 unfold DS.state FA
 congr 1
 funext q
 exact Has.content (x:=DS.calm L a) h rfl (q/7) (cz (q%7))
theorem cB.seen (h:cB w F s d L a H):Calls Tryz.prog 15 #[.pointer (some ⟨s,0,none⟩)] w fun e w'=>e= .returned (.tuple #[.agg (ik (FA H)),.bool true])/\aO [] w w':=by
 obtain⟨m,hr,hm⟩:=id h.has;have:=Ki F s d 200 (DS.calm L a) m w h.store rfl rfl hr (h.seven.slots hm)
 rwa [h.has.state a] at this
theorem Bt (H:bO):(Tryz.prog.info? 33).map (·.size)=some (ik (FA H)).size:=by rw[eh,ux];exact mM
theorem eM.row {S:List Nat}(h:eM S w w'){b:Nat}{c:Array Value}{t:TypeId}(hr:Row w b c t)(hb:b∉S:=by simp):Row w' b c t:=by
 unfold Row at*;rw[h.block b (Array.getElem?_eq_some_iff.1 hr).1 hb];exact hr
end
def NA (wL:World)(v:Value)(w':World):Prop:=v= .bool true/\eM [] wL w'
def DH (n:Nat):Act:={tmps:=Array.replicate n undef,defers:=[]}
theorem G3 {n:Nat}{H:Nat->Prop}{wL:World}:az.VA H wL (DH n).tmps:=fun v hv=>by
 rw[(Array.mem_replicate.1 hv).2];exact gC
end
section
open Go.RowKit Go.Lib Go.Sort
def Pg (sv x:Value):kQ:=[(0,sv),(16,x)]
section
variable {sv x:Value}
theorem y7:2∉sl (Pg sv x):=by simp[sl,Pg]
theorem Im:(sl (Pg sv x)).Nodup:=by simp[sl,Pg]
theorem Vk:16∈sl (Pg sv x):=by simp[sl,Pg]
end
open aH aH.Sq in
theorem MX {E:az.Env}{wL:World}(ad:Option Addr)(cap:Nat)(l:List pr)(h:NH E.K ad l)(hG:pq wL){cd:Code}(hcd:Tryz.f6.body=some cd):
  az.eV E 2 6 (Pg (.slice ad l.length cap) undef) [.code cd] (fun a w=>NA wL (a.tmps.getD 2 undef) w) (DH 139) wL:=by
 obtain rfl:=(Option.some.inj hcd).symm;clear hcd;have hB:eM [] wL wL:=eM.refl _ _;refine az.ls {tmps:=(rn (fun _=>undef) 0 139 []).toArray,defers:=[]} (by kernel_rfl) ?_;simp only[rn];refine az.ec ?_;refine az.d6 none y7 ⟨_,Tryz.func6⟩ (by kernel_rfl) (by simp) (fun w=>eM [] wL w) (fun w t k h=>h.tape t k) hB fun w1 hI hsz=>?_
 clear hB hsz;have hB:=hI;clear hI;go_wp2_with fail;refine az.ec (az.kK ?_);refine az.uT 16 (.slice ad l.length cap) rfl rfl rfl Im Vk (fun π w=>by kernel_rfl) ?_;refine az.AJ (Pg (.slice ad l.length cap) (.slice ad l.length cap)) rfl ?_
 refine az.Je (f2:=30) #[.slice ad l.length cap] rfl rfl (eL (by kernel_rfl)) (fun π w=>by kernel_rfl) (Jg ad cap l h (hG.blk hB (by simp))) fun v w1 hR _=>?_
 obtain⟨s,d,F,L,a,H,rfl,hC,hg,hB1,hls,ha,hrs⟩:=hR;clear hrs;replace hg:ce [] F wL:=(ce.refl [] wL).trans hg hB.size;replace hB:=hB.trans hB1;clear hB1 hls;refine az.lQ _ rfl (.inl rfl) (by kernel_rfl) rfl (az.fL ?_)
 refine az.pi (fun u=>{tmps:=(undef::u 1::u 2::.pointer (some ⟨s,0,none⟩)::rn u 4 12 (undef::rn u 17 122 [])).toArray,defers:=[]}) (by kernel_rfl) fun u=>?_
 simp only[rn];refine az.ec ?_;refine az.d6 none y7 ⟨_,Tryz.func6⟩ (by kernel_rfl) (by simp) (fun w=>cB w F s d L a H/\eM [] wL w) (fun w t k h=>⟨h.1.ax t k,h.2.tape t k⟩) ⟨hC,hB⟩ fun w11 hI hsz=>?_
 clear hC hB hsz;obtain⟨hC,hB⟩:=hI;go_wp2_with fail;refine az.ec ?_;refine az.d6 none y7 ⟨_,Tryz.func6⟩ (by kernel_rfl) (by simp) (fun w=>cB w F s d L a H/\eM [] wL w) (fun w t k h=>⟨h.1.ax t k,h.2.tape t k⟩) ⟨hC,hB⟩ fun w12 hI hsz=>?_
 clear hC hB hsz;obtain⟨hC,hB⟩:=hI;go_wp2_with fail;refine hC.seen.mono ?_;rintro e w13 ⟨rfl,f14⟩;replace hC:=hC.new f14;replace hB:=hB.trans f14.blk;clear f14;go_wp2_with (with_reducible first|refine ay rfl ?_|refine af 33 rfl ?_);refine al.go (bm rfl 33 rfl _ mi ?_);intro w18 b4 l15 f16 r17
 go_wp2_with (with_reducible first|refine af 33 rfl ?_);refine al.go (iw rfl 33 _ _ rfl b4 rfl (ik (FA (H))) rfl (Bt _) (Bu _) _ _ r17 (by rw[eh,ux];rfl) ?_);intro w19 f20 r4;have ff:aO [] w13 w19:=f16.trans f20 (by simpa using l15);have Sk:b4∉F/\s≠b4:=⟨fun hF=>by have:=hC.store.disk.lt b4 hF;omega,by have:=hC.store.row.lt;omega⟩
 clear f16 f20 r17 l15;replace hC:=hC.new ff;replace hB:=hB.trans ff.blk;clear ff;go_wp2_with fail;refine az.ec (az.kK ?_);refine az.pi (fun u=>{tmps:=(undef::u 1::u 2::.pointer (some ⟨s,0,none⟩)::.pointer (some ⟨b4,0,none⟩)::.bool true::rn u 6 10 (undef::rn u 17 122 [])).toArray,defers:=[]}) (by kernel_rfl) fun u=>?_
 simp only[rn];refine az.lQ _ rfl (.inr rfl) (by kernel_rfl) rfl ?_;refine az.xn (f2:=31) #[.tmp 26] #[.pointer (some ⟨s,0,none⟩)] (R2:=xE F s d 200 (DS.calm L a) w19) rfl rfl (by kernel_rfl) (by kernel_rfl) (eL (by kernel_rfl)) (fun b w=>by kernel_rfl) (by kernel_rfl) (AM hC.store (hG.blk hB (by simp)) (hg.nil hG) (hC.ok (by omega))) fun v w3 hR _=>?_
 obtain⟨ps,cv,F2,L2,k2,rfl,hP,hC2,hg2,hB2,hk0,hk1,hno,hcv,hcF,hsl⟩:=hC.synced hR;clear hno hsl;replace r4:=hB2.row r4 Sk.1;replace hB:eM [] wL w3:=rv hg hB2 hB;obtain⟨GH,rQ,LL⟩:=ci hcv;generalize hcl:(jq H ps).length=cl at LL hcv;subst LL;generalize (fy H ps).length=nst;have h7:=hC.seven;clear hR hC hg hg2 hB2 hcF Sk hcv;have hC:=hC2;clear hC2
 refine az.lQ _ rfl (.inr rfl) (by kernel_rfl) rfl (az.j6 (w1:=w3) (.agg #[.int .i64 nst,.slice GH cl rQ]) rfl (by kernel_rfl) rfl (fun t d=>by kernel_rfl) (az.j6 (w1:=w3) (.int .i64 0) rfl (by kernel_rfl) rfl (fun t d=>by kernel_rfl) ?_))
 refine az.pi (fun u=>{tmps:=(undef::u 1::u 2::.pointer (some ⟨s,0,none⟩)::.pointer (some ⟨b4,0,none⟩)::.bool true::rn u 6 10 (undef::rn u 17 11 (.agg #[.int .i64 nst,.slice GH cl rQ]::.int .i64 0::rn u 30 109 []))).toArray,defers:=[]}) (by kernel_rfl) fun u=>?_
 simp only[rn];refine az.Df 5 rfl y7 ⟨_,Tryz.func6⟩ (by kernel_rfl) (fun w=>cB w F2 s d L2 (a+k2) (fh H)/\eM [] wL w/\Row w b4 (ik (FA (H))) 33) (fun w t k h=>⟨h.1.ax t k,h.2.1.tape t k,h.2.2⟩) ⟨hC,hB,r4⟩ fun w21 hI _=>?_
 clear hC hB r4;obtain⟨hC,hB,r4⟩:=hI;show wpList _ _ _ [_,_,_] _ _;refine ay rfl ?_;refine al.go (bm rfl 58 rfl _ kU ?_);intro w25 b6 l22 f23 r24;go_wp2_with (with_reducible first|refine af 58 rfl ?_);refine al.go (iw rfl 58 _ _ rfl b6 rfl (#[.int .i64 nst,.slice GH cl rQ]) rfl eJ (by simp[Value.oneCell']) _ _ r24 rfl ?_);intro w26 f27 r6
 have ff:aO [] w21 w26:=f23.trans f27 (by simpa using l22);clear f23 f27 r24 l22;replace hC:=hC.new ff;replace hB:=hB.trans ff.blk;replace r4:=ff.row r4;clear ff;go_wp2_with fail;refine az.ec ?_
 refine az.d6 none y7 ⟨_,Tryz.func6⟩ (by kernel_rfl) (by simp) (fun w=>cB w F2 s d L2 (a+k2) (fh H)/\eM [] wL w/\Row w b4 (ik (FA (H))) 33/\Row w b6 (#[.int .i64 nst,.slice GH cl rQ]) 58) (fun w t k h=>⟨h.1.ax t k,h.2.1.tape t k,h.2.2.1,h.2.2.2⟩) ⟨hC,hB,r4,r6⟩ fun w28 hI hsz=>?_
 clear hC hB r4 r6 hsz;obtain⟨hC,hB,r4,r6⟩:=hI;go_wp2_with fail;refine hC.seen.mono ?_;rintro e w29 ⟨rfl,f30⟩;replace hC:=hC.new f30;replace hB:=hB.trans f30.blk;replace r4:=f30.row r4;replace r6:=f30.row r6;clear f30;go_wp2_with (with_reducible first|refine ay rfl ?_|refine af 33 rfl ?_);refine al.go (bm rfl 33 rfl _ mi ?_)
 intro w34 b8 l31 f32 r33;go_wp2_with (with_reducible first|refine af 33 rfl ?_);refine al.go (iw rfl 33 _ _ rfl b8 rfl (ik (FA (fh H))) rfl (Bt _) (Bu _) _ _ r33 (by rw[eh,ux];rfl) ?_);intro w35 f36 r8;have ff:aO [] w29 w35:=f32.trans f36 (by simpa using l31);clear f32 f36 r33 l31;replace hC:=hC.new ff;replace hB:=hB.trans ff.blk
 replace r4:=ff.row r4;replace r6:=ff.row r6;clear ff;go_wp2_with fail
 refine az.d6 none y7 ⟨_,Tryz.func6⟩ (by kernel_rfl) (by simp) (fun w=>cB w F2 s d L2 (a+k2) (fh H)/\eM [] wL w/\Row w b4 (ik (FA (H))) 33/\Row w b6 (#[.int .i64 nst,.slice GH cl rQ]) 58/\Row w b8 (ik (FA (fh H))) 33) (fun w t k h=>⟨h.1.ax t k,h.2.1.tape t k,h.2.2.1,h.2.2.2.1,h.2.2.2.2⟩) ⟨hC,hB,r4,r6,r8⟩ fun w37 hI hsz=>?_
 clear hC hB r4 r6 r8 hsz;obtain⟨hC,hB,r4,r6,r8⟩:=hI;have ahw:Hid (jU H 7=cl):=by show _=_;rw[<-hcl];exact E5 h7 hP
 clear hcl h7 hP hk0 hk1 ha h hG;go_wp2_with fail
 go_loopw [10,11] (fun n i wr=>∃k:Nat,i= .int .i64 k/\k<=7/\n= .int .i64 (jU H k)/\aO [] w37 wr) (fun _ i _=>7-(intOf i).toNat)
 case atStart=>exact⟨0,rfl,by omega,rfl,aO.refl _ _⟩
 case round=>
  obtain⟨k,rfl,hk,rfl,fk⟩:=hrel
  by_cases hlt:k<7
  .have HN:Hid (jU H (k+1)=jU H k+if iG H (cz k)=none then 1 else 0):=E6 H k
   have hle:=MP H k;have c40:=oL (fk.row r4) 0 k hlt;have Y2:=oL (fk.row r4) 1 k hlt;have X7:=oL (fk.row r4) 2 k hlt;have c80:=oL (fk.row r8) 0 k hlt;have Q1:=oL (fk.row r8) 1 k hlt;have Q0:=oL (fk.row r8) 2 k hlt
   simp only[Nat.zero_mul,Nat.zero_add,Nat.one_mul,Nat.reduceMul] at c40 Y2 X7 c80 Q1 Q0
   by_cases AF:H 0 (cz k)=H 2 (cz k)
   .have hs:iG H (cz k)=some 1:=by unfold iG;rw[if_pos AF]
    rw[sc hs _ (by omega)] at c80 Q1 Q0;rw[<-AF] at X7;have hN:jU H (k+1)=jU H k+0:=by rw[HN.out,hs];rfl
    clear HN hs;clear AF;generalize H 0 (cz k)=lv at c40 X7;generalize H 1 (cz k)=xv at Y2 c80 Q1 Q0;replace hN:Hid _:=hN;go_wp2_with fail
    go_roundw
    case rel=>exact⟨k+1,by go_num,by omega,by rw[hN.out];go_num,fk⟩
    case measure=>simp[intOf];omega
   .by_cases e12:H 1 (cz k)=H 2 (cz k)
    .have hs:iG H (cz k)=some 0:=by unfold iG;rw[if_neg AF,if_pos e12]
     rw[sc hs _ (by omega)] at c80 Q1 Q0;rw[<-e12] at X7 AF;have hN:jU H (k+1)=jU H k+0:=by rw[HN.out,hs];rfl
     clear HN hs;clear e12;generalize H 0 (cz k)=lv at c40 c80 Q1 Q0 AF;generalize H 1 (cz k)=xv at Y2 X7 AF;have n1:((aB (cellOf lv)).toList==(aB (cellOf xv)).toList)=false:=by rw[rP];simpa using AF
     clear AF;replace hN:Hid _:=hN;go_wp2_with fail
     go_roundw
     case rel=>exact⟨k+1,by go_num,by omega,by rw[hN.out];go_num,fk⟩
     case measure=>simp[intOf];omega
    .by_cases e01:H 0 (cz k)=H 1 (cz k)
     .have hs:iG H (cz k)=some 0:=by unfold iG;rw[if_neg AF,if_neg e12,if_pos e01]
      rw[sc hs _ (by omega)] at c80 Q1 Q0;rw[<-e01] at Y2;have hN:jU H (k+1)=jU H k+0:=by rw[HN.out,hs];rfl
      clear HN hs;clear e01 e12;generalize H 0 (cz k)=lv at c40 Y2 c80 Q1 Q0 AF;generalize H 2 (cz k)=ov at X7 AF;have n1:((aB (cellOf lv)).toList==(aB (cellOf ov)).toList)=false:=by rw[rP];simpa using AF
      clear AF;replace hN:Hid _:=hN;go_wp2_with fail
      go_roundw
      case rel=>exact⟨k+1,by go_num,by omega,by rw[hN.out];go_num,fk⟩
      case measure=>simp[intOf];omega
     .have hs:iG H (cz k)=none:=by unfold iG;rw[if_neg AF,if_neg e12,if_neg e01]
      rw[G7 hs _ (by omega)] at c80 Q1 Q0;have hN:jU H (k+1)=jU H k+1:=by rw[HN.out,hs];rfl
      clear HN hs;generalize H 0 (cz k)=lv at c40 c80 AF e01;generalize H 1 (cz k)=xv at Y2 Q1 e12 e01;generalize H 2 (cz k)=ov at X7 Q0 AF e12;have n1:((aB (cellOf lv)).toList==(aB (cellOf ov)).toList)=false:=by rw[rP];simpa using AF
      have n2:((aB (cellOf xv)).toList==(aB (cellOf ov)).toList)=false:=by rw[rP];simpa using e12
      have n3:((aB (cellOf lv)).toList==(aB (cellOf xv)).toList)=false:=by rw[rP];simpa using e01
      clear AF e12 e01;replace hN:Hid _:=hN;go_wp2_with fail
      go_roundw
      case rel=>exact⟨k+1,by go_num,by omega,by rw[hN.out];go_num,fk⟩
      case measure=>simp[intOf];omega
  .obtain rfl:k=7:=by omega
   rw[ahw.out];have c61:wr.cell? ⟨b6,1,none⟩=some (.slice GH cl rQ):=by rw[(fk.row r6).cell];rfl
   have hBr:=hB.trans fk.blk;go_wp2_with fail;exact⟨wr.tape,wr.drawn,by simp[NA],hBr⟩
end
section
open Go.ChangeShapes Go.WideShapes Go.ChangeAt Go.RowKit Go.Deep Go.Joins Go.Lib Go.Conc Go.ConcM
theorem qi {n:Int}(h:(Lit.int .i64 n).wf=true):wT n:=by
 unfold wT;simp[Lit.wf] at h;exact h
section
variable {H:Type}{enc:TypeId×Value->H}{w:World}{base:Nat}{spare:Nat->Bool}{held:Bool}
theorem sP:Tryz.prog.cellsOf 24=4:=by kernel_rfl
theorem Jf:Tryz.prog.cellsOf 3=1:=by kernel_rfl
theorem tY {fuel:Nat}{cs:List Value}{x:DataW H×List MemPlace}(h:DataW.trod enc Tryz.prog w base spare held fuel 24 cs=some x):∃y:pr,y.Ok/\cs=y.cells.toList:=by
 obtain⟨y0,y1,y2,y3,n,hx,hl,h0,h1,h2,h3⟩:=trod_struct4 Tryz.underlying24 h;rw[sP] at hl;simp only[Jf,AL] at h0 h1 h2 h3
 match cs,hl with
 |[c0,c1,c2,c3],_=>
  obtain⟨a0,e0,_,w0⟩:=DataW.trod_int Tryz.underlying3 h0;obtain⟨a1,e1,_,w1⟩:=DataW.trod_int Tryz.underlying3 h1;obtain⟨a2,e2,_,w2⟩:=DataW.trod_int Tryz.underlying3 h2;obtain⟨a3,e3,_,w3⟩:=DataW.trod_string Tryz.underlying9 h3;simp at e0 e1 e2 e3;subst e0 e1 e2 e3;exact⟨⟨a0,a1,a2,a3⟩,⟨qi w0,qi w1,qi w2⟩,rfl⟩
theorem F7 {α:Type}{Pr:Nat->α->Prop}:∀n:Nat,(∀i,i<n->∃y,Pr i y)->∃l:List α,l.length=n/\∀i,(h:i<l.length)->Pr i l[i]
 |0,_=>⟨[],rfl,fun i h=>by simp at h⟩
 |n+1,h=>by
  obtain⟨l,hl,hp⟩:=F7 n fun i hi=>h i (by omega)
  obtain⟨y,hy⟩:=h n (by omega);refine⟨l++[y],by simp[hl],fun i hi=>?_⟩
  by_cases hi2:i<l.length
  .rw[List.getElem_append_left hi2]
   exact hp i hi2
  .have:i=n:=by simp at hi;omega
   subst this;rw[List.getElem_append_right (by omega)];simpa [hl] using hy
theorem AS {W:World}{a:Option Addr}{len cap fuel:Nat}{x:DataW H×List MemPlace}(h:DataW.trod enc Tryz.prog W 0 spare held fuel 22 [.slice a len cap]=some x):∃l:List pr,l.length=len/\NI W a l/\len<=cap/\cap<=maxLen:=by
 rcases open_slice Tryz.underlying22 h with⟨hcs,_⟩|⟨ad,len',cap',m,n,D,Pl,hcs,_,hl,hm,hmm,_,hcell⟩
 .simp at hcs
  obtain⟨rfl,rfl,rfl⟩:=hcs;exact⟨[],rfl,fun j hj=>by simp at hj,by omega,by omega⟩
 .simp at hcs
  obtain⟨rfl,rfl,rfl⟩:=hcs;have hlm:len<=m:=by rw[hmm];split<;>omega
  have hel:∀i,i<len->∃y:pr,y.Ok/\∃b off,some ad=some (⟨b,off,none⟩:Addr)/\W.rangeAt b (off+i*4) y.cells.toList:=by
   intro i hi;obtain⟨cs',h1,h2⟩:=hcell i (by omega);obtain⟨y,hy,rfl⟩:=tY h2;refine⟨y,hy,?_⟩;obtain⟨_,hlen,h3⟩:=World.cells?_some h1;rw[sP] at h1 hlen h3;obtain⟨b,off,spot⟩:=ad;have hspot:spot=none:=by
    obtain⟨cs0,k1,k2⟩:=hcell 0 (by omega);obtain⟨y0,_,rfl⟩:=tY k2;obtain⟨_,_,k3⟩:=World.cells?_some k1;rw[sP] at k3;have:=World.cell?_spot ((k3 0 (by omega)).trans (show y0.cells.toList[0]? =some (.int .i64 y0.kind) from rfl));simpa [Addr.add] using this
   subst hspot;refine⟨b,off,rfl,fun j v hj=>?_⟩;have hj4:j<4:=by
    have:=(List.getElem?_eq_some_iff.1 hj).1;rw[hlen] at this;exact this
   have h5:=h3 j hj4;rw[Addr.add_mid,Addr.add_mid,hj] at h5;exact h5
  obtain⟨l,hl2,hp⟩:=F7 len hel;exact⟨l,hl2,fun j hj=>hp j hj,hl,hm⟩
end
theorem Hb:((begin Tryz.prog (fun _ _=>0) default).world.heap[0]?).bind Obj.row? =some (#[.int .i64 0],3):=by kernel_rfl
theorem xU:Tryz.prog.globals.size=1:=by kernel_rfl
theorem xo:Tryz.prog.cellTypes Tryz.prog.depth 3=some [3]:=by kernel_rfl
def zz (w:World):Prop:=∃c t f,w.heap[0]? =some (.cells c t f)/\∀v∈c,∃q,v= .int .i64 q
theorem zz.ye {w:World}(h:zz w):pq w:=by
 obtain⟨c,t,f,h1,h2⟩:=h;refine⟨c,t,f,h1,fun v hv r hr=>?_⟩;obtain⟨q,rfl⟩:=h2 v hv;cases hr
theorem wO {w:World}(h:w.ShapedOpen Tryz.prog):zz w:=by
 obtain⟨cs,h1,h2,h3⟩:=h.1 0 _ _ (by rw[xU];omega) Hb;obtain⟨ts,e1,_,e3⟩:=h3 (by kernel_rfl);rw[xo] at e1;obtain rfl:=Option.some.inj e1;refine⟨cs,_,_,h1,fun v hv=>?_⟩;obtain⟨i,hi,rfl⟩:=Array.mem_iff_getElem.1 hv;obtain⟨u,hu,hc⟩:=e3 i cs[i] (by simp[hi]);have:u=3:=by
  simp only[List.length_singleton,Nat.mod_one] at hu;simpa using hu.symm
 subst this;unfold Cell.ok at hc;rw[show Tryz.prog.underlying 3=some (.int .i64) by kernel_rfl] at hc;generalize cs[i]=x at hc;cases x<;>simp at hc;rename_i k n;exact⟨n,by rw[hc.1]⟩
def hide (W:World):World:={W with heap:=W.heap.mapIdx fun b o=>if b=0 then o else .cells #[] 1000000 (0,0)}
def hidden (W:World)(b:Nat):Prop:=b<W.heap.size/\b≠0
theorem fY (W:World):(hide W).heap.size=W.heap.size:=by simp[hide]
theorem ru (W:World)(b:Nat):(hide W).heap[b]? =(W.heap[b]?).map fun o=>if b=0 then o else .cells #[] 1000000 (0,0):=by simp[hide]
theorem IP {W:World}(h:pq W):pq (hide W):=by
 obtain⟨c,t,f,h1,h2⟩:=h;exact⟨c,t,f,by rw[ru,h1];simp,h2⟩
theorem Ll {W:World}(h:pq W):Link (hidden W) az.no (fun b=>b<W.heap.size) az.no id (hide W) W:=by
 obtain⟨c,t,f,h1,h2⟩:=h;have h0:=(Array.getElem?_eq_some_iff.1 h1).1;have at0:∀b o,(hide W).heap[b]? =some o->¬hidden W b->b=0/\o= .cells c t f:=fun b o hb hn=>by
  have hlt:b<W.heap.size:=by rw[<-fY];exact(Array.getElem?_eq_some_iff.1 hb).1
  have hz:b=0:=Classical.byContradiction fun q=>hn ⟨hlt,q⟩
  subst hz;rw[ru,h1] at hb;simp at hb;exact⟨rfl,hb.symm⟩
 have hid:∀b o,(hide W).heap[b]? =some o->hidden W b->o= .cells #[] 1000000 (0,0):=fun b o hb hh=>by
  rw[ru,Array.getElem?_eq_getElem hh.1,Option.map_some,if_neg hh.2] at hb;exact(Option.some.inj hb).symm
 have low:∀b,hidden W b\/az.no b->b<(hide W).heap.size:=fun b hb=>by rw[fY];exact hb.elim (·.1) False.elim
 have vz:gh (hidden W) (hide W) 0:=⟨by rw[fY];exact h0,fun q=>q.2 rfl⟩
 refine⟨fun _ _ e=>e,rfl,fun b hb=>by rw[fY] at hb;exact hb,⟨fun b o hb hh _=>?_,hid,fun b o _ hz=>hz.elim,low,fun b hz=>hz.elim,vz,fun b o hb hh r hr=>?_⟩,⟨fun _ _ e=>e,rfl,rfl,fun b hb _=>by
  have hb:b<(hide W).heap.size:=hb;rw[fY] at hb;exact hb,fun b o hb hh _=>?_,hid,fun b o _ hz=>hz.elim,low,fun b o hb i hi=>?_⟩,fun b hb _=>by rw[<-fY];exact hb.1,fun b hz=>hz.elim⟩
 .obtain⟨rfl,rfl⟩:=at0 b o hb hh
  trivial
 .obtain⟨rfl,rfl⟩:=at0 b o hb hh
  cases hr with
  |cells hv hr=>exact absurd hr (h2 _ hv r)
 .obtain⟨rfl,rfl⟩:=at0 b o hb hh
  refine⟨trivial,?_⟩;show W.heap[0]? =_;rw[h1];rw[nY fun r hr=>by cases hr with|cells hv hr=>exact absurd hr (h2 _ hv r)]
 .by_cases hh:hidden W b
  .have:=hid b o hb hh
   subst this;exact hi.elim
  .obtain⟨rfl,rfl⟩:=at0 b o hb hh
   exact hi.elim
theorem Ew {W:World}(h:pq W)(K:Nat->Option Obj)(h0:K 0=none):Link (hidden W) az.no (fun b=>b<W.heap.size/\K b=none) az.no id (hide W) W:=by
 have hl:=Ll h;refine⟨hl.inj,hl.zero,hl.lt,hl.lw,hl.wr,fun b hv hz=>⟨hl.own b hv hz,?_⟩,hl.ro⟩;have hb:b=0:=Classical.byContradiction fun q=>hv.2 ⟨by have:=hv.1;rwa [fY] at this,q⟩
 subst hb;exact h0
theorem mF {H:Type}{enc:TypeId×Value->H}{a:Assume}{os:Os}{f:FuncId}{fn:Func}{s:ChangeSpec}{F:Stop.Interp}{conds:List PathCond}{apart fresh handsOn:Bool}
  (own:ownKnob Tryz.prog.godebug=none) (started:os.Started) (hfn:Tryz.prog.funcs[f]? =some fn)
  (witness:∃(w:World) (tape:Tape) (i:Input),w.os=os/\(w.forCall tape i).Shaped Tryz.checked.prog/\i.vars=[]/\Input.okWide Tryz.checked.prog (w.forCall tape i) .any w.heap.size f i/\
   s.pre6 enc Tryz.checked.prog fn conds apart (w.forCall tape i).memory i.args/\a.holds Tryz.checked.prog (lone (Frame.enter Tryz.checked.prog f i.args .normal) [] (w.forCall tape i)))
  (runs:∀(W:World) (base:Nat) (args:Array Value) (ds gs:List (DataW H)) (before:List MemPlace),zz W->
   (∀(j:Nat) t v,fn.params[j]? =some t->args[j]? =some v->Value.okWide Tryz.prog W .any base t v)->
   DataW.Whole enc Tryz.prog fn.params.toList s.vars apart W args.toList ds gs before->
   conds.all (PathCond.test Tryz.prog ⟨fn.params.toList,ds,s.plain.varTypes Tryz.prog,gs⟩)=true->
   (DataW.weightsEach Tryz.prog (fn.params.toList++s.plain.varTypes Tryz.prog) (ds++gs)).all (·<=reachBytes)=true->
   az.NC (fun v W'=>s.post enc Tryz.prog fn apart fresh handsOn false W args v {W' with os:=W.os}/\OsLater W.os W'.os) (solo (G (Frame.enter Tryz.prog f args .normal) []) W) #[]):
  ReturnsInLeavingWide a Tryz.checked os f .any (s.pre6 enc Tryz.checked.prog fn conds apart) ((OpenSpec.ofChange s).postWith enc Tryz.checked.prog fn F (outsideKept [.timePasses]) apart fresh handsOn):=by
 refine returnsInLeavingWide_of_good own started witness ?_;intro w tape i _ hsh _ hok hpre _;obtain⟨_,_,_,fn',hfn',_,_,_,_,hval⟩:=hok;have e:fn'=fn:=Option.some.inj (hfn'.symm.trans hfn);subst e;obtain⟨⟨ds,gs,before,hw,hc⟩,hz⟩:=hpre;have hw':=DataW.Whole.of_heap (w':=w.forCall tape i) (by rfl) hw
 obtain⟨N,last,o,w',t',r1,r2,r3,v,e,hp,r4⟩:=runs (w.forCall tape i) w.heap.size i.args ds gs before (wO hsh) hval hw' hc (hz.weights hw);exact⟨N,last,o,w',t',r1,r2,r3,v,e,postWith_blind (postWith_of_post hp.1 hp.2),r4⟩
theorem Ls:ownKnob Tryz.prog.godebug=none:=by kernel_rfl
theorem ID:laidOutB Tryz.prog=true:=by kernel_rfl
def K0 (W:World)(b:Nat):Option Obj:=if b=0 then none else W.heap[b]?
theorem abu {W:World}(q:Nat)(o:Obj)(h:K0 W q=some o):W.heap[q]? =some o:=by
 unfold K0 at h;split at h
 .cases h
 .exact h
theorem Yi {W:World}{ad:Option Addr}{l:List pr}(hG:zz W)(h:NI W ad l):NH (K0 W) ad l:=fun j hj=>by
 obtain⟨h1,b,off,rfl,h2⟩:=h j hj;have h3:W.cell? ⟨b,off+j*4+3,none⟩=some (.string l[j].content):=h2 3 _ rfl;obtain⟨ob,YI⟩:∃ob,W.heap[b]? =some ob:=by
  unfold World.cell? at h3;cases hb:W.heap[b]? with
  |none=>rw[hb] at h3;cases h3
  |some ob=>exact⟨ob,rfl⟩
 have hb0:b≠0:=by
  rintro rfl;obtain⟨c,t,f,g1,g2⟩:=hG;unfold World.cell? at h3;rw[g1] at h3;simp only[Option.isSome_none,Bool.false_eq_true,if_false] at h3;obtain⟨q,hq⟩:=g2 _ (Array.mem_of_getElem? h3);cases hq
 exact⟨h1,b,off,rfl,ob,by unfold K0;rw[if_neg hb0];exact YI,fun w hw=>Cd h2 YI hw⟩
section
variable {W bD w':World}{π:Nat->Nat}{own:Nat->Prop}
theorem CF {t:Go.Proofs.YtchcmhodnkgojaaGreat.dU}{d:Nat}(hG:zz W)(hB:eM [] (hide W) (ax bD t d))(hl:Link (hidden W) az.no own az.no π bD w')(hK:∀q o,K0 W q=some o->w'.heap[q]? =some o):∀k,k<W.heap.size->w'.heap[k]? =W.heap[k]? :=fun k hk=>by
 by_cases h0:k=0
 .subst h0
  obtain⟨c,t',f,g1,g2⟩:=hG;have e1:bD.heap[0]? =(hide W).heap[0]? :=hB.block 0 (by rw[fY];exact hk) (by simp);rw[ru,g1] at e1;simp only[Option.map_some,if_true] at e1;have e2:=(hl.wr.ok 0 _ e1 (fun q=>q.2 rfl) id).2;rw[hl.zero,nY fun r hr=>by
   cases hr with
   |cells hv hr=>
    obtain⟨q,rfl⟩:=g2 _ hv;cases hr] at e2
  rw[e2,g1]
 .have e:W.heap[k]? =some W.heap[k]:=Array.getElem?_eq_getElem hk
  rw[hK k W.heap[k] (by unfold K0;rw[if_neg h0];exact e),e]
theorem EB {H:Type}{enc:TypeId×Value->H}{P:Program}{t:TypeId}(hl:laidOutB P=true)(hr:P.readableRec t=true)(hrow:t<P.types.size){W W':World}{v:Value}{d:DataW H}{ps:List MemPlace}
  (h:DataW.Trod enc P W 0 (fun _=>true) true t v d ps) (hb:∀k,k<W.heap.size->W'.heap[k]? =W.heap[k]?) (hlt:∀x∈ps,x.block<W.heap.size):
  DataW.Trod enc P W' 0 (fun b=>decide (b<W.heap.size)) true t v d ps:=
 WideElems.Trod_stays hl hr hrow h (fun x hx=>by
  cases x with
  |cell b o=>exact World.cell?_of_block (w:=W) (hb b (hlt _ hx))
  |map b=>exact hb b (hlt _ hx)) (fun x hx=>by simpa using hlt x hx)
theorem CG {W w':World}(hos:w'.os=W.os)(ho:w'.output=W.output)(hb:∀k,k<W.heap.size->w'.heap[k]? =W.heap[k]?)(may:MemPlace->Prop):W.keptBut w' may:=by
 refine⟨hos,ho,fun i hi=>?_⟩;rw[hb i hi];split<;>simp_all
end
theorem CE (os:Os)(started:os.Started)(H:Type)(enc:TypeId×Value->H)(F:Stop.Interp):
  ReturnsInLeavingWide Rows.keptRow.assume Tryz.checked os 6 .any (Rows.keptRow.pre enc Tryz.prog Tryz.f6 (OpenSpec.ofChange Rows.keptSpec))
   ((OpenSpec.ofChange Rows.keptSpec).postWith enc Tryz.prog Tryz.f6 F (outsideKept [.timePasses]) Rows.keptRow.apart Rows.keptRow.fresh Rows.keptRow.handsOn):=by
 refine mF (s:=Rows.keptSpec) (conds:=[]) Ls started Tryz.func6
  (ChangeSpec.witness6c (enc:=enc) (C:=Tryz.checked) ⟨#[],#[.slice none 0 0],[]⟩ 8 (by kernel_rfl) (by kernel_rfl) (by kernel_rfl) (by kernel_rfl)) ?_
 intro W base args ds gs before hG hval0 hW hcnd _;have hval:∀(j:Nat) t v,Tryz.f6.params[j]? =some t->args[j]? =some v->Value.okWide Tryz.prog W .any base t v:=hval0;have hW':=hW;obtain⟨p,q,YN,hV,rfl,hfz,hnd⟩:=hW;have hA:DataW.TrodAll enc Tryz.prog W 0 (fun _=>true) true Tryz.f6.params.toList args.toList ds p:=YN;rw[Tryz.params6] at hA hval;obtain⟨v0,d0,rfl,rfl,h0⟩:=trodAll_one hA
 have lt0:∀x∈p,x.block<W.heap.size:=by obtain⟨m,hm⟩:=h0;exact DataW.trod_lt m _ _ _ hm
 obtain⟨rfl,rfl⟩:=trodVars_none hV;have k0:=h0;obtain⟨aiO,g0⟩:=h0;obtain⟨a0,ajG,cap0,rfl⟩:=okWide_slice Tryz.underlying22 (hval 0 22 v0 rfl rfl);obtain⟨l0,rfl,WL,hl0,hcap0⟩:=AS (by simpa [Value.cells] using g0);clear YN hval0
 refine az.Cv (W:=W) (H:=hidden W) (K:=K0 W) (wL:=hide W) (R2:=NA (hide W)) Tryz.func6 rfl (by kernel_rfl) rfl (Ew hG.ye (K0 W) rfl) abu (DH 139) (Pg (.slice a0 l0.length cap0) undef) G3 rfl (by kernel_rfl) (fY W) (MX a0 cap0 l0 (Yi hG WL) (IP hG.ye) rfl) ?_;intro v bD π own w' ⟨t,d,hv,hB⟩ hl hvv hag hs1 hs2 hos hout hK;subst hv
 have hb:=CF hG hB hl hK;rw[show Value.ren π (.bool true)= .bool true by simp];exact⟨⟨_,_,_,[],_,[],hW',trodAll_mk1 (shut_bool Tryz.underlying4 _),(trodAll_cons_mk (EB ID (by kernel_rfl) (of_decide_eq_true (by kernel_rfl)) k0 hb lt0) trodAll_mk0),rfl,CG (W:=W) (w':={w' with os:=W.os}) rfl hout hb _,fun h=>by cases h⟩,hos⟩
theorem kept_said:Rows.KeptSaid:=
 OpenClaim.holds_of_wide_leaving_time 6 Tryz.f6 rfl rfl rfl rfl rfl rfl rfl ⟨rfl,rfl,rfl,rfl,rfl⟩ rfl rfl rfl rfl rfl (by kernel_rfl) Tryz.func6 (by kernel_rfl)
  (of_decide_eq_true (by kernel_rfl)) (by unfold Func.isWrapper;first|(rw[if_pos (by decide+kernel)];kernel_rfl)|(rw[if_neg (by decide+kernel)];exact⟨rfl,rfl⟩))
  (fun os started H enc _ F=>CE os started H enc F)
end
end
end Go.Proofs.YtchcmhodnkgojaaGreat
