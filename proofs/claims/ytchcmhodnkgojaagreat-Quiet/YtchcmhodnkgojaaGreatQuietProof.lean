/- Quiet is true at every input: a Sync behind a Sync does nothing, nor does a Recover: the given statement Rows.QuietSaid, with no condition beside the row's own. -/
import Derived.Test.YtchcmhodnkgojaaGreatPart11
import Derived.Conc.HoldsTime
import Derived.Leaving
import Derived.ProofKit
import Derived.Carry
import Derived.Deep.Slices
import Derived.Lib.SmallJoins
set_option linter.all false
set_option maxRecDepth 100000
set_option maxHeartbeats 8000000
namespace Go.Proofs.YtchcmhodnkgojaaGreat
noncomputable section
section
open Go.RowKit Go.Lib
theorem u9:37<aK 200:=by decide
section
variable {L:List UInt8}{n:Nat}{H:bP}
theorem zl (h:Has L n H)(h7:dW H)(s:Nat)(p c:List UInt8)(hp:p∈P7)(a:Int):(DS.calm L a).ql n s (aB p) (aB c)=(DS.calm L a).put n s (aB p) (aB c):=by
 obtain⟨m,hr,hm⟩:=h;have hm7:=h7.slots hm;have Mm:=lq (x:=DS.calm L a) hr rfl hm7;unfold DS.ql;rw[show(DS.calm L a).failed=false from rfl,Mm];simp only[Bool.false_eq_true,if_false];rw[if_neg];refine Nat.not_lt.2 (JE _ fun f hf _=>?_);rcases List.mem_append.1 hf with hf|hf
 .rw[ph (x:=DS.calm L a) hr rfl] at hf
  exact(hm7.files hr f hf).2
 .obtain rfl:=List.mem_singleton.1 hf
  exact hp
theorem qU (h:Has L n H)(h7:dW H)(s:Nat)(p:ByteArray)(a:Int):(DS.calm L a).gj n s p=(DS.calm L a).remove n s p:=by
 obtain⟨m,hr,hm⟩:=h;have Mm:=lq (x:=DS.calm L a) hr rfl (h7.slots hm);unfold DS.gj;rw[show(DS.calm L a).failed=false from rfl,Mm];simp only[Bool.false_eq_true,if_false]
theorem A1 (h:Has L n H)(s:Nat)(p:List UInt8)(hs:H s p=none)(a:Int):(DS.calm L a).remove n s (aB p)=(DS.calm L a,.int .i64 5):=by
 obtain⟨m,hr,hm⟩:=h;have hh:=hm s p;rw[hs] at hh;exact CD n s (aB p) (DS.calm L a) (qr (x:=DS.calm L a) hr rfl s p hh)
theorem dW.set {H:bP}(h:dW H){s:Nat}{p:List UInt8}(hs:s<=2/\p∈P7)(r:Option (List UInt8)):dW (fy H s p r):=fun s' p' hn=>by
 unfold fy at hn;split at hn
 .rename_i e;rw[e.1,e.2];exact hs
 .exact h s' p' hn
def zX (H:bP)(k sd pt:Int)(ct:ByteArray):bP×Int:=
 if br k 4=2 then(if H (br sd 2) (cB (br pt 7))=none then(H,5) else(fy H (br sd 2) (cB (br pt 7)) none,0))
 else(fy H (br sd 2) (cB (br pt 7)) (some (dg ct).data.toList),0)
theorem JO (h:Has L n H)(h7:dW H)(hn:37<aK n)(k sd pt:Int)(ct:ByteArray):
  ∃L' N,Has L' n (zX H k sd pt ct).1/\dW (zX H k sd pt ct).1/\(0:Int)<=N/\N<=5/\∀a,(DS.calm L a).act n k sd pt ct=(DS.calm L' (a+N),.int .i64 (zX H k sd pt ct).2):=by
 have hs:=oA sd 2;have hp:=oA pt 7;have hcl:=DD ct;have hpm:=IN (br pt 7) hp;have hsp:br sd 2<=2/\cB (br pt 7)∈P7:=⟨by omega,hpm⟩
 unfold zX DS.act
 by_cases hk:br k 4=2
 .simp only[if_pos hk]
  by_cases hx:H (br sd 2) (cB (br pt 7))=none
  .simp only[if_pos hx]
   refine⟨L,0,h,h7,by omega,by omega,fun a=>?_⟩;rw[qU h h7,<-kX,A1 h _ _ hx,Int.add_zero]
  .simp only[if_neg hx]
   obtain⟨L',q1,q2⟩:=qw h _ _ hx;refine⟨L',2,q1,h7.set hsp _,by omega,by omega,fun a=>?_⟩;rw[qU h h7,<-kX,q2]
 .simp only[if_neg hk]
  obtain⟨L',q1,q2⟩:=vl h h7.eight (by omega) (br sd 2) (cB (br pt 7)) _ (Bn (by omega) hpm) hcl;refine⟨L',5,q1,h7.set hsp _,by omega,by omega,fun a=>?_⟩;have hb:aB (dg ct).data.toList=dg ct:=by simp[aB]
  have:=zl h h7 (br sd 2) (cB (br pt 7)) (dg ct).data.toList hpm a;rw[hb,kX] at this;rw[this];have q:=q2 a;rw[hb,kX] at q;exact q
end
def sr (H:bP):List (List UInt8):=@dite _ (∃ps,fq H ps) (Classical.propDecidable _) (fun h=>h.choose) fun _=>[]
theorem DN {H:bP}{ps:List (List UInt8)}(h:fq H ps):sr H=ps:=by
 unfold sr;rw[dif_pos ⟨ps,h⟩];exact(Exists.choose_spec (⟨ps,h⟩:∃ps,fq H ps)).uniq h
def vM (L:List UInt8)(H:bP):List UInt8×Int:=(((DS.calm L 0).xE 200 (fg H (sr H))).1.aS,((DS.calm L 0).xE 200 (fg H (sr H))).1.acts)
def FW (L:List UInt8)(H:bP)(k sd pt:Int)(ct:ByteArray):List UInt8×Int:=
 if br k 4=3 then vM L H else(((DS.calm L 0).act 200 k sd pt ct).1.aS,((DS.calm L 0).act 200 k sd pt ct).1.acts)
theorem BN {L L':List UInt8}{H:bP}{k:Int}{ps:List (List UInt8)}{v:Value}(hP:fq H ps)(h:∀a,(DS.calm L a).xE 200 (fg H ps)=(DS.calm L' (a+k),v)):vM L H=(L',k):=by
 unfold vM;rw[DN hP,h 0,Int.zero_add];rfl
structure bX (w:World)(F:List Nat)(s d:Nat)(L:List UInt8)(a:Int)(H:bP):Prop where
 store:aP w F s d 200 (DS.calm L a)
 has:Has L 200 H
 seven:dW H
 lo:0<=a
section
variable {w w' wL:World}{F:List Nat}{s d:Nat}{L:List UInt8}{a:Int}{H:bP}
theorem bX.ay (h:bX w F s d L a H)(t:Go.Proofs.YtchcmhodnkgojaaGreat.d7)(k:Nat):bX (ay w t k) F s d L a H:=⟨h.store.ay t k,h.has,h.seven,h.lo⟩
theorem bX.new (h:bX w F s d L a H)(f:aO [] w w'):bX w' F s d L a H:=⟨h.store.new f,h.has,h.seven,h.lo⟩
theorem bX.ok (h:bX w F s d L a H)(ha:a<=900000000):Bl (DS.calm L a) 200:=OW h.has h.seven u9 a h.lo ha
theorem bX.synced (h:bX wL F s d L a H){v:Value}(hR:uz F s d 200 (DS.calm L a) wL v w'):
  ∃ps cv F' L' k,v= .tuple #[.agg #[.int .i64 (fg H ps).length,cv],.int .i64 0]/\fq H ps/\bX w' F' s d L' (a+k) (bu H)/\ci F F' wL/\eO F wL w'/\(0:Int)<=k/\k<=80/\(fg H ps=[]->L'=L/\k=0)/\
   w'.ownsRow wL.heap.size 9 1 cv (d9 H ps).length (dj (d9 H ps))/\(∀g,cv.ownBlock=some g->g∉F')/\vM L H=(L',k):=by
 have hm:=CX h.has h.seven a;rcases hR with⟨h1,_⟩|⟨_,ps,F',hP,hS,hG,hB,hv⟩
 .exact absurd hm h1
 .have SW:=sU (x:=DS.calm L a) h.has rfl hP
  obtain⟨e1,e2⟩:=sL (x:=DS.calm L a) h.has rfl ps;obtain⟨L',k,q1,q2,q3,q4,q5,q6⟩:=zd h.has h.seven u9 SW;rw[e1,q5 a] at hS;rw[e1,e2,q5 a] at hv;rcases hv with⟨cv,_,rfl,h7,h8⟩|⟨e,h6,h7,_⟩
  .exact⟨ps,cv,F',L',k,rfl,SW,⟨hS,q1,q2,by have:=h.lo;omega⟩,hG,hB,q3,q4,q6,h7,h8,BN SW q5⟩
  .cases h7;exact absurd rfl h6
theorem bX.OX (h:bX wL F s d L a H){e:Int}(hR:jd F s d 200 (DS.calm L a) wL e w'):e=0/\∃F' L' k,bX w' F' s d L' (a+k) (bu H)/\ci F F' wL/\eO F wL w'/\(0:Int)<=k/\k<=80/\vM L H=(L',k):=by
 have hm:=CX h.has h.seven a;rcases hR with⟨h1,_⟩|⟨_,ps,F',hP,hS,hG,hB,hv⟩
 .exact absurd hm h1
 .have SW:=sU (x:=DS.calm L a) h.has rfl hP
  obtain⟨e1,e2⟩:=sL (x:=DS.calm L a) h.has rfl ps;obtain⟨L',k,q1,q2,q3,q4,q5,q6⟩:=zd h.has h.seven u9 SW;rw[e1,q5 a] at hS hv;cases hv;exact⟨rfl,F',L',k,⟨hS,q1,q2,by have:=h.lo;omega⟩,hG,hB,q3,q4,BN SW q5⟩
def yW (H:bP)(k sd pt:Int)(ct:ByteArray):bP×Int:=if br k 4=3 then(bu H,0) else zX H k sd pt ct
theorem Oe (H:bP)(k sd pt:Int)(ct:ByteArray):(yW H k sd pt ct).2=0\/(yW H k sd pt ct).2=5:=by
 unfold yW zX;split
 .exact .inl rfl
 .split
  .split
   .exact .inr rfl
   .exact .inl rfl
  .exact .inl rfl
theorem bX.jk (h:bX wL F s d L a H){k sd pt:Int}{ct:ByteArray}{v:Value}(hR:Sc F s d 200 (DS.calm L a) k sd pt ct wL v w'):
  v= .int .i64 (yW H k sd pt ct).2/\∃F' L' N,bX w' F' s d L' (a+N) (yW H k sd pt ct).1/\ci F F' wL/\eO F wL w'/\(0:Int)<=N/\N<=80/\FW L H k sd pt ct=(L',N):=by
 rcases hR with⟨h3,rfl,F',h4,h5,h6⟩|⟨h3,e,rfl,hE⟩
 .unfold yW
  rw[if_neg h3];obtain⟨L',N,q1,q2,q3,q4,q5⟩:=JO h.has h.seven u9 k sd pt ct;have hL:FW L H k sd pt ct=(L',N):=by
   unfold FW;rw[if_neg h3,q5 0,Int.zero_add];rfl
  rw[q5 a] at h4⊢;exact⟨rfl,F',L',N,⟨h4,q1,q2,by have:=h.lo;omega⟩,h5,h6,q3,by omega,hL⟩
 .unfold yW
  rw[if_pos h3];obtain⟨rfl,F',L',N,q1,q2,q3,q4,q5,q6⟩:=h.OX hE;exact⟨rfl,F',L',N,q1,q2,q3,q4,q5,by unfold FW;rw[if_pos h3];exact q6⟩
end
def H0:bP:=fun _ _=>none
theorem tb (n:Nat)(h:16<=n):Has (fl n) n H0:=⟨_,ID n h,fun _ _ i f hf=>by cases hf⟩
def H1:bP:=fy H0 0 [97] (some [102,105,114,115,116])
theorem Tj:([97]:List UInt8)∈P7:=wV.2 ⟨0,by omega,by decide⟩
theorem As:dW H0:=fun _ _ h=>absurd rfl h
theorem TZ:dW H1:=As.set ⟨by omega,Tj⟩ _
theorem TO {ps:List (List UInt8)}(h:fq H1 ps):fg H1 ps=[([97],0)]:=by
 have hmem:∀l,l∈ps↔l=[97]:=fun l=>by
  rw[h.2];unfold H1 fy H0
  by_cases e:l=[97]<;>simp[e]
 have hps:ps=[[97]]:=by
  cases ps with
  |nil=>exact absurd ((hmem [97]).2 rfl) (by simp)
  |cons p r=>
   have hp:=(hmem p).1 (by simp);subst hp;cases r with
   |nil=>rfl
   |cons q r=>
    have hq:=(hmem q).1 (by simp);subst hq;have:=(List.pairwise_cons.1 h.1).1 [97] (by simp);exact absurd this (List.lt_irrefl _)
 rw[hps];rfl
abbrev St:=List UInt8×Int×bP
def A6:List UInt8:=((DS.calm (fl 200) 0).put 200 0 ⟨#[97]⟩ (aB [102,105,114,115,116])).1.aS
def st0:St:=((vM A6 H1).1,5+(vM A6 H1).2,bu H1)
def nxt (st:St)(y:pK):St:=((FW st.1 st.2.2 y.kind y.side y.path y.content).1,st.2.1+(FW st.1 st.2.2 y.kind y.side y.path y.content).2,(yW st.2.2 y.kind y.side y.path y.content).1)
def zr (l:List pK):St:=l.foldl nxt st0
theorem ED {l:List pK}{k:Nat}{L L':List UInt8}{a N:Int}{H:bP}(hk:k<l.length)(h:zr (l.take k)=(L,a,H))(hN:FW L H l[k].kind l[k].side l[k].path l[k].content=(L',N)):
  zr (l.take (k+1))=(L',a+N,(yW H l[k].kind l[k].side l[k].path l[k].content).1):=by
 unfold zr at h⊢;rw[List.take_succ_eq_append_getElem hk,List.foldl_append,h];simp only[List.foldl_cons,List.foldl_nil,nxt,hN]
theorem aag:bu H1 1 [97]=some [102,105,114,115,116]:=by decide
end
section
open Go.RowKit Go.Lib Go.Sort
def YZ (l:List pK)(wL:World)(v:Value)(w':World):Prop:=∃s d F L a H,v= .pointer (some ⟨s,0,none⟩)/\bX w' F s d L a H/\ci [] F wL/\eO [] wL w'/\wL.heap.size<=s/\a<=30000/\zr (l.take 300)=(L,a,H)
def tB (sl:Value)(s k:Nat)(u:Nat->Value):Act:={tmps:=#[sl,u 1,u 2,.pointer (some ⟨s,0,none⟩),u 4,u 5,u 6,u 7,u 8,u 9,.int .i64 k,u 11,u 12,u 13,u 14,u 15,u 16,u 17,u 18,u 19,u 20,u 21,u 22,u 23,u 24,u 25,u 26,u 27,u 28,u 29,u 30,u 31,u 32,u 33,u 34,u 35,u 36,u 37,u 38,u 39,u 40,u 41,u 42,u 43,u 44,u 45,u 46,u 47,u 48,u 49,u 50,u 51,u 52,u 53,u 54,u 55,u 56,u 57,u 58,u 59,u 60,u 61,u 62,u 63,u 64,u 65,u 66,u 67,u 68,u 69,u 70,u 71,u 72,u 73,u 74],defers:=[]}
theorem ci.nil {F:List Nat}{w:World}(g:ci [] F w)(hG:pJ w):0∉F:=g.zero hG (by simp)
theorem oG {F:List Nat}{w wa wb:World}(g:ci [] F w)(hB:eO F wa wb)(hA:eO [] w wa):eO [] w wb:=(hA.trans hB fun i hi=>(g i hi).imp (by simp) id)
end
section
open Go.Conc
namespace az
section
variable (Ok:Env)(r:Nat)
def e9 (f:FuncId)(D:k6)(t:List Item)(R:Act->World->Prop)(a:Act)(wL:World):Prop:=
 ∀(CS:List Frame) (π:Nat->Nat) (M:Machine) (tr:Trace),Bm Ok π wL M tr (G ((base f).at (bg π a D) t) CS)->VA Ok.H wL a.tmps->a.defers=[]->
  (∀(a':Act) (D':k6) (bG:World) (co:Nat->Nat) (M':Machine) (j3:Trace) (todo:List Item),r∉sl D'->(∃t d,R a' (ay bG t d))->Bm Ok co bG M' j3 (G {(base f).at (bg co a' D') todo with mode:= .returning} CS)->
   VA Ok.H bG a'.tmps->a'.defers=[]->(∀b,b<wL.heap.size->co b=π b)->wL.heap.size<=bG.heap.size->Ok.Ok M' j3)->Ok.Ok M tr
end
section
variable {Ok:Env}{r:Nat}{f:FuncId}{D:k6}{k t:List Item}{R:Act->World->Prop}{a:Act}{wL:World}
theorem jc (t':d7)(d:Nat):e9 Ok r f D t R a (ay wL t' d)↔e9 Ok r f D t R a wL:=
 ⟨fun h CS π M tr hp=>h CS π M tr ((Bm.ay t' d).2 hp),fun h CS π M tr hp=>h CS π M tr ((Bm.ay t' d).1 hp)⟩
theorem ib {t':List Item}(hs:∀(b:Act) (CS:List Frame) (w:World),(∀x,iT (sl D) x=true->a.eval x= .bool true->b.eval x= .bool true)->(∀x,iT (sl D) x=true->a.eval x= .bool false->b.eval x= .bool false)->stepG PP true (G ((base f).at b t) CS) w= .go (G ((base f).at b t') CS) w)
  (h:e9 Ok r f D t' R a wL):e9 Ok r f D t R a wL:=fun CS π M tr hp ha hd hk=>by
 have ev:∀(x:Operand) (t:Bool),iT (sl D) x=true->a.eval x= .bool t->(bg π a D).eval x= .bool t:=fun x t ho hx=>by
  cases x with
  |tmp i=>
   show(wO D (a.tmps.map (Value.ren π))).getD i undef=_;rw[Array.getD_eq_getD_getElem?,rH D _ i (Gz ho),<-Array.getD_eq_getD_getElem?,jO,show a.tmps.getD i undef=_ from hx];simp
  |const v=>exact hx
  |global g=>cases hx
  |func f=>cases hx
 exact eA hp (hs _ _ · (fun x ho=>ev x true ho) fun x ho=>ev x false ho) fun M' j3 hp'=>h CS π M' j3 hp' ha hd hk
theorem dY {x y:Code}(h:e9 Ok r f D (.code x::.code y::k) R a wL):e9 Ok r f D (.code (.seq x y)::k) R a wL:=ib (fun _ _ _ _ _=>stepG_seq) h
theorem zW {id:Nat}{c:Code}(h:e9 Ok r f D (.code c::.inBlock id::k) R a wL):e9 Ok r f D (.code (.block id c)::k) R a wL:=ib (fun _ _ _ _ _=>stepG_block) h
theorem DK {id:Nat}(h:e9 Ok r f D k R a wL):e9 Ok r f D (.inBlock id::k) R a wL:=ib (fun _ _ _ _ _=>stepG_inBlock) h
theorem NI {c:Code}(h:e9 Ok r f D (.code c::.inLoop c::k) R a wL):e9 Ok r f D (.code (.loop c)::k) R a wL:=ib (fun _ _ _ _ _=>stepG_loop) h
theorem FD {c:Code}(h:e9 Ok r f D (.code c::.inLoop c::k) R a wL):e9 Ok r f D (.inLoop c::k) R a wL:=ib (fun _ _ _ _ _=>stepG_inLoop) h
theorem NE (h:e9 Ok r f D k R a wL):e9 Ok r f D (.code .skip::k) R a wL:=ib (fun _ _ _ _ _=>stepG_skip) h
theorem DL {id:Nat}{k':List Item}(he:exitTo id k=some k')(h:e9 Ok r f D k' R a wL):e9 Ok r f D (.code (.exit id)::k) R a wL:=ib (fun _ _ _ _ _=>stepG_exit he) h
theorem xO {x:Operand}{p q:Code}{b:Bool}(hx:a.eval x= .bool b)(ho:iT (sl D) x=true)(h:e9 Ok r f D (.code (if b then p else q)::k) R a wL):e9 Ok r f D (.code (.cond x p q)::k) R a wL:=by
 refine ib (fun b' CS w h1 h2=>?_) h;cases b with
 |true=>exact stepG_cond (h1 x ho hx)
 |false=>exact stepG_cond (h2 x ho hx)
theorem jB {id:Nat}{ops:Array Oper}(h:e9 Ok r f D (.inRegion ops (List.range ops.size)::k) R a wL):e9 Ok r f D (.code (.region id ops false)::k) R a wL:=ib (fun _ _ _ _ _=>stepG_region) h
theorem fT {ops:Array Oper}(h:e9 Ok r f D k R a wL):e9 Ok r f D (.inRegion ops []::k) R a wL:=ib (fun _ _ _ _ _=>stepG_region_end) h
def x5 (Ok:Env)(r:Nat)(fV:Option Nat)(f:FuncId)(D:k6)(k:List Item)(R:Act->World->Prop):Exit->Act->World->Prop
 |.normal,a,w=>e9 Ok r f D k R a w
 |.exit id,a,w=>fV=some id/\∃k',exitTo id k=some k'/\e9 Ok r f D k' R a w
 |.ret,a,w=>∃t d,R a (ay w t d)
 |_,_,_=>False
theorem EL {fV:Option Nat}:QOk fV (x5 Ok r fV f D k R) where
 tape:=fun e a w t d=>by
  cases e with
  |normal=>exact jc t d
  |exit id=>exact and_congr Iff.rfl (exists_congr fun k'=>and_congr Iff.rfl (jc t d))
  |ret=>exact Iff.rfl
  |_=>exact Iff.rfl
 out:=fun e a w h=>by
  cases e with
  |normal=>exact .inl rfl
  |ret=>exact .inr (.inl rfl)
  |exit id=>exact .inr (.inr ⟨id,rfl,h.1⟩)
  |_=>exact h.elim
theorem DJ {t0:List Item}(fV:Option Nat)(hr:r∉sl D)(h0:∃fn,PP.funcs[f]? =some fn)(Br:∀it∈t0,cg (sl D) PP S0 E0 true it=true)(hx:∀id,fV=some id->∃y,exitTo id k=some y)
  (hwp:∀t d,WpT PP t0 (x5 Ok r fV f D k R) a (ay wL t d)):e9 Ok r f D (t0++k) R a wL:=fun CS π M tr hp ha hd hk=>by
 refine kr hp (fun own w hl=>L8 BW (fun _ _ h=>h) h0 xh EL (B:=base f) (D0:=D) (CS:=CS) (kT:=k) rfl (by simp[base]) hx Br hl ha hd hwp) ?_;rintro Dead s g w M' j3 hz ⟨e,a',bG,co,q,hl,hd',ha',hg,hag,hsz⟩ hs;have go:∀k',g=G ((base f).at (bg co a' D) k') CS->e9 Ok r f D k' R a' bG->Ok.Ok M' j3:=fun k' e h=>
  h CS co M' j3 ⟨Dead,s,w,e▸hz,hl,hs⟩ ha' hd' fun a2 D2 BE uF M2 BJ todo r2 rr p v d g2 z=>hk a2 D2 BE uF M2 BJ todo r2 rr p v d (fun b hb=>(g2 b (Nat.lt_of_lt_of_le hb hsz)).trans (hag b hb)) (Nat.le_trans hsz z)
 cases e with
 |normal=>exact go k hg q
 |exit id=>
  obtain⟨_,k',h1,h2⟩:=q;obtain⟨y,h3,h4⟩:=hg;rw[h1] at h3;cases h3;exact go k' h4 h2
 |ret=>
  obtain⟨todo,rfl⟩:=hg;exact hk a' D bG co M' j3 todo hr q ⟨Dead,s,w,hz,hl,hs⟩ ha' hd' hag hsz
 |_=>exact q.elim
theorem eg {cd:Code}(fV:Option Nat)(hr:r∉sl D)(h0:∃fn,PP.funcs[f]? =some fn)(Br:eR (sl D) PP S0 E0 true cd=true)(hx:∀id,fV=some id->∃y,exitTo id k=some y)
  (I:World->Prop) (hb:∀w t d,I w->I (ay w t d)) (hI:I wL) (hwp:∀w,I w->w.heap.size=wL.heap.size->cd.wp PP (x5 Ok r fV f D k R) a w):e9 Ok r f D (.code cd::k) R a wL:=
 DJ (t0:=[.code cd]) fV hr h0 (fun it hit=>by simp at hit;subst hit;exact Br) hx fun t d=>hwp _ (hb _ t d hI) rfl
theorem vr {ops:Array Oper}{i:Nat}{rest:List Nat}{o:Oper}(ho:ops[i]? =some o)(sD:eH (sl D) PP S0 E0 true o=true)(hw:∀π,Region.wanted o (yielded ops (bg π a D).tmps)=true)
  (h:∀t d,uponE o a (fun a' w'=>e9 Ok r f D (.inRegion ops rest::k) R a' w') (fun _ _ _=>False) ((execOp a.eval o).run PP (ay wL t d))):e9 Ok r f D (.inRegion ops (i::rest)::k) R a wL:=fun CS π M tr hp ha hd hk=>by
 have hkb:(base f).kind≠.early:=by simp[base]
 obtain⟨_,_,hdst⟩:=kI sD;refine kr (Stop:=fun s g w=>∃a' bG co,e9 Ok r f D (.inRegion ops rest::k) R a' bG/\g=G ((base f).at (bg co a' D) (.inRegion ops rest::k)) CS/\Link Ok.H no s no co bG w/\VA Ok.H bG a'.tmps/\a'.defers=[]/\(∀b,b<wL.heap.size->co b=π b)/\wL.heap.size<=bG.heap.size) hp (fun own w hl=>?_) ?_
 .refine aD.step rfl fun w₁ hR=>?_
  obtain⟨r1,r2,r3⟩:=xh.rel own w w₁ hR;obtain⟨co,hl',GO,hag⟩:=hl.rely r1 r2 r3;have hl1:LW Ok.H no (ay wL w₁.tape w₁.drawn):=hl'.lw.ay _ _;have eπ:bg π a D=bg co a D:=kq ha (fun b hb=>(GO b hb).symm) D;have h1:=h w₁.tape w₁.drawn
  have both:=fun {x bG} (hr:(execOp a.eval o).run PP (ay wL w₁.tape w₁.drawn)= .ok x bG)=>nn BW hl'.inj hl'.zero (fun _ _ h=>h) hl1 hl'.wr D ha sD hr fun i _=>hag i
  cases hr:(execOp a.eval o).run PP (ay wL w₁.tape w₁.drawn) with
  |halt hh u=>rw[hr] at h1;exact h1.elim
  |ok nx u=>
   rw[hr] at h1;obtain⟨l1,l2,x',w',e1,e2,e3,e4,e5,e6⟩:=both hr;obtain⟨o1,o2⟩:=hl'.rF (fun i _=>hag i) l1 l2 e3 e4 (fun e he=>e5 e (mem_listed (fn:=(base f).fn) he))
   have fin:∀v:Value,e9 Ok r f D (.inRegion ops rest::k) R (a.put o.dst v) u->VV (gB Ok.H u) v->aD PP true k7 (fun s g w=>∃a' bG co,e9 Ok r f D (.inRegion ops rest::k) R a' bG/\g=G ((base f).at (bg co a' D) (.inRegion ops rest::k)) CS/\Link Ok.H no s no co bG w/\VA Ok.H bG a'.tmps/\a'.defers=[]/\(∀b,b<wL.heap.size->co b=π b)/\wL.heap.size<=bG.heap.size)
     (k7.up own w₁ w') (G ((base f).at (bg co (a.put o.dst v) D) (.inRegion ops rest::k)) CS) w':=fun v hc hv=>
    .stop fun w₂ ⟨d,e⟩=>⟨_,u,co,hc,rfl,by rw[e];exact(o2 _ fun b=>Iff.rfl).at d,ju (VA.grow ha l2) hv,(put_defers _ _ _).trans hd,fun b hb=>(GO b hb).symm,l2⟩
   cases nx with
   |value v=>
    cases e2;refine⟨_,w',_,by rw[eπ];exact stepG_value ho (hw _) hkb e1,o1,?_⟩;rw[ii _ _ _ _ hdst];exact fin v h1 e6
   |skip=>
    cases e2;refine⟨_,w',_,by rw[eπ];exact stepG_none ho (hw _) hkb e1,o1,?_⟩;have e:(bg co a D).put o.dst undef=bg co (a.put o.dst undef) D:=by
     have:=ii (π:=co) a D o.dst undef hdst
     rwa [show Value.ren co undef=undef by simp[undef]] at this
    rw[e];exact fin undef h1 gV
   |_=>exact h1.elim
 .rintro Dead s g w M' j3 hz ⟨a',bG,co,hc,rfl,hl,ha',hd',hag,hsz⟩ hs
  exact hc CS co M' j3 ⟨Dead,s,w,hz,hl,hs⟩ ha' hd' fun a2 D2 BE uF M2 BJ todo r2 rr p v d g2 z=>hk a2 D2 BE uF M2 BJ todo r2 rr p v d (fun b hb=>(g2 b (Nat.lt_of_lt_of_le hb hsz)).trans (hag b hb)) (Nat.le_trans hsz z)
theorem NH {ops:Array Oper}{i:Nat}{rest:List Nat}{o:Oper}(ho:ops[i]? =some o)(sD:eH (sl D) PP S0 E0 true o=true)(hg:o.guard=none)
  (h:∀t d,uponE o a (fun a' w'=>e9 Ok r f D (.inRegion ops rest::k) R a' w') (fun _ _ _=>False) ((execOp a.eval o).run PP (ay wL t d))):e9 Ok r f D (.inRegion ops (i::rest)::k) R a wL:=
 vr ho sD (fun π=>by simp[Region.wanted,hg]) h
theorem G8 {ops:Array Oper}{i:Nat}{rest:List Nat}{o:Oper}(ho:ops[i]? =some o)(hdst:∀t,o.dst=some t->t∉sl D)(hw:∀π,Region.wanted o (yielded ops (bg π a D).tmps)=false)
  (h:e9 Ok r f D (.inRegion ops rest::k) R (a.put o.dst undef) wL):e9 Ok r f D (.inRegion ops (i::rest)::k) R a wL:=fun CS π M tr hp ha hd hk=>by
 refine eA hp (fun w=>stepG_unwanted ho (hw π)) fun M1 Hz hp1=>?_
 have e:=ii (π:=π) a D o.dst undef hdst;rw[show Value.ren π undef=undef by simp[undef]] at e;rw[e] at hp1;exact h CS π M1 Hz hp1 (ju ha gV) ((put_defers _ _ _).trans hd) hk
theorem JJ {ops:Array Oper}{i:Nat}{rest:List Nat}{o:Oper}(v:Value)(hv:∀r,¬Value.Has r v)(ho:ops[i]? =some o)(hg:o.guard=none)(hdst:∀t,o.dst=some t->t∉sl D)
  (hrun:∀(π:Nat->Nat) (w:World),(execOp (bg π a D).eval o).runT PP w #[]=(.ok (.value v) w,#[])) (h:e9 Ok r f D (.inRegion ops rest::k) R (a.put o.dst v) wL):e9 Ok r f D (.inRegion ops (i::rest)::k) R a wL:=fun CS π M tr hp ha hd hk=>by
 have hwd:∀c:Array Value,Region.wanted o (yielded ops c)=true:=fun c=>by simp[Region.wanted,hg]
 have hkb:(base f).kind≠.early:=by simp[base]
 have hl0:∀w,listed PP (base f).fn (bg π a D) o w=#[]:=fun w=>by
  unfold listed;rw[show(execOp (bg π a D).eval o).events PP w #[]=#[] from congrArg Prod.snd (hrun π w)];simp[seen]
 refine eA hp (fun w=>by rw[stepG_value ho (hwd _) hkb (by rw[<-Sem.runT_fst PP _ w #[],hrun]),hl0]) fun M1 Hz hp1=>?_
 have e:=ii (π:=π) a D o.dst v hdst;rw[eT v fun r hr=>absurd hr (hv r)] at e;rw[e] at hp1;exact h CS π M1 Hz hp1 (ju ha fun r hr=>absurd hr (hv r)) ((put_defers _ _ _).trans hd) hk
def Iv:k6->Nat->Value->k6
 |[],_,_=>[]
 |p::D,d,v=>if p.1=d then(d,v)::D else p::Iv D d v
theorem CU:∀(D:k6) (d:Nat) (v:Value) (c:Array Value),(sl D).Nodup->d∈sl D->(wO D c).setIfInBounds d v=wO (Iv D d v) c
 |[],_,_,_,_,h=>by simp[sl] at h
 |p::D,d,v,c,hn,h=>by
  simp only[sl,List.map_cons,List.nodup_cons] at hn;unfold Iv;split
  .rename_i e
   show(wO D (c.setIfInBounds p.1 p.2)).setIfInBounds d v=wO D (c.setIfInBounds d v);have hd:d∉sl D:=e▸hn.1;rw[AL D _ d v hd,e]
   congr 1
   simp
  .rename_i e
   have hd:d∈sl D:=by
    simp only[sl,List.map_cons,List.mem_cons] at h;exact h.resolve_left fun q=>e q.symm
   exact CU D d v (c.setIfInBounds p.1 p.2) hn.2 hd
theorem NF {ops:Array Oper}{i:Nat}{rest:List Nat}{o:Oper}(d:Nat)(v:Value)(ho:ops[i]? =some o)(hwd:∀π,Region.wanted o (yielded ops (bg π a D).tmps)=true)(hdst:o.dst=some d)(hn:(sl D).Nodup)(hmem:d∈sl D)
  (hrun:∀(π:Nat->Nat) (w:World),(execOp (bg π a D).eval o).runT PP w #[]=(.ok (.value v) w,#[])) (h:e9 Ok r f (Iv D d v) (.inRegion ops rest::k) R a wL):e9 Ok r f D (.inRegion ops (i::rest)::k) R a wL:=fun CS π M tr hp ha hd hk=>by
 have hkb:(base f).kind≠.early:=by simp[base]
 have hl0:∀w,listed PP (base f).fn (bg π a D) o w=#[]:=fun w=>by
  unfold listed;rw[show(execOp (bg π a D).eval o).events PP w #[]=#[] from congrArg Prod.snd (hrun π w)];simp[seen]
 refine eA hp (fun w=>by rw[stepG_value ho (hwd π) hkb (by rw[<-Sem.runT_fst PP _ w #[],hrun]),hl0]) fun M1 Hz hp1=>?_
 have e:(bg π a D).put o.dst v=bg π a (Iv D d v):=by
  rw[hdst];simp only[Act.put,bg];rw[CU D d v _ hn hmem]
 rw[e] at hp1;exact h CS π M1 Hz hp1 ha hd hk
theorem vq {ops:Array Oper}{i:Nat}{rest:List Nat}{o:Oper}(d:Nat)(v:Value)(ho:ops[i]? =some o)(hg:o.guard=none)(hdst:o.dst=some d)(hn:(sl D).Nodup)(hmem:d∈sl D)
  (hrun:∀(π:Nat->Nat) (w:World),(execOp (bg π a D).eval o).runT PP w #[]=(.ok (.value v) w,#[])) (h:e9 Ok r f (Iv D d v) (.inRegion ops rest::k) R a wL):e9 Ok r f D (.inRegion ops (i::rest)::k) R a wL:=
 NF d v ho (fun π=>by simp[Region.wanted,hg]) hdst hn hmem hrun h
theorem sn {ops:Array Oper}{i:Nat}{rest:List Nat}{o:Oper}{f2:FuncId}(xs:Array Operand)(args:Array Value){R2:Value->World->Prop}(ho:ops[i]? =some o)(hg:o.guard=none)(hxs:xs.all nB=true)(hoff:xs.all (iT (sl D))=true)(hdst:∀t,o.dst=some t->t∉sl D)
  (hrun:∀(b:Act) (w:World),(execOp b.eval o).runT PP w #[]=(.ok (.enter f2 (xs.map b.eval)) w,#[])) (hargs:xs.map a.eval=args) (hcc:CC Ok f2 args R2 wL)
  (h:∀v w',R2 v w'->wL.heap.size<=w'.heap.size->e9 Ok r f D (.inRegion ops rest::k) R (a.put o.dst v) w'):e9 Ok r f D (.inRegion ops (i::rest)::k) R a wL:=fun CS π M tr hp ha hd hk=>by
 subst hargs;have hwd:∀c:Array Value,Region.wanted o (yielded ops c)=true:=fun c=>by simp[Region.wanted,hg]
 have hkb:(base f).kind≠.early:=by simp[base]
 have hev:xs.map (bg π a D).eval=(xs.map a.eval).map (Value.ren π):=by
  rw[Array.map_map];exact Array.map_congr_left fun x hx=>kU a D (Array.all_eq_true_iff_forall_mem.1 hxs x hx) (Array.all_eq_true_iff_forall_mem.1 hoff x hx)
 have hr:∀w,(execOp (bg π a D).eval o).run PP w= .ok (.enter f2 ((xs.map a.eval).map (Value.ren π))) w:=fun w=>by rw[<-Sem.runT_fst PP _ w #[],hrun,hev]
 have hl0:∀w,listed PP (base f).fn (bg π a D) o w=#[]:=fun w=>by
  unfold listed;rw[show(execOp (bg π a D).eval o).events PP w #[]=#[] from congrArg Prod.snd (hrun _ w)];simp[seen]
 refine eA hp (fun w=>by rw[stepG_enter ho (hwd _) hkb (hr w),hl0]) fun M1 Hz hp1=>?_
 refine hcc _ CS π M1 Hz hp1 (fun v hv=>?_) fun v bG co M' j3 ⟨t,d,hR⟩ hp' hv hag hsz=>?_
 .obtain⟨x,hx,rfl⟩:=Array.mem_map.1 hv
  exact lC ha (Array.all_eq_true_iff_forall_mem.1 hxs x hx)
 .have hc:e9 Ok r f D (.inRegion ops rest::k) R (a.put o.dst v) bG:=(jc t d).1 (h v _ hR hsz)
  have e:((base f).at (bg π a D) (.inRegion ops (i::rest)::k)).finish (Value.ren co v)=(base f).at (bg co (a.put o.dst v) D) (.inRegion ops rest::k):=by
   rw[Frame.finish_at,ho,Option.bind_some,kq ha hag,ii _ _ _ _ hdst]
  rw[e] at hp';exact hc CS co M' j3 hp' (ju (VA.grow ha hsz) hv) ((put_defers _ _ _).trans hd) fun a2 D2 BE uF M2 BJ todo r2 rr p v d g2 z=>hk a2 D2 BE uF M2 BJ todo r2 rr p v d (fun b hb=>(g2 b (Nat.lt_of_lt_of_le hb hsz)).trans (hag b hb)) (Nat.le_trans hsz z)
def CCt (Ok:Env)(f:FuncId)(targs:Array Value)(R:Value->World->Prop)(wL:World):Prop:=
 ∀(c:Frame) (CS:List Frame) (π:Nat->Nat) (M:Machine) (tr:Trace),Bm Ok π wL M tr (G (Frame.enter PP f targs .normal) (c::CS))->
  (∀(v:Value) (bG:World) (co:Nat->Nat) (M':Machine) (j3:Trace),(∃t d,R v (ay bG t d))->Bm Ok co bG M' j3 (G (c.finish (Value.ren co v)) CS)->VV (gB Ok.H bG) v->
   (∀b,b<wL.heap.size->co b=π b)->wL.heap.size<=bG.heap.size->Ok.Ok M' j3)->Ok.Ok M tr
theorem zM {a:Act}{π:Nat->Nat}{D:k6}{r:Nat}(h:r∉sl D):(bg π a D).tmps.getD r undef=Value.ren π (a.tmps.getD r undef):=by
 show(wO D (a.tmps.map (Value.ren π))).getD r undef=_;rw[Array.getD_eq_getD_getElem?,rH D _ r h,<-Array.getD_eq_getD_getElem?,jO]
theorem FI {fn:Func}{cd:Code}{targs:Array Value}{R2:Value->World->Prop}(a0:Act)(D0:k6)(hf:PP.funcs[f]? =some fn)(hb:fn.body=some cd)(hres:fn.results=#[.tmp r])(ha0:VA Ok.H wL a0.tmps)(hd0:a0.defers=[])
  (he:∀π,bg π a0 D0={tmps:=targs++Array.replicate (fn.ntmps-targs.size) undef,defers:=[]}) (h:e9 Ok r f D0 [.code cd] (fun a w=>R2 (a.tmps.getD r undef) w) a0 wL):CCt Ok f targs R2 wL:=fun c CS π M tr hp hk=>by
 rw[enter_at _ hf hb,<-he π] at hp;refine h (c::CS) π M tr hp ha0 hd0 fun a' D' bG co M' j3 todo hr hR hp' ha' hd' hag hsz=>?_
 have hg:=zM (a:=a') (π:=co) hr;refine eA hp' (fun w=>stepG_leave (b:=base f) (a:=bg co a' D') (todo:=todo) (v:=Value.ren co (a'.tmps.getD r undef)) rfl rfl hf ?_ ?_) fun M2 BJ hp2=>hk _ bG co M2 BJ hR hp2 (lC (x:= .tmp r) ha' rfl) hag hsz
 .rw[results_tmp hres,hg]
 .have e:results fn (bg co a' D').tmps=pure ((bg co a' D').tmps.getD r undef):=by simp[results,hres]
  rw[e];rfl
theorem JK {ops:Array Oper}{i:Nat}{rest:List Nat}{o:Oper}{f2:FuncId}(targs:Array Value){R2:Value->World->Prop}(ho:ops[i]? =some o)(hg:o.guard=none)(hdst:∀t,o.dst=some t->t∉sl D)
  (hrun:∀(π:Nat->Nat) (w:World),(execOp (bg π a D).eval o).runT PP w #[]=(.ok (.enter f2 targs) w,#[])) (hcc:CCt Ok f2 targs R2 wL)
  (h:∀v w',R2 v w'->wL.heap.size<=w'.heap.size->e9 Ok r f D (.inRegion ops rest::k) R (a.put o.dst v) w'):e9 Ok r f D (.inRegion ops (i::rest)::k) R a wL:=fun CS π M tr hp ha hd hk=>by
 have hwd:∀c:Array Value,Region.wanted o (yielded ops c)=true:=fun c=>by simp[Region.wanted,hg]
 have hkb:(base f).kind≠.early:=by simp[base]
 have hr:∀w,(execOp (bg π a D).eval o).run PP w= .ok (.enter f2 targs) w:=fun w=>by rw[<-Sem.runT_fst PP _ w #[],hrun]
 have hl0:∀w,listed PP (base f).fn (bg π a D) o w=#[]:=fun w=>by
  unfold listed;rw[show(execOp (bg π a D).eval o).events PP w #[]=#[] from congrArg Prod.snd (hrun π w)];simp[seen]
 refine eA hp (fun w=>by rw[stepG_enter ho (hwd _) hkb (hr w),hl0]) fun M1 Hz hp1=>?_
 refine hcc _ CS π M1 Hz hp1 fun v bG co M' j3 ⟨t,d,hR⟩ hp' hv hag hsz=>?_
 have hc:e9 Ok r f D (.inRegion ops rest::k) R (a.put o.dst v) bG:=(jc t d).1 (h v _ hR hsz);have e:((base f).at (bg π a D) (.inRegion ops (i::rest)::k)).finish (Value.ren co v)=(base f).at (bg co (a.put o.dst v) D) (.inRegion ops rest::k):=by
  rw[Frame.finish_at,ho,Option.bind_some,kq ha hag,ii _ _ _ _ hdst]
 rw[e] at hp';exact hc CS co M' j3 hp' (ju (VA.grow ha hsz) hv) ((put_defers _ _ _).trans hd) fun a2 D2 BE uF M2 BJ todo r2 rr p v d g2 z=>hk a2 D2 BE uF M2 BJ todo r2 rr p v d (fun b hb=>(g2 b (Nat.lt_of_lt_of_le hb hsz)).trans (hag b hb)) (Nat.le_trans hsz z)
theorem Bd {c:Code}(I:k6->Act->World->Prop)(μ:Act->World->Nat)(h0:I D a wL)
  (round:∀D a w,I D a w->(∀D' a' w',I D' a' w'->μ a' w'<μ a w->e9 Ok r f D' (.inLoop c::k) R a' w')->e9 Ok r f D (.code c::.inLoop c::k) R a w):e9 Ok r f D (.code (.loop c)::k) R a wL:=by
 have key:∀n D a w,I D a w->μ a w=n->e9 Ok r f D (.code c::.inLoop c::k) R a w:=by
  intro n
  induction n using Nat.strongRecOn with
  |_ n ih=>exact fun D a w hI hn=>round D a w hI fun D' a' w' hI' hl=>FD (ih _ (hn▸hl) D' a' w' hI' rfl)
 exact NI (key _ _ _ _ h0 rfl)
theorem JI {ops:Array Oper}{i:Nat}{rest:List Nat}{o:Oper}(q:Nat)(ob:Obj)(hq:Ok.K q=some ob)(v:Value)(hv:∀r,¬Value.Has r v)(ho:ops[i]? =some o)(hwd:∀π,Region.wanted o (yielded ops (bg π a D).tmps)=true)(hdst:∀t,o.dst=some t->t∉sl D)
  (hrun:∀(π:Nat->Nat) (w:World),w.heap[q]? =some ob->(execOp (bg π a D).eval o).run PP w= .ok (.value v) w)
  (hev:∀(π:Nat->Nat) (w:World),w.heap[q]? =some ob->∀e∈(execOp (bg π a D).eval o).events PP w #[],e.sync=false/\aH.lJ q e.loc)
  (h:e9 Ok r f D (.inRegion ops rest::k) R (a.put o.dst v) wL):e9 Ok r f D (.inRegion ops (i::rest)::k) R a wL:=fun CS π M tr hp ha hd hk=>by
 have hkb:(base f).kind≠.early:=by simp[base]
 obtain⟨Sh,own,w,h1,h2,h3,h4,h5⟩:=hp
 let KK:Nat->Prop:=fun q=>∃o,Ok.K q=some o
 have kk:∀q,KK q->q<w.heap.size/\∀l,aH.lJ q l->¬Sh l:=fun q ⟨o,hq⟩=>⟨(Array.getElem?_eq_some_iff.1 (h5 q o hq).2.1).1,(h5 q o hq).2.2⟩
 have hA:=h3.union KK kk;have e:=ii (π:=π) a D o.dst v hdst;rw[eT v fun r hr=>absurd hr (hv r)] at e;have tree:aD PP true k7 (fun s g w'=>s=(fun b=>own b\/KK b)/\g=G ((base f).at (bg π (a.put o.dst v) D) (.inRegion ops rest::k)) CS/\∃d,w'=w.at d) (fun b=>own b\/KK b) (G ((base f).at (bg π a D) (.inRegion ops (i::rest)::k)) CS) w:=by
  refine aD.step rfl fun w₁ hR=>?_
  obtain⟨d,rfl⟩:=hR;have hw:(w.at d).heap[q]? =some ob:=(h5 q ob hq).2.1;refine⟨_,w.at d,_,stepG_value ho (hwd π) hkb (hrun π _ hw),⟨Nat.le_refl _,fun _ _ _=>rfl,rfl,rfl,rfl,fun ev he=>?_⟩,?_⟩
  .obtain⟨_,hb⟩:=hev π _ hw ev (by simpa using mem_listed (fn:=(base f).fn) he)
   exact .inl ⟨q,.inl (.inr ⟨ob,hq⟩),hb⟩
  .rw[Ga,e]
   exact .stop fun w₂ ⟨d2,e2⟩=>⟨rfl,rfl,d2,by rw[e2];rfl⟩
 obtain⟨N,M',t',g',w',e1,e2,⟨s',⟨rfl,rfl,d,rfl⟩,e4⟩,e5,_⟩:=kN h1 (vj tree hA);exact Ok.back _ _ _ _ _ e1 (h CS π M' t' ⟨Sh,own,_,e2,h2.at d,e4.part fun b hb=> .inl hb,h4,h5⟩ (ju ha fun r hr=>absurd hr (hv r)) ((put_defers _ _ _).trans hd) hk)
theorem NJ {ops:Array Oper}{i:Nat}{rest:List Nat}{o:Oper}(q:Nat)(ob:Obj)(hq:Ok.K q=some ob)(v:Value)(hv:∀r,¬Value.Has r v)(ho:ops[i]? =some o)(hg:o.guard=none)(hdst:∀t,o.dst=some t->t∉sl D)
  (hrun:∀(π:Nat->Nat) (w:World),w.heap[q]? =some ob->(execOp (bg π a D).eval o).run PP w= .ok (.value v) w)
  (hev:∀(π:Nat->Nat) (w:World),w.heap[q]? =some ob->∀e∈(execOp (bg π a D).eval o).events PP w #[],e.sync=false/\aH.lJ q e.loc)
  (h:e9 Ok r f D (.inRegion ops rest::k) R (a.put o.dst v) wL):e9 Ok r f D (.inRegion ops (i::rest)::k) R a wL:=
 JI q ob hq v hv ho (fun π=>by simp[Region.wanted,hg]) hdst hrun hev h
end
theorem C1 {f:FuncId}{fn:Func}{cd:Code}{r:Tmp}{args:Array Value}{W:World}{H:Nat->Prop}{K:Nat->Option Obj}{wL:World}{R2:Value->World->Prop}{Post:Value->World->Prop}(hf:PP.funcs[f]? =some fn)(hb:fn.body=some cd)(hi:PP.inits.idxOf? f=none)(hres:fn.results=#[.tmp r])
  (hl:Link H no (fun b=>b<W.heap.size/\K b=none) no id wL W) (hKW:∀q o,K q=some o->W.heap[q]? =some o) (a0:Act) (D0:k6) (ha0:VA H wL a0.tmps) (hd0:a0.defers=[]) (he:bg id a0 D0={tmps:=args++Array.replicate (fn.ntmps-args.size) undef,defers:=[]}) (hsz:wL.heap.size=W.heap.size)
  (h:e9 (Ta Post W H K) r f D0 [.code cd] (fun a w=>R2 (a.tmps.getD r undef) w) a0 wL)
  (post:∀(v:Value) (bG:World) (π:Nat->Nat) (own:Nat->Prop) (w':World),(∃t d,R2 v (ay bG t d))->Link H no own no π bG w'->VV (gB H bG) v->(∀b,b<W.heap.size->π b=b)->W.heap.size<=bG.heap.size->W.heap.size<=w'.heap.size->ConcM.OsLater W.os w'.os->w'.output=W.output->(∀q o,K q=some o->w'.heap[q]? =some o)->Post (Value.ren π v) w'):
  Oh Post (solo (G (Frame.enter PP f args .normal) []) W) #[]:=by
 have hz:Zero PP (fun _=>False) (solo (G (Frame.enter PP f args .normal) []) W) #[] (G (Frame.enter PP f args .normal) []) W:=
  ⟨⟨_,none,_,rfl,rfl,leavers_one PP _,by simp[YU]⟩,⟨past_nil.clean,fun i a ha=>absurd ha (by simp[touchAt,Trace.act?]),past_nil.over,rfl,by simp⟩⟩
 have hp:Bm (Ta Post W H K) id wL (solo (G (Frame.enter PP f args .normal) []) W) #[] (G (Frame.enter PP f args .normal) []):=⟨fun _=>False,_,W,hz,hl,⟨fun b hb l hl h=>h,fun b hb=>hb.1,fun l b h=>h.elim,fun l h=>h.elim⟩,⟨.refl _,rfl⟩,fun q o (ho:K q=some o)=>⟨fun hb=>(by rw[hb.2] at ho;cases ho),hKW q o ho,fun _ _ h=>h⟩⟩
 rw[enter_at _ hf hb,<-he] at hp;rw[enter_at _ hf hb,<-he];refine h [] id _ _ hp ha0 hd0 fun a' D' bG co M' j3 todo hrD hR hp' ha' hd' hag hsz'=>?_
 have hgo:=zM (a:=a') (π:=co) hrD;obtain⟨Dead,own,w,hz',hl',hs,hos,hkf⟩:=hp';obtain⟨gs,sl,q,rfl,h0,hL,_⟩:=hz'.ex;have hvv:VV (gB H bG) (a'.tmps.getD r undef):=lC (x:= .tmp r) ha' rfl;have agW:W.heap.size<=w.heap.size:=by
  rcases Nat.eq_zero_or_pos W.heap.size with h0|h0
  .omega
  .have h1:=hl'.lt (W.heap.size-1) (by omega)
   rw[hag _ (by omega)] at h1;have h2:W.heap.size-1<w.heap.size:=h1;omega
 have hpost:=fun w'' (d:Nat) (e:w''=w.at d)=>post (a'.tmps.getD r undef) bG co own w'' hR (by rw[e];exact hl'.at d) hvv (fun b hb=>(hag b (by rw[hsz];exact hb)).trans rfl) (hsz▸hsz') (by rw[e];exact agW) (by rw[e];exact hos.1) (by rw[e];exact hos.2) fun q o hq=>by rw[e];exact(hkf q o hq).2.1
 refine beside_ends (Shun:=Dead) (B:=w.heap.size) (D:=fun _ _ _=>False) (fun _ _ _ h=>h.elim) (n:=0) h0 hL hz'.past fun w₁ ⟨d,e⟩=>⟨rfl,Value.ren co (a'.tmps.getD r undef),#[],?_,by simp,hpost w₁ d e⟩
 have hr:(results fn (bg co a' D').tmps).run PP w₁= .ok (Value.ren co (a'.tmps.getD r undef)) w₁:=by
  rw[results_tmp hres];rw[hgo]
 have he:(results fn (bg co a' D').tmps).events PP w₁ #[]=#[]:=by
  have e:results fn (bg co a' D').tmps=pure ((bg co a' D').tmps.getD r undef):=by simp[results,hres]
  rw[e];rfl
 simp[G,stepG,unwind,doReturn,Frame.at,base,hf,hi,bg,wO] at hr he⊢;rw[hr,he];have hi2:=hi;simp at hi2;simp[seen,GStep.after,hi2]
end az
end
section
open Go.Conc Go.RowKit Go.Lib Go.Sort
def rn (u:Nat->Value):Nat->Nat->List Value->List Value
 |_,0,r=>r
 |i,n+1,r=>u i::rn u (i+1) n r
namespace az
section
variable {Ok:Env}{r:Nat}{f:FuncId}{D:k6}{k t:List Item}{R:Act->World->Prop}{a:Act}{wL w1:World}{ops:Array Oper}{i:Nat}{rest:List Nat}{o:Oper}
theorem jZ (x:Operand)(ho:ops[i]? =some o)(hop:o.op= .assign x\/o.op= .move x)(sD:eH (sl D) PP S0 E0 true o=true)(hg:o.guard=none)
  (h:e9 Ok r f D (.inRegion ops rest::k) R (a.put o.dst (a.eval x)) wL):e9 Ok r f D (.inRegion ops (i::rest)::k) R a wL:=by
 refine NH ho sD hg fun t d=>?_
 have e:(execOp a.eval o).run PP (ay wL t d)= .ok (.value (a.eval x)) (ay wL t d):=by
  unfold execOp;rcases hop with hop|hop<;>rw[hop]<;>rfl
 rw[e];exact(jc t d).2 h
theorem jb (v:Value)(ho:ops[i]? =some o)(sD:eH (sl D) PP S0 E0 true o=true)(hg:o.guard=none)
  (hr:∀t d,(execOp a.eval o).run PP (ay wL t d)= .ok (.value v) (ay w1 t d)) (h:e9 Ok r f D (.inRegion ops rest::k) R (a.put o.dst v) w1):e9 Ok r f D (.inRegion ops (i::rest)::k) R a wL:=by
 refine NH ho sD hg fun t d=>?_
 rw[hr];exact(jc t d).2 h
theorem DI (v:Value)(ho:ops[i]? =some o)(sD:eH (sl D) PP S0 E0 true o=true)(hw:∀π,Region.wanted o (yielded ops (bg π a D).tmps)=true)
  (hr:∀t d,(execOp a.eval o).run PP (ay wL t d)= .ok (.value v) (ay w1 t d)) (h:e9 Ok r f D (.inRegion ops rest::k) R (a.put o.dst v) w1):e9 Ok r f D (.inRegion ops (i::rest)::k) R a wL:=by
 refine vr ho sD hw fun t d=>?_
 rw[hr];exact(jc t d).2 h
theorem lE (a':Act)(e:a=a')(h:e9 Ok r f D t R a' wL):e9 Ok r f D t R a wL:=e▸h
theorem nd (B:(Nat->Value)->Act)(e:a=B fun i=>a.tmps.getD i undef)(h:∀u,e9 Ok r f D t R (B u) wL):e9 Ok r f D t R a wL:=e▸h _
theorem Bc (D':k6)(e:D=D')(h:e9 Ok r f D' t R a wL):e9 Ok r f D t R a wL:=e▸h
theorem Nj {π:Nat->Nat}{x:Operand}{q:IntKind}{n:Int}(hx:nB x=true)(ho:iT (sl D) x=true)(h:a.eval x= .int q n):(bg π a D).eval x= .int q n:=(kU a D hx ho).trans (by rw[h];simp)
theorem ah5 (t:TypeId)(x:Operand)(ho:ops[i]? =some o)(hop:o.op= .load t x)(sD:eH (sl D) PP S0 E0 true o=true)(hg:o.guard=none)
  (ha:(Tryz.prog.underlying t).map (fun d=>match d with|.struct _|.array _ _=>true|_=>false)=some false) (b:Addr) (hx:a.eval x= .pointer (some b)) (v:Value) (hc:wL.cell? b=some v)
  (h:e9 Ok r f D (.inRegion ops rest::k) R (a.put o.dst v) wL):e9 Ok r f D (.inRegion ops (i::rest)::k) R a wL:=by
 refine jb (w1:=wL) v ho sD hg (fun t' d=>?_) h;have hc':(ay wL t' d).cell? b=some v:=hc;have h1:aH.RT (kZ.load t (.pointer (some b))).sem (ay wL t' d) (.value v) (ay wL t' d) #[⟨.cell b,false,false⟩]:=by
  refine aH.RT.eI (x:=v) ?_ (.pure _);show aH.RT (do if<-isAgg t then Pure.pure (.agg (<-loadCells b (<-Go.sizeOf t))) else load b) _ _ _ _;refine(aH.gX ha).aN ?_;simp only[Bool.false_eq_true,if_false];exact aH.kf hc'
 have:=h1.run;unfold execOp;rw[hop];show(do pure (.value (<-Instr.loadAt t (a.eval x))):Sem Next).run _ _=_;rw[hx];exact this
theorem NG {l:List Nat}(fV:Option Nat)(hr:r∉sl D)(h0:∃fn,PP.funcs[f]? =some fn)(Br:cg (sl D) PP S0 E0 true (.inRegion ops l)=true)(hx:∀id,fV=some id->∃y,exitTo id k=some y)
  (I:World->Prop) (hb:∀w t d,I w->I (ay w t d)) (hI:I wL) (hwp:∀w,I w->w.heap.size=wL.heap.size->wpOps PP ops (x5 Ok r fV f D k R) l a w):e9 Ok r f D (.inRegion ops l::k) R a wL:=
 DJ (t0:=[.inRegion ops l]) fV hr h0 (fun it hit=>by simp at hit;subst hit;exact Br) hx fun t d b k cs=>wp_ops l a _ (hwp _ (hb _ t d hI) rfl) b k cs
theorem xN {l:List Nat}(m:Nat)(hl:l=List.range' m (ops.toList.drop m).length)(hr:r∉sl D)(h0:∃fn,PP.funcs[f]? =some fn)(Br:cg (sl D) PP S0 E0 true (.inRegion ops l)=true)
  (I:World->Prop) (hb:∀w t d,I w->I (ay w t d)) (hI:I wL) (hwp:∀w,I w->w.heap.size=wL.heap.size->wpList PP ops (x5 Ok r none f D k R) (ops.toList.drop m) a w):e9 Ok r f D (.inRegion ops l::k) R a wL:=by
 refine NG none hr h0 Br (by simp) I hb hI fun w h1 h2=>?_
 rw[hl,wpOps_eq_wpList (ops.toList.drop m) m fun j=>by rw[List.getElem?_drop,Array.getElem?_toList]];exact hwp w h1 h2
end
end az
theorem CK {w w':World}{q off:Nat}{ob:Obj}{l:List Value}(h:w.rangeAt q off l)(hq:w.heap[q]? =some ob)(hq':w'.heap[q]? =some ob):w'.rangeAt q off l:=fun i v hv=>by
 have:=h i v hv;unfold World.cell? at this⊢;rw[hq] at this;rw[hq'];exact this
namespace aH
theorem Vv {w:World}{t:TypeId}{m:Nat}(b off len cap j:Nat)(hj:j<len)(ht:PP.underlying t=some (.slice (PP.elem t)))(hm:(PP.info? (PP.elem t)).map (·.size)=some m):
  RT (Instr.indexAt t (.slice (some ⟨b,off,none⟩) len cap) (.int .i64 j)) w (.pointer (some ⟨b,off+j*m,none⟩)) w #[]:=by
 unfold Instr.indexAt;refine RT.aN (x:=(IntKind.i64,(j:Int))) (.pure _) ?_;refine(fM ht).aN ?_;refine RT.aN (.pure _) ?_;refine(fM ht).aN ?_;simp only;rw[if_pos ⟨by omega,by omega⟩];refine(oW hm).aN ?_;have e:(Addr.add ⟨b,off,none⟩ ((j:Int).toNat*m))=⟨b,off+j*m,none⟩:=by rw[Int.toNat_natCast,Addr.add_mid]
 rw[e];exact .pure _
end aH
section
variable {o:Oper}{x y:Operand}
theorem W6 {t:TypeId}{m:Nat}(ht:az.PP.underlying t=some (.slice (az.PP.elem t)))(hm:(az.PP.info? (az.PP.elem t)).map (·.size)=some m)(b off len cap j:Nat)(hj:j<len)(a:Act)(hop:o.op= .indexAddr t x y)(hx:a.eval x= .slice (some ⟨b,off,none⟩) len cap)(hy:a.eval y= .int .i64 j)(w:World):
  (execOp a.eval o).runT az.PP w #[]=(.ok (.value (.pointer (some ⟨b,off+j*m,none⟩))) w,#[]):=by
 have h:aH.RT (do pure (.value (<-Instr.indexAt t (a.eval x) (a.eval y))):Sem Next) w (.value (.pointer (some ⟨b,off+j*m,none⟩))) w #[]:=by
  rw[hx,hy];exact(aH.Vv b off len cap j hj ht hm).aN (.pure _)
 unfold execOp;rw[hop];exact h #[]
theorem GF {t:TypeId}{b off:Nat}{ob:Obj}{vs:Array Value}{w:World}(ha:(az.PP.underlying t).map (fun d=>match d with|.struct _|.array _ _=>true|_=>false)=some true)(hn:(az.PP.info? t).map (·.size)=some vs.size)(h0:0<vs.size)
  (hw:w.heap[b]? =some ob) (hra:∀w:World,w.heap[b]? =some ob->w.rangeAt b off vs.toList) (a:Act) (hop:o.op= .load t x) (hx:a.eval x= .pointer (some ⟨b,off,none⟩)):
  (execOp a.eval o).run az.PP w= .ok (.value (.agg vs)) w/\∀e∈(execOp a.eval o).events az.PP w #[],e.sync=false/\aH.lJ b e.loc:=by
 have hr:=hra w hw;have hcell:∀i,i<vs.size->w.cell? ⟨b,off+i,none⟩=vs[i]? :=fun i hi=>by
  have:=hr i vs[i] (by rw[Array.getElem?_toList,Array.getElem?_eq_getElem hi]);rw[this,Array.getElem?_eq_getElem hi]
 obtain⟨cs,u,f,rfl⟩:∃cs u f,ob= .cells cs u f:=by
  have:=hcell 0 h0;rw[Array.getElem?_eq_getElem h0] at this;unfold World.cell? at this;rw[hw] at this;cases ob with
  |cells cs u f=>exact⟨cs,u,f,rfl⟩
  |_=>cases this
 have hc:∀i,i<vs.size->cs[off+i]? =vs[i]? :=fun i hi=>by
  have:=hcell i hi;unfold World.cell? at this;rw[hw] at this;simpa using this
 have hle:off+vs.size<=cs.size:=by
  have:=hc (vs.size-1) (by omega);rw[Array.getElem?_eq_getElem (by omega:vs.size-1<vs.size)] at this;have:=(Array.getElem?_eq_some_iff.1 this).1;omega
 have he:cs.extract off (off+vs.size)=vs:=by
  apply Array.ext_getElem?
  intro i;rw[Array.getElem?_extract]
  by_cases hi:i<vs.size
  .rw[if_pos (by omega),hc i hi]
  .rw[if_neg (by omega),Array.getElem?_eq_none (by omega)]
 obtain⟨ev,h1,h2⟩:=aH.jL (t:=t) (off:=off) (n:=vs.size) hw ha hn hle;rw[he] at h1;have h3:execOp a.eval o=(kZ.load t (.pointer (some ⟨b,off,none⟩))).sem:=by
  unfold execOp;rw[hop];show(do pure (.value (<-Instr.loadAt t (a.eval x))):Sem Next)=_;rw[hx];rfl
 rw[h3];refine⟨h1.run,fun e he=>(h2 e ?_).1⟩;have h4:(kZ.load t (.pointer (some ⟨b,off,none⟩))).sem.events az.PP w #[]=#[]++ev:=congrArg Prod.snd (h1 #[]);rw[h4] at he;simpa using he
end
theorem QP {k sd pt:Int}{ct:ByteArray}:∀r,¬Value.Has r (.agg (eE k sd pt ct)):=fun r h=>by
 cases h with
 |agg hv h=>
  simp[eE] at hv;rcases hv with rfl|rfl|rfl|rfl<;>cases h
end
section
open Go.RowKit Go.Lib Go.Sort
def ER (sv x y z:Value):k6:=[(0,sv),(53,x),(63,y),(65,z)]
section
variable {sv x y z:Value}
theorem nA:2∉sl (ER sv x y z):=by simp[sl,ER]
theorem sW:(sl (ER sv x y z)).Nodup:=by simp[sl,ER]
theorem VY:53∈sl (ER sv x y z):=by simp[sl,ER]
theorem VX:63∈sl (ER sv x y z):=by simp[sl,ER]
theorem VW:65∈sl (ER sv x y z):=by simp[sl,ER]
end
def Oo (K:Nat->Option Obj)(ad:Option Addr)(l:List pK):Prop:=∀j,(hj:j<l.length)->(l[j]).Ok/\∃b off,ad=some ⟨b,off,none⟩/\∃ob,K b=some ob/\∀w:World,w.heap[b]? =some ob->w.rangeAt b (off+j*4) (l[j]).cells.toList
open aH aH.Sq in
theorem JM {E:az.Env}{wL:World}(ad:Option Addr)(cap:Nat)(l:List pK)(h:Oo E.K ad l)(hG:pJ wL):
  az.CCt E 30 #[.slice ad l.length cap] (YZ l wL) wL:=by
 refine az.FI (r:=2) {tmps:=#[undef,undef,undef,undef,undef,undef,undef,undef,undef,undef,undef,undef,undef,undef,undef,undef,undef,undef,undef,undef,undef,undef,undef,undef,undef,undef,undef,undef,undef,undef,undef,undef,undef,undef,undef,undef,undef,undef,undef,undef,undef,undef,undef,undef,undef,undef,undef,undef,undef,undef,undef,undef,undef,undef,undef,undef,undef,undef,undef,undef,undef,undef,undef,undef,undef,undef,undef,undef,undef,undef,undef,undef,undef,undef,undef],defers:=[]} (ER (.slice ad l.length cap) undef undef undef) Tryz.func30 rfl rfl (fun v hv=>?_) rfl (fun π=>by kernel_rfl) ?_
 .simp only[List.mem_toArray,List.mem_cons,List.not_mem_nil,or_self,or_false] at hv
  subst hv;exact gV
 refine az.dY ?_;refine az.eg none nA ⟨_,Tryz.func30⟩ (by kernel_rfl) (by simp) (fun w=>eO [] wL w) (fun w t k h=>h.tape t k) (eO.refl _ _) fun w hB hsz=>?_
 clear hsz;go_wp2_with fail;refine az.dY ?_;refine az.eg none nA ⟨_,Tryz.func30⟩ (by kernel_rfl) (by simp) (fun w=>eO [] wL w) (fun w t k h=>h.tape t k) hB fun w2 hB2 hsz=>?_
 clear hB hsz;go_wp2_with fail;refine(Qb 200 w2 (by omega) (by omega)).mono ?_;rintro e w3 ⟨s,d,F,rfl,hs,f3,g3,l3⟩;have hC:bX w3 F s d (fl 200) 0 H0:=⟨hs,tb 200 (by omega),As,by omega⟩
 have hB:eO [] wL w3:=hB2.trans f3.blk;have hg:ci [] F wL:=(ci.refl [] wL).trans g3 hB2.size;have hls:wL.heap.size<=s:=Nat.le_trans hB2.size l3;clear hs f3 g3 l3 hB2;go_wp2_with fail;refine az.dY ?_
 refine az.eg none nA ⟨_,Tryz.func30⟩ (by kernel_rfl) (by simp) (fun w=>bX w F s d (fl 200) 0 H0/\eO [] wL w) (fun w t k h=>⟨h.1.ay t k,h.2.tape t k⟩) ⟨hC,hB⟩ fun w4 hI hsz=>?_
 clear hC hB hsz;obtain⟨hC,hB⟩:=hI;go_wp2_with fail
 obtain⟨L1,q1,q2⟩:=vl (tb 200 (by omega)) As.eight (by decide) 0 [97] [102,105,114,115,116] (by decide) (by decide);have R7:Hid (A6=L1):=by
  show _=_;unfold A6;exact(congrArg (fun z:DS×Value=>z.1.aS) (q2 0)).trans rfl
 have ad8:Hid ((DS.calm (fl 200) 0).ql 200 0 ⟨#[97]⟩ xz=(DS.calm L1 5,.int .i64 0)):=((zl (tb 200 (by omega)) As 0 [97] [102,105,114,115,116] Tj 0).trans (q2 0)).trans (by rw[Int.zero_add]);refine az.dY ?_
 refine az.eg none nA ⟨_,Tryz.func30⟩ (by kernel_rfl) (by simp) (fun w=>bX w F s d (fl 200) 0 H0/\eO [] wL w) (fun w t k h=>⟨h.1.ay t k,h.2.tape t k⟩) ⟨hC,hB⟩ fun w4 hI hsz=>?_
 clear hC hB hsz;obtain⟨hC,hB⟩:=hI;go_wp2_with fail;refine(zk F s d 200 _ 0 ⟨#[97]⟩ xz w4 hC.store (xy _ _ _ (by omega) (by omega)) (by show 0<55;omega) (by omega) (by decide) (by decide) (by decide)).mono ?_;rintro e w5 ⟨rfl,⟨F1,hs1,g1⟩,f1⟩;rw[ad8.out] at hs1⊢;have hC1:bX w5 F1 s d L1 5 H1:=⟨hs1,q1,TZ,by omega⟩
 have hB1:eO [] wL w5:=oG hg f1.blk hB;have hg1:ci [] F1 wL:=hg.trans g1 hB.size;clear hC hB hs1 f1 g1 ad8 q1 q2 hg;go_wp2_with fail
 refine az.dY (az.jB (az.jZ _ rfl (.inr rfl) (by kernel_rfl) rfl ?_))
 refine az.sn (f2:=31) #[.tmp 24] #[.pointer (some ⟨s,0,none⟩)] (R2:=uz F1 s d 200 (DS.calm L1 5) w5) rfl rfl (by kernel_rfl) (by kernel_rfl) (eB (by kernel_rfl)) (fun b w=>by kernel_rfl) (by kernel_rfl) (vv hC1.store (hG.blk hB1 (by simp)) (hg1.nil hG) (hC1.ok (by omega))) fun v w6 hR _=>?_
 obtain⟨ps,cv,F2,L2,k2,rfl,hP,hC2,hg2,hB2,hk0,hk1,_,hcv,_,hsl⟩:=hC1.synced hR;have HST:Hid (st0=(L2,5+k2,bu H1)):=by
  show _=_;unfold st0;rw[R7.out,hsl]
 clear hsl R7;rw[TO hP];have hB2':eO [] wL w6:=oG hg1 hB2 hB1;have acs:ci [] F2 wL:=hg1.trans hg2 hB1.size;obtain⟨xS,kW,jz⟩:=ce hcv;generalize (d9 H1 ps).length=cl at jz;subst jz;clear hcv hR hC1 hB1 hg1 hg2 hB2 hP
 refine az.jZ _ rfl (.inr rfl) (by kernel_rfl) rfl (az.jb (w1:=w6) (.agg #[.int .i64 1,.slice xS cl kW]) rfl (by kernel_rfl) rfl (fun t d=>by kernel_rfl) (az.jb (w1:=w6) (.int .i64 0) rfl (by kernel_rfl) rfl (fun t d=>by kernel_rfl) ?_))
 refine az.lE {tmps:=(undef::undef::.pointer none::.pointer (some ⟨s,0,none⟩)::.int .i64 0::.int .i64 0::rn (fun _=>undef) 0 5 (.tuple #[.pointer (some ⟨s,0,none⟩),.int .i64 0]::.tuple #[.pointer (some ⟨s,0,none⟩),.int .i64 0]::.pointer (some ⟨s,0,none⟩)::.int .i64 0::.pointer (some ⟨s,0,none⟩)::.bool false::.bool false::.int .i64 0::.bool false::.bool false::.pointer (some ⟨s,0,none⟩)::.int .i64 0::.tuple #[.agg #[.int .i64 1,.slice xS cl kW],.int .i64 0]::.pointer (some ⟨s,0,none⟩)::.tuple #[.agg #[.int .i64 1,.slice xS cl kW],.int .i64 0]::.agg #[.int .i64 1,.slice xS cl kW]::.int .i64 0::rn (fun _=>undef) 0 47 [])).toArray,defers:=[]} (by kernel_rfl) ?_
 simp only[rn];refine az.xN 5 rfl nA ⟨_,Tryz.func30⟩ (by kernel_rfl) (fun w=>bX w F2 s d L2 (5+k2) (bu H1)/\eO [] wL w) (fun w t k h=>⟨h.1.ay t k,h.2.tape t k⟩) ⟨hC2,hB2'⟩ fun w7 hI _=>?_
 clear hC2 hB2';obtain⟨hC,hB⟩:=hI;show wpList _ _ _ [_,_,_] _ _;refine ax rfl ?_;refine aj.go (bm rfl 58 rfl _ jI ?_);intro w8 b8 l8 f8 r8;go_wp2_with (with_reducible first|refine af 58 rfl ?_);refine aj.go (fY rfl 58 _ _ rfl b8 rfl #[.int .i64 1,.slice xS cl kW] rfl ew (by simp[Value.oneCell']) _ _ r8 rfl ?_);intro w9 f9 r9
 have f79:aO [] w7 w9:=f8.trans f9 (by simpa using l8);have hC9:=hC.new f79;have hB9:=hB.trans f79.blk;clear hC hB f8 f9 r8 l8 f79;go_wp2_with fail
 have ad9:Hid ((DS.calm L2 (5+k2)).get 200 1 ⟨#[97]⟩=(.string xz,0)):=by
  show _=_;have h1:=Has.content (x:=DS.calm L2 (5+k2)) hC9.has rfl 1 [97];rw[aag] at h1;unfold DS.get;rw[show(DS.calm L2 (5+k2)).failed=false from rfl,if_neg (by simp)];have h2:(DS.calm L2 (5+k2)).content 200 1 ⟨#[97]⟩=some [102,105,114,115,116]:=h1;rw[show((1:Nat):Int)=1 from rfl,h2];rfl
 refine az.dY ?_;refine az.eg none nA ⟨_,Tryz.func30⟩ (by kernel_rfl) (by simp) (fun w=>bX w F2 s d L2 (5+k2) (bu H1)/\eO [] wL w/\Row w b8 #[.int .i64 1,.slice xS cl kW] 58) (fun w t k h=>⟨h.1.ay t k,h.2.1.tape t k,h.2.2⟩) ⟨hC9,hB9,r9⟩ fun w4 hI hsz=>?_
 clear hC9 hB9 r9 hsz;obtain⟨hC,hB,r8⟩:=hI;go_wp2_with fail;refine(GY F2 s d 200 _ 1 ⟨#[97]⟩ w4 hC.store (by omega) (by decide) (by decide)).mono ?_;rintro e w5 ⟨rfl,f5⟩;rw[ad9.out];have hC5:=hC.new f5;have Zk:=hB.trans f5.blk;have r5:=f5.row r8;clear ad9 hC hB r8 f5;go_wp2_with fail;refine az.dY ?_
 refine az.eg none nA ⟨_,Tryz.func30⟩ (by kernel_rfl) (by simp) (fun w=>bX w F2 s d L2 (5+k2) (bu H1)/\eO [] wL w/\Row w b8 #[.int .i64 1,.slice xS cl kW] 58) (fun w t k h=>⟨h.1.ay t k,h.2.1.tape t k,h.2.2⟩) ⟨hC5,Zk,r5⟩ fun w4 hI hsz=>?_
 clear hC5 Zk r5 hsz;obtain⟨hC,hB,r8⟩:=hI;have c8:w4.cell? ⟨b8,0,none⟩=some (.int .i64 1):=by rw[r8.cell];rfl
 have hfl:(!xz.toList==[102,105,114,115,116])=false:=by rw[show xz=aB [102,105,114,115,116] from rfl,jQ];rfl
 go_wp2_with fail;clear hfl c8 r8
 refine az.dY (az.dY ?_);refine az.eg none nA ⟨_,Tryz.func30⟩ (by kernel_rfl) (by simp) (fun w=>bX w F2 s d L2 (5+k2) (bu H1)/\eO [] wL w) (fun w t k h=>⟨h.1.ay t k,h.2.tape t k⟩) ⟨hC,hB⟩ fun w5 hI hsz=>?_
 clear hC hB hsz;obtain⟨hC,hB⟩:=hI;go_wp2_with fail;refine az.zW ?_;refine az.nd (tB undef s 0) (by kernel_rfl) fun u=>?_
 refine az.Bd (fun D a w=>∃(x y z:Value) (k:Nat) (F:List Nat) (L:List UInt8) (aa:Int) (H:bP) (u:Nat->Value),D=ER (.slice ad l.length cap) x y z/\a=tB undef s k u/\k<=l.length/\k<=300/\bX w F s d L aa H/\aa<=100+80*k/\ci [] F wL/\eO [] wL w/\Hid (zr (l.take k)=(L,aa,H))) (fun a _=>300-(intOf (a.tmps.getD 10 undef)).toNat)
  ⟨_,_,_,0,F2,L2,5+k2,bu H1,u,rfl,rfl,by omega,by omega,hC,by omega,acs,hB,HST⟩ ?_
 clear hC hB acs u HST;rintro D a w ⟨x,y,z,k,Fk,Lk,ak,Hk,u,rfl,rfl,hkl,hk3,hC,hak,Zh,hB,HR⟩ ih
 have ih':∀(x y z:Value) (k':Nat) (F:List Nat) (L:List UInt8) (aa:Int) (H:bP) (u:Nat->Value) (w':World),k'=k+1->k'<=l.length->k'<=300->bX w' F s d L aa H->aa<=100+80*k'->ci [] F wL->eO [] wL w'->Hid (zr (l.take k')=(L,aa,H))->az.e9 _ _ _ (ER (.slice ad l.length cap) x y z) _ _ (tB undef s k' u) w':=fun x y z k' F L aa H u w' e1 e2 e3 e4 e5 e6 e7 e8=>ih _ _ _ ⟨x,y,z,k',F,L,aa,H,u,rfl,rfl,e2,e3,e4,e5,e6,e7,e8⟩ (by subst e1;simp[tB,intOf];omega)
 clear ih;unfold tB at ih'⊢;refine az.dY (az.dY (az.jB ?_));refine az.jZ _ rfl (.inr rfl) (by kernel_rfl) rfl (az.vq 53 (.slice ad l.length cap) rfl rfl rfl sW VY (fun π w=>by kernel_rfl) ?_);refine az.Bc (ER (.slice ad l.length cap) (.slice ad l.length cap) y z) rfl ?_
 refine az.JJ (.int .i64 l.length) (by intro r hr;cases hr) rfl rfl (eB (by kernel_rfl)) (fun π w=>by kernel_rfl) ?_;refine az.jb (w1:=w) (.bool (decide ((k:Int)<(l.length:Int)))) rfl (by kernel_rfl) rfl (fun t d=>by kernel_rfl) (az.jZ _ rfl (.inr rfl) (by kernel_rfl) rfl ?_)
 by_cases hlt:k<l.length
 .by_cases hlt3:k<300
  .obtain⟨hok,b,off,rfl,ob,hK,hra⟩:=h k hlt
   have HS:=fun(L':List UInt8) (N:Int)=>ED (L':=L') (N:=N) hlt HR.out
   clear HR;generalize l[k]=y at hok hra HS;replace HS:Hid _:=HS;have hd1:decide ((k:Int)<(l.length:Int))=true:=by simp;omega
   have hd2:decide ((k:Int)<300)=true:=by simp;omega
   rw[hd1];refine az.lE {tmps:=(undef::u 1::u 2::.pointer (some ⟨s,0,none⟩)::rn u 4 6 (.int .i64 k::rn u 11 41 (.int .i64 k::u 53::.int .i64 l.length::.bool true::.bool true::rn u 57 18 []))).toArray,defers:=[]} (by kernel_rfl) ?_;simp only[rn]
   refine az.vr rfl (by kernel_rfl) (fun π=>by kernel_rfl) (fun tt dd=>(show az.e9 _ _ _ _ _ _ _ (ay w tt dd) from(az.jc tt dd).2 ?_));refine az.DI (w1:=w) (.bool (decide ((k:Int)<300))) rfl (by kernel_rfl) (fun π=>by kernel_rfl) (fun t d=>by kernel_rfl) ?_;rw[hd2]
   refine az.jb (w1:=w) (.bool true) rfl (by kernel_rfl) rfl (fun t d=>by kernel_rfl) (az.fT ?_);refine az.lE {tmps:=(undef::u 1::u 2::.pointer (some ⟨s,0,none⟩)::rn u 4 6 (.int .i64 k::rn u 11 41 (.int .i64 k::u 53::.int .i64 l.length::.bool true::.bool true::.int .i64 k::.bool true::.bool true::rn u 60 15 []))).toArray,defers:=[]} (by kernel_rfl) ?_;simp only[rn]
   clear hd1 hd2;refine az.xO (b:=true) rfl rfl ?_;rw[if_pos rfl];refine az.NE (az.dY (az.zW (az.dY (az.jB ?_))));refine az.jZ _ rfl (.inr rfl) (by kernel_rfl) rfl (az.vq 63 (.slice (some ⟨b,off,none⟩) l.length cap) rfl rfl rfl sW VX (fun π w=>by kernel_rfl) (az.jZ _ rfl (.inr rfl) (by kernel_rfl) rfl ?_))
   refine az.vq 65 (.pointer (some ⟨b,off+k*4,none⟩)) rfl rfl rfl sW VW (fun π w=>W6 (m:=4) (x:= .tmp 63) (y:= .tmp 64) (by kernel_rfl) (by kernel_rfl) b off l.length cap k hlt _ rfl (by kernel_rfl) (az.Nj (by kernel_rfl) (by kernel_rfl) (by kernel_rfl)) w) ?_
   refine az.Bc (ER (.slice (some ⟨b,off,none⟩) l.length cap) (.slice (some ⟨b,off,none⟩) l.length cap) (.slice (some ⟨b,off,none⟩) l.length cap) (.pointer (some ⟨b,off+k*4,none⟩))) rfl ?_
   refine az.NJ b ob hK (.agg y.cells) QP rfl rfl (eB (by kernel_rfl)) (fun π w hw=>(GF (x:= .tmp 65) (by kernel_rfl) Dd (by show 0<4;omega) hw hra _ rfl (by kernel_rfl)).1) (fun π w hw=>(GF (x:= .tmp 65) (by kernel_rfl) Dd (by show 0<4;omega) hw hra _ rfl (by kernel_rfl)).2) ?_
   refine az.sn (f2:=17) #[.tmp 62,.tmp 66] #[.pointer (some ⟨s,0,none⟩),.agg (eE y.kind y.side y.path y.content)] (R2:=Sc Fk s d 200 (DS.calm Lk ak) y.kind y.side y.path y.content w) rfl rfl (by kernel_rfl) (by kernel_rfl) (eB (by kernel_rfl)) (fun b w=>by kernel_rfl) (by kernel_rfl)
    (YB y.kind y.side y.path y.content hC.store (hG.blk hB (by simp)) (Zh.nil hG) (xy _ _ _ hC.lo (by omega)) (by show 0<55;omega) (fun _=>hC.ok (by omega)) hok.1.1 hok.1.2 hok.2.1.1 hok.2.1.2 hok.2.2.1 hok.2.2.2) fun v w6 hR _=>?_
   obtain⟨rfl,F',L',N,hC',hg',hB',hN0,hN1,hal⟩:=hC.jk hR;have HR:=HS.out L' N hal;clear hal HS;have Xj:=Oe Hk y.kind y.side y.path y.content;have hgn:ci [] F' wL:=Zh.trans hg' hB.size;have hBn:eO [] wL w6:=oG Zh hB' hB;generalize yW Hk y.kind y.side y.path y.content=re at Xj hC' HR⊢;obtain⟨Hn,en⟩:=re;clear hR hg' hB' hC hB hra Zh hK
   refine az.jZ _ rfl (.inl rfl) (by kernel_rfl) rfl (az.fT ?_);refine az.nd (fun u=>{tmps:=(undef::u 1::u 2::.pointer (some ⟨s,0,none⟩)::.int .i64 en::rn u 5 5 (.int .i64 k::rn u 11 64 [])).toArray,defers:=[]}) (by kernel_rfl) fun u=>?_
   simp only[rn];simp only at Xj hC' HR;replace HR:Hid _:=HR;refine az.eg none nA ⟨_,Tryz.func30⟩ (by kernel_rfl) (by simp) (fun w=>bX w F' s d L' (ak+N) Hn/\eO [] wL w) (fun w t k h=>⟨h.1.ay t k,h.2.tape t k⟩) ⟨hC',hBn⟩ fun w7 hI hsz=>?_
   clear hC' hBn hsz;obtain⟨hC,hB⟩:=hI;rcases Xj with rfl|rfl
   all_goals
    go_wp2_with fail;refine az.DK ?_;refine az.eg none nA ⟨_,Tryz.func30⟩ (by kernel_rfl) (by simp) (fun w=>bX w F' s d L' (ak+N) Hn/\eO [] wL w) (fun w t k h=>⟨h.1.ay t k,h.2.tape t k⟩) ⟨hC,hB⟩ fun w8 hI hsz=>?_
    clear hC hB hsz;obtain⟨hC,hB⟩:=hI;go_wp2_with fail;refine az.nd (tB undef s (k+1)) (by kernel_rfl) fun u=>?_
    exact ih' _ _ _ (k+1) F' L' (ak+N) Hn u w8 rfl (by omega) (by omega) hC (by push_cast;omega) hgn hB HR
  .have hd1:decide ((k:Int)<(l.length:Int))=true:=by simp;omega
   have hd2:decide ((k:Int)<300)=false:=by simp;omega
   rw[hd1];refine az.lE {tmps:=(undef::u 1::u 2::.pointer (some ⟨s,0,none⟩)::rn u 4 6 (.int .i64 k::rn u 11 41 (.int .i64 k::u 53::.int .i64 l.length::.bool true::.bool true::rn u 57 18 []))).toArray,defers:=[]} (by kernel_rfl) ?_;simp only[rn]
   refine az.vr rfl (by kernel_rfl) (fun π=>by kernel_rfl) (fun tt dd=>(show az.e9 _ _ _ _ _ _ _ (ay w tt dd) from(az.jc tt dd).2 ?_));refine az.DI (w1:=w) (.bool (decide ((k:Int)<300))) rfl (by kernel_rfl) (fun π=>by kernel_rfl) (fun t d=>by kernel_rfl) ?_;rw[hd2]
   refine az.jb (w1:=w) (.bool false) rfl (by kernel_rfl) rfl (fun t d=>by kernel_rfl) (az.fT ?_);refine az.lE {tmps:=(undef::u 1::u 2::.pointer (some ⟨s,0,none⟩)::rn u 4 6 (.int .i64 k::rn u 11 41 (.int .i64 k::u 53::.int .i64 l.length::.bool true::.bool true::.int .i64 k::.bool false::.bool false::rn u 60 15 []))).toArray,defers:=[]} (by kernel_rfl) ?_
   simp only[rn];refine az.xO (b:=false) rfl rfl ?_;rw[if_neg (by simp)];refine az.DL rfl (az.eg none nA ⟨_,Tryz.func30⟩ (by kernel_rfl) (by simp) (fun w=>bX w Fk s d Lk ak Hk/\eO [] wL w) (fun w t k h=>⟨h.1.ay t k,h.2.tape t k⟩) ⟨hC,hB⟩ fun w6 hI hsz=>?_);go_wp2_with fail
   exact⟨w6.tape,w6.drawn,s,d,Fk,Lk,ak,Hk,rfl,hI.1,Zh,hI.2,hls,by omega,by rw[<-HR.out,show l.take 300=l.take k by rw[show k=300 by omega]]⟩
 .have hd1:decide ((k:Int)<(l.length:Int))=false:=by simp;omega
  rw[hd1];refine az.lE {tmps:=(undef::u 1::u 2::.pointer (some ⟨s,0,none⟩)::rn u 4 6 (.int .i64 k::rn u 11 41 (.int .i64 k::u 53::.int .i64 l.length::.bool false::.bool false::rn u 57 18 []))).toArray,defers:=[]} (by kernel_rfl) ?_;simp only[rn]
  refine az.G8 rfl (eB (by kernel_rfl)) (fun π=>by kernel_rfl) (az.G8 rfl (eB (by kernel_rfl)) (fun π=>by kernel_rfl) ?_);refine az.jb (w1:=w) (.bool false) rfl (by kernel_rfl) rfl (fun t d=>by kernel_rfl) (az.fT ?_)
  refine az.lE {tmps:=(undef::u 1::u 2::.pointer (some ⟨s,0,none⟩)::rn u 4 6 (.int .i64 k::rn u 11 41 (.int .i64 k::u 53::.int .i64 l.length::.bool false::.bool false::undef::undef::.bool false::rn u 60 15 []))).toArray,defers:=[]} (by kernel_rfl) ?_;simp only[rn];refine az.xO (b:=false) rfl rfl ?_;rw[if_neg (by simp)]
  refine az.DL rfl (az.eg none nA ⟨_,Tryz.func30⟩ (by kernel_rfl) (by simp) (fun w=>bX w Fk s d Lk ak Hk/\eO [] wL w) (fun w t k h=>⟨h.1.ay t k,h.2.tape t k⟩) ⟨hC,hB⟩ fun w6 hI hsz=>?_);go_wp2_with fail
  exact⟨w6.tape,w6.drawn,s,d,Fk,Lk,ak,Hk,rfl,hI.1,Zh,hI.2,hls,by omega,by rw[<-HR.out,show l.take 300=l.take k by rw[List.take_of_length_le (by omega),List.take_of_length_le (by omega)]]⟩
end
section
open Go.RowKit Go.Lib
theorem AD (F:List Nat)(s d n:Nat)(x:DS)(w:World)(h:aP w F s d n x)(hf:x.failed=false)(hp:x.pending n=false):Calls Tryz.prog 32 #[.pointer (some ⟨s,0,none⟩)] w fun e w'=>e= .returned (.int .i64 0)/\aO [] w w':=by
 have c0:=h.cell;obtain⟨bl,vw,hdi⟩:=h.qD;have hd:=mV F s d n x w h;have hq:=tX d bl n vw x w hdi;rw[hf] at hd;rw[hp] at hq;clear hf hp hdi;go_enter Tryz.func32,Tryz.ntmps32;go_wp2_with fail;refine hd.mono ?_;rintro e w1 ⟨rfl,rfl⟩;go_wp2_with fail;refine hq.mono ?_;rintro e w2 ⟨rfl,f2⟩;go_wp2_with fail;go_ret;exact⟨rfl,f2⟩
def Af (H:bP):List (List UInt8):=mg (fun q=>H (q/7) (cB (q%7))) 21
theorem oU (H:bP):(Af H).length=21:=ft _ _
theorem O6 (H:bP)(s p:Nat)(hs:s<3)(hp:p<7):(Af H)[s*7+p]? =some (cellOf (H s (cB p))):=by
 unfold Af mg;rw[List.getElem?_map,List.getElem?_range (by omega:s*7+p<21),Option.map_some,if_pos (by omega)];show some (cellOf (H ((s*7+p)/7) (cB ((s*7+p)%7))))=_;rw[show(s*7+p)/7=s by omega,show(s*7+p)%7=p by omega]
theorem FH {a b:Option (List UInt8)}(h:cellOf a=cellOf b):a=b:=by
 cases a<;>cases b<;>simp[cellOf] at h
 .rfl
 .rw[h]
theorem Hb (a b:Option (List UInt8)):((aB (cellOf a)).toList==(aB (cellOf b)).toList)=decide (a=b):=by
 rw[jQ,jQ]
 by_cases h:a=b
 .simp[h]
 .have h2:cellOf a≠cellOf b:=fun q=>h (FH q)
  simp[h,h2]
theorem AA {w:World}{b:Nat}{H:bP}{t:TypeId}(h:Row w b (du (Af H)) t)(s p:Nat)(hs:s<3)(hp:p<7):w.cell? ⟨b,s*7+p,none⟩=some (.string (aB (cellOf (H s (cB p))))):=by
 rw[h.cell,nT _ _ (by rw[oU];omega),(List.getElem_eq_iff _).2 (O6 H s p hs hp)]
section
variable {w w':World}{F:List Nat}{s d:Nat}{L:List UInt8}{a:Int}{H:bP}
theorem Has.state (h:Has L 200 H)(a:Int):(DS.calm L a).state 200=Af H:=by
 unfold DS.state Af
 congr 1
 funext q
 exact Has.content (x:=DS.calm L a) h rfl (q/7) (cB (q%7))
theorem bX.seen (h:bX w F s d L a H):Calls Tryz.prog 15 #[.pointer (some ⟨s,0,none⟩)] w fun e w'=>e= .returned (.tuple #[.agg (du (Af H)),.bool true])/\aO [] w w':=by
 obtain⟨m,hr,hm⟩:=id h.has;have:=KU F s d 200 (DS.calm L a) m w h.store rfl rfl hr (h.seven.slots hm)
 rwa [h.has.state a] at this
theorem bX.pending (h:bX w F s d L a H):(DS.calm L a).pending 200=false:=by
 obtain⟨m,hr,hm⟩:=id h.has;exact lq (x:=DS.calm L a) hr rfl (h.seven.slots hm)
theorem bX.recover (h:bX w F s d L a H):Calls Tryz.prog 32 #[.pointer (some ⟨s,0,none⟩)] w fun e w'=>e= .returned (.int .i64 0)/\aO [] w w':=
 AD F s d 200 _ w h.store rfl h.pending
theorem bX.acts (h:bX w F s d L a H):Calls Tryz.prog 18 #[.pointer (some ⟨s,0,none⟩)] w fun e w'=>e= .returned (.int .i64 a)/\w'=w:=Iy F s d 200 _ w h.store
theorem qT (H:bP):(Tryz.prog.info? 33).map (·.size)=some (du (Af H)).size:=by rw[dm,oU];exact mW
theorem eO.row {S:List Nat}(h:eO S w w'){b:Nat}{c:Array Value}{t:TypeId}(hr:Row w b c t)(hb:b∉S:=by simp):Row w' b c t:=by
 unfold Row at*;rw[h.block b (Array.getElem?_eq_some_iff.1 hr).1 hb];exact hr
theorem eO.owns {S:List Nat}(h:eO S w w'){base:Nat}{e:TypeId}{size:Nat}{v:Value}{n:Nat}{xs:List Value}(ho:w.ownsRow base e size v n xs)(hb:∀k∈S,v.ownBlock≠some k:=by simp):w'.ownsRow base e size v n xs:=by
 refine⟨ho.1,?_⟩;rcases ho.2 with hn|⟨g,cap,cur,rfl,hb',hg,r⟩
 .exact .inl hn
 .exact .inr ⟨g,cap,cur,rfl,hb',by rw[h.block g (Array.getElem?_eq_some_iff.1 hg).1 fun q=>hb g q rfl];exact hg,r⟩
end
theorem vF {P:Program}{ops:Array Oper}{Q:Exit->Act->World->Prop}{a:Act}{w:World}{rest:List Oper}{o:Oper}(hw:Region.wanted o (yielded ops a.tmps)=true)(h:wpList P ops Q ({o with guard:=none}::rest) a w):wpList P ops Q (o::rest) a w:=by
 unfold wpList at h⊢;rw[if_pos hw];rw[if_pos (by simp[Region.wanted])] at h;exact h
def Of (wL:World)(v:Value)(w':World):Prop:=v= .bool true/\eO [] wL w'
def Ee (n:Nat):Act:={tmps:=Array.replicate n undef,defers:=[]}
theorem Hy {n:Nat}{H:Nat->Prop}{wL:World}:az.VA H wL (Ee n).tmps:=fun v hv=>by
 rw[(Array.mem_replicate.1 hv).2];exact gV
theorem Gx {w:World}{base n cap:Nat}{ad:Option Addr}{l:List (List UInt8)}(h:w.ownsRow base 9 1 (.slice ad n cap) n (dj l))(hn:n=l.length)(i:Nat)(hi:i<n):
  ∃g,ad=some ⟨g,0,none⟩/\w.cell? ⟨g,i,none⟩=some (.string (aB (l[i]'(by omega)))):=by
 obtain⟨g,cur,rfl,hg,h1,h2,h3,h4⟩:=eQ h;refine⟨g,rfl,?_⟩;have h5:(cur.toList.take (n*1))[i]? =(dj l)[i]? :=by rw[h4]
 rw[List.getElem?_take_of_lt (by omega),Array.getElem?_toList] at h5;unfold World.cell?;rw[hg];simp only[Option.isSome_none,Bool.false_eq_true,if_false];rw[h5];unfold dj;rw[List.getElem?_map,List.getElem?_eq_getElem (by omega)];rfl
end
section
open Go.RowKit Go.Lib Go.Sort
def PV (sv x:Value):k6:=[(0,sv),(17,x)]
section
variable {sv x:Value}
theorem wP:2∉sl (PV sv x):=by simp[sl,PV]
theorem IQ:(sl (PV sv x)).Nodup:=by simp[sl,PV]
theorem VU:17∈sl (PV sv x):=by simp[sl,PV]
end
open aH aH.Sq in
theorem JH {E:az.Env}{wL:World}(ad:Option Addr)(cap:Nat)(l:List pK)(h:Oo E.K ad l)(hG:pJ wL){cd:Code}(hcd:Tryz.f5.body=some cd):
  az.e9 E 2 5 (PV (.slice ad l.length cap) undef) [.code cd] (fun a w=>Of wL (a.tmps.getD 2 undef) w) (Ee 142) wL:=by
 obtain rfl:=(Option.some.inj hcd).symm;clear hcd;refine az.dY ?_;refine az.lE {tmps:=(rn (fun _=>undef) 0 142 []).toArray,defers:=[]} (by kernel_rfl) ?_;simp only[rn];refine az.eg none wP ⟨_,Tryz.func5⟩ (by kernel_rfl) (by simp) (fun w=>eO [] wL w) (fun w t k h=>h.tape t k) (eO.refl _ _) fun w hI hsz=>?_
 clear hsz;go_wp2_with fail
 refine az.dY (az.jB ?_);refine az.vq 17 (.slice ad l.length cap) rfl rfl rfl IQ VU (fun π w=>by kernel_rfl) ?_;refine az.Bc (PV (.slice ad l.length cap) (.slice ad l.length cap)) rfl ?_
 refine az.JK (f2:=30) #[.slice ad l.length cap] rfl rfl (eB (by kernel_rfl)) (fun π w=>by kernel_rfl) (JM ad cap l h (hG.blk hI (by simp))) fun v w1 hR _=>?_
 obtain⟨s,d,F,L,a,H,rfl,hC,hg,hB,hls,ha,hrs⟩:=hR;clear hrs;replace hg:ci [] F wL:=(ci.refl [] wL).trans hg hI.size;replace hB:=hI.trans hB;clear hI hls;refine az.jZ _ rfl (.inl rfl) (by kernel_rfl) rfl (az.fT ?_)
 refine az.nd (fun u=>{tmps:=(undef::u 1::u 2::.pointer (some ⟨s,0,none⟩)::rn u 4 13 (undef::rn u 18 124 [])).toArray,defers:=[]}) (by kernel_rfl) fun u=>?_
 simp only[rn];refine az.dY ?_;refine az.eg none wP ⟨_,Tryz.func5⟩ (by kernel_rfl) (by simp) (fun w=>bX w F s d L a H/\eO [] wL w) (fun w t k h=>⟨h.1.ay t k,h.2.tape t k⟩) ⟨hC,hB⟩ fun w2 hI hsz=>?_
 clear hC hB hsz;obtain⟨hC,hB⟩:=hI;go_wp2_with fail
 refine az.dY (az.jB (az.jZ _ rfl (.inr rfl) (by kernel_rfl) rfl ?_))
 refine az.sn (f2:=31) #[.tmp 22] #[.pointer (some ⟨s,0,none⟩)] (R2:=uz F s d 200 (DS.calm L a) w2) rfl rfl (by kernel_rfl) (by kernel_rfl) (eB (by kernel_rfl)) (fun b w=>by kernel_rfl) (by kernel_rfl) (vv hC.store (hG.blk hB (by simp)) (hg.nil hG) (hC.ok (by omega))) fun v w3 hR _=>?_
 obtain⟨ps,cv,F2,L2,k2,rfl,hP,hC2,hg2,hB2,hk0,hk1,ag6,hcv,hcF,hsl1⟩:=hC.synced hR;have h7:=hC.seven;clear ag6 hsl1;have hB3:eO [] wL w3:=oG hg hB2 hB;have hgw:ci [] F2 wL:=hg.trans hg2 hB.size;obtain⟨xS,kW,jz⟩:=ce hcv;generalize Dj:(d9 H ps).length=cl at jz hcv;subst jz;generalize (fg H ps).length=V5;generalize w2.heap.size=base at hcv
 clear hR hC hB hg hg2 hB2;refine az.jZ _ rfl (.inr rfl) (by kernel_rfl) rfl (az.jb (w1:=w3) (.agg #[.int .i64 V5,.slice xS cl kW]) rfl (by kernel_rfl) rfl (fun t d=>by kernel_rfl) (az.jb (w1:=w3) (.int .i64 0) rfl (by kernel_rfl) rfl (fun t d=>by kernel_rfl) ?_))
 refine az.nd (fun u=>{tmps:=(undef::u 1::u 2::.pointer (some ⟨s,0,none⟩)::rn u 4 13 (undef::rn u 18 6 (.agg #[.int .i64 V5,.slice xS cl kW]::.int .i64 0::rn u 26 116 []))).toArray,defers:=[]}) (by kernel_rfl) fun u=>?_
 simp only[rn];refine az.xN 5 rfl wP ⟨_,Tryz.func5⟩ (by kernel_rfl) (fun w=>bX w F2 s d L2 (a+k2) (bu H)/\eO [] wL w/\w.ownsRow base 9 1 (.slice xS cl kW) cl (dj (d9 H ps))) (fun w t k h=>⟨h.1.ay t k,h.2.1.tape t k,h.2.2⟩) ⟨hC2,hB3,hcv⟩ fun w4 hI _=>?_
 clear hC2 hB3 hcv;obtain⟨hC,hB,hcv⟩:=hI;show wpList _ _ _ [_,_,_] _ _;refine ax rfl ?_;refine aj.go (bm rfl 58 rfl _ jI ?_);intro w5 b4 l4 f5 r5;go_wp2_with (with_reducible first|refine af 58 rfl ?_);refine aj.go (fY rfl 58 _ _ rfl b4 rfl #[.int .i64 V5,.slice xS cl kW] rfl ew (by simp[Value.oneCell']) _ _ r5 rfl ?_);intro w6 f6 r4
 have f46:aO [] w4 w6:=f5.trans f6 (by simpa using l4);have hC6:=hC.new f46;have hB6:=hB.trans f46.blk;have acA:=f46.owns hcv;have hb4:b4∉F2/\s≠b4:=⟨fun hF=>by have:=hC.store.disk.lt b4 hF;omega,by have:=hC.store.row.lt;omega⟩
 clear hC hB hcv f5 f6 f46 r5 l4;go_wp2_with fail
 refine az.dY ?_;refine az.eg none wP ⟨_,Tryz.func5⟩ (by kernel_rfl) (by simp) (fun w=>bX w F2 s d L2 (a+k2) (bu H)/\eO [] wL w/\w.ownsRow base 9 1 (.slice xS cl kW) cl (dj (d9 H ps))/\Row w b4 #[.int .i64 V5,.slice xS cl kW] 58) (fun w t k h=>⟨h.1.ay t k,h.2.1.tape t k,h.2.2⟩) ⟨hC6,hB6,acA,r4⟩ fun w7 hI hsz=>?_
 clear hC6 hB6 acA r4 hsz;obtain⟨hC,hB,hcv,r4⟩:=hI;go_wp2_with fail;refine hC.seen.mono ?_;rintro e w8 ⟨rfl,f8⟩;replace hC:=hC.new f8;replace hB:=hB.trans f8.blk;replace hcv:=f8.owns hcv;replace r4:=f8.row r4;clear f8;go_wp2_with (with_reducible first|refine ax rfl ?_|refine af 33 rfl ?_);refine aj.go (bm rfl 33 rfl vD mC ?_)
 intro w9 b6 l6 f9 r9;go_wp2_with (with_reducible first|refine af 33 rfl ?_);refine aj.go (fY rfl 33 _ _ rfl b6 rfl (du (Af (bu H))) rfl (qT _) (BX _) _ _ r9 (by rw[dm,oU];rfl) ?_);intro w10 f10 r6;have f46:aO [] w8 w10:=f9.trans f10 (by simpa using l6)
 have hb6:b6∉F2/\s≠b6:=⟨fun hF=>by have:=hC.store.disk.lt b6 hF;omega,by have:=hC.store.row.lt;omega⟩
 replace hC:=hC.new f46;replace hB:=hB.trans f46.blk;replace hcv:=f46.owns hcv;replace r4:=f46.row r4;clear f9 f10 f46 r9 l6;go_wp2_with fail
 refine az.dY ?_;refine az.eg none wP ⟨_,Tryz.func5⟩ (by kernel_rfl) (by simp) (fun w=>bX w F2 s d L2 (a+k2) (bu H)/\eO [] wL w/\w.ownsRow base 9 1 (.slice xS cl kW) cl (dj (d9 H ps))/\Row w b4 #[.int .i64 V5,.slice xS cl kW] 58/\Row w b6 (du (Af (bu H))) 33) (fun w t k h=>⟨h.1.ay t k,h.2.1.tape t k,h.2.2⟩) ⟨hC,hB,hcv,r4,r6⟩ fun w11 hI hsz=>?_
 clear hC hB hcv r4 r6 hsz;obtain⟨hC,hB,hcv,r4,r6⟩:=hI;go_wp2_with fail;refine hC.acts.mono ?_;rintro e w12 ⟨rfl,rfl⟩;go_wp2_with fail
 refine az.dY (az.jB ?_);refine az.nd (fun u=>{tmps:=(undef::u 1::u 2::.pointer (some ⟨s,0,none⟩)::.pointer (some ⟨b4,0,none⟩)::.int .i64 0::.pointer (some ⟨b6,0,none⟩)::.bool true::.int .i64 (a+k2)::rn u 9 8 (undef::rn u 18 124 [])).toArray,defers:=[]}) (by kernel_rfl) fun u=>?_
 simp only[rn];refine az.jZ _ rfl (.inr rfl) (by kernel_rfl) rfl ?_;refine az.sn (f2:=31) #[.tmp 34] #[.pointer (some ⟨s,0,none⟩)] (R2:=uz F2 s d 200 (DS.calm L2 (a+k2)) w12) rfl rfl (by kernel_rfl) (by kernel_rfl) (eB (by kernel_rfl)) (fun b w=>by kernel_rfl) (by kernel_rfl) (vv hC.store (hG.blk hB (by simp)) (hgw.nil hG) (hC.ok (by omega))) fun v w13 hR _=>?_
 obtain⟨ps',cv',F3,L3,k3,rfl,hP',hC3,hg3,hB3,hka,hkb,hno,jz,ahj,hsl2⟩:=hC.synced hR;clear hka hkb hsl2;obtain⟨hst,hcf⟩:=Eg hP hP';obtain⟨rfl,rfl⟩:=hno hst;rw[hst];rw[hcf,Dj] at jz;rw[BO] at hC3;have acM:eO [] wL w13:=oG hgw hB3 hB;replace hcv:=hB3.owns hcv (fun k hk e=>hcF k e hk);replace r4:=hB3.row r4 hb4.1;replace r6:=hB3.row r6 hb6.1
 obtain⟨DO,uu,ahi⟩:=ce jz;subst ahi;generalize w12.heap.size=base' at jz;clear hR hno hC hB hg3 hB3 hst hcf hb4 hb6 hcF ahj hgw
 refine az.jZ _ rfl (.inr rfl) (by kernel_rfl) rfl (az.jb (w1:=w13) (.agg #[.int .i64 0,.slice DO cl uu]) rfl (by kernel_rfl) rfl (fun t d=>by kernel_rfl) (az.jb (w1:=w13) (.int .i64 0) rfl (by kernel_rfl) rfl (fun t d=>by kernel_rfl) ?_))
 refine az.nd (fun u=>{tmps:=(undef::u 1::u 2::.pointer (some ⟨s,0,none⟩)::.pointer (some ⟨b4,0,none⟩)::.int .i64 0::.pointer (some ⟨b6,0,none⟩)::.bool true::.int .i64 (a+k2)::rn u 9 8 (undef::rn u 18 18 (.agg #[.int .i64 0,.slice DO cl uu]::.int .i64 0::rn u 38 104 []))).toArray,defers:=[]}) (by kernel_rfl) fun u=>?_
 simp only[rn]
 refine az.xN 5 rfl wP ⟨_,Tryz.func5⟩ (by kernel_rfl) (fun w=>bX w F3 s d L3 (a+k2+0) (bu H)/\eO [] wL w/\w.ownsRow base 9 1 (.slice xS cl kW) cl (dj (d9 H ps))/\w.ownsRow base' 9 1 (.slice DO cl uu) cl (dj (d9 H ps))/\Row w b4 #[.int .i64 V5,.slice xS cl kW] 58/\Row w b6 (du (Af (bu H))) 33) (fun w t k h=>⟨h.1.ay t k,h.2.1.tape t k,h.2.2⟩) ⟨hC3,acM,hcv,jz,r4,r6⟩ fun w14 hI _=>?_
 clear hC3 acM hcv jz r4 r6;obtain⟨hC,hB,hcv,jz,r4,r6⟩:=hI;rw[Int.add_zero] at hC;show wpList _ _ _ [_,_,_] _ _;refine ax rfl ?_;refine aj.go (bm rfl 58 rfl _ jI ?_);intro w15 b9 l9 f15 r15;go_wp2_with (with_reducible first|refine af 58 rfl ?_)
 refine aj.go (fY rfl 58 _ _ rfl b9 rfl #[.int .i64 0,.slice DO cl uu] rfl ew (by simp[Value.oneCell']) _ _ r15 rfl ?_);intro w16 f16 r9;have f46:aO [] w14 w16:=f15.trans f16 (by simpa using l9);replace hC:=hC.new f46;replace hB:=hB.trans f46.blk;replace hcv:=f46.owns hcv;replace jz:=f46.owns jz;replace r4:=f46.row r4
 replace r6:=f46.row r6;clear f15 f16 f46 r15 l9;go_wp2_with fail
 refine az.eg none wP ⟨_,Tryz.func5⟩ (by kernel_rfl) (by simp) (fun w=>bX w F3 s d L3 (a+k2) (bu H)/\eO [] wL w/\w.ownsRow base 9 1 (.slice xS cl kW) cl (dj (d9 H ps))/\w.ownsRow base' 9 1 (.slice DO cl uu) cl (dj (d9 H ps))/\Row w b4 #[.int .i64 V5,.slice xS cl kW] 58/\Row w b6 (du (Af (bu H))) 33/\Row w b9 #[.int .i64 0,.slice DO cl uu] 58) (fun w t k h=>⟨h.1.ay t k,h.2.1.tape t k,h.2.2⟩) ⟨hC,hB,hcv,jz,r4,r6,r9⟩ fun w17 hI hsz=>?_
 clear hC hB hcv jz r4 r6 r9 hsz;obtain⟨hC,hB,hcv,jz,r4,r6,r9⟩:=hI;have aea:Hid (ja H 7=cl):=by show _=_;rw[<-Dj];exact DG h7 hP
 have Mt:Hid (cl=(d9 H ps).length):=Dj.symm;have ak5:cl<=7:=by rw[<-aea.out];exact zV H 7
 clear hP hP' Dj h7 hk0 hk1 ha h hG;go_wp2_with fail;refine hC.recover.mono ?_;rintro e w18 ⟨rfl,f18⟩;replace hC:=hC.new f18;replace hB:=hB.trans f18.blk;replace hcv:=f18.owns hcv;replace jz:=f18.owns jz;replace r4:=f18.row r4;replace r6:=f18.row r6;replace r9:=f18.row r9;clear f18;go_wp2_with fail;refine hC.seen.mono ?_
 rintro e w19 ⟨rfl,f19⟩;replace hC:=hC.new f19;replace hB:=hB.trans f19.blk;replace hcv:=f19.owns hcv;replace jz:=f19.owns jz;replace r4:=f19.row r4;replace r6:=f19.row r6;replace r9:=f19.row r9;clear f19;go_wp2_with (with_reducible first|refine ax rfl ?_|refine af 33 rfl ?_)
 refine aj.go (bm rfl 33 rfl vD mC ?_);intro w20 b12 l20 f20 r20;go_wp2_with (with_reducible first|refine af 33 rfl ?_);refine aj.go (fY rfl 33 _ _ rfl b12 rfl (du (Af (bu H))) rfl (qT _) (BX _) _ _ r20 (by rw[dm,oU];rfl) ?_);intro w21 f21 r12;have f46:aO [] w19 w21:=f20.trans f21 (by simpa using l20);replace hC:=hC.new f46
 replace hB:=hB.trans f46.blk;replace hcv:=f46.owns hcv;replace jz:=f46.owns jz;replace r4:=f46.row r4;replace r6:=f46.row r6;replace r9:=f46.row r9;clear f20 f21 f46 r20 l20;have c90:w21.cell? ⟨b9,0,none⟩=some (.int .i64 0):=by rw[r9.cell];rfl
 have c91:w21.cell? ⟨b9,1,none⟩=some (.slice DO cl uu):=by rw[r9.cell];rfl
 have c41:w21.cell? ⟨b4,1,none⟩=some (.slice xS cl kW):=by rw[r4.cell];rfl
 go_wp2_with (with_reducible first|refine av 33 rfl ?_);refine hC.acts.mono ?_;rintro e w22 ⟨rfl,rfl⟩;go_wp2_with (with_reducible first|refine av 33 rfl ?_);refine aj.go (vF (by kernel_rfl) (BA rfl 33 _ rfl b6 rfl o6 (du (Af (bu H))) _ r6 (qT _) ?_));go_wp2_with (with_reducible first|refine av 33 rfl ?_)
 refine aj.go (vF (by kernel_rfl) (BA rfl 33 _ rfl b12 rfl o6 (du (Af (bu H))) _ r12 (qT _) ?_));have HEQ:Hid ((Af (bu H)==Af (bu H))=true):=by show _=_;simp
 go_wp2_with fail;refine(KW (Af (bu H)) (Af (bu H)) (oU _) (oU _) _).mono ?_;rintro e w23 ⟨rfl,f23⟩;rw[HEQ.out];replace hC:=hC.new f23;replace hB:=hB.trans f23.blk;replace hcv:=f23.owns hcv;replace jz:=f23.owns jz;replace r4:=f23.row r4;replace r6:=f23.row r6;replace r9:=f23.row r9;clear f23 c90 c91 c41 r12 HEQ
 go_wp2_with fail
 go_loopw [14] (fun i wr=>∃k:Nat,i= .int .i64 k/\k<=cl/\aO [] w23 wr) (fun i _=>cl-(intOf i).toNat)
 case atStart=>exact⟨0,rfl,by omega,aO.refl _ _⟩
 case round=>
  obtain⟨k,rfl,hk,fk⟩:=hrel;have c41:wr.cell? ⟨b4,1,none⟩=some (.slice xS cl kW):=by rw[(fk.row r4).cell];rfl
  by_cases hlt:k<cl
  .have c91:wr.cell? ⟨b9,1,none⟩=some (.slice DO cl uu):=by rw[(fk.row r9).cell];rfl
   obtain⟨g1,rfl,d1⟩:=Gx (fk.owns hcv) Mt.out k hlt;obtain⟨g2,rfl,d2⟩:=Gx (fk.owns jz) Mt.out k hlt;generalize (d9 H ps)[k]'(by have:=Mt.out;omega)=t at d1 d2;go_wp2_with fail
   go_quiet (fail)
   have f2:aO [] wr (wr.drewN nq):=aO.drewN _ _ _;generalize wr.drewN nq=wz at f2⊢;have fw:=fk.trans f2;clear c41 c91 d1 d2 f2;go_wp2_with fail
   go_roundw
   case rel=>exact⟨k+1,by go_num,by omega,fw⟩
   case measure=>simp[intOf];omega
  .have r6':=fk.row r6
   have hB':=hB.trans fk.blk;have CL:=fk.row r4;clear hB r4 r6 r9 hC hcv jz fk;go_wp2_with fail;clear c41
   go_loopw [15,16] (fun n i w2=>∃k:Nat,i= .int .i64 k/\k<=7/\n= .int .i64 (ja H k)/\aO [] wr w2) (fun _ i _=>7-(intOf i).toNat)
   case atStart=>exact⟨0,rfl,by omega,rfl,aO.refl _ _⟩
   case round=>
    obtain⟨k2,rfl,hk2,rfl,f2⟩:=hrel
    by_cases hlt2:k2<7
    .have HN:Hid (ja H (k2+1)=ja H k2+if(bu H 0 (cB k2)≠bu H 1 (cB k2)\/bu H 0 (cB k2)≠bu H 2 (cB k2)) then 1 else 0):=DH H k2
     have hle:=zV H k2;have c60:=AA (f2.row r6') 0 k2 (by omega) hlt2;have c61:=AA (f2.row r6') 1 k2 (by omega) hlt2;have c62:=AA (f2.row r6') 2 k2 (by omega) hlt2;simp only[Nat.zero_mul,Nat.zero_add,Nat.one_mul,Nat.reduceMul] at c60 c61 c62;generalize bu H 0 (cB k2)=lv at c60 HN;generalize bu H 1 (cB k2)=xv at c61 HN
     generalize bu H 2 (cB k2)=ov at c62 HN
     by_cases e1:lv=xv
     .subst e1
      by_cases e2:lv=ov
      .subst e2
       have hN:Hid (ja H (k2+1)=ja H k2):=by show _=_;rw[HN.out];simp
       clear HN;go_wp2_with fail
       go_quiet (fail)
       have f3:aO [] wr (wr.drewN nq):=aO.drewN _ _ _;generalize wr.drewN nq=wz at f3⊢;have fw:=f2.trans f3;clear c60 c61 c62 f3;go_wp2_with fail
       go_roundw
       case rel=>exact⟨k2+1,by go_num,by omega,by rw[hN.out]<;>go_num,fw⟩
       case measure=>simp[intOf]<;>omega
      .have n1:((aB (cellOf lv)).toList==(aB (cellOf ov)).toList)=false:=by rw[Hb];simpa using e2
       have hN:Hid (ja H (k2+1)=ja H k2+1):=by show _=_;rw[HN.out];simp[e2]
       clear HN e2;go_wp2_with fail
       go_quiet (fail)
       have f3:aO [] wr (wr.drewN nq):=aO.drewN _ _ _;generalize wr.drewN nq=wz at f3⊢;have fw:=f2.trans f3;clear c60 c61 c62 f3;go_wp2_with fail
       go_roundw
       case rel=>exact⟨k2+1,by go_num,by omega,by rw[hN.out]<;>go_num,fw⟩
       case measure=>simp[intOf]<;>omega
     .have n1:((aB (cellOf lv)).toList==(aB (cellOf xv)).toList)=false:=by rw[Hb];simpa using e1
      have hN:Hid (ja H (k2+1)=ja H k2+1):=by show _=_;rw[HN.out];simp[e1]
      clear HN e1;go_wp2_with fail
      go_quiet (fail)
      have f3:aO [] wr (wr.drewN nq):=aO.drewN _ _ _;generalize wr.drewN nq=wz at f3⊢;have fw:=f2.trans f3;clear c60 c61 c62 f3;go_wp2_with fail
      go_roundw
      case rel=>exact⟨k2+1,by go_num,by omega,by rw[hN.out]<;>go_num,fw⟩
      case measure=>simp[intOf]<;>omega
    .obtain rfl:k2=7:=by omega
     rw[aea.out];have c41:wr.cell? ⟨b4,1,none⟩=some (.slice xS cl kW):=by rw[(f2.row CL).cell];rfl
     have hBr:=hB'.trans f2.blk;go_wp2_with fail;exact⟨wr.tape,wr.drawn,by simp[Of],hBr⟩
end
section
open Go.ChangeShapes Go.WideShapes Go.ChangeAt Go.RowKit Go.Deep Go.Joins Go.Lib Go.Conc Go.ConcM
theorem qz {n:Int}(h:(Lit.int .i64 n).wf=true):xx n:=by
 unfold xx;simp[Lit.wf] at h;exact h
section
variable {H:Type}{enc:TypeId×Value->H}{w:World}{base:Nat}{spare:Nat->Bool}{held:Bool}
theorem tn:Tryz.prog.cellsOf 24=4:=by kernel_rfl
theorem JL:Tryz.prog.cellsOf 3=1:=by kernel_rfl
theorem uy {fuel:Nat}{cs:List Value}{x:DataW H×List MemPlace}(h:DataW.trod enc Tryz.prog w base spare held fuel 24 cs=some x):∃y:pK,y.Ok/\cs=y.cells.toList:=by
 obtain⟨y0,y1,y2,y3,n,hx,hl,h0,h1,h2,h3⟩:=trod_struct4 Tryz.underlying24 h;rw[tn] at hl;simp only[JL,su] at h0 h1 h2 h3
 match cs,hl with
 |[c0,c1,c2,c3],_=>
  obtain⟨a0,e0,_,w0⟩:=DataW.trod_int Tryz.underlying3 h0;obtain⟨a1,e1,_,w1⟩:=DataW.trod_int Tryz.underlying3 h1;obtain⟨a2,e2,_,w2⟩:=DataW.trod_int Tryz.underlying3 h2;obtain⟨a3,e3,_,w3⟩:=DataW.trod_string Tryz.underlying9 h3;simp at e0 e1 e2 e3;subst e0 e1 e2 e3;exact⟨⟨a0,a1,a2,a3⟩,⟨qz w0,qz w1,qz w2⟩,rfl⟩
theorem GI {α:Type}{Pr:Nat->α->Prop}:∀n:Nat,(∀i,i<n->∃y,Pr i y)->∃l:List α,l.length=n/\∀i,(h:i<l.length)->Pr i l[i]
 |0,_=>⟨[],rfl,fun i h=>by simp at h⟩
 |n+1,h=>by
  obtain⟨l,hl,hp⟩:=GI n fun i hi=>h i (by omega)
  obtain⟨y,hy⟩:=h n (by omega);refine⟨l++[y],by simp[hl],fun i hi=>?_⟩
  by_cases hi2:i<l.length
  .rw[List.getElem_append_left hi2]
   exact hp i hi2
  .have:i=n:=by simp at hi;omega
   subst this;rw[List.getElem_append_right (by omega)];simpa [hl] using hy
theorem Bj {W:World}{a:Option Addr}{len cap fuel:Nat}{x:DataW H×List MemPlace}(h:DataW.trod enc Tryz.prog W 0 spare held fuel 22 [.slice a len cap]=some x):∃l:List pK,l.length=len/\Oq W a l/\len<=cap/\cap<=maxLen:=by
 rcases open_slice Tryz.underlying22 h with⟨hcs,_⟩|⟨ad,len',cap',m,n,D,Pl,hcs,_,hl,hm,hmm,_,hcell⟩
 .simp at hcs
  obtain⟨rfl,rfl,rfl⟩:=hcs;exact⟨[],rfl,fun j hj=>by simp at hj,by omega,by omega⟩
 .simp at hcs
  obtain⟨rfl,rfl,rfl⟩:=hcs;have hlm:len<=m:=by rw[hmm];split<;>omega
  have hel:∀i,i<len->∃y:pK,y.Ok/\∃b off,some ad=some (⟨b,off,none⟩:Addr)/\W.rangeAt b (off+i*4) y.cells.toList:=by
   intro i hi;obtain⟨cs',h1,h2⟩:=hcell i (by omega);obtain⟨y,hy,rfl⟩:=uy h2;refine⟨y,hy,?_⟩;obtain⟨_,hlen,h3⟩:=World.cells?_some h1;rw[tn] at h1 hlen h3;obtain⟨b,off,spot⟩:=ad;have hspot:spot=none:=by
    obtain⟨cs0,k1,k2⟩:=hcell 0 (by omega);obtain⟨y0,_,rfl⟩:=uy k2;obtain⟨_,_,k3⟩:=World.cells?_some k1;rw[tn] at k3;have:=World.cell?_spot ((k3 0 (by omega)).trans (show y0.cells.toList[0]? =some (.int .i64 y0.kind) from rfl));simpa [Addr.add] using this
   subst hspot;refine⟨b,off,rfl,fun j v hj=>?_⟩;have hj4:j<4:=by
    have:=(List.getElem?_eq_some_iff.1 hj).1;rw[hlen] at this;exact this
   have h5:=h3 j hj4;rw[Addr.add_mid,Addr.add_mid,hj] at h5;exact h5
  obtain⟨l,hl2,hp⟩:=GI len hel;exact⟨l,hl2,fun j hj=>hp j hj,hl,hm⟩
end
theorem Id:((begin Tryz.prog (fun _ _=>0) default).world.heap[0]?).bind Obj.row? =some (#[.int .i64 0],3):=by kernel_rfl
theorem yo:Tryz.prog.globals.size=1:=by kernel_rfl
theorem xQ:Tryz.prog.cellTypes Tryz.prog.depth 3=some [3]:=by kernel_rfl
def zZ (w:World):Prop:=∃c t f,w.heap[0]? =some (.cells c t f)/\∀v∈c,∃q,v= .int .i64 q
theorem zZ.yG {w:World}(h:zZ w):pJ w:=by
 obtain⟨c,t,f,h1,h2⟩:=h;refine⟨c,t,f,h1,fun v hv r hr=>?_⟩;obtain⟨q,rfl⟩:=h2 v hv;cases hr
theorem xo {w:World}(h:w.ShapedOpen Tryz.prog):zZ w:=by
 obtain⟨cs,h1,h2,h3⟩:=h.1 0 _ _ (by rw[yo];omega) Id;obtain⟨ts,e1,_,e3⟩:=h3 (by kernel_rfl);rw[xQ] at e1;obtain rfl:=Option.some.inj e1;refine⟨cs,_,_,h1,fun v hv=>?_⟩;obtain⟨i,hi,rfl⟩:=Array.mem_iff_getElem.1 hv;obtain⟨u,hu,hc⟩:=e3 i cs[i] (by simp[hi]);have:u=3:=by
  simp only[List.length_singleton,Nat.mod_one] at hu;simpa using hu.symm
 subst this;unfold Cell.ok at hc;rw[show Tryz.prog.underlying 3=some (.int .i64) by kernel_rfl] at hc;generalize cs[i]=x at hc;cases x<;>simp at hc;rename_i k n;exact⟨n,by rw[hc.1]⟩
def hide (W:World):World:={W with heap:=W.heap.mapIdx fun b o=>if b=0 then o else .cells #[] 1000000 (0,0)}
def hidden (W:World)(b:Nat):Prop:=b<W.heap.size/\b≠0
theorem gy (W:World):(hide W).heap.size=W.heap.size:=by simp[hide]
theorem rS (W:World)(b:Nat):(hide W).heap[b]? =(W.heap[b]?).map fun o=>if b=0 then o else .cells #[] 1000000 (0,0):=by simp[hide]
theorem Jj {W:World}(h:pJ W):pJ (hide W):=by
 obtain⟨c,t,f,h1,h2⟩:=h;exact⟨c,t,f,by rw[rS,h1];simp,h2⟩
theorem L6 {W:World}(h:pJ W):Link (hidden W) az.no (fun b=>b<W.heap.size) az.no id (hide W) W:=by
 obtain⟨c,t,f,h1,h2⟩:=h;have h0:=(Array.getElem?_eq_some_iff.1 h1).1;have at0:∀b o,(hide W).heap[b]? =some o->¬hidden W b->b=0/\o= .cells c t f:=fun b o hb hn=>by
  have hlt:b<W.heap.size:=by rw[<-gy];exact(Array.getElem?_eq_some_iff.1 hb).1
  have hz:b=0:=Classical.byContradiction fun q=>hn ⟨hlt,q⟩
  subst hz;rw[rS,h1] at hb;simp at hb;exact⟨rfl,hb.symm⟩
 have hid:∀b o,(hide W).heap[b]? =some o->hidden W b->o= .cells #[] 1000000 (0,0):=fun b o hb hh=>by
  rw[rS,Array.getElem?_eq_getElem hh.1,Option.map_some,if_neg hh.2] at hb;exact(Option.some.inj hb).symm
 have low:∀b,hidden W b\/az.no b->b<(hide W).heap.size:=fun b hb=>by rw[gy];exact hb.elim (·.1) False.elim
 have vz:gB (hidden W) (hide W) 0:=⟨by rw[gy];exact h0,fun q=>q.2 rfl⟩
 refine⟨fun _ _ e=>e,rfl,fun b hb=>by rw[gy] at hb;exact hb,⟨fun b o hb hh _=>?_,hid,fun b o _ hz=>hz.elim,low,fun b hz=>hz.elim,vz,fun b o hb hh r hr=>?_⟩,⟨fun _ _ e=>e,rfl,rfl,fun b hb _=>by
  have hb:b<(hide W).heap.size:=hb;rw[gy] at hb;exact hb,fun b o hb hh _=>?_,hid,fun b o _ hz=>hz.elim,low,fun b o hb i hi=>?_⟩,fun b hb _=>by rw[<-gy];exact hb.1,fun b hz=>hz.elim⟩
 .obtain⟨rfl,rfl⟩:=at0 b o hb hh
  trivial
 .obtain⟨rfl,rfl⟩:=at0 b o hb hh
  cases hr with
  |cells hv hr=>exact absurd hr (h2 _ hv r)
 .obtain⟨rfl,rfl⟩:=at0 b o hb hh
  refine⟨trivial,?_⟩;show W.heap[0]? =_;rw[h1];rw[ot fun r hr=>by cases hr with|cells hv hr=>exact absurd hr (h2 _ hv r)]
 .by_cases hh:hidden W b
  .have:=hid b o hb hh
   subst this;exact hi.elim
  .obtain⟨rfl,rfl⟩:=at0 b o hb hh
   exact hi.elim
theorem EY {W:World}(h:pJ W)(K:Nat->Option Obj)(h0:K 0=none):Link (hidden W) az.no (fun b=>b<W.heap.size/\K b=none) az.no id (hide W) W:=by
 have hl:=L6 h;refine⟨hl.inj,hl.zero,hl.lt,hl.lw,hl.wr,fun b hv hz=>⟨hl.own b hv hz,?_⟩,hl.ro⟩;have hb:b=0:=Classical.byContradiction fun q=>hv.2 ⟨by have:=hv.1;rwa [gy] at this,q⟩
 subst hb;exact h0
theorem mO {H:Type}{enc:TypeId×Value->H}{a:Assume}{os:Os}{f:FuncId}{fn:Func}{s:ChangeSpec}{F:Stop.Interp}{conds:List PathCond}{apart fresh handsOn:Bool}
  (own:ownKnob Tryz.prog.godebug=none) (started:os.Started) (hfn:Tryz.prog.funcs[f]? =some fn)
  (witness:∃(w:World) (tape:Tape) (i:Input),w.os=os/\(w.forCall tape i).Shaped Tryz.checked.prog/\i.vars=[]/\Input.okWide Tryz.checked.prog (w.forCall tape i) .any w.heap.size f i/\
   s.pre6 enc Tryz.checked.prog fn conds apart (w.forCall tape i).memory i.args/\a.holds Tryz.checked.prog (lone (Frame.enter Tryz.checked.prog f i.args .normal) [] (w.forCall tape i)))
  (runs:∀(W:World) (base:Nat) (args:Array Value) (ds gs:List (DataW H)) (before:List MemPlace),zZ W->
   (∀(j:Nat) t v,fn.params[j]? =some t->args[j]? =some v->Value.okWide Tryz.prog W .any base t v)->
   DataW.Whole enc Tryz.prog fn.params.toList s.vars apart W args.toList ds gs before->
   conds.all (PathCond.test Tryz.prog ⟨fn.params.toList,ds,s.plain.varTypes Tryz.prog,gs⟩)=true->
   (DataW.weightsEach Tryz.prog (fn.params.toList++s.plain.varTypes Tryz.prog) (ds++gs)).all (·<=reachBytes)=true->
   az.Oh (fun v W'=>s.post enc Tryz.prog fn apart fresh handsOn false W args v {W' with os:=W.os}/\OsLater W.os W'.os) (solo (G (Frame.enter Tryz.prog f args .normal) []) W) #[]):
  ReturnsInLeavingWide a Tryz.checked os f .any (s.pre6 enc Tryz.checked.prog fn conds apart) ((OpenSpec.ofChange s).postWith enc Tryz.checked.prog fn F (outsideKept [.timePasses]) apart fresh handsOn):=by
 refine returnsInLeavingWide_of_good own started witness ?_;intro w tape i _ hsh _ hok hpre _;obtain⟨_,_,_,fn',hfn',_,_,_,_,hval⟩:=hok;have e:fn'=fn:=Option.some.inj (hfn'.symm.trans hfn);subst e;obtain⟨⟨ds,gs,before,hw,hc⟩,hz⟩:=hpre;have hw':=DataW.Whole.of_heap (w':=w.forCall tape i) (by rfl) hw
 obtain⟨N,last,o,w',t',r1,r2,r3,v,e,hp,r4⟩:=runs (w.forCall tape i) w.heap.size i.args ds gs before (xo hsh) hval hw' hc (hz.weights hw);exact⟨N,last,o,w',t',r1,r2,r3,v,e,postWith_blind (postWith_of_post hp.1 hp.2),r4⟩
theorem Mb:ownKnob Tryz.prog.godebug=none:=by kernel_rfl
theorem I7:laidOutB Tryz.prog=true:=by kernel_rfl
def K0 (W:World)(b:Nat):Option Obj:=if b=0 then none else W.heap[b]?
theorem ab0 {W:World}(q:Nat)(o:Obj)(h:K0 W q=some o):W.heap[q]? =some o:=by
 unfold K0 at h;split at h
 .cases h
 .exact h
theorem YQ {W:World}{ad:Option Addr}{l:List pK}(hG:zZ W)(h:Oq W ad l):Oo (K0 W) ad l:=fun j hj=>by
 obtain⟨h1,b,off,rfl,h2⟩:=h j hj;have h3:W.cell? ⟨b,off+j*4+3,none⟩=some (.string l[j].content):=h2 3 _ rfl;obtain⟨ob,Zf⟩:∃ob,W.heap[b]? =some ob:=by
  unfold World.cell? at h3;cases hb:W.heap[b]? with
  |none=>rw[hb] at h3;cases h3
  |some ob=>exact⟨ob,rfl⟩
 have hb0:b≠0:=by
  rintro rfl;obtain⟨c,t,f,g1,g2⟩:=hG;unfold World.cell? at h3;rw[g1] at h3;simp only[Option.isSome_none,Bool.false_eq_true,if_false] at h3;obtain⟨q,hq⟩:=g2 _ (Array.mem_of_getElem? h3);cases hq
 exact⟨h1,b,off,rfl,ob,by unfold K0;rw[if_neg hb0];exact Zf,fun w hw=>CK h2 Zf hw⟩
section
variable {W bG w':World}{π:Nat->Nat}{own:Nat->Prop}
theorem C8 {t:Go.Proofs.YtchcmhodnkgojaaGreat.d7}{d:Nat}(hG:zZ W)(hB:eO [] (hide W) (ay bG t d))(hl:Link (hidden W) az.no own az.no π bG w')(hK:∀q o,K0 W q=some o->w'.heap[q]? =some o):∀k,k<W.heap.size->w'.heap[k]? =W.heap[k]? :=fun k hk=>by
 by_cases h0:k=0
 .subst h0
  obtain⟨c,t',f,g1,g2⟩:=hG;have e1:bG.heap[0]? =(hide W).heap[0]? :=hB.block 0 (by rw[gy];exact hk) (by simp);rw[rS,g1] at e1;simp only[Option.map_some,if_true] at e1;have e2:=(hl.wr.ok 0 _ e1 (fun q=>q.2 rfl) id).2;rw[hl.zero,ot fun r hr=>by
   cases hr with
   |cells hv hr=>
    obtain⟨q,rfl⟩:=g2 _ hv;cases hr] at e2
  rw[e2,g1]
 .have e:W.heap[k]? =some W.heap[k]:=Array.getElem?_eq_getElem hk
  rw[hK k W.heap[k] (by unfold K0;rw[if_neg h0];exact e),e]
theorem E4 {H:Type}{enc:TypeId×Value->H}{P:Program}{t:TypeId}(hl:laidOutB P=true)(hr:P.readableRec t=true)(hrow:t<P.types.size){W W':World}{v:Value}{d:DataW H}{ps:List MemPlace}
  (h:DataW.Trod enc P W 0 (fun _=>true) true t v d ps) (hb:∀k,k<W.heap.size->W'.heap[k]? =W.heap[k]?) (hlt:∀x∈ps,x.block<W.heap.size):
  DataW.Trod enc P W' 0 (fun b=>decide (b<W.heap.size)) true t v d ps:=
 WideElems.Trod_stays hl hr hrow h (fun x hx=>by
  cases x with
  |cell b o=>exact World.cell?_of_block (w:=W) (hb b (hlt _ hx))
  |map b=>exact hb b (hlt _ hx)) (fun x hx=>by simpa using hlt x hx)
theorem C9 {W w':World}(hos:w'.os=W.os)(ho:w'.output=W.output)(hb:∀k,k<W.heap.size->w'.heap[k]? =W.heap[k]?)(may:MemPlace->Prop):W.keptBut w' may:=by
 refine⟨hos,ho,fun i hi=>?_⟩;rw[hb i hi];split<;>simp_all
end
theorem AE (os:Os)(started:os.Started)(H:Type)(enc:TypeId×Value->H)(F:Stop.Interp):
  ReturnsInLeavingWide Rows.quietRow.assume Tryz.checked os 5 .any (Rows.quietRow.pre enc Tryz.prog Tryz.f5 (OpenSpec.ofChange Rows.quietSpec))
   ((OpenSpec.ofChange Rows.quietSpec).postWith enc Tryz.prog Tryz.f5 F (outsideKept [.timePasses]) Rows.quietRow.apart Rows.quietRow.fresh Rows.quietRow.handsOn):=by
 refine mO (s:=Rows.quietSpec) (conds:=[]) Mb started Tryz.func5
  (ChangeSpec.witness6c (enc:=enc) (C:=Tryz.checked) ⟨#[],#[.slice none 0 0],[]⟩ 8 (by kernel_rfl) (by kernel_rfl) (by kernel_rfl) (by kernel_rfl)) ?_
 intro W base args ds gs before hG hval0 hW hcnd _;have hval:∀(j:Nat) t v,Tryz.f5.params[j]? =some t->args[j]? =some v->Value.okWide Tryz.prog W .any base t v:=hval0;have hW':=hW;obtain⟨p,q,Zl,hV,rfl,hfz,hnd⟩:=hW;have hA:DataW.TrodAll enc Tryz.prog W 0 (fun _=>true) true Tryz.f5.params.toList args.toList ds p:=Zl;rw[Tryz.params5] at hA hval;obtain⟨v0,d0,rfl,rfl,h0⟩:=trodAll_one hA
 have lt0:∀x∈p,x.block<W.heap.size:=by obtain⟨m,hm⟩:=h0;exact DataW.trod_lt m _ _ _ hm
 obtain⟨rfl,rfl⟩:=trodVars_none hV;have k0:=h0;obtain⟨ajy,g0⟩:=h0;obtain⟨a0,akp,cap0,rfl⟩:=okWide_slice Tryz.underlying22 (hval 0 22 v0 rfl rfl);obtain⟨l0,rfl,Xl,hl0,hcap0⟩:=Bj (by simpa [Value.cells] using g0);clear Zl hval0
 refine az.C1 (W:=W) (H:=hidden W) (K:=K0 W) (wL:=hide W) (R2:=Of (hide W)) Tryz.func5 rfl (by kernel_rfl) rfl (EY hG.yG (K0 W) rfl) ab0 (Ee 142) (PV (.slice a0 l0.length cap0) undef) Hy rfl (by kernel_rfl) (gy W) (JH a0 cap0 l0 (YQ hG Xl) (Jj hG.yG) rfl) ?_;intro v bG π own w' ⟨t,d,hv,hB⟩ hl hvv hag hs1 hs2 hos hout hK
 subst hv;have hb:=C8 hG hB hl hK;rw[show Value.ren π (.bool true)= .bool true by simp];exact⟨⟨_,_,_,[],_,[],hW',trodAll_mk1 (shut_bool Tryz.underlying4 _),(trodAll_cons_mk (E4 I7 (by kernel_rfl) (of_decide_eq_true (by kernel_rfl)) k0 hb lt0) trodAll_mk0),rfl,C9 (W:=W) (w':={w' with os:=W.os}) rfl hout hb _,fun h=>by cases h⟩,hos⟩
theorem quiet_said:Rows.QuietSaid:=
 OpenClaim.holds_of_wide_leaving_time 5 Tryz.f5 rfl rfl rfl rfl rfl rfl rfl ⟨rfl,rfl,rfl,rfl,rfl⟩ rfl rfl rfl rfl rfl (by kernel_rfl) Tryz.func5 (by kernel_rfl)
  (of_decide_eq_true (by kernel_rfl)) (by unfold Func.isWrapper;first|(rw[if_pos (by decide+kernel)];kernel_rfl)|(rw[if_neg (by decide+kernel)];exact⟨rfl,rfl⟩))
  (fun os started H enc _ F=>AE os started H enc F)
end
end
end Go.Proofs.YtchcmhodnkgojaaGreat
