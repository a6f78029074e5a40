/- Mirrored is true at every input: with left and right exchanged in all acts, all comes out exchanged: the given statement Rows.MirroredSaid, with no condition beside the row's own. -/
import Derived.Test.YtchcmhodnkgojaaGreatPart11
import Derived.Conc.HoldsTime
import Derived.Leaving
import Derived.ProofKit
import Derived.Carry
import Derived.Deep.Slices
import Derived.Lib.SmallJoins
import Derived.SizedLaws
set_option linter.all false
set_option maxRecDepth 100000
set_option maxHeartbeats 8000000
namespace Go.Proofs.YtchcmhodnkgojaaGreat
noncomputable section
section
open Go.RowKit Go.Lib
theorem vB:37<aK 200:=by decide
section
variable {L:List UInt8}{n:Nat}{H:bE}
theorem th (h:Has L n H)(h7:ee H)(s:Nat)(p c:List UInt8)(hp:p∈P7)(a:Int):(DS.calm L a).pR n s (aB p) (aB c)=(DS.calm L a).put n s (aB p) (aB c):=by
 obtain⟨m,hr,hm⟩:=h;have hm7:=h7.slots hm;have MJ:=oD (x:=DS.calm L a) hr rfl hm7;unfold DS.pR;rw[show(DS.calm L a).failed=false from rfl,MJ];simp only[Bool.false_eq_true,if_false];rw[if_neg];refine Nat.not_lt.2 (JY _ λf hf _=>?_);rcases List.mem_append.1 hf with hf|hf
 .rw[pA (x:=DS.calm L a) hr rfl] at hf
  exact(hm7.files hr f hf).2
 .obtain rfl:=List.mem_singleton.1 hf
  exact hp
theorem ry (h:Has L n H)(h7:ee H)(s:Nat)(p:ByteArray)(a:Int):(DS.calm L a).fV n s p=(DS.calm L a).remove n s p:=by
 obtain⟨m,hr,hm⟩:=h;have MJ:=oD (x:=DS.calm L a) hr rfl (h7.slots hm);unfold DS.fV;rw[show(DS.calm L a).failed=false from rfl,MJ];simp only[Bool.false_eq_true,if_false]
theorem A7 (h:Has L n H)(s:Nat)(p:List UInt8)(hs:H s p=none)(a:Int):(DS.calm L a).remove n s (aB p)=(DS.calm L a,.int .i64 5):=by
 obtain⟨m,hr,hm⟩:=h;have hh:=hm s p;rw[hs] at hh;exact CG n s (aB p) (DS.calm L a) (qC (x:=DS.calm L a) hr rfl s p hh)
theorem ee.set {H:bE}(h:ee H){s:Nat}{p:List UInt8}(hs:s<=2/\p∈P7)(r:Option (List UInt8)):ee (eS H s p r):=λs' p' hn=>by
 unfold eS at hn;split at hn
 .rename_i e;rw[e.1,e.2];exact hs
 .exact h s' p' hn
def yg (H:bE)(k sd pt:Int)(ct:ByteArray):bE×Int:=
 if ba k 4=2 then(if H (ba sd 2) (fC (ba pt 7))=none then(H,5) else(eS H (ba sd 2) (fC (ba pt 7)) none,0))
 else(eS H (ba sd 2) (fC (ba pt 7)) (some (dg ct).data.toList),0)
theorem Kd (h:Has L n H)(h7:ee H)(hn:37<aK n)(k sd pt:Int)(ct:ByteArray):
  ∃L' N,Has L' n (yg H k sd pt ct).1/\ee (yg H k sd pt ct).1/\(0:Int)<=N/\N<=5/\∀a,(DS.calm L a).act n k sd pt ct=(DS.calm L' (a+N),.int .i64 (yg H k sd pt ct).2):=by
 have hs:=iR sd 2;have hp:=iR pt 7;have hcl:=DH ct;have hpm:=I3 (ba pt 7) hp;have hsp:ba sd 2<=2/\fC (ba pt 7)∈P7:=⟨by omega,hpm⟩
 unfold yg DS.act
 by_cases hk:ba k 4=2
 .simp only[if_pos hk]
  by_cases hx:H (ba sd 2) (fC (ba pt 7))=none
  .simp only[if_pos hx]
   refine⟨L,0,h,h7,by omega,by omega,λa=>?_⟩;rw[ry h h7,<-lg,A7 h _ _ hx,Int.add_zero]
  .simp only[if_neg hx]
   obtain⟨L',q1,q2⟩:=qJ h _ _ hx;refine⟨L',2,q1,h7.set hsp _,by omega,by omega,λa=>?_⟩;rw[ry h h7,<-lg,q2]
 .simp only[if_neg hk]
  obtain⟨L',q1,q2⟩:=sn h h7.eight (by omega) (ba sd 2) (fC (ba pt 7)) _ (Br (by omega) hpm) hcl;refine⟨L',5,q1,h7.set hsp _,by omega,by omega,λa=>?_⟩;have hb:aB (dg ct).data.toList=dg ct:=by simp[aB]
  have:=th h h7 (ba sd 2) (fC (ba pt 7)) (dg ct).data.toList hpm a;rw[hb,lg] at this;rw[this];have q:=q2 a;rw[hb,lg] at q;exact q
end
def sN (H:bE):List (List UInt8):=@dite _ (∃ps,iw H ps) (Classical.propDecidable _) (λh=>h.choose) λ_=>[]
theorem DP {H:bE}{ps:List (List UInt8)}(h:iw H ps):sN H=ps:=by
 unfold sN;rw[dif_pos ⟨ps,h⟩];exact(Exists.choose_spec (⟨ps,h⟩:∃ps,iw H ps)).uniq h
def v7 (L:List UInt8)(H:bE):List UInt8×Int:=(((DS.calm L 0).xV 200 (ep H (sN H))).1.aR,((DS.calm L 0).xV 200 (ep H (sN H))).1.acts)
def F7 (L:List UInt8)(H:bE)(k sd pt:Int)(ct:ByteArray):List UInt8×Int:=
 if ba k 4=3 then v7 L H else(((DS.calm L 0).act 200 k sd pt ct).1.aR,((DS.calm L 0).act 200 k sd pt ct).1.acts)
theorem BQ {L L':List UInt8}{H:bE}{k:Int}{ps:List (List UInt8)}{v:Value}(hP:iw H ps)(h:∀a,(DS.calm L a).xV 200 (ep H ps)=(DS.calm L' (a+k),v)):v7 L H=(L',k):=by
 unfold v7;rw[DP hP,h 0,Int.zero_add];rfl
structure aT (w:World)(F:List Nat)(s d:Nat)(L:List UInt8)(a:Int)(H:bE):Prop where
 store:aQ w F s d 200 (DS.calm L a)
 has:Has L 200 H
 seven:ee H
 lo:0<=a
section
variable {w w' wL:World}{F:List Nat}{s d:Nat}{L:List UInt8}{a:Int}{H:bE}
theorem aT.ax (h:aT w F s d L a H)(t:Go.Proofs.YtchcmhodnkgojaaGreat.dX)(k:Nat):aT (ax w t k) F s d L a H:=⟨h.store.ax t k,h.has,h.seven,h.lo⟩
theorem aT.blk {S:List Nat}(h:aT w F s d L a H)(f:dl S w w')(h1:s∉S)(h2:∀k∈S,k∉F):aT w' F s d L a H:=⟨h.store.blk f h1 h2,h.has,h.seven,h.lo⟩
theorem aT.new (h:aT w F s d L a H)(f:aO [] w w'):aT w' F s d L a H:=⟨h.store.new f,h.has,h.seven,h.lo⟩
theorem aT.ok (h:aT w F s d L a H)(ha:a<=900000000):Bp (DS.calm L a) 200:=Pg h.has h.seven vB a h.lo ha
theorem aT.synced (h:aT wL F s d L a H){v:Value}(hR:sV F s d 200 (DS.calm L a) wL v w'):
  ∃ps cv F' L' k,v= .tuple #[.agg #[.int .i64 (ep H ps).length,cv],.int .i64 0]/\iw H ps/\aT w' F' s d L' (a+k) (cz H)/\bL F F' wL/\dl F wL w'/\(0:Int)<=k/\k<=80/\(ep H ps=[]->L'=L/\k=0)/\
   w'.ownsRow wL.heap.size 9 1 cv (jy H ps).length (eZ (jy H ps))/\(∀g,cv.ownBlock=some g->g∉F')/\v7 L H=(L',k):=by
 have hm:=C0 h.has h.seven a;rcases hR with⟨h1,_⟩|⟨_,ps,F',hP,hS,hG,hB,hv⟩
 .exact absurd hm h1
 .have Tn:=tB (x:=DS.calm L a) h.has rfl hP
  obtain⟨e1,e2⟩:=tf (x:=DS.calm L a) h.has rfl ps;obtain⟨L',k,q1,q2,q3,q4,q5,q6⟩:=zw h.has h.seven vB Tn;rw[e1,q5 a] at hS;rw[e1,e2,q5 a] at hv;rcases hv with⟨cv,_,rfl,h7,h8⟩|⟨e,h6,h7,_⟩
  .exact⟨ps,cv,F',L',k,rfl,Tn,⟨hS,q1,q2,by have:=h.lo;omega⟩,hG,hB,q3,q4,q6,h7,h8,BQ Tn q5⟩
  .cases h7;exact absurd rfl h6
theorem aT.Ph (h:aT wL F s d L a H){e:Int}(hR:jd F s d 200 (DS.calm L a) wL e w'):e=0/\∃F' L' k,aT w' F' s d L' (a+k) (cz H)/\bL F F' wL/\dl F wL w'/\(0:Int)<=k/\k<=80/\v7 L H=(L',k):=by
 have hm:=C0 h.has h.seven a;rcases hR with⟨h1,_⟩|⟨_,ps,F',hP,hS,hG,hB,hv⟩
 .exact absurd hm h1
 .have Tn:=tB (x:=DS.calm L a) h.has rfl hP
  obtain⟨e1,e2⟩:=tf (x:=DS.calm L a) h.has rfl ps;obtain⟨L',k,q1,q2,q3,q4,q5,q6⟩:=zw h.has h.seven vB Tn;rw[e1,q5 a] at hS hv;cases hv;exact⟨rfl,F',L',k,⟨hS,q1,q2,by have:=h.lo;omega⟩,hG,hB,q3,q4,BQ Tn q5⟩
def sU (H:bE)(k sd pt:Int)(ct:ByteArray):bE×Int:=if ba k 4=3 then(cz H,0) else yg H k sd pt ct
theorem Ea (H:bE)(k sd pt:Int)(ct:ByteArray):(sU H k sd pt ct).2=0\/(sU H k sd pt ct).2=5:=by
 unfold sU yg;split
 .exact .inl rfl
 .split
  .split
   .exact .inr rfl
   .exact .inl rfl
  .exact .inl rfl
theorem aT.jc (h:aT wL F s d L a H){k sd pt:Int}{ct:ByteArray}{v:Value}(hR:OI F s d 200 (DS.calm L a) k sd pt ct wL v w'):
  v= .int .i64 (sU H k sd pt ct).2/\∃F' L' N,aT w' F' s d L' (a+N) (sU H k sd pt ct).1/\bL F F' wL/\dl F wL w'/\(0:Int)<=N/\N<=80/\F7 L H k sd pt ct=(L',N):=by
 rcases hR with⟨h3,rfl,F',h4,h5,h6⟩|⟨h3,e,rfl,hE⟩
 .unfold sU
  rw[if_neg h3];obtain⟨L',N,q1,q2,q3,q4,q5⟩:=Kd h.has h.seven vB k sd pt ct;have hL:F7 L H k sd pt ct=(L',N):=by
   unfold F7;rw[if_neg h3,q5 0,Int.zero_add];rfl
  rw[q5 a] at h4⊢;exact⟨rfl,F',L',N,⟨h4,q1,q2,by have:=h.lo;omega⟩,h5,h6,q3,by omega,hL⟩
 .unfold sU
  rw[if_pos h3];obtain⟨rfl,F',L',N,q1,q2,q3,q4,q5,q6⟩:=h.Ph hE;exact⟨rfl,F',L',N,q1,q2,q3,q4,q5,by unfold F7;rw[if_pos h3];exact q6⟩
end
def H0:bE:=λ_ _=>none
theorem kF (n:Nat)(h:16<=n:=by omega):Has (ez n) n H0:=⟨_,IT n h,λ_ _ i f hf=>by cases hf⟩
def H1:bE:=eS H0 0 [97] (some [102,105,114,115,116])
theorem Oz:([97]:List UInt8)∈P7:=AV.2 ⟨0,by omega,by decide⟩
theorem qB:ee H0:=λ_ _ h=>absurd rfl h
theorem Le:ee H1:=qB.set ⟨by omega,Oz⟩ _
theorem KY {ps:List (List UInt8)}(h:iw H1 ps):ep H1 ps=[([97],0)]:=by
 have hmem:∀l,l∈ps↔l=[97]:=λl=>by
  rw[h.2];unfold H1 eS H0
  by_cases e:l=[97]<;>simp[e]
 have hps:ps=[[97]]:=by
  cases ps with
  |nil=>exact absurd ((hmem [97]).2 rfl) (by simp)
  |cons p r=>
   have hp:=(hmem p).1 (by simp);subst hp;cases r with
   |nil=>rfl
   |cons q r=>
    have hq:=(hmem q).1 (by simp);subst hq;have:=(List.pairwise_cons.1 h.1).1 [97] (by simp);exact absurd this (List.lt_irrefl _)
 rw[hps];rfl
abbrev St:=List UInt8×Int×bE
def tK:List UInt8:=((DS.calm (ez 200) 0).put 200 0 ⟨#[97]⟩ (aB [102,105,114,115,116])).1.aR
def st0:St:=((v7 tK H1).1,5+(v7 tK H1).2,cz H1)
def nxt (st:St)(y:fj):St:=((F7 st.1 st.2.2 y.kind y.side y.path y.content).1,st.2.1+(F7 st.1 st.2.2 y.kind y.side y.path y.content).2,(sU st.2.2 y.kind y.side y.path y.content).1)
def oy (l:List fj):St:=l.foldl nxt st0
theorem wK {l:List fj}{k:Nat}{L L':List UInt8}{a N:Int}{H:bE}(hk:k<l.length)(h:oy (l.take k)=(L,a,H))(hN:F7 L H l[k].kind l[k].side l[k].path l[k].content=(L',N)):
  oy (l.take (k+1))=(L',a+N,(sU H l[k].kind l[k].side l[k].path l[k].content).1):=by
 unfold oy at h⊢;rw[List.take_succ_eq_append_getElem hk,List.foldl_append,h];simp only[List.foldl_cons,List.foldl_nil,nxt,hN]
theorem SJ:cz H1 1 [97]=some [102,105,114,115,116]:=by decide
end
section
open Go.RowKit Go.Lib Go.Sort
theorem dl.cell {S:List Nat}{w w':World}(h:dl S w w'){a:Addr}{v:Value}(hc:w.cell? a=some v)(ha:a.block∉S):w'.cell? a=some v:=by
 unfold World.cell? at hc⊢;cases hb:w.heap[a.block]? with
 |none=>rw[hb] at hc;cases hc
 |some o=>
  rw[h.block a.block (Array.getElem?_eq_some_iff.1 hb).1 ha,hb];rw[hb] at hc;exact hc
theorem qX.blk {w w':World}{ad:Option Addr}{l:List fj}(h:qX w ad l)(f:dl [] w w'):qX w' ad l:=λj hj=>by
 obtain⟨h1,b,off,h2,h3⟩:=h j hj;exact⟨h1,b,off,h2,λi v hv=>f.cell (h3 i v hv) (by simp)⟩
section
variable {E:ah.Env}{f:FuncId}{k:List Item}{R:Act->World->Prop}{a:Act}{wL:World}{ops:Array Oper}{i:Nat}{rest:List Nat}{o:Oper}
theorem FL {t:List Item}(B:(Nat->Value)->Act)(e:a=B λi=>a.tmps.getD i undef)(h:∀u,ah.CI E f t R (B u) wL):ah.CI E f t R a wL:=e▸h _
theorem YT (t:TypeId)(x:Operand)(ho:ops[i]? =some o)(hop:o.op= .load t x)(qk:jZ ah.PP S0 E0 true o=true)(hg:o.guard=none)(b off:Nat)(hx:a.eval x= .pointer (some ⟨b,off,none⟩))
  (hu:(Tryz.prog.underlying t).map TypeDesc.isRow=some true) (vs:Array Value) (hi:(Tryz.prog.info? t).map (·.size)=some vs.size) (hr:wL.rangeAt b off vs.toList)
  (h:ah.CI E f (.inRegion ops rest::k) R (a.put o.dst (.agg vs)) wL):ah.CI E f (.inRegion ops (i::rest)::k) R a wL:=by
 obtain⟨d,hu',hd⟩:=Option.map_eq_some_iff.1 hu;refine aF.Sq.jA (w1:=wL) (.agg vs) ho hg (λt' k'=>?_) h (qk:=qk);have hr':(ax wL t' k').rangeAt b off vs.toList:=hr;have:=run_loadAt_mid (P:=Tryz.prog) (ax wL t' k') b off t vs.toList d hr' hu' hd (by rw[hi,Array.length_toList]);rw[Array.toArray_toList] at this;unfold execOp;rw[hop]
 show(do pure (.value (<-Instr.loadAt t (a.eval x))):Sem Next).run _ _=_;rw[hx,Sem.run_bind,this];rfl
theorem YU (t:TypeId)(x y:Operand)(ho:ops[i]? =some o)(hop:o.op= .indexAddr t x y)(qk:jZ ah.PP S0 E0 true o=true)(hg:o.guard=none)(b off len cap j:Nat)(hx:a.eval x= .slice (some ⟨b,off,none⟩) len cap)(hy:a.eval y= .int .i64 j)(hj:j<len)
  (ht:Tryz.prog.underlying t=some (.slice (Tryz.prog.elem t))) (m:Nat) (hi:(Tryz.prog.info? (Tryz.prog.elem t)).isSome=true) (hm:Tryz.prog.cellsOf (Tryz.prog.elem t)=m)
  (h:ah.CI E f (.inRegion ops rest::k) R (a.put o.dst (.pointer (some ⟨b,off+j*m,none⟩))) wL):ah.CI E f (.inRegion ops (i::rest)::k) R a wL:=by
 obtain⟨ti,hti⟩:=Option.isSome_iff_exists.1 hi;refine aF.Sq.jA (w1:=wL) _ ho hg (λt' k'=>?_) h (qk:=qk);unfold execOp;rw[hop];show(do pure (.value (<-Instr.indexAt t (a.eval x) (a.eval y))):Sem Next).run _ _=_;rw[hx,hy,Sem.run_bind,run_indexAt_slice (P:=Tryz.prog) _ t _ _ _ _ _ ht,if_pos (by omega),run_sizeOf _ hti];rw[hm]
 show Result.ok (Next.value (.pointer (some (Addr.add ⟨b,off,none⟩ (Int.toNat j*m))))) _=_;rw[Addr.add_mid,Int.toNat_natCast]
end
def Gd (l:List fj)(wL:World)(v:Value)(w':World):Prop:=∃s d F L a H,v= .pointer (some ⟨s,0,none⟩)/\aT w' F s d L a H/\bL [] F wL/\dl [] wL w'/\wL.heap.size<=s/\a<=30000/\oy (l.take 300)=(L,a,H)
def j4 (sl:Value)(s k:Nat)(u:Nat->Value):Act:={tmps:=#[sl,u 1,u 2,.pointer (some ⟨s,0,none⟩),u 4,u 5,u 6,u 7,u 8,u 9,.int .i64 k,u 11,u 12,u 13,u 14,u 15,u 16,u 17,u 18,u 19,u 20,u 21,u 22,u 23,u 24,u 25,u 26,u 27,u 28,u 29,u 30,u 31,u 32,u 33,u 34,u 35,u 36,u 37,u 38,u 39,u 40,u 41,u 42,u 43,u 44,u 45,u 46,u 47,u 48,u 49,u 50,u 51,u 52,u 53,u 54,u 55,u 56,u 57,u 58,u 59,u 60,u 61,u 62,u 63,u 64,u 65,u 66,u 67,u 68,u 69,u 70,u 71,u 72,u 73,u 74],defers:=[]}
theorem bL.nil {F:List Nat}{w:World}(g:bL [] F w)(hG:pk w):0∉F:=g.zero hG (by simp)
theorem jP {F:List Nat}{w wa wb:World}(g:bL [] F w)(hB:dl F wa wb)(hA:dl [] w wa):dl [] w wb:=(hA.trans hB λi hi=>(g i hi).imp (by simp) id)
end
section
open Go.Conc
namespace ah
section
variable (Ok:Env)(r:Nat)
def eX (f:FuncId)(D:kf)(t:List Item)(R:Act->World->Prop)(a:Act)(wL:World):Prop:=
 ∀(CS:List Frame) (π:Nat->Nat) (M:Machine) (tr:Trace),Bq Ok π wL M tr (G ((base f).at (aY π a D) t) CS)->VA Ok.H wL a.tmps->a.defers=[]->
  (∀(a':Act) (D':kf) (bu:World) (ce:Nat->Nat) (M':Machine) (j7:Trace) (todo:List Item),r∉sl D'->(∃t d,R a' (ax bu t d))->Bq Ok ce bu M' j7 (G {(base f).at (aY ce a' D') todo with mode:= .returning} CS)->
   VA Ok.H bu a'.tmps->a'.defers=[]->(∀b,b<wL.heap.size->ce b=π b)->wL.heap.size<=bu.heap.size->Ok.Ok M' j7)->Ok.Ok M tr
end
section
variable {Ok:Env}{r:Nat}{f:FuncId}{D:kf}{k t:List Item}{R:Act->World->Prop}{a:Act}{wL:World}
theorem i9 (t':dX)(d:Nat):eX Ok r f D t R a (ax wL t' d)↔eX Ok r f D t R a wL:=
 ⟨λh CS π M tr hp=>h CS π M tr ((Bq.ax t' d).2 hp),λh CS π M tr hp=>h CS π M tr ((Bq.ax t' d).1 hp)⟩
theorem gW {t':List Item}(hs:∀(b:Act) (CS:List Frame) (w:World),(∀x,iT (sl D) x=true->a.eval x= .bool true->b.eval x= .bool true)->(∀x,iT (sl D) x=true->a.eval x= .bool false->b.eval x= .bool false)->stepG PP true (G ((base f).at b t) CS) w= .go (G ((base f).at b t') CS) w)
  (h:eX Ok r f D t' R a wL):eX Ok r f D t R a wL:=λCS π M tr hp ha hd hk=>by
 have ev:∀(x:Operand) (t:Bool),iT (sl D) x=true->a.eval x= .bool t->(aY π a D).eval x= .bool t:=λx t ho hx=>by
  cases x with
  |tmp i=>
   show(xj D (a.tmps.map (Value.ren π))).getD i undef=_;rw[Array.getD_eq_getD_getElem?,rW D _ i (GI ho),<-Array.getD_eq_getD_getElem?,jQ,show a.tmps.getD i undef=_ from hx];simp
  |const v=>exact hx
  |global g=>cases hx
  |func f=>cases hx
 exact eu hp (hs _ _ · (λx ho=>ev x true ho) λx ho=>ev x false ho) λM' j7 hp'=>h CS π M' j7 hp' ha hd hk
theorem cO {x y:Code}(h:eX Ok r f D (.code x::.code y::k) R a wL):eX Ok r f D (.code (.seq x y)::k) R a wL:=gW (λ_ _ _ _ _=>stepG_seq) h
theorem pO {id:Nat}{c:Code}(h:eX Ok r f D (.code c::.inBlock id::k) R a wL):eX Ok r f D (.code (.block id c)::k) R a wL:=gW (λ_ _ _ _ _=>stepG_block) h
theorem uT {id:Nat}(h:eX Ok r f D k R a wL):eX Ok r f D (.inBlock id::k) R a wL:=gW (λ_ _ _ _ _=>stepG_inBlock) h
theorem NZ {c:Code}(h:eX Ok r f D (.code c::.inLoop c::k) R a wL):eX Ok r f D (.code (.loop c)::k) R a wL:=gW (λ_ _ _ _ _=>stepG_loop) h
theorem FJ {c:Code}(h:eX Ok r f D (.code c::.inLoop c::k) R a wL):eX Ok r f D (.inLoop c::k) R a wL:=gW (λ_ _ _ _ _=>stepG_inLoop) h
theorem DL (h:eX Ok r f D k R a wL):eX Ok r f D (.code .skip::k) R a wL:=gW (λ_ _ _ _ _=>stepG_skip) h
theorem x9 {id:Nat}{k':List Item}(he:exitTo id k=some k')(h:eX Ok r f D k' R a wL):eX Ok r f D (.code (.exit id)::k) R a wL:=gW (λ_ _ _ _ _=>stepG_exit he) h
theorem oX {x:Operand}{p q:Code}{b:Bool}(hx:a.eval x= .bool b)(ho:iT (sl D) x=true)(h:eX Ok r f D (.code (if b then p else q)::k) R a wL):eX Ok r f D (.code (.cond x p q)::k) R a wL:=by
 refine gW (λb' CS w h1 h2=>?_) h;cases b with
 |true=>exact stepG_cond (h1 x ho hx)
 |false=>exact stepG_cond (h2 x ho hx)
theorem eB {id:Nat}{ops:Array Oper}(h:eX Ok r f D (.inRegion ops (List.range ops.size)::k) R a wL):eX Ok r f D (.code (.region id ops false)::k) R a wL:=gW (λ_ _ _ _ _=>stepG_region) h
theorem eA {ops:Array Oper}(h:eX Ok r f D k R a wL):eX Ok r f D (.inRegion ops []::k) R a wL:=gW (λ_ _ _ _ _=>stepG_region_end) h
def yt (Ok:Env)(r:Nat)(fS:Option Nat)(f:FuncId)(D:kf)(k:List Item)(R:Act->World->Prop):Exit->Act->World->Prop
 |.normal,a,w=>eX Ok r f D k R a w
 |.exit id,a,w=>fS=some id/\∃k',exitTo id k=some k'/\eX Ok r f D k' R a w
 |.ret,a,w=>∃t d,R a (ax w t d)
 |_,_,_=>False
theorem EQ {fS:Option Nat}:QOk fS (yt Ok r fS f D k R) where
 tape:=λe a w t d=>by
  cases e with
  |normal=>exact i9 t d
  |exit id=>exact and_congr Iff.rfl (exists_congr λk'=>and_congr Iff.rfl (i9 t d))
  |ret=>exact Iff.rfl
  |_=>exact Iff.rfl
 out:=λe a w h=>by
  cases e with
  |normal=>exact .inl rfl
  |ret=>exact .inr (.inl rfl)
  |exit id=>exact .inr (.inr ⟨id,rfl,h.1⟩)
  |_=>exact h.elim
theorem DM {t0:List Item}(fS:Option Nat)(hr:r∉sl D)(h0:∃fn,PP.funcs[f]? =some fn)(Bv:∀it∈t0,bV (sl D) PP S0 E0 true it=true)(hx:∀id,fS=some id->∃y,exitTo id k=some y)
  (hwp:∀t d,WpT PP t0 (yt Ok r fS f D k R) a (ax wL t d)):eX Ok r f D (t0++k) R a wL:=λCS π M tr hp ha hd hk=>by
 refine kD hp (λown w hl=>Mr BY (λ_ _ h=>h) h0 xC EQ (B:=base f) (D0:=D) (CS:=CS) (kT:=k) rfl (by simp[base]) hx Bv hl ha hd hwp) ?_;rintro Dead s g w M' j7 hz ⟨e,a',bu,ce,q,hl,hd',ha',hg,hag,hsz⟩ hs;have go:∀k',g=G ((base f).at (aY ce a' D) k') CS->eX Ok r f D k' R a' bu->Ok.Ok M' j7:=λk' e h=>
  h CS ce M' j7 ⟨Dead,s,w,e▸hz,hl,hs⟩ ha' hd' λa2 D2 BH vb M2 BN todo r2 rr p v d g2 z=>hk a2 D2 BH vb M2 BN todo r2 rr p v d (λb hb=>(g2 b (Nat.lt_of_lt_of_le hb hsz)).trans (hag b hb)) (Nat.le_trans hsz z)
 cases e with
 |normal=>exact go k hg q
 |exit id=>
  obtain⟨_,k',h1,h2⟩:=q;obtain⟨y,h3,h4⟩:=hg;rw[h1] at h3;cases h3;exact go k' h4 h2
 |ret=>
  obtain⟨todo,rfl⟩:=hg;exact hk a' D bu ce M' j7 todo hr q ⟨Dead,s,w,hz,hl,hs⟩ ha' hd' hag hsz
 |_=>exact q.elim
theorem dH {cd:Code}(fS:Option Nat)(hr:r∉sl D)(h0:∃fn,PP.funcs[f]? =some fn)(Bv:eM (sl D) PP S0 E0 true cd=true)(hx:∀id,fS=some id->∃y,exitTo id k=some y)
  (I:World->Prop) (hb:∀w t d,I w->I (ax w t d)) (hI:I wL) (hwp:∀w,I w->w.heap.size=wL.heap.size->cd.wp PP (yt Ok r fS f D k R) a w):eX Ok r f D (.code cd::k) R a wL:=
 DM (t0:=[.code cd]) fS hr h0 (λit hit=>by simp at hit;subst hit;exact Bv) hx λt d=>hwp _ (hb _ t d hI) rfl
theorem vQ {ops:Array Oper}{i:Nat}{rest:List Nat}{o:Oper}(ho:ops[i]? =some o)(qk:eG (sl D) PP S0 E0 true o=true)(hw:∀π,Region.wanted o (yielded ops (aY π a D).tmps)=true)
  (h:∀t d,uponE o a (λa' w'=>eX Ok r f D (.inRegion ops rest::k) R a' w') (λ_ _ _=>False) ((execOp a.eval o).run PP (ax wL t d))):eX Ok r f D (.inRegion ops (i::rest)::k) R a wL:=λCS π M tr hp ha hd hk=>by
 have hkb:(base f).kind≠.early:=by simp[base]
 obtain⟨_,_,hdst⟩:=kR qk;refine kD (Stop:=λs g w=>∃a' bu ce,eX Ok r f D (.inRegion ops rest::k) R a' bu/\g=G ((base f).at (aY ce a' D) (.inRegion ops rest::k)) CS/\Link Ok.H no s no ce bu w/\VA Ok.H bu a'.tmps/\a'.defers=[]/\(∀b,b<wL.heap.size->ce b=π b)/\wL.heap.size<=bu.heap.size) hp (λown w hl=>?_) ?_
 .refine aD.step rfl λw₁ hR=>?_
  obtain⟨r1,r2,r3⟩:=xC.rel own w w₁ hR;obtain⟨ce,hl',GW,hag⟩:=hl.rely r1 r2 r3;have hl1:LW Ok.H no (ax wL w₁.tape w₁.drawn):=hl'.lw.ax _ _;have eπ:aY π a D=aY ce a D:=kC ha (λb hb=>(GW b hb).symm) D;have h1:=h w₁.tape w₁.drawn
  have both:=fun {x bu} (hr:(execOp a.eval o).run PP (ax wL w₁.tape w₁.drawn)= .ok x bu)=>nA BY hl'.inj hl'.zero (λ_ _ h=>h) hl1 hl'.wr D ha qk hr λi _=>hag i
  cases hr:(execOp a.eval o).run PP (ax wL w₁.tape w₁.drawn) with
  |halt hh u=>rw[hr] at h1;exact h1.elim
  |ok nx u=>
   rw[hr] at h1;obtain⟨l1,l2,x',w',e1,e2,e3,e4,e5,e6⟩:=both hr;obtain⟨o1,o2⟩:=hl'.rT (λi _=>hag i) l1 l2 e3 e4 (λe he=>e5 e (mem_listed (fn:=(base f).fn) he))
   have fin:∀v:Value,eX Ok r f D (.inRegion ops rest::k) R (a.put o.dst v) u->VV (gp Ok.H u) v->aD PP true li (λs g w=>∃a' bu ce,eX Ok r f D (.inRegion ops rest::k) R a' bu/\g=G ((base f).at (aY ce a' D) (.inRegion ops rest::k)) CS/\Link Ok.H no s no ce bu w/\VA Ok.H bu a'.tmps/\a'.defers=[]/\(∀b,b<wL.heap.size->ce b=π b)/\wL.heap.size<=bu.heap.size)
     (li.up own w₁ w') (G ((base f).at (aY ce (a.put o.dst v) D) (.inRegion ops rest::k)) CS) w':=λv hc hv=>
    .stop λw₂ ⟨d,e⟩=>⟨_,u,ce,hc,rfl,by rw[e];exact(o2 _ λb=>Iff.rfl).at d,jt (VA.grow ha l2) hv,(put_defers _ _ _).trans hd,λb hb=>(GW b hb).symm,l2⟩
   cases nx with
   |value v=>
    cases e2;refine⟨_,w',_,by rw[eπ];exact stepG_value ho (hw _) hkb e1,o1,?_⟩;rw[hY _ _ _ _ hdst];exact fin v h1 e6
   |skip=>
    cases e2;refine⟨_,w',_,by rw[eπ];exact stepG_none ho (hw _) hkb e1,o1,?_⟩;have e:(aY ce a D).put o.dst undef=aY ce (a.put o.dst undef) D:=by
     have:=hY (π:=ce) a D o.dst undef hdst
     rwa [show Value.ren ce undef=undef by simp[undef]] at this
    rw[e];exact fin undef h1 gG
   |_=>exact h1.elim
 .rintro Dead s g w M' j7 hz ⟨a',bu,ce,hc,rfl,hl,ha',hd',hag,hsz⟩ hs
  exact hc CS ce M' j7 ⟨Dead,s,w,hz,hl,hs⟩ ha' hd' λa2 D2 BH vb M2 BN todo r2 rr p v d g2 z=>hk a2 D2 BH vb M2 BN todo r2 rr p v d (λb hb=>(g2 b (Nat.lt_of_lt_of_le hb hsz)).trans (hag b hb)) (Nat.le_trans hsz z)
theorem NY {ops:Array Oper}{i:Nat}{rest:List Nat}{o:Oper}(ho:ops[i]? =some o)(qk:eG (sl D) PP S0 E0 true o=true)(hg:o.guard=none)
  (h:∀t d,uponE o a (λa' w'=>eX Ok r f D (.inRegion ops rest::k) R a' w') (λ_ _ _=>False) ((execOp a.eval o).run PP (ax wL t d))):eX Ok r f D (.inRegion ops (i::rest)::k) R a wL:=
 vQ ho qk (λπ=>by simp[Region.wanted,hg]) h
theorem Hj {ops:Array Oper}{i:Nat}{rest:List Nat}{o:Oper}(ho:ops[i]? =some o)(hdst:∀t,o.dst=some t->t∉sl D)(hw:∀π,Region.wanted o (yielded ops (aY π a D).tmps)=false)
  (h:eX Ok r f D (.inRegion ops rest::k) R (a.put o.dst undef) wL):eX Ok r f D (.inRegion ops (i::rest)::k) R a wL:=λCS π M tr hp ha hd hk=>by
 refine eu hp (λw=>stepG_unwanted ho (hw π)) λM1 Il hp1=>?_
 have e:=hY (π:=π) a D o.dst undef hdst;rw[show Value.ren π undef=undef by simp[undef]] at e;rw[e] at hp1;exact h CS π M1 Il hp1 (jt ha gG) ((put_defers _ _ _).trans hd) hk
theorem tQ {ops:Array Oper}{i:Nat}{rest:List Nat}{o:Oper}(v:Value)(hv:∀r,¬Value.Has r v)(ho:ops[i]? =some o)(hg:o.guard=none)(hdst:∀t,o.dst=some t->t∉sl D)
  (hrun:∀(π:Nat->Nat) (w:World),(execOp (aY π a D).eval o).runT PP w #[]=(.ok (.value v) w,#[])) (h:eX Ok r f D (.inRegion ops rest::k) R (a.put o.dst v) wL):eX Ok r f D (.inRegion ops (i::rest)::k) R a wL:=λCS π M tr hp ha hd hk=>by
 have hwd:∀c:Array Value,Region.wanted o (yielded ops c)=true:=λc=>by simp[Region.wanted,hg]
 have hkb:(base f).kind≠.early:=by simp[base]
 have hl0:∀w,listed PP (base f).fn (aY π a D) o w=#[]:=λw=>by
  unfold listed;rw[show(execOp (aY π a D).eval o).events PP w #[]=#[] from congrArg Prod.snd (hrun π w)];simp[seen]
 refine eu hp (λw=>by rw[stepG_value ho (hwd _) hkb (by rw[<-Sem.runT_fst PP _ w #[],hrun]),hl0]) λM1 Il hp1=>?_
 have e:=hY (π:=π) a D o.dst v hdst;rw[eQ v λr hr=>absurd hr (hv r)] at e;rw[e] at hp1;exact h CS π M1 Il hp1 (jt ha λr hr=>absurd hr (hv r)) ((put_defers _ _ _).trans hd) hk
def lj:kf->Nat->Value->kf
 |[],_,_=>[]
 |p::D,d,v=>if p.1=d then(d,v)::D else p::lj D d v
theorem CX:∀(D:kf) (d:Nat) (v:Value) (c:Array Value),(sl D).Nodup->d∈sl D->(xj D c).setIfInBounds d v=xj (lj D d v) c
 |[],_,_,_,_,h=>by simp[sl] at h
 |p::D,d,v,c,hn,h=>by
  simp only[sl,List.map_cons,List.nodup_cons] at hn;unfold lj;split
  .rename_i e
   show(xj D (c.setIfInBounds p.1 p.2)).setIfInBounds d v=xj D (c.setIfInBounds d v);have hd:d∉sl D:=e▸hn.1;rw[AP D _ d v hd,e]
   congr 1
   simp
  .rename_i e
   have hd:d∈sl D:=by
    simp only[sl,List.map_cons,List.mem_cons] at h;exact h.resolve_left λq=>e q.symm
   exact CX D d v (c.setIfInBounds p.1 p.2) hn.2 hd
theorem NW {ops:Array Oper}{i:Nat}{rest:List Nat}{o:Oper}(d:Nat)(v:Value)(ho:ops[i]? =some o)(hwd:∀π,Region.wanted o (yielded ops (aY π a D).tmps)=true)(hdst:o.dst=some d)(hn:(sl D).Nodup)(hmem:d∈sl D)
  (hrun:∀(π:Nat->Nat) (w:World),(execOp (aY π a D).eval o).runT PP w #[]=(.ok (.value v) w,#[])) (h:eX Ok r f (lj D d v) (.inRegion ops rest::k) R a wL):eX Ok r f D (.inRegion ops (i::rest)::k) R a wL:=λCS π M tr hp ha hd hk=>by
 have hkb:(base f).kind≠.early:=by simp[base]
 have hl0:∀w,listed PP (base f).fn (aY π a D) o w=#[]:=λw=>by
  unfold listed;rw[show(execOp (aY π a D).eval o).events PP w #[]=#[] from congrArg Prod.snd (hrun π w)];simp[seen]
 refine eu hp (λw=>by rw[stepG_value ho (hwd π) hkb (by rw[<-Sem.runT_fst PP _ w #[],hrun]),hl0]) λM1 Il hp1=>?_
 have e:(aY π a D).put o.dst v=aY π a (lj D d v):=by
  rw[hdst];simp only[Act.put,aY];rw[CX D d v _ hn hmem]
 rw[e] at hp1;exact h CS π M1 Il hp1 ha hd hk
theorem ja {ops:Array Oper}{i:Nat}{rest:List Nat}{o:Oper}(d:Nat)(v:Value)(ho:ops[i]? =some o)(hg:o.guard=none)(hdst:o.dst=some d)(hn:(sl D).Nodup)(hmem:d∈sl D)
  (hrun:∀(π:Nat->Nat) (w:World),(execOp (aY π a D).eval o).runT PP w #[]=(.ok (.value v) w,#[])) (h:eX Ok r f (lj D d v) (.inRegion ops rest::k) R a wL):eX Ok r f D (.inRegion ops (i::rest)::k) R a wL:=
 NW d v ho (λπ=>by simp[Region.wanted,hg]) hdst hn hmem hrun h
theorem oZ {ops:Array Oper}{i:Nat}{rest:List Nat}{o:Oper}{f2:FuncId}(xs:Array Operand)(args:Array Value){R2:Value->World->Prop}(ho:ops[i]? =some o)(hg:o.guard=none)(hxs:xs.all nJ=true)(hoff:xs.all (iT (sl D))=true)(hdst:∀t,o.dst=some t->t∉sl D)
  (hrun:∀(b:Act) (w:World),(execOp b.eval o).runT PP w #[]=(.ok (.enter f2 (xs.map b.eval)) w,#[])) (hargs:xs.map a.eval=args) (hcc:CC Ok f2 args R2 wL)
  (h:∀v w',R2 v w'->wL.heap.size<=w'.heap.size->eX Ok r f D (.inRegion ops rest::k) R (a.put o.dst v) w'):eX Ok r f D (.inRegion ops (i::rest)::k) R a wL:=λCS π M tr hp ha hd hk=>by
 subst hargs;have hwd:∀c:Array Value,Region.wanted o (yielded ops c)=true:=λc=>by simp[Region.wanted,hg]
 have hkb:(base f).kind≠.early:=by simp[base]
 have hev:xs.map (aY π a D).eval=(xs.map a.eval).map (Value.ren π):=by
  rw[Array.map_map];exact Array.map_congr_left λx hx=>k8 a D (Array.all_eq_true_iff_forall_mem.1 hxs x hx) (Array.all_eq_true_iff_forall_mem.1 hoff x hx)
 have hr:∀w,(execOp (aY π a D).eval o).run PP w= .ok (.enter f2 ((xs.map a.eval).map (Value.ren π))) w:=λw=>by rw[<-Sem.runT_fst PP _ w #[],hrun,hev]
 have hl0:∀w,listed PP (base f).fn (aY π a D) o w=#[]:=λw=>by
  unfold listed;rw[show(execOp (aY π a D).eval o).events PP w #[]=#[] from congrArg Prod.snd (hrun _ w)];simp[seen]
 refine eu hp (λw=>by rw[stepG_enter ho (hwd _) hkb (hr w),hl0]) λM1 Il hp1=>?_
 refine hcc _ CS π M1 Il hp1 (λv hv=>?_) λv bu ce M' j7 ⟨t,d,hR⟩ hp' hv hag hsz=>?_
 .obtain⟨x,hx,rfl⟩:=Array.mem_map.1 hv
  exact lI ha (Array.all_eq_true_iff_forall_mem.1 hxs x hx)
 .have hc:eX Ok r f D (.inRegion ops rest::k) R (a.put o.dst v) bu:=(i9 t d).1 (h v _ hR hsz)
  have e:((base f).at (aY π a D) (.inRegion ops (i::rest)::k)).finish (Value.ren ce v)=(base f).at (aY ce (a.put o.dst v) D) (.inRegion ops rest::k):=by
   rw[Frame.finish_at,ho,Option.bind_some,kC ha hag,hY _ _ _ _ hdst]
  rw[e] at hp';exact hc CS ce M' j7 hp' (jt (VA.grow ha hsz) hv) ((put_defers _ _ _).trans hd) λa2 D2 BH vb M2 BN todo r2 rr p v d g2 z=>hk a2 D2 BH vb M2 BN todo r2 rr p v d (λb hb=>(g2 b (Nat.lt_of_lt_of_le hb hsz)).trans (hag b hb)) (Nat.le_trans hsz z)
def CCt (Ok:Env)(f:FuncId)(targs:Array Value)(R:Value->World->Prop)(wL:World):Prop:=
 ∀(c:Frame) (CS:List Frame) (π:Nat->Nat) (M:Machine) (tr:Trace),Bq Ok π wL M tr (G (Frame.enter PP f targs .normal) (c::CS))->
  (∀(v:Value) (bu:World) (ce:Nat->Nat) (M':Machine) (j7:Trace),(∃t d,R v (ax bu t d))->Bq Ok ce bu M' j7 (G (c.finish (Value.ren ce v)) CS)->VV (gp Ok.H bu) v->
   (∀b,b<wL.heap.size->ce b=π b)->wL.heap.size<=bu.heap.size->Ok.Ok M' j7)->Ok.Ok M tr
theorem zY {a:Act}{π:Nat->Nat}{D:kf}{r:Nat}(h:r∉sl D):(aY π a D).tmps.getD r undef=Value.ren π (a.tmps.getD r undef):=by
 show(xj D (a.tmps.map (Value.ren π))).getD r undef=_;rw[Array.getD_eq_getD_getElem?,rW D _ r h,<-Array.getD_eq_getD_getElem?,jQ]
theorem FN {fn:Func}{cd:Code}{targs:Array Value}{R2:Value->World->Prop}(a0:Act)(D0:kf)(hf:PP.funcs[f]? =some fn)(hb:fn.body=some cd)(hres:fn.results=#[.tmp r])(ha0:VA Ok.H wL a0.tmps)(hd0:a0.defers=[])
  (he:∀π,aY π a0 D0={tmps:=targs++Array.replicate (fn.ntmps-targs.size) undef,defers:=[]}) (h:eX Ok r f D0 [.code cd] (λa w=>R2 (a.tmps.getD r undef) w) a0 wL):CCt Ok f targs R2 wL:=λc CS π M tr hp hk=>by
 rw[enter_at _ hf hb,<-he π] at hp;refine h (c::CS) π M tr hp ha0 hd0 λa' D' bu ce M' j7 todo hr hR hp' ha' hd' hag hsz=>?_
 have hg:=zY (a:=a') (π:=ce) hr;refine eu hp' (λw=>stepG_leave (b:=base f) (a:=aY ce a' D') (todo:=todo) (v:=Value.ren ce (a'.tmps.getD r undef)) rfl rfl hf ?_ ?_) λM2 BN hp2=>hk _ bu ce M2 BN hR hp2 (lI (x:= .tmp r) ha' rfl) hag hsz
 .rw[results_tmp hres,hg]
 .have e:results fn (aY ce a' D').tmps=pure ((aY ce a' D').tmps.getD r undef):=by simp[results,hres]
  rw[e];rfl
theorem J8 {ops:Array Oper}{i:Nat}{rest:List Nat}{o:Oper}{f2:FuncId}(targs:Array Value){R2:Value->World->Prop}(ho:ops[i]? =some o)(hg:o.guard=none)(hdst:∀t,o.dst=some t->t∉sl D)
  (hrun:∀(π:Nat->Nat) (w:World),(execOp (aY π a D).eval o).runT PP w #[]=(.ok (.enter f2 targs) w,#[])) (hcc:CCt Ok f2 targs R2 wL)
  (h:∀v w',R2 v w'->wL.heap.size<=w'.heap.size->eX Ok r f D (.inRegion ops rest::k) R (a.put o.dst v) w'):eX Ok r f D (.inRegion ops (i::rest)::k) R a wL:=λCS π M tr hp ha hd hk=>by
 have hwd:∀c:Array Value,Region.wanted o (yielded ops c)=true:=λc=>by simp[Region.wanted,hg]
 have hkb:(base f).kind≠.early:=by simp[base]
 have hr:∀w,(execOp (aY π a D).eval o).run PP w= .ok (.enter f2 targs) w:=λw=>by rw[<-Sem.runT_fst PP _ w #[],hrun]
 have hl0:∀w,listed PP (base f).fn (aY π a D) o w=#[]:=λw=>by
  unfold listed;rw[show(execOp (aY π a D).eval o).events PP w #[]=#[] from congrArg Prod.snd (hrun π w)];simp[seen]
 refine eu hp (λw=>by rw[stepG_enter ho (hwd _) hkb (hr w),hl0]) λM1 Il hp1=>?_
 refine hcc _ CS π M1 Il hp1 λv bu ce M' j7 ⟨t,d,hR⟩ hp' hv hag hsz=>?_
 have hc:eX Ok r f D (.inRegion ops rest::k) R (a.put o.dst v) bu:=(i9 t d).1 (h v _ hR hsz);have e:((base f).at (aY π a D) (.inRegion ops (i::rest)::k)).finish (Value.ren ce v)=(base f).at (aY ce (a.put o.dst v) D) (.inRegion ops rest::k):=by
  rw[Frame.finish_at,ho,Option.bind_some,kC ha hag,hY _ _ _ _ hdst]
 rw[e] at hp';exact hc CS ce M' j7 hp' (jt (VA.grow ha hsz) hv) ((put_defers _ _ _).trans hd) λa2 D2 BH vb M2 BN todo r2 rr p v d g2 z=>hk a2 D2 BH vb M2 BN todo r2 rr p v d (λb hb=>(g2 b (Nat.lt_of_lt_of_le hb hsz)).trans (hag b hb)) (Nat.le_trans hsz z)
theorem sM {c:Code}(I:kf->Act->World->Prop)(μ:Act->World->Nat)(h0:I D a wL)
  (round:∀D a w,I D a w->(∀D' a' w',I D' a' w'->μ a' w'<μ a w->eX Ok r f D' (.inLoop c::k) R a' w')->eX Ok r f D (.code c::.inLoop c::k) R a w):eX Ok r f D (.code (.loop c)::k) R a wL:=by
 have key:∀n D a w,I D a w->μ a w=n->eX Ok r f D (.code c::.inLoop c::k) R a w:=by
  intro n
  induction n using Nat.strongRecOn with
  |_ n ih=>exactλD a w hI hn=>round D a w hI λD' a' w' hI' hl=>FJ (ih _ (hn▸hl) D' a' w' hI' rfl)
 exact NZ (key _ _ _ _ h0 rfl)
theorem J7 {ops:Array Oper}{i:Nat}{rest:List Nat}{o:Oper}(q:Nat)(ob:Obj)(hq:Ok.K q=some ob)(v:Value)(hv:∀r,¬Value.Has r v)(ho:ops[i]? =some o)(hwd:∀π,Region.wanted o (yielded ops (aY π a D).tmps)=true)(hdst:∀t,o.dst=some t->t∉sl D)
  (hrun:∀(π:Nat->Nat) (w:World),w.heap[q]? =some ob->(execOp (aY π a D).eval o).run PP w= .ok (.value v) w)
  (hev:∀(π:Nat->Nat) (w:World),w.heap[q]? =some ob->∀e∈(execOp (aY π a D).eval o).events PP w #[],e.sync=false/\aF.ll q e.loc)
  (h:eX Ok r f D (.inRegion ops rest::k) R (a.put o.dst v) wL):eX Ok r f D (.inRegion ops (i::rest)::k) R a wL:=λCS π M tr hp ha hd hk=>by
 have hkb:(base f).kind≠.early:=by simp[base]
 obtain⟨Sh,own,w,h1,h2,h3,h4,h5⟩:=hp
 let KK:Nat->Prop:=λq=>∃o,Ok.K q=some o
 have kk:∀q,KK q->q<w.heap.size/\∀l,aF.ll q l->¬Sh l:=λq ⟨o,hq⟩=>⟨(Array.getElem?_eq_some_iff.1 (h5 q o hq).2.1).1,(h5 q o hq).2.2⟩
 have hA:=h3.union KK kk;have e:=hY (π:=π) a D o.dst v hdst;rw[eQ v λr hr=>absurd hr (hv r)] at e;have tree:aD PP true li (λs g w'=>s=(λb=>own b\/KK b)/\g=G ((base f).at (aY π (a.put o.dst v) D) (.inRegion ops rest::k)) CS/\∃d,w'=w.at d) (λb=>own b\/KK b) (G ((base f).at (aY π a D) (.inRegion ops (i::rest)::k)) CS) w:=by
  refine aD.step rfl λw₁ hR=>?_
  obtain⟨d,rfl⟩:=hR;have hw:(w.at d).heap[q]? =some ob:=(h5 q ob hq).2.1;refine⟨_,w.at d,_,stepG_value ho (hwd π) hkb (hrun π _ hw),⟨Nat.le_refl _,λ_ _ _=>rfl,rfl,rfl,rfl,λev he=>?_⟩,?_⟩
  .obtain⟨_,hb⟩:=hev π _ hw ev (by simpa using mem_listed (fn:=(base f).fn) he)
   exact .inl ⟨q,.inl (.inr ⟨ob,hq⟩),hb⟩
  .rw[Gk,e]
   exact .stop λw₂ ⟨d2,e2⟩=>⟨rfl,rfl,d2,by rw[e2];rfl⟩
 obtain⟨N,M',t',g',w',e1,e2,⟨s',⟨rfl,rfl,d,rfl⟩,e4⟩,e5,_⟩:=kW h1 (vL tree hA);exact Ok.back _ _ _ _ _ e1 (h CS π M' t' ⟨Sh,own,_,e2,h2.at d,e4.part λb hb=> .inl hb,h4,h5⟩ (jt ha λr hr=>absurd hr (hv r)) ((put_defers _ _ _).trans hd) hk)
theorem x8 {ops:Array Oper}{i:Nat}{rest:List Nat}{o:Oper}(q:Nat)(ob:Obj)(hq:Ok.K q=some ob)(v:Value)(hv:∀r,¬Value.Has r v)(ho:ops[i]? =some o)(hg:o.guard=none)(hdst:∀t,o.dst=some t->t∉sl D)
  (hrun:∀(π:Nat->Nat) (w:World),w.heap[q]? =some ob->(execOp (aY π a D).eval o).run PP w= .ok (.value v) w)
  (hev:∀(π:Nat->Nat) (w:World),w.heap[q]? =some ob->∀e∈(execOp (aY π a D).eval o).events PP w #[],e.sync=false/\aF.ll q e.loc)
  (h:eX Ok r f D (.inRegion ops rest::k) R (a.put o.dst v) wL):eX Ok r f D (.inRegion ops (i::rest)::k) R a wL:=
 J7 q ob hq v hv ho (λπ=>by simp[Region.wanted,hg]) hdst hrun hev h
end
theorem C4 {f:FuncId}{fn:Func}{cd:Code}{r:Tmp}{args:Array Value}{W:World}{H:Nat->Prop}{K:Nat->Option Obj}{wL:World}{R2:Value->World->Prop}{Post:Value->World->Prop}(hf:PP.funcs[f]? =some fn)(hb:fn.body=some cd)(hi:PP.inits.idxOf? f=none)(hres:fn.results=#[.tmp r])
  (hl:Link H no (λb=>b<W.heap.size/\K b=none) no id wL W) (hKW:∀q o,K q=some o->W.heap[q]? =some o) (a0:Act) (D0:kf) (ha0:VA H wL a0.tmps) (hd0:a0.defers=[]) (he:aY id a0 D0={tmps:=args++Array.replicate (fn.ntmps-args.size) undef,defers:=[]}) (hsz:wL.heap.size=W.heap.size)
  (h:eX (TA Post W H K) r f D0 [.code cd] (λa w=>R2 (a.tmps.getD r undef) w) a0 wL)
  (post:∀(v:Value) (bu:World) (π:Nat->Nat) (own:Nat->Prop) (w':World),(∃t d,R2 v (ax bu t d))->Link H no own no π bu w'->VV (gp H bu) v->(∀b,b<W.heap.size->π b=b)->W.heap.size<=bu.heap.size->W.heap.size<=w'.heap.size->ConcM.OsLater W.os w'.os->w'.output=W.output->(∀q o,K q=some o->w'.heap[q]? =some o)->Post (Value.ren π v) w'):
  OB Post (solo (G (Frame.enter PP f args .normal) []) W) #[]:=by
 have hz:Zero PP (λ_=>False) (solo (G (Frame.enter PP f args .normal) []) W) #[] (G (Frame.enter PP f args .normal) []) W:=
  ⟨⟨_,none,_,rfl,rfl,leavers_one PP _,by simp[Ze]⟩,⟨past_nil.clean,λi a ha=>absurd ha (by simp[touchAt,Trace.act?]),past_nil.over,rfl,by simp⟩⟩
 have hp:Bq (TA Post W H K) id wL (solo (G (Frame.enter PP f args .normal) []) W) #[] (G (Frame.enter PP f args .normal) []):=⟨λ_=>False,_,W,hz,hl,⟨λb hb l hl h=>h,λb hb=>hb.1,λl b h=>h.elim,λl h=>h.elim⟩,⟨.refl _,rfl⟩,λq o (ho:K q=some o)=>⟨λhb=>(by rw[hb.2] at ho;cases ho),hKW q o ho,λ_ _ h=>h⟩⟩
 rw[enter_at _ hf hb,<-he] at hp;rw[enter_at _ hf hb,<-he];refine h [] id _ _ hp ha0 hd0 λa' D' bu ce M' j7 todo hrD hR hp' ha' hd' hag hsz'=>?_
 have hgo:=zY (a:=a') (π:=ce) hrD;obtain⟨Dead,own,w,hz',hl',hs,hos,hkf⟩:=hp';obtain⟨gs,sl,q,rfl,h0,hL,_⟩:=hz'.ex;have hvv:VV (gp H bu) (a'.tmps.getD r undef):=lI (x:= .tmp r) ha' rfl;have ag7:W.heap.size<=w.heap.size:=by
  rcases Nat.eq_zero_or_pos W.heap.size with h0|h0
  .omega
  .have h1:=hl'.lt (W.heap.size-1) (by omega)
   rw[hag _ (by omega)] at h1;have h2:W.heap.size-1<w.heap.size:=h1;omega
 have hpost:=λw'' (d:Nat) (e:w''=w.at d)=>post (a'.tmps.getD r undef) bu ce own w'' hR (by rw[e];exact hl'.at d) hvv (λb hb=>(hag b (by rw[hsz];exact hb)).trans rfl) (hsz▸hsz') (by rw[e];exact ag7) (by rw[e];exact hos.1) (by rw[e];exact hos.2) λq o hq=>by rw[e];exact(hkf q o hq).2.1
 refine beside_ends (Shun:=Dead) (B:=w.heap.size) (D:=λ_ _ _=>False) (λ_ _ _ h=>h.elim) (n:=0) h0 hL hz'.past λw₁ ⟨d,e⟩=>⟨rfl,Value.ren ce (a'.tmps.getD r undef),#[],?_,by simp,hpost w₁ d e⟩
 have hr:(results fn (aY ce a' D').tmps).run PP w₁= .ok (Value.ren ce (a'.tmps.getD r undef)) w₁:=by
  rw[results_tmp hres];rw[hgo]
 have he:(results fn (aY ce a' D').tmps).events PP w₁ #[]=#[]:=by
  have e:results fn (aY ce a' D').tmps=pure ((aY ce a' D').tmps.getD r undef):=by simp[results,hres]
  rw[e];rfl
 simp[G,stepG,unwind,doReturn,Frame.at,base,hf,hi,aY,xj] at hr he⊢;rw[hr,he];have hi2:=hi;simp at hi2;simp[seen,GStep.after,hi2]
end ah
end
section
open Go.Conc Go.RowKit Go.Lib Go.Sort
def rn (u:Nat->Value):Nat->Nat->List Value->List Value
 |_,0,r=>r
 |i,n+1,r=>u i::rn u (i+1) n r
namespace ah
section
variable {Ok:Env}{r:Nat}{f:FuncId}{D:kf}{k t:List Item}{R:Act->World->Prop}{a:Act}{wL w1:World}{ops:Array Oper}{i:Nat}{rest:List Nat}{o:Oper}
theorem eP (x:Operand)(ho:ops[i]? =some o)(hop:o.op= .assign x\/o.op= .move x)(qk:eG (sl D) PP S0 E0 true o=true)(hg:o.guard=none)
  (h:eX Ok r f D (.inRegion ops rest::k) R (a.put o.dst (a.eval x)) wL):eX Ok r f D (.inRegion ops (i::rest)::k) R a wL:=by
 refine NY ho qk hg λt d=>?_
 have e:(execOp a.eval o).run PP (ax wL t d)= .ok (.value (a.eval x)) (ax wL t d):=by
  unfold execOp;rcases hop with hop|hop<;>rw[hop]<;>rfl
 rw[e];exact(i9 t d).2 h
theorem ig (v:Value)(ho:ops[i]? =some o)(qk:eG (sl D) PP S0 E0 true o=true)(hg:o.guard=none)
  (hr:∀t d,(execOp a.eval o).run PP (ax wL t d)= .ok (.value v) (ax w1 t d)) (h:eX Ok r f D (.inRegion ops rest::k) R (a.put o.dst v) w1):eX Ok r f D (.inRegion ops (i::rest)::k) R a wL:=by
 refine NY ho qk hg λt d=>?_
 rw[hr];exact(i9 t d).2 h
theorem DK (v:Value)(ho:ops[i]? =some o)(qk:eG (sl D) PP S0 E0 true o=true)(hw:∀π,Region.wanted o (yielded ops (aY π a D).tmps)=true)
  (hr:∀t d,(execOp a.eval o).run PP (ax wL t d)= .ok (.value v) (ax w1 t d)) (h:eX Ok r f D (.inRegion ops rest::k) R (a.put o.dst v) w1):eX Ok r f D (.inRegion ops (i::rest)::k) R a wL:=by
 refine vQ ho qk hw λt d=>?_
 rw[hr];exact(i9 t d).2 h
theorem lK (a':Act)(e:a=a')(h:eX Ok r f D t R a' wL):eX Ok r f D t R a wL:=e▸h
theorem eN (B:(Nat->Value)->Act)(e:a=B λi=>a.tmps.getD i undef)(h:∀u,eX Ok r f D t R (B u) wL):eX Ok r f D t R a wL:=e▸h _
theorem Hi (D':kf)(e:D=D')(h:eX Ok r f D' t R a wL):eX Ok r f D t R a wL:=e▸h
theorem xQ {π:Nat->Nat}{x:Operand}{q:IntKind}{n:Int}(hx:nJ x=true)(ho:iT (sl D) x=true)(h:a.eval x= .int q n):(aY π a D).eval x= .int q n:=(k8 a D hx ho).trans (by rw[h];simp)
theorem aid (t:TypeId)(x:Operand)(ho:ops[i]? =some o)(hop:o.op= .load t x)(qk:eG (sl D) PP S0 E0 true o=true)(hg:o.guard=none)
  (ha:(Tryz.prog.underlying t).map (λd=>match d with|.struct _|.array _ _=>true|_=>false)=some false) (b:Addr) (hx:a.eval x= .pointer (some b)) (v:Value) (hc:wL.cell? b=some v)
  (h:eX Ok r f D (.inRegion ops rest::k) R (a.put o.dst v) wL):eX Ok r f D (.inRegion ops (i::rest)::k) R a wL:=by
 refine ig (w1:=wL) v ho qk hg (λt' d=>?_) h;have hc':(ax wL t' d).cell? b=some v:=hc;have h1:aF.RT (kd.load t (.pointer (some b))).sem (ax wL t' d) (.value v) (ax wL t' d) #[⟨.cell b,false,false⟩]:=by
  refine aF.RT.eD (x:=v) ?_ (.pure _);show aF.RT (do if<-isAgg t then Pure.pure (.agg (<-loadCells b (<-Go.sizeOf t))) else load b) _ _ _ _;refine(aF.fM ha).aN ?_;simp only[Bool.false_eq_true,if_false];exact aF.jD hc'
 have:=h1.run;unfold execOp;rw[hop];show(do pure (.value (<-Instr.loadAt t (a.eval x))):Sem Next).run _ _=_;rw[hx];exact this
theorem NX {l:List Nat}(fS:Option Nat)(hr:r∉sl D)(h0:∃fn,PP.funcs[f]? =some fn)(Bv:bV (sl D) PP S0 E0 true (.inRegion ops l)=true)(hx:∀id,fS=some id->∃y,exitTo id k=some y)
  (I:World->Prop) (hb:∀w t d,I w->I (ax w t d)) (hI:I wL) (hwp:∀w,I w->w.heap.size=wL.heap.size->wpOps PP ops (yt Ok r fS f D k R) l a w):eX Ok r f D (.inRegion ops l::k) R a wL:=
 DM (t0:=[.inRegion ops l]) fS hr h0 (λit hit=>by simp at hit;subst hit;exact Bv) hx λt d b k cs=>wp_ops l a _ (hwp _ (hb _ t d hI) rfl) b k cs
theorem mK {l:List Nat}(m:Nat)(hl:l=List.range' m (ops.toList.drop m).length)(hr:r∉sl D)(h0:∃fn,PP.funcs[f]? =some fn)(Bv:bV (sl D) PP S0 E0 true (.inRegion ops l)=true)
  (I:World->Prop) (hb:∀w t d,I w->I (ax w t d)) (hI:I wL) (hwp:∀w,I w->w.heap.size=wL.heap.size->wpList PP ops (yt Ok r none f D k R) (ops.toList.drop m) a w):eX Ok r f D (.inRegion ops l::k) R a wL:=by
 refine NX none hr h0 Bv (by simp) I hb hI λw h1 h2=>?_
 rw[hl,wpOps_eq_wpList (ops.toList.drop m) m λj=>by rw[List.getElem?_drop,Array.getElem?_toList]];exact hwp w h1 h2
end
end ah
theorem CN {w w':World}{q off:Nat}{ob:Obj}{l:List Value}(h:w.rangeAt q off l)(hq:w.heap[q]? =some ob)(hq':w'.heap[q]? =some ob):w'.rangeAt q off l:=λi v hv=>by
 have:=h i v hv;unfold World.cell? at this⊢;rw[hq] at this;rw[hq'];exact this
namespace aF
theorem VR {w:World}{t:TypeId}{m:Nat}(b off len cap j:Nat)(hj:j<len)(ht:PP.underlying t=some (.slice (PP.elem t)))(hm:(PP.info? (PP.elem t)).map (·.size)=some m):
  RT (Instr.indexAt t (.slice (some ⟨b,off,none⟩) len cap) (.int .i64 j)) w (.pointer (some ⟨b,off+j*m,none⟩)) w #[]:=by
 unfold Instr.indexAt;refine RT.aN (x:=(IntKind.i64,(j:Int))) (.pure _) ?_;refine(fJ ht).aN ?_;refine RT.aN (.pure _) ?_;refine(fJ ht).aN ?_;simp only;rw[if_pos ⟨by omega,by omega⟩];refine(pp hm).aN ?_;have e:(Addr.add ⟨b,off,none⟩ ((j:Int).toNat*m))=⟨b,off+j*m,none⟩:=by rw[Int.toNat_natCast,Addr.add_mid]
 rw[e];exact .pure _
end aF
section
variable {o:Oper}{x y:Operand}
theorem Fb {t:TypeId}{m:Nat}(ht:ah.PP.underlying t=some (.slice (ah.PP.elem t)))(hm:(ah.PP.info? (ah.PP.elem t)).map (·.size)=some m)(b off len cap j:Nat)(hj:j<len)(a:Act)(hop:o.op= .indexAddr t x y)(hx:a.eval x= .slice (some ⟨b,off,none⟩) len cap)(hy:a.eval y= .int .i64 j)(w:World):
  (execOp a.eval o).runT ah.PP w #[]=(.ok (.value (.pointer (some ⟨b,off+j*m,none⟩))) w,#[]):=by
 have h:aF.RT (do pure (.value (<-Instr.indexAt t (a.eval x) (a.eval y))):Sem Next) w (.value (.pointer (some ⟨b,off+j*m,none⟩))) w #[]:=by
  rw[hx,hy];exact(aF.VR b off len cap j hj ht hm).aN (.pure _)
 unfold execOp;rw[hop];exact h #[]
theorem vK {t:TypeId}{b off:Nat}{ob:Obj}{vs:Array Value}{w:World}(hn:(ah.PP.info? t).map (·.size)=some vs.size)(h0:0<vs.size)(hw:w.heap[b]? =some ob)(hra:∀w:World,w.heap[b]? =some ob->w.rangeAt b off vs.toList)(a:Act)(hop:o.op= .load t x)(ha:(ah.PP.underlying t).map (λd=>match d with|.struct _|.array _ _=>true|_=>false)=some true:=by kernel_rfl)(hx:a.eval x= .pointer (some ⟨b,off,none⟩):=by kernel_rfl):
  (execOp a.eval o).run ah.PP w= .ok (.value (.agg vs)) w/\∀e∈(execOp a.eval o).events ah.PP w #[],e.sync=false/\aF.ll b e.loc:=by
 have hr:=hra w hw;have hcell:∀i,i<vs.size->w.cell? ⟨b,off+i,none⟩=vs[i]? :=λi hi=>by
  have:=hr i vs[i] (by rw[Array.getElem?_toList,Array.getElem?_eq_getElem hi]);rw[this,Array.getElem?_eq_getElem hi]
 obtain⟨cs,u,f,rfl⟩:∃cs u f,ob= .cells cs u f:=by
  have:=hcell 0 h0;rw[Array.getElem?_eq_getElem h0] at this;unfold World.cell? at this;rw[hw] at this;cases ob with
  |cells cs u f=>exact⟨cs,u,f,rfl⟩
  |_=>cases this
 have hc:∀i,i<vs.size->cs[off+i]? =vs[i]? :=λi hi=>by
  have:=hcell i hi;unfold World.cell? at this;rw[hw] at this;simpa using this
 have hle:off+vs.size<=cs.size:=by
  have:=hc (vs.size-1) (by omega);rw[Array.getElem?_eq_getElem (by omega:vs.size-1<vs.size)] at this;have:=(Array.getElem?_eq_some_iff.1 this).1;omega
 have he:cs.extract off (off+vs.size)=vs:=by
  apply Array.ext_getElem?
  intro i;rw[Array.getElem?_extract]
  by_cases hi:i<vs.size
  .rw[if_pos (by omega),hc i hi]
  .rw[if_neg (by omega),Array.getElem?_eq_none (by omega)]
 obtain⟨ev,h1,h2⟩:=aF.jM (t:=t) (off:=off) (n:=vs.size) hw ha hn hle;rw[he] at h1;have h3:execOp a.eval o=(kd.load t (.pointer (some ⟨b,off,none⟩))).sem:=by
  unfold execOp;rw[hop];show(do pure (.value (<-Instr.loadAt t (a.eval x))):Sem Next)=_;rw[hx];rfl
 rw[h3];refine⟨h1.run,λe he=>(h2 e ?_).1⟩;have h4:(kd.load t (.pointer (some ⟨b,off,none⟩))).sem.events ah.PP w #[]=#[]++ev:=congrArg Prod.snd (h1 #[]);rw[h4] at he;simpa using he
end
theorem G5 {k sd pt:Int}{ct:ByteArray}:∀r,¬Value.Has r (.agg (dy k sd pt ct)):=λr h=>by
 cases h with
 |agg hv h=>
  simp[dy] at hv;rcases hv with rfl|rfl|rfl|rfl<;>cases h
end
section
open Go.RowKit Go.Lib Go.Sort
def EW (sv x y z:Value):kf:=[(0,sv),(53,x),(63,y),(65,z)]
section
variable {sv x y z:Value}
theorem nI:2∉sl (EW sv x y z):=by simp[sl,EW]
theorem tD:(sl (EW sv x y z)).Nodup:=by simp[sl,EW]
theorem Wi:53∈sl (EW sv x y z):=by simp[sl,EW]
theorem Wh:63∈sl (EW sv x y z):=by simp[sl,EW]
theorem Wf:65∈sl (EW sv x y z):=by simp[sl,EW]
end
def Hz (K:Nat->Option Obj)(ad:Option Addr)(l:List fj):Prop:=∀j,(hj:j<l.length)->(l[j]).Ok/\∃b off,ad=some ⟨b,off,none⟩/\∃ob,K b=some ob/\∀w:World,w.heap[b]? =some ob->w.rangeAt b (off+j*4) (l[j]).cells.toList
open aF aF.Sq in
theorem Kb {E:ah.Env}{wL:World}(ad:Option Addr)(cap:Nat)(l:List fj)(h:Hz E.K ad l)(hG:pk wL):
  ah.CCt E 30 #[.slice ad l.length cap] (Gd l wL) wL:=by
 refine ah.FN (r:=2) {tmps:=#[undef,undef,undef,undef,undef,undef,undef,undef,undef,undef,undef,undef,undef,undef,undef,undef,undef,undef,undef,undef,undef,undef,undef,undef,undef,undef,undef,undef,undef,undef,undef,undef,undef,undef,undef,undef,undef,undef,undef,undef,undef,undef,undef,undef,undef,undef,undef,undef,undef,undef,undef,undef,undef,undef,undef,undef,undef,undef,undef,undef,undef,undef,undef,undef,undef,undef,undef,undef,undef,undef,undef,undef,undef,undef,undef],defers:=[]} (EW (.slice ad l.length cap) undef undef undef) Tryz.func30 rfl rfl (λv hv=>?_) rfl (λπ=>by kernel_rfl) ?_
 .simp only[List.mem_toArray,List.mem_cons,List.not_mem_nil,or_self,or_false] at hv
  subst hv;exact gG
 refine ah.cO ?_;refine ah.dH none nI ⟨_,Tryz.func30⟩ (by kernel_rfl) (by simp) (λw=>dl [] wL w) (λw t k h=>h.tape t k) (dl.refl _ _) λw hB hsz=>?_
 clear hsz;go_wp2_with fail;refine ah.cO ?_;refine ah.dH none nI ⟨_,Tryz.func30⟩ (by kernel_rfl) (by simp) (λw=>dl [] wL w) (λw t k h=>h.tape t k) hB λw2 hB2 hsz=>?_
 clear hB hsz;go_wp2_with fail;refine(GN 200 w2 (by omega) (by omega)).mono ?_;rintro e w3 ⟨s,d,F,rfl,hs,f3,g3,l3⟩;have hC:aT w3 F s d (ez 200) 0 H0:=⟨hs,kF 200,qB,by omega⟩
 have hB:dl [] wL w3:=hB2.trans f3.blk;have hg:bL [] F wL:=(bL.refl [] wL).trans g3 hB2.size;have hls:wL.heap.size<=s:=Nat.le_trans hB2.size l3;clear hs f3 g3 l3 hB2;go_wp2_with fail;refine ah.cO ?_
 refine ah.dH none nI ⟨_,Tryz.func30⟩ (by kernel_rfl) (by simp) (λw=>aT w F s d (ez 200) 0 H0/\dl [] wL w) (λw t k h=>⟨h.1.ax t k,h.2.tape t k⟩) ⟨hC,hB⟩ λw4 hI hsz=>?_
 clear hC hB hsz;obtain⟨hC,hB⟩:=hI;go_wp2_with fail
 obtain⟨L1,q1,q2⟩:=sn (kF 200) qB.eight (by decide) 0 [97] [102,105,114,115,116] (by decide) (by decide);have KC:Hid (tK=L1):=by
  show _=_;unfold tK;exact(congrArg (λz:DS×Value=>z.1.aR) (q2 0)).trans rfl
 have OG:Hid ((DS.calm (ez 200) 0).pR 200 0 ⟨#[97]⟩ mg=(DS.calm L1 5,.int .i64 0)):=((th (kF 200) qB 0 [97] [102,105,114,115,116] Oz 0).trans (q2 0)).trans (by rw[Int.zero_add]);refine ah.cO ?_
 refine ah.dH none nI ⟨_,Tryz.func30⟩ (by kernel_rfl) (by simp) (λw=>aT w F s d (ez 200) 0 H0/\dl [] wL w) (λw t k h=>⟨h.1.ax t k,h.2.tape t k⟩) ⟨hC,hB⟩ λw4 hI hsz=>?_
 clear hC hB hsz;obtain⟨hC,hB⟩:=hI;go_wp2_with fail;refine(tg F s d 200 _ 0 ⟨#[97]⟩ mg w4 hC.store (oR _ _ _ (by omega)) (by show 0<55;omega) (by omega) (by decide) (by decide) (by decide)).mono ?_;rintro e w5 ⟨rfl,⟨F1,hs1,g1⟩,f1⟩;rw[OG.out] at hs1⊢;have fh:aT w5 F1 s d L1 5 H1:=⟨hs1,q1,Le,by omega⟩
 have hB1:dl [] wL w5:=jP hg f1.blk hB;have hg1:bL [] F1 wL:=hg.trans g1 hB.size;clear hC hB hs1 f1 g1 OG q1 q2 hg;go_wp2_with fail
 refine ah.cO (ah.eB (ah.eP _ rfl (.inr rfl) (by kernel_rfl) rfl ?_))
 refine ah.oZ (f2:=31) #[.tmp 24] #[.pointer (some ⟨s,0,none⟩)] (R2:=sV F1 s d 200 (DS.calm L1 5) w5) rfl rfl (by kernel_rfl) (by kernel_rfl) (cX (by kernel_rfl)) (λb w=>by kernel_rfl) (by kernel_rfl) (sP fh.store (hG.blk hB1 (by simp)) (hg1.nil hG) (fh.ok (by omega))) λv w6 hR _=>?_
 obtain⟨ps,cv,F2,L2,k2,rfl,hP,hC2,hg2,hB2,hk0,hk1,_,hcv,_,hsl⟩:=fh.synced hR;have HST:Hid (st0=(L2,5+k2,cz H1)):=by
  show _=_;unfold st0;rw[KC.out,hsl]
 clear hsl KC;rw[KY hP];have hB2':dl [] wL w6:=jP hg1 hB2 hB1;have MM:bL [] F2 wL:=hg1.trans hg2 hB1.size;obtain⟨FS,qS,A6⟩:=bQ hcv;generalize (jy H1 ps).length=cl at A6;subst A6;clear hcv hR fh hB1 hg1 hg2 hB2 hP
 refine ah.eP _ rfl (.inr rfl) (by kernel_rfl) rfl (ah.ig (w1:=w6) (.agg #[.int .i64 1,.slice FS cl qS]) rfl (by kernel_rfl) rfl (λt d=>by kernel_rfl) (ah.ig (w1:=w6) (.int .i64 0) rfl (by kernel_rfl) rfl (λt d=>by kernel_rfl) ?_))
 refine ah.lK {tmps:=(undef::undef::.pointer none::.pointer (some ⟨s,0,none⟩)::.int .i64 0::.int .i64 0::rn (λ_=>undef) 0 5 (.tuple #[.pointer (some ⟨s,0,none⟩),.int .i64 0]::.tuple #[.pointer (some ⟨s,0,none⟩),.int .i64 0]::.pointer (some ⟨s,0,none⟩)::.int .i64 0::.pointer (some ⟨s,0,none⟩)::.bool false::.bool false::.int .i64 0::.bool false::.bool false::.pointer (some ⟨s,0,none⟩)::.int .i64 0::.tuple #[.agg #[.int .i64 1,.slice FS cl qS],.int .i64 0]::.pointer (some ⟨s,0,none⟩)::.tuple #[.agg #[.int .i64 1,.slice FS cl qS],.int .i64 0]::.agg #[.int .i64 1,.slice FS cl qS]::.int .i64 0::rn (λ_=>undef) 0 47 [])).toArray,defers:=[]} (by kernel_rfl) ?_
 simp only[rn];refine ah.mK 5 rfl nI ⟨_,Tryz.func30⟩ (by kernel_rfl) (λw=>aT w F2 s d L2 (5+k2) (cz H1)/\dl [] wL w) (λw t k h=>⟨h.1.ax t k,h.2.tape t k⟩) ⟨hC2,hB2'⟩ λw7 hI _=>?_
 clear hC2 hB2';obtain⟨hC,hB⟩:=hI;show wpList _ _ _ [_,_,_] _ _;refine az rfl ?_;refine al.go (bi rfl 58 rfl _ iy ?_);intro w8 b8 l8 f8 r8;go_wp2_with (with_reducible first|refine af 58 rfl ?_);refine al.go (ft rfl 58 _ _ rfl b8 rfl #[.int .i64 1,.slice FS cl qS] rfl dU (by simp[Value.oneCell']) _ _ r8 rfl ?_);intro w9 f9 r9
 have f79:aO [] w7 w9:=f8.trans f9 (by simpa using l8);have XF:=hC.new f79;have Tp:=hB.trans f79.blk;clear hC hB f8 f9 r8 l8 f79;go_wp2_with fail
 have OH:Hid ((DS.calm L2 (5+k2)).get 200 1 ⟨#[97]⟩=(.string mg,0)):=by
  show _=_;have h1:=Has.content (x:=DS.calm L2 (5+k2)) XF.has rfl 1 [97];rw[SJ] at h1;unfold DS.get;rw[show(DS.calm L2 (5+k2)).failed=false from rfl,if_neg (by simp)];have h2:(DS.calm L2 (5+k2)).content 200 1 ⟨#[97]⟩=some [102,105,114,115,116]:=h1;rw[show((1:Nat):Int)=1 from rfl,h2];rfl
 refine ah.cO ?_;refine ah.dH none nI ⟨_,Tryz.func30⟩ (by kernel_rfl) (by simp) (λw=>aT w F2 s d L2 (5+k2) (cz H1)/\dl [] wL w/\Row w b8 #[.int .i64 1,.slice FS cl qS] 58) (λw t k h=>⟨h.1.ax t k,h.2.1.tape t k,h.2.2⟩) ⟨XF,Tp,r9⟩ λw4 hI hsz=>?_
 clear XF Tp r9 hsz;obtain⟨hC,hB,r8⟩:=hI;go_wp2_with fail;refine(A9 F2 s d 200 _ 1 ⟨#[97]⟩ w4 hC.store (by omega) (by decide) (by decide)).mono ?_;rintro e w5 ⟨rfl,f5⟩;rw[OH.out];have hC5:=hC.new f5;have Rc:=hB.trans f5.blk;have r5:=f5.row r8;clear OH hC hB r8 f5;go_wp2_with fail;refine ah.cO ?_
 refine ah.dH none nI ⟨_,Tryz.func30⟩ (by kernel_rfl) (by simp) (λw=>aT w F2 s d L2 (5+k2) (cz H1)/\dl [] wL w/\Row w b8 #[.int .i64 1,.slice FS cl qS] 58) (λw t k h=>⟨h.1.ax t k,h.2.1.tape t k,h.2.2⟩) ⟨hC5,Rc,r5⟩ λw4 hI hsz=>?_
 clear hC5 Rc r5 hsz;obtain⟨hC,hB,r8⟩:=hI;have c8:w4.cell? ⟨b8,0,none⟩=some (.int .i64 1):=by rw[r8.cell];rfl
 have hfl:(!mg.toList==[102,105,114,115,116])=false:=by rw[show mg=aB [102,105,114,115,116] from rfl,lL];rfl
 go_wp2_with fail;clear hfl c8 r8
 refine ah.cO (ah.cO ?_);refine ah.dH none nI ⟨_,Tryz.func30⟩ (by kernel_rfl) (by simp) (λw=>aT w F2 s d L2 (5+k2) (cz H1)/\dl [] wL w) (λw t k h=>⟨h.1.ax t k,h.2.tape t k⟩) ⟨hC,hB⟩ λw5 hI hsz=>?_
 clear hC hB hsz;obtain⟨hC,hB⟩:=hI;go_wp2_with fail;refine ah.pO ?_;refine ah.eN (j4 undef s 0) (by kernel_rfl) λu=>?_
 refine ah.sM (λD a w=>∃(x y z:Value) (k:Nat) (F:List Nat) (L:List UInt8) (aa:Int) (H:bE) (u:Nat->Value),D=EW (.slice ad l.length cap) x y z/\a=j4 undef s k u/\k<=l.length/\k<=300/\aT w F s d L aa H/\aa<=100+80*k/\bL [] F wL/\dl [] wL w/\Hid (oy (l.take k)=(L,aa,H))) (λa _=>300-(intOf (a.tmps.getD 10 undef)).toNat)
  ⟨_,_,_,0,F2,L2,5+k2,cz H1,u,rfl,rfl,by omega,by omega,hC,by omega,MM,hB,HST⟩ ?_
 clear hC hB MM u HST;rintro D a w ⟨x,y,z,k,Fk,Lk,ak,Hk,u,rfl,rfl,hkl,hk3,hC,hak,JE,hB,HR⟩ ih
 have ih':∀(x y z:Value) (k':Nat) (F:List Nat) (L:List UInt8) (aa:Int) (H:bE) (u:Nat->Value) (w':World),k'=k+1->k'<=l.length->k'<=300->aT w' F s d L aa H->aa<=100+80*k'->bL [] F wL->dl [] wL w'->Hid (oy (l.take k')=(L,aa,H))->ah.eX _ _ _ (EW (.slice ad l.length cap) x y z) _ _ (j4 undef s k' u) w':=λx y z k' F L aa H u w' e1 e2 e3 e4 e5 e6 e7 e8=>ih _ _ _ ⟨x,y,z,k',F,L,aa,H,u,rfl,rfl,e2,e3,e4,e5,e6,e7,e8⟩ (by subst e1;simp[j4,intOf];omega)
 clear ih;unfold j4 at ih'⊢;refine ah.cO (ah.cO (ah.eB ?_));refine ah.eP _ rfl (.inr rfl) (by kernel_rfl) rfl (ah.ja 53 (.slice ad l.length cap) rfl rfl rfl tD Wi (λπ w=>by kernel_rfl) ?_);refine ah.Hi (EW (.slice ad l.length cap) (.slice ad l.length cap) y z) rfl ?_
 refine ah.tQ (.int .i64 l.length) (by intro r hr;cases hr) rfl rfl (cX (by kernel_rfl)) (λπ w=>by kernel_rfl) ?_;refine ah.ig (w1:=w) (.bool (decide ((k:Int)<(l.length:Int)))) rfl (by kernel_rfl) rfl (λt d=>by kernel_rfl) (ah.eP _ rfl (.inr rfl) (by kernel_rfl) rfl ?_)
 by_cases hlt:k<l.length
 .by_cases hlt3:k<300
  .obtain⟨hok,b,off,rfl,ob,hK,hra⟩:=h k hlt
   have HS:=λ(L':List UInt8) (N:Int)=>wK (L':=L') (N:=N) hlt HR.out
   clear HR;generalize l[k]=y at hok hra HS;replace HS:Hid _:=HS;have hd1:decide ((k:Int)<(l.length:Int))=true:=by simp;omega
   have hd2:decide ((k:Int)<300)=true:=by simp;omega
   rw[hd1];refine ah.lK {tmps:=(undef::u 1::u 2::.pointer (some ⟨s,0,none⟩)::rn u 4 6 (.int .i64 k::rn u 11 41 (.int .i64 k::u 53::.int .i64 l.length::.bool true::.bool true::rn u 57 18 []))).toArray,defers:=[]} (by kernel_rfl) ?_;simp only[rn]
   refine ah.vQ rfl (by kernel_rfl) (λπ=>by kernel_rfl) (λtt dd=>(show ah.eX _ _ _ _ _ _ _ (ax w tt dd) from(ah.i9 tt dd).2 ?_));refine ah.DK (w1:=w) (.bool (decide ((k:Int)<300))) rfl (by kernel_rfl) (λπ=>by kernel_rfl) (λt d=>by kernel_rfl) ?_;rw[hd2]
   refine ah.ig (w1:=w) (.bool true) rfl (by kernel_rfl) rfl (λt d=>by kernel_rfl) (ah.eA ?_);refine ah.lK {tmps:=(undef::u 1::u 2::.pointer (some ⟨s,0,none⟩)::rn u 4 6 (.int .i64 k::rn u 11 41 (.int .i64 k::u 53::.int .i64 l.length::.bool true::.bool true::.int .i64 k::.bool true::.bool true::rn u 60 15 []))).toArray,defers:=[]} (by kernel_rfl) ?_;simp only[rn]
   clear hd1 hd2;refine ah.oX (b:=true) rfl rfl ?_;rw[if_pos rfl];refine ah.DL (ah.cO (ah.pO (ah.cO (ah.eB ?_))));refine ah.eP _ rfl (.inr rfl) (by kernel_rfl) rfl (ah.ja 63 (.slice (some ⟨b,off,none⟩) l.length cap) rfl rfl rfl tD Wh (λπ w=>by kernel_rfl) (ah.eP _ rfl (.inr rfl) (by kernel_rfl) rfl ?_))
   refine ah.ja 65 (.pointer (some ⟨b,off+k*4,none⟩)) rfl rfl rfl tD Wf (λπ w=>Fb (m:=4) (x:= .tmp 63) (y:= .tmp 64) (by kernel_rfl) (by kernel_rfl) b off l.length cap k hlt _ rfl (by kernel_rfl) (ah.xQ (by kernel_rfl) (by kernel_rfl) (by kernel_rfl)) w) ?_
   refine ah.Hi (EW (.slice (some ⟨b,off,none⟩) l.length cap) (.slice (some ⟨b,off,none⟩) l.length cap) (.slice (some ⟨b,off,none⟩) l.length cap) (.pointer (some ⟨b,off+k*4,none⟩))) rfl ?_
   refine ah.x8 b ob hK (.agg y.cells) G5 rfl rfl (cX (by kernel_rfl)) (λπ w hw=>(vK (x:= .tmp 65) mJ (by show 0<4;omega) hw hra _ rfl).1) (λπ w hw=>(vK (x:= .tmp 65) mJ (by show 0<4;omega) hw hra _ rfl).2) ?_
   refine ah.oZ (f2:=17) #[.tmp 62,.tmp 66] #[.pointer (some ⟨s,0,none⟩),.agg (dy y.kind y.side y.path y.content)] (R2:=OI Fk s d 200 (DS.calm Lk ak) y.kind y.side y.path y.content w) rfl rfl (by kernel_rfl) (by kernel_rfl) (cX (by kernel_rfl)) (λb w=>by kernel_rfl) (by kernel_rfl)
    (N4 y.kind y.side y.path y.content hC.store (hG.blk hB (by simp)) (JE.nil hG) (oR _ _ _ hC.lo) (by show 0<55;omega) (λ_=>hC.ok (by omega)) hok.1.1 hok.1.2 hok.2.1.1 hok.2.1.2 hok.2.2.1 hok.2.2.2) λv w6 hR _=>?_
   obtain⟨rfl,F',L',N,hC',hg',hB',hN0,hN1,hal⟩:=hC.jc hR;have HR:=HS.out L' N hal;clear hal HS;have Fm:=Ea Hk y.kind y.side y.path y.content;have hgn:bL [] F' wL:=JE.trans hg' hB.size;have G6:dl [] wL w6:=jP JE hB' hB;generalize sU Hk y.kind y.side y.path y.content=re at Fm hC' HR⊢;obtain⟨Hn,en⟩:=re;clear hR hg' hB' hC hB hra JE hK
   refine ah.eP _ rfl (.inl rfl) (by kernel_rfl) rfl (ah.eA ?_);refine ah.eN (λu=>{tmps:=(undef::u 1::u 2::.pointer (some ⟨s,0,none⟩)::.int .i64 en::rn u 5 5 (.int .i64 k::rn u 11 64 [])).toArray,defers:=[]}) (by kernel_rfl) λu=>?_
   simp only[rn];simp only at Fm hC' HR;replace HR:Hid _:=HR;refine ah.dH none nI ⟨_,Tryz.func30⟩ (by kernel_rfl) (by simp) (λw=>aT w F' s d L' (ak+N) Hn/\dl [] wL w) (λw t k h=>⟨h.1.ax t k,h.2.tape t k⟩) ⟨hC',G6⟩ λw7 hI hsz=>?_
   clear hC' G6 hsz;obtain⟨hC,hB⟩:=hI;rcases Fm with rfl|rfl
   all_goals
    go_wp2_with fail;refine ah.uT ?_;refine ah.dH none nI ⟨_,Tryz.func30⟩ (by kernel_rfl) (by simp) (λw=>aT w F' s d L' (ak+N) Hn/\dl [] wL w) (λw t k h=>⟨h.1.ax t k,h.2.tape t k⟩) ⟨hC,hB⟩ λw8 hI hsz=>?_
    clear hC hB hsz;obtain⟨hC,hB⟩:=hI;go_wp2_with fail;refine ah.eN (j4 undef s (k+1)) (by kernel_rfl) λu=>?_
    exact ih' _ _ _ (k+1) F' L' (ak+N) Hn u w8 rfl (by omega) (by omega) hC (by push_cast;omega) hgn hB HR
  .have hd1:decide ((k:Int)<(l.length:Int))=true:=by simp;omega
   have hd2:decide ((k:Int)<300)=false:=by simp;omega
   rw[hd1];refine ah.lK {tmps:=(undef::u 1::u 2::.pointer (some ⟨s,0,none⟩)::rn u 4 6 (.int .i64 k::rn u 11 41 (.int .i64 k::u 53::.int .i64 l.length::.bool true::.bool true::rn u 57 18 []))).toArray,defers:=[]} (by kernel_rfl) ?_;simp only[rn]
   refine ah.vQ rfl (by kernel_rfl) (λπ=>by kernel_rfl) (λtt dd=>(show ah.eX _ _ _ _ _ _ _ (ax w tt dd) from(ah.i9 tt dd).2 ?_));refine ah.DK (w1:=w) (.bool (decide ((k:Int)<300))) rfl (by kernel_rfl) (λπ=>by kernel_rfl) (λt d=>by kernel_rfl) ?_;rw[hd2]
   refine ah.ig (w1:=w) (.bool false) rfl (by kernel_rfl) rfl (λt d=>by kernel_rfl) (ah.eA ?_);refine ah.lK {tmps:=(undef::u 1::u 2::.pointer (some ⟨s,0,none⟩)::rn u 4 6 (.int .i64 k::rn u 11 41 (.int .i64 k::u 53::.int .i64 l.length::.bool true::.bool true::.int .i64 k::.bool false::.bool false::rn u 60 15 []))).toArray,defers:=[]} (by kernel_rfl) ?_
   simp only[rn];refine ah.oX (b:=false) rfl rfl ?_;rw[if_neg (by simp)];refine ah.x9 rfl (ah.dH none nI ⟨_,Tryz.func30⟩ (by kernel_rfl) (by simp) (λw=>aT w Fk s d Lk ak Hk/\dl [] wL w) (λw t k h=>⟨h.1.ax t k,h.2.tape t k⟩) ⟨hC,hB⟩ λw6 hI hsz=>?_);go_wp2_with fail
   exact⟨w6.tape,w6.drawn,s,d,Fk,Lk,ak,Hk,rfl,hI.1,JE,hI.2,hls,by omega,by rw[<-HR.out,show l.take 300=l.take k by rw[show k=300 by omega]]⟩
 .have hd1:decide ((k:Int)<(l.length:Int))=false:=by simp;omega
  rw[hd1];refine ah.lK {tmps:=(undef::u 1::u 2::.pointer (some ⟨s,0,none⟩)::rn u 4 6 (.int .i64 k::rn u 11 41 (.int .i64 k::u 53::.int .i64 l.length::.bool false::.bool false::rn u 57 18 []))).toArray,defers:=[]} (by kernel_rfl) ?_;simp only[rn]
  refine ah.Hj rfl (cX (by kernel_rfl)) (λπ=>by kernel_rfl) (ah.Hj rfl (cX (by kernel_rfl)) (λπ=>by kernel_rfl) ?_);refine ah.ig (w1:=w) (.bool false) rfl (by kernel_rfl) rfl (λt d=>by kernel_rfl) (ah.eA ?_)
  refine ah.lK {tmps:=(undef::u 1::u 2::.pointer (some ⟨s,0,none⟩)::rn u 4 6 (.int .i64 k::rn u 11 41 (.int .i64 k::u 53::.int .i64 l.length::.bool false::.bool false::undef::undef::.bool false::rn u 60 15 []))).toArray,defers:=[]} (by kernel_rfl) ?_;simp only[rn];refine ah.oX (b:=false) rfl rfl ?_;rw[if_neg (by simp)]
  refine ah.x9 rfl (ah.dH none nI ⟨_,Tryz.func30⟩ (by kernel_rfl) (by simp) (λw=>aT w Fk s d Lk ak Hk/\dl [] wL w) (λw t k h=>⟨h.1.ax t k,h.2.tape t k⟩) ⟨hC,hB⟩ λw6 hI hsz=>?_);go_wp2_with fail
  exact⟨w6.tape,w6.drawn,s,d,Fk,Lk,ak,Hk,rfl,hI.1,JE,hI.2,hls,by omega,by rw[<-HR.out,show l.take 300=l.take k by rw[List.take_of_length_le (by omega),List.take_of_length_le (by omega)]]⟩
end
section
open Go.RowKit Go.Lib
def rv (H:bE):List (List UInt8):=mq (λq=>H (q/7) (fC (q%7))) 21
theorem ru (H:bE):(rv H).length=21:=fo _ _
theorem Gn (H:bE)(s p:Nat)(hs:s<3)(hp:p<7):(rv H)[s*7+p]? =some (cellOf (H s (fC p))):=by
 unfold rv mq;rw[List.getElem?_map,List.getElem?_range (by omega:s*7+p<21),Option.map_some,if_pos (by omega)];show some (cellOf (H ((s*7+p)/7) (fC ((s*7+p)%7))))=_;rw[show(s*7+p)/7=s by omega,show(s*7+p)%7=p by omega]
section
variable {w w':World}{F:List Nat}{s d:Nat}{L:List UInt8}{a:Int}{H:bE}
theorem Has.state (h:Has L 200 H)(a:Int):(DS.calm L a).state 200=rv H:=by
 unfold DS.state rv
 congr 1
 funext q
 exact Has.content (x:=DS.calm L a) h rfl (q/7) (fC (q%7))
theorem aT.seen (h:aT w F s d L a H):Calls Tryz.prog 15 #[.pointer (some ⟨s,0,none⟩)] w λe w'=>e= .returned (.tuple #[.agg (eH (rv H)),.bool true])/\aO [] w w':=by
 obtain⟨m,hr,hm⟩:=id h.has;have:=Lg F s d 200 (DS.calm L a) m w h.store rfl rfl hr (h.seven.slots hm)
 rwa [h.has.state a] at this
theorem BZ (H:bE):(Tryz.prog.info? 33).map (·.size)=some (eH (rv H)).size:=by rw[cL,ru];exact ni
theorem dl.row {S:List Nat}(h:dl S w w'){b:Nat}{c:Array Value}{t:TypeId}(hr:Row w b c t)(hb:b∉S:=by simp):Row w' b c t:=by
 unfold Row at*;rw[h.block b (Array.getElem?_eq_some_iff.1 hr).1 hb];exact hr
end
theorem jj {P:Program}{ops:Array Oper}{Q:Exit->Act->World->Prop}{a:Act}{w:World}{rest:List Oper}{o:Oper}(h:wpList P ops Q ({o with guard:=none}::rest) a w)(hw:Region.wanted o (yielded ops a.tmps)=true:=by kernel_rfl):wpList P ops Q (o::rest) a w:=by
 unfold wpList at h⊢;rw[if_pos hw];rw[if_pos (by simp[Region.wanted])] at h;exact h
def TL (wL:World)(v:Value)(w':World):Prop:=v= .bool true/\dl [] wL w'
def aej (r:Nat)(wL:World)(a:Act)(w:World):Prop:=TL wL (a.tmps.getD r undef) w
theorem P0 {r:Nat}{wL w:World}{a:Act}(h:a.tmps.getD r undef= .bool true)(hB:dl [] wL w):∃(t:Go.Proofs.YtchcmhodnkgojaaGreat.dX) (d:Nat),aej r wL a (ax w t d):=⟨w.tape,w.drawn,h,hB⟩
def Ek (n:Nat):Act:={tmps:=Array.replicate n undef,defers:=[]}
theorem Ik {n:Nat}{H:Nat->Prop}{wL:World}:ah.VA H wL (Ek n).tmps:=λv hv=>by
 rw[(Array.mem_replicate.1 hv).2];exact gG
end
section
open Go.RowKit Go.Lib Go.Sort
structure Ap (F:List Nat)(s:Nat)(F':List Nat)(s':Nat):Prop where
 a:s∉F'
 b:s'∉F
 c:s≠s'
 d:∀k∈F',k∉F
section
variable {w w':World}{F F' G:List Nat}{s s' d:Nat}{L:List UInt8}{a:Int}{H:bE}
theorem Ap.symm (h:Ap F s F' s'):Ap F' s' F s:=⟨h.b,h.a,h.c.symm,λk hk hk'=>h.d k hk' hk⟩
theorem Ap.fresh (hC:aT w F s d L a H)(g:bL [] F' w)(hs:w.heap.size<=s'):Ap F s F' s':=by
 have h1:=hC.store.row.lt;refine⟨λq=>(g s q).elim (by simp) (by omega),λq=>?_,by omega,λk hk q=>?_⟩
 .have:=hC.store.disk.lt s' q
  omega
 .have:=hC.store.disk.lt k q
  exact(g k hk).elim (by simp) (by omega)
theorem Ap.grow (h:Ap F s F' s')(hC:aT w F s d L a H)(g:bL F' G w):Ap F s G s':=by
 have h1:=hC.store.row.lt;refine⟨λq=>(g s q).elim h.a (by omega),h.b,h.c,λk hk q=>?_⟩;have:=hC.store.disk.lt k q;exact(g k hk).elim (λx=>h.d k x q) (by omega)
theorem aT.off (hC:aT w F s d L a H)(h:Ap F s F' s')(hB:dl F' w w'):aT w' F s d L a H:=hC.blk hB h.a h.d
theorem aT.agI (hC:aT w F s d L a H)(hB:dl [] w w'):aT w' F s d L a H:=hC.blk hB (by simp) (by simp)
end
def Z6:kf->Nat->Value
 |[],_=>undef
 |p::D,i=>if p.1=i then p.2 else Z6 D i
theorem kr {Ok:ah.Env}{r:Nat}{f:FuncId}{D:kf}{t:List Item}{R:Act->World->Prop}{a:Act}{wL:World}(B:(Nat->Value)->kf)(h:∀x,ah.eX Ok r f (B x) t R a wL)(e:D=B λi=>Z6 D i:=by kernel_rfl):ah.eX Ok r f D t R a wL:=e▸h _
theorem Jq:(ah.PP.underlying 3).map (λd=>match d with|.struct _|.array _ _=>true|_=>false)=some false:=by kernel_rfl
theorem C7 {o:Oper}{x:Operand}{b off:Nat}{v:Value}{w:World}(hc:w.cell? ⟨b,off,none⟩=some v)(a:Act)(hop:o.op= .load 3 x)(hx:a.eval x= .pointer (some ⟨b,off,none⟩)):
  (execOp a.eval o).run ah.PP w= .ok (.value v) w/\∀e∈(execOp a.eval o).events ah.PP w #[],e.sync=false/\aF.ll b e.loc:=by
 have h1:aF.RT (kd.load 3 (.pointer (some ⟨b,off,none⟩))).sem w (.value v) w #[⟨.cell ⟨b,off,none⟩,false,false⟩]:=by
  refine aF.RT.eD (x:=v) ?_ (.pure _);show aF.RT (do if<-isAgg 3 then Pure.pure (.agg (<-loadCells ⟨b,off,none⟩ (<-Go.sizeOf 3))) else load ⟨b,off,none⟩) _ _ _ _;refine(aF.fM Jq).aN ?_;simp only[Bool.false_eq_true,if_false];exact aF.jD hc
 have h3:execOp a.eval o=(kd.load 3 (.pointer (some ⟨b,off,none⟩))).sem:=by
  unfold execOp;rw[hop];show(do pure (.value (<-Instr.loadAt 3 (a.eval x))):Sem Next)=_;rw[hx];rfl
 rw[h3];refine⟨h1.run,λe he=>?_⟩;have h4:(kd.load 3 (.pointer (some ⟨b,off,none⟩))).sem.events ah.PP w #[]=#[]++#[⟨.cell ⟨b,off,none⟩,false,false⟩]:=congrArg Prod.snd (h1 #[]);rw[h4] at he;simp only[Array.empty_append,List.mem_toArray,List.mem_singleton] at he;subst he;exact⟨rfl,.inl ⟨_,rfl,rfl⟩⟩
end
section
open Go.ChangeShapes Go.WideShapes Go.ChangeAt Go.RowKit Go.Deep Go.Joins Go.Lib Go.Conc Go.ConcM
theorem qN {n:Int}(h:(Lit.int .i64 n).wf=true):xN n:=by
 unfold xN;simp[Lit.wf] at h;exact h
section
variable {H:Type}{enc:TypeId×Value->H}{w:World}{base:Nat}{spare:Nat->Bool}{held:Bool}
theorem tR:Tryz.prog.cellsOf 24=4:=by kernel_rfl
theorem Ka:Tryz.prog.cellsOf 3=1:=by kernel_rfl
theorem uZ {fuel:Nat}{cs:List Value}{x:DataW H×List MemPlace}(h:DataW.trod enc Tryz.prog w base spare held fuel 24 cs=some x):∃y:fj,y.Ok/\cs=y.cells.toList:=by
 obtain⟨y0,y1,y2,y3,n,hx,hl,h0,h1,h2,h3⟩:=trod_struct4 Tryz.underlying24 h;rw[tR] at hl;simp only[Ka,sO] at h0 h1 h2 h3
 match cs,hl with
 |[c0,c1,c2,c3],_=>
  obtain⟨a0,e0,_,w0⟩:=DataW.trod_int Tryz.underlying3 h0;obtain⟨a1,e1,_,w1⟩:=DataW.trod_int Tryz.underlying3 h1;obtain⟨a2,e2,_,w2⟩:=DataW.trod_int Tryz.underlying3 h2;obtain⟨a3,e3,_,w3⟩:=DataW.trod_string Tryz.underlying9 h3;simp at e0 e1 e2 e3;subst e0 e1 e2 e3;exact⟨⟨a0,a1,a2,a3⟩,⟨qN w0,qN w1,qN w2⟩,rfl⟩
theorem GQ {α:Type}{Pr:Nat->α->Prop}:∀n:Nat,(∀i,i<n->∃y,Pr i y)->∃l:List α,l.length=n/\∀i,(h:i<l.length)->Pr i l[i]
 |0,_=>⟨[],rfl,λi h=>by simp at h⟩
 |n+1,h=>by
  obtain⟨l,hl,hp⟩:=GQ n λi hi=>h i (by omega)
  obtain⟨y,hy⟩:=h n (by omega);refine⟨l++[y],by simp[hl],λi hi=>?_⟩
  by_cases hi2:i<l.length
  .rw[List.getElem_append_left hi2]
   exact hp i hi2
  .have:i=n:=by simp at hi;omega
   subst this;rw[List.getElem_append_right (by omega)];simpa [hl] using hy
theorem Bn {W:World}{a:Option Addr}{len cap fuel:Nat}{x:DataW H×List MemPlace}(h:DataW.trod enc Tryz.prog W 0 spare held fuel 22 [.slice a len cap]=some x):∃l:List fj,l.length=len/\qX W a l/\len<=cap/\cap<=maxLen:=by
 rcases open_slice Tryz.underlying22 h with⟨hcs,_⟩|⟨ad,len',cap',m,n,D,Pl,hcs,_,hl,hm,hmm,_,hcell⟩
 .simp at hcs
  obtain⟨rfl,rfl,rfl⟩:=hcs;exact⟨[],rfl,λj hj=>by simp at hj,by omega,by omega⟩
 .simp at hcs
  obtain⟨rfl,rfl,rfl⟩:=hcs;have hlm:len<=m:=by rw[hmm];split<;>omega
  have hel:∀i,i<len->∃y:fj,y.Ok/\∃b off,some ad=some (⟨b,off,none⟩:Addr)/\W.rangeAt b (off+i*4) y.cells.toList:=by
   intro i hi;obtain⟨cs',h1,h2⟩:=hcell i (by omega);obtain⟨y,hy,rfl⟩:=uZ h2;refine⟨y,hy,?_⟩;obtain⟨_,hlen,h3⟩:=World.cells?_some h1;rw[tR] at h1 hlen h3;obtain⟨b,off,spot⟩:=ad;have hspot:spot=none:=by
    obtain⟨cs0,k1,k2⟩:=hcell 0 (by omega);obtain⟨y0,_,rfl⟩:=uZ k2;obtain⟨_,_,k3⟩:=World.cells?_some k1;rw[tR] at k3;have:=World.cell?_spot ((k3 0 (by omega)).trans (show y0.cells.toList[0]? =some (.int .i64 y0.kind) from rfl));simpa [Addr.add] using this
   subst hspot;refine⟨b,off,rfl,λj v hj=>?_⟩;have hj4:j<4:=by
    have:=(List.getElem?_eq_some_iff.1 hj).1;rw[hlen] at this;exact this
   have h5:=h3 j hj4;rw[Addr.add_mid,Addr.add_mid,hj] at h5;exact h5
  obtain⟨l,hl2,hp⟩:=GQ len hel;exact⟨l,hl2,λj hj=>hp j hj,hl,hm⟩
end
end
section
open Go.RowKit Go.Lib
def sX (H K:bE):Prop:=∀p,K 0 p=H 1 p/\K 1 p=H 0 p/\K 2 p=H 2 p
section
variable {H K:bE}{p:List UInt8}{ps:List (List UInt8)}
theorem sX.none (h:sX H K)(p:List UInt8):jK K p=none↔jK H p=none:=by
 obtain⟨h0,h1,h2⟩:=h p;rw[B4,B4,h0,h1,h2];constructor
 .rintro⟨a,b,c⟩;exact⟨b,a,λe=>c e.symm⟩
 .rintro⟨a,b,c⟩;exact⟨b,a,λe=>c e.symm⟩
theorem sX.val (h:sX H K){q q':Nat}(hq:jK H p=some q)(hq':jK K p=some q'):K q' p=H q p:=by
 obtain⟨h0,h1,h2⟩:=h p;unfold jK at hq hq';rw[h0,h1,h2] at hq'
 by_cases e0:H 0 p=H 2 p
 .rw[if_pos e0] at hq
  cases hq
  by_cases e1:H 1 p=H 2 p
  .rw[if_pos e1] at hq';cases hq';rw[h1,e0,e1]
  .rw[if_neg e1,if_pos e0] at hq';cases hq';exact h0
 .rw[if_neg e0] at hq
  by_cases e1:H 1 p=H 2 p
  .rw[if_pos e1] at hq hq';cases hq;cases hq';exact h1
  .rw[if_neg e1] at hq hq'
   rw[if_neg e0] at hq'
   by_cases e2:H 0 p=H 1 p
   .rw[if_pos e2] at hq;rw[if_pos e2.symm] at hq';cases hq;cases hq';rw[h0,e2]
   .rw[if_neg e2] at hq;cases hq
theorem sX.sync (h:sX H K):sX (cz H) (cz K):=λp=>by
 have hn:=h.none p;obtain⟨h0,h1,h2⟩:=h p;cases hq:jK H p with
 |none=>
  have hq':=hn.2 hq;rw[ky hq 0 (by omega),ky hq 1 (by omega),ky hq 2 (by omega),ky hq' 0 (by omega),ky hq' 1 (by omega),ky hq' 2 (by omega)];exact⟨h0,h1,h2⟩
 |some q=>
  cases hq':jK K p with
  |none=>rw[hn.1 hq'] at hq;cases hq
  |some q'=>
   have hv:=h.val hq hq';rw[kx hq 0 (by omega),kx hq 1 (by omega),kx hq 2 (by omega),kx hq' 0 (by omega),kx hq' 1 (by omega),kx hq' 2 (by omega),hv];exact⟨rfl,rfl,rfl⟩
theorem sX.paths (h:sX H K)(hP:iw H ps):iw K ps:=⟨hP.1,λl=>by
 obtain⟨h0,h1,h2⟩:=h l;rw[hP.2,h0,h1,h2];exact Or.comm⟩
theorem sX.steps (h:sX H K)(ps:List (List UInt8)):(ep K ps).length=(ep H ps).length:=by
 unfold ep
 induction ps with
 |nil=>rfl
 |cons l r ih=>
  have hn:=h.none l;rw[List.filterMap_cons,List.filterMap_cons];cases hq:jK H l with
  |none=>rw[hn.2 hq];exact ih
  |some q=>cases hq':jK K l with
   |none=>rw[hn.1 hq'] at hq;cases hq
   |some q'=>simp only[Option.map_some,List.length_cons,ih]
theorem sX.adW (h:sX H K)(ps:List (List UInt8)):jy K ps=jy H ps:=by
 unfold jy;exact List.filter_congr λl _=>by
  cases hq:jK H l with
  |none=>rw[(h.none l).2 hq]
  |some q=>cases hq':jK K l with
   |none=>rw[(h.none l).1 hq'] at hq;cases hq
   |some q'=>rfl
theorem I2 (sd:Int):ba (1-(ba sd 2:Nat)) 2=1-ba sd 2:=by
 have:=iR sd 2;rcases(by omega:ba sd 2=0\/ba sd 2=1) with e|e<;>rw[e]<;>decide
theorem sX.set (h:sX H K){s:Nat}(hs:s<=1)(q:List UInt8)(r:Option (List UInt8)):sX (eS H s q r) (eS K (1-s) q r):=λp=>by
 obtain⟨h0,h1,h2⟩:=h p;unfold eS;rcases(by omega:s=0\/s=1) with rfl|rfl
 .by_cases e:p=q<;>simp[e,h0,h1,h2]<;>simp_all
 .by_cases e:p=q<;>simp[e,h0,h1,h2]<;>simp_all
theorem sX.side (h:sX H K){s:Nat}(hs:s<=1)(q:List UInt8):K (1-s) q=H s q:=by
 obtain⟨h0,h1,_⟩:=h q;rcases(by omega:s=0\/s=1) with rfl|rfl
 .exact h1
 .exact h0
theorem sX.act (h:sX H K)(k sd pt:Int)(ct:ByteArray):sX (sU H k sd pt ct).1 (sU K k (1-(ba sd 2:Nat)) pt ct).1:=by
 have hs:=iR sd 2;unfold sU
 by_cases h3:ba k 4=3
 .rw[if_pos h3,if_pos h3];exact h.sync
 .rw[if_neg h3,if_neg h3]
  unfold yg;rw[I2]
  by_cases h2:ba k 4=2
  .rw[if_pos h2,if_pos h2,h.side (by omega)]
   by_cases hx:H (ba sd 2) (fC (ba pt 7))=Option.none
   .rw[if_pos hx,if_pos hx];exact h
   .rw[if_neg hx,if_neg hx];exact h.set (by omega) _ _
  .rw[if_neg h2,if_neg h2];exact h.set (by omega) _ _
end
def fj.turn (y:fj):fj:={y with side:=1-(ba y.side 2:Nat)}
theorem Jc:sX (cz H1) (cz H1):=λp=>by
 by_cases e:p=[97]
 .subst e;decide
 .have hn:∀s,H1 s p=none:=λs=>by
   unfold H1 eS H0;rw[if_neg λq=>e q.2]
  have hs:∀s,cz H1 s p=none:=λs=>by
   unfold cz;split
   .cases jK H1 p with
    |none=>exact hn s
    |some q=>exact hn q
   .exact hn s
  simp[hs]
theorem IQ (l:List fj):sX (oy l).2.2 (oy (l.map fj.turn)).2.2:=by
 unfold oy
 suffices key:∀(l:List fj) (a b:St),sX a.2.2 b.2.2->sX (l.foldl nxt a).2.2 ((l.map fj.turn).foldl nxt b).2.2 from key l st0 st0 Jc
 intro l
 induction l with
 |nil=>exactλa b h=>h
 |cons y r ih=>exactλa b h=>ih _ _ (h.act y.kind y.side y.path y.content)
theorem Pb {y:fj}(h:y.Ok):y.turn.Ok:=by
 have:=iR y.side 2;refine⟨h.1,⟨?_,?_⟩,h.2.2⟩<;>simp only[fj.turn]<;>omega
theorem sX.state {H K:bE}(h:sX H K):((rv H).drop 0).take 7=((rv K).drop 7).take 7/\((rv H).drop 7).take 7=((rv K).drop 0).take 7/\((rv H).drop 14).take 7=((rv K).drop 14).take 7:=by
 have key:∀(a b:Nat),a<3->b<3->(∀p,H a p=K b p)->((rv H).drop (a*7)).take 7=((rv K).drop (b*7)).take 7:=λa b ha hb he=>by
  apply List.ext_getElem?
  intro i
  by_cases hi:i<7
  .rw[List.getElem?_take_of_lt hi,List.getElem?_take_of_lt hi,List.getElem?_drop,List.getElem?_drop,Gn H a i ha hi,Gn K b i hb hi,he]
  .rw[List.getElem?_eq_none (by rw[List.length_take];omega),List.getElem?_eq_none (by rw[List.length_take];omega)]
 exact⟨key 0 1 (by omega) (by omega) λp=>(h p).2.1.symm,key 1 0 (by omega) (by omega) λp=>(h p).1.symm,key 2 2 (by omega) (by omega) λp=>(h p).2.2.symm⟩
theorem KS:Tryz.prog.underlying 22=some (.slice 24):=by kernel_rfl
theorem Jt:(Tryz.prog.info? 24).map (λi=>(i.size,i.bytes,i.zero))=some (4,40,some O2):=by kernel_rfl
def Turned (l:List fj)(k:Nat)(cs:Array Value):Prop:=cs.size=l.length*4/\∀j,(hj:j<l.length)->j<k->∀i,i<4->cs[j*4+i]? =(l[j].turn.cells)[i]?
theorem D9 (y:fj):y.cells.toList.length=4:=rfl
theorem L6 (c:Array Value)(o:Nat)(vs:List Value)(h:o+vs.length<=c.size)(i:Nat):(over c o vs)[i]? =if i<o then c[i]? else if i<o+vs.length then vs[i-o]? else c[i]? :=by
 have hl:c.toList.length=c.size:=by simp
 have e:c[i]? =c.toList[i]? :=by simp
 unfold over;rw[e];rw[<-hl] at h;clear hl e;generalize c.toList=l at*;rw[List.getElem?_toArray,List.append_assoc]
 by_cases h1:i<o
 .rw[if_pos h1,List.getElem?_append_left (by rw[List.length_take];omega),List.getElem?_take_of_lt h1]
 .rw[if_neg h1,List.getElem?_append_right (by rw[List.length_take];omega),List.length_take,Nat.min_eq_left (by omega)]
  by_cases h2:i<o+vs.length
  .rw[if_pos h2,List.getElem?_append_left (by omega)]
  .rw[if_neg h2,List.getElem?_append_right (by omega),List.getElem?_drop]
   congr 1
   omega
theorem Turned.step {l:List fj}{k:Nat}{cs:Array Value}(h:Turned l k cs)(hk:k<l.length):
  Turned l (k+1) ((over cs (k*4) l[k].cells.toList).setIfInBounds (k*4+1) (.int .i64 (1-(ba l[k].side 2:Nat))))/\(k*4+4<=cs.size/\k*4+1<(over cs (k*4) l[k].cells.toList).size):=by
 have hs:=h.1;have hf:k*4+l[k].cells.toList.length<=cs.size:=by rw[D9];omega
 have hz:=Iz cs (k*4) l[k].cells.toList hf;refine⟨⟨by rw[Array.size_setIfInBounds,hz];exact hs,λj hj hjk i hi=>?_⟩,by omega,by rw[hz];omega⟩;rw[Array.getElem?_setIfInBounds,L6 _ _ _ hf,D9,hz]
 by_cases ahp:j=k
 .subst ahp
  match i,hi with
  |0,_=>rw[if_neg (by omega),if_neg (by omega),if_pos (by omega),show j*4+0-j*4=0 by omega];rfl
  |1,_=>rw[if_pos rfl,if_pos (by omega)];rfl
  |2,_=>rw[if_neg (by omega),if_neg (by omega),if_pos (by omega),show j*4+2-j*4=2 by omega];rfl
  |3,_=>rw[if_neg (by omega),if_neg (by omega),if_pos (by omega),show j*4+3-j*4=3 by omega];rfl
 .rw[if_neg (by omega),if_pos (by omega)]
  exact h.2 j hj (by omega) i hi
theorem Turned.acts {l:List fj}{cs:Array Value}{w:World}{b:Nat}{t:TypeId}{K:Nat->Option Obj}{ad:Option Addr}(h:Turned l l.length cs)(hr:Row w b cs t)(hk:Hz K ad l):qX w (some ⟨b,0,none⟩) (l.map fj.turn):=λj hj=>by
 have hj':j<l.length:=by simpa using hj
 rw[List.getElem_map];refine⟨Pb (hk j hj').1,b,0,rfl,λi v hv=>?_⟩;have hi:i<4:=by
  have:=(List.getElem?_eq_some_iff.1 hv).1;simpa [fj.cells,dy] using this
 rw[Nat.zero_add,hr.cell,h.2 j hj' hj' i hi,<-Array.getElem?_toList];exact hv
theorem aT.adt {w w':World}{F:List Nat}{s d b:Nat}{L:List UInt8}{a:Int}{H:bE}(h:aT w F s d L a H)(f:aO [b] w w')(hb:b∉F/\s≠b):aT w' F s d L a H:=
 h.blk f.blk (by simpa using hb.2) (λk hk=>by simp at hk;subst hk;exact hb.1)
theorem mC:(Tryz.prog.underlying 30).map TypeDesc.isRow=some true:=by kernel_rfl
theorem iC (H:bE)(off:Nat)(h:off<=14:=by omega):(((rv H).drop off).take 7).length=7:=by rw[List.length_take,List.length_drop,ru];omega
theorem jq {w:World}{b:Nat}{H:bE}{t:TypeId}(h:Row w b (eH (rv H)) t)(off:Nat)(ho:off<=14:=by omega):w.rangeAt b off (eH (((rv H).drop off).take 7)).toList:=λi v hv=>by
 have hi:i<7:=by
  have:=(List.getElem?_eq_some_iff.1 hv).1
  rwa [Array.length_toList,cL,iC H off ho] at this
 rw[h.cell];rw[Array.getElem?_toList] at hv;rw[<-hv,mr _ _ (by rw[ru];omega),mr _ _ (by rw[iC H off ho];exact hi)]
 congr 3
 rw[List.getElem_take,List.getElem_drop]
theorem qK (op:BinOp)(x y:Operand)(a b:Array Value)(w:World):(eqGuard op 30 x y (.agg a) (.agg b)).run Tryz.prog w= .ok () w:=by
 cases op<;>kernel_rfl
theorem xS (xs ys:List (List UInt8))(hx:xs.length=7)(hy:ys.length=7)(he:xs=ys)(w:World):(binOp .eql 30 (.agg (eH xs)) (.agg (eH ys))).run Tryz.prog w= .ok (.bool true) w:=by
 obtain⟨i,hi⟩:=Ix uC;rw[run_eql_struct,NG w 9998 KR i hi sO AM Tryz.underlying9 xs ys hx hy,he];simp
open Go.ChangeShapes Go.WideShapes Go.Deep in
theorem C9 {H:Type}{enc:TypeId×Value->H}{W:World}{a:Option Addr}{len cap fuel:Nat}{spare:Nat->Bool}{held:Bool}{d:DataW H}{p:List MemPlace}{ts:List TypeId}{ds:List (DataW H)}(h:DataW.trod enc Tryz.prog W 0 spare held fuel 22 [.slice a len cap]=some (d,p))
  (hz:(DataW.weightsEach Tryz.prog (22::ts) (d::ds)).all (·<=reachBytes)=true):40*len<=281474976710656:=by
 rcases open_slice Tryz.underlying22 h with⟨hcs,_⟩|⟨ad,len',cap',m,n,D,Pl,hcs,_,hl,hm,hmm,hx,_⟩
 .simp at hcs
  omega
 .simp at hcs
  obtain⟨rfl,rfl,rfl⟩:=hcs;obtain⟨rfl,_⟩:=Prod.mk.inj hx;have h1:=sized_slice hz (j:=0) (t:=22) (e:=24) rfl rfl Tryz.underlying22;rw[show Tryz.prog.bytesOf 24=40 by kernel_rfl,List.length_map,List.length_map,List.length_range,List.length_range] at h1;have h2:=reachBytes_lt;omega
end
section
open Go.RowKit Go.Lib Go.Sort
open aF aF.Sq in
theorem N0 {E:ah.Env}{wL:World}(ad:Option Addr)(cap:Nat)(l:List fj)(h:qX wL ad l)(hl:l.length<=cap)(hcap:cap<=maxLen)(hG:pk wL):
  ah.CC E 30 #[.slice ad l.length cap] (Gd l wL) wL:=by
 refine ah.k9 Tryz.func30 rfl ?_;refine ah.cQ ?_
 refine o6 {tmps:=#[.slice ad l.length cap,undef,undef,undef,undef,undef,undef,undef,undef,undef,undef,undef,undef,undef,undef,undef,undef,undef,undef,undef,undef,undef,undef,undef,undef,undef,undef,undef,undef,undef,undef,undef,undef,undef,undef,undef,undef,undef,undef,undef,undef,undef,undef,undef,undef,undef,undef,undef,undef,undef,undef,undef,undef,undef,undef,undef,undef,undef,undef,undef,undef,undef,undef,undef,undef,undef,undef,undef,undef,undef,undef,undef,undef,undef,undef],defers:=[]} (by kernel_rfl) ?_
 refine ah.cU none ⟨_,Tryz.func30⟩ (by kernel_rfl) (by simp) (λw=>dl [] wL w) (λw t k h=>h.tape t k) (dl.refl _ _) λw hB hsz=>?_
 clear hsz;go_wp2_with fail;refine ah.cQ ?_;refine ah.cU none ⟨_,Tryz.func30⟩ (by kernel_rfl) (by simp) (λw=>dl [] wL w) (λw t k h=>h.tape t k) hB λw2 hB2 hsz=>?_
 clear hB hsz;go_wp2_with fail;refine(GN 200 w2 (by omega) (by omega)).mono ?_;rintro e w3 ⟨s,d,F,rfl,hs,f3,g3,l3⟩;have hC:aT w3 F s d (ez 200) 0 H0:=⟨hs,kF 200,qB,by omega⟩
 have hB:dl [] wL w3:=hB2.trans f3.blk;have hg:bL [] F wL:=(bL.refl [] wL).trans g3 hB2.size;have hls:wL.heap.size<=s:=Nat.le_trans hB2.size l3;clear hs f3 g3 l3 hB2;go_wp2_with fail;refine ah.cQ ?_
 refine ah.cU none ⟨_,Tryz.func30⟩ (by kernel_rfl) (by simp) (λw=>aT w F s d (ez 200) 0 H0/\dl [] wL w) (λw t k h=>⟨h.1.ax t k,h.2.tape t k⟩) ⟨hC,hB⟩ λw4 hI hsz=>?_
 clear hC hB hsz;obtain⟨hC,hB⟩:=hI;go_wp2_with fail
 obtain⟨L1,q1,q2⟩:=sn (kF 200) qB.eight (by decide) 0 [97] [102,105,114,115,116] (by decide) (by decide);have KC:Hid (tK=L1):=by
  show _=_;unfold tK;exact(congrArg (λz:DS×Value=>z.1.aR) (q2 0)).trans rfl
 have OG:Hid ((DS.calm (ez 200) 0).pR 200 0 ⟨#[97]⟩ mg=(DS.calm L1 5,.int .i64 0)):=((th (kF 200) qB 0 [97] [102,105,114,115,116] Oz 0).trans (q2 0)).trans (by rw[Int.zero_add]);refine ah.cQ ?_
 refine ah.cU none ⟨_,Tryz.func30⟩ (by kernel_rfl) (by simp) (λw=>aT w F s d (ez 200) 0 H0/\dl [] wL w) (λw t k h=>⟨h.1.ax t k,h.2.tape t k⟩) ⟨hC,hB⟩ λw4 hI hsz=>?_
 clear hC hB hsz;obtain⟨hC,hB⟩:=hI;go_wp2_with fail;refine(tg F s d 200 _ 0 ⟨#[97]⟩ mg w4 hC.store (oR _ _ _ (by omega)) (by show 0<55;omega) (by omega) (by decide) (by decide) (by decide)).mono ?_;rintro e w5 ⟨rfl,⟨F1,hs1,g1⟩,f1⟩;rw[OG.out] at hs1⊢;have fh:aT w5 F1 s d L1 5 H1:=⟨hs1,q1,Le,by omega⟩
 have hB1:dl [] wL w5:=jP hg f1.blk hB;have hg1:bL [] F1 wL:=hg.trans g1 hB.size;clear hC hB hs1 f1 g1 OG q1 q2 hg;go_wp2_with fail
 refine ah.cQ (ah.dz (ej _ rfl (.inr rfl) rfl ?_));refine jb (f2:=31) #[.tmp 24] #[.pointer (some ⟨s,0,none⟩)] (R2:=sV F1 s d 200 (DS.calm L1 5) w5) rfl rfl (by kernel_rfl) (λb w=>by kernel_rfl) (by kernel_rfl) (sP fh.store (hG.blk hB1 (by simp)) (hg1.nil hG) (fh.ok (by omega))) λv w6 hR _=>?_
 obtain⟨ps,cv,F2,L2,k2,rfl,hP,hC2,hg2,hB2,hk0,hk1,_,hcv,_,hsl⟩:=fh.synced hR;have HST:Hid (st0=(L2,5+k2,cz H1)):=by
  show _=_;unfold st0;rw[KC.out,hsl]
 clear hsl KC;rw[KY hP];have hB2':dl [] wL w6:=jP hg1 hB2 hB1;have MM:bL [] F2 wL:=hg1.trans hg2 hB1.size;obtain⟨FS,qS,A6⟩:=bQ hcv;generalize (jy H1 ps).length=cl at A6;subst A6;clear hcv hR fh hB1 hg1 hg2 hB2 hP
 refine ej _ rfl (.inr rfl) rfl (jA (w1:=w6) (.agg #[.int .i64 1,.slice FS cl qS]) rfl rfl (λt d=>by kernel_rfl) (jA (w1:=w6) (.int .i64 0) rfl rfl (λt d=>by kernel_rfl) ?_))
 refine o6 {tmps:=#[.slice ad l.length cap,undef,.pointer none,.pointer (some ⟨s,0,none⟩),.int .i64 0,.int .i64 0,undef,undef,undef,undef,undef,.tuple #[.pointer (some ⟨s,0,none⟩),.int .i64 0],.tuple #[.pointer (some ⟨s,0,none⟩),.int .i64 0],.pointer (some ⟨s,0,none⟩),.int .i64 0,.pointer (some ⟨s,0,none⟩),.bool false,.bool false,.int .i64 0,.bool false,.bool false,.pointer (some ⟨s,0,none⟩),.int .i64 0,.tuple #[.agg #[.int .i64 1,.slice FS cl qS],.int .i64 0],.pointer (some ⟨s,0,none⟩),.tuple #[.agg #[.int .i64 1,.slice FS cl qS],.int .i64 0],.agg #[.int .i64 1,.slice FS cl qS],.int .i64 0,undef,undef,undef,undef,undef,undef,undef,undef,undef,undef,undef,undef,undef,undef,undef,undef,undef,undef,undef,undef,undef,undef,undef,undef,undef,undef,undef,undef,undef,undef,undef,undef,undef,undef,undef,undef,undef,undef,undef,undef,undef,undef,undef,undef,undef,undef,undef],defers:=[]} (by kernel_rfl) ?_
 refine Hl 5 rfl ⟨_,Tryz.func30⟩ (by kernel_rfl) (λw=>aT w F2 s d L2 (5+k2) (cz H1)/\dl [] wL w) (λw t k h=>⟨h.1.ax t k,h.2.tape t k⟩) ⟨hC2,hB2'⟩ λw7 hI _=>?_
 clear hC2 hB2';obtain⟨hC,hB⟩:=hI;show wpList _ _ _ [_,_,_] _ _;refine az rfl ?_;refine al.go (bi rfl 58 rfl _ iy ?_);intro w8 b8 l8 f8 r8;go_wp2_with (with_reducible first|refine af 58 rfl ?_);refine al.go (ft rfl 58 _ _ rfl b8 rfl #[.int .i64 1,.slice FS cl qS] rfl dU (by simp[Value.oneCell']) _ _ r8 rfl ?_);intro w9 f9 r9
 have f79:aO [] w7 w9:=f8.trans f9 (by simpa using l8);have XF:=hC.new f79;have Tp:=hB.trans f79.blk;clear hC hB f8 f9 r8 l8 f79;go_wp2_with fail
 have OH:Hid ((DS.calm L2 (5+k2)).get 200 1 ⟨#[97]⟩=(.string mg,0)):=by
  show _=_;have h1:=Has.content (x:=DS.calm L2 (5+k2)) XF.has rfl 1 [97];rw[SJ] at h1;unfold DS.get;rw[show(DS.calm L2 (5+k2)).failed=false from rfl,if_neg (by simp)];have h2:(DS.calm L2 (5+k2)).content 200 1 ⟨#[97]⟩=some [102,105,114,115,116]:=h1;rw[show((1:Nat):Int)=1 from rfl,h2];rfl
 refine ah.cQ ?_;refine ah.cU none ⟨_,Tryz.func30⟩ (by kernel_rfl) (by simp) (λw=>aT w F2 s d L2 (5+k2) (cz H1)/\dl [] wL w/\Row w b8 #[.int .i64 1,.slice FS cl qS] 58) (λw t k h=>⟨h.1.ax t k,h.2.1.tape t k,h.2.2⟩) ⟨XF,Tp,r9⟩ λw4 hI hsz=>?_
 clear XF Tp r9 hsz;obtain⟨hC,hB,r8⟩:=hI;go_wp2_with fail;refine(A9 F2 s d 200 _ 1 ⟨#[97]⟩ w4 hC.store (by omega) (by decide) (by decide)).mono ?_;rintro e w5 ⟨rfl,f5⟩;rw[OH.out];have hC5:=hC.new f5;have Rc:=hB.trans f5.blk;have r5:=f5.row r8;clear OH hC hB r8 f5;go_wp2_with fail;refine ah.cQ ?_
 refine ah.cU none ⟨_,Tryz.func30⟩ (by kernel_rfl) (by simp) (λw=>aT w F2 s d L2 (5+k2) (cz H1)/\dl [] wL w/\Row w b8 #[.int .i64 1,.slice FS cl qS] 58) (λw t k h=>⟨h.1.ax t k,h.2.1.tape t k,h.2.2⟩) ⟨hC5,Rc,r5⟩ λw4 hI hsz=>?_
 clear hC5 Rc r5 hsz;obtain⟨hC,hB,r8⟩:=hI;have c8:w4.cell? ⟨b8,0,none⟩=some (.int .i64 1):=by rw[r8.cell];rfl
 have hfl:(!mg.toList==[102,105,114,115,116])=false:=by rw[show mg=aB [102,105,114,115,116] from rfl,lL];rfl
 go_wp2_with fail;clear hfl c8 r8
 refine ah.cQ (ah.cQ ?_);refine ah.cU none ⟨_,Tryz.func30⟩ (by kernel_rfl) (by simp) (λw=>aT w F2 s d L2 (5+k2) (cz H1)/\dl [] wL w) (λw t k h=>⟨h.1.ax t k,h.2.tape t k⟩) ⟨hC,hB⟩ λw5 hI hsz=>?_
 clear hC hB hsz;obtain⟨hC,hB⟩:=hI;go_wp2_with fail;refine ah.yc ?_;refine FL (j4 (.slice ad l.length cap) s 0) (by kernel_rfl) λu=>?_
 refine ah.DO (λa w=>∃(k:Nat) (F:List Nat) (L:List UInt8) (aa:Int) (H:bE) (u:Nat->Value),a=j4 (.slice ad l.length cap) s k u/\k<=l.length/\k<=300/\aT w F s d L aa H/\aa<=100+80*k/\bL [] F wL/\dl [] wL w/\Hid (oy (l.take k)=(L,aa,H))) (λa _=>300-(intOf (a.tmps.getD 10 undef)).toNat)
  ⟨0,F2,L2,5+k2,cz H1,u,rfl,by omega,by omega,hC,by omega,MM,hB,HST⟩ ?_
 clear hC hB MM u HST;rintro a w ⟨k,Fk,Lk,ak,Hk,u,rfl,hkl,hk3,hC,hak,JE,hB,HR⟩ ih
 have ih':∀(k':Nat) (F:List Nat) (L:List UInt8) (aa:Int) (H:bE) (u:Nat->Value) (w':World),k'=k+1->k'<=l.length->k'<=300->aT w' F s d L aa H->aa<=100+80*k'->bL [] F wL->dl [] wL w'->Hid (oy (l.take k')=(L,aa,H))->ah.CI _ _ _ _ (j4 (.slice ad l.length cap) s k' u) w':=λk' F L aa H u w' e1 e2 e3 e4 e5 e6 e7 e8=>ih _ _ ⟨k',F,L,aa,H,u,rfl,e2,e3,e4,e5,e6,e7,e8⟩ (by subst e1;simp[j4,intOf];omega)
 clear ih;unfold j4 at ih'⊢;refine ah.cQ (ah.cQ ?_);refine ah.cU none ⟨_,Tryz.func30⟩ (by kernel_rfl) (by simp) (λw=>aT w Fk s d Lk ak Hk/\dl [] wL w) (λw t k h=>⟨h.1.ax t k,h.2.tape t k⟩) ⟨hC,hB⟩ λw5 hI hsz=>?_
 clear hC hB hsz;obtain⟨hC,hB⟩:=hI
 by_cases hlt:k<l.length
 .by_cases hlt3:k<300
  .obtain⟨hok,b,off,rfl,hra⟩:=(h.blk hB) k hlt
   have HS:=λ(L':List UInt8) (N:Int)=>wK (L':=L') (N:=N) hlt HR.out
   clear HR;generalize l[k]=y at hok hra HS;replace HS:Hid _:=HS;have hd1:decide ((k:Int)<(l.length:Int))=true:=by simp;omega
   have hd2:decide ((k:Int)<300)=true:=by simp;omega
   go_wp2_with fail;clear hd1 hd2;refine ah.nu (b:=true) rfl ?_;rw[if_pos rfl];refine ah.Hm (ah.cQ (ah.yc (ah.cQ (ah.dz ?_))));refine ej _ rfl (.inr rfl) rfl (ej _ rfl (.inr rfl) rfl (ej _ rfl (.inr rfl) rfl ?_))
   refine YU _ _ _ rfl rfl (by kernel_rfl) rfl b off l.length cap k rfl rfl hlt (by kernel_rfl) 4 (by kernel_rfl) (by kernel_rfl) ?_;refine YT _ _ rfl rfl (by kernel_rfl) rfl b (off+k*4) rfl PZ y.cells mJ hra ?_
   refine jb (f2:=17) #[.tmp 62,.tmp 66] #[.pointer (some ⟨s,0,none⟩),.agg (dy y.kind y.side y.path y.content)] (R2:=OI Fk s d 200 (DS.calm Lk ak) y.kind y.side y.path y.content w5) rfl rfl (by kernel_rfl) (λb w=>by kernel_rfl) (by kernel_rfl)
    (N4 y.kind y.side y.path y.content hC.store (hG.blk hB (by simp)) (JE.nil hG) (oR _ _ _ hC.lo) (by show 0<55;omega) (λ_=>hC.ok (by omega)) hok.1.1 hok.1.2 hok.2.1.1 hok.2.1.2 hok.2.2.1 hok.2.2.2) λv w6 hR _=>?_
   obtain⟨rfl,F',L',N,hC',hg',hB',hN0,hN1,hal⟩:=hC.jc hR;have HR:=HS.out L' N hal;clear hal HS;have Fm:=Ea Hk y.kind y.side y.path y.content;have hgn:bL [] F' wL:=JE.trans hg' hB.size;have G6:dl [] wL w6:=jP JE hB' hB;generalize sU Hk y.kind y.side y.path y.content=re at Fm hC' HR⊢;obtain⟨Hn,en⟩:=re;clear hR hg' hB' hC hB hra JE
   refine ej _ rfl (.inl rfl) rfl (ah.co ?_)
   refine FL (λu=>{tmps:=#[.slice (some ⟨b,off,none⟩) l.length cap,u 1,u 2,.pointer (some ⟨s,0,none⟩),.int .i64 en,u 5,u 6,u 7,u 8,u 9,.int .i64 k,u 11,u 12,u 13,u 14,u 15,u 16,u 17,u 18,u 19,u 20,u 21,u 22,u 23,u 24,u 25,u 26,u 27,u 28,u 29,u 30,u 31,u 32,u 33,u 34,u 35,u 36,u 37,u 38,u 39,u 40,u 41,u 42,u 43,u 44,u 45,u 46,u 47,u 48,u 49,u 50,u 51,u 52,u 53,u 54,u 55,u 56,u 57,u 58,u 59,u 60,u 61,u 62,u 63,u 64,u 65,u 66,u 67,u 68,u 69,u 70,u 71,u 72,u 73,u 74],defers:=[]}) (by kernel_rfl) λu=>?_
   simp only at Fm hC' HR;replace HR:Hid _:=HR;refine ah.cU none ⟨_,Tryz.func30⟩ (by kernel_rfl) (by simp) (λw=>aT w F' s d L' (ak+N) Hn/\dl [] wL w) (λw t k h=>⟨h.1.ax t k,h.2.tape t k⟩) ⟨hC',G6⟩ λw7 hI hsz=>?_
   clear hC' G6 hsz;obtain⟨hC,hB⟩:=hI;rcases Fm with rfl|rfl
   all_goals
    go_wp2_with fail;refine ah.ya ?_;refine ah.cU none ⟨_,Tryz.func30⟩ (by kernel_rfl) (by simp) (λw=>aT w F' s d L' (ak+N) Hn/\dl [] wL w) (λw t k h=>⟨h.1.ax t k,h.2.tape t k⟩) ⟨hC,hB⟩ λw8 hI hsz=>?_
    clear hC hB hsz;obtain⟨hC,hB⟩:=hI;go_wp2_with fail;refine FL (j4 (.slice (some ⟨b,off,none⟩) l.length cap) s (k+1)) (by kernel_rfl) λu=>?_
    exact ih' (k+1) F' L' (ak+N) Hn u w8 rfl (by omega) (by omega) hC (by push_cast;omega) hgn hB HR
  .have hd1:decide ((k:Int)<(l.length:Int))=true:=by simp;omega
   have hd2:decide ((k:Int)<300)=false:=by simp;omega
   go_wp2_with fail;refine ah.nu (b:=false) rfl ?_;rw[if_neg (by simp)];refine ah.Hp rfl (ah.cU none ⟨_,Tryz.func30⟩ (by kernel_rfl) (by simp) (λw=>aT w Fk s d Lk ak Hk/\dl [] wL w) (λw t k h=>⟨h.1.ax t k,h.2.tape t k⟩) ⟨hC,hB⟩ λw6 hI hsz=>?_);go_wp2_with fail
   exact⟨w6.tape,w6.drawn,.pointer (some ⟨s,0,none⟩),by kernel_rfl,s,d,Fk,Lk,ak,Hk,rfl,hI.1,JE,hI.2,hls,by omega,by rw[<-HR.out,show l.take 300=l.take k by rw[show k=300 by omega]]⟩
 .have hd1:decide ((k:Int)<(l.length:Int))=false:=by simp;omega
  go_wp2_with fail;refine ah.nu (b:=false) rfl ?_;rw[if_neg (by simp)];refine ah.Hp rfl (ah.cU none ⟨_,Tryz.func30⟩ (by kernel_rfl) (by simp) (λw=>aT w Fk s d Lk ak Hk/\dl [] wL w) (λw t k h=>⟨h.1.ax t k,h.2.tape t k⟩) ⟨hC,hB⟩ λw6 hI hsz=>?_);go_wp2_with fail
  exact⟨w6.tape,w6.drawn,.pointer (some ⟨s,0,none⟩),by kernel_rfl,s,d,Fk,Lk,ak,Hk,rfl,hI.1,JE,hI.2,hls,by omega,by rw[<-HR.out,show l.take 300=l.take k by rw[List.take_of_length_le (by omega),List.take_of_length_le (by omega)]]⟩
def qD (sv:Value)(x:Nat->Value):kf:=[(0,sv),(15,x 15),(17,x 17),(21,x 21),(28,x 28),(30,x 30),(35,x 35),(37,x 37),(38,x 38)]
section
variable {sv:Value}{x:Nat->Value}
theorem nG:2∉sl (qD sv x):=by simp[sl,qD]
end
def zO (s1 b4 n k:Nat)(u:Nat->Value):Act:={tmps:=#[undef,u 1,u 2,.pointer (some ⟨s1,0,none⟩),.slice (some ⟨b4,0,none⟩) n n,.int .i64 k,u 6,u 7,u 8,u 9,u 10,u 11,u 12,u 13,u 14,undef,u 16,undef,u 18,u 19,u 20,undef,u 22,u 23,u 24,u 25,u 26,u 27,undef,u 29,undef,u 31,u 32,u 33,u 34,undef,u 36,undef,undef,u 39,u 40,u 41,u 42,u 43,u 44,u 45,u 46,u 47,u 48,u 49,u 50,u 51,u 52,u 53,u 54,u 55,u 56,u 57,u 58,u 59,u 60,u 61,u 62,u 63,u 64,u 65,u 66,u 67,u 68,u 69,u 70,u 71,u 72,u 73,u 74,u 75,u 76,u 77,u 78,u 79,u 80,u 81,u 82,u 83,u 84,u 85,u 86,u 87,u 88,u 89,u 90,u 91,u 92,u 93,u 94,u 95,u 96,u 97,u 98,u 99,u 100,u 101,u 102,u 103,u 104,u 105,u 106,u 107,u 108,u 109,u 110,u 111,u 112,u 113,u 114,u 115,u 116,u 117,u 118,u 119,u 120,u 121,u 122,u 123,u 124,u 125,u 126],defers:=[]}
open aF aF.Sq in
theorem Bh {E:ah.Env}{wL:World}(ad:Option Addr)(cap:Nat)(l:List fj)(h:Hz E.K ad l)(hsz:40*l.length<=281474976710656)(hG:pk wL){cd:Code}(hcd:Tryz.f7.body=some cd):
  ah.eX E 2 7 (qD (.slice ad l.length cap) λ_=>undef) [.code cd] (aej 2 wL) (Ek 127) wL:=by
 obtain rfl:=(Option.some.inj hcd).symm;clear hcd;have hB:dl [] wL wL:=dl.refl _ _;refine ah.lK {tmps:=(rn (λ_=>undef) 0 127 []).toArray,defers:=[]} (by kernel_rfl) ?_;simp only[rn];refine ah.cO ?_;refine ah.dH none nG ⟨_,Tryz.func7⟩ (by kernel_rfl) (by simp) (λw=>dl [] wL w) (λw t k h=>h.tape t k) hB λw1 hI hsz=>?_
 clear hB hsz;have hB:=hI;clear hI;go_wp2_with fail;refine ah.cO (ah.eB ?_);refine ah.ja 15 (.slice ad l.length cap) rfl rfl rfl (by simp[sl,qD,ah.lj]) (by simp[sl,qD,ah.lj]) (λπ w=>by kernel_rfl) ?_
 refine ah.J8 (f2:=30) #[.slice ad l.length cap] rfl rfl (cX (by kernel_rfl)) (λπ w=>by kernel_rfl) (Kb ad cap l h (hG.blk hB (by simp))) λv wb1 hR _=>?_
 obtain⟨s1,d1,F1,L1,a1,H1,rfl,fh,hg1,hB1,ahl,ha1,Tj⟩:=hR;replace hg1:bL [] F1 wL:=(bL.refl [] wL).trans hg1 hB.size;replace hB:=hB.trans hB1;replace Tj:Hid _:=Tj;clear hB1 ahl;refine ah.eP _ rfl (.inl rfl) (by kernel_rfl) rfl (ah.eA ?_)
 refine ah.eN (λu=>{tmps:=(undef::u 1::u 2::.pointer (some ⟨s1,0,none⟩)::rn u 4 11 (undef::u 16::undef::rn u 18 3 (undef::rn u 22 6 (undef::u 29::undef::rn u 31 4 (undef::u 36::undef::undef::rn u 39 88 []))))).toArray,defers:=[]}) (by kernel_rfl) λu=>?_
 simp only[rn];refine ah.cO (ah.eB ?_);refine ah.ja 17 (.slice ad l.length cap) rfl rfl rfl (by simp[sl,qD,ah.lj]) (by simp[sl,qD,ah.lj]) (λπ w=>by kernel_rfl) ?_;refine ah.tQ (.int .i64 l.length) (by intro r hr;cases hr) rfl rfl (cX (by kernel_rfl)) (λπ w=>by kernel_rfl) ?_
 refine kr (λx=>qD (.slice ad l.length cap) x) λx=>?_
 refine ah.mK 2 rfl nG ⟨_,Tryz.func7⟩ (by kernel_rfl) (λw=>aT w F1 s1 d1 L1 a1 H1/\dl [] wL w) (λw t k h=>⟨h.1.ax t k,h.2.tape t k⟩) ⟨fh,hB⟩ λw2 hI _=>?_
 clear fh hB;obtain⟨fh,hB⟩:=hI;show wpList _ _ _ [_,_] _ _;refine tc 22 rfl ?_;refine al.go (Gj rfl 22 24 _ _ rfl KS 4 40 O2 Jt l.length rfl rfl hsz (by omega) ?_);intro wm b4 l4 f4 r4;have hb4:b4∉F1/\s1≠b4:=⟨λhF=>by have:=fh.store.disk.lt b4 hF;omega,by have:=fh.store.row.lt;omega⟩
 have XA:wL.heap.size<=b4:=Nat.le_trans hB.size l4;clear l4;replace fh:=fh.new f4;replace hB:=hB.trans f4.blk;clear f4;have hT:Turned l 0 (madeCells O2.cells (l.length*4)):=⟨size_madeCells _ _,λj hj=>by omega⟩
 generalize madeCells O2.cells (l.length*4)=cs at r4 hT;go_wp2_with fail;refine ah.eN (λu=>{tmps:=(undef::u 1::u 2::.pointer (some ⟨s1,0,none⟩)::.slice (some ⟨b4,0,none⟩) l.length l.length::rn u 5 10 (undef::u 16::undef::rn u 18 3 (undef::rn u 22 6 (undef::u 29::undef::rn u 31 4 (undef::u 36::undef::undef::rn u 39 88 []))))).toArray,defers:=[]}) (by kernel_rfl) λu=>?_
 simp only[rn];refine kr (λx=>qD (.slice ad l.length cap) x) λx=>?_
 refine ah.cO (ah.cO ?_);refine ah.dH none nG ⟨_,Tryz.func7⟩ (by kernel_rfl) (by simp) (λw=>aT w F1 s1 d1 L1 a1 H1/\dl [] wL w/\Row w b4 cs 24) (λw t k h=>⟨h.1.ax t k,h.2.1.tape t k,h.2.2⟩) ⟨fh,hB,r4⟩ λw3 hI hsz=>?_
 clear fh hB r4 hsz;obtain⟨fh,hB,r4⟩:=hI;go_wp2_with fail;refine ah.pO ?_;refine ah.eN (zO s1 b4 l.length 0) (by kernel_rfl) λu=>?_
 refine ah.sM (λD a w=>∃(x:Nat->Value) (k:Nat) (cs:Array Value) (u:Nat->Value),D=qD (.slice ad l.length cap) x/\a=zO s1 b4 l.length k u/\k<=l.length/\aT w F1 s1 d1 L1 a1 H1/\dl [] wL w/\Row w b4 cs 24/\Turned l k cs) (λa _=>l.length-(intOf (a.tmps.getD 5 undef)).toNat)
  ⟨_,0,cs,u,rfl,rfl,by omega,fh,hB,r4,hT⟩ ?_
 clear fh hB r4 hT u x cs;rintro D a w ⟨x,k,cs,u,rfl,rfl,hkl,fh,hB,r4,hT⟩ ih
 have ih':∀(x:Nat->Value) (k':Nat) (cs:Array Value) (u:Nat->Value) (w:World),k'=k+1->k'<=l.length->(aT w F1 s1 d1 L1 a1 H1/\dl [] wL w/\Row w b4 cs 24/\Turned l (k+1) cs)->ah.eX _ _ _ (qD (.slice ad l.length cap) x) _ _ (zO s1 b4 l.length k' u) w:=λx k' cs u w e1 e2 e3=>ih _ _ _ ⟨x,k',cs,u,rfl,rfl,e2,by subst e1;exact e3⟩ (by subst e1;simp[zO,intOf];omega)
 clear ih;unfold zO at ih'⊢;refine ah.cO (ah.cO (ah.eB ?_));refine ah.eP _ rfl (.inr rfl) (by kernel_rfl) rfl (ah.ja 21 (.slice ad l.length cap) rfl rfl rfl (by simp[sl,qD,ah.lj]) (by simp[sl,qD,ah.lj]) (λπ w=>by kernel_rfl) ?_)
 refine ah.tQ (.int .i64 l.length) (by intro r hr;cases hr) rfl rfl (cX (by kernel_rfl)) (λπ w=>by kernel_rfl) ?_;refine ah.ig (w1:=w) (.bool (decide ((k:Int)<(l.length:Int)))) rfl (by kernel_rfl) rfl (λt d=>by kernel_rfl) ?_;refine ah.eA ?_
 by_cases hlt:k<l.length
 .have hd1:decide ((k:Int)<(l.length:Int))=true:=by simp;omega
  rw[hd1];clear hd1;refine ah.eN (λu=>{tmps:=(undef::u 1::u 2::.pointer (some ⟨s1,0,none⟩)::.slice (some ⟨b4,0,none⟩) l.length l.length::.int .i64 k::rn u 6 9 (undef::u 16::undef::rn u 18 3 (undef::u 22::.bool true::rn u 24 4 (undef::u 29::undef::rn u 31 4 (undef::u 36::undef::undef::rn u 39 88 []))))).toArray,defers:=[]}) (by kernel_rfl) λu=>?_
  simp only[rn];refine ah.oX (b:=true) rfl rfl ?_;rw[if_pos rfl];refine ah.DL (ah.cO (ah.pO (ah.cO (ah.eB ?_))));obtain⟨hok,b,off,rfl,ob,hK,hra⟩:=h k hlt;have hTS:=hT.step hlt;clear hT;have HT:Hid (Turned l (k+1) ((over cs (k*4) l[k].cells.toList).setIfInBounds (k*4+1) (.int .i64 (1-(ba l[k].side 2:Nat))))):=hTS.1;have hcs:=hTS.2;clear hTS
  generalize l[k]=y at hok hra HT hcs;refine kr (λx=>qD (.slice (some ⟨b,off,none⟩) l.length cap) x) λx=>?_
  refine ah.eP _ rfl (.inr rfl) (by kernel_rfl) rfl (ah.eP _ rfl (.inr rfl) (by kernel_rfl) rfl (ah.ja 28 (.slice (some ⟨b,off,none⟩) l.length cap) rfl rfl rfl (by simp[sl,qD,ah.lj]) (by simp[sl,qD,ah.lj]) (λπ w=>by kernel_rfl) (ah.eP _ rfl (.inr rfl) (by kernel_rfl) rfl ?_)))
  refine ah.ja 30 (.pointer (some ⟨b,off+k*4,none⟩)) rfl rfl rfl (by simp[sl,qD,ah.lj]) (by simp[sl,qD,ah.lj]) (λπ w=>Fb (m:=4) (x:= .tmp 28) (y:= .tmp 29) (by kernel_rfl) (by kernel_rfl) b off l.length cap k hlt _ rfl (by kernel_rfl) (ah.xQ (by kernel_rfl) (by kernel_rfl) (by kernel_rfl)) w) ?_
  refine ah.x8 b ob hK (.agg y.cells) G5 rfl rfl (cX (by kernel_rfl)) (λπ w hw=>(vK (x:= .tmp 30) mJ (by show 0<4;omega) hw hra _ rfl).1) (λπ w hw=>(vK (x:= .tmp 30) mJ (by show 0<4;omega) hw hra _ rfl).2) ?_
  refine ah.eN (λu=>{tmps:=(undef::u 1::u 2::.pointer (some ⟨s1,0,none⟩)::.slice (some ⟨b4,0,none⟩) l.length l.length::.int .i64 k::rn u 6 9 (undef::u 16::undef::rn u 18 3 (undef::rn u 22 4 (.slice (some ⟨b4,0,none⟩) l.length l.length::.int .i64 k::undef::u 29::undef::.agg y.cells::rn u 32 3 (undef::u 36::undef::undef::rn u 39 88 []))))).toArray,defers:=[]}) (by kernel_rfl) λu=>?_
  simp only[rn];refine kr (λx=>qD (.slice (some ⟨b,off,none⟩) l.length cap) x) λx=>?_
  refine ah.mK 6 rfl nG ⟨_,Tryz.func7⟩ (by kernel_rfl) (λw=>aT w F1 s1 d1 L1 a1 H1/\dl [] wL w/\Row w b4 cs 24) (λw t k h=>⟨h.1.ax t k,h.2.1.tape t k,h.2.2⟩) ⟨fh,hB,r4⟩ λw4 hI _=>?_
  clear fh hB r4;obtain⟨fh,hB,r4⟩:=hI;show wpList _ _ _ [_,_] _ _;go_wp2_with (with_reducible first|refine af 24 rfl ?_);refine al.go (bK rfl 24 _ _ rfl b4 (k*4) (by go_simp) y.cells rfl 4 mJ rfl (Sp y) _ _ r4 (by omega) ?_);intro wp fp rp;replace fh:=fh.adt fp hb4;replace hB:=hB.trans fp.blk (by simpa using XA);clear fp r4;have r4:=rp;clear rp;go_wp2_with fail
  refine ah.eB ?_;refine ah.eN (λu=>{tmps:=(undef::u 1::u 2::.pointer (some ⟨s1,0,none⟩)::.slice (some ⟨b4,0,none⟩) l.length l.length::.int .i64 k::rn u 6 9 (undef::u 16::undef::rn u 18 3 (undef::rn u 22 6 (undef::u 29::undef::rn u 31 4 (undef::u 36::undef::undef::rn u 39 88 []))))).toArray,defers:=[]}) (by kernel_rfl) λu=>?_
  simp only[rn];refine kr (λx=>qD (.slice (some ⟨b,off,none⟩) l.length cap) x) λx=>?_
  refine ah.eP _ rfl (.inr rfl) (by kernel_rfl) rfl (ah.eP _ rfl (.inr rfl) (by kernel_rfl) rfl (ah.ja 35 (.slice (some ⟨b,off,none⟩) l.length cap) rfl rfl rfl (by simp[sl,qD,ah.lj]) (by simp[sl,qD,ah.lj]) (λπ w=>by kernel_rfl) (ah.eP _ rfl (.inr rfl) (by kernel_rfl) rfl ?_)))
  refine ah.ja 37 (.pointer (some ⟨b,off+k*4,none⟩)) rfl rfl rfl (by simp[sl,qD,ah.lj]) (by simp[sl,qD,ah.lj]) (λπ w=>Fb (m:=4) (x:= .tmp 35) (y:= .tmp 36) (by kernel_rfl) (by kernel_rfl) b off l.length cap k hlt _ rfl (by kernel_rfl) (ah.xQ (by kernel_rfl) (by kernel_rfl) (by kernel_rfl)) w) ?_
  refine ah.ja 38 (.pointer (some ⟨b,off+k*4+1,none⟩)) rfl rfl rfl (by simp[sl,qD,ah.lj]) (by simp[sl,qD,ah.lj]) (λπ w=>by kernel_rfl) ?_
  refine ah.x8 b ob hK (.int .i64 y.side) (by intro r hr;cases hr) rfl rfl (cX (by kernel_rfl)) (λπ w hw=>(C7 (x:= .tmp 38) (hra w hw 1 _ rfl) _ rfl (by kernel_rfl)).1) (λπ w hw=>(C7 (x:= .tmp 38) (hra w hw 1 _ rfl) _ rfl (by kernel_rfl)).2) ?_
  refine ah.eN (λu=>{tmps:=(undef::u 1::u 2::.pointer (some ⟨s1,0,none⟩)::.slice (some ⟨b4,0,none⟩) l.length l.length::.int .i64 k::rn u 6 9 (undef::u 16::undef::rn u 18 3 (undef::rn u 22 6 (undef::u 29::undef::u 31::u 32::.slice (some ⟨b4,0,none⟩) l.length l.length::.int .i64 k::undef::u 36::undef::undef::.int .i64 y.side::rn u 40 87 [])))).toArray,defers:=[]}) (by kernel_rfl) λu=>?_
  simp only[rn];refine kr (λx=>qD (.slice (some ⟨b,off,none⟩) l.length cap) x) λx=>?_
  refine ah.mK 7 rfl nG ⟨_,Tryz.func7⟩ (by kernel_rfl) (λw=>aT w F1 s1 d1 L1 a1 H1/\dl [] wL w/\Row w b4 (over cs (k*4) y.cells.toList) 24) (λw t k h=>⟨h.1.ax t k,h.2.1.tape t k,h.2.2⟩) ⟨fh,hB,r4⟩ λw5 hI _=>?_
  clear fh hB r4;obtain⟨fh,hB,r4⟩:=hI;show wpList _ _ _ [_,_,_,_,_] _ _;have hpl:=iR y.side 2;go_wp2_with (with_reducible first|refine af 3 rfl ?_);refine(oJ y.side 2 _ hok.2.1.1 hok.2.1.2).mono ?_;rintro e wq ⟨rfl,rfl⟩;go_wp2_with (with_reducible first|refine af 3 rfl ?_)
  refine al.go (fu rfl 3 _ _ rfl b4 (k*4+1) (by go_simp) .i64 (1-(ba y.side 2:Nat)) (by go_simp) (hi:=Ju) _ _ r4 (by omega) ?_);intro wp fp rp;replace fh:=fh.adt fp hb4;replace hB:=hB.trans fp.blk (by simpa using XA);clear fp r4;have r4:=rp;clear rp;go_wp2_with fail;refine ah.uT ?_
  refine ah.dH none nG ⟨_,Tryz.func7⟩ (by kernel_rfl) (by simp) (λw=>aT w F1 s1 d1 L1 a1 H1/\dl [] wL w/\Row w b4 ((over cs (k*4) y.cells.toList).setIfInBounds (k*4+1) (.int .i64 (1-(ba y.side 2:Nat)))) 24) (λw t k h=>⟨h.1.ax t k,h.2.1.tape t k,h.2.2⟩) ⟨fh,hB,r4⟩ λw6 hI hsz=>?_
  clear fh hB r4 hsz;obtain⟨fh,hB,r4⟩:=hI;go_wp2_with fail;refine ah.eN (zO s1 b4 l.length (k+1)) (by kernel_rfl) λu=>?_
  exact ih' _ (k+1) _ u _ rfl (by omega) ⟨fh,hB,r4,HT.out⟩
 .have hd1:decide ((k:Int)<(l.length:Int))=false:=by simp;omega
  rw[hd1];clear hd1;refine ah.eN (λu=>{tmps:=(undef::u 1::u 2::.pointer (some ⟨s1,0,none⟩)::.slice (some ⟨b4,0,none⟩) l.length l.length::.int .i64 k::rn u 6 9 (undef::u 16::undef::rn u 18 3 (undef::u 22::.bool false::rn u 24 4 (undef::u 29::undef::rn u 31 4 (undef::u 36::undef::undef::rn u 39 88 []))))).toArray,defers:=[]}) (by kernel_rfl) λu=>?_
  simp only[rn];refine ah.oX (b:=false) rfl rfl ?_;rw[if_neg (by simp)];refine ah.x9 rfl ?_;obtain rfl:k=l.length:=by omega
  clear ih' hlt hkl;have hA:=hT.acts r4 h;have hln:(l.map fj.turn).length=l.length:=List.length_map _;refine ah.cO (ah.eB ?_);refine kr (λx=>qD (.slice ad l.length cap) x) λx=>?_
  refine ah.eP _ rfl (.inr rfl) (by kernel_rfl) rfl ?_;refine ah.oZ (f2:=30) #[.tmp 44] #[.slice (some ⟨b4,0,none⟩) l.length l.length] (R2:=Gd (l.map fj.turn) w) rfl rfl (by kernel_rfl) (by kernel_rfl) (cX (by kernel_rfl)) (λb w=>by kernel_rfl) (by kernel_rfl)
   (hln▸N0 (some ⟨b4,0,none⟩) (l.map fj.turn).length (l.map fj.turn) hA (Nat.le_refl _) (by rw[hln];show l.length<=9223372036854775807;omega) (hG.blk hB (by simp))) λv wb2 hR _=>?_
  obtain⟨s2,d2,F2,L2,a2,H2,rfl,hC2,hg2,hB2,acF,ha2,hR2⟩:=hR;have ap:=Ap.fresh fh hg2 acF;replace fh:=fh.agI hB2;replace hg2:bL [] F2 wL:=(bL.refl [] wL).trans hg2 hB.size;replace hB:=hB.trans hB2;have hM:sX H1 H2:=by
   have:=IQ (l.take 300);rw[Tj.out,<-List.map_take] at*;rw[hR2] at this;exact this
  clear hB2 acF Tj hR2 hA hT r4 hb4 XA h hsz;refine ah.eP _ rfl (.inl rfl) (by kernel_rfl) rfl (ah.eA ?_)
  refine ah.eN (λu=>{tmps:=(undef::u 1::u 2::.pointer (some ⟨s1,0,none⟩)::u 4::u 5::.pointer (some ⟨s2,0,none⟩)::rn u 7 8 (undef::u 16::undef::rn u 18 3 (undef::rn u 22 6 (undef::u 29::undef::rn u 31 4 (undef::u 36::undef::undef::rn u 39 88 []))))).toArray,defers:=[]}) (by kernel_rfl) λu=>?_
  simp only[rn];refine ah.cO ?_;refine ah.dH none nG ⟨_,Tryz.func7⟩ (by kernel_rfl) (by simp) (λw=>aT w F1 s1 d1 L1 a1 H1/\aT w F2 s2 d2 L2 a2 H2/\dl [] wL w) (λw t k h=>⟨h.1.ax t k,h.2.1.ax t k,h.2.2.tape t k⟩) ⟨fh,hC2,hB⟩ λw7 hI hsz=>?_
  clear fh hC2 hB hsz;obtain⟨fh,hC2,hB⟩:=hI;go_wp2_with fail;refine ah.cO (ah.eB ?_)
  refine ah.eN (λu=>{tmps:=(undef::u 1::u 2::.pointer (some ⟨s1,0,none⟩)::u 4::u 5::.pointer (some ⟨s2,0,none⟩)::rn u 7 8 (undef::u 16::undef::rn u 18 3 (undef::rn u 22 6 (undef::u 29::undef::rn u 31 4 (undef::u 36::undef::undef::rn u 39 88 []))))).toArray,defers:=[]}) (by kernel_rfl) λu=>?_
  simp only[rn];refine kr (λx=>qD (.slice ad l.length cap) x) λx=>?_
  refine ah.eP _ rfl (.inr rfl) (by kernel_rfl) rfl ?_;refine ah.oZ (f2:=31) #[.tmp 53] #[.pointer (some ⟨s1,0,none⟩)] (R2:=sV F1 s1 d1 200 (DS.calm L1 a1) w7) rfl rfl (by kernel_rfl) (by kernel_rfl) (cX (by kernel_rfl)) (λb w=>by kernel_rfl) (by kernel_rfl) (sP fh.store (hG.blk hB (by simp)) (hg1.nil hG) (fh.ok (by omega))) λv ws1 hR _=>?_
  obtain⟨ps1,cv,G1,M1,k1,rfl,hP1,hC,hgn,G6,hka,hkb,hno,hcv,hcF,hsl⟩:=fh.synced hR;have ap0:=ap;replace ap:=(ap.symm.grow hC2 hgn).symm;replace hC2:=hC2.off ap0.symm G6;replace hB:dl [] wL ws1:=jP hg1 G6 hB;obtain⟨DQ,uU,A6⟩:=bQ hcv;subst A6;clear hR fh hg1 hgn G6 hka hkb hno hcv hcF hsl ap0;have fh:=hC;clear hC
  refine ah.eP _ rfl (.inr rfl) (by kernel_rfl) rfl (ah.ig (w1:=ws1) (.agg #[.int .i64 (ep H1 ps1).length,.slice DQ (jy H1 ps1).length uU]) rfl (by kernel_rfl) rfl (λt d=>by kernel_rfl) (ah.ig (w1:=ws1) (.int .i64 0) rfl (by kernel_rfl) rfl (λt d=>by kernel_rfl) ?_));skip;generalize hS1:(ep H1 ps1).length=S1;generalize hQ1:(jy H1 ps1).length=Q1
  refine ah.eN (λu=>{tmps:=(undef::u 1::u 2::.pointer (some ⟨s1,0,none⟩)::u 4::u 5::.pointer (some ⟨s2,0,none⟩)::rn u 7 8 (undef::u 16::undef::rn u 18 3 (undef::rn u 22 6 (undef::u 29::undef::rn u 31 4 (undef::u 36::undef::undef::rn u 39 16 (.agg #[.int .i64 S1,.slice DQ Q1 uU]::.int .i64 0::rn u 57 70 [])))))).toArray,defers:=[]}) (by kernel_rfl) λu=>?_
  simp only[rn];refine ah.mK 5 rfl nG ⟨_,Tryz.func7⟩ (by kernel_rfl) (λw=>aT w G1 s1 d1 M1 (a1+k1) (cz H1)/\aT w F2 s2 d2 L2 a2 H2/\dl [] wL w) (λw t k h=>⟨h.1.ax t k,h.2.1.ax t k,h.2.2.tape t k⟩) ⟨fh,hC2,hB⟩ λw8 hI _=>?_
  clear fh hC2 hB;obtain⟨fh,hC2,hB⟩:=hI;show wpList _ _ _ [_,_,_] _ _;refine az rfl ?_;refine al.go (bi rfl 58 rfl _ iy ?_);intro w12 b7 l9 f10 Ed;go_wp2_with (with_reducible first|refine af 58 rfl ?_);refine al.go (ft rfl 58 _ _ rfl b7 rfl (#[.int .i64 S1,.slice DQ Q1 uU]) rfl dU (by simp[Value.oneCell']) _ _ Ed rfl ?_)
  intro w13 f14 r7;have ff:aO [] w8 w13:=f10.trans f14 (by simpa using l9);have MQ:b7∉F2/\s2≠b7:=⟨λhF=>by have:=hC2.store.disk.lt b7 hF;omega,by have:=hC2.store.row.lt;omega⟩
  clear f10 f14 Ed l9;replace fh:=fh.new ff;replace hC2:=hC2.new ff;replace hB:=hB.trans ff.blk;clear ff;go_wp2_with fail;skip;refine ah.cO (ah.eB ?_)
  refine ah.eN (λu=>{tmps:=(undef::u 1::u 2::.pointer (some ⟨s1,0,none⟩)::u 4::u 5::.pointer (some ⟨s2,0,none⟩)::.pointer (some ⟨b7,0,none⟩)::.int .i64 0::rn u 9 6 (undef::u 16::undef::rn u 18 3 (undef::rn u 22 6 (undef::u 29::undef::rn u 31 4 (undef::u 36::undef::undef::rn u 39 88 []))))).toArray,defers:=[]}) (by kernel_rfl) λu=>?_
  simp only[rn];refine kr (λx=>qD (.slice ad l.length cap) x) λx=>?_
  refine ah.eP _ rfl (.inr rfl) (by kernel_rfl) rfl ?_;refine ah.oZ (f2:=31) #[.tmp 58] #[.pointer (some ⟨s2,0,none⟩)] (R2:=sV F2 s2 d2 200 (DS.calm L2 a2) w13) rfl rfl (by kernel_rfl) (by kernel_rfl) (cX (by kernel_rfl)) (λb w=>by kernel_rfl) (by kernel_rfl) (sP hC2.store (hG.blk hB (by simp)) (hg2.nil hG) (hC2.ok (by omega))) λv ws2 hR _=>?_
  obtain⟨ps2,cv,G2,M2,k2,rfl,hP2,hC,hgn,G6,hka,hkb,hno,hcv,hcF,hsl⟩:=hC2.synced hR;have ap0:=ap;replace ap:=ap.grow fh hgn;replace fh:=fh.off ap0 G6;replace r7:=G6.row r7 MQ.1;replace hB:dl [] wL ws2:=jP hg2 G6 hB;obtain⟨FR,yf,A6⟩:=bQ hcv;subst A6;clear hR hC2 hg2 hgn G6 hka hkb hno hcv hcF hsl ap0 MQ;have hC2:=hC;clear hC
  refine ah.eP _ rfl (.inr rfl) (by kernel_rfl) rfl (ah.ig (w1:=ws2) (.agg #[.int .i64 (ep H2 ps2).length,.slice FR (jy H2 ps2).length yf]) rfl (by kernel_rfl) rfl (λt d=>by kernel_rfl) (ah.ig (w1:=ws2) (.int .i64 0) rfl (by kernel_rfl) rfl (λt d=>by kernel_rfl) ?_));generalize hS2:(ep H2 ps2).length=S2;generalize hQ2:(jy H2 ps2).length=Q2
  refine ah.eN (λu=>{tmps:=(undef::u 1::u 2::.pointer (some ⟨s1,0,none⟩)::u 4::u 5::.pointer (some ⟨s2,0,none⟩)::.pointer (some ⟨b7,0,none⟩)::.int .i64 0::rn u 9 6 (undef::u 16::undef::rn u 18 3 (undef::rn u 22 6 (undef::u 29::undef::rn u 31 4 (undef::u 36::undef::undef::rn u 39 21 (.agg #[.int .i64 S2,.slice FR Q2 yf]::.int .i64 0::rn u 62 65 [])))))).toArray,defers:=[]}) (by kernel_rfl) λu=>?_
  simp only[rn];refine ah.mK 5 rfl nG ⟨_,Tryz.func7⟩ (by kernel_rfl) (λw=>aT w G1 s1 d1 M1 (a1+k1) (cz H1)/\aT w G2 s2 d2 M2 (a2+k2) (cz H2)/\dl [] wL w/\Row w b7 (#[.int .i64 S1,.slice DQ Q1 uU]) 58) (λw t k h=>⟨h.1.ax t k,h.2.1.ax t k,h.2.2.1.tape t k,h.2.2.2⟩) ⟨fh,hC2,hB,r7⟩ λw15 hI _=>?_
  clear fh hC2 hB r7;obtain⟨fh,hC2,hB,r7⟩:=hI;show wpList _ _ _ [_,_,_] _ _;refine az rfl ?_;refine al.go (bi rfl 58 rfl _ iy ?_);intro w19 b9 l16 f17 r18;go_wp2_with (with_reducible first|refine af 58 rfl ?_);refine al.go (ft rfl 58 _ _ rfl b9 rfl (#[.int .i64 S2,.slice FR Q2 yf]) rfl dU (by simp[Value.oneCell']) _ _ r18 rfl ?_)
  intro w20 f21 r9;have ff:aO [] w15 w20:=f17.trans f21 (by simpa using l16);clear f17 f21 r18 l16;replace fh:=fh.new ff;replace hC2:=hC2.new ff;replace hB:=hB.trans ff.blk;replace r7:=ff.row r7;clear ff;go_wp2_with fail;refine ah.cO ?_
  refine ah.dH none nG ⟨_,Tryz.func7⟩ (by kernel_rfl) (by simp) (λw=>aT w G1 s1 d1 M1 (a1+k1) (cz H1)/\aT w G2 s2 d2 M2 (a2+k2) (cz H2)/\dl [] wL w/\Row w b7 (#[.int .i64 S1,.slice DQ Q1 uU]) 58/\Row w b9 (#[.int .i64 S2,.slice FR Q2 yf]) 58) (λw t k h=>⟨h.1.ax t k,h.2.1.ax t k,h.2.2.1.tape t k,h.2.2.2.1,h.2.2.2.2⟩) ⟨fh,hC2,hB,r7,r9⟩ λw22 hI hsz=>?_
  clear fh hC2 hB r7 r9 hsz;obtain⟨fh,hC2,hB,r7,r9⟩:=hI;go_wp2_with fail;refine fh.seen.mono ?_;rintro e w23 ⟨rfl,f24⟩;replace fh:=fh.new f24;replace hC2:=hC2.new f24;replace hB:=hB.trans f24.blk;replace r7:=f24.row r7;replace r9:=f24.row r9;clear f24;go_wp2_with (with_reducible first|refine az rfl ?_|refine af 33 rfl ?_)
  refine al.go (bi rfl 33 rfl _ mM ?_);intro w28 b11 l25 f26 r27;go_wp2_with (with_reducible first|refine af 33 rfl ?_);refine al.go (ft rfl 33 _ _ rfl b11 rfl (eH (rv (cz H1))) rfl (BZ _) (B0 _) _ _ r27 (by rw[cL,ru];rfl) ?_);intro w29 f30 Ed;have ff:aO [] w23 w29:=f26.trans f30 (by simpa using l25);clear f26 f30 r27 l25
  replace fh:=fh.new ff;replace hC2:=hC2.new ff;replace hB:=hB.trans ff.blk;replace r7:=ff.row r7;replace r9:=ff.row r9;clear ff;go_wp2_with fail;refine ah.cO ?_
  refine ah.dH none nG ⟨_,Tryz.func7⟩ (by kernel_rfl) (by simp) (λw=>aT w G1 s1 d1 M1 (a1+k1) (cz H1)/\aT w G2 s2 d2 M2 (a2+k2) (cz H2)/\dl [] wL w/\Row w b7 (#[.int .i64 S1,.slice DQ Q1 uU]) 58/\Row w b9 (#[.int .i64 S2,.slice FR Q2 yf]) 58/\Row w b11 (eH (rv (cz H1))) 33) (λw t k h=>⟨h.1.ax t k,h.2.1.ax t k,h.2.2.1.tape t k,h.2.2.2.1,h.2.2.2.2.1,h.2.2.2.2.2⟩) ⟨fh,hC2,hB,r7,r9,Ed⟩ λw31 hI hsz=>?_
  clear fh hC2 hB r7 r9 Ed hsz;obtain⟨fh,hC2,hB,r7,r9,Ed⟩:=hI;go_wp2_with fail;refine hC2.seen.mono ?_;rintro e w32 ⟨rfl,f33⟩;replace fh:=fh.new f33;replace hC2:=hC2.new f33;replace hB:=hB.trans f33.blk;replace r7:=f33.row r7;replace r9:=f33.row r9;replace Ed:=f33.row Ed;clear f33
  go_wp2_with (with_reducible first|refine az rfl ?_|refine af 33 rfl ?_);refine al.go (bi rfl 33 rfl _ mM ?_);intro w37 b13 l34 f35 r36;go_wp2_with (with_reducible first|refine af 33 rfl ?_);refine al.go (ft rfl 33 _ _ rfl b13 rfl (eH (rv (cz H2))) rfl (BZ _) (B0 _) _ _ r36 (by rw[cL,ru];rfl) ?_)
  intro w38 f39 Zt;have ff:aO [] w32 w38:=f35.trans f39 (by simpa using l34);clear f35 f39 r36 l34;replace fh:=fh.new ff;replace hC2:=hC2.new ff;replace hB:=hB.trans ff.blk;replace r7:=ff.row r7;replace r9:=ff.row r9;replace Ed:=ff.row Ed;clear ff;go_wp2_with fail
  refine ah.dH none nG ⟨_,Tryz.func7⟩ (by kernel_rfl) (by simp) (λw=>aT w G1 s1 d1 M1 (a1+k1) (cz H1)/\aT w G2 s2 d2 M2 (a2+k2) (cz H2)/\dl [] wL w/\Row w b7 (#[.int .i64 S1,.slice DQ Q1 uU]) 58/\Row w b9 (#[.int .i64 S2,.slice FR Q2 yf]) 58/\Row w b11 (eH (rv (cz H1))) 33/\Row w b13 (eH (rv (cz H2))) 33) (λw t k h=>⟨h.1.ax t k,h.2.1.ax t k,h.2.2.1.tape t k,h.2.2.2.1,h.2.2.2.2.1,h.2.2.2.2.2.1,h.2.2.2.2.2.2⟩) ⟨fh,hC2,hB,r7,r9,Ed,Zt⟩ λTY hI hsz=>?_
  clear fh hC2 hB r7 r9 Ed Zt hsz;obtain⟨fh,hC2,hB,r7,r9,Ed,Zt⟩:=hI;have HM:Hid _:=hM.sync.state;have hSS:S2=S1:=by rw[<-hS1,<-hS2,(hM.paths hP1).uniq hP2|>.symm];exact hM.steps _
  have hQQ:Q2=Q1:=by rw[<-hQ1,<-hQ2,(hM.paths hP1).uniq hP2|>.symm,hM.adW]
  subst hSS hQQ;clear hS1 hS2 hQ1 hQ2 hP1 hP2 hM hG;have c70:TY.cell? ⟨b7,0,none⟩=some (.int .i64 S2):=by rw[r7.cell];rfl
  have c71:TY.cell? ⟨b7,1,none⟩=some (.slice DQ Q2 uU):=by rw[r7.cell];rfl
  have c90:TY.cell? ⟨b9,0,none⟩=some (.int .i64 S2):=by rw[r9.cell];rfl
  have c91:TY.cell? ⟨b9,1,none⟩=some (.slice FR Q2 yf):=by rw[r9.cell];rfl
  go_wp2_with (with_reducible first|refine ay 30 rfl ?_|refine cF 30 rfl ?_);clear c70 c71 c90 c91;refine al.go (mm rfl 30 _ rfl b11 0 (by go_simp) mC (eH (((rv (cz H1)).drop 0).take 7)) (by rw[cL];exact kE) (jq Ed 0) ?_);go_wp2_with (with_reducible first|refine ay 30 rfl ?_|refine cF 30 rfl ?_)
  refine al.go (mm rfl 30 _ rfl b13 7 (by go_simp) mC (eH (((rv (cz H2)).drop 7).take 7)) (by rw[cL];exact kE) (jq Zt 7) ?_);go_wp2_with (with_reducible first|refine ay 30 rfl ?_|refine cF 30 rfl ?_)
  refine al.go (cx rfl (.bool true) TY (tN .eql 30 30 _ _ rfl _ _ rfl rfl _ (by exact qK _ _ _ _ _ _) (by exact xS _ _ (iC _ _) (iC _ _) (HM.out.1) _)) ?_);go_wp2_with (with_reducible first|refine ay 30 rfl ?_|refine cF 30 rfl ?_)
  refine al.go (jj (mm rfl 30 _ rfl b11 7 (by go_simp) mC (eH (((rv (cz H1)).drop 7).take 7)) (by rw[cL];exact kE) (jq Ed 7) ?_));go_wp2_with (with_reducible first|refine ay 30 rfl ?_|refine cF 30 rfl ?_)
  refine al.go (jj (mm rfl 30 _ rfl b13 0 (by go_simp) mC (eH (((rv (cz H2)).drop 0).take 7)) (by rw[cL];exact kE) (jq Zt 0) ?_));go_wp2_with (with_reducible first|refine ay 30 rfl ?_|refine cF 30 rfl ?_)
  refine al.go (jj (cx rfl (.bool true) TY (tN .eql 30 30 _ _ rfl _ _ rfl rfl _ (by exact qK _ _ _ _ _ _) (by exact xS _ _ (iC _ _) (iC _ _) (HM.out.2.1) _)) ?_));go_wp2_with (with_reducible first|refine ay 30 rfl ?_|refine cF 30 rfl ?_)
  refine al.go (jj (mm rfl 30 _ rfl b11 14 (by go_simp) mC (eH (((rv (cz H1)).drop 14).take 7)) (by rw[cL];exact kE) (jq Ed 14) ?_));go_wp2_with (with_reducible first|refine ay 30 rfl ?_|refine cF 30 rfl ?_)
  refine al.go (jj (mm rfl 30 _ rfl b13 14 (by go_simp) mC (eH (((rv (cz H2)).drop 14).take 7)) (by rw[cL];exact kE) (jq Zt 14) ?_));go_wp2_with (with_reducible first|refine ay 30 rfl ?_|refine cF 30 rfl ?_)
  refine al.go (jj (cx rfl (.bool true) TY (tN .eql 30 30 _ _ rfl _ _ rfl rfl _ (by exact qK _ _ _ _ _ _) (by exact xS _ _ (iC _ _) (iC _ _) (HM.out.2.2) _)) ?_));go_wp2_with fail;exact P0 (by kernel_rfl) hB
end
section
open Go.ChangeShapes Go.WideShapes Go.ChangeAt Go.RowKit Go.Deep Go.Joins Go.Lib Go.Conc Go.ConcM
theorem Ir:((begin Tryz.prog (λ_ _=>0) default).world.heap[0]?).bind Obj.row? =some (#[.int .i64 0],3):=by kernel_rfl
theorem yJ:Tryz.prog.globals.size=1:=by kernel_rfl
theorem yd:Tryz.prog.cellTypes Tryz.prog.depth 3=some [3]:=by kernel_rfl
def Ab (w:World):Prop:=∃c t f,w.heap[0]? =some (.cells c t f)/\∀v∈c,∃q,v= .int .i64 q
theorem Ab.yZ {w:World}(h:Ab w):pk w:=by
 obtain⟨c,t,f,h1,h2⟩:=h;refine⟨c,t,f,h1,λv hv r hr=>?_⟩;obtain⟨q,rfl⟩:=h2 v hv;cases hr
theorem xI {w:World}(h:w.ShapedOpen Tryz.prog):Ab w:=by
 obtain⟨cs,h1,h2,h3⟩:=h.1 0 _ _ (by rw[yJ];omega) Ir;obtain⟨ts,e1,_,e3⟩:=h3 (by kernel_rfl);rw[yd] at e1;obtain rfl:=Option.some.inj e1;refine⟨cs,_,_,h1,λv hv=>?_⟩;obtain⟨i,hi,rfl⟩:=Array.mem_iff_getElem.1 hv;obtain⟨u,hu,hc⟩:=e3 i cs[i] (by simp[hi]);have:u=3:=by
  simp only[List.length_singleton,Nat.mod_one] at hu;simpa using hu.symm
 subst this;unfold Cell.ok at hc;rw[show Tryz.prog.underlying 3=some (.int .i64) by kernel_rfl] at hc;generalize cs[i]=x at hc;cases x<;>simp at hc;rename_i k n;exact⟨n,by rw[hc.1]⟩
def hide (W:World):World:={W with heap:=W.heap.mapIdx λb o=>if b=0 then o else .cells #[] 1000000 (0,0)}
def hidden (W:World)(b:Nat):Prop:=b<W.heap.size/\b≠0
theorem gj (W:World):(hide W).heap.size=W.heap.size:=by simp[hide]
theorem sm (W:World)(b:Nat):(hide W).heap[b]? =(W.heap[b]?).map λo=>if b=0 then o else .cells #[] 1000000 (0,0):=by simp[hide]
theorem JD {W:World}(h:pk W):pk (hide W):=by
 obtain⟨c,t,f,h1,h2⟩:=h;exact⟨c,t,f,by rw[sm,h1];simp,h2⟩
theorem Mp {W:World}(h:pk W):Link (hidden W) ah.no (λb=>b<W.heap.size) ah.no id (hide W) W:=by
 obtain⟨c,t,f,h1,h2⟩:=h;have h0:=(Array.getElem?_eq_some_iff.1 h1).1;have at0:∀b o,(hide W).heap[b]? =some o->¬hidden W b->b=0/\o= .cells c t f:=λb o hb hn=>by
  have hlt:b<W.heap.size:=by rw[<-gj];exact(Array.getElem?_eq_some_iff.1 hb).1
  have hz:b=0:=Classical.byContradiction λq=>hn ⟨hlt,q⟩
  subst hz;rw[sm,h1] at hb;simp at hb;exact⟨rfl,hb.symm⟩
 have hid:∀b o,(hide W).heap[b]? =some o->hidden W b->o= .cells #[] 1000000 (0,0):=λb o hb hh=>by
  rw[sm,Array.getElem?_eq_getElem hh.1,Option.map_some,if_neg hh.2] at hb;exact(Option.some.inj hb).symm
 have low:∀b,hidden W b\/ah.no b->b<(hide W).heap.size:=λb hb=>by rw[gj];exact hb.elim (·.1) False.elim
 have vz:gp (hidden W) (hide W) 0:=⟨by rw[gj];exact h0,λq=>q.2 rfl⟩
 refine⟨λ_ _ e=>e,rfl,λb hb=>by rw[gj] at hb;exact hb,⟨λb o hb hh _=>?_,hid,λb o _ hz=>hz.elim,low,λb hz=>hz.elim,vz,λb o hb hh r hr=>?_⟩,⟨λ_ _ e=>e,rfl,rfl,λb hb _=>by
  have hb:b<(hide W).heap.size:=hb;rw[gj] at hb;exact hb,λb o hb hh _=>?_,hid,λb o _ hz=>hz.elim,low,λb o hb i hi=>?_⟩,λb hb _=>by rw[<-gj];exact hb.1,λb hz=>hz.elim⟩
 .obtain⟨rfl,rfl⟩:=at0 b o hb hh
  trivial
 .obtain⟨rfl,rfl⟩:=at0 b o hb hh
  cases hr with
  |cells hv hr=>exact absurd hr (h2 _ hv r)
 .obtain⟨rfl,rfl⟩:=at0 b o hb hh
  refine⟨trivial,?_⟩;show W.heap[0]? =_;rw[h1];rw[oF λr hr=>by cases hr with|cells hv hr=>exact absurd hr (h2 _ hv r)]
 .by_cases hh:hidden W b
  .have:=hid b o hb hh
   subst this;exact hi.elim
  .obtain⟨rfl,rfl⟩:=at0 b o hb hh
   exact hi.elim
theorem E4 {W:World}(h:pk W)(K:Nat->Option Obj)(h0:K 0=none):Link (hidden W) ah.no (λb=>b<W.heap.size/\K b=none) ah.no id (hide W) W:=by
 have hl:=Mp h;refine⟨hl.inj,hl.zero,hl.lt,hl.lw,hl.wr,λb hv hz=>⟨hl.own b hv hz,?_⟩,hl.ro⟩;have hb:b=0:=Classical.byContradiction λq=>hv.2 ⟨by have:=hv.1;rwa [gj] at this,q⟩
 subst hb;exact h0
theorem mZ {H:Type}{enc:TypeId×Value->H}{a:Assume}{os:Os}{f:FuncId}{fn:Func}{s:ChangeSpec}{F:Stop.Interp}{conds:List PathCond}{apart fresh handsOn:Bool}
  (own:ownKnob Tryz.prog.godebug=none) (started:os.Started) (hfn:Tryz.prog.funcs[f]? =some fn)
  (witness:∃(w:World) (tape:Tape) (i:Input),w.os=os/\(w.forCall tape i).Shaped Tryz.checked.prog/\i.vars=[]/\Input.okWide Tryz.checked.prog (w.forCall tape i) .any w.heap.size f i/\
   s.pre6 enc Tryz.checked.prog fn conds apart (w.forCall tape i).memory i.args/\a.holds Tryz.checked.prog (lone (Frame.enter Tryz.checked.prog f i.args .normal) [] (w.forCall tape i)))
  (runs:∀(W:World) (base:Nat) (args:Array Value) (ds gs:List (DataW H)) (before:List MemPlace),Ab W->
   (∀(j:Nat) t v,fn.params[j]? =some t->args[j]? =some v->Value.okWide Tryz.prog W .any base t v)->
   DataW.Whole enc Tryz.prog fn.params.toList s.vars apart W args.toList ds gs before->
   conds.all (PathCond.test Tryz.prog ⟨fn.params.toList,ds,s.plain.varTypes Tryz.prog,gs⟩)=true->
   (DataW.weightsEach Tryz.prog (fn.params.toList++s.plain.varTypes Tryz.prog) (ds++gs)).all (·<=reachBytes)=true->
   ah.OB (λv W'=>s.post enc Tryz.prog fn apart fresh handsOn false W args v {W' with os:=W.os}/\OsLater W.os W'.os) (solo (G (Frame.enter Tryz.prog f args .normal) []) W) #[]):
  ReturnsInLeavingWide a Tryz.checked os f .any (s.pre6 enc Tryz.checked.prog fn conds apart) ((OpenSpec.ofChange s).postWith enc Tryz.checked.prog fn F (outsideKept [.timePasses]) apart fresh handsOn):=by
 refine returnsInLeavingWide_of_good own started witness ?_;intro w tape i _ hsh _ hok hpre _;obtain⟨_,_,_,fn',hfn',_,_,_,_,hval⟩:=hok;have e:fn'=fn:=Option.some.inj (hfn'.symm.trans hfn);subst e;obtain⟨⟨ds,gs,before,hw,hc⟩,hz⟩:=hpre;have hw':=DataW.Whole.of_heap (w':=w.forCall tape i) (by rfl) hw
 obtain⟨N,last,o,w',t',r1,r2,r3,v,e,hp,r4⟩:=runs (w.forCall tape i) w.heap.size i.args ds gs before (xI hsh) hval hw' hc (hz.weights hw);exact⟨N,last,o,w',t',r1,r2,r3,v,e,postWith_blind (postWith_of_post hp.1 hp.2),r4⟩
theorem Mw:ownKnob Tryz.prog.godebug=none:=by kernel_rfl
theorem Jp:laidOutB Tryz.prog=true:=by kernel_rfl
def K0 (W:World)(b:Nat):Option Obj:=if b=0 then none else W.heap[b]?
theorem aci {W:World}(q:Nat)(o:Obj)(h:K0 W q=some o):W.heap[q]? =some o:=by
 unfold K0 at h;split at h
 .cases h
 .exact h
theorem Za {W:World}{ad:Option Addr}{l:List fj}(hG:Ab W)(h:qX W ad l):Hz (K0 W) ad l:=λj hj=>by
 obtain⟨h1,b,off,rfl,h2⟩:=h j hj;have h3:W.cell? ⟨b,off+j*4+3,none⟩=some (.string l[j].content):=h2 3 _ rfl;obtain⟨ob,Zz⟩:∃ob,W.heap[b]? =some ob:=by
  unfold World.cell? at h3;cases hb:W.heap[b]? with
  |none=>rw[hb] at h3;cases h3
  |some ob=>exact⟨ob,rfl⟩
 have hb0:b≠0:=by
  rintro rfl;obtain⟨c,t,f,g1,g2⟩:=hG;unfold World.cell? at h3;rw[g1] at h3;simp only[Option.isSome_none,Bool.false_eq_true,if_false] at h3;obtain⟨q,hq⟩:=g2 _ (Array.mem_of_getElem? h3);cases hq
 exact⟨h1,b,off,rfl,ob,by unfold K0;rw[if_neg hb0];exact Zz,λw hw=>CN h2 Zz hw⟩
section
variable {W bu w':World}{π:Nat->Nat}{own:Nat->Prop}
theorem Dd {t:Go.Proofs.YtchcmhodnkgojaaGreat.dX}{d:Nat}(hG:Ab W)(hB:dl [] (hide W) (ax bu t d))(hl:Link (hidden W) ah.no own ah.no π bu w')(hK:∀q o,K0 W q=some o->w'.heap[q]? =some o):∀k,k<W.heap.size->w'.heap[k]? =W.heap[k]? :=λk hk=>by
 by_cases h0:k=0
 .subst h0
  obtain⟨c,t',f,g1,g2⟩:=hG;have e1:bu.heap[0]? =(hide W).heap[0]? :=hB.block 0 (by rw[gj];exact hk) (by simp);rw[sm,g1] at e1;simp only[Option.map_some,if_true] at e1;have e2:=(hl.wr.ok 0 _ e1 (λq=>q.2 rfl) id).2;rw[hl.zero,oF λr hr=>by
   cases hr with
   |cells hv hr=>
    obtain⟨q,rfl⟩:=g2 _ hv;cases hr] at e2
  rw[e2,g1]
 .have e:W.heap[k]? =some W.heap[k]:=Array.getElem?_eq_getElem hk
  rw[hK k W.heap[k] (by unfold K0;rw[if_neg h0];exact e),e]
theorem E9 {H:Type}{enc:TypeId×Value->H}{P:Program}{t:TypeId}(hl:laidOutB P=true)(hr:P.readableRec t=true)(hrow:t<P.types.size){W W':World}{v:Value}{d:DataW H}{ps:List MemPlace}
  (h:DataW.Trod enc P W 0 (λ_=>true) true t v d ps) (hb:∀k,k<W.heap.size->W'.heap[k]? =W.heap[k]?) (hlt:∀x∈ps,x.block<W.heap.size):
  DataW.Trod enc P W' 0 (λb=>decide (b<W.heap.size)) true t v d ps:=
 WideElems.Trod_stays hl hr hrow h (λx hx=>by
  cases x with
  |cell b o=>exact World.cell?_of_block (w:=W) (hb b (hlt _ hx))
  |map b=>exact hb b (hlt _ hx)) (λx hx=>by simpa using hlt x hx)
theorem De {W w':World}(hos:w'.os=W.os)(ho:w'.output=W.output)(hb:∀k,k<W.heap.size->w'.heap[k]? =W.heap[k]?)(may:MemPlace->Prop):W.keptBut w' may:=by
 refine⟨hos,ho,λi hi=>?_⟩;rw[hb i hi];split<;>simp_all
end
theorem vk (os:Os)(started:os.Started)(H:Type)(enc:TypeId×Value->H)(F:Stop.Interp):
  ReturnsInLeavingWide Rows.mirroredRow.assume Tryz.checked os 7 .any (Rows.mirroredRow.pre enc Tryz.prog Tryz.f7 (OpenSpec.ofChange Rows.mirroredSpec))
   ((OpenSpec.ofChange Rows.mirroredSpec).postWith enc Tryz.prog Tryz.f7 F (outsideKept [.timePasses]) Rows.mirroredRow.apart Rows.mirroredRow.fresh Rows.mirroredRow.handsOn):=by
 refine mZ (s:=Rows.mirroredSpec) (conds:=[]) Mw started Tryz.func7
  (ChangeSpec.witness6c (enc:=enc) (C:=Tryz.checked) ⟨#[],#[.slice none 0 0],[]⟩ 8 (by kernel_rfl) (by kernel_rfl) (by kernel_rfl) (by kernel_rfl)) ?_
 intro W base args ds gs before hG hval0 hW hcnd hzw;have hval:∀(j:Nat) t v,Tryz.f7.params[j]? =some t->args[j]? =some v->Value.okWide Tryz.prog W .any base t v:=hval0;have hW':=hW;obtain⟨p,q,ZC,hV,rfl,hfz,hnd⟩:=hW;have hA:DataW.TrodAll enc Tryz.prog W 0 (λ_=>true) true Tryz.f7.params.toList args.toList ds p:=ZC;rw[Tryz.params7] at hA hval hzw;obtain⟨v0,d0,rfl,rfl,h0⟩:=trodAll_one hA
 have lt0:∀x∈p,x.block<W.heap.size:=by obtain⟨m,hm⟩:=h0;exact DataW.trod_lt m _ _ _ hm
 obtain⟨rfl,rfl⟩:=trodVars_none hV;have k0:=h0;obtain⟨ajF,g0⟩:=h0;obtain⟨a0,aky,cap0,rfl⟩:=okWide_slice Tryz.underlying22 (hval 0 22 v0 rfl rfl);obtain⟨l0,rfl,XD,hl0,hcap0⟩:=Bn (by simpa [Value.cells] using g0);clear ZC hval0;have hle:=C9 (len:=l0.length) (cap:=cap0) (by simpa [Value.cells] using g0) hzw
 refine ah.C4 (W:=W) (H:=hidden W) (K:=K0 W) (wL:=hide W) (R2:=TL (hide W)) Tryz.func7 rfl (by kernel_rfl) rfl (E4 hG.yZ (K0 W) rfl) aci (Ek 127) (qD (.slice a0 l0.length cap0) λ_=>undef) Ik rfl (by kernel_rfl) (gj W) (Bh a0 cap0 l0 (Za hG XD) hle (JD hG.yZ) rfl) ?_
 intro v bu π own w' ⟨t,d,hv,hB⟩ hl hvv hag hs1 hs2 hos hout hK;subst hv;have hb:=Dd hG hB hl hK;rw[show Value.ren π (.bool true)= .bool true by simp]
 exact⟨⟨_,_,_,[],_,[],hW',trodAll_mk1 (shut_bool Tryz.underlying4 _),(trodAll_cons_mk (E9 Jp (by kernel_rfl) (of_decide_eq_true (by kernel_rfl)) k0 hb lt0) trodAll_mk0),rfl,De (W:=W) (w':={w' with os:=W.os}) rfl hout hb _,λh=>by cases h⟩,hos⟩
theorem mirrored_said:Rows.MirroredSaid:=
 OpenClaim.holds_of_wide_leaving_time 7 Tryz.f7 rfl rfl rfl rfl rfl rfl rfl ⟨rfl,rfl,rfl,rfl,rfl⟩ rfl rfl rfl rfl rfl (by kernel_rfl) Tryz.func7 (by kernel_rfl)
  (of_decide_eq_true (by kernel_rfl)) (by unfold Func.isWrapper;first|(rw[if_pos (by decide+kernel)];kernel_rfl)|(rw[if_neg (by decide+kernel)];exact⟨rfl,rfl⟩))
  (λos started H enc _ F=>vk os started H enc F)
end
end
end Go.Proofs.YtchcmhodnkgojaaGreat
