/- On the way to the last text; put together and shortened by program. -/
import Derived.Test.YtchcmhodnkgojaaGreatPart2
import Derived.Conc.Beside
import Derived.Conc.CrowdCom2
import Derived.Conc.MuStops
import Derived.Conc.Own
import Derived.RunT
import Derived.StepT
import Derived.Laws.Sem
import Derived.Conc.Events
set_option linter.all false
set_option maxRecDepth 100000
set_option maxHeartbeats 8000000
namespace Go.Proofs.YtchcmhodnkgojaaGreat
open Sem (run_bind)
noncomputable section
section
namespace aI
def NN (G:GM)(r:Nat):Prop:=∃a∈li,∃c b,(c::r::b)∈a/\GM.dec c=G
def Sb (G:GG)(r:Nat):Prop:=∃a∈BC,∃c b,(c::r::b)∈a/\GG.dec c=G
def vp {α:Type}(l:List α)(f:α->Bool)(i k:Nat)(h1:((l.drop i).take k).all f=true)(h2:(l.drop (i+k)).all f=true):(l.drop i).all f=true:=by
 rw[<-List.take_append_drop k (l.drop i),List.all_append,List.drop_drop,h1,h2];rfl
def O1:∀a∈li,∀row∈a,qt li row=true:=by
 have e:li.drop 30=[]:=ϰ
 have d:(li.drop 30).all (λc=>c.all (qt li))=true:=by rw[e];rfl
 have h:=vp li _ 0 6 afr (vp li _ 6 6 afq (vp li _ 12 6 afp (vp li _ 18 6 afo (vp li _ 24 6 afn d))));rw[ϲ] at h;exactλa b row hr=>ad6.1 (ad6.1 h a b) row hr
def O2:∀a∈BC,∀row∈a,Il BC row=true:=λa b row hr=>ad6.1 (ad6.1 TJ a b) row hr
def FN {a:List (List (List Nat))}{j:Nat}{row:ϑ}(h:yp a j=some row):∃b∈a,row∈b:=by
 unfold yp at h;have⟨b,h1,h2⟩:=ϔ1.1 h;exact⟨b,ai9 h1,ai9 h2⟩
def vF {r:Nat}:∀{a:List GM}{fs:List Bool}{d:ϑ},yH li r a fs d=true->∀(i:Nat)(H:GM),a[i]? =some H->∃(b:Nat)(f:Bool),fs[i]? =some f/\NN H b/\(f=true\/b<r)/\b<27
 |[],_,_,_,i,H,h=>by simp at h
 |H::a,[],_,h,_,_,_=>by simp[yH] at h
 |H::a,f::fs,[],h,_,_,_=>by simp[yH] at h
 |H::a,f::fs,j::d,h,i,H',hi=>by
  simp only[yH,ε] at h;have⟨h1,h2⟩:=h;cases i with
  |succ i=>
   simp only[List.getElem?_cons_succ] at hi⊢;exact vF h2 i H' hi
  |zero=>
   simp only[List.getElem?_cons_zero,af5] at hi⊢;subst hi;split at h1
   .rename_i c b rest e
    simp only[ε,decide_eq_true_eq,Ϲ] at h1;have⟨⟨e1,e2⟩,l⟩:=h1;have⟨k,g,hr⟩:=FN e;exact⟨b,f,rfl,⟨k,g,c,rest,hr,e1⟩,e2,l⟩
   .cases h1
def BI {r:Nat}:∀{b:List GG}{e:ϑ},BJ BC r b e=true->∀H∈b,∃a,Sb H a/\a<r
 |[],_,_,H,h=>by simp at h
 |H::b,[],h,_,_=>by simp[BJ] at h
 |H::b,j::e,h,H',d=>by
  simp only[BJ,ε] at h;have⟨h1,h2⟩:=h;rcases ac1.1 d with rfl|d
  .split at h1
   .rename_i c a rest f
    simp only[ε,decide_eq_true_eq] at h1;have⟨g,i,hr⟩:=FN f;exact⟨a,⟨g,i,c,rest,hr,h1.1⟩,h1.2⟩
   .cases h1
  .exact BI h2 H' d
def NN.row {G:GM}{r:Nat}(h:NN G r):G.safe=true/\∃a,yH li r G.succs G.fresh a=true:=by
 obtain⟨b,d,c,a,hr,rfl⟩:=h;have:=O1 b d _ hr;simp only[qt,ε] at this;exact⟨this.1,a,this.2⟩
def Sb.row {G:GG}{r:Nat}(h:Sb G r):G.safe=true/\∃a,BJ BC r G.succs a=true:=by
 obtain⟨b,d,c,a,hr,rfl⟩:=h;have:=O2 b d _ hr;simp only[Il,ε] at this;exact⟨this.1,a,this.2⟩
def MD:NN {a:={pc:= .out},b:={pc:= .out},mu:=0,ms:=0} 0:=by
 refine⟨(li[0]?).getD [],?_,((li[0]?).getD []).headD []|>.headD 0,(((li[0]?).getD []).headD []).drop 2,?_,ϰ⟩
 .exact ai9 (i:=0) ϰ
 .exact ai9 (i:=0) ϰ
def ME:Sb {m:={pc:= .x1},a:={pc:= .un},b:={pc:= .un},wg:=0,ws:=0} 15:=by
 refine⟨(BC[0]?).getD [],?_,((BC[0]?).getD []).headD []|>.headD 0,(((BC[0]?).getD []).headD []).drop 2,?_,ϰ⟩
 .exact ai9 (i:=0) ϰ
 .exact ai9 (i:=0) ϰ
def NN.V8 {G:GM}{r:Nat}(h:NN G r){q:Lo×Int×Int}(l:q∈AL G.a G.mu G.ms):∃c,NN {a:=q.1,b:=G.b,mu:=q.2.1,ms:=q.2.2} c/\(G.a.pc= .out\/c<r)/\c<27:=by
 have⟨_,m,k⟩:=h.row;obtain⟨i,g,rfl⟩:=ϐ7.1 l;have⟨c,f,d,h1,h2,j⟩:=vF k i {a:=((AL G.a G.mu G.ms)[i]).1,b:=G.b,mu:=((AL G.a G.mu G.ms)[i]).2.1,ms:=((AL G.a G.mu G.ms)[i]).2.2} (by
  unfold GM.succs;rw[List.getElem?_append_left (by simpa using g)];simp[List.getElem?_map,g])
 refine⟨c,h1,h2.imp (λe=>?_) id,j⟩;unfold GM.fresh at d;rw[List.getElem?_append_left (by simpa using g)] at d;simp[g] at d;rw[e] at d;simpa using d
def NN.V7 {G:GM}{r:Nat}(h:NN G r){q:Lo×Int×Int}(l:q∈AL G.b G.mu G.ms):∃c,NN {a:=G.a,b:=q.1,mu:=q.2.1,ms:=q.2.2} c/\(G.b.pc= .out\/c<r)/\c<27:=by
 have⟨_,m,k⟩:=h.row;obtain⟨i,g,rfl⟩:=ϐ7.1 l;have⟨c,f,d,h1,h2,j⟩:=vF k ((AL G.a G.mu G.ms).length+i) {a:=G.a,b:=((AL G.b G.mu G.ms)[i]).1,mu:=((AL G.b G.mu G.ms)[i]).2.1,ms:=((AL G.b G.mu G.ms)[i]).2.2} (by
  unfold GM.succs;rw[List.getElem?_append_right ϛ];simp[List.getElem?_map,g])
 refine⟨c,h1,h2.imp (λe=>?_) id,j⟩;unfold GM.fresh at d;rw[List.getElem?_append_right ϛ] at d;simp[g] at d;rw[e] at d;simpa using d
def Sb.step {G H:GG}{r:Nat}(h:Sb G r)(c:H∈G.succs):∃a,Sb H a/\a<r:=by
 have⟨_,d,b⟩:=h.row;exact BI b H c
structure acE (G:GM):Prop where
 noA:∀q∈AL G.a G.mu G.ms,q.1.pc≠.bad
 noB:∀q∈AL G.b G.mu G.ms,q.1.pc≠.bad
 Xt:G.a.waits G.ms=true->G.b.waits G.ms=false/\G.b.pc≠.out
 Xs:G.b.waits G.ms=true->G.a.waits G.ms=false/\G.a.pc≠.out
 excl:¬(G.a.pc= .u0/\G.b.pc= .u0)
 Ob:∀q∈AL G.a G.mu G.ms,G.b.waits G.ms=true->G.b.waits q.2.2=true\/G.a.pc= .us
 Oa:∀q∈AL G.b G.mu G.ms,G.a.waits G.ms=true->G.a.waits q.2.2=true\/G.b.pc= .us
 fits:Sh.fits ⟨G.mu,G.ms,0,0⟩
def NN.facts {G:GM}{r:Nat}(h:NN G r):acE G:=by
 have j:=h.row.1;simp only[GM.safe,ε,ad6,bne_iff_ne,ne_eq,ϓ5,ϔ9,Ϲ,Bool.or_eq_false_iff,ai7,ac3,decide_eq_true_eq] at j;obtain⟨⟨⟨⟨⟨⟨⟨⟨c1,c2⟩,n⟩,d⟩,g⟩,i⟩,l⟩,m⟩,k⟩:=j;refine⟨λq f=>?_,λq f=>?_,λe=>?_,λe=>?_,λ⟨x,y⟩=>?_,λq f e=>?_,λq f e=>?_,k⟩
 .exact(c1 {a:=q.1,b:=G.b,mu:=q.2.1,ms:=q.2.2} (ϐ1.2 (.inl (ad1.2 ⟨q,f,rfl⟩)))).1
 .exact(c1 {a:=G.a,b:=q.1,mu:=q.2.1,ms:=q.2.2} (ϐ1.2 (.inr (ad1.2 ⟨q,f,rfl⟩)))).2
 .rcases d with d|d
  .rw[e] at d;cases d
  .exact d
 .refine⟨?_,?_⟩
  .rcases d with d|d
   .exact d
   .rw[e] at d;exact absurd d.1 ϛ
  .rcases g with g|g
   .rw[e] at g;cases g
   .exact g
 .rcases i with i|i
  .exact i x
  .exact i y
 .rcases l q f with(c|c)|c
  .rw[e] at c;cases c
  .exact .inl c
  .exact .inr c
 .rcases m q f with(c|c)|c
  .rw[e] at c;cases c
  .exact .inl c
  .exact .inr c
structure acF (G:GG):Prop where
 no:∀H∈G.succs,H.m.pc≠.bad/\H.a.pc≠.bad/\H.b.pc≠.bad
 fin:G.m.pc= .fin->G.a.pc= .quit/\G.b.pc= .quit
 sleep:G.m.pc= .w3->G.ws=0->live G.a=true\/live G.b=true
 Ob:G.m.pc= .w3->G.ws=0->∀q∈Wo G.a G.wg G.ws,q.2.2=0\/G.a.pc= .d4
 Oa:G.m.pc= .w3->G.ws=0->∀q∈Wo G.b G.wg G.ws,q.2.2=0\/G.b.pc= .d4
 un1:G.m.pc= .x1\/G.m.pc= .g1->G.a.pc= .un/\G.b.pc= .un
 un2:G.m.pc= .x2\/G.m.pc= .g2->G.a.pc≠.un/\G.b.pc= .un
 on:¬(G.m.pc= .x1\/G.m.pc= .g1\/G.m.pc= .x2\/G.m.pc= .g2)->G.a.pc≠.un/\G.b.pc≠.un
 fits:Sh.fits ⟨0,0,G.wg,G.ws⟩
def Sb.facts {G:GG}{r:Nat}(h:Sb G r):acF G:=by
 have f:=h.row.1;simp only[GG.safe,ε,ad6,bne_iff_ne,ne_eq,ϓ5,ϔ9,Ϲ,Bool.or_eq_false_iff,ai7,ac3,decide_eq_true_eq] at f;obtain⟨⟨⟨⟨⟨⟨⟨⟨⟨⟨⟨c1,_⟩,_⟩,_⟩,j⟩,k⟩,g⟩,l⟩,i⟩,a⟩,e⟩,c12⟩:=f
 refine⟨λH d=>⟨(c1 H d).1.1,(c1 H d).1.2,(c1 H d).2⟩,λx=>(j.resolve_left λy=>y x),λx y=>?_,λx y q b=>?_,λx y q b=>?_,λx=>?_,λx=>?_,λx=>⟨?_,?_⟩,c12⟩
 .rcases k with(c|c)|c
  .exact absurd (c.resolve_left λz=>z x) (by simpa using y)
  .exact .inl c
  .exact .inr c
 .rcases g with c|c
  .exact absurd (c.resolve_left λz=>z x) (by simpa using y)
  .exact c.1 q b
 .rcases g with c|c
  .exact absurd (c.resolve_left λz=>z x) (by simpa using y)
  .exact c.2 q b
 .rcases l with c|c
  .exact x.elim (λz=>absurd z c.1) (λz=>absurd z c.2)
  .exact c
 .rcases i with c|c
  .exact x.elim (λz=>absurd z c.1) (λz=>absurd z c.2)
  .exact c
 .rcases a with c|c
  .exact absurd (c.elim .inl λz=> .inr (.inl z)) x
  .exact c
 .rcases e with c|c
  .exfalso;apply x
   rcases c with((c|c)|c)|c
   .exact .inl c
   .exact .inr (.inl c)
   .exact .inr (.inr (.inl c))
   .exact .inr (.inr (.inr c))
  .exact c
end aI
end
section
open Go.Conc
namespace aI
inductive bB where
 |m|a|b
 deriving DecidableEq,Repr
def gid (n0:Nat):bB->Nat
 |.m=>0
 |.a=>n0
 |.b=>n0+1
def lL {n0:Nat}(h:0<n0){r a:bB}(e:gid n0 r=gid n0 a):r=a:=by
 cases r<;>cases a<;>simp[gid] at e<;>first|rfl|omega
def Ky {n0:Nat}(h:0<n0){r:bB}(hr:r≠.m):gid n0 r≠0:=by cases r<;>simp[gid] at hr⊢;omega
def mP (c:Nat)(l:Loc):Prop:=(∃a:Addr,l= .cell a/\a.block=c)\/l= .obj c
def mP.mem {c:Nat}{l:Loc}(h:mP c l):l.isMemory=true:=by rcases h with⟨a,rfl,_⟩|rfl<;>rfl
def mP.uniq {c b:Nat}{l:Loc}(h:mP c l)(d:mP b l):c=b:=by
 rcases h with⟨a,rfl,e⟩|rfl<;>rcases d with⟨a',e1,e2⟩|e1<;>cases e1
 .rw[<-e,<-e2]
 .rfl
def mP.low {c B:Nat}{l:Loc}(h:mP c l)(b:l.low B):c<B:=by
 rcases h with⟨a,rfl,e⟩|rfl
 .rw[<-e];exact b
 .exact b
def Lg {a:MemAct}{x:Touch}{B:Nat}(h:a.touch? =some x)(b:a.low B):x.loc.low B:=by
 cases a with
 |access e=>simp[MemAct.touch?] at h;subst h;exact b
 |mark m=>cases m<;>simp[MemAct.touch?] at h<;>(subst h;exact b)
 |_=>simp[MemAct.touch?] at h
structure TI (n0:Nat)(Sh:Loc->Prop)(RO:bB->Loc->Prop)(lv:bB->Prop)(own:bB->Nat->Prop)(M:Nat)(hold:Option bB)(mA wA:Addr)(B:Nat)(t:Trace):Prop where
 clean:∀said,¬Race said t
 quiet:∀i x,touchAt t i=some x->Sh x.loc->x.kind= .atomic\/(x.kind= .said/\t.g? i=some 0)\/∀r,lv r->Knows t (gid n0 r) i
 own:∀r c,own r c->∀i x,touchAt t i=some x->mP c x.loc->Knows t (gid n0 r) i
 ro:∀r i x,touchAt t i=some x->RO r x.loc->x.write=true->Knows t (gid n0 r) i
 guard:hold=none->∀i x,touchAt t i=some x->mP M x.loc->(∀r,lv r->Knows t (gid n0 r) i)\/∃p,t.act? p=some (.mark (.releaseMerge mA))/\t.heard p/\Before t i p
 base:∀i x,touchAt t i=some x->x.loc.isMemory=true->(∃r,r≠.m/\lv r/\t.g? i=some (gid n0 r))\/Knows t 0 i\/(Sh x.loc/\x.kind= .atomic)
 work:∀i x,touchAt t i=some x->x.loc.isMemory=true->∀r,r≠.m->lv r->t.g? i=some (gid n0 r)->t.counts i\/(Sh x.loc/\x.kind= .atomic)
 over:∀i g,t.g? i=some g->g≠0->t.counts i->(∃r,r≠.m/\lv r/\g=gid n0 r)\/∃j,t.g? j=some 0/\HappensBefore t i j
 ids:∀i g,t.g? i=some g->n0<=g->∃r,r≠.m/\lv r/\g=gid n0 r
 TQ:NoRelease mA t
 nrW:NoRelease wA t
 low:∀op∈t,op.act.low B
structure Ap (Sh:Loc->Prop)(RO:bB->Loc->Prop)(lv:bB->Prop)(own:bB->Nat->Prop)(M:Nat)(hold:Option bB)(B:Nat):Prop where
 ownSh:∀r c l,own r c->mP c l->¬Sh l
 Wi:∀r c l r',own r c->mP c l->¬RO r' l
 apart:∀r r' c,own r c->own r' c->r=r'
 aez:∀r l,RO r l->¬Sh l
 mem:∀l,mP M l->¬Sh l/\∀r,¬RO r l
 held:∀r,own r M->hold=some r
 lv:∀r c,own r c->lv r
 newer:∀c l,mP c l->B<=c->¬Sh l/\∀r,¬RO r l
 DC:M<B
 akY:∀r c,own r c->c<B
 aeb:∀l,Sh l->l.isMemory=true
 aeA:∀r l,RO r l->l.isMemory=true
def OkOp (n0:Nat)(Sh:ϩ)(RO:bB->Loc->Prop)(own:bB->Nat->Prop)(mA wA:Addr)(B B':Nat)(r:bB)(a:MemOp):Prop:=
 a.g=gid n0 r/\a.act≠.mark (.release mA)/\a.act≠.mark (.release wA)/\a.act.low B'/\
 ∀x,a.act.touch? =some x->(Sh x.loc/\(x.kind= .atomic\/(x.kind= .said/\r= .m)))\/(∃c,mP c x.loc/\(own r c\/(B<=c/\c<B')))\/(RO r x.loc/\x.write=false)\/x.loc.isMemory=false
def grow (own:bB->Nat->Prop)(B B':Nat)(r:bB):bB->Nat->Prop:=λa c=>own a c\/(a=r/\B<=c/\c<B')
section
variable {n0:Nat}{Sh:Loc->Prop}{RO:bB->Loc->Prop}{lv:bB->Prop}{own:bB->Nat->Prop}{M:Nat}{hold:Option bB}{mA wA:Addr}{B B':Nat}{t u:Trace}
def ig {i g:Nat}(h:(t++u).g? i=some g):(i<t.size/\t.g? i=some g)\/(t.size<=i/\∃a∈u,a.g=g):=by
 have⟨a,b,hg⟩:=χ.1 h;rcases getElem?_append_cases b with⟨h1,h2⟩|⟨h1,h2⟩
 .exact .inl ⟨h1,by simp[Trace.g?,h2,hg]⟩
 .exact .inr ⟨h1,a,h2,hg⟩
def cE {i:Nat}{x:Touch}(h:touchAt (t++u) i=some x):(i<t.size/\touchAt t i=some x)\/(t.size<=i/\∃a∈u,(t++u)[i]? =some a/\a.act.touch? =some x):=by
 have⟨a,c,b⟩:=touch_of h;rcases getElem?_append_cases c with⟨h1,h2⟩|⟨h1,h2⟩
 .exact .inl ⟨h1,by rw[touchAt_of h2];exact b⟩
 .exact .inr ⟨h1,a,h2,c,b⟩
def TI.app (hn:0<n0)(A:Ap Sh RO lv own M hold B)(h:TI n0 Sh RO lv own M hold mA wA B t){r:bB}(hr:lv r)(V:B<=B')(q:∀b∈u,OkOp n0 Sh RO own mA wA B B' r b)(X:r≠.m->∀i x,t.size<=i->touchAt (t++u) i=some x->x.loc.isMemory=true->(t++u).counts i\/(Sh x.loc/\x.kind= .atomic)):
  TI n0 Sh RO lv (grow own B B' r) M hold mA wA B' (t++u):=by
 have E:∀{i:Nat}{b:MemOp},t.size<=i->(t++u)[i]? =some b->b∈u->Knows (t++u) (gid n0 r) i:=fun {i b} _ d hm=>by
  have:=knows_own d
  rwa [(q b hm).1] at this
 have T:∀{i:Nat}{x:Touch},touchAt t i=some x->x.loc.low B:=fun {i x} m=>by
  have⟨b,d,l⟩:=touch_of m;exact Lg l (h.low b (mem_of_getElem? d))
 refine⟨λI=>noRace_append (h.clean I) (λb d=>(q b d).1) (λi x m b d y Z C=>?_),λi x m v=>?_,λs c w i x m n=>?_,λs i x m f J=>?_,λP i x m n=>?_,λi x m hm=>?_,λi x m hm s K N hg=>?_,λi g hg h0 Q=>?_,λi g hg G=>?_,?_,?_,λb d=>?_⟩
 ·
  have o:x.loc=y.loc:=C.1;rcases(q b d).2.2.2.2 y Z with⟨v,H⟩|⟨c,n,a⟩|⟨f,J⟩|hnm
  .rcases h.quiet i x m (o▸v) with e|⟨e,hg⟩|e
   .exfalso
    rcases C.2.2.2 with z|z|⟨_,z,_⟩
    .rw[e] at z;cases z
    .rcases H with k|⟨k,_⟩<;>rw[k] at z<;>cases z
    .rw[e] at z;cases z
   .rcases C.2.2.2 with z|z|⟨_,_,z⟩
    .rw[e] at z;cases z
    .rcases H with k|⟨k,_⟩<;>rw[k] at z<;>cases z
    .rcases H with k|⟨_,k⟩
     .rw[k] at z;cases z
     .subst k
      have⟨z',S,L⟩:=χ.1 hg;have:=knows_own S
      rwa [L] at this
   .exact e r hr
  .rcases a with a|⟨h1,h2⟩
   .exact h.own r c a i x m (o▸n)
   .exact absurd (mP.low (o▸n) (T m)) ϖ
  .exact h.ro r i x m (o▸f) (C.2.2.1.resolve_right (by simp[J]))
  .have:=C.2.1;rw[o,hnm] at this;cases this
 ·
  rcases cE m with⟨h1,h2⟩|⟨h1,b,hop,d,l⟩
  .rcases h.quiet i x h2 v with e|⟨e,hg⟩|e
   .exact .inl e
   .exact .inr (.inl ⟨e,by rw[g?_old h1];exact hg⟩)
   .exact .inr (.inr λs F=>(e s F).app u)
  .rcases(q b hop).2.2.2.2 x l with⟨_,H⟩|⟨c,n,a⟩|⟨f,_⟩|hnm
   .rcases H with k|⟨k,rfl⟩
    .exact .inl k
    .exact .inr (.inl ⟨k,by simp[Trace.g?,d,(q b hop).1,gid]⟩)
   .rcases a with a|⟨D,_⟩
    .exact absurd v (A.ownSh r c _ a n)
    .exact absurd v (A.newer c _ n D).1
   .exact absurd v (A.aez _ _ f)
   .rw[A.aeb _ v] at hnm;cases hnm
 ·
  rcases cE m with⟨h1,h2⟩|⟨h1,b,hop,d,l⟩
  .rcases w with w|⟨rfl,D,h4⟩
   .exact(h.own s c w i x h2 n).app u
   .exact absurd (mP.low n (T h2)) ϖ
  .have O:s=r:=by
    rcases(q b hop).2.2.2.2 x l with⟨v,_⟩|⟨c',hb',a⟩|⟨f,_⟩|hnm
    .rcases w with w|⟨e,D,_⟩
     .exact absurd v (A.ownSh s c _ w n)
     .exact(A.newer c _ n D).1 v|>.elim
    .obtain rfl:=mP.uniq n hb'
     rcases w with w|⟨e,_⟩
     .rcases a with a|⟨D,_⟩
      .exact A.apart _ _ _ w a
      .have:=A.akY s c w;omega
     .exact e
    .rcases w with w|⟨e,_⟩
     .exact absurd f (A.Wi s c _ _ w n)
     .exact e
    .rw[mP.mem n] at hnm;cases hnm
   subst O;exact E h1 d hop
 ·
  rcases cE m with⟨h1,h2⟩|⟨h1,b,hop,d,l⟩
  .exact(h.ro s i x h2 f J).app u
  .exfalso
   rcases(q b hop).2.2.2.2 x l with⟨v,_⟩|⟨c',hb',a⟩|⟨_,hw'⟩|hnm
   .exact A.aez _ _ f v
   .rcases a with a|⟨D,_⟩
    .exact A.Wi r c' _ _ a hb' f
    .exact(A.newer c' _ hb' D).2 _ f
   .rw[hw'] at J;cases J
   .rw[A.aeA _ _ f] at hnm;cases hnm
 ·
  rcases cE m with⟨h1,h2⟩|⟨h1,b,hop,d,l⟩
  .rcases h.guard P i x h2 n with H|⟨p,p1,Y,p3⟩
   .exact .inl λs F=>(H s F).app u
   .have U:=lt_of_act? p1
    exact .inr ⟨p,by rw[act?_old U];exact p1,(heard_old U).2 Y,p3.app u⟩
  .exfalso
   rcases(q b hop).2.2.2.2 x l with⟨v,_⟩|⟨c',hb',a⟩|⟨f,_⟩|hnm
   .exact(A.mem _ n).1 v
   .obtain rfl:=mP.uniq n hb'
    rcases a with a|⟨D,_⟩
    .rw[A.held r a] at P;cases P
    .have:=A.DC;omega
   .exact(A.mem _ n).2 _ f
   .rw[mP.mem n] at hnm;cases hnm
 ·
  rcases cE m with⟨h1,h2⟩|⟨h1,b,hop,d,l⟩
  .rcases h.base i x h2 hm with⟨s,z1,z2,z3⟩|z|z
   .exact .inl ⟨s,z1,z2,by rw[g?_old h1];exact z3⟩
   .exact .inr (.inl (z.app u))
   .exact .inr (.inr z)
  .by_cases e:r= .m
   .subst e
    exact .inr (.inl (E h1 d hop))
   .exact .inl ⟨r,e,hr,by simp[Trace.g?,d,(q b hop).1]⟩
 .rcases cE m with⟨h1,h2⟩|⟨h1,b,hop,d,l⟩
  .rw[g?_old h1] at hg
   rw[counts_old h1];exact h.work i x h2 hm s K N hg
  .have:gid n0 r=gid n0 s:=by simpa [Trace.g?,d,(q b hop).1] using hg
   have e:=lL hn this;subst e;exact X K i x h1 m hm
 .rcases ig hg with⟨h1,h2⟩|⟨h1,b,hop,hog⟩
  .rcases h.over i g h2 h0 ((counts_old h1).1 Q) with z|⟨j,R,j2⟩
   .exact .inl z
   .have W:j<t.size:=by
     unfold Trace.g? at R;have⟨z,S,_⟩:=χ.1 R;exact lt_size_of_getElem? S
    exact .inr ⟨j,by rw[g?_old W];exact R,hb_app u j2⟩
  .by_cases e:r= .m
   .subst e
    rw[<-hog,(q b hop).1] at h0;exact absurd rfl h0
   .exact .inl ⟨r,e,hr,by rw[<-hog,(q b hop).1]⟩
 .rcases ig hg with⟨h1,h2⟩|⟨h1,b,hop,hog⟩
  .exact h.ids i g h2 G
  .by_cases e:r= .m
   .subst e
    rw[<-hog,(q b hop).1] at G;simp[gid] at G;omega
   .exact⟨r,e,hr,by rw[<-hog,(q b hop).1]⟩
 .exact h.TQ.app λb d=>(q b d).2.1
 .exact h.nrW.app λb d=>(q b d).2.2.1
 .rcases ai4.1 d with d|d
  .exact MemAct.low_mono V (h.low b d)
  .exact(q b d).2.2.2.1
def TI.mute (h:TI n0 Sh RO lv own M hold mA wA B t){g:Nat}(hg:g≠0)(F:g<n0\/∃r,r≠.m/\lv r/\g=gid n0 r)(o:∀a∈u,a.g=g/\a.act.touch? =none/\a.act.low B/\a.act≠.mark (.release mA)/\a.act≠.mark (.release wA)):TI n0 Sh RO lv own M hold mA wA B (t++u):=by
 have d:∀{i:Nat}{x:Touch},touchAt (t++u) i=some x->i<t.size/\touchAt t i=some x:=fun {i x} b=>by
  rcases cE b with h1|⟨_,a,m,_,q⟩
  .exact h1
  .rw[(o a m).2.1] at q;cases q
 refine⟨λw=>noRace_append (h.clean w) (g:=g) (λa f=>(o a f).1) (λi x _ a f y H _=>by rw[(o a f).2.1] at H;cases H),λi x b J=>?_,λl c f i x b D=>(h.own l c f i x (d b).2 D).app u,λl i x b C O=>(h.ro l i x (d b).2 C O).app u,λL i x b D=>?_,λi x b hm=>?_,λi x b hm l G A k=>?_,λi g' k h0 v=>?_,λi g' k s=>?_,h.TQ.app λa f=>(o a f).2.2.2.1,h.nrW.app λa f=>(o a f).2.2.2.2,λa f=>(ai4.1 f).elim (h.low a) λf=>(o a f).2.2.1⟩
 .have⟨h1,h2⟩:=d b
  rcases h.quiet i x h2 J with e|⟨e,hg⟩|e
  .exact .inl e
  .exact .inr (.inl ⟨e,by rw[g?_old h1];exact hg⟩)
  .exact .inr (.inr λl n=>(e l n).app u)
 .rcases h.guard L i x (d b).2 D with P|⟨p,p1,N,Q⟩
  .exact .inl λl n=>(P l n).app u
  .have I:=lt_of_act? p1
   exact .inr ⟨p,by rw[act?_old I];exact p1,(heard_old I).2 N,Q.app u⟩
 .have⟨h1,h2⟩:=d b
  rcases h.base i x h2 hm with⟨l,z1,z2,z3⟩|z|z
  .exact .inl ⟨l,z1,z2,by rw[g?_old h1];exact z3⟩
  .exact .inr (.inl (z.app u))
  .exact .inr (.inr z)
 .have⟨h1,h2⟩:=d b
  rw[g?_old h1] at k;rw[counts_old h1];exact h.work i x h2 hm l G A k
 .rcases ig k with⟨h1,h2⟩|⟨h1,a,m,hog⟩
  .rcases h.over i g' h2 h0 ((counts_old h1).1 v) with z|⟨j,E,S⟩
   .exact .inl z
   .have K:j<t.size:=by
     unfold Trace.g? at E;have⟨z,R,_⟩:=χ.1 E;exact lt_size_of_getElem? R
    exact .inr ⟨j,by rw[g?_old K];exact E,hb_app u S⟩
  .exfalso
   have⟨x,b,_⟩:=v;exact absurd (d b).1 ϖ
 .rcases ig k with⟨h1,h2⟩|⟨h1,a,m,hog⟩
  .exact h.ids i g' h2 s
  .rw[<-hog,(o a m).1] at s⊢
   rcases F with h0|h0
   .omega
   .exact h0
def TI.acquire {r:bB}(h:TI n0 Sh RO lv own M none mA wA B t)(hr:lv r){z:MemOp}(hg:z.g=gid n0 r)(o:z.act= .mark (.acquire mA))(hd:Deaf t (gid n0 r)=0)(a:TI n0 Sh RO lv own M none mA wA B (t++#[z])):TI n0 Sh RO lv (λd c=>own d c\/(d=r/\c=M)) M (some r) mA wA B (t++#[z]):=by
 have u:z.act.touch? =none:=by rw[o];rfl
 have n:(t++#[z])[t.size]? =some z:=ϛ
 refine⟨a.clean,a.quiet,λd c g i x l m=>?_,a.ro,(λe=>by cases e),a.base,a.work,a.over,a.ids,a.TQ,a.nrW,a.low⟩;rcases g with g|⟨rfl,rfl⟩
 .exact a.own d c g i x l m
 .have f:touchAt t i=some x:=by
   rcases cE l with⟨_,h2⟩|⟨_,op,hop,_,hox⟩
   .exact h2
   .simp at hop;subst hop;rw[u] at hox;cases hox
  rcases h.guard rfl i x f m with q|⟨p,h1,h2,s⟩
  .exact(q _ hr).app _
  .have j:=lt_of_act? h1
   have b:HappensBefore (t++#[z]) p t.size:= .single (.inr ⟨.marked j (.inr (by rw[act?_old j];exact h1)) (by rw[act?_of n,o]) (λk _ _=>a.TQ k),(heard_old j).2 h2,
    ⟨gid n0 d,by simp[Trace.g?,hg],by rw[deaf_old (ι _)];exact hd⟩⟩)
   exact⟨t.size,z,n,hg,.inr ((s.app #[z]).hb b)⟩
def TI.release {r:bB}(b:own r M)(h:TI n0 Sh RO lv own M (some r) mA wA B t){y:MemOp}(hg:y.g=gid n0 r)(j:y.act= .mark (.releaseMerge mA))(hd:Deaf t (gid n0 r)=0)(a:TI n0 Sh RO lv own M (some r) mA wA B (t++#[y])):TI n0 Sh RO lv (λf c=>own f c/\c≠M) M none mA wA B (t++#[y]):=by
 have l:y.act.touch? =none:=by rw[j];rfl
 have k:(t++#[y])[t.size]? =some y:=ϛ
 refine⟨a.clean,a.quiet,λf c m i x d e=>a.own f c m.1 i x d e,a.ro,λ_ i x d e=> .inr ⟨t.size,by rw[act?_of k,j],⟨gid n0 r,by simp[Trace.g?,hg],by rw[deaf_old (ι _)];exact hd⟩,.inr ?_⟩,a.base,a.work,a.over,a.ids,a.TQ,a.nrW,a.low⟩;have g:touchAt t i=some x:=by
  rcases cE d with⟨_,h2⟩|⟨_,op,hop,_,hox⟩
  .exact h2
  .simp at hop;subst hop;rw[l] at hox;cases hox
 exact(h.own r M b i x g e).hb_new (ι _) k hg
def TI.fork {r:bB}(hm:lv .m)(hr:r≠.m)(h:TI n0 Sh RO lv own M hold mA wA B t){x y:MemOp}(D:x.g=0/\x.act= .go (gid n0 r))(E:y.g=gid n0 r/\y.act= .start)(h0:Deaf t 0=0)(hk:Deaf t (gid n0 r)=0)(Y:0<n0)(Q:∀i g,t.g? i=some g->g≠gid n0 r):
  TI n0 Sh (λd l=>if d= .m\/d=r then RO .m l\/∃c,own .m c/\mP c l else RO d l) (λd=>lv d\/d=r) (λd c=>own d c/\d≠.m/\d≠r) M hold mA wA B (t++#[x,y]):=by
 have w:∀f∈#[x,y],f=x\/f=y:=by intro f a;simpa using a
 have G:∀f∈#[x,y],∀b,f.act.touch? =some b->False:=by
  intro f a b n;rcases w f a with rfl|rfl
  .rw[D.2] at n;cases n
  .rw[E.2] at n;cases n
 have k:∀{i:Nat}{b:Touch},touchAt (t++#[x,y]) i=some b->i<t.size/\touchAt t i=some b:=by
  intro i b n;rcases cE n with h1|⟨_,f,a,_,P⟩
  .exact h1
  .exact(G f a b P).elim
 have u:∀{i:Nat},Knows t 0 i->Knows (t++#[x,y]) (gid n0 r) i:=λq=>ConcN.fork_knows D E h0 hk q
 have U:∀{i:Nat},(∀d,lv d->Knows t (gid n0 d) i)->∀d,lv d\/d=r->Knows (t++#[x,y]) (gid n0 d) i:=λq d A=>by
  rcases A with A|rfl
  .exact(q d A).app _
  .exact u (q .m hm)
 refine⟨λN=>?_,λi z s X=>?_,λd c v i z s n=>(h.own d c v.1 i z (k s).2 n).app _,λd i z s o V=>?_,λhe i z s n=>?_,λi z s F=>?_,λi z s F d T C m=>?_,λi g' m S L=>?_,λi g' m R=>?_,h.TQ.app λf v=>?_,h.nrW.app λf v=>?_,λf v=>?_⟩
 .have e:t++#[x,y]=(t++#[x])++#[y]:=by apply Array.ext';simp
  rw[e];refine noRace_append (g:=gid n0 r) (noRace_append (g:=0) (h.clean N) (λf a=>by simp at a;rw[a];exact D.1) (λi b _ f a c K _=>(G f (by simp at a⊢;exact .inl a) c K).elim))
   (λf a=>by simp at a;rw[a];exact E.1) (λi b _ f a c K _=>(G f (by simp at a⊢;exact .inr a) c K).elim)
 .have⟨h1,h2⟩:=k s
  rcases h.quiet i z h2 X with e|⟨e,hg⟩|e
  .exact .inl e
  .exact .inr (.inl ⟨e,by rw[g?_old h1];exact hg⟩)
  .exact .inr (.inr (U e))
 .have⟨h1,h2⟩:=k s
  by_cases e:d= .m\/d=r
  .rw[φ e] at o
   have J:Knows t 0 i:=by
    rcases o with o|⟨c,K,n⟩
    .exact h.ro .m i z h2 o V
    .exact h.own .m c K i z h2 n
   rcases e with rfl|rfl
   .exact J.app _
   .exact u J
  .rw[ζ e] at o
   exact(h.ro d i z h2 o V).app _
 .have⟨h1,h2⟩:=k s
  rcases h.guard he i z h2 n with q|⟨p,p1,p2,p3⟩
  .exact .inl (U q)
  .have W:=lt_of_act? p1
   exact .inr ⟨p,by rw[act?_old W];exact p1,(heard_old W).2 p2,p3.app _⟩
 .have⟨h1,h2⟩:=k s
  rcases h.base i z h2 F with⟨d,I,O,H⟩|z'|z'
  .exact .inl ⟨d,I,.inl O,by rw[g?_old h1];exact H⟩
  .exact .inr (.inl (z'.app _))
  .exact .inr (.inr z')
 .have⟨h1,h2⟩:=k s
  rw[g?_old h1] at m;rw[counts_old h1];rcases C with C|rfl
  .exact h.work i z h2 F d T C m
  .exact absurd rfl (Q i _ m)
 .rcases ig m with⟨h1,h2⟩|⟨h1,f,a,hog⟩
  .rcases h.over i g' h2 S ((counts_old h1).1 L) with⟨d,I,O,H⟩|⟨j,j1,j2⟩
   .exact .inl ⟨d,I,.inl O,H⟩
   .have Z:j<t.size:=by
     unfold Trace.g? at j1;have⟨z,s,_⟩:=χ.1 j1;exact lt_size_of_getElem? s
    exact .inr ⟨j,by rw[g?_old Z];exact j1,hb_app _ j2⟩
  .exfalso
   have⟨b,n,_⟩:=L;exact absurd (k n).1 ϖ
 .rcases ig m with⟨h1,h2⟩|⟨h1,f,a,hog⟩
  .have⟨d,I,O,H⟩:=h.ids i g' h2 R
   exact⟨d,I,.inl O,H⟩
  .rcases w f a with rfl|rfl
   .rw[D.1] at hog;omega
   .exact⟨r,hr,.inr rfl,hog.symm.trans E.1⟩
 .rcases w f v with rfl|rfl
  .rw[D.2];simp
  .rw[E.2];simp
 .rcases w f v with rfl|rfl
  .rw[D.2];simp
  .rw[E.2];simp
 .rcases ai4.1 v with v|v
  .exact h.low f v
  .rcases w f v with rfl|rfl
   .rw[D.2];trivial
   .rw[E.2];trivial
def TI.join (Q:0<n0)(h:TI n0 Sh RO lv own M hold mA wA B t){z:MemOp}(hg:z.g=0)(n:z.act= .mark (.acquire wA))(hd:Deaf t 0=0)(O:z.act.low B)(C:∀r,r≠.m->lv r->∃p,ConcN.RelBy wA t (gid n0 r) p):Past Sh B (t++#[z]):=by
 have w:z.act.touch? =none:=by rw[n];rfl
 have I:(t++#[z])[t.size]? =some z:=ϛ
 have G:∀{i:Nat}{b:Touch},touchAt (t++#[z]) i=some b->i<t.size/\touchAt t i=some b:=by
  intro i b F;rcases cE F with h1|⟨_,m,d,_,o⟩
  .exact h1
  .simp at d;subst d;rw[w] at o;cases o
 have E:NoRelease wA (t++#[z]):=h.nrW.app λm a=>by simp at a;subst a;rw[n];simp
 have l:∀r p,ConcN.RelBy wA t (gid n0 r) p->HappensBefore (t++#[z]) p t.size:=λr p f=>by
  have c:=lt_of_act? f.act;exact .single (.inr ⟨.marked c (.inr (by rw[act?_old c];exact f.act)) (by rw[act?_of I,n]) (λk _ _=>E k),(heard_old c).2 f.heard,⟨0,by simp[Trace.g?,hg],by rw[deaf_old (ι _)];exact hd⟩⟩)
 have v:∀r i,r≠.m->lv r->t.g? i=some (gid n0 r)->t.counts i->HappensBefore (t++#[z]) i t.size:=λr i h1 h2 e s=>by
  have⟨p,f⟩:=C r h1 h2;have N:i<=p:=Nat.le_of_not_lt λc=>f.after i c e s
  have c:=lt_of_act? f.act;rcases ϐ5 i p with q|q
  .refine .trans (hb_app #[z] (.single (.inl ⟨q,_,e,f.g⟩))) (l r p f)
  .obtain rfl:i=p:=ϖ
   exact l r _ f
 have P:∀{i:Nat},HappensBefore (t++#[z]) i t.size->Knows (t++#[z]) 0 i:=λF=>⟨t.size,z,I,hg,.inr F⟩
 refine⟨λu=>noRace_append (h.clean u) (g:=0) (λm a=>by simp at a;rw[a];exact hg) (λi x _ m a y H _=>by simp at a;subst a;rw[w] at H;cases H),λi x L hm=>?_,λi g e D s=>?_,?_,λm a=>?_⟩
 .have⟨h1,h2⟩:=G L
  rcases h.base i x h2 hm with⟨r,z1,z2,z3⟩|z'|z'
  .rcases h.work i x h2 hm r z1 z2 z3 with s|J
   .exact .inl (P (v r i z1 z2 z3 s))
   .exact .inr J
  .exact .inl (z'.app _)
  .exact .inr z'
 .rcases ig e with⟨h1,h2⟩|⟨h1,m,d,hog⟩
  .have A:=(counts_old h1).1 s
   rcases h.over i g h2 D A with⟨r,z1,z2,rfl⟩|⟨j,j1,j2⟩
   .exact⟨t.size,by simp[Trace.g?,hg],v r i z1 z2 h2 A⟩
   .have K:j<t.size:=by
     unfold Trace.g? at j1;have⟨z,n,_⟩:=χ.1 j1;exact lt_size_of_getElem? n
    exact⟨j,by rw[g?_old K];exact j1,hb_app _ j2⟩
  .simp at d;subst d;exact absurd (hog.symm.trans hg) D
 .rw[ConcN.Deaf_still _ _ _ λm a=>by simp at a;subst a;rw[n];simp];exact hd
 .rcases ai4.1 a with a|a
  .exact h.low m a
  .simp at a;subst a;exact O
end
end aI
abbrev eL:=Nat->Question->Nat
def ax (w:Ω)(t:eL)(d:Nat):Ω:={w with tape:=t,drawn:=d}
def A6 (w:Ω)(t t':eL)(d a:Nat):ax (ax w t d) t' a=ax w t' a:=rfl
def qu (w:Ω):ax w w.tape w.drawn=w:=rfl
structure sf (g:Θ):Prop where
 run:g.status= .running
 dying:g.dying=none
 offers:g.offers=none
 calm:∀ch,g.frame.mode≠.panicking ch
inductive Rk where
 |zero
 |mk (f:Ω->Rk)
def Rk.Lt (a b:Rk):Prop:=∃f w,b= .mk f/\a=f w
def Rk.acc:∀a:Rk,Acc Rk.Lt a
 |.zero=>⟨_,λb ⟨f,w,h,_⟩=>by cases h⟩
 |.mk f=>⟨_,λb ⟨f',w,h,e⟩=>by cases h;subst e;exact Rk.acc (f w)⟩
def Rk.wf:WellFounded Rk.Lt:=⟨Rk.acc⟩
structure Co (S:Type) where
 R:S->Ω->Ω->Prop
 D:S->Ω->Ω->Array Event->Prop
 up:S->Ω->Ω->S
 refl:∀s w,R s w w
 trans:∀s a b c,R s a b->R s b c->R s a c
section
variable {S:Type}(P:ω)(main:Bool)(C:Co S)
def jj (Stop:S->Θ->Ω->Prop):Rk->S->Θ->Ω->Prop
 |.zero,s,g,w=>∀w₁,C.R s w w₁->Stop s g w₁
 |.mk f,s,g,w=>(∀w₁,C.R s w w₁->Stop s g w₁)\/
   (g.status= .running/\∀w₁,C.R s w w₁->∃g' w' es,stepG P main g w₁= .go g' w' es/\C.D s w₁ w' es/\jj Stop (f w₁) (C.up s w₁ w') g' w')
def aG (Stop:S->Θ->Ω->Prop)(s:S)(g:Θ)(w:Ω):Prop:=∃r,jj P main C Stop r s g w
end
section
variable {S:Type}{P:ω}{main:Bool}{C:Co S}{Stop Stop':S->Θ->Ω->Prop}{s:S}{g:Θ}{w:Ω}
def aG.stop (h:∀w₁,C.R s w w₁->Stop s g w₁):aG P main C Stop s g w:=⟨.zero,h⟩
def aG.step (c:g.status= .running)(h:∀w₁,C.R s w w₁->∃g' w' es,stepG P main g w₁= .go g' w' es/\C.D s w₁ w' es/\aG P main C Stop (C.up s w₁ w') g' w'):
  aG P main C Stop s g w:=by
 have a:∀w₁,∃r,C.R s w w₁->∃g' w' es,stepG P main g w₁= .go g' w' es/\C.D s w₁ w' es/\jj P main C Stop r (C.up s w₁ w') g' w':=by
  intro w₁
  by_cases hr:C.R s w w₁
  .have⟨g',w',es,h1,h2,r,b⟩:=h w₁ hr
   exact⟨r,λ_=>⟨g',w',es,h1,h2,b⟩⟩
  .exact⟨.zero,λx=>absurd x hr⟩
 let f:Ω->Rk:=λw₁=>(a w₁).choose
 exact⟨.mk f,.inr ⟨c,λw₁ hr=>(a w₁).choose_spec hr⟩⟩
def jj.rely {r:Rk}{w₁:Ω}(h:jj P main C Stop r s g w)(hr:C.R s w w₁):jj P main C Stop r s g w₁:=by
 cases r with
 |zero=>exactλb a=>h b (C.trans _ _ _ _ hr a)
 |mk f=>exact h.imp (λh b a=>h b (C.trans _ _ _ _ hr a)) λh=>⟨h.1,λb a=>h.2 b (C.trans _ _ _ _ hr a)⟩
def aG.rely {w₁:Ω}(h:aG P main C Stop s g w)(hr:C.R s w w₁):aG P main C Stop s g w₁:=let⟨r,x⟩:=h;⟨r,x.rely hr⟩
def jj.bind:∀{r:Rk}{s:S}{g:Θ}{w:Ω},jj P main C Stop r s g w->(∀s g w,Stop s g w->aG P main C Stop' s g w)->aG P main C Stop' s g w:=by
 intro r
 induction r with
 |zero=>exactλh k=>k _ _ _ (h _ (C.refl ..))
 |mk f a=>
  intro s g w h k;rcases h with h|⟨c,h⟩
  .exact k _ _ _ (h _ (C.refl ..))
  .exact aG.step c λw₁ hr=>let⟨g',w',es,h1,h2,b⟩:=h w₁ hr;⟨g',w',es,h1,h2,a w₁ b k⟩
def aG.bind (h:aG P main C Stop s g w)(k:∀s g w,Stop s g w->aG P main C Stop' s g w):aG P main C Stop' s g w:=let⟨_,x⟩:=h;x.bind k
theorem aG.mono (h:aG P main C Stop s g w)(k:∀s g w,Stop s g w->Stop' s g w):aG P main C Stop' s g w:=by
 obtain⟨r,h⟩:=h
 induction r generalizing s g w with
 |zero=>exact .stop λw₁ hr=>k _ _ _ (h w₁ hr)
 |mk f a=>
  rcases h with h|⟨c,h⟩
  .exact .stop λw₁ hr=>k _ _ _ (h w₁ hr)
  .exact aG.step c λw₁ hr=>let⟨g',w',es,h1,h2,b⟩:=h w₁ hr;⟨g',w',es,h1,h2,a w₁ b⟩
def aG.silent {g':Θ}(c:g.status= .running)(h:∀w₁,stepG P main g w₁= .go g' w₁)(b:∀w₁,C.R s w w₁->C.D s w₁ w₁ #[])(a:∀w₁,C.up s w₁ w₁=s)(k:aG P main C Stop s g' w):aG P main C Stop s g w:=
 aG.step c λw₁ hr=>⟨g',w₁,#[],h w₁,b w₁ hr,by rw[a];exact k.rely hr⟩
end
section
variable (P:ω)(Fin:Θ->Ω->Prop)
def Run:Nat->Θ->Ω->Θ->Ω->Prop
 |0,g,w,g',w'=>g'=g/\w'=w
 |n+1,g,w,g',w'=>∃a w1 es,stepG P true g w= .go a w1 es/\sf a/\Run n a w1 g' w'
def Ends (g:Θ)(w:Ω):Prop:=∀t d,∃n g' w',Run P n g (ax w t d) g' w'/\Fin g' w'
def Shifts (J:Θ->Ω->Prop):Prop:=∀(g:Θ)(w:Ω)(t:eL)(d:Nat)(g':Θ)(w':Ω)(es:Ϝ),J g w->stepG P true g (ax w t d)= .go g' w' es->sf g'->
 J g' w'/\∃c,w'=ax w' t (d+c)/\∀t2 d2,(∀i,i<c->t2 (d2+i)=t (d+i))->stepG P true g (ax w t2 d2)= .go g' (ax w' t2 (d2+c)) es
inductive LT:Θ->Ω->Prop
 |stop {g:Θ} {w:Ω} (h:Fin g w):LT g w
 |step {g:Θ} {w:Ω} (nx:eL->Nat->Θ×Ω×Array Event) (h:∀t d,stepG P true g (ax w t d)= .go (nx t d).1 (nx t d).2.1 (nx t d).2.2)
   (ok:∀t d,sf (nx t d).1) (k:∀t d,LT (nx t d).1 (nx t d).2.1):LT g w
end
section
variable {P:ω}{Fin J:Θ->Ω->Prop}
def Run.fn:∀{n:Nat}{g:Θ}{w:Ω}{a:Θ}{v:Ω}{b:Θ}{u:Ω},Run P n g w a v->Run P n g w b u->a=b/\v=u
 |0,_,_,_,_,_,_,h,k=>⟨h.1.trans k.1.symm,h.2.trans k.2.symm⟩
 |n+1,_,_,_,_,_,_,⟨g1,w1,es,h1,_,h2⟩,⟨g2,w2,es2,k1,_,k2⟩=>by
  rw[h1] at k1;cases k1;exact Run.fn h2 k2
def Run.snoc:∀{n:Nat}{g:Θ}{w:Ω}{a:Θ}{v:Ω}{b:Θ}{u:Ω}{es:Ϝ},Run P n g w a v->stepG P true a v= .go b u es->sf b->Run P (n+1) g w b u
 |0,_,_,_,_,b,u,es,⟨e1,e2⟩,h,hn=>by subst e1;subst e2;exact⟨b,u,es,h,hn,rfl,rfl⟩
 |n+1,_,_,_,_,_,_,_,⟨g1,w1,es1,h1,n1,h2⟩,h,hn=>⟨g1,w1,es1,h1,n1,Run.snoc h2 h hn⟩
def Run.shift (a:Shifts P J):∀{n:Nat}{g:Θ}{w:Ω}{t:eL}{d:Nat}{g':Θ}{w':Ω}{t2:eL}{d2:Nat},J g w->Run P n g (ax w t d) g' w'->(∀j,t2 (d2+j)=t (d+j))->
  ∃c,w'=ax w' t (d+c)/\Run P n g (ax w t2 d2) g' (ax w' t2 (d2+c))
 |0,_,_,_,_,_,_,_,_,_,⟨e1,e2⟩,_=>by subst e1;subst e2;exact⟨0,rfl,rfl,rfl⟩
 |n+1,g,w,t,d,g',w',t2,d2,hn,⟨g1,w1,es,h1,n1,h2⟩,ht=>by
  have⟨l,c,e,k⟩:=a g w t d g1 w1 es hn h1 n1;have h:=k t2 d2 λi _=>ht i
  rw[e] at h2;have⟨b,f,r⟩:=Run.shift a (t2:=t2) (d2:=d2+c) l h2 λj=>by rw[Nat.add_assoc,Nat.add_assoc];exact ht (c+j)
  refine⟨c+b,by rw[<-Nat.add_assoc];exact f,g1,_,es,h,n1,?_⟩;rw[<-Nat.add_assoc];exact r
def Ends.step (q:Shifts P J)(l:∀g w t d,Fin g (ax w t d)↔Fin g w){g:Θ}{w:Ω}(D:J g w)(h:Ends P Fin g w)(o:¬Fin g w)(t:eL)(d:Nat):
  ∃g' w' es,stepG P true g (ax w t d)= .go g' w' es/\sf g'/\J g' w'/\Ends P Fin g' w':=by
 have⟨n,a,v,hr,ha⟩:=h t d;cases n with
 |zero=>
  obtain⟨rfl,rfl⟩:=hr;exact absurd ((l ..).1 ha) o
 |succ n=>
  have⟨z,w1,es,h1,n1,_⟩:=hr;have⟨y,c,e,k⟩:=q g w t d z w1 es D h1 n1;refine⟨z,w1,es,h1,n1,y,λt2 d2=>?_⟩;have⟨m,b,u,f,s⟩:=h (λp=>if p<c then t (d+p) else t2 (d2+(p-c))) 0;cases m with
  |zero=>
   obtain⟨rfl,rfl⟩:=f;exact absurd ((l ..).1 s) o
  |succ m=>
   have⟨G,E,C,B,_,k2⟩:=f;have k3:=k (λp=>if p<c then t (d+p) else t2 (d2+(p-c))) 0 λi A=>by simp[A]
   rw[B] at k3;simp only[GStep.go.injEq] at k3;obtain⟨rfl,rfl,rfl⟩:=k3;have⟨F,_,r⟩:=Run.shift q (t2:=t2) (d2:=d2) y k2 λj=>by simp;intro x;omega
   exact⟨m,b,_,r,(l ..).2 s⟩
def CW (K:Shifts P J)(I:∀g w t d,Fin g (ax w t d)↔Fin g w){g:Θ}{w:Ω}(S:J g w)(h:Ends P Fin g w):LT P Fin g w:=by
 classical
 refine ac9 λo=>?_
 let b:Θ×Ω->Prop:=λx=>J x.1 x.2/\Ends P Fin x.1 x.2/\¬LT P Fin x.1 x.2
 have E:∀x:{x//b x},∃p:{x//b x}×eL×Nat×Nat,∃es,stepG P true x.1.1 (ax x.1.2 p.2.1 p.2.2.1)= .go p.1.1.1 p.1.1.2 es/\sf p.1.1.1/\
   (∀t2 d2,(∀i,i<p.2.2.2->t2 (d2+i)=p.2.1 (p.2.2.1+i))->stepG P true x.1.1 (ax x.1.2 t2 d2)= .go p.1.1.1 (ax p.1.1.2 t2 (d2+p.2.2.2)) es):=by
  rintro⟨⟨a,v⟩,na,ea,la⟩;have Q:¬Fin a v:=λx=>la (.stop x)
  have B:∃t d g' w' es,stepG P true a (ax v t d)= .go g' w' es/\sf g'/\J g' w'/\Ends P Fin g' w'/\¬LT P Fin g' w':=by
   refine ac9 λz=>la ?_
   have e:∀t d,∃p:Θ×Ω×Array Event,stepG P true a (ax v t d)= .go p.1 p.2.1 p.2.2/\sf p.1/\LT P Fin p.1 p.2.1:=by
    intro t d;have⟨g',w',es,h1,h2,C,s⟩:=ea.step K I na Q t d;refine⟨(g',w',es),h1,h2,ac9 λu=>z ⟨t,d,g',w',es,h1,h2,C,s,u⟩⟩
   exact .step (λt d=>(e t d).choose) (λt d=>(e t d).choose_spec.1) (λt d=>(e t d).choose_spec.2.1) (λt d=>(e t d).choose_spec.2.2)
  have⟨t,d,g',w',es,h1,h2,C,s,u⟩:=B;have⟨_,c,_,k⟩:=K a v t d g' w' es na h1 h2;exact⟨(⟨(g',w'),C,s,u⟩,t,d,c),es,h1,h2,k⟩
 let L:{x//b x}:=⟨(g,w),S,h,o⟩
 let r:Nat->{x//b x}:=λn=>Nat.rec L (λ_ x=>(E x).choose.1) n
 let l:Nat->{x//b x}×eL×Nat×Nat:=λn=>(E (r n)).choose
 let pos:Nat->Nat:=λn=>Nat.rec 0 (λk p=>p+(l k).2.2.2) n
 have F:∀k,pos (k+1)=pos k+(l k).2.2.2:=λ_=>rfl
 have G:∀i j,i<=j->pos i<=pos j:=by
  intro i j A
  induction A with
  |refl=>exact ι _
  |step _ y=>exact ac7 y (by rw[F];omega)
 have M:∀i j p,pos i<=p->p<pos (i+1)->pos j<=p->p<pos (j+1)->i=j:=by
  intro i j p h1 h2 s u;rcases ϓ6 i j with x|x|x
  .have:=G (i+1) j x;omega
  .exact x
  .have:=G (j+1) i x;omega
 let T:eL:=λp q=>if f:∃k,pos k<=p/\p<pos (k+1) then(l f.choose).2.1 ((l f.choose).2.2.1+(p-pos f.choose)) q else 0
 have O:∀k i,i<(l k).2.2.2->T (pos k+i)=(l k).2.1 ((l k).2.2.1+i):=by
  intro k i H;have f:∃k',pos k'<=pos k+i/\pos k+i<pos (k'+1):=⟨k,ϖ,by rw[F];omega⟩
  have N:f.choose=k:=M _ _ _ f.choose_spec.1 f.choose_spec.2 ϖ (by rw[F];omega)
  funext q
  show(if f:∃k',pos k'<=pos k+i/\pos k+i<pos (k'+1) then _ else _)=_;rw[dif_pos f,N,show pos k+i-pos k=i by omega]
 have m:∀k,Run P k g (ax w T 0) (r k).1.1 (ax (r k).1.2 T (pos k)):=by
  intro k
  induction k with
  |zero=>exact⟨rfl,rfl⟩
  |succ k y=>
   have⟨es,_,D,R⟩:=(E (r k)).choose_spec;have:=R T (pos k) λi H=>O k i H
   exact y.snoc this D
 have⟨n,a,v,hr,ha⟩:=h T 0;obtain⟨rfl,rfl⟩:=hr.fn (m n);exact(r n).2.2.2 (.stop ((I ..).1 ha))
def FP {S:Type}{main:Bool}{C:Co S}{Stop:S->Θ->Ω->Prop}(br:S->Θ->Ω->Θ->Ω->Prop)(c:∀s gL wL g w,br s gL wL g w->Fin gL wL->∀w₁,C.R s w w₁->Stop s g w₁)(d:∀s gL wL g w,br s gL wL g w->g.status= .running)(b:∀s gL wL g w,br s gL wL g w->∀w₁,C.R s w w₁->∀f i es,stepG P true gL (ax wL w₁.tape w₁.drawn)= .go f i es->sf f->LT P Fin f i->
   ∃g' w' a,stepG P main g w₁= .go g' w' a/\C.D s w₁ w' a/\br (C.up s w₁ w') f i g' w'){gL:Θ}{wL:Ω}(h:LT P Fin gL wL):∀{s:S}{g:Θ}{w:Ω},br s gL wL g w->aG P main C Stop s g w:=by
 induction h with
 |stop h=>exactλe=> .stop (c _ _ _ _ _ e h)
 |@step gL wL nx h ok hk ih=>
  intro s g w e;refine aG.step (d _ _ _ _ _ e) λw₁ hr=>?_
  have⟨g',w',a,h1,h2,j⟩:=b _ _ _ _ _ e w₁ hr _ _ _ (h ..) (ok ..) (hk ..);exact⟨g',w',a,h1,h2,ih _ _ j⟩
end
section
variable (π:Nat->Nat)
def bn (a:Addr):Addr:={a with block:=π a.block}
def qz:Fn->Fn
 |.yield l=> .yield (π l)
 |f=>f
def Value.ren:Φ->Φ
 |.pointer a=> .pointer (a.map (bn π))
 |.slice a n c=> .slice (a.map (bn π)) n c
 |.map r=> .map (r.map π)
 |.chan r=> .chan (r.map π)
 |.func fn first d=> .func (qz π fn) (first.attach.map λ⟨x,_⟩=>Value.ren x) (d.attach.map λ⟨x,_⟩=>Value.ren x)
 |.iface t v=> .iface t (Value.ren v)
 |.agg cells=> .agg (cells.attach.map λ⟨x,_⟩=>Value.ren x)
 |.tuple e=> .tuple (e.attach.map λ⟨x,_⟩=>Value.ren x)
 |.bool b=> .bool b
 |.int k n=> .int k n
 |.float k n=> .float k n
 |.complex k a b=> .complex k a b
 |.string s=> .string s
 |.nilFunc=> .nilFunc
 |.nilIface=> .nilIface
termination_by v=>SizeOf.sizeOf v
decreasing_by
 all_goals first
  |(simp_wf;have:=ϔ6 ‹_∈_›;omega)
  |(simp_wf;omega)
end
section
variable {π:Nat->Nat}
@[simp] def eF (b:Bool):Value.ren π (.bool b)= .bool b:=by rw[Value.ren]
@[simp] def cR (k:IntKind)(n:Int):Value.ren π (.int k n)= .int k n:=by rw[Value.ren]
@[simp] def dZ (k:FloatKind)(n:Nat):Value.ren π (.float k n)= .float k n:=by rw[Value.ren]
@[simp] def dr (k:FloatKind)(n m:Nat):Value.ren π (.complex k n m)= .complex k n m:=by rw[Value.ren]
@[simp] def bN (s:Ξ):Value.ren π (.string s)= .string s:=by rw[Value.ren]
@[simp] def et:Value.ren π .nilFunc= .nilFunc:=by rw[Value.ren]
@[simp] def di:Value.ren π .nilIface= .nilIface:=by rw[Value.ren]
@[simp] def bi (a:Ϡ):Value.ren π (.pointer a)= .pointer (a.map (bn π)):=by rw[Value.ren]
@[simp] def bU (a:Ϡ)(n c:Nat):Value.ren π (.slice a n c)= .slice (a.map (bn π)) n c:=by rw[Value.ren]
@[simp] def ec (r:ϣ):Value.ren π (.map r)= .map (r.map π):=by rw[Value.ren]
@[simp] def eS (r:ϣ):Value.ren π (.chan r)= .chan (r.map π):=by rw[Value.ren]
@[simp] def dk (t:η)(v:Φ):Value.ren π (.iface t v)= .iface t (Value.ren π v):=by rw[Value.ren]
def pI (a:ϐ):(a.attach.map λ⟨x,_⟩=>Value.ren π x)=a.map (Value.ren π):=by
 apply Array.ext
 .simp
 .intro i h1 h2
  simp
@[simp] def dV (cs:ϐ):Value.ren π (.agg cs)= .agg (cs.map (Value.ren π)):=by rw[Value.ren,pI]
@[simp] def dj (cs:ϐ):Value.ren π (.tuple cs)= .tuple (cs.map (Value.ren π)):=by rw[Value.ren,pI]
@[simp] def dO (fn:Fn)(f c:ϐ):Value.ren π (.func fn f c)= .func (qz π fn) (f.map (Value.ren π)) (c.map (Value.ren π)):=by rw[Value.ren,pI,pI]
end
def O6 (f:Fn):qz id f=f:=by cases f<;>rfl
def cP {a:ϐ}{f:Φ->Φ}(h:∀v∈a,f v=v):a.map f=a:=by
 apply Array.ext
 .simp
 .intro i h1 h2
  simp[h]
def qx:∀v:Φ,Value.ren id v=v
 |.bool _|.int _ _|.float _ _|.complex _ _ _|.string _|.nilFunc|.nilIface=>ϛ
 |.pointer a=>by cases a<;>simp[bn]
 |.slice a _ _=>by cases a<;>simp[bn]
 |.map r=>by cases r<;>simp
 |.chan r=>by cases r<;>simp
 |.iface t v=>by simp[qx v]
 |.agg cs=>by rw[dV,cP λv hv=>qx v]
 |.tuple cs=>by rw[dj,cP λv hv=>qx v]
 |.func fn f c=>by rw[dO,O6,cP λv hv=>qx v,cP λv hv=>qx v]
termination_by v=>SizeOf.sizeOf v
decreasing_by
 all_goals first
  |(simp_wf;have:=ϔ6 ‹_∈_›;omega)
  |(simp_wf;omega)
def rQ {α:Type}(e:String):(MonadExcept.throw e:Except String α)= .error e:=rfl
def Cb (π:Ϛ)(v:Φ):(Value.ren π v).bytes? =v.bytes? :=by cases v<;>simp[Value.bytes?]
def Fl (π:Ϛ)(v:Φ)(bs:ϓ):(Value.ren π v).ofBytes bs=v.ofBytes bs:=by cases v<;>simp[Value.ofBytes]
def xq (π:Ϛ)(v u:Φ)(bs:ϓ)(h:v.ofBytes bs=some u):Value.ren π u=u:=by
 cases v with
 |bool b=>
  simp only[Value.ofBytes] at h;split at h<;>first|(cases h;simp)|cases h
 |int k n=>
  simp only[Value.ofBytes] at h;split at h<;>first|(cases h;simp)|cases h
 |float k n=>
  simp only[Value.ofBytes] at h;split at h<;>first|(cases h;simp)|cases h
 |complex k a b=>
  simp only[Value.ofBytes] at h;split at h<;>first|(cases h;simp)|cases h
 |_=>simp[Value.ofBytes] at h
def kO (π:Ϛ)(P:ω)(c:ϐ)(e:η):∀f x stop,seenCells P (c.map (Value.ren π)) e f x stop=seenCells P c e f x stop
 |0,_,_=>rfl
 |f+1,x,stop=>by
  unfold seenCells;simp only[ai0];split
  .rfl
  .split
   .rfl
   .split
    .rfl
    .rename_i i s _
     cases h:c[i]? with
     |none=>rfl
     |some v=>
      simp only[ξ,Cb];split
      .rfl
      .rfl
      .rw[kO π P c e f]
def oU {P:ω}{c:ϐ}{e:η}:∀{f x stop:Nat}{l:List (Nat×Nat×List Γ)},seenCells P c e f x stop= .ok l->∀y∈l,y.1<c.size
 |0,_,_,_,h=>by simp[seenCells] at h
 |f+1,x,stop,l,h=>by
  unfold seenCells at h;split at h
  .cases h;simp
  .dsimp only at h
   split at h
   .cases h
   .split at h
    .cases h
    .rename_i i s _
     cases a:c[i]? with
     |none=>simp[a] at h
     |some v=>
      simp only[a] at h;split at h
      .cases h
      .cases h
      .cases hr:seenCells P c e f (s+_) stop with
       |error y=>rw[hr] at h;cases h
       |ok r=>
        rw[hr] at h;simp only[Functor.map,Except.map,Except.ok.injEq] at h;subst h;intro y b;rcases ac1.1 b with rfl|b
        .exact(Ψ.1 a).1
        .exact oU hr y b
def oT (P:ω)(u:η)(k at_:Addr)(m:Bool)(o:Option Obj):Except String (Array Φ×η×(Nat×Nat)×Nat×Φ×List (Nat×Nat×List Γ)):=
 (({heap:=#[o.getD (.coro none)],tape:=λ_ _=>0,drawn:=0,os:=default,output:=#[]}:Ω).seen P {at_ with block:=0} u k m)
def ye (w:Ω)(P:ω)(at_:Addr)(u:η)(k:Addr)(m:Bool):w.seen P at_ u k m=oT P u k at_ m w.heap[at_.block]? :=by
 unfold oT World.seen;simp only[bind,Except.bind,pure,Except.pure,rQ];cases h:w.heap[at_.block]? with
 |none=>simp
 |some o=>simp
def ui {P:ω}{u:η}{k at_:Addr}{m:Bool}{o:Option Obj}{x:Array Φ×η×(Nat×Nat)×Nat×Φ×List (Nat×Nat×List Γ)}(h:oT P u k at_ m o= .ok x):
  o=some (.cells x.1 x.2.1 x.2.2.1)/\P.cellsOf x.2.1≠0/\(∀y∈x.2.2.2.2.2,y.1<x.1.size)/\∀(π:Ϛ)(f:Nat×Nat),oT P u k at_ m (some (.cells (x.1.map (Value.ren π)) x.2.1 f))= .ok (x.1.map (Value.ren π),x.2.1,f,x.2.2.2):=by
 unfold oT World.seen at h⊢;simp only[bind,Except.bind,pure,Except.pure,rQ,kO] at h⊢
 by_cases p:(k.spot.isSome||at_.spot.isSome)=true
 .simp[p] at h
 .simp only[p,ν,if_false] at h⊢
  cases t:plainCell P P.depth u k.off with
  |none=>simp[t] at h
  |some d=>
   simp only[t] at h⊢;cases r:Option.map (λx=>x.length) d.bytes? with
   |none=>simp[r] at h
   |some size=>
    simp only[r] at h⊢;cases q:byteOfCell P P.depth u k.off with
    |none=>simp[q] at h
    |some n=>
     simp only[q] at h⊢;cases o with
     |none=>simp at h
     |some o=>
      cases o with
      |cells c e w=>
       simp at h⊢
       by_cases h0:P.cellsOf e=0
       .simp[h0] at h
       .simp only[h0,if_false] at h
        cases h1:byteOfCell P P.depth e (at_.off%P.cellsOf e) with
        |none=>simp[h1] at h
        |some b0=>
         simp only[h1] at h;cases h2:seenCells P c e (size+1) (at_.off/P.cellsOf e*P.bytesOf e+b0+n) (at_.off/P.cellsOf e*P.bytesOf e+b0+n+size) with
         |error y=>simp[h2] at h
         |ok v=>
          simp only[h2] at h;cases m with
          |false=>
           simp only[ν,if_false,Except.ok.injEq] at h;subst h;refine⟨⟨rfl,rfl,rfl⟩,h0,?_,λπ a b=>by simp[h0,h1,kO,h2]⟩;intro i s bs g;exact oU h2 _ g
          |true=>
           simp only[if_true] at h
           match v,h2,h with
           |[(
             i,s,bs)],h2,h=>
            dsimp only at h
            by_cases l:¬s=at_.off/P.cellsOf e*P.bytesOf e+b0+n\/¬bs.length=size
            .simp[l] at h
            .simp only[l,if_false,Except.ok.injEq] at h
             subst h;refine⟨⟨rfl,rfl,rfl⟩,h0,?_,λπ a b=>by simp[h0,h1,kO,h2];simpa using l⟩;intro j s' bs' g;obtain⟨rfl,rfl,rfl⟩:j=i/\s'=s/\bs'=bs:=by simpa using g
             exact oU h2 (j,s',bs') ϛ
           |[],_,h=>simp at h
           |_::_::_,_,h=>simp at h
      |_=>simp at h
def CV {π:Ϛ}{w w':Ω}{P:ω}{at_:Addr}{u:η}{k:Addr}{m:Bool}{v:Φ}{l:List Addr}(h:w.viewLoad P at_ u k m= .ok (v,l))(g:∀c e f,w.heap[at_.block]? =some (.cells c e f)->P.cellsOf e≠0->∃f',w'.heap[π at_.block]? =some (.cells (c.map (Value.ren π)) e f')):
  w'.viewLoad P (bn π at_) u (bn π k) m= .ok (Value.ren π v,l.map (bn π))/\(∀a∈l,a.block=at_.block)/\∃c e f,w.heap[at_.block]? =some (.cells c e f)/\P.cellsOf e≠0:=by
 unfold World.viewLoad at h⊢;have e1:w'.seen P (bn π at_) u (bn π k) m=oT P u k at_ m w'.heap[π at_.block]? :=ye w' P (bn π at_) u (bn π k) m;rw[e1];rw[ye] at h;simp only[bind,Except.bind,pure,Except.pure,rQ] at h⊢;cases d:oT P u k at_ m w.heap[at_.block]? with
 |error y=>simp[d] at h
 |ok x=>
  have⟨h1,h2,_,i⟩:=ui d;have⟨f',b⟩:=g _ _ _ h1 h2;rw[b,i π f'];simp only[d] at h;dsimp only at h⊢;generalize j:x.2.2.2.2.1.ofBytes _=z at h⊢;cases z with
  |none=>simp at h
  |some n=>
   simp only[Except.ok.injEq,ai1] at h⊢;obtain⟨rfl,rfl⟩:=h;refine⟨⟨(xq π _ _ _ j).symm,?_⟩,?_,_,_,_,h1,h2⟩
   .rw[List.map_map];rfl
   .intro a ha
    obtain⟨y,_,rfl⟩:=ad1.1 ha;rfl
def z5 {a:Type}(r:Φ->Φ)(F:Array Φ->a->Except String (Array Φ))(b:∀c y,F (c.map r) y=match F c y with|.ok d=> .ok (d.map r)|.error e=> .error e):
  ∀(l:List a)(c:ϐ),List.foldlM F (c.map r) l=match List.foldlM F c l with|.ok d=> .ok (d.map r)|.error e=> .error e
 |[],c=>rfl
 |y::l,c=>by
  simp only[List.foldlM_cons,bind,Except.bind,b];cases F c y with
  |error e=>rfl
  |ok d=>exact z5 r F b l d
def ny {w:Ω}{P:ω}{at_:Addr}{u:η}{k:Addr}{m:Bool}{v:Φ}{w1:Ω}{l:List Addr}(h:w.viewStore P at_ u k v m= .ok (w1,l)):
  ∃c e f c1,w.heap[at_.block]? =some (.cells c e f)/\P.cellsOf e≠0/\w1={w with heap:=w.heap.setIfInBounds at_.block (.cells c1 e f)}/\(∀a∈l,a.block=at_.block)/\(f=(0,c.size)->l=[]/\c1=c)/\
   ∀(π:Ϛ)(w':Ω)(f':Nat×Nat),(f'=f\/l=[])->w'.heap[π at_.block]? =some (.cells (c.map (Value.ren π)) e f')->
    w'.viewStore P (bn π at_) u (bn π k) (Value.ren π v) m= .ok ({w' with heap:=w'.heap.setIfInBounds (π at_.block) (.cells (c1.map (Value.ren π)) e f')},l.map (bn π)):=by
 unfold World.viewStore at h
 by_cases t:tight P P.depth u=true
 .simp only[t,Bool.not_true,ν,if_false] at h
  rw[ye] at h;simp only[bind,Except.bind,pure,Except.pure,rQ] at h;cases j:oT P u k at_ m w.heap[at_.block]? with
  |error y=>simp[j] at h
  |ok x=>
   have⟨h1,h2,B,F⟩:=ui j;simp only[j] at h;cases hv:v.bytes? with
   |none=>simp[hv] at h
   |some bs=>
    simp only[hv] at h
    by_cases q:some bs.length≠Option.map (λx=>x.length) x.2.2.2.2.1.bytes?
    .simp[q] at h
    .simp only[q,if_false] at h
     generalize b:List.foldlM (m:=Except String) _ x.1 x.2.2.2.2.2=z at h;cases z with
     |error y=>simp at h
     |ok c1=>
      simp only[Except.ok.injEq,ai1] at h;obtain⟨rfl,rfl⟩:=h;refine⟨_,_,_,c1,h1,h2,rfl,λa ha=>?_,λC=>?_,λπ w' f' n o=>?_⟩
      .obtain⟨y,_,rfl⟩:=ad1.1 ha
       rfl
      .cases p:x.2.2.2.2.2 with
       |nil=>
        rw[p] at b;simp only[List.foldlM_nil,pure,Except.pure,Except.ok.injEq] at b;exact⟨rfl,b.symm⟩
       |cons y r=>
        exfalso;have D:=B y (by rw[p];simp);rw[p] at b;simp only[List.foldlM_cons,bind,Except.bind] at b;rw[C] at b;split at b
        .simp at b
        .rename_i g
         split at g
         .cases g
         .simp[D] at g
      .unfold World.viewStore
       have e1:w'.seen P (bn π at_) u (bn π k) m=oT P u k at_ m w'.heap[π at_.block]? :=ye w' P (bn π at_) u (bn π k) m;rw[e1,o,F π f'];simp only[t,Bool.not_true,ν,if_false,bind,Except.bind,pure,Except.pure,rQ,Cb,hv,q];have H:∀(G:Array Φ->Nat×Nat×List Γ->Except String (Array Φ)),(f'=x.2.2.1->G=G)->True:=λ_ _=>trivial
       rcases n with rfl|i
       rotate_left
       .have d:x.2.2.2.2.2=[]:=by simpa using i
        rw[d] at b⊢;simp only[List.foldlM_nil,pure,Except.pure,Except.ok.injEq] at b⊢;subst b;rfl
       rw[z5 (Value.ren π),b]
       .simp only[List.map_map]
        rfl
       .intro c y
        simp only[ai0];split
        .rfl
        .split
         .rfl
         .cases I:c[y.1]? with
          |none=>rfl
          |some A=>
           simp only[ξ,Fl];cases E:A.ofBytes (List.take y.2.2.length (List.drop (y.2.1-x.2.2.2.1) bs)) with
           |none=>rfl
           |some new=>
            simp only[ϔ2,xq π _ _ _ E]
 .have s:tight P P.depth u=false:=by simpa using t
  simp[s,bind,Except.bind,rQ] at h
def mN:Φ->Bool
 |.agg _|.tuple _=>false
 |_=>true
def pO:Obj->Prop
 |.cells .. |.map .. |.stringIter .. |.mapIter .. =>True
 |.view .. |.number .. =>True
 |_=>False
def nF (π:Ϛ)(e:ai3):ai3:={key:=Value.ren π e.key,val:=Value.ren π e.val,born:=e.born}
def ep (π:Ϛ):Obj->Obj
 |.cells c e fr=> .cells (c.map (Value.ren π)) e fr
 |.map es b=> .map (es.map (nF π)) b
 |.mapIter m d seen f=> .mapIter (m.map π) d seen f
 |.view a t=> .view (bn π a) t
 |.number a lost=> .number (bn π a) lost
 |o=>o
def inner:Obj->Nat->Prop
 |.view a _,i|.number a _,i=>i=a.block
 |_,_=>False
def mn:Halt->Prop
 |.panic _|.stuck _=>True
 |.unsupported (.initOrder _)=>False
 |.unsupported _=>True
 |_=>False
def fj (w:Ω):Prop:=∀(b:Nat)(o:Obj),w.heap[b]? =some o->pO o
structure WR (π:Nat->Nat)(H Z:Nat->Prop)(wL w:Ω):Prop where
 inj:∀i j,π i=π j->i=j
 tape:w.tape=wL.tape
 drawn:w.drawn=wL.drawn
 lt:∀b,b<wL.heap.size->¬H b->π b<w.heap.size
 ok:∀(b:Nat) (o:Obj),wL.heap[b]? =some o->¬H b->¬Z b->pO o/\w.heap[π b]? =some (ep π o)
 hid:∀(b:Nat) (o:Obj),wL.heap[b]? =some o->H b->o= .cells #[] 1000000 (0,0)
 pZ:∀(b:Nat) (o:Obj),wL.heap[b]? =some o->Z b->∃c t f,o= .cells c t (0,c.size)/\w.heap[π b]? =some (.cells (c.map (Value.ren π)) t f)
 low:∀b,H b\/Z b->b<wL.heap.size
 AM:∀(b:Nat) (o:Obj),wL.heap[b]? =some o->∀i,inner o i->i<wL.heap.size/\¬H i
def WR.mq {π:Ϛ}{H Z:ϒ}{wL w:Ω}(h:WR π H Z wL w):fj wL:=by
 intro b o a
 by_cases d:H b
 .rw[h.hid b o a d];trivial
 .by_cases e:Z b
  .obtain⟨c,t,f,rfl,_⟩:=h.pZ b o a e;trivial
  .exact(h.ok b o a d e).1
def Dead {α:Type}(P:ω)(s:Sem α):Prop:=∀w,fj w->∃h w',s.run P w= .halt h w'/\mn h
def qH:Mark->Prop
 |.extern _|.noRoom=>True
 |_=>False
section
variable (P:ω)(π:Nat->Nat)(N:Nat->Prop)
inductive br:(Nat->Prop)->{α:Type}->(α->α->Prop)->Sem α->Sem α->Prop
 |pure {V:Nat->Prop} {α:Type} {R:α->α->Prop} {a b:α} (h:R a b):br V R (.pure a) (.pure b)
 |load {V:Nat->Prop} {α:Type} {R:α->α->Prop} {m:Mode} {a:Addr} {k k':Φ->Sem α} (h:∀v,br (λi=>V i\/i=a.block) R (k v) (k' (Value.ren π v))):br V R (.load m a k) (.load m (bn π a) k')
 |store {V:Nat->Prop} {α:Type} {R:α->α->Prop} {m:Mode} {a:Addr} {v:Φ} {k k':Sem α} (h:br (λi=>V i\/i=a.block) R k k'):br V R (.store m a v k) (.store m (bn π a) (Value.ren π v) k')
 |new {V:Nat->Prop} {α:Type} {R:α->α->Prop} {o:Obj} {k k':Nat->Sem α} (ho:pO o) (hi:∀i,inner o i->V i) (h:∀b,¬N b->br (λi=>V i\/i=b) R (k b) (k' (π b))):br V R (.new o k) (.new (ep π o) k')
 |getObj {V:Nat->Prop} {α:Type} {R:α->α->Prop} {r:Nat} {k k':Obj->Sem α} (h:∀o,pO o->br (λi=>V i\/i=r\/inner o i) R (k o) (k' (ep π o))):br V R (.getObj r k) (.getObj (π r) k')
 |setObj {V:Nat->Prop} {α:Type} {R:α->α->Prop} {r:Nat} {o:Obj} {k k':Sem α} (ho:pO o) (hi:∀i,inner o i->V i) (h:br (λi=>V i\/i=r) R k k'):br V R (.setObj r o k) (.setObj (π r) (ep π o) k')
 |shape {V:Nat->Prop} {α:Type} {R:α->α->Prop} {r:Nat} {k k':Option (η×Nat)->Sem α} (hv:V r) (h:∀x,br V R (k x) (k' x)):br V R (.shape r k) (.shape (π r) k')
 |freeze {V:Nat->Prop} {α:Type} {R:α->α->Prop} {a:Addr} {n:Nat} {k k':Sem α} (hv:V a.block) (hn:¬N a.block) (h:br V R k k'):br V R (.freeze a n k) (.freeze (bn π a) n k')
 |frozen {V:Nat->Prop} {α:Type} {R:α->α->Prop} {a:Addr} {k k':Bool->Sem α} (hv:V a.block) (hn:¬N a.block) (h:∀x,br V R (k x) (k' x)):br V R (.frozen a k) (.frozen (bn π a) k')
 |choose {V:Nat->Prop} {α:Type} {R:α->α->Prop} {q:Question} {k k':Nat->Sem α} (h:∀n,br V R (k n) (k' n)):br V R (.choose q k) (.choose q k')
 |program {V:Nat->Prop} {α:Type} {R:α->α->Prop} {k k':ω->Sem α} (h:br V R (k P) (k' P)):br V R (.program k) (.program k')
 |mark {V:Nat->Prop} {α:Type} {R:α->α->Prop} {m:Mark} {k k':Sem α} (hm:qH m) (h:br V R k k'):br V R (.mark m k) (.mark m k')
 |dead {V:Nat->Prop} {α:Type} {R:α->α->Prop} {s s':Sem α} (h:Dead P s):br V R s s'
end
section
variable {P:ω}{π:Nat->Nat}{N V:Nat->Prop}
def Dead.halt {α:Type}{h:Halt}(a:mn h):Dead P (.halt h:Sem α):=λw _=>⟨h,w,rfl,a⟩
def Dead.bind {α b:Type}{s:Sem α}(f:α->Sem b)(h:Dead P s):Dead P (s.bind f):=by
 intro w c;have⟨x,w',hr,a⟩:=h w c;refine⟨x,w',?_,a⟩;rw[Sem.run_bind',hr];rfl
def br.weak {α:Type}{R:α->α->Prop}{s s':Sem α}(h:br P π N V R s s'):∀{e:ϒ},(∀i,V i->e i)->br P π N e R s s':=by
 induction h with
 |pure h=>exactλ_=> .pure h
 |load _ a=>exactλhv=> .load λv=>a v λi c=>c.imp (hv i) id
 |store _ a=>exactλhv=> .store (a λi c=>c.imp (hv i) id)
 |new d h1 _ a=>exactλhv=> .new d (λi c=>hv i (h1 i c)) λb f=>a b f λi c=>c.imp (hv i) id
 |getObj _ a=>exactλhv=> .getObj λo d=>a o d λi c=>c.imp (hv i) id
 |setObj d h1 _ a=>exactλhv=> .setObj d (λi c=>hv i (h1 i c)) (a λi c=>c.imp (hv i) id)
 |shape h1 _ a=>exactλhv=> .shape (hv _ h1) λx=>a x hv
 |freeze h1 h2 _ a=>exactλhv=> .freeze (hv _ h1) h2 (a hv)
 |frozen h1 h2 _ a=>exactλhv=> .frozen (hv _ h1) h2 λx=>a x hv
 |choose _ a=>exactλhv=> .choose λn=>a n hv
 |program _ a=>exactλhv=> .program (a hv)
 |mark hm _ a=>exactλhv=> .mark hm (a hv)
 |dead h=>exactλ_=> .dead h
def br.bind {α e:Type}{R:α->α->Prop}{R':e->e->Prop}{s s':Sem α}(h:br P π N V R s s'):∀{f f':α->Sem e},(∀x x',R x x'->br P π N V R' (f x) (f' x'))->
  br P π N V R' (s.bind f) (s'.bind f'):=by
 induction h with
 |pure h=>exactλa=>a _ _ h
 |load _ c=>exactλa=> .load λv=>c v λx x' r=>(a x x' r).weak λ_=> .inl
 |store _ c=>exactλa=> .store (c λx x' r=>(a x x' r).weak λ_=> .inl)
 |new d h1 _ c=>exactλa=> .new d h1 λb g=>c b g λx x' r=>(a x x' r).weak λ_=> .inl
 |getObj _ c=>exactλa=> .getObj λo d=>c o d λx x' r=>(a x x' r).weak λ_=> .inl
 |setObj d h1 _ c=>exactλa=> .setObj d h1 (c λx x' r=>(a x x' r).weak λ_=> .inl)
 |shape h1 _ c=>exactλa=> .shape h1 λx=>c x a
 |freeze h1 h2 _ c=>exactλa=> .freeze h1 h2 (c a)
 |frozen h1 h2 _ c=>exactλa=> .frozen h1 h2 λx=>c x a
 |choose _ c=>exactλa=> .choose λn=>c n a
 |program _ c=>exactλa=> .program (c a)
 |mark hm _ c=>exactλa=> .mark hm (c a)
 |dead h=>exactλa=> .dead (h.bind _)
def br.bind' {α a:Type}{R:α->α->Prop}{R':a->a->Prop}{s s':Sem α}(h:br P π N V R s s'){f f':α->Sem a}(b:∀x x',R x x'->br P π N V R' (f x) (f' x')):
  br P π N V R' (s>>=f) (s'>>=f'):=h.bind b
def br.mono {α:Type}{R R':α->α->Prop}{s s':Sem α}(h:br P π N V R s s')(hr:∀x x',R x x'->R' x x'):br P π N V R' s s':=by
 have:=h.bind (f:=Sem.pure) (f':=Sem.pure) (R':=R') λx x' r=> .pure (hr _ _ r)
 rwa [Sem.bind_pure',Sem.bind_pure'] at this
end
def ri (π:Ϛ)(H Z:ϒ)(n:Nat)(e:Event):Prop:=
 (∃b,b<n/\¬H b/\(e.write=true->¬Z b)/\((∃a:Addr,e.loc= .cell a/\a.block=π b)\/e.loc= .obj (π b)))\/∃m,e.loc= .mark m/\qH m
def ri.mono {π:Ϛ}{H Z:ϒ}{n a:Nat}{e:Event}(h:ri π H Z n e)(c:n<=a):ri π H Z a e:=
 h.imp (λ⟨b,h1,h2⟩=>⟨b,ψ h1 c,h2⟩) id
structure Eg (π:Nat->Nat)(H Z:Nat->Prop)(wL bO w w':Ω):Prop where
 nY:wL.heap.size<=bO.heap.size
 size:w'.heap.size=w.heap.size+(bO.heap.size-wL.heap.size)
 keep:∀k,k<w.heap.size->(∀b,b<wL.heap.size->¬H b->¬Z b->π b≠k)->w'.heap[k]? =w.heap[k]?
 os:w'.os=w.os
 output:w'.output=w.output
 tape:w'.tape=w.tape
 drawn:w.drawn<=w'.drawn
section
variable {P:ω}{π:Nat->Nat}{N V:Nat->Prop}{H Z:Nat->Prop}{wL w:Ω}
def Eg.refl (π:Ϛ)(H Z:ϒ)(wL w:Ω):Eg π H Z wL wL w w:=⟨ι _,ϖ,λ_ _ _=>rfl,rfl,rfl,rfl,ι _⟩
def Eg.trans {Sm a w1 e:Ω}(h:Eg π H Z wL Sm w w1)(k:Eg π H Z Sm a w1 e)(d:∀i,wL.heap.size+i<a.heap.size->π (wL.heap.size+i)=w.heap.size+i):Eg π H Z wL a w e:=by
 have h1:=h.nY;have h2:=k.nY;have o:=h.size;have p:=k.size;refine⟨ϖ,ϖ,λj g f=>?_,k.os.trans h.os,k.output.trans h.output,k.tape.trans h.tape,ac7 h.drawn k.drawn⟩;rw[k.keep j ϖ λb n l m=>?_,h.keep j g f]
 by_cases c:b<wL.heap.size
 .exact f b c l m
 .have:=d (b-wL.heap.size) ϖ
  rw[show wL.heap.size+(b-wL.heap.size)=b by omega] at this;omega
def Av {b off:Nat}{j:ϣ}(h:WR π H Z wL w){v:Φ}(a:wL.cell? ⟨b,off,j⟩=some v):w.cell? ⟨π b,off,j⟩=some (Value.ren π v)/\b<wL.heap.size/\¬H b:=by
 unfold World.cell? at a⊢;dsimp only at a⊢;cases d:wL.heap[b]? with
 |none=>simp[d] at a
 |some o=>
  have k:b<wL.heap.size:=(Ψ.1 d).1;rw[d] at a
  by_cases i:H b
  .rw[h.hid b o d i] at a
   simp at a
  .refine⟨?_,k,i⟩
   have e:∀c t f g,o= .cells c t f->w.heap[π b]? =some (.cells (c.map (Value.ren π)) t g)->(match w.heap[π b]? with|some (.cells c ..)=>if j.isSome=true then none else c[off]? |_=>none)=some (Value.ren π v):=by
    intro c t f g e1 e2;subst e1;rw[e2];dsimp only at a⊢;split at a
    .cases a
    .rename_i m
     simp only[m,if_false,ν];simp[a]
   by_cases l:Z b
   .have⟨c,t,f,e1,e2⟩:=h.pZ b o d l
    exact e c t _ f e1 e2
   .have⟨h1,h2⟩:=h.ok b o d i l
    cases o with
    |cells c t f=>exact e c t f f rfl h2
    |_=>simp at a
def u9 (h:fj wL)(a:Addr)(m:Bool):(∃v l,wL.farLoad P a m= .ok (v,l))\/∃x,wL.farLoad P a m= .error x/\mn x:=by
 unfold World.farLoad World.noCell;cases b:wL.heap[a.block]? with
 |none=>exact .inr ⟨_,rfl,trivial⟩
 |some o=>
  have:=h _ _ b;cases o with
  |view at_ u=>
   dsimp only;cases wL.viewLoad P at_ u a m with
   |error y=>exact .inr ⟨_,rfl,trivial⟩
   |ok r=>exact .inl ⟨r.1,r.2,rfl⟩
  |_=>first|exact .inr ⟨_,rfl,trivial⟩|exact this.elim
def rO (h:fj wL)(a:Addr)(v:Φ)(m:Bool):(∃l b c e f,wL.farStore P a v m= .ok ({wL with heap:=wL.heap.setIfInBounds b (.cells c e f)},l))\/∃x,wL.farStore P a v m= .error x/\mn x:=by
 unfold World.farStore World.noCell;cases g:wL.heap[a.block]? with
 |none=>exact .inr ⟨_,rfl,trivial⟩
 |some o=>
  have:=h _ _ g;cases o with
  |view at_ u=>
   dsimp only;cases d:wL.viewStore P at_ u a v m with
   |error y=>exact .inr ⟨_,rfl,trivial⟩
   |ok r=>
    have⟨c,e,f,c1,_,_,i,_⟩:=ny (w1:=r.1) (l:=r.2) d;exact .inl ⟨r.2,at_.block,c1,e,f,by rw[<-i]⟩
  |_=>first|exact .inr ⟨_,rfl,trivial⟩|exact this.elim
def Gq {t:eL}{d:Nat}{a:Addr}{v:Φ}{m:Bool}{l:List Addr}{b:Nat}{c:ϐ}{e:η}{f:Nat×Nat}(h:wL.farStore P a v m= .ok ({wL with heap:=wL.heap.setIfInBounds b (.cells c e f)},l)):
  (Go.Proofs.YtchcmhodnkgojaaGreat.ax wL t d).farStore P a v m= .ok (Go.Proofs.YtchcmhodnkgojaaGreat.ax {wL with heap:=wL.heap.setIfInBounds b (.cells c e f)} t d,l):=by
 unfold World.farStore at h⊢;show(match wL.heap[a.block]? with|some (.view at_ u)=>(match(Go.Proofs.YtchcmhodnkgojaaGreat.ax wL t d).viewStore P at_ u a v m with|.ok r=>Except.ok r|.error why=>Except.error (Halt.unsupported (Unsupported.unsafePointer why)))|_=>Except.error (wL.noCell a "store: no such cell"))=_;cases i:wL.heap[a.block]? with
 |none=>rw[i] at h;cases h
 |some o=>
  rw[i] at h;cases o with
  |view at_ u=>
   dsimp only at h⊢;cases g:wL.viewStore P at_ u a v m with
   |error y=>rw[g] at h;cases h
   |ok r=>
    rw[g] at h;simp only[Except.ok.injEq] at h;subst h;have⟨c0,w,f0,c1,x,A,p,_,_,s⟩:=ny g;have j:=s id (Go.Proofs.YtchcmhodnkgojaaGreat.ax wL t d) f0 (.inl rfl) (by
     have:c0.map (Value.ren id)=c0:=cP λv _=>qx v
     rw[this];exact x)
    have e1:bn id at_=at_:=rfl;have e2:bn id a=a:=rfl;have z:Value.ren id v=v:=qx v;have q:c1.map (Value.ren id)=c1:=cP λv _=>qx v
    have n:l.map (bn id)=l:=by rw[show bn id=id from rfl,List.map_id]
    rw[e1,e2,z,q,n] at j;rw[j];have k:=congrArg World.heap p;simp only at k;show Except.ok ({(Go.Proofs.YtchcmhodnkgojaaGreat.ax wL t d) with heap:=wL.heap.setIfInBounds at_.block (.cells c1 w f0)},l)=_;rw[<-k];rfl
  |_=>cases h
def fj.set {w:Ω}(h:fj w)(a:Addr)(v:Φ):fj (w.setCell a v):=by
 intro b o c;simp only[World.setCell,al6] at c;split at c
 .obtain⟨e,d,rfl⟩:=χ.1 c
  have:=h _ _ d;cases e<;>first|trivial|exact this.elim
 .exact h _ _ c
def fj.push {w:Ω}(h:fj w){o:Obj}(c:pO o):fj {w with heap:=w.heap.push o}:=by
 intro b d a;rw[Array.getElem?_push] at a;split at a
 .cases a;exact c
 .exact h _ _ a
def fj.setObj {w:Ω}(h:fj w){o:Obj}(c:pO o)(r:Nat):fj {w with heap:=w.heap.setIfInBounds r o}:=by
 intro b d a;simp only[Array.getElem?_setIfInBounds] at a;split at a
 .split at a
  .cases a;exact c
  .cases a
 .exact h _ _ a
def fj.freeze {w:Ω}(h:fj w)(a:Addr)(n:Nat):fj (w.freeze a n):=by
 unfold World.freeze;split
 .exact h
 .intro b o c
  simp only[al6] at c;split at c
  .obtain⟨e,d,rfl⟩:=χ.1 c
   have:=h _ _ d;cases e<;>first|trivial|exact this.elim
  .exact h _ _ c
def cQ (w:Ω)(a:Addr)(v:Φ):(w.setCell a v).heap.size=w.heap.size:=by simp[World.setCell]
def eN (w:Ω)(a:Addr)(n:Nat):(w.freeze a n).heap.size=w.heap.size:=by unfold World.freeze;split<;>simp
def br.nY {α:Type}{R:α->α->Prop}{s s':Sem α}(h:br P π N V R s s'):∀{wL:Ω}{x:α}{j:Ω},fj wL->(∀b,N b->b<wL.heap.size)->s.run P wL= .ok x j->wL.heap.size<=j.heap.size/\fj j:=by
 induction h with
 |pure _=>intro wL x j d g hr;simp only[Sem.run,Result.ok.injEq] at hr;obtain⟨_,rfl⟩:=hr;exact⟨ι _,d⟩
 |@load V α R m a k k' _ i=>
  intro wL x j d g hr;simp only[Sem.run] at hr;split at hr
  .exact i _ d g hr
  .rcases u9 (P:=P) d a (m== .atomic) with⟨v,l,n⟩|⟨y,n,_⟩
   .rw[n] at hr;exact i _ d g hr
   .rw[n] at hr;cases hr
 |@store V α R m a v k k' _ i=>
  intro wL x j d g hr;cases v<;>simp only[Sem.run] at hr<;>first
   |(cases hr;done)
   |(
     split at hr
     .split at hr
      .cases hr
      .have:=i (d.set _ _) (by rw[cQ];exact g) hr
       rw[cQ] at this;exact this
     .rcases rO (P:=P) d a _ (m== .atomic) with⟨l,b,c,e,f,n⟩|⟨y,n,_⟩
      .rw[n] at hr
       have:=i (d.setObj (o:= .cells c e f) trivial b) (by simpa using g) hr;simpa using this
      .rw[n] at hr;cases hr)
 |new p _ _ i=>
  intro wL x j d g hr;simp only[Sem.run] at hr;have:=i wL.heap.size (λq=>by have:=g _ q;omega) (d.push p) (λb q=>by have:=g _ q;simp;omega) hr;simp at this;exact⟨ϖ,this.2⟩
 |@getObj V α R r k k' _ i=>
  intro wL x j d g hr;simp only[Sem.run] at hr;split at hr
  .cases hr
  .rename_i o _ p
   exact i _ (d _ _ p) d g hr
  .cases hr
 |setObj p _ _ i=>
  intro wL x j d g hr;simp only[Sem.run] at hr;split at hr
  .cases hr
  .have:=i (d.setObj p _) (by simpa using g) hr
   simpa using this
  .cases hr
 |shape _ _ i=>intro wL x j d g hr;exact i _ d g hr
 |freeze _ _ _ i=>
  intro wL x j d g hr;have:=i (d.freeze _ _) (by rw[eN];exact g) hr;rw[eN] at this;exact this
 |frozen _ _ _ i=>intro wL x j d g hr;exact i _ d g hr
 |choose _ i=>
  intro wL x j d g hr;simp only[Sem.run] at hr;split at hr
  .exact i _ d g hr
  .exact i _ (wL:={wL with drawn:=wL.drawn+1}) d g hr
 |program _ i=>intro wL x j d g hr;exact i d g hr
 |mark _ _ i=>intro wL x j d g hr;exact i d g hr
 |dead h=>
  intro wL x j d g hr;have⟨y,w',n,_⟩:=h _ d;rw[n] at hr;cases hr
def br.WB {α:Type}{R:α->α->Prop}{s s':Sem α}(h:br P π N V R s s'):∀{wL:Ω}{x:Halt}{j:Ω},fj wL->(∀b,N b->b<wL.heap.size)->s.run P wL= .halt x j->mn x:=by
 induction h with
 |pure _=>intro wL x j d g hr;simp[Sem.run] at hr
 |@load V α R m a k k' _ i=>
  intro wL x j d g hr;simp only[Sem.run] at hr;split at hr
  .exact i _ d g hr
  .rcases u9 (P:=P) d a (m== .atomic) with⟨v,l,n⟩|⟨y,n,q⟩
   .rw[n] at hr;exact i _ d g hr
   .rw[n] at hr;cases hr;exact q
 |@store V α R m a v k k' _ i=>
  intro wL x j d g hr;cases v<;>simp only[Sem.run] at hr<;>first
   |(cases hr;trivial)
   |(
     split at hr
     .split at hr
      .cases hr;trivial
      .exact i (d.set _ _) (by rw[cQ];exact g) hr
     .rcases rO (P:=P) d a _ (m== .atomic) with⟨l,b,c,e,f,n⟩|⟨y,n,q⟩
      .rw[n] at hr
       exact i (d.setObj (o:= .cells c e f) trivial b) (by simpa using g) hr
      .rw[n] at hr;cases hr;exact q)
 |new p _ _ i=>
  intro wL x j d g hr;simp only[Sem.run] at hr;exact i wL.heap.size (λt=>by have:=g _ t;omega) (d.push p) (λb t=>by have:=g _ t;simp;omega) hr
 |@getObj V α R r k k' _ i=>
  intro wL x j d g hr;simp only[Sem.run] at hr;split at hr
  .cases hr;trivial
  .rename_i o _ p
   exact i _ (d _ _ p) d g hr
  .cases hr;trivial
 |setObj p _ _ i=>
  intro wL x j d g hr;simp only[Sem.run] at hr;split at hr
  .cases hr;trivial
  .exact i (d.setObj p _) (by simpa using g) hr
  .cases hr;trivial
 |shape _ _ i=>intro wL x j d g hr;exact i _ d g hr
 |freeze _ _ _ i=>
  intro wL x j d g hr;exact i (d.freeze _ _) (by rw[eN];exact g) hr
 |frozen _ _ _ i=>intro wL x j d g hr;exact i _ d g hr
 |choose _ i=>
  intro wL x j d g hr;simp only[Sem.run] at hr;split at hr
  .exact i _ d g hr
  .exact i _ (wL:={wL with drawn:=wL.drawn+1}) d g hr
 |program _ i=>intro wL x j d g hr;exact i d g hr
 |mark _ _ i=>intro wL x j d g hr;exact i d g hr
 |dead h=>
  intro wL x j d g hr;have⟨y,w',n,q⟩:=h _ d;rw[n] at hr;cases hr;exact q
def fj.ax {w:Ω}(h:fj w)(t:eL)(d:Nat):fj (ax w t d):=h
def br.Id {α:Type}{R:α->α->Prop}{s s':Sem α}(h:br P π N V R s s'):∀{w:Ω}{t:eL}{d:Nat}{es:Ϝ}{x:α}{w':Ω}{f:Ϝ},fj w->(∀b,N b->b<w.heap.size)->
  s.runT P (Go.Proofs.YtchcmhodnkgojaaGreat.ax w t d) es=(.ok x w',f)->∃c,w'=Go.Proofs.YtchcmhodnkgojaaGreat.ax w' t (d+c)/\∀t2 d2,(∀i,i<c->t2 (d2+i)=t (d+i))->s.runT P (Go.Proofs.YtchcmhodnkgojaaGreat.ax w t2 d2) es=(.ok x (Go.Proofs.YtchcmhodnkgojaaGreat.ax w' t2 (d2+c)),f):=by
 induction h with
 |pure _=>
  intro w t d es x w' f g j hr;simp only[Sem.runT,ai1,Result.ok.injEq] at hr;obtain⟨⟨rfl,rfl⟩,rfl⟩:=hr;exact⟨0,rfl,λt2 d2 _=>rfl⟩
 |@load V α R m a k k' _ p=>
  intro w t d es x w' f g j hr;simp only[Sem.runT] at hr;have e:∀t d,(Go.Proofs.YtchcmhodnkgojaaGreat.ax w t d).cell? a=w.cell? a:=λ_ _=>rfl
  rw[e] at hr;cases u:w.cell? a with
  |some v=>
   rw[u] at hr;have⟨c,h1,h2⟩:=p v g j hr;refine⟨c,h1,λt2 d2 z=>?_⟩;simp only[Sem.runT,e,u];exact h2 t2 d2 z
  |none=>
   rw[u] at hr;have H:∀t d,(Go.Proofs.YtchcmhodnkgojaaGreat.ax w t d).farLoad P a (m== .atomic)=w.farLoad P a (m== .atomic):=λ_ _=>rfl
   rw[H] at hr;rcases u9 (P:=P) g a (m== .atomic) with⟨v,l,A⟩|⟨y,A,G⟩
   .rw[A] at hr
    have⟨c,h1,h2⟩:=p v g j hr;refine⟨c,h1,λt2 d2 z=>?_⟩;simp only[Sem.runT,e,u,H,A];exact h2 t2 d2 z
   .rw[A] at hr;cases hr
 |@store V α R m a v k k' _ p=>
  intro w t d es x w' f g j hr;have e:∀t d,(Go.Proofs.YtchcmhodnkgojaaGreat.ax w t d).cell? a=w.cell? a:=λ_ _=>rfl
  have e2:∀t d,(Go.Proofs.YtchcmhodnkgojaaGreat.ax w t d).frozen? a=w.frozen? a:=λ_ _=>rfl
  cases v<;>simp only[Sem.runT] at hr<;>first
   |(cases hr;done)
   |(
     rw[e] at hr;cases u:w.cell? a with
     |some v=>
      rw[u] at hr;dsimp only at hr;rw[e2] at hr;cases D:w.frozen? a with
      |true=>rw[D] at hr;simp at hr
      |false=>
       rw[D] at hr;simp only[ν,if_false] at hr;have⟨c,h1,h2⟩:=p (w:=w.setCell a _) (g.set _ _) (by rw[cQ];exact j) hr;refine⟨c,h1,λt2 d2 z=>?_⟩;simp only[Sem.runT,e,u,e2,D,ν,if_false];exact h2 t2 d2 z
     |none=>
      rw[u] at hr;rcases rO (P:=P) (g.ax t d) a _ (m== .atomic) with⟨l,b,c0,e0,f0,A⟩|⟨y,A,G⟩
      .have E:=λt2 d2=>Gq (t:=t2) (d:=d2) A
       rw[A] at hr;have⟨c,h1,h2⟩:=p (w:={w with heap:=w.heap.setIfInBounds b (.cells c0 e0 f0)}) (g.setObj (o:= .cells c0 e0 f0) trivial b) (by simpa using j) hr;refine⟨c,h1,λt2 d2 z=>?_⟩;have B:=E t2 d2;rw[A6] at B;simp only[Sem.runT,e,u,B];exact h2 t2 d2 z
      .rw[A] at hr;cases hr)
 |@new V α R o k k' ho _ _ p=>
  intro w t d es x w' f g j hr;exact p w.heap.size (λC=>by have:=j _ C;omega) (w:={w with heap:=w.heap.push o}) (g.push ho) (λb C=>by have:=j _ C;simp;omega) hr
 |@getObj V α R r k k' _ p=>
  intro w t d es x w' f g j hr;simp only[Sem.runT] at hr;have e:∀t d,(Go.Proofs.YtchcmhodnkgojaaGreat.ax w t d).heap=w.heap:=λ_ _=>rfl
  rw[e] at hr;cases u:w.heap[r]? with
  |none=>rw[u] at hr;simp at hr
  |some o=>
   rw[u] at hr;cases o<;>first
    |(simp at hr;done)
    |(
      dsimp only at hr;have⟨c,h1,h2⟩:=p _ (g _ _ u) g j hr;refine⟨c,h1,λt2 d2 z=>?_⟩;simp only[Sem.runT,e,u];exact h2 t2 d2 z)
 |@setObj V α R r o k k' ho _ _ p=>
  intro w t d es x w' f g j hr;simp only[Sem.runT] at hr;have e:∀t d,(Go.Proofs.YtchcmhodnkgojaaGreat.ax w t d).heap=w.heap:=λ_ _=>rfl
  rw[e] at hr;cases u:w.heap[r]? with
  |none=>rw[u] at hr;simp at hr
  |some o2=>
   rw[u] at hr;cases o2<;>first
    |(simp at hr;done)
    |(
      dsimp only at hr;have⟨c,h1,h2⟩:=p (w:={w with heap:=w.heap.setIfInBounds r o}) (g.setObj ho _) (by simpa using j) hr;refine⟨c,h1,λt2 d2 z=>?_⟩;simp only[Sem.runT,e,u];exact h2 t2 d2 z)
 |shape _ _ p=>intro w t d es x w' f g j hr;exact p _ g j hr
 |@freeze V α R a n k k' _ _ _ p=>
  intro w t d es x w' f g j hr;have e:∀t d,(Go.Proofs.YtchcmhodnkgojaaGreat.ax w t d).freeze a n=Go.Proofs.YtchcmhodnkgojaaGreat.ax (w.freeze a n) t d:=by
   intro t d;unfold World.freeze;split<;>rfl
  simp only[Sem.runT,e] at hr⊢;exact p (w:=w.freeze a n) (g.freeze _ _) (by rw[eN];exact j) hr
 |frozen _ _ _ p=>intro w t d es x w' f g j hr;exact p _ g j hr
 |@choose V α R q k k' _ p=>
  intro w t d es x w' f g j hr;simp only[Sem.runT] at hr⊢;cases F:q.forced with
  |true=>
   simp only[F,if_true] at hr⊢;exact p _ g j hr
  |false=>
   simp only[F,ν,if_false] at hr⊢;have⟨c,h1,h2⟩:=p (q.cut (t d q)) (w:=w) (t:=t) (d:=d+1) g j hr;refine⟨c+1,by rw[show d+(c+1)=d+1+c by omega];exact h1,λt2 d2 z=>?_⟩;have h0:=z 0 ϖ;simp only[ϕ1] at h0;have:=h2 t2 (d2+1) λi I=>by
    have:=z (i+1) ϖ;rw[show d2+1+i=d2+(i+1) by omega,show d+1+i=d+(i+1) by omega];exact this
   show(k (q.cut (t2 d2 q))).runT P (Go.Proofs.YtchcmhodnkgojaaGreat.ax w t2 (d2+1)) es=_;rw[h0,show d2+(c+1)=d2+1+c by omega];exact this
 |program _ p=>intro w t d es x w' f g j hr;exact p g j hr
 |mark _ _ p=>intro w t d es x w' f g j hr;exact p g j hr
 |dead h=>
  intro w t d es x w' f g j hr;have⟨y,w1,A,G⟩:=h _ (g.ax t d);have:=congrArg Prod.fst hr;rw[Sem.runT_fst,A] at this;cases this
def ic (w:Ω)(a:Addr)(v:Φ)(k:Nat)(b:k≠a.block):(w.setCell a v).heap[k]? =w.heap[k]? :=by
 simp only[World.setCell,al6];rw[ζ (λe=>b e.symm)]
def jU (w:Ω)(b off:Nat)(a:ϣ)(v:Φ){c:ϐ}{t:η}{f:Nat×Nat}(h:w.heap[b]? =some (.cells c t f)):
  (w.setCell ⟨b,off,a⟩ v).heap[b]? =some (.cells (if a.isSome then c else c.setIfInBounds off v) t f):=by
 simp only[World.setCell,al6,if_true,h,ξ]
def WR.set (h:WR π H Z wL w){a:Addr}{v u:Φ}(j:wL.cell? a=some u)(q:wL.frozen? a=false):
  ¬Z a.block/\WR π H Z (wL.setCell a v) (w.setCell (bn π a) (Value.ren π v))/\w.frozen? (bn π a)=false:=by
 have⟨b,off,n⟩:=a;have⟨_,z,r⟩:=Av h j;cases g:wL.heap[b]? with
 |none=>simp[World.cell?,g] at j
 |some o=>
  have l:¬Z b:=by
   intro A;obtain⟨c,t,f,rfl,_⟩:=h.pZ b o g A;simp only[World.cell?,g] at j;simp only[World.frozen?,g] at q;split at j
   .cases j
   .have:=(Ψ.1 j).1
    simp at q;omega
  have⟨s,y⟩:=h.ok b o g r l;cases o with
  |cells c t f=>
   have m:w.heap[π b]? =some (.cells (c.map (Value.ren π)) t f):=y;refine⟨l,?_,?_⟩
   .refine {inj:=h.inj,tape:=h.tape,drawn:=h.drawn,lt:=λk d h0=>by rw[cQ] at d⊢;exact h.lt k d h0,ok:=λk o d h1 h2=>?_,hid:=λk o d h1=>?_,pZ:=λk o d h1=>?_,low:=(λk d=>by rw[cQ];exact h.low k d),AM:=λk o d i p=>?_}
    .by_cases e:k=b
     .subst e
      rw[jU wL k off n v g] at d;cases d;refine⟨trivial,?_⟩;show(w.setCell ⟨π k,off,n⟩ (Value.ren π v)).heap[π k]? =_;rw[jU w (π k) off n _ m];cases n<;>simp[ep,ϔ2]
     .rw[ic _ _ _ _ e] at d
      rw[ic _ _ _ _ (show π k≠π b fromλx=>e (h.inj _ _ x))];exact h.ok k o d h1 h2
    .have e:k≠b:=λx=>r (x▸h1)
     rw[ic _ _ _ _ e] at d;exact h.hid k o d h1
    .have e:k≠b:=λx=>l (x▸h1)
     rw[ic _ _ _ _ e] at d;rw[ic _ _ _ _ (show π k≠π b fromλx=>e (h.inj _ _ x))];exact h.pZ k o d h1
    .rw[cQ]
     by_cases e:k=b
     .subst e
      rw[jU wL k off n v g] at d;cases d;exact p.elim
     .rw[ic _ _ _ _ e] at d
      exact h.AM k o d i p
   .simp only[World.frozen?,g] at q
    show(match w.heap[π b]? with|some (.cells _ _ (lo,p))=>decide (lo<=off)&&decide (off<p)|_=>false)=false;rw[m];exact q
  |_=>simp[World.cell?,g] at j
def WR.push (h:WR π H Z wL w){o:Obj}(j:pO o)(d:∀i,inner o i->i<wL.heap.size/\¬H i)(f:π wL.heap.size=w.heap.size):WR π H Z {wL with heap:=wL.heap.push o} {w with heap:=w.heap.push (ep π o)}:=by
 have b:∀k,(H k\/Z k)->k≠wL.heap.size:=λk a=>by have:=h.low k a;omega
 refine {inj:=h.inj,tape:=h.tape,drawn:=h.drawn,lt:=λk a h0=>?_,ok:=λk c a h1 h2=>?_,hid:=λk c a h1=>?_,pZ:=λk c a h1=>?_,low:=(λk a=>by have:=h.low k a;simp;omega),AM:=λk c a i g=>?_}
 .simp at a⊢
  rcases ϐ5 k wL.heap.size with x|x
  .have:=h.lt k x h0;omega
  .have:k=wL.heap.size:=ϖ
   subst this;omega
 .simp only[Array.getElem?_push] at a⊢
  split at a
  .rename_i e
   subst e;cases a;rw[φ f];exact⟨j,rfl⟩
  .rename_i e
   rw[ζ (λx=>e (h.inj _ _ (x.trans f.symm)))];exact h.ok k c a h1 h2
 .simp only[Array.getElem?_push] at a
  rw[ζ (b k (.inl h1))] at a;exact h.hid k c a h1
 .simp only[Array.getElem?_push] at a⊢
  rw[ζ (b k (.inr h1))] at a;rw[ζ (λx=>b k (.inr h1) (h.inj _ _ (x.trans f.symm)))];exact h.pZ k c a h1
 .simp only[Array.getElem?_push] at a
  have:i<wL.heap.size/\¬H i:=by
   split at a
   .cases a;exact d i g
   .exact h.AM k c a i g
  exact⟨by simp;omega,this.2⟩
def WR.setObj (h:WR π H Z wL w){o d:Obj}{r:Nat}(hr:wL.heap[r]? =some d)(g:∀c t f,d≠.cells c t f)(p:pO o)(l:∀i,inner o i->i<wL.heap.size/\¬H i):
  ¬H r/\¬Z r/\w.heap[π r]? =some (ep π d)/\WR π H Z {wL with heap:=wL.heap.setIfInBounds r o} {w with heap:=w.heap.setIfInBounds (π r) (ep π o)}:=by
 have j:¬H r:=λx=>g _ _ _ (h.hid r d hr x)
 have m:¬Z r:=λx=>by obtain⟨c,t,f,rfl,_⟩:=h.pZ r d hr x;exact g _ _ _ rfl
 have b:r<wL.heap.size:=(Ψ.1 hr).1;refine⟨j,m,(h.ok r d hr j m).2,{inj:=h.inj,tape:=h.tape,drawn:=h.drawn,lt:=λk a h0=>by simp at a⊢;exact h.lt k a h0,ok:=λk o2 a h1 h2=>?_,hid:=λk o2 a h1=>?_,pZ:=λk o2 a h1=>?_,low:=(λk a=>by simpa using h.low k a),AM:=λk o2 a i n=>?_}⟩
 .dsimp only at a⊢
  by_cases e:r=k
  .subst e
   rw[ae3 b] at a;cases a;rw[ae3 (h.lt _ b j)];exact⟨p,rfl⟩
  .rw[ab1 e] at a
   rw[ab1 (λx=>e (h.inj _ _ x))];exact h.ok k o2 a h1 h2
 .dsimp only at a
  have e:r≠k:=λx=>j (x.symm▸h1)
  rw[ab1 e] at a;exact h.hid k o2 a h1
 .dsimp only at a⊢
  have e:r≠k:=λx=>m (x.symm▸h1)
  rw[ab1 e] at a;rw[ab1 (λx=>e (h.inj _ _ x))];exact h.pZ k o2 a h1
 .dsimp only at a⊢
  rw[ϑ5]
  by_cases e:r=k
  .subst e
   rw[ae3 b] at a;cases a;exact l i n
  .rw[ab1 e] at a
   exact h.AM k o2 a i n
def WR.freeze (h:WR π H Z wL w){a:Addr}{n:Nat}(h1:¬H a.block)(h2:¬Z a.block):WR π H Z (wL.freeze a n) (w.freeze (bn π a) n):=by
 unfold World.freeze
 by_cases l:n=0
 .simp only[l,if_true];exact h
 .simp only[l,if_false]
  refine {inj:=h.inj,tape:=h.tape,drawn:=h.drawn,lt:=λk b h0=>by simp at b⊢;exact h.lt k b h0,ok:=λk o b c j=>?_,hid:=λk o b c=>?_,pZ:=λk o b c=>?_,low:=(λk b=>by simpa using h.low k b),AM:=λk o b i g=>?_}
  .simp only[al6] at b⊢
   by_cases e:a.block=k
   .rw[φ e] at b
    obtain⟨f,d,rfl⟩:=χ.1 b;have⟨m,k2⟩:=h.ok k f d c j;rw[φ (show(bn π a).block=π k by rw[<-e];rfl),k2];refine⟨?_,?_⟩
    .cases f<;>first|trivial|exact m.elim
    .cases f<;>rfl
   .rw[ζ e] at b
    rw[ζ (show(bn π a).block≠π k fromλx=>e (h.inj _ _ x))];exact h.ok k o b c j
  .simp only[al6] at b
   rw[ζ (λx=>h1 (by rw[x];exact c))] at b;exact h.hid k o b c
  .simp only[al6] at b⊢
   rw[ζ (λx=>h2 (by rw[x];exact c))] at b;rw[ζ (show(bn π a).block≠π k fromλx=>h2 (by rw[h.inj _ _ x];exact c))];exact h.pZ k o b c
  .simp only[Array.size_modify]
   simp only[al6] at b
   by_cases e:a.block=k
   .rw[φ e] at b
    obtain⟨f,d,rfl⟩:=χ.1 b;exact h.AM k f d i (by cases f<;>first|exact g|exact g.elim)
   .rw[ζ e] at b
    exact h.AM k o b i g
def Ih {α:Type}{m:Mode}{a:Addr}{v:Φ}{k:Sem α}{w:Ω}(hv:mN v=true):(Sem.store m a v k).run P w=
  (match w.cell? a with
  |some _=>if w.frozen? a then .halt (.unsupported (.unsafePointer "a write to bytes that a string shares")) w else k.run P (w.setCell a v)
  |none=>match w.farStore P a v (m== .atomic) with
   |.ok (w,_)=>k.run P w
   |.error h=> .halt h w):=by
 cases v<;>first|rfl|cases hv
def wZ {α:Type}{m:Mode}{a:Addr}{v:Φ}{k:Sem α}{w:Ω}{es:Ϝ}(hv:mN v=true):(Sem.store m a v k).runT P w es=
  (match w.cell? a with
  |some _=>if w.frozen? a then(.halt (.unsupported (.unsafePointer "a write to bytes that a string shares")) w,es) else k.runT P (w.setCell a v) (es.push ⟨.cell a,true,m== .atomic⟩)
  |none=>match w.farStore P a v (m== .atomic) with
   |.ok (w,touched)=>k.runT P w (es++touched.toArray.map (⟨.cell ·,true,m== .atomic⟩))
   |.error h=>(.halt h w,es)):=by
 cases v<;>first|rfl|cases hv
def Fj (π:Ϛ)(v:Φ):mN v=mN (Value.ren π v):=by cases v<;>simp[mN]
def Et (h:WR π H Z wL w){b:Nat}{at_:Addr}{u:η}(a:wL.heap[b]? =some (.view at_ u)):¬H b/\¬Z b/\b<wL.heap.size/\w.heap[π b]? =some (.view (bn π at_) u):=by
 have g:¬H b:=λx=>by have:=h.hid b _ a x;cases this
 have d:¬Z b:=λx=>by have⟨c,t,f,e,_⟩:=h.pZ b _ a x;cases e
 exact⟨g,d,(Ψ.1 a).1,(h.ok b _ a g d).2⟩
def wG {b:Nat}{at_:Addr}{u:η}(a:w.heap[b]? =some (.view at_ u))(off:Nat)(c:ϣ):w.cell? ⟨b,off,c⟩=none:=by
 simp[World.cell?,a]
def U1 (C:P.cellsOf 1000000=0)(h:WR π H Z wL w){a:Addr}{m:Bool}{v:Φ}{l:List Addr}(g:wL.farLoad P a m= .ok (v,l)):
  w.cell? (bn π a)=none/\w.farLoad P (bn π a) m= .ok (Value.ren π v,l.map (bn π))/\True/\(a.block<wL.heap.size/\¬H a.block)/\∀b∈l,b.block<wL.heap.size/\¬H b.block:=by
 unfold World.farLoad at g⊢;cases n:wL.heap[a.block]? with
 |none=>rw[n] at g;cases g
 |some o=>
  rw[n] at g;cases o with
  |view at_ u=>
   have⟨h1,h2,E,t⟩:=Et h n;dsimp only at g;cases j:wL.viewLoad P at_ u a m with
   |error y=>rw[j] at g;cases g
   |ok r=>
    rw[j] at g;simp only[Except.ok.injEq] at g;subst g;have d:∀c e f,wL.heap[at_.block]? =some (.cells c e f)->P.cellsOf e≠0->¬H at_.block/\∃f',w.heap[π at_.block]? =some (.cells (c.map (Value.ren π)) e f'):=by
     intro c e f i k;have s:¬H at_.block:=λx=>by
      have:=h.hid _ _ i x;cases this;exact k C
     refine⟨s,?_⟩
     by_cases z:Z at_.block
     .have⟨F,t',f',e1,e2⟩:=h.pZ _ _ i z
      cases e1;exact⟨f',e2⟩
     .exact⟨f,(h.ok _ _ i s z).2⟩
    have⟨B,D,c,e,f,q,A⟩:=CV j λc e f i k=>(d c e f i k).2
    refine⟨wG t ..,?_,trivial,⟨E,h1⟩,λb p=>?_⟩
    .rw[show(bn π a).block=π a.block from rfl,t]
     dsimp only;rw[B]
    .rw[D b p]
     exact⟨(Ψ.1 q).1,(d _ _ _ q A).1⟩
  |_=>cases g
def Qr (O:P.cellsOf 1000000=0)(h:WR π H Z wL w){a:Addr}{v:Φ}{m:Bool}{l:List Addr}{Sm:Ω}(n:wL.farStore P a v m= .ok (Sm,l)):
  ∃w1,w.cell? (bn π a)=none/\w.farStore P (bn π a) (Value.ren π v) m= .ok (w1,l.map (bn π))/\(a.block<wL.heap.size/\¬H a.block)/\
   WR π H Z Sm w1/\(∀x∈l,x.block<wL.heap.size/\¬H x.block/\¬Z x.block)/\Eg π H Z wL Sm w w1/\Sm.heap.size=wL.heap.size/\w1.heap.size=w.heap.size:=by
 unfold World.farStore at n⊢;cases I:wL.heap[a.block]? with
 |none=>rw[I] at n;cases n
 |some o=>
  rw[I] at n;cases o with
  |view at_ u=>
   have⟨h1,h2,J,D⟩:=Et h I;dsimp only at n;cases E:wL.viewStore P at_ u a v m with
   |error y=>rw[E] at n;cases n
   |ok r=>
    rw[E] at n;simp only[Except.ok.injEq] at n;subst n;obtain⟨c,e,f,c1,B,Q,rfl,L,M,K⟩:=ny E;have d:at_.block<wL.heap.size:=(Ψ.1 B).1;have A:¬H at_.block:=λx=>by
     have:=h.hid _ _ B x;cases this;exact Q O
    by_cases C:Z at_.block
    .have⟨S,t',f',e1,e2⟩:=h.pZ _ _ B C
     cases e1;obtain⟨rfl,rfl⟩:=M rfl;have F:=K π w f' (.inr rfl) e2;have s:wL.heap.setIfInBounds at_.block (.cells c1 e (0,c1.size))=wL.heap:=by
      apply ϑ9
      intro i
      by_cases q:at_.block=i
      .subst q;rw[ae3 d,B]
      .rw[ab1 q]
     have p:π at_.block<w.heap.size:=h.lt _ d A;have z:w.heap.setIfInBounds (π at_.block) (.cells (c1.map (Value.ren π)) e f')=w.heap:=by
      apply ϑ9
      intro i
      by_cases q:π at_.block=i
      .subst q;rw[ae3 p,e2]
      .rw[ab1 q]
     refine⟨w,wG D ..,?_,⟨J,h1⟩,?_,λx G=>(by simp at G),?_,ϛ,rfl⟩
     .rw[show(bn π a).block=π a.block from rfl,D]
      dsimp only;rw[F,z]
     .rw[s];exact h
     .rw[s];exact Eg.refl ..
    .have N:=(h.ok _ _ B A C).2
     have F:=K π w f (.inl rfl) N;have p:π at_.block<w.heap.size:=h.lt _ d A;refine⟨{w with heap:=w.heap.setIfInBounds (π at_.block) (.cells (c1.map (Value.ren π)) e f)},wG D ..,?_,⟨J,h1⟩,?_,λx G=>?_,⟨ϛ,ϛ,λj T R=>ab1 (R _ d A C),rfl,rfl,rfl,ι _⟩,ϛ,ϛ⟩
     .rw[show(bn π a).block=π a.block from rfl,D]
      dsimp only;rw[F]
     .refine {inj:=h.inj,tape:=h.tape,drawn:=h.drawn,lt:=λk b h0=>by simp at b⊢;exact h.lt k b h0,ok:=λk o2 b t k2=>?_,hid:=λk o2 b t=>?_,pZ:=λk o2 b t=>?_,low:=(λk b=>by simpa using h.low k b),AM:=λk o2 b i q=>?_}
      .dsimp only at b⊢
       by_cases g:at_.block=k
       .subst g
        rw[ae3 d] at b;cases b;rw[ae3 p];exact⟨trivial,rfl⟩
       .rw[ab1 g] at b
        rw[ab1 (λx=>g (h.inj _ _ x))];exact h.ok k o2 b t k2
      .dsimp only at b
       have g:at_.block≠k:=λx=>A (x.symm▸t)
       rw[ab1 g] at b;exact h.hid k o2 b t
      .dsimp only at b⊢
       have g:at_.block≠k:=λx=>C (x.symm▸t)
       rw[ab1 g] at b;rw[ab1 (λx=>g (h.inj _ _ x))];exact h.pZ k o2 b t
      .dsimp only at b⊢
       rw[ϑ5]
       by_cases g:at_.block=k
       .subst g
        rw[ae3 d] at b;cases b;exact q.elim
       .rw[ab1 g] at b
        exact h.AM k o2 b i q
     .rw[L x G]
      exact⟨d,A,C⟩
  |_=>cases n
def mC {es:Ϝ}{b e:Event}{n a:Nat}(h0:ri π H Z n b)(c:n<=a)(h:e∈es.push b\/ri π H Z a e):e∈es\/ri π H Z a e:=by
 rcases h with h|h
 .rcases Array.mem_push.1 h with h|rfl
  .exact .inl h
  .exact .inr (h0.mono c)
 .exact .inr h
def br.run {α:Type}{R:α->α->Prop}{s s':Sem α}(WC:P.cellsOf 1000000=0)(h:br P π N V R s s')(hN:∀b,N b↔H b\/Z b):∀{wL w:Ω}{es:Ϝ}{x:α}{O:Ω},WR π H Z wL w->(∀i,V i->i<wL.heap.size/\¬H i)->
  s.run P wL= .ok x O->(∀i,wL.heap.size+i<O.heap.size->π (wL.heap.size+i)=w.heap.size+i)->
  ∃x' w' p,s'.runT P w es=(.ok x' w',p)/\R x x'/\WR π H Z O w'/\Eg π H Z wL O w w'/\∀e∈p,e∈es\/ri π H Z O.heap.size e:=by
 have uM:∀{wL w:Ω},WR π H Z wL w->∀b,N b->b<wL.heap.size:=λd b hb=>d.low b ((hN b).1 hb)
 induction h with
 |pure hR=>
  intro wL w es x O d A hr g;simp only[Sem.run,Result.ok.injEq] at hr;obtain⟨rfl,rfl⟩:=hr;exact⟨_,w,es,rfl,hR,d,Eg.refl _ _ _ _ _,λe U=> .inl U⟩
 |@load V α R m a k k' hk I=>
  intro wL w es x O d A hr g;simp only[Sem.run] at hr;cases C:wL.cell? a with
  |none=>
   rw[C] at hr;rcases u9 (P:=P) d.mq a (m== .atomic) with⟨v,l,Y⟩|⟨y,Y,_⟩
   .rw[Y] at hr
    have B:=((hk v).nY d.mq (uM d) hr).1;have⟨f1,f2,f3,f4,f5⟩:=U1 WC d Y;have⟨x',w',p,J,L,M,D,K⟩:=I v d (λi E=>E.elim (A i) λe=>e▸f4) hr g (es:=es++(l.map (bn π)).toArray.map (⟨.cell ·,false,m== .atomic⟩));refine⟨x',w',p,?_,L,M,D,λe U=>?_⟩
    .simp only[Sem.runT]
     rw[f1,f2];exact J
    .rcases K e U with h|h
     .rcases ai4.1 h with h|h
      .exact .inl h
      .right
       simp at h;obtain⟨b,hb,rfl⟩:=h;have⟨b1,b2⟩:=f5 b hb;exact .inl ⟨b.block,ϖ,b2,λx=>(by simp at x),.inl ⟨_,rfl,rfl⟩⟩
     .exact .inr h
   .rw[Y] at hr;cases hr
  |some v=>
   rw[C] at hr;have B:=((hk v).nY d.mq (uM d) hr).1;have⟨h1,h2,h3⟩:=Av d (show wL.cell? ⟨a.block,a.off,a.spot⟩=some v from C);have⟨x',w',p,J,L,M,D,K⟩:=I v d (λi E=>E.elim (A i) λe=>e▸⟨h2,h3⟩) hr g (es:=es.push ⟨.cell (bn π a),false,m== .atomic⟩)
   refine⟨x',w',p,?_,L,M,D,λe U=>mC (.inl ⟨a.block,h2,h3,λx=>(by simp at x),.inl ⟨_,rfl,rfl⟩⟩) B (K e U)⟩;simp only[Sem.runT];rw[show w.cell? (bn π a)=some (Value.ren π v) from h1];exact J
 |@store V α R m a v k k' hk I=>
  intro wL w es x O d A hr g;cases hv:mN v with
  |false=>cases v<;>simp[mN,Sem.run] at hv hr
  |true=>
   rw[Ih hv] at hr;rw[wZ (Fj π v▸hv)];cases C:wL.cell? a with
   |none=>
    rw[C] at hr;rcases rO (P:=P) d.mq a v (m== .atomic) with⟨l,b,c0,e0,f0,Y⟩|⟨y,Y,_⟩
    .rw[Y] at hr
     have⟨w1,f1,f2,f3,f4,f5,f6,f7,f8⟩:=Qr WC d Y;have B:=(hk.nY f4.mq (uM f4) hr).1;rw[f7] at B;have⟨x',w',p,J,L,M,D,K⟩:=I f4 (λi E=>by rw[f7];exact E.elim (A i) λe=>e▸f3) hr (by rw[f7,f8];exact g) (es:=es++(l.map (bn π)).toArray.map (⟨.cell ·,true,m== .atomic⟩));refine⟨x',w',p,?_,L,M,f6.trans D g,λe U=>?_⟩
     .rw[f1,f2]
      exact J
     .rcases K e U with h|h
      .rcases ai4.1 h with h|h
       .exact .inl h
       .right
        simp at h;obtain⟨b,hb,rfl⟩:=h;have⟨b1,b2,b3⟩:=f5 b hb;exact .inl ⟨b.block,ϖ,b2,λ_=>b3,.inl ⟨_,rfl,rfl⟩⟩
      .exact .inr h
    .rw[Y] at hr;cases hr
   |some u=>
    rw[C] at hr;dsimp only at hr;cases hz:wL.frozen? a with
    |true=>rw[hz] at hr;simp at hr
    |false=>
     rw[hz] at hr;simp only[ν,if_false] at hr;have⟨h1,h2,h3⟩:=Av d (show wL.cell? ⟨a.block,a.off,a.spot⟩=some u from C);have⟨ab,F,hf⟩:=d.set (v:=v) C hz;have B:=(hk.nY F.mq (uM F) hr).1;rw[cQ] at B
     have⟨x',w',p,J,L,M,D,K⟩:=I F (λi E=>by rw[cQ];exact E.elim (A i) λe=>e▸⟨h2,h3⟩) hr (by rw[cQ,cQ];exact g) (es:=es.push ⟨.cell (bn π a),true,m== .atomic⟩)
     refine⟨x',w',p,?_,L,M,Eg.trans ⟨by rw[cQ];exact ι _,by rw[cQ,cQ];omega,λj hj hn=>ic _ _ _ _ (λe=>hn a.block h2 h3 ab e.symm),rfl,rfl,rfl,ι _⟩ D g,
      λe U=>mC (.inl ⟨a.block,h2,h3,λ_=>ab,.inl ⟨_,rfl,rfl⟩⟩) B (K e U)⟩
     rw[show w.cell? (bn π a)=some (Value.ren π u) from h1];simp only[hf,ν,if_false];exact J
 |@new V α R o k k' ho hi0 hk I=>
  intro wL w es x O d A hr g;simp only[Sem.run] at hr;have hb:¬N wL.heap.size:=λx=>by have:=uM d _ x;omega
  have ac:fj {wL with heap:=wL.heap.push o}:=d.mq.push ho;have B:=((hk _ hb).nY ac (λb x=>by have:=uM d _ x;simp;omega) hr).1;simp at B;have hp:=g 0 ϖ;simp only[ϕ1] at hp;have F:=d.push ho (λi E=>A i (hi0 i E)) hp;have ae:∀b,H b->b≠wL.heap.size:=λb x=>by have:=d.low b (.inl x);omega
  have⟨x',w',p,J,L,M,D,K⟩:=I wL.heap.size hb F (λi E=>by
   rw[Array.size_push];rcases E with E|E
   .exact⟨by have:=(A i E).1;omega,(A i E).2⟩
   .exact⟨ϖ,λy=>ae i y E⟩) hr (λi E=>by
   have:=g (i+1) (by simp at E;omega);simp;rw[show wL.heap.size+1+i=wL.heap.size+(i+1) by omega,this];omega) (es:=es)
  refine⟨x',w',p,?_,L,M,Eg.trans (Sm:={wL with heap:=wL.heap.push o}) (w1:={w with heap:=w.heap.push (ep π o)}) ⟨ϛ,ϛ,λj hj hn=>?_,rfl,rfl,rfl,ι _⟩ D g,K⟩
  .simp only[Sem.runT]
   rw[<-hp];exact J
  .simp only[Array.getElem?_push]
   rw[ζ ϖ]
 |@getObj V α R r k k' hk I=>
  intro wL w es x O d A hr g;simp only[Sem.run] at hr;cases C:wL.heap[r]? with
  |none=>rw[C] at hr;simp at hr
  |some o=>
   rw[C] at hr;have Q:∀c t f,o≠.cells c t f:=λc t f e=>by subst e;simp at hr
   have W:¬H r:=λx=>Q _ _ _ (d.hid r o C x)
   have X:¬Z r:=λx=>by obtain⟨c,t,f,rfl,_⟩:=d.pZ r o C x;exact Q _ _ _ rfl
   have⟨T,S⟩:=d.ok r o C W X;have G:r<wL.heap.size:=(Ψ.1 C).1;have aa:(k o).run P wL= .ok x O:=by cases o<;>first|exact hr|exact absurd rfl (Q _ _ _)
   have B:=((hk o T).nY d.mq (uM d) aa).1;have⟨x',w',p,J,L,M,D,K⟩:=I o T d (λi E=>E.elim (A i) λe=>e.elim (λe=>e▸⟨G,W⟩) (d.AM r o C i)) aa g (es:=es.push ⟨.obj (π r),false,(ep π o).isChan⟩);refine⟨x',w',p,?_,L,M,D,λe U=>mC (.inl ⟨r,G,W,λx=>(by simp at x),.inr rfl⟩) B (K e U)⟩;simp only[Sem.runT];rw[S]
   cases o<;>first|exact absurd rfl (Q _ _ _)|exact T.elim|exact J
 |@setObj V α R r o k k' ho hi0 hk I=>
  intro wL w es x O d A hr g;simp only[Sem.run] at hr;cases C:wL.heap[r]? with
  |none=>rw[C] at hr;simp at hr
  |some o'=>
   rw[C] at hr;have Q:∀c t f,o'≠.cells c t f:=λc t f e=>by subst e;simp at hr
   have⟨W,X,S,F⟩:=d.setObj C Q ho (λi E=>A i (hi0 i E));have T:=(d.ok r o' C W X).1;have G:r<wL.heap.size:=(Ψ.1 C).1;have aa:k.run P {wL with heap:=wL.heap.setIfInBounds r o}= .ok x O:=by cases o'<;>first|exact hr|exact absurd rfl (Q _ _ _)
   have B:=(hk.nY F.mq (uM F) aa).1;simp at B;have⟨x',w',p,J,L,M,D,K⟩:=I F (λi E=>by rw[ϑ5];exact E.elim (A i) λe=>e▸⟨G,W⟩) aa (by simpa using g) (es:=es.push ⟨.obj (π r),true,(ep π o).isChan⟩)
   refine⟨x',w',p,?_,L,M,Eg.trans (Sm:={wL with heap:=wL.heap.setIfInBounds r o}) (w1:={w with heap:=w.heap.setIfInBounds (π r) (ep π o)}) ⟨ϛ,ϛ,λj hj hn=>?_,rfl,rfl,rfl,ι _⟩ D g,λe U=>?_⟩
   .simp only[Sem.runT]
    rw[S];cases o'<;>first|exact absurd rfl (Q _ _ _)|exact T.elim|exact J
   .exact ab1 (hn r G W X)
   .exact mC (.inl ⟨r,G,W,λ_=>X,.inr rfl⟩) B (K e U)
 |@shape V α R r k k' hv hk I=>
  intro wL w es x O d A hr g;have⟨G,W⟩:=A r hv;have hs:w.shape? (π r)=wL.shape? r:=by
   unfold World.shape?;have C:wL.heap[r]? =some wL.heap[r]:=τ G
   by_cases X:Z r
   .have⟨c,t,f,e1,e2⟩:=d.pZ r _ C X
    rw[C,e1,e2];simp
   .have⟨T,S⟩:=d.ok r _ C W X
    rw[C,S];cases wL.heap[r]<;>simp[ep]
  simp only[Sem.run] at hr;have⟨x',w',p,J,L,M,D,K⟩:=I _ d A hr g (es:=es);refine⟨x',w',p,?_,L,M,D,K⟩;simp only[Sem.runT];rw[hs];exact J
 |@freeze V α R a n k k' hv hn hk I=>
  intro wL w es x O d A hr g;have⟨G,W⟩:=A _ hv;have X:¬Z a.block:=λz=>hn ((hN _).2 (.inr z))
  have F:=d.freeze (n:=n) W X;simp only[Sem.run] at hr;have ad:∀(u:Ω)(c:Addr)(b:Nat),b≠c.block->(u.freeze c n).heap[b]? =u.heap[b]? :=λu c b hb=>by
   unfold World.freeze;split
   .rfl
   .simp only[al6];rw[ζ (λe=>hb e.symm)]
  have⟨x',w',p,J,L,M,D,K⟩:=I F (λi E=>by rw[eN];exact A i E) hr (by rw[eN,eN];exact g) (es:=es)
  exact⟨x',w',p,J,L,M,Eg.trans ⟨by rw[eN];exact ι _,by rw[eN,eN];omega,λj hj hm=>ad _ _ _ (λe=>hm a.block G W X e.symm),by unfold World.freeze;split<;>rfl,by unfold World.freeze;split<;>rfl,by unfold World.freeze;split<;>rfl,by unfold World.freeze;split<;>exact ι _⟩ D g,K⟩
 |@frozen V α R a k k' hv hn hk I=>
  intro wL w es x O d A hr g;have⟨G,W⟩:=A _ hv;have X:¬Z a.block:=λz=>hn ((hN _).2 (.inr z))
  have hs:w.frozen? (bn π a)=wL.frozen? a:=by
   unfold World.frozen?;have C:wL.heap[a.block]? =some wL.heap[a.block]:=τ G;have⟨T,S⟩:=d.ok _ _ C W X;rw[show(bn π a).block=π a.block from rfl,C,S];generalize wL.heap[a.block]=o;cases o with
   |cells c t f=>have⟨lo,E⟩:=f;rfl
   |_=>rfl
  simp only[Sem.run] at hr;have⟨x',w',p,J,L,M,D,K⟩:=I _ d A hr g (es:=es);refine⟨x',w',p,?_,L,M,D,K⟩;simp only[Sem.runT];rw[hs];exact J
 |@choose V α R q k k' hk I=>
  intro wL w es x O d A hr g;simp only[Sem.run,Sem.runT] at hr⊢;cases hq:q.forced with
  |true=>
   simp only[hq,if_true] at hr⊢;exact I _ d A hr g
  |false=>
   simp only[hq,ν,if_false] at hr⊢;rw[d.tape,d.drawn];have F:WR π H Z {wL with drawn:=wL.drawn+1} {w with drawn:=wL.drawn+1}:={inj:=d.inj,tape:=d.tape,drawn:=rfl,lt:=d.lt,ok:=d.ok,hid:=d.hid,pZ:=d.pZ,low:=d.low,AM:=d.AM}
   have⟨x',w',p,J,L,M,D,K⟩:=I _ F A hr g (es:=es);have hd:=d.drawn;rw[d.tape] at J;exact⟨x',w',p,J,L,M,⟨D.nY,D.size,D.keep,D.os,D.output,D.tape,by have:=D.drawn;simp at this;omega⟩,K⟩
 |program _ I=>intro wL w es x O d A hr g;exact I d A hr g
 |@mark V α R m k k' hm hk I=>
  intro wL w es x O d A hr g;simp only[Sem.run] at hr;have B:=(hk.nY d.mq (uM d) hr).1;have⟨x',w',p,J,L,M,D,K⟩:=I d A hr g (es:=es.push ⟨.mark m,false,true⟩);exact⟨x',w',p,J,L,M,D,λe U=>mC (n:=0) (.inr ⟨m,rfl,hm⟩) (Nat.zero_le _) (K e U)⟩
 |dead h=>
  intro wL w es x O d A hr g;have⟨y,w',Y,_⟩:=h _ d.mq;rw[Y] at hr;cases hr
end
def kf:Nat->Φ->Bool
 |0,_=>false
 |n+1,v=>match v with
  |.bool _|.int _ _|.float _ _|.complex _ _ _|.string _|.nilFunc|.nilIface=>true
  |.pointer a=>a.isNone
  |.slice a _ _=>a.isNone
  |.map r|.chan r=>r.isNone
  |.func fn f c=>(match fn with|.yield _=>false|_=>true)&&f.toList.all (kf n)&&c.toList.all (kf n)
  |.iface _ v=>kf n v
  |.agg cs|.tuple cs=>cs.toList.all (kf n)
def fA {π:Ϛ}:∀{n:Nat}{v:Φ},kf n v=true->Value.ren π v=v
 |0,_,h=>by simp[kf] at h
 |n+1,v,h=>by
  cases v with
  |pointer a=>cases a<;>simp[kf] at h⊢
  |slice a _ _=>cases a<;>simp[kf] at h⊢
  |map r=>cases r<;>simp[kf] at h⊢
  |chan r=>cases r<;>simp[kf] at h⊢
  |iface t v=>simp only[kf] at h;rw[dk,fA h]
  |agg cs=>
   simp only[kf,ad6,Array.mem_toList_iff] at h;rw[dV,cP λv hv=>fA (h v hv)]
  |tuple cs=>
   simp only[kf,ad6,Array.mem_toList_iff] at h;rw[dj,cP λv hv=>fA (h v hv)]
  |func fn f c=>
   simp only[kf,ε,ad6,Array.mem_toList_iff] at h;rw[dO,cP λv hv=>fA (h.1.2 v hv),cP λv hv=>fA (h.2 v hv)];cases fn<;>simp at h<;>rfl
  |_=>simp
inductive Value.Has (r:Nat):Φ->Prop
 |ptr {a:Addr} (h:a.block=r):Value.Has r (.pointer (some a))
 |slice {a:Addr} {n c:Nat} (h:a.block=r):Value.Has r (.slice (some a) n c)
 |map:Value.Has r (.map (some r))
 |chan:Value.Has r (.chan (some r))
 |yield {f c:Array Φ}:Value.Has r (.func (.yield r) f c)
 |first {fn:Fn} {f c:Array Φ} {x:Φ} (hx:x∈f) (h:Value.Has r x):Value.Has r (.func fn f c)
 |Jr {fn:Fn} {f c:Array Φ} {x:Φ} (hx:x∈c) (h:Value.Has r x):Value.Has r (.func fn f c)
 |iface {t:η} {v:Φ} (h:Value.Has r v):Value.Has r (.iface t v)
 |agg {cs:Array Φ} {x:Φ} (hx:x∈cs) (h:Value.Has r x):Value.Has r (.agg cs)
 |tuple {cs:Array Φ} {x:Φ} (hx:x∈cs) (h:Value.Has r x):Value.Has r (.tuple cs)
section
variable {P:ω}{π:Nat->Nat}{N V:Nat->Prop}
def RV (π:Ϛ)(v a:Φ):Prop:=a=Value.ren π v
def RA (π:Ϛ)(a a':Addr):Prop:=a'=bn π a
def RC (π:Ϛ)(c a:ϐ):Prop:=a=c.map (Value.ren π)
def ay {α:Type}{R:α->α->Prop}{a b:α}(h:R a b):br P π N V R (Pure.pure a) (Pure.pure b):= .pure h
def al {α:Type}{R:α->α->Prop}{m:String}{s':Sem α}:br P π N V R (stuck m) s':= .dead (.halt trivial)
def aM {α:Type}{R:α->α->Prop}{u:Unsupported}{s':Sem α}(h:mn (.unsupported u)):br P π N V R (unsupported u) s':= .dead (.halt h)
def iK {α a:Type}{R:a->a->Prop}{m:String}{f:α->Sem a}{s':Sem a}:br P π N V R (stuck m>>=f) s':= .dead (Dead.bind f (Dead.halt trivial))
def jC {α a:Type}{R:a->a->Prop}{u:Unsupported}{f:α->Sem a}{s':Sem a}(h:mn (.unsupported u)):br P π N V R (unsupported u>>=f) s':= .dead (Dead.bind f (Dead.halt h))
def cV:br P π N V (λa b=>a=P/\b=P) program program:= .program (.pure ⟨rfl,rfl⟩)
def jD {q:Question}:br P π N V Eq (choose q) (choose q):= .choose λ_=> .pure rfl
def fo (t:η):br P π N V (λa b=>a=b/\P.info? t=some a) (typeInfo t) (typeInfo t):=by
 unfold typeInfo;refine cV.bind' λx x' h=>?_
 obtain⟨rfl,rfl⟩:=h;show br x' π N V _ (match x'.info? t with|some i=>_|none=>_) _;cases h:x'.info? t with
 |none=>exact al
 |some i=>exact ay ⟨rfl,rfl⟩
def aH (t:η):br P π N V (λa b=>a=b/\P.underlying t=some a) (underlying t) (underlying t):=by
 unfold underlying;refine cV.bind' λx x' h=>?_
 obtain⟨rfl,rfl⟩:=h;cases h:x'.underlying t with
 |none=>exact al
 |some i=>exact ay ⟨rfl,rfl⟩
def dh (t:η):br P π N V (λa b=>a=b/\(P.info? t).map (·.size)=some a) (Go.sizeOf t) (Go.sizeOf t):=by
 unfold Go.sizeOf;exact(fo t).bind' λx x' h=>ay ⟨congrArg _ h.1,by rw[h.2];rfl⟩
def BY (t:η):br P π N V Eq (isAgg t) (isAgg t):=by
 unfold isAgg;refine(aH t).bind' λx x' h=>?_
 obtain⟨rfl,_⟩:=h;cases x<;>exact ay rfl
def y4 (t:η):br P π N V Eq (elemOf t) (elemOf t):=by
 unfold elemOf;refine(aH t).bind' λx x' h=>?_
 obtain⟨rfl,_⟩:=h;cases x<;>first|exact ay rfl|exact al
def zf (P:ω)(t:η):Bool:=match P.info? t with
 |some i=>match i.zero with
  |some z=>kf 8 z
  |none=>true
 |none=>true
def fv {t:η}(c:zf P t=true):br P π N V (λa b=>a=b/\∃n,kf n a=true) (zeroValue t) (zeroValue t):=by
 unfold zeroValue;refine(fo t).bind' λx x' h=>?_
 obtain⟨rfl,e⟩:=h;unfold zf at c;simp only[e] at c;cases d:x.zero with
 |none=>exact aM trivial
 |some z=>simp only[d] at c;exact ay ⟨rfl,8,c⟩
def qj {m:Mode}(a:Addr):br P π N V (RV π) (load a m) (load (bn π a) m):= .load λ_=> .pure rfl
def Lw {m:Mode}(a:Addr)(v:Φ):br P π N V Eq (store a v m) (store (bn π a) (Value.ren π v) m):= .store (.pure rfl)
def jV (a:Addr)(n:Nat):bn π (a.add n)=(bn π a).add n:=by
 unfold Addr.add;split<;>rfl
def mT (a:Addr):∀(n i:Nat)(acc:ϐ),br P π N V (RC π) (loadCellsFrom a i n acc) (loadCellsFrom (bn π a) i n (acc.map (Value.ren π)))
 |0,i,acc=>ay rfl
 |n+1,i,acc=>by
  unfold loadCellsFrom;rw[<-jV];refine(qj (a.add i)).bind' λv b h=>?_
  rw[show b=Value.ren π v from h,<-Array.map_push];exact mT a n (i+1) (acc.push v)
def nD (a:Addr)(n:Nat):br P π N V (RC π) (loadCells a n) (loadCells (bn π a) n):=by
 have:=mT (P:=P) (π:=π) (N:=N) (V:=V) a n 0 #[];simpa [loadCells] using this
def iL (a:Addr):∀(b:ϡ)(i:Nat),br P π N V Eq (storeCells a b i) (storeCells (bn π a) (b.map (Value.ren π)) i)
 |[],i=>ay rfl
 |v::b,i=>by
  simp only[storeCells,ϴ];rw[<-jV];exact(Lw (a.add i) v).bind' λ_ _ _=>iL a b (i+1)
def jN (v:Φ):(Value.ren π v).cells=v.cells.map (Value.ren π):=by cases v<;>simp[Value.cells]
def wW (t:η)(a:Addr):br P π N V (RV π) (loadVar t a) (loadVar t (bn π a)):=by
 unfold loadVar;refine(BY t).bind' λx x' h=>?_
 subst h;cases x with
 |true=>
  simp only[if_true];refine(dh t).bind' λn d h=>?_
  obtain⟨rfl,_⟩:=h;refine(nD a n).bind' λc b h=>?_
  rw[show b=_ from h];exact ay (by simp[RV])
 |false=>simp only[ν,if_false];exact qj a
def C2 (t:η)(a:Addr)(v:Φ):br P π N V Eq (storeVar t a v) (storeVar t (bn π a) (Value.ren π v)):=by
 unfold storeVar;refine(dh t).bind' λn c h=>?_
 obtain⟨rfl,_⟩:=h;rw[jN];simp only[Array.size_map,ϑ4]
 by_cases b:v.cells.size≠n
 .simp only[b,ne_eq,not_false_eq_true,if_true]
  exact al
 .simp only[b,ne_eq,if_false]
  exact iL a _ 0
def mb (a:η)(cells:ϐ):br P π N V (RA π) (newRow a cells) (newRow a (cells.map (Value.ren π))):=by
 unfold newRow newObj;exact br.new (o:= .cells cells a) trivial (λ_ h=>h.elim) λb _=> .pure rfl
def yW (t:η)(v:Φ):br P π N V (RA π) (newVar t v) (newVar t (Value.ren π v)):=by
 unfold newVar;rw[jN];exact mb t _
def ma (t:η)(cs:ϐ)(off:Nat):br P π N V (λv a=>a=Value.ren π v/\((∃n,v= .agg (cs.extract off (off+n)))\/cs[off]? =some v)) (part t cs off) (part t (cs.map (Value.ren π)) off):=by
 unfold part;refine(BY t).bind' λx x' h=>?_
 subst h;cases x with
 |true=>
  simp only[if_true];refine(dh t).bind' λn b h=>?_
  obtain⟨rfl,_⟩:=h;exact ay ⟨ϛ,.inl ⟨n,rfl⟩⟩
 |false=>
  simp only[ν,if_false,ai0];cases h:cs[off]? with
  |none=>exact al
  |some v=>exact ay ⟨rfl,.inr rfl⟩
def mU (v:Φ):br P π N V Eq (asIntOf v) (asIntOf (Value.ren π v)):=by
 cases v with
 |int k n=>simp only[cR];exact ay rfl
 |pointer a=>cases a<;>first|exact aM trivial|exact al
 |_=>exact al
def lR (v:Φ):br P π N V Eq (asInt v) (asInt (Value.ren π v)):=by
 unfold asInt;exact(mU v).bind' λ_ _ h=>by rw[h];exact ay rfl
def Ia (v:Φ):br P π N V Eq (asBool v) (asBool (Value.ren π v)):=by
 cases v with
 |bool b=>simp only[eF];exact ay rfl
 |_=>exact al
def LG (v:Φ):br P π N V (λc a=>a=c.map (Value.ren π)/\v= .agg c) (asAgg v) (asAgg (Value.ren π v)):=by
 cases v with
 |agg cs=>simp only[dV];exact ay ⟨rfl,rfl⟩
 |_=>exact al
def xI {α:Type}{q:Question}{k:Nat->Sem α}(h:∀n,Dead P (k n)):Dead P (.choose q k):=by
 intro w a;simp only[Sem.run];split
 .exact h 0 w a
 .exact h _ {w with drawn:=w.drawn+1} a
def eh {α:Type}(e:RuntimeError):Dead P (runtimePanic e:Sem α):=by
 intro w f;have b:∀(t:η),(∃x,(elemOf t).run P w= .ok x w)\/∃h,(elemOf t).run P w= .halt h w/\mn h:=by
  intro t;unfold elemOf underlying;simp only[run_bind,program,Sem.run,Result.andThen];cases P.underlying t with
  |none=>exact .inr ⟨_,rfl,trivial⟩
  |some d=>cases d<;>first|exact .inl ⟨_,rfl⟩|exact .inr ⟨_,rfl,trivial⟩
 cases e with
 |typeAssertion i c a m=>
  unfold runtimePanic;simp only[run_bind,program,Sem.run,Result.andThen];rcases b P.rt.typeAssertionError with⟨x,hx⟩|⟨h,hx,ok⟩
  .rw[hx];exact⟨_,_,rfl,trivial⟩
  .rw[hx];exact⟨_,_,rfl,ok⟩
 |panicNil=>
  unfold runtimePanic;simp only[run_bind,program,Sem.run,Result.andThen];rcases b P.rt.panicNilError with⟨x,hx⟩|⟨h,hx,ok⟩
  .rw[hx];exact⟨_,_,rfl,trivial⟩
  .rw[hx];exact⟨_,_,rfl,ok⟩
 |_=>exact⟨_,_,rfl,trivial⟩
def vK {α:Type}{R:α->α->Prop}{e:RuntimeError}{s':Sem α}:br P π N V R (runtimePanic e) s':= .dead (eh e)
def y6 {α:Type}{R:α->α->Prop}{k:IntKind}{x y:Int}{c:BoundsCode}{s':Sem α}:br P π N V R (boundsPanic k x y c) s':=by
 refine .dead ?_;unfold boundsPanic
 by_cases h:(k != .u64&&decide (0<=x)&&decide (x<=31))=true
 .simp only[h,if_true]
  exact xI λn=>eh (.bounds (IntKind.i64.wrap x) y (n==1) c)
 .simp only[h,if_false,ν]
  exact eh (.bounds (IntKind.i64.wrap x) y (k != .u64) c)
def t9 {α a:Type}{R:a->a->Prop}{e:RuntimeError}{f:α->Sem a}{s':Sem a}:br P π N V R (runtimePanic e>>=f) s':= .dead (Dead.bind f (eh e))
def jS (v:Φ):br P π N V (λa a'=>a'=bn π a/\v= .pointer (some a)) (Instr.sureAddr v) (Instr.sureAddr (Value.ren π v)):=by
 cases v with
 |pointer a=>cases a with
  |none=>exact al
  |some a=>simp only[bi,ξ];exact ay ⟨rfl,rfl⟩
 |_=>exact al
end
def VV (V:ϒ)(v:Φ):Prop:=∀r,Value.Has r v->V r
section
variable {P:ω}{π:Nat->Nat}{N V:Nat->Prop}
def VV.weak {a:ϒ}{v:Φ}(h:VV V v)(hv:∀i,V i->a i):VV a v:=λr x=>hv _ (h r x)
def VV.ptr {a:Addr}(h:VV V (.pointer (some a))):V a.block:=h _ (.ptr rfl)
def VV.agg {cs:ϐ}(h:VV V (.agg cs)){v:Φ}(hv:v∈cs):VV V v:=λr x=>h r (.agg hv x)
def VV.part {cs:ϐ}(h:VV V (.agg cs)){off:Nat}{v:Φ}(hv:(∃n,v= .agg (cs.extract off (off+n)))\/cs[off]? =some v):VV V v:=by
 intro r x;rcases hv with⟨n,rfl⟩|hv
 .cases x with
  |agg b a=>
   obtain⟨i,c,rfl⟩:=ϑ6.1 b;rw[Array.getElem_extract] at a;exact h r (.agg (ϓ7 _) a)
 .exact h r (.agg (ϵ hv) x)
def LH {t:η}(b:zf P t=true):br P π N V (RV π) (Instr.alloc t true (.tuple #[])) (Instr.alloc t true (.tuple #[])):=by
 unfold Instr.alloc;refine(fv b).bind' λz d h=>?_
 obtain⟨rfl,n,c⟩:=h;dsimp only;have:=yW (P:=P) (π:=π) (N:=N) (V:=V) t z;rw[fA c] at this;exact this.bind' λa a' h=>ay (by rw[show a'=_ from h];simp[RV])
def SO (t:η)(v:Φ):br P π N V (RV π) (Instr.box t v) (Instr.box t (Value.ren π v)):=by
 unfold Instr.box;exact(yW t v).bind' λa a' h=>ay (by rw[show a'=_ from h];simp[RV])
def Qn (off:Nat)(a cells:ϐ):(a.map (Value.ren π)).zipIdx.foldl (λcs (c,j)=>cs.setIfInBounds (off+j) c) (cells.map (Value.ren π))=(a.zipIdx.foldl (λcs (c,j)=>cs.setIfInBounds (off+j) c) cells).map (Value.ren π):=by
 rw[Array.zipIdx_map,Array.foldl_map];exact Array.foldl_hom (f:=Array.map (Value.ren π)) (H:=λx y=>by simp[ϔ2])
def uZ (a:Nat->Option (Nat×Nat)):∀(b:List (Nat×Φ)) (cells:ϐ),
  Instr.fill a (cells.map (Value.ren π)) (b.map λp=>(p.1,Value.ren π p.2))=(Instr.fill a cells b).map (·.map (Value.ren π))
 |[],cells=>rfl
 |(i,v)::b,cells=>by
  simp only[ϴ,Instr.fill];cases a i with
  |none=>rfl
  |some x=>
   have⟨off,size⟩:=x;simp only[jN,Array.size_map];split
   .rfl
   .rw[Qn,uZ a b]
def xU (a:Array Field):br P π N V Eq (a.mapM λf=>do pure (f.offset,<-Go.sizeOf f.type)) (a.mapM λf=>do pure (f.offset,<-Go.sizeOf f.type)):=by
 rw[Array.mapM_eq_foldlM,<-Array.foldlM_toList];simp only[map_eq_pure_bind,bind_assoc,pure_bind];generalize (#[]:Array (Nat×Nat))=acc;generalize a.toList=l
 induction l generalizing acc with
 |nil=>exact ay rfl
 |cons f l b=>
  simp only[List.foldlM_cons,bind_assoc,pure_bind];refine(dh f.type).bind' λn c h=>?_
  obtain⟨rfl,_⟩:=h;exact b _
def LD {t:η}(i:zf P t=true)(e:Array (Nat×Φ)):br P π N V (RV π) (Instr.build t e) (Instr.build t (e.map λp=>(p.1,Value.ren π p.2))):=by
 unfold Instr.build;refine(fv i).bind' λz l h=>?_
 obtain⟨rfl,n,j⟩:=h;have b:z.cells.map (Value.ren π)=z.cells:=by rw[<-jN,fA j]
 refine(aH t).bind' λx x' h=>?_
 obtain⟨rfl,_⟩:=h;cases x with
 |struct a=>
  dsimp only;refine(xU a).bind' λg f h=>?_
  subst h;rw[ϑ4,<-b,uZ,b];cases Instr.fill (λx=>g[x]?) z.cells e.toList with
  |none=>exact al
  |some c=>exact ay (by simp[RV])
 |array m d=>
  dsimp only;refine(dh d).bind' λn k h=>?_
  obtain⟨rfl,_⟩:=h;rw[ϑ4,<-b,uZ,b];cases Instr.fill _ z.cells e.toList with
  |none=>exact al
  |some c=>exact ay (by simp[RV])
 |_=>exact al
def mi (z:ϐ)(a:z.map (Value.ren π)=z)(k m:Nat):((Array.range k).map λi=>z[i%m]!).map (Value.ren π)=(Array.range k).map λi=>z[i%m]! :=by
 rw[Ϙ3]
 apply ϸ
 intro i _;show Value.ren π z[i%m]! =z[i%m]!
 by_cases h:i%m<z.size
 .rw[getElem!_pos z _ h]
  have:=congrArg (·[i%m]?) a;simp[h] at this;exact this
 .rw[getElem!_neg z _ h]
  exact eF _
def RU (P:ω)(t:η):Bool:=match P.underlying t with
 |some (.slice e)=>zf P e
 |_=>true
def y5 {t:η}(o:RU P t=true)(len:Nat)(f:Array (Nat×Φ)):br P π N V (RV π) (Instr.buildSlice t len f) (Instr.buildSlice t len (f.map λp=>(p.1,Value.ren π p.2))):=by
 unfold Instr.buildSlice;refine(aH t).bind' λx x' h=>?_
 obtain⟨rfl,l⟩:=h;cases x with
 |slice b=>
  dsimp only;have g:zf P b=true:=by simpa [RU,l] using o
  refine(dh b).bind' λn q h=>?_
  obtain⟨rfl,_⟩:=h
  by_cases e:len*n>2^24
  .simp only[e,if_true];exact aM trivial
  .simp only[e,if_false]
   have d:∀z:Array Φ,z.map (Value.ren π)=z->br P π N V (RV π) (match Instr.fill (λi=>some (i*n,n)) (Array.map (λx=>z[x%z.size]!) (Array.range (len*n))) f.toList with|some cells=>(do let a <-newRow b cells;Pure.pure (.slice (some a) len len))|_=>stuck "buildSlice: a part of the wrong size")
     (match Instr.fill (λi=>some (i*n,n)) (Array.map (λx=>z[x%z.size]!) (Array.range (len*n))) (f.map λp=>(p.1,Value.ren π p.2)).toList with|some cells=>(do let a <-newRow b cells;Pure.pure (.slice (some a) len len))|_=>stuck "buildSlice: a part of the wrong size"):=by
    intro z j;rw[ϑ4]
    conv=>rhs;rw[<-mi z j,uZ]
    cases Instr.fill (λi=>some (i*n,n)) (Array.map (λx=>z[x%z.size]!) (Array.range (len*n))) f.toList with
    |none=>exact al
    |some c=>
     dsimp only[ξ];exact(mb b c).bind' λa a' h=>ay (by rw[show a'=_ from h];simp[RV])
   by_cases h0:len*n=0
   .simp only[h0,if_true,pure_bind]
    have:=d #[] ϛ;rw[h0] at this;exact this
   .simp only[h0,if_false,bind_assoc,pure_bind]
    refine(fv g).bind' λz r h=>?_
    obtain⟨rfl,k,m⟩:=h;exact d _ (by rw[<-jN,fA m])
 |_=>exact al
def HU (t:η)(v:Φ):br P π N V (RV π) (Instr.loadAt t v) (Instr.loadAt t (Value.ren π v)):=by
 unfold Instr.loadAt;refine(jS v).bind' λa a' h=>?_
 obtain⟨rfl,_⟩:=h;exact wW t a
def EP (t:η)(v u:Φ):br P π N V Eq (Instr.storeAt t v u) (Instr.storeAt t (Value.ren π v) (Value.ren π u)):=by
 unfold Instr.storeAt;refine(jS v).bind' λa a' h=>?_
 obtain⟨rfl,_⟩:=h;exact C2 t a u
def Qo (P:ω)(s:η)(a:Nat):Bool:=match P.underlying s with
 |some (.struct fs)=>match fs[a]? with
  |some f=>match P.info? f.type with|some i=>i.size !=0|none=>true
  |none=>true
 |_=>true
def EU {s:η}{b:Nat}(e:Qo P s b=true)(v:Φ):br P π N V (RV π) (Instr.fieldAt s v b) (Instr.fieldAt s (Value.ren π v) b):=by
 unfold Instr.fieldAt;refine(aH s).bind' λx x' h=>?_
 obtain⟨rfl,g⟩:=h;cases x with
 |struct fs=>
  dsimp only;cases j:fs[b]? with
  |none=>exact al
  |some f=>
   dsimp only;refine(jS v).bind' λa a' h=>?_
   obtain⟨rfl,_⟩:=h;unfold fieldPlace;rw[bind_assoc,bind_assoc];refine(dh f.type).bind' λn l h=>?_
   obtain⟨rfl,d⟩:=h;have k:n≠0:=by
    simp only[Qo,g,j] at e;cases c:P.info? f.type with
    |none=>simp[c] at d
    |some i=>simp[c] at d e;omega
   simp only[k,if_false];exact ay (by simp[RV,jV])
 |_=>exact al
def ET (t:η)(v e:Φ):br P π N V (RV π) (Instr.indexAt t v e) (Instr.indexAt t (Value.ren π v) (Value.ren π e)):=by
 unfold Instr.indexAt;refine(mU e).bind' λk k' h=>?_
 subst h;have⟨k,i⟩:=k;dsimp only;refine(aH t).bind' λx x' h=>?_
 obtain⟨rfl,j⟩:=h;have d:∀(a:Addr)(len:Nat)(c:η)(b:Bool),br P π N V (RV π) (if 0<=i/\i<(len:Int) then(do let n <-Go.sizeOf c;Pure.pure (.pointer (some (a.add (i.toNat*n))))) else if b=true then unsupported (.noEntry "op/indexAddr.an index out of range at an array of length 0 or 1 (ledger 616)") else boundsPanic k i len .index)
   (if 0<=i/\i<(len:Int) then(do let n <-Go.sizeOf c;Pure.pure (.pointer (some ((bn π a).add (i.toNat*n))))) else if b=true then unsupported (.noEntry "op/indexAddr.an index out of range at an array of length 0 or 1 (ledger 616)") else boundsPanic k i len .index):=by
  intro a len c b
  by_cases f:0<=i/\i<(len:Int)
  .simp only[f,and_self,if_true]
   refine(dh c).bind' λn l h=>?_
   obtain⟨rfl,_⟩:=h;exact ay (by simp[RV,jV])
  .simp only[f,if_false]
   split
   .exact aM trivial
   .exact y6
 cases x with
 |array len c=>
  dsimp only;refine(jS v).bind' λa a' h=>?_
  obtain⟨rfl,_⟩:=h;simp only[pure_bind];refine(aH t).bind' λy g h=>?_
  obtain⟨rfl,_⟩:=h;exact d a len c _
 |slice c=>
  cases v with
  |slice base len cap=>
   rw[bU];simp only[pure_bind];refine(aH t).bind' λy g h=>?_
   obtain⟨rfl,_⟩:=h;cases base with
   |none=>exact y6
   |some a=>exact d a len c _
  |_=>exact iK
 |_=>exact iK
def yV (v:Φ)(y:Nat)(c:BoundsCode):br P π N V Eq (Instr.sliceBound v y c) (Instr.sliceBound (Value.ren π v) y c):=by
 unfold Instr.sliceBound;refine(mU v).bind' λk k' h=>?_
 subst h;dsimp only;split
 .exact ay rfl
 .exact y6
def ll (a:Bool)(len cap:Nat)(c d b:ϯ):br P π N V Eq (Instr.sliceBounds a len cap c d b) (Instr.sliceBounds a len cap (c.map (Value.ren π)) (d.map (Value.ren π)) (b.map (Value.ren π))):=by
 unfold Instr.sliceBounds;cases c<;>cases d<;>cases b<;>simp only[ξ,Option.map_none,pure_bind]<;>
  repeat (first
   |exact ay rfl
   |exact al
   |exact iK
   |(refine(yV ..).bind' λx x' e=>?_;subst e))
def Lx (t:η)(v:Φ)(c d f:ϯ)(j:∀e,P.underlying t≠some (.pointer e)):br P π N V (RV π) (Instr.slice t v c d f) (Instr.slice t (Value.ren π v) (c.map (Value.ren π)) (d.map (Value.ren π)) (f.map (Value.ren π))):=by
 unfold Instr.slice;refine(aH t).bind' λx x' h=>?_
 obtain⟨rfl,g⟩:=h;cases x with
 |string=>
  cases v with
  |string s=>
   rw[bN];dsimp only;cases f with
   |some m=>exact iK
   |none=>
    simp only[Ϻ,ν,if_false,Option.map_none];refine(ll false s.size s.size c d none).bind' λy i h=>?_
    subst h;exact ay (by simp[RV])
  |_=>exact al
 |slice b=>
  cases v with
  |slice a len cap=>
   rw[bU];dsimp only;refine(ll true len cap c d f).bind' λy i h=>?_
   subst h;refine(dh b).bind' λn k h=>?_
   obtain⟨rfl,_⟩:=h;refine ay ?_;simp only[RV,bU]
   congr 1
   split
   .rfl
   .cases a<;>simp[jV]
  |_=>exact al
 |pointer e=>exact absurd g (j e)
 |_=>exact al
def EQ (t:η)(v:Φ)(c d f:ϯ)(g:∀e,P.underlying t≠some (.pointer e)):br P π N V (RV π) (Instr.sliceAt t v c d f) (Instr.sliceAt t (Value.ren π v) (c.map (Value.ren π)) (d.map (Value.ren π)) (f.map (Value.ren π))):=by
 unfold Instr.sliceAt;refine(aH t).bind' λx x' h=>?_
 obtain⟨rfl,i⟩:=h;cases x with
 |array n b=>
  dsimp only;refine(jS v).bind' λa a' h=>?_
  obtain⟨rfl,_⟩:=h;refine(ll false n n c d f).bind' λy j h=>?_
  subst h;refine(dh b).bind' λk k' h=>?_
  obtain⟨rfl,_⟩:=h;refine ay ?_;simp only[RV,bU,ξ]
  congr 2
  split
  .rfl
  .rw[jV]
 |_=>exact Lx t v c d f g
def LA (t:η)(v:Φ)(f:Nat):br P π N V (RV π) (Instr.field t v f) (Instr.field t (Value.ren π v) f):=by
 unfold Instr.field;refine(aH t).bind' λx x' h=>?_
 obtain⟨rfl,a⟩:=h;cases x with
 |struct fs=>
  dsimp only;cases fs[f]? with
  |none=>exact al
  |some f=>
   dsimp only;refine(LG v).bind' λc b h=>?_
   obtain⟨rfl,_⟩:=h;exact(ma f.type c f.offset).mono λ_ _ h=>h.1
 |_=>exact al
def Lz (t:η)(v b:Φ):br P π N V (RV π) (Instr.index t v b) (Instr.index t (Value.ren π v) (Value.ren π b)):=by
 unfold Instr.index;refine(mU b).bind' λk k' h=>?_
 subst h;have⟨k,i⟩:=k;dsimp only;refine(aH t).bind' λx x' h=>?_
 obtain⟨rfl,c⟩:=h;cases x with
 |array len a=>
  cases v with
  |agg cs=>
   rw[dV];dsimp only;split
   .refine(dh a).bind' λn d h=>?_
    obtain⟨rfl,_⟩:=h;exact(ma a cs _).mono λ_ _ h=>h.1
   .exact y6
  |_=>exact al
 |string=>
  cases v with
  |string s=>
   rw[bN];dsimp only;split
   .exact ay (by simp[RV])
   .exact y6
  |_=>exact al
 |_=>exact al
def EV (v:Φ)(a:Nat):br P π N V (RV π) (Instr.extract v a) (Instr.extract (Value.ren π v) a):=by
 unfold Instr.extract;cases v with
 |tuple b=>
  rw[dj];dsimp only;rw[ai0];cases b[a]? with
  |none=>exact al
  |some x=>exact ay rfl
 |_=>exact al
def ES (t:η)(r:ϯ):br P π N V (RV π) (Instr.makeMap t r) (Instr.makeMap t (r.map (Value.ren π))):=by
 have a:br P π N V (RV π) (do let b <-newObj (.map #[] 0);Pure.pure (.map (some b))) (do let b <-newObj (.map #[] 0);Pure.pure (.map (some b))):=by
  have:=br.new (P:=P) (π:=π) (N:=N) (V:=V) (R:=RV π) (o:= .map #[] 0) (k:=λb=>Pure.pure (.map (some b))) (k':=λb=>Pure.pure (.map (some b))) trivial (λ_ h=>h.elim) λb _=>ay (by simp[RV])
  rw[show ep π (.map #[] 0)= .map #[] 0 by simp[ep]] at this;exact this
 unfold Instr.makeMap;cases r with
 |none=>exact a
 |some v=>
  refine(aH t).bind' λx x' h=>?_
  obtain⟨rfl,_⟩:=h;cases x with
  |map k e=>
   dsimp only;refine(lR v).bind' λy c h=>?_
   exact a
  |_=>exact iK
def ub (t:η)(v:Φ):br P π N V (RV π) (Instr.makeInterface t v) (Instr.makeInterface t (Value.ren π v)):=by
 unfold Instr.makeInterface;refine(aH t).bind' λx x' h=>?_
 obtain⟨rfl,_⟩:=h;cases x<;>first|exact al|exact ay (by simp[RV])
end
end
end
end Go.Proofs.YtchcmhodnkgojaaGreat
