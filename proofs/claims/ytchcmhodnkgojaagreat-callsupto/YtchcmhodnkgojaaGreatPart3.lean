/- A part. -/
import Derived.Test.YtchcmhodnkgojaaGreatPart2
import Derived.Conc.Beside
import Derived.Conc.CrowdCom2
import Derived.Conc.MuStops
import Derived.Conc.Own
import Derived.RunT
import Derived.StepT
import Derived.Laws.Sem
import Derived.Conc.Events
set_option linter.all false
set_option maxRecDepth 100000
set_option maxHeartbeats 8000000
namespace Go.Proofs.YtchcmhodnkgojaaGreat
open Sem (run_bind)
noncomputable section
variable {raw:List (List (List Nat))}{b g i n n' n0 r:Nat}{c vs:Array Θ}{g':Ω}{π:Nat->Nat}{H V' Z:Nat->Prop}{w:Φ}{t u:θ}{m:String}{v:Θ}
section
namespace gz
def NA(G:GM)(r:Nat):Prop:=∃a∈lk,∃c b,(c::r::b)∈a/\GM.dec c=G
def Sm(G:GG)(r:Nat):Prop:=∃a∈Bp,∃c b,(c::r::b)∈a/\GG.dec c=G
def vE{α:Type}(l:List α)(f:α->Bool)(i k:Nat)(h1:((l.drop i).take k).all f=true)(h2:(l.drop (i+k)).all f=true):(l.drop i).all f=true:=by
 rw[<-List.take_append_drop k (l.drop i),List.all_append,List.drop_drop,h1,h2];rfl
def OM:∀a∈lk,∀row∈a,qG lk row=true:=by
 have e:lk.drop 30=[]:=ϰ;have b:(lk.drop 30).all (λc=>c.all (qG lk))=true:=by rw[e];rfl
 have h:=vE lk _ 0 6 afB (vE lk _ 6 6 afA (vE lk _ 12 6 afz (vE lk _ 18 6 afy (vE lk _ 24 6 afx b))));rw[ϳ]at h;exactλa d row hr=>ae7.1 (ae7.1 h a d) row hr
def ON:∀a∈Bp,∀row∈a,Id Bp row=true:=λa b row hr=>ae7.1 (ae7.1 TQ a b) row hr
def FP{j:Nat}{row:ϓ}(h:yc raw j=some row):∃a∈raw,row∈a:=by
 unfold yc at h;have⟨a,h1,h2⟩:=ϒ7.1 h;exact⟨a,aj0 h1,aj0 h2⟩
def vI{r:Nat}:∀{hs:List GM}{fs:List Bool}{b:ϓ},yB lk r hs fs b=true->∀(i:Nat)(H:GM),hs[i]?=some H->∃(a:Nat)(f:Bool),fs[i]?=some f/\NA H a/\(f=true\/a<r)/\a<27
 |[],_,_,_,i,H,h=>by simp at h
 |H::hs,[],_,h,_,_,_=>by simp[yB]at h
 |H::hs,f::fs,[],h,_,_,_=>by simp[yB]at h
 |H::hs,f::fs,j::b,h,i,H',hi=>by
  simp only[yB,χ]at h;have⟨h1,h2⟩:=h;cases i with
  |succ i=>simp only[List.getElem?_cons_succ]at hi⊢;exact vI h2 i H' hi
  |zero=>simp only[List.getElem?_cons_zero,ag0]at hi⊢;subst hi;split at h1;rename_i c a rest k;simp only[χ,ai0,ak7]at h1;have⟨⟨e1,e2⟩,d⟩:=h1;have⟨e,g,hr⟩:=FP k;exact⟨a,f,rfl,⟨e,g,c,rest,hr,e1⟩,e2,d⟩;cases h1
def Bt{r:Nat}:∀{hs:List GG}{d:ϓ},Bu Bp r hs d=true->∀H∈hs,∃a,Sm H a/\a<r
 |[],_,_,H,h=>by simp at h
 |H::hs,[],h,_,_=>by simp[Bu]at h
 |H::hs,j::d,h,H',b=>by simp only[Bu,χ]at h;have⟨h1,h2⟩:=h;obtain rfl|b:=ac2.1 b;split at h1;rename_i c a rest g;simp only[χ,ai0]at h1;have⟨e,f,hr⟩:=FP g;exact⟨a,⟨e,f,c,rest,hr,h1.1⟩,h1.2⟩;cases h1;exact Bt h2 H' b
def NA.row{G:GM}(h:NA G r):G.safe=true/\∃a,yB lk r G.succs G.fresh a=true:=by
 obtain⟨b,d,c,a,hr,rfl⟩:=h;have:=OM b d _ hr;simp only[qG,χ]at this;exact⟨this.1,a,this.2⟩
def Sm.row{G:GG}(h:Sm G r):G.safe=true/\∃a,Bu Bp r G.succs a=true:=by
 obtain⟨b,d,c,a,hr,rfl⟩:=h;have:=ON b d _ hr;simp only[Id,χ]at this;exact⟨this.1,a,this.2⟩
def Mr:NA {a:={pc:=.out},b:={pc:=.out},mu:=0,ms:=0} 0:=by
 refine⟨(lk[0]?).getD [],?_,((lk[0]?).getD []).headD []|>.headD 0,(((lk[0]?).getD []).headD []).drop 2,?_,ϰ⟩;exact aj0 (i:=0) ϰ;exact aj0 (i:=0) ϰ
def Mt:Sm {m:={pc:=.x1},a:={pc:=.un},b:={pc:=.un},wg:=0,ws:=0} 15:=by
 refine⟨(Bp[0]?).getD [],?_,((Bp[0]?).getD []).headD []|>.headD 0,(((Bp[0]?).getD []).headD []).drop 2,?_,ϰ⟩;exact aj0 (i:=0) ϰ;exact aj0 (i:=0) ϰ
def NA.Wq{G:GM}(h:NA G r){q:Lo×Int×Int}(g:q∈AB G.a G.mu G.ms):∃c,NA {a:=q.1,b:=G.b,mu:=q.2.1,ms:=q.2.2} c/\(G.a.pc=.out\/c<r)/\c<27:=by
 have⟨_,l,j⟩:=h.row;obtain⟨i,d,rfl⟩:=am6.1 g;have⟨c,f,hf,h1,h2,k⟩:=vI j i {a:=((AB G.a G.mu G.ms)[i]).1,b:=G.b,mu:=((AB G.a G.mu G.ms)[i]).2.1,ms:=((AB G.a G.mu G.ms)[i]).2.2} (by unfold GM.succs;rw[List.getElem?_append_left (by simpa using d)];simp[List.getElem?_map,d])
 refine⟨c,h1,h2.imp (λe=>?_) id,k⟩;unfold GM.fresh at hf;rw[List.getElem?_append_left (by simpa using d)]at hf;simp[d]at hf;rw[e]at hf;simpa using hf
def NA.Wp{G:GM}(h:NA G r){q:Lo×Int×Int}(g:q∈AB G.b G.mu G.ms):∃c,NA {a:=G.a,b:=q.1,mu:=q.2.1,ms:=q.2.2} c/\(G.b.pc=.out\/c<r)/\c<27:=by
 have⟨_,l,j⟩:=h.row;obtain⟨i,d,rfl⟩:=am6.1 g;have⟨c,f,hf,h1,h2,k⟩:=vI j ((AB G.a G.mu G.ms).length+i) {a:=G.a,b:=((AB G.b G.mu G.ms)[i]).1,mu:=((AB G.b G.mu G.ms)[i]).2.1,ms:=((AB G.b G.mu G.ms)[i]).2.2} (by unfold GM.succs;rw[List.getElem?_append_right ϛ];simp[List.getElem?_map,d])
 refine⟨c,h1,h2.imp (λe=>?_) id,k⟩;unfold GM.fresh at hf;rw[List.getElem?_append_right ϛ]at hf;simp[d]at hf;rw[e]at hf;simpa using hf
def Sm.step{G H:GG}{r:Nat}(h:Sm G r)(b:H∈G.succs):∃a,Sm H a/\a<r:=by
 have⟨_,d,c⟩:=h.row;exact Bt c H b
structure acX (G:GM):Prop where
 noA:∀q∈AB G.a G.mu G.ms,q.1.pc≠.bad
 noB:∀q∈AB G.b G.mu G.ms,q.1.pc≠.bad
 XY:G.a.waits G.ms=true->G.b.waits G.ms=false/\G.b.pc≠.out
 XX:G.b.waits G.ms=true->G.a.waits G.ms=false/\G.a.pc≠.out
 excl:¬(G.a.pc=.u0/\G.b.pc=.u0)
 NX:∀q∈AB G.a G.mu G.ms,G.b.waits G.ms=true->G.b.waits q.2.2=true\/G.a.pc=.us
 NW:∀q∈AB G.b G.mu G.ms,G.a.waits G.ms=true->G.a.waits q.2.2=true\/G.b.pc=.us
 fits:Sh.fits ⟨G.mu,G.ms,0,0⟩
def NA.facts{G:GM}(h:NA G r):acX G:=by
 have hs:=h.row.1;simp only[GM.safe,χ,ae7,bne_iff_ne,ne_eq,ϑ6,ϓ6,ak7,Bool.or_eq_false_iff,ai5,ae9,ai0]at hs;obtain⟨⟨⟨⟨⟨⟨⟨⟨c1,c2⟩,m⟩,d⟩,g⟩,i⟩,k⟩,j⟩,l⟩:=hs;refine⟨λq f=>?_,λq f=>?_,λe=>?_,λe=>?_,λ⟨x,y⟩=>?_,λq f e=>?_,λq f e=>?_,l⟩;exact(c1 {a:=q.1,b:=G.b,mu:=q.2.1,ms:=q.2.2} (ag4.2 (.inl (ac9.2 ⟨q,f,rfl⟩)))).1;exact(c1 {a:=G.a,b:=q.1,mu:=q.2.1,ms:=q.2.2} (ag4.2 (.inr (ac9.2 ⟨q,f,rfl⟩)))).2;obtain d|d:=d;rw[e]at d;cases d;exact d;refine⟨?_,?_⟩;obtain d|d:=d;exact d;rw[e]at d;exact absurd d.1 ϛ;obtain g|g:=g;rw[e]at g;cases g;exact g;obtain i|i:=i;exact i x;exact i y;rcases k q f with(c|c)|c;rw[e]at c;cases c;exact .inl c;exact .inr c;rcases j q f with(c|c)|c;rw[e]at c;cases c;exact .inl c;exact .inr c
structure acY (G:GG):Prop where
 no:∀H∈G.succs,H.m.pc≠.bad/\H.a.pc≠.bad/\H.b.pc≠.bad
 fin:G.m.pc=.fin->G.a.pc=.quit/\G.b.pc=.quit
 sleep:G.m.pc=.w3->G.ws=0->live G.a=true\/live G.b=true
 NX:G.m.pc=.w3->G.ws=0->∀q∈WG G.a G.wg G.ws,q.2.2=0\/G.a.pc=.d4
 NW:G.m.pc=.w3->G.ws=0->∀q∈WG G.b G.wg G.ws,q.2.2=0\/G.b.pc=.d4
 un1:G.m.pc=.x1\/G.m.pc=.g1->G.a.pc=.un/\G.b.pc=.un
 un2:G.m.pc=.x2\/G.m.pc=.g2->G.a.pc≠.un/\G.b.pc=.un
 on:¬(G.m.pc=.x1\/G.m.pc=.g1\/G.m.pc=.x2\/G.m.pc=.g2)->G.a.pc≠.un/\G.b.pc≠.un
 fits:Sh.fits ⟨0,0,G.wg,G.ws⟩
def Sm.facts{G:GG}(h:Sm G r):acY G:=by
 have hs:=h.row.1;simp only[GG.safe,χ,ae7,bne_iff_ne,ne_eq,ϑ6,ϓ6,ak7,Bool.or_eq_false_iff,ai5,ae9,ai0]at hs;obtain⟨⟨⟨⟨⟨⟨⟨⟨⟨⟨⟨c1,_⟩,_⟩,_⟩,i⟩,k⟩,f⟩,j⟩,g⟩,e⟩,d⟩,c12⟩:=hs;refine⟨λH b=>⟨(c1 H b).1.1,(c1 H b).1.2,(c1 H b).2⟩,λx=>(i.resolve_left λy=>y x),λx y=>?_,λx y q a=>?_,λx y q a=>?_,λx=>?_,λx=>?_,λx=>⟨?_,?_⟩,c12⟩;rcases k with(c|c)|c;exact absurd (c.resolve_left λz=>z x) (by simpa using y);exact .inl c;exact .inr c;obtain c|c:=f;exact absurd (c.resolve_left λz=>z x) (by simpa using y);exact c.1 q a;obtain c|c:=f;exact absurd (c.resolve_left λz=>z x) (by simpa using y);exact c.2 q a;obtain c|c:=j;exact x.elim (λz=>absurd z c.1) λz=>absurd z c.2;exact c;obtain c|c:=g;exact x.elim (λz=>absurd z c.1) λz=>absurd z c.2;exact c;obtain c|c:=e;exact absurd (c.elim .inl λz=>.inr (.inl z)) x;exact c;obtain c|c:=d;exfalso;apply x;rcases c with((c|c)|c)|c;exact .inl c;exact .inr (.inl c);exact .inr (.inr (.inl c));exact .inr (.inr (.inr c));exact c
end gz
end
section
open Go.Conc
namespace gz
inductive bE where
 |m|a|b
 deriving DecidableEq,Repr
def gid(n0:Nat):bE->Nat
 |.m=>0
 |.a=>n0
 |.b=>n0+1
def lT(h:0<n0){r a:bE}(e:gid n0 r=gid n0 a):r=a:=by
 cases r<;>cases a<;>simp[gid]at e<;>first|rfl|omega
def Ko(h:0<n0){r:bE}(hr:r≠.m):gid n0 r≠0:=by cases r<;>simp[gid]at hr⊢;omega
def nT(c:Nat)(l:Loc):Prop:=(∃a:Addr,l=.cell a/\a.block=c)\/l=.obj c
def nT.mem{c:Nat}{l:Loc}(h:nT c l):l.isMemory=true:=by obtain⟨a,rfl,_⟩|rfl:=h<;>rfl
def nT.uniq{c b:Nat}{l:Loc}(h:nT c l)(d:nT b l):c=b:=by
 obtain⟨a,rfl,e⟩|rfl:=h<;>rcases d with⟨a',e1,e2⟩|e1<;>cases e1
 rw[<-e,<-e2];rfl
def nT.low{c B:Nat}{l:Loc}(h:nT c l)(b:l.low B):c<B:=by
 obtain⟨a,rfl,e⟩|rfl:=h;rw[<-e];exact b;exact b
def KX{a:MemAct}{x:Touch}{B:Nat}(h:a.touch?=some x)(b:a.low B):x.loc.low B:=by
 cases a with
 |access e=>simp[MemAct.touch?]at h;subst h;exact b
 |mark m=>cases m<;>simp[MemAct.touch?]at h<;>(subst h;exact b)
 |_=>simp[MemAct.touch?]at h
structure TI (n0:Nat)(Sh:Loc->Prop)(RO:bE->Loc->Prop)(lv:bE->Prop)(own:bE->Nat->Prop)(M:Nat)(hold:Option bE)(mA wA:Addr)(B:Nat)(t:Trace):Prop where
 clean:∀said,¬Race said t
 quiet:∀i x,touchAt t i=some x->Sh x.loc->x.kind=.atomic\/(x.kind=.said/\t.g? i=some 0)\/∀r,lv r->Knows t (gid n0 r) i
 own:∀r c,own r c->∀i x,touchAt t i=some x->nT c x.loc->Knows t (gid n0 r) i
 ro:∀r i x,touchAt t i=some x->RO r x.loc->x.write=true->Knows t (gid n0 r) i
 guard:hold=none->∀i x,touchAt t i=some x->nT M x.loc->(∀r,lv r->Knows t (gid n0 r) i)\/∃p,t.act? p=some (.mark (.releaseMerge mA))/\t.heard p/\Before t i p
 base:∀i x,touchAt t i=some x->x.loc.isMemory=true->(∃r,r≠.m/\lv r/\t.g? i=some (gid n0 r))\/Knows t 0 i\/(Sh x.loc/\x.kind=.atomic)
 work:∀i x,touchAt t i=some x->x.loc.isMemory=true->∀r,r≠.m->lv r->t.g? i=some (gid n0 r)->t.counts i\/(Sh x.loc/\x.kind=.atomic)
 over:∀i g,t.g? i=some g->g≠0->t.counts i->(∃r,r≠.m/\lv r/\g=gid n0 r)\/∃j,t.g? j=some 0/\HappensBefore t i j
 ids:∀i g,t.g? i=some g->n0<=g->∃r,r≠.m/\lv r/\g=gid n0 r
 TW:NoRelease mA t
 nrW:NoRelease wA t
 low:∀op∈t,op.act.low B
structure Ap (Sh:Loc->Prop)(RO:bE->Loc->Prop)(lv:bE->Prop)(own:bE->Nat->Prop)(M:Nat)(hold:Option bE)(B:Nat):Prop where
 ownSh:∀r c l,own r c->nT c l->¬Sh l
 Wz:∀r c l r',own r c->nT c l->¬RO r' l
 apart:∀r r' c,own r c->own r' c->r=r'
 aeP:∀r l,RO r l->¬Sh l
 mem:∀l,nT M l->¬Sh l/\∀r,¬RO r l
 held:∀r,own r M->hold=some r
 lv:∀r c,own r c->lv r
 newer:∀c l,nT c l->B<=c->¬Sh l/\∀r,¬RO r l
 Dx:M<B
 akQ:∀r c,own r c->c<B
 aer:∀l,Sh l->l.isMemory=true
 aeQ:∀r l,RO r l->l.isMemory=true
def OkOp(n0:Nat)(Sh:ϧ)(RO:bE->Loc->Prop)(own:bE->Nat->Prop)(mA wA:Addr)(B B':Nat)(r:bE)(a:MemOp):Prop:=
 a.g=gid n0 r/\a.act≠.mark (.release mA)/\a.act≠.mark (.release wA)/\a.act.low B'/\
 ∀x,a.act.touch?=some x->(Sh x.loc/\(x.kind=.atomic\/(x.kind=.said/\r=.m)))\/(∃c,nT c x.loc/\(own r c\/(B<=c/\c<B')))\/(RO r x.loc/\x.write=false)\/x.loc.isMemory=false
def grow(own:bE->Nat->Prop)(B B':Nat)(r:bE):bE->Nat->Prop:=λa c=>own a c\/(a=r/\B<=c/\c<B')
section
variable {n0:Nat}{Sh:Loc->Prop}{RO:bE->Loc->Prop}{lv:bE->Prop}{own:bE->Nat->Prop}{M:Nat}{hold:Option bE}{mA wA:Addr}{B B':Nat}{t u:Trace}
def gW(h:(t++u).g? i=some g):(i<t.size/\t.g? i=some g)\/(t.size<=i/\∃a∈u,a.g=g):=by
 have⟨a,b,hg⟩:=ψ.1 h;obtain⟨h1,h2⟩|⟨h1,h2⟩:=getElem?_append_cases b;exact .inl ⟨h1,by simp[Trace.g?,h2,hg]⟩;exact .inr ⟨h1,a,h2,hg⟩
def cF{x:Touch}(h:touchAt (t++u) i=some x):(i<t.size/\touchAt t i=some x)\/(t.size<=i/\∃a∈u,(t++u)[i]?=some a/\a.act.touch?=some x):=by
 have⟨a,b,c⟩:=touch_of h;obtain⟨h1,h2⟩|⟨h1,h2⟩:=getElem?_append_cases b;exact .inl ⟨h1,by rw[touchAt_of h2];exact c⟩;exact .inr ⟨h1,a,h2,b,c⟩
def TI.app(Z:0<n0)(A:Ap Sh RO lv own M hold B)(h:TI n0 Sh RO lv own M hold mA wA B t){r:bE}(hr:lv r)(T:B<=B')(o:∀b∈u,OkOp n0 Sh RO own mA wA B B' r b)(W:r≠.m->∀i x,t.size<=i->touchAt (t++u) i=some x->x.loc.isMemory=true->(t++u).counts i\/(Sh x.loc/\x.kind=.atomic)):
  TI n0 Sh RO lv (grow own B B' r) M hold mA wA B' (t++u):=by
 have D:∀{i:Nat}{b:MemOp},t.size<=i->(t++u)[i]?=some b->b∈u->Knows (t++u) (gid n0 r) i:=fun {i b} _ d hm=>by
  have:=knows_own d
  rwa [(o b hm).1]at this
 have Q:∀{i:Nat}{x:Touch},touchAt t i=some x->x.loc.low B:=fun {i x} n=>by have⟨b,d,l⟩:=touch_of n;exact KX l (h.low b (mem_of_getElem? d))
 refine⟨λI=>noRace_append (h.clean I) (λb d=>(o b d).1) λi x n b d y S w=>?_,λi x n hs=>?_,λs c v i x n m=>?_,λs i x n f H=>?_,λP i x n m=>?_,λi x n hm=>?_,λi x n hm s G L hg=>?_,λi g hg h0 J=>?_,λi g hg E=>?_,?_,?_,λb d=>?_⟩;have q:x.loc=y.loc:=w.1;rcases(o b d).2.2.2.2 y S with⟨hs,hk⟩|⟨c,m,a⟩|⟨f,H⟩|hnm;obtain e|⟨e,hg⟩|e:=h.quiet i x n (q▸hs);exfalso;obtain z|z|⟨_,z,_⟩:=w.2.2.2;rw[e]at z;cases z;obtain k|⟨k,_⟩:=hk<;>rw[k]at z<;>cases z
 rw[e]at z;cases z;obtain z|z|⟨_,_,z⟩:=w.2.2.2;rw[e]at z;cases z;obtain k|⟨k,_⟩:=hk<;>rw[k]at z<;>cases z
 obtain k|⟨_,k⟩:=hk;rw[k]at z;cases z;subst k;have⟨z',N,O⟩:=ψ.1 hg;have:=knows_own N
 rwa [O]at this
 exact e r hr;obtain a|⟨h1,h2⟩:=a;exact h.own r c a i x n (q▸m);exact absurd (nT.low (q▸m) (Q n)) ϖ;exact h.ro r i x n (q▸f) (w.2.2.1.resolve_right (by simp[H]));have:=w.2.1;rw[q,hnm]at this;cases this;obtain⟨h1,h2⟩|⟨h1,b,hop,d,l⟩:=cF n;obtain e|⟨e,hg⟩|e:=h.quiet i x h2 hs;exact .inl e;exact .inr (.inl ⟨e,by rw[g?_old h1];exact hg⟩);exact .inr (.inr λs F=>(e s F).app u);rcases(o b hop).2.2.2.2 x l with⟨_,hk⟩|⟨c,m,a⟩|⟨f,_⟩|hnm;obtain k|⟨k,rfl⟩:=hk;exact .inl k;exact .inr (.inl ⟨k,by simp[Trace.g?,d,(o b hop).1,gid]⟩);obtain a|⟨C,_⟩:=a;exact absurd hs (A.ownSh r c _ a m);exact absurd hs (A.newer c _ m C).1;exact absurd hs (A.aeP _ _ f);rw[A.aer _ hs]at hnm;cases hnm;obtain⟨h1,h2⟩|⟨h1,b,hop,d,l⟩:=cF n;obtain v|⟨rfl,C,h4⟩:=v;exact(h.own s c v i x h2 m).app u;exact absurd (nT.low m (Q h2)) ϖ;have key:s=r:=by
  rcases(o b hop).2.2.2.2 x l with⟨hs,_⟩|⟨c',hb',a⟩|⟨f,_⟩|hnm;obtain v|⟨e,C,_⟩:=v;exact absurd hs (A.ownSh s c _ v m);exact(A.newer c _ m C).1 hs|>.elim
  obtain rfl:=nT.uniq m hb';obtain v|⟨e,_⟩:=v;obtain a|⟨C,_⟩:=a;exact A.apart _ _ _ v a;have:=A.akQ s c v;omega;exact e;obtain v|⟨e,_⟩:=v;exact absurd f (A.Wz s c _ _ v m);exact e;rw[nT.mem m]at hnm;cases hnm
 subst key;exact D h1 d hop;obtain⟨h1,h2⟩|⟨h1,b,hop,d,l⟩:=cF n;exact(h.ro s i x h2 f H).app u;exfalso;rcases(o b hop).2.2.2.2 x l with⟨hs,_⟩|⟨c',hb',a⟩|⟨_,hw'⟩|hnm;exact A.aeP _ _ f hs;obtain a|⟨C,_⟩:=a;exact A.Wz r c' _ _ a hb' f;exact(A.newer c' _ hb' C).2 _ f;rw[hw']at H;cases H;rw[A.aeQ _ _ f]at hnm;cases hnm;obtain⟨h1,h2⟩|⟨h1,b,hop,d,l⟩:=cF n;obtain hk|⟨p,p1,V,U⟩:=h.guard P i x h2 m;exact .inl λs F=>(hk s F).app u
 have R:=lt_of_act? p1;exact .inr ⟨p,by rw[act?_old R];exact p1,(heard_old R).2 V,U.app u⟩;exfalso;rcases(o b hop).2.2.2.2 x l with⟨hs,_⟩|⟨c',hb',a⟩|⟨f,_⟩|hnm;exact(A.mem _ m).1 hs;obtain rfl:=nT.uniq m hb';obtain a|⟨C,_⟩:=a;rw[A.held r a]at P;cases P;have:=A.Dx;omega;exact(A.mem _ m).2 _ f;rw[nT.mem m]at hnm;cases hnm;obtain⟨h1,h2⟩|⟨h1,b,hop,d,l⟩:=cF n;obtain⟨s,z1,z2,z3⟩|z|z:=h.base i x h2 hm;exact .inl ⟨s,z1,z2,by rw[g?_old h1];exact z3⟩;exact .inr (.inl (z.app u));exact .inr (.inr z);by_cases e:r=.m;subst e;exact .inr (.inl (D h1 d hop));exact .inl ⟨r,e,hr,by simp[Trace.g?,d,(o b hop).1]⟩;obtain⟨h1,h2⟩|⟨h1,b,hop,d,l⟩:=cF n;rw[g?_old h1]at hg;rw[counts_old h1];exact h.work i x h2 hm s G L hg;have:gid n0 r=gid n0 s:=by simpa[Trace.g?,d,(o b hop).1] using hg
 have e:=lT Z this;subst e;exact W G i x h1 n hm;obtain⟨h1,h2⟩|⟨h1,b,hop,hog⟩:=gW hg;obtain z|⟨j,K,Y⟩:=h.over i g h2 h0 ((counts_old h1).1 J);exact .inl z;have X:j<t.size:=by unfold Trace.g? at K;have⟨z,N,_⟩:=ψ.1 K;exact lt_size_of_getElem? N
 exact .inr ⟨j,by rw[g?_old X];exact K,hb_app u Y⟩;by_cases e:r=.m;subst e;rw[<-hog,(o b hop).1]at h0;exact absurd rfl h0;exact .inl ⟨r,e,hr,by rw[<-hog,(o b hop).1]⟩;obtain⟨h1,h2⟩|⟨h1,b,hop,hog⟩:=gW hg;exact h.ids i g h2 E;by_cases e:r=.m;subst e;rw[<-hog,(o b hop).1]at E;simp[gid]at E;omega;exact⟨r,e,hr,by rw[<-hog,(o b hop).1]⟩;exact h.TW.app λb d=>(o b d).2.1
 exact h.nrW.app λb d=>(o b d).2.2.1
 obtain d|d:=ai1.1 d;exact MemAct.low_mono T (h.low b d);exact(o b d).2.2.2.1
theorem TI.mute(h:TI n0 Sh RO lv own M hold mA wA B t)(hg:g≠0)(hg0:g<n0\/∃r,r≠.m/\lv r/\g=gid n0 r)(hu:∀op∈u,op.g=g/\op.act.touch?=none/\op.act.low B/\op.act≠.mark (.release mA)/\op.act≠.mark (.release wA)):TI n0 Sh RO lv own M hold mA wA B (t++u):=by
 have old:∀{i:Nat}{x:Touch},touchAt (t++u) i=some x->i<t.size/\touchAt t i=some x:=fun {i x} hx=>by
  rcases cF hx with h1|⟨_,op,hop,_,hox⟩
  .exact h1
  .rw[(hu op hop).2.1]at hox;cases hox
 refine⟨λsaid=>noRace_append (h.clean said) (g:=g) (λop ho=>(hu op ho).1) (λi x _ op ho y hy _=>by rw[(hu op ho).2.1]at hy;cases hy),λi x hx hs=>?_,λr' c ho i x hx hb=>(h.own r' c ho i x (old hx).2 hb).app u,λr' i x hx hro hw=>(h.ro r' i x (old hx).2 hro hw).app u,λhe i x hx hb=>?_,λi x hx hm=>?_,λi x hx hm r' hr1 hr2 hg'=>?_,λi g' hg' h0 hcn=>?_,λi g' hg' hge=>?_,h.TW.app λop ho=>(hu op ho).2.2.2.1,h.nrW.app λop ho=>(hu op ho).2.2.2.2,λop ho=>(ai1.1 ho).elim (h.low op) λho=>(hu op ho).2.2.1⟩
 .obtain⟨h1,h2⟩:=old hx
  rcases h.quiet i x h2 hs with e|⟨e,hg⟩|e
  .exact .inl e
  .exact .inr (.inl ⟨e,by rw[g?_old h1];exact hg⟩)
  .exact .inr (.inr λr' hr'=>(e r' hr').app u)
 .rcases h.guard he i x (old hx).2 hb with hk|⟨p,p1,p2,p3⟩
  .exact .inl λr' hr'=>(hk r' hr').app u
  .have hp:=lt_of_act? p1
   exact .inr ⟨p,by rw[act?_old hp];exact p1,(heard_old hp).2 p2,p3.app u⟩
 .obtain⟨h1,h2⟩:=old hx
  rcases h.base i x h2 hm with⟨r',z1,z2,z3⟩|z|z
  .exact .inl ⟨r',z1,z2,by rw[g?_old h1];exact z3⟩
  .exact .inr (.inl (z.app u))
  .exact .inr (.inr z)
 .obtain⟨h1,h2⟩:=old hx
  rw[g?_old h1]at hg';rw[counts_old h1];exact h.work i x h2 hm r' hr1 hr2 hg'
 .rcases gW hg' with⟨h1,h2⟩|⟨h1,op,hop,hog⟩
  .rcases h.over i g' h2 h0 ((counts_old h1).1 hcn)with z|⟨j,j1,j2⟩
   .exact .inl z
   .have hj:j<t.size:=by
     unfold Trace.g? at j1;obtain⟨z,hz,_⟩:=ψ.1 j1;exact lt_size_of_getElem? hz
    exact .inr ⟨j,by rw[g?_old hj];exact j1,hb_app u j2⟩
  .exfalso
   obtain⟨x,hx,_⟩:=hcn;exact absurd (old hx).1 ϖ
 .rcases gW hg' with⟨h1,h2⟩|⟨h1,op,hop,hog⟩
  .exact h.ids i g' h2 hge
  .rw[<-hog,(hu op hop).1]at hge⊢
   rcases hg0 with h0|h0
   .omega
   .exact h0
theorem TI.acquire{r:bE}(h:TI n0 Sh RO lv own M none mA wA B t)(hr:lv r){z:MemOp}(hg:z.g=gid n0 r)(hz:z.act=.mark (.acquire mA))(hd:Deaf t (gid n0 r)=0)(h':TI n0 Sh RO lv own M none mA wA B (t++#[z])):TI n0 Sh RO lv (λr' c=>own r' c\/(r'=r/\c=M)) M (some r) mA wA B (t++#[z]):=by
 have hn:z.act.touch?=none:=by rw[hz];rfl
 have hq:(t++#[z])[t.size]?=some z:=ϛ
 refine⟨h'.clean,h'.quiet,λr' c ho i x hx hb=>?_,h'.ro,(λe=>by cases e),h'.base,h'.work,h'.over,h'.ids,h'.TW,h'.nrW,h'.low⟩;rcases ho with ho|⟨rfl,rfl⟩
 .exact h'.own r' c ho i x hx hb
 .have hx':touchAt t i=some x:=by
   rcases cF hx with⟨_,h2⟩|⟨_,op,hop,_,hox⟩
   .exact h2
   .simp at hop;subst hop;rw[hn]at hox;cases hox
  rcases h.guard rfl i x hx' hb with hk|⟨p,h1,h2,h3⟩
  .exact(hk _ hr).app _
  .have hp:=lt_of_act? h1
   have edge:HappensBefore (t++#[z]) p t.size:=.single (.inr ⟨.marked hp (.inr (by rw[act?_old hp];exact h1)) (by rw[act?_of hq,hz]) (λk _ _=>h'.TW k),(heard_old hp).2 h2,
    ⟨gid n0 r',by simp[Trace.g?,hg],by rw[deaf_old (ε _)];exact hd⟩⟩)
   exact⟨t.size,z,hq,hg,.inr ((h3.app #[z]).hb edge)⟩
def TI.release{r:bE}(b:own r M)(h:TI n0 Sh RO lv own M (some r) mA wA B t){y:MemOp}(hg:y.g=gid n0 r)(k:y.act=.mark (.releaseMerge mA))(hd:Deaf t (gid n0 r)=0)(a:TI n0 Sh RO lv own M (some r) mA wA B (t++#[y])):TI n0 Sh RO lv (λd c=>own d c/\c≠M) M none mA wA B (t++#[y]):=by
 have m:y.act.touch?=none:=by rw[k];rfl
 have j:(t++#[y])[t.size]?=some y:=ϛ;refine⟨a.clean,a.quiet,λd c l i x e g=>a.own d c l.1 i x e g,a.ro,λ_ i x e g=>.inr ⟨t.size,by rw[act?_of j,k],⟨gid n0 r,by simp[Trace.g?,hg],by rw[deaf_old (ε _)];exact hd⟩,.inr ?_⟩,a.base,a.work,a.over,a.ids,a.TW,a.nrW,a.low⟩;have f:touchAt t i=some x:=by obtain⟨_,h2⟩|⟨_,op,hop,_,hox⟩:=cF e;exact h2;simp at hop;subst hop;rw[m]at hox;cases hox
 exact(h.own r M b i x f g).hb_new (ε _) j hg
def TI.fork{r:bE}(hm:lv .m)(hr:r≠.m)(h:TI n0 Sh RO lv own M hold mA wA B t){x y:MemOp}(G:x.g=0/\x.act=.go (gid n0 r))(A:y.g=gid n0 r/\y.act=.start)(h0:Deaf t 0=0)(hk:Deaf t (gid n0 r)=0)(Z:0<n0)(T:∀i g,t.g? i=some g->g≠gid n0 r):
  TI n0 Sh (λd l=>if d=.m\/d=r then RO .m l\/∃c,own .m c/\nT c l else RO d l) (λd=>lv d\/d=r) (λd c=>own d c/\d≠.m/\d≠r) M hold mA wA B (t++#[x,y]):=by
 have w:∀f∈#[x,y],f=x\/f=y:=by intro f a;simpa using a
 have C:∀f∈#[x,y],∀b,f.act.touch?=some b->False:=by intro f a b n;obtain rfl|rfl:=w f a;rw[G.2]at n;cases n;rw[A.2]at n;cases n
 have m:∀{i:Nat}{b:Touch},touchAt (t++#[x,y]) i=some b->i<t.size/\touchAt t i=some b:=by intro i b n;obtain h1|⟨_,f,a,_,S⟩:=cF n;exact h1;exact(C f a b S).elim
 have u:∀{i:Nat},Knows t 0 i->Knows (t++#[x,y]) (gid n0 r) i:=λs=>ConcN.fork_knows G A h0 hk s
 have U:∀{i:Nat},(∀d,lv d->Knows t (gid n0 d) i)->∀d,lv d\/d=r->Knows (t++#[x,y]) (gid n0 d) i:=λs d F=>by obtain F|rfl:=F;exact(s d F).app _;exact u (s .m hm)
 refine⟨λJ=>?_,λi z q hs=>?_,λd c v i z q n=>(h.own d c v.1 i z (m q).2 n).app _,λd i z q o V=>?_,λhe i z q n=>?_,λi z q D=>?_,λi z q D d P E k=>?_,λi g' k R H=>?_,λi g' k Q=>?_,h.TW.app λf v=>?_,h.nrW.app λf v=>?_,λf v=>?_⟩;have e:t++#[x,y]=(t++#[x])++#[y]:=by apply Array.ext';simp
 rw[e];refine noRace_append (g:=gid n0 r) (noRace_append (g:=0) (h.clean J) (λf a=>by simp at a;rw[a];exact G.1) λi b _ f a c L _=>(C f (by simp at a⊢;exact .inl a) c L).elim)
  (λf a=>by simp at a;rw[a];exact A.1) λi b _ f a c L _=>(C f (by simp at a⊢;exact .inr a) c L).elim
 have⟨h1,h2⟩:=m q;obtain e|⟨e,hg⟩|e:=h.quiet i z h2 hs;exact .inl e;exact .inr (.inl ⟨e,by rw[g?_old h1];exact hg⟩);exact .inr (.inr (U e));have⟨h1,h2⟩:=m q;by_cases e:d=.m\/d=r;rw[κ e]at o;have I:Knows t 0 i:=by obtain o|⟨c,L,n⟩:=o;exact h.ro .m i z h2 o V;exact h.own .m c L i z h2 n
 obtain rfl|rfl:=e;exact I.app _;exact u I;rw[Γ e]at o;exact(h.ro d i z h2 o V).app _;have⟨h1,h2⟩:=m q;obtain s|⟨p,p1,Y,X⟩:=h.guard he i z h2 n;exact .inl (U s);have W:=lt_of_act? p1;exact .inr ⟨p,by rw[act?_old W];exact p1,(heard_old W).2 Y,X.app _⟩;have⟨h1,h2⟩:=m q;obtain⟨d,K,O,N⟩|z'|z':=h.base i z h2 D;exact .inl ⟨d,K,.inl O,by rw[g?_old h1];exact N⟩;exact .inr (.inl (z'.app _));exact .inr (.inr z');have⟨h1,h2⟩:=m q;rw[g?_old h1]at k;rw[counts_old h1];obtain E|rfl:=E;exact h.work i z h2 D d P E k;exact absurd rfl (T i _ k);obtain⟨h1,h2⟩|⟨h1,f,a,hog⟩:=gW k;obtain⟨d,K,O,N⟩|⟨j,j1,j2⟩:=h.over i g' h2 R ((counts_old h1).1 H);exact .inl ⟨d,K,.inl O,N⟩;have hj:j<t.size:=by unfold Trace.g? at j1;have⟨z,q,_⟩:=ψ.1 j1;exact lt_size_of_getElem? q
 exact .inr ⟨j,by rw[g?_old hj];exact j1,hb_app _ j2⟩;exfalso;have⟨b,n,_⟩:=H;exact absurd (m n).1 ϖ;obtain⟨h1,h2⟩|⟨h1,f,a,hog⟩:=gW k;have⟨d,K,O,N⟩:=h.ids i g' h2 Q;exact⟨d,K,.inl O,N⟩;obtain rfl|rfl:=w f a;rw[G.1]at hog;omega;exact⟨r,hr,.inr rfl,hog.symm.trans A.1⟩;obtain rfl|rfl:=w f v;rw[G.2];simp;rw[A.2];simp;obtain rfl|rfl:=w f v;rw[G.2];simp;rw[A.2];simp;obtain v|v:=ai1.1 v;exact h.low f v;obtain rfl|rfl:=w f v;rw[G.2];trivial;rw[A.2];trivial
theorem TI.join(hn:0<n0)(h:TI n0 Sh RO lv own M hold mA wA B t){z:MemOp}(hg:z.g=0)(hz:z.act=.mark (.acquire wA))(hd:Deaf t 0=0)(hl:z.act.low B)(hrel:∀r,r≠.m->lv r->∃p,ConcN.RelBy wA t (gid n0 r) p):Past Sh B (t++#[z]):=by
 have hn':z.act.touch?=none:=by rw[hz];rfl
 have hq:(t++#[z])[t.size]?=some z:=ϛ
 have old:∀{i:Nat}{b:Touch},touchAt (t++#[z]) i=some b->i<t.size/\touchAt t i=some b:=by
  intro i b hb;rcases cF hb with h1|⟨_,op,hop,_,hox⟩
  .exact h1
  .simp at hop;subst hop;rw[hn']at hox;cases hox
 have hnr:NoRelease wA (t++#[z]):=h.nrW.app λop ho=>by simp at ho;subst ho;rw[hz];simp
 have edge:∀r p,ConcN.RelBy wA t (gid n0 r) p->HappensBefore (t++#[z]) p t.size:=λr p hp=>by
  have hlt:=lt_of_act? hp.act;exact .single (.inr ⟨.marked hlt (.inr (by rw[act?_old hlt];exact hp.act)) (by rw[act?_of hq,hz]) (λk _ _=>hnr k),(heard_old hlt).2 hp.heard,⟨0,by simp[Trace.g?,hg],by rw[deaf_old (ε _)];exact hd⟩⟩)
 have cnt:∀r i,r≠.m->lv r->t.g? i=some (gid n0 r)->t.counts i->HappensBefore (t++#[z]) i t.size:=λr i h1 h2 hgi hc=>by
  obtain⟨p,hp⟩:=hrel r h1 h2;have hle:i<=p:=Nat.le_of_not_lt λhlt=>hp.after i hlt hgi hc
  have hlt:=lt_of_act? hp.act;rcases am0 i p with vg|vg
  .refine .trans (hb_app #[z] (.single (.inl ⟨vg,_,hgi,hp.g⟩))) (edge r p hp)
  .obtain rfl:i=p:=ϖ
   exact edge r _ hp
 have k0:∀{i:Nat},HappensBefore (t++#[z]) i t.size->Knows (t++#[z]) 0 i:=λhb=>⟨t.size,z,hq,hg,.inr hb⟩
 refine⟨λsaid=>noRace_append (h.clean said) (g:=0) (λop ho=>by simp at ho;rw[ho];exact hg) (λi x _ op ho y hy _=>by simp at ho;subst ho;rw[hn']at hy;cases hy),λi x hx hm=>?_,λi g hgi hne hc=>?_,?_,λop ho=>?_⟩
 .obtain⟨h1,h2⟩:=old hx
  rcases h.base i x h2 hm with⟨r,z1,z2,z3⟩|z'|z'
  .rcases h.work i x h2 hm r z1 z2 z3 with hc|hs
   .exact .inl (k0 (cnt r i z1 z2 z3 hc))
   .exact .inr hs
  .exact .inl (z'.app _)
  .exact .inr z'
 .rcases gW hgi with⟨h1,h2⟩|⟨h1,op,hop,hog⟩
  .have hc':=(counts_old h1).1 hc
   rcases h.over i g h2 hne hc' with⟨r,z1,z2,rfl⟩|⟨j,j1,j2⟩
   .exact⟨t.size,by simp[Trace.g?,hg],cnt r i z1 z2 h2 hc'⟩
   .have hj:j<t.size:=by
     unfold Trace.g? at j1;obtain⟨z,hz,_⟩:=ψ.1 j1;exact lt_size_of_getElem? hz
    exact⟨j,by rw[g?_old hj];exact j1,hb_app _ j2⟩
  .simp at hop;subst hop;exact absurd (hog.symm.trans hg) hne
 .rw[ConcN.Deaf_still _ _ _ λop ho=>by simp at ho;subst ho;rw[hz];simp];exact hd
 .rcases ai1.1 ho with ho|ho
  .exact h.low op ho
  .simp at ho;subst ho;exact hl
end
end gz
abbrev eH:=Nat->Question->Nat
def az(w:Φ)(t:eH)(d:Nat):Φ:={w with tape:=t,drawn:=d}
def AW(w:Φ)(t t':eH)(d a:Nat):az (az w t d) t' a=az w t' a:=rfl
def qH(w:Φ):az w w.tape w.drawn=w:=rfl
structure sF (g:Ω):Prop where
 run:g.status=.running
 dying:g.dying=none
 offers:g.offers=none
 calm:∀ch,g.frame.mode≠.panicking ch
inductive Rk where
 |zero
 |mk (f:Φ->Rk)
def Rk.Lt(a b:Rk):Prop:=∃f w,b=.mk f/\a=f w
def Rk.acc:∀a:Rk,Acc Rk.Lt a
 |.zero=>⟨_,λb ⟨f,w,h,_⟩=>by cases h⟩
 |.mk f=>⟨_,λb ⟨f',w,h,e⟩=>by cases h;subst e;exact Rk.acc (f w)⟩
def Rk.wf:WellFounded Rk.Lt:=⟨Rk.acc⟩
structure Co (S:Type) where
 R:S->Φ->Φ->Prop
 D:S->Φ->Φ->Array Event->Prop
 up:S->Φ->Φ->S
 refl:∀s w,R s w w
 trans:∀s a b c,R s a b->R s b c->R s a c
section
variable {S:Type}(P:aa1)(main:Bool)(C:Co S)
def iW(Stop:S->Ω->Φ->Prop):Rk->S->Ω->Φ->Prop
 |.zero,s,g,w=>∀w₁,C.R s w w₁->Stop s g w₁
 |.mk f,s,g,w=>(∀w₁,C.R s w w₁->Stop s g w₁)\/
   (g.status=.running/\∀w₁,C.R s w w₁->∃g' w' es,stepG P main g w₁=.go g' w' es/\C.D s w₁ w' es/\iW Stop (f w₁) (C.up s w₁ w') g' w')
def aJ(Stop:S->Ω->Φ->Prop)(s:S)(g:Ω)(w:Φ):Prop:=∃r,iW P main C Stop r s g w
end
section
variable {S:Type}{P:aa1}{main:Bool}{C:Co S}{Stop Stop':S->Ω->Φ->Prop}{s:S}{g:Ω}{w:Φ}
def aJ.stop(h:∀w₁,C.R s w w₁->Stop s g w₁):aJ P main C Stop s g w:=⟨.zero,h⟩
def aJ.step(hs:g.status=.running)(h:∀w₁,C.R s w w₁->∃g' w' es,stepG P main g w₁=.go g' w' es/\C.D s w₁ w' es/\aJ P main C Stop (C.up s w₁ w') g' w'):
  aJ P main C Stop s g w:=by
 have a:∀w₁,∃r,C.R s w w₁->∃g' w' es,stepG P main g w₁=.go g' w' es/\C.D s w₁ w' es/\iW P main C Stop r (C.up s w₁ w') g' w':=by intro w₁;by_cases hr:C.R s w w₁;have⟨g',w',es,h1,h2,r,b⟩:=h w₁ hr;exact⟨r,λ_=>⟨g',w',es,h1,h2,b⟩⟩;exact⟨.zero,λx=>absurd x hr⟩
 let f:Φ->Rk:=λw₁=>(a w₁).choose
 exact⟨.mk f,.inr ⟨hs,λw₁ hr=>(a w₁).choose_spec hr⟩⟩
def iW.rely{r:Rk}{w₁:Φ}(h:iW P main C Stop r s g w)(hr:C.R s w w₁):iW P main C Stop r s g w₁:=by
 cases r with|zero=>exactλb a=>h b (C.trans _ _ _ _ hr a)|mk f=>exact h.imp (λh b a=>h b (C.trans _ _ _ _ hr a)) λh=>⟨h.1,λb a=>h.2 b (C.trans _ _ _ _ hr a)⟩
def aJ.rely{w₁:Φ}(h:aJ P main C Stop s g w)(hr:C.R s w w₁):aJ P main C Stop s g w₁:=let⟨r,x⟩:=h;⟨r,x.rely hr⟩
def iW.bind:∀{r:Rk}{s:S}{g:Ω}{w:Φ},iW P main C Stop r s g w->(∀s g w,Stop s g w->aJ P main C Stop' s g w)->aJ P main C Stop' s g w:=by
 intro r;induction r with
 |zero=>exactλh k=>k _ _ _ (h _ (C.refl ..))
 |mk f b=>intro s g w h k;obtain h|⟨hs,h⟩:=h;exact k _ _ _ (h _ (C.refl ..));exact aJ.step hs λw₁ hr=>let⟨g',w',es,h1,h2,a⟩:=h w₁ hr;⟨g',w',es,h1,h2,b w₁ a k⟩
def aJ.bind(h:aJ P main C Stop s g w)(k:∀s g w,Stop s g w->aJ P main C Stop' s g w):aJ P main C Stop' s g w:=let⟨_,x⟩:=h;x.bind k
theorem aJ.mono(h:aJ P main C Stop s g w)(k:∀s g w,Stop s g w->Stop' s g w):aJ P main C Stop' s g w:=by
 obtain⟨r,h⟩:=h;induction r generalizing s g w with
 |zero=>exact .stop λw₁ hr=>k _ _ _ (h w₁ hr)
 |mk f b=>
  obtain h|⟨hs,h⟩:=h;exact .stop λw₁ hr=>k _ _ _ (h w₁ hr)
  exact aJ.step hs λw₁ hr=>let⟨g',w',es,h1,h2,a⟩:=h w₁ hr;⟨g',w',es,h1,h2,b w₁ a⟩
def aJ.silent(hs:g.status=.running)(h:∀w₁,stepG P main g w₁=.go g' w₁)(b:∀w₁,C.R s w w₁->C.D s w₁ w₁ #[])(a:∀w₁,C.up s w₁ w₁=s)(k:aJ P main C Stop s g' w):aJ P main C Stop s g w:=
 aJ.step hs λw₁ hr=>⟨g',w₁,#[],h w₁,b w₁ hr,by rw[a];exact k.rely hr⟩
end
section
variable (P:aa1)(Fin:Ω->Φ->Prop)
def Run:Nat->Ω->Φ->Ω->Φ->Prop
 |0,g,w,g',w'=>g'=g/\w'=w
 |n+1,g,w,g',w'=>∃a w1 es,stepG P true g w=.go a w1 es/\sF a/\Run n a w1 g' w'
def Ends(g:Ω)(w:Φ):Prop:=∀t d,∃n g' w',Run P n g (az w t d) g' w'/\Fin g' w'
def Shifts(J:Ω->Φ->Prop):Prop:=∀(g:Ω)(w:Φ)(t:eH)(d:Nat)(g':Ω)(w':Φ)(es:Ϛ),J g w->stepG P true g (az w t d)=.go g' w' es->sF g'->
 J g' w'/\∃c,w'=az w' t (d+c)/\∀t2 d2,(∀i,i<c->t2 (d2+i)=t (d+i))->stepG P true g (az w t2 d2)=.go g' (az w' t2 (d2+c)) es
inductive LT:Ω->Φ->Prop
 |stop {g:Ω}{w:Φ} (h:Fin g w):LT g w
 |step {g:Ω}{w:Φ} (nx:eH->Nat->Ω×Φ×Array Event) (h:∀t d,stepG P true g (az w t d)=.go (nx t d).1 (nx t d).2.1 (nx t d).2.2)
   (ok:∀t d,sF (nx t d).1) (k:∀t d,LT (nx t d).1 (nx t d).2.1):LT g w
end
section
variable {P:aa1}{Fin J:Ω->Φ->Prop}
def Run.fn:∀{n:Nat}{g:Ω}{w:Φ}{a:Ω}{v:Φ}{b:Ω}{u:Φ},Run P n g w a v->Run P n g w b u->a=b/\v=u
 |0,_,_,_,_,_,_,h,k=>⟨h.1.trans k.1.symm,h.2.trans k.2.symm⟩
 |n+1,_,_,_,_,_,_,⟨g1,w1,es,h1,_,h2⟩,⟨g2,w2,es2,k1,_,k2⟩=>by rw[h1]at k1;cases k1;exact Run.fn h2 k2
def Run.snoc:∀{n:Nat}{g:Ω}{w:Φ}{a:Ω}{v:Φ}{b:Ω}{u:Φ}{es:Ϛ},Run P n g w a v->stepG P true a v=.go b u es->sF b->Run P (n+1) g w b u
 |0,_,_,_,_,b,u,es,⟨e1,e2⟩,h,hn=>by subst e1;subst e2;exact⟨b,u,es,h,hn,rfl,rfl⟩
 |n+1,_,_,_,_,_,_,_,⟨g1,w1,es1,h1,n1,h2⟩,h,hn=>⟨g1,w1,es1,h1,n1,Run.snoc h2 h hn⟩
def Run.shift(a:Shifts P J):∀{n:Nat}{g:Ω}{w:Φ}{t:eH}{d:Nat}{g':Ω}{w':Φ}{t2:eH}{d2:Nat},J g w->Run P n g (az w t d) g' w'->(∀j,t2 (d2+j)=t (d+j))->
  ∃c,w'=az w' t (d+c)/\Run P n g (az w t2 d2) g' (az w' t2 (d2+c))
 |0,_,_,_,_,_,_,_,_,_,⟨e1,e2⟩,_=>by subst e1;subst e2;exact⟨0,rfl,rfl,rfl⟩
 |n+1,g,w,t,d,g',w',t2,d2,hn,⟨g1,w1,es,h1,n1,h2⟩,ht=>by
  have⟨h,c,e,k⟩:=a g w t d g1 w1 es hn h1 n1;have b:=k t2 d2 λi _=>ht i
  rw[e]at h2;have⟨l,f,r⟩:=Run.shift a (t2:=t2) (d2:=d2+c) h h2 λj=>by rw[Nat.add_assoc,Nat.add_assoc];exact ht (c+j)
  refine⟨c+l,by rw[<-Nat.add_assoc];exact f,g1,_,es,b,n1,?_⟩;rw[<-Nat.add_assoc];exact r
def Ends.step(y:Shifts P J)(l:∀g w t d,Fin g (az w t d)↔Fin g w){g:Ω}{w:Φ}(C:J g w)(h:Ends P Fin g w)(hf:¬Fin g w)(t:eH)(d:Nat):
  ∃g' w' es,stepG P true g (az w t d)=.go g' w' es/\sF g'/\J g' w'/\Ends P Fin g' w':=by
 have⟨n,a,v,hr,ha⟩:=h t d;cases n with
 |zero=>obtain⟨rfl,rfl⟩:=hr;exact absurd ((l ..).1 ha) hf
 |succ n=>
  have⟨q,w1,es,h1,n1,_⟩:=hr;have⟨o,c,e,k⟩:=y g w t d q w1 es C h1 n1;refine⟨q,w1,es,h1,n1,o,λt2 d2=>?_⟩;have⟨m,b,u,f,s⟩:=h (λp=>if p<c then t (d+p)else t2 (d2+(p-c))) 0;cases m with
  |zero=>obtain⟨rfl,rfl⟩:=f;exact absurd ((l ..).1 s) hf
  |succ m=>
   have⟨F,D,B,z,_,k2⟩:=f;have k3:=k (λp=>if p<c then t (d+p)else t2 (d2+(p-c))) 0 λi A=>by simp[A]
   rw[z]at k3;simp only[GStep.go.injEq]at k3;obtain⟨rfl,rfl,rfl⟩:=k3;have⟨E,_,r⟩:=Run.shift y (t2:=t2) (d2:=d2) o k2 λj=>by simp;intro x;omega
   exact⟨m,b,_,r,(l ..).2 s⟩
def CF(I:Shifts P J)(K:∀g w t d,Fin g (az w t d)↔Fin g w){g:Ω}{w:Φ}(Q:J g w)(h:Ends P Fin g w):LT P Fin g w:=by
 classical
 refine ad2 λm=>?_
 let b:Ω×Φ->Prop:=λx=>J x.1 x.2/\Ends P Fin x.1 x.2/\¬LT P Fin x.1 x.2
 have B:∀x:{x//b x},∃p:{x//b x}×eH×Nat×Nat,∃es,stepG P true x.1.1 (az x.1.2 p.2.1 p.2.2.1)=.go p.1.1.1 p.1.1.2 es/\sF p.1.1.1/\
   (∀t2 d2,(∀i,i<p.2.2.2->t2 (d2+i)=p.2.1 (p.2.2.1+i))->stepG P true x.1.1 (az x.1.2 t2 d2)=.go p.1.1.1 (az p.1.1.2 t2 (d2+p.2.2.2)) es):=by
  rintro⟨⟨a,v⟩,na,ea,la⟩;have hf:¬Fin a v:=λx=>la (.stop x)
  have A:∃t d g' w' es,stepG P true a (az v t d)=.go g' w' es/\sF g'/\J g' w'/\Ends P Fin g' w'/\¬LT P Fin g' w':=by
   refine ad2 λC=>la ?_
   have f:∀t d,∃p:Ω×Φ×Array Event,stepG P true a (az v t d)=.go p.1 p.2.1 p.2.2/\sF p.1/\LT P Fin p.1 p.2.1:=by intro t d;have⟨g',w',es,h1,h2,E,u⟩:=ea.step I K na hf t d;refine⟨(g',w',es),h1,h2,ad2 λs=>C ⟨t,d,g',w',es,h1,h2,E,u,s⟩⟩
   exact .step (λt d=>(f t d).choose) (λt d=>(f t d).choose_spec.1) (λt d=>(f t d).choose_spec.2.1) λt d=>(f t d).choose_spec.2.2
  have⟨t,d,g',w',es,h1,h2,E,u,s⟩:=A;have⟨_,c,_,k⟩:=I a v t d g' w' es na h1 h2;exact⟨(⟨(g',w'),E,u,s⟩,t,d,c),es,h1,h2,k⟩
 let M:{x//b x}:=⟨(g,w),Q,h,m⟩
 let r:Nat->{x//b x}:=λn=>Nat.rec M (λ_ x=>(B x).choose.1) n
 let l:Nat->{x//b x}×eH×Nat×Nat:=λn=>(B (r n)).choose
 let pos:Nat->Nat:=λn=>Nat.rec 0 (λk p=>p+(l k).2.2.2) n
 have y:∀k,pos (k+1)=pos k+(l k).2.2.2:=λ_=>rfl
 have G:∀i j,i<=j->pos i<=pos j:=by
  intro i j D;induction D with|refl=>exact ε _|step _ z=>exact ac3 z (by rw[y];omega)
 have L:∀i j p,pos i<=p->p<pos (i+1)->pos j<=p->p<pos (j+1)->i=j:=by intro i j p h1 h2 u s;obtain x|x|x:=ϑ7 i j;have:=G (i+1) j x;omega;exact x;have:=G (j+1) i x;omega
 let T:eH:=λp q=>if e:∃k,pos k<=p/\p<pos (k+1)then(l e.choose).2.1 ((l e.choose).2.2.1+(p-pos e.choose)) q else 0
 have O:∀k i,i<(l k).2.2.2->T (pos k+i)=(l k).2.1 ((l k).2.2.1+i):=by
  intro k i H;have e:∃k',pos k'<=pos k+i/\pos k+i<pos (k'+1):=⟨k,ϖ,by rw[y];omega⟩
  have N:e.choose=k:=L _ _ _ e.choose_spec.1 e.choose_spec.2 ϖ (by rw[y];omega);funext q;show(if e:∃k',pos k'<=pos k+i/\pos k+i<pos (k'+1)then _ else _)=_;rw[dif_pos e,N,show pos k+i-pos k=i by omega]
 have o:∀k,Run P k g (az w T 0) (r k).1.1 (az (r k).1.2 T (pos k)):=by
  intro k;induction k with
  |zero=>exact⟨rfl,rfl⟩
  |succ k z=>
   have⟨es,_,F,hk⟩:=(B (r k)).choose_spec;have:=hk T (pos k) λi H=>O k i H
   exact z.snoc this F
 have⟨n,a,v,hr,ha⟩:=h T 0;obtain⟨rfl,rfl⟩:=hr.fn (o n);exact(r n).2.2.2 (.stop ((K ..).1 ha))
def FS{S:Type}{main:Bool}{C:Co S}{Stop:S->Ω->Φ->Prop}(bD:S->Ω->Φ->Ω->Φ->Prop)(b:∀s gL wL g w,bD s gL wL g w->Fin gL wL->∀w₁,C.R s w w₁->Stop s g w₁)(d:∀s gL wL g w,bD s gL wL g w->g.status=.running)(c:∀s gL wL g w,bD s gL wL g w->∀w₁,C.R s w w₁->∀e f es,stepG P true gL (az wL w₁.tape w₁.drawn)=.go e f es->sF e->LT P Fin e f->
   ∃g' w' a,stepG P main g w₁=.go g' w' a/\C.D s w₁ w' a/\bD (C.up s w₁ w') e f g' w'){gL:Ω}{wL:Φ}(h:LT P Fin gL wL):∀{s:S}{g:Ω}{w:Φ},bD s gL wL g w->aJ P main C Stop s g w:=by
 induction h with
 |stop h=>exactλhs=>.stop (b _ _ _ _ _ hs h)
 |@step gL wL nx h ok hk ih=>
  intro s g w hs;refine aJ.step (d _ _ _ _ _ hs) λw₁ hr=>?_
  have⟨g',w',a,h1,h2,i⟩:=c _ _ _ _ _ hs w₁ hr _ _ _ (h ..) (ok ..) (hk ..);exact⟨g',w',a,h1,h2,ih _ _ i⟩
end
section
variable (π:Nat->Nat)
def bA(a:Addr):Addr:={a with block:=π a.block}
def qL:Fn->Fn
 |.yield l=>.yield (π l)
 |f=>f
def Value.ren:Θ->Θ
 |.pointer a=>.pointer (a.map (bA π))
 |.slice a n c=>.slice (a.map (bA π)) n c
 |.map r=>.map (r.map π)
 |.chan r=>.chan (r.map π)
 |.func fn first d=>.func (qL π fn) (first.attach.map λ⟨x,_⟩=>Value.ren x) (d.attach.map λ⟨x,_⟩=>Value.ren x)
 |.iface t v=>.iface t (Value.ren v)
 |.agg cells=>.agg (cells.attach.map λ⟨x,_⟩=>Value.ren x)
 |.tuple vs=>.tuple (vs.attach.map λ⟨x,_⟩=>Value.ren x)
 |.bool b=>.bool b
 |.int k n=>.int k n
 |.float k n=>.float k n
 |.complex k a b=>.complex k a b
 |.string s=>.string s
 |.nilFunc=>.nilFunc
 |.nilIface=>.nilIface
termination_by v=>SizeOf.sizeOf v
decreasing_by
 all_goals first
  |(simp_wf;have:=ϓ4 ‹_∈_›;omega)
  |(simp_wf;omega)
end
section
variable {π:Nat->Nat}
@[simp] def eB(b:Bool):Value.ren π (.bool b)=.bool b:=by rw[Value.ren]
@[simp] def cR(k:IntKind)(n:Int):Value.ren π (.int k n)=.int k n:=by rw[Value.ren]
@[simp] def dY(k:FloatKind)(n:Nat):Value.ren π (.float k n)=.float k n:=by rw[Value.ren]
@[simp] def dB(k:FloatKind)(n m:Nat):Value.ren π (.complex k n m)=.complex k n m:=by rw[Value.ren]
@[simp] def bU(s:Ξ):Value.ren π (.string s)=.string s:=by rw[Value.ren]
@[simp] def eu:Value.ren π .nilFunc=.nilFunc:=by rw[Value.ren]
@[simp] def dn:Value.ren π .nilIface=.nilIface:=by rw[Value.ren]
@[simp] def bn(a:Ϣ):Value.ren π (.pointer a)=.pointer (a.map (bA π)):=by rw[Value.ren]
@[simp] def cg(a:Ϣ)(n c:Nat):Value.ren π (.slice a n c)=.slice (a.map (bA π)) n c:=by rw[Value.ren]
@[simp] def ee(r:ϡ):Value.ren π (.map r)=.map (r.map π):=by rw[Value.ren]
@[simp] def eM(r:ϡ):Value.ren π (.chan r)=.chan (r.map π):=by rw[Value.ren]
@[simp] def dz(t:θ)(v:Θ):Value.ren π (.iface t v)=.iface t (Value.ren π v):=by rw[Value.ren]
def pU(vs:ϐ):(vs.attach.map λ⟨x,_⟩=>Value.ren π x)=vs.map (Value.ren π):=by
 apply Array.ext;simp;intro i h1 h2;simp
@[simp] def dV(cs:ϐ):Value.ren π (.agg cs)=.agg (cs.map (Value.ren π)):=by rw[Value.ren,pU]
@[simp] def dy(cs:ϐ):Value.ren π (.tuple cs)=.tuple (cs.map (Value.ren π)):=by rw[Value.ren,pU]
@[simp] def dO(fn:Fn)(f c:ϐ):Value.ren π (.func fn f c)=.func (qL π fn) (f.map (Value.ren π)) (c.map (Value.ren π)):=by rw[Value.ren,pU,pU]
end
def OQ(f:Fn):qL id f=f:=by cases f<;>rfl
def cP{f:Θ->Θ}(h:∀v∈vs,f v=v):vs.map f=vs:=by
 apply Array.ext;simp;intro i h1 h2;simp[h]
def qJ:∀v:Θ,Value.ren id v=v
 |.bool _|.int _ _|.float _ _|.complex _ _ _|.string _|.nilFunc|.nilIface=>ϛ
 |.pointer a=>by cases a<;>simp[bA]
 |.slice a _ _=>by cases a<;>simp[bA]
 |.map r=>by cases r<;>simp
 |.chan r=>by cases r<;>simp
 |.iface t v=>by simp[qJ v]
 |.agg cs=>by rw[dV,cP λv hv=>qJ v]
 |.tuple cs=>by rw[dy,cP λv hv=>qJ v]
 |.func fn f c=>by rw[dO,OQ,cP λv hv=>qJ v,cP λv hv=>qJ v]
termination_by v=>SizeOf.sizeOf v
decreasing_by
 all_goals first
  |(simp_wf;have:=ϓ4 ‹_∈_›;omega)
  |(simp_wf;omega)
def sf{α:Type}(e:String):(MonadExcept.throw e:Except String α)=.error e:=rfl
def BO(π:ϙ)(v:Θ):(Value.ren π v).bytes?=v.bytes?:=by cases v<;>simp[Value.bytes?]
def Fi(π:ϙ)(v:Θ)(bs:ϑ):(Value.ren π v).ofBytes bs=v.ofBytes bs:=by cases v<;>simp[Value.ofBytes]
def xj(π:ϙ)(v u:Θ)(bs:ϑ)(h:v.ofBytes bs=some u):Value.ren π u=u:=by
 cases v with
 |bool b=>simp only[Value.ofBytes]at h;split at h<;>first|(cases h;simp)|cases h
 |int k n=>simp only[Value.ofBytes]at h;split at h<;>first|(cases h;simp)|cases h
 |float k n=>simp only[Value.ofBytes]at h;split at h<;>first|(cases h;simp)|cases h
 |complex k a b=>simp only[Value.ofBytes]at h;split at h<;>first|(cases h;simp)|cases h
 |_=>simp[Value.ofBytes]at h
def kH(π:ϙ)(P:aa1)(c:ϐ)(e:θ):∀f x stop,seenCells P (c.map (Value.ren π)) e f x stop=seenCells P c e f x stop
 |0,_,_=>rfl
 |f+1,x,stop=>by
  unfold seenCells;simp only[ag8];split;rfl;split;rfl;split;rfl;rename_i i s _;cases h:c[i]? with|none=>rfl|some v=>simp only[ι,BO];split;rfl;rfl;rw[kH π P c e f]
def pr{P:aa1}{c:ϐ}{e:θ}:∀{f x stop:Nat}{l:List (Nat×Nat×List η)},seenCells P c e f x stop=.ok l->∀y∈l,y.1<c.size
 |0,_,_,_,h=>by simp[seenCells]at h
 |f+1,x,stop,l,h=>by
  unfold seenCells at h;split at h;cases h;simp
  .dsimp only at h;split at h;cases h
   .split at h;cases h
    .rename_i i s _;cases a:c[i]? with
     |none=>simp[a]at h
     |some v=>
      simp only[a]at h;split at h;cases h;cases h
      .cases hr:seenCells P c e f (s+_) stop with
       |error y=>rw[hr]at h;cases h
       |ok r=>rw[hr]at h;simp only[Functor.map,Except.map,am7]at h;subst h;intro y b;obtain rfl|b:=ac2.1 b;exact(Ψ.1 a).1;exact pr hr y b
def pq(P:aa1)(u:θ)(k at_:Addr)(m:Bool)(o:Option Obj):Except String (Array Θ×θ×(Nat×Nat)×Nat×Θ×List (Nat×Nat×List η)):=
 (({heap:=#[o.getD (.coro none)],tape:=λ_ _=>0,drawn:=0,os:=default,output:=#[]}:Φ).seen P {at_ with block:=0} u k m)
def xZ(w:Φ)(P:aa1)(at_:Addr)(u:θ)(k:Addr)(m:Bool):w.seen P at_ u k m=pq P u k at_ m w.heap[at_.block]?:=by
 unfold pq World.seen;simp only[bind,Except.bind,pure,Except.pure,sf];cases h:w.heap[at_.block]? with|none=>simp|some o=>simp
def uy{P:aa1}{u:θ}{k at_:Addr}{m:Bool}{o:Option Obj}{x:Array Θ×θ×(Nat×Nat)×Nat×Θ×List (Nat×Nat×List η)}(h:pq P u k at_ m o=.ok x):
  o=some (.cells x.1 x.2.1 x.2.2.1)/\P.cellsOf x.2.1≠0/\(∀y∈x.2.2.2.2.2,y.1<x.1.size)/\∀(π:ϙ)(f:Nat×Nat),pq P u k at_ m (some (.cells (x.1.map (Value.ren π)) x.2.1 f))=.ok (x.1.map (Value.ren π),x.2.1,f,x.2.2.2):=by
 unfold pq World.seen at h⊢;simp only[bind,Except.bind,pure,Except.pure,sf,kH]at h⊢;by_cases hs:(k.spot.isSome||at_.spot.isSome)=true;simp[hs]at h
 .simp only[hs,ab6,if_false]at h⊢;cases n:plainCell P P.depth u k.off with
  |none=>simp[n]at h
  |some like=>
   simp only[n]at h⊢;cases q:Option.map (λx=>x.length) like.bytes? with
   |none=>simp[q]at h
   |some size=>
    simp only[q]at h⊢;cases p:byteOfCell P P.depth u k.off with
    |none=>simp[p]at h
    |some g=>
     simp only[p]at h⊢;cases o with
     |none=>simp at h
     |some o=>
      cases o with
      |cells c e r=>
       simp at h⊢;by_cases h0:P.cellsOf e=0;simp[h0]at h
       .simp only[h0,if_false]at h;cases h1:byteOfCell P P.depth e (at_.off%P.cellsOf e)with
        |none=>simp[h1]at h
        |some b0=>
         simp only[h1]at h;cases h2:seenCells P c e (size+1) (at_.off/P.cellsOf e*P.bytesOf e+b0+g) (at_.off/P.cellsOf e*P.bytesOf e+b0+g+size)with
         |error y=>simp[h2]at h
         |ok v=>
          simp only[h2]at h;cases m with
          |false=>simp only[ab6,if_false,am7]at h;subst h;refine⟨⟨rfl,rfl,rfl⟩,h0,?_,λπ a b=>by simp[h0,h1,kH,h2]⟩;intro i s bs d;exact pr h2 _ d
          |true=>
           simp only[if_true]at h
           match v,h2,h with
           |[(
             i,s,bs)],h2,h=>
            dsimp only at h;by_cases l:¬s=at_.off/P.cellsOf e*P.bytesOf e+b0+g\/¬bs.length=size;simp[l]at h;simp only[l,if_false,am7]at h;subst h;refine⟨⟨rfl,rfl,rfl⟩,h0,?_,λπ a b=>by simp[h0,h1,kH,h2];simpa using l⟩;intro j s' bs' d;obtain⟨rfl,rfl,rfl⟩:j=i/\s'=s/\bs'=bs:=by simpa using d
            exact pr h2 (j,s',bs') ϛ
           |[],_,h=>simp at h
           |_::_::_,_,h=>simp at h
      |_=>simp at h
def CD{π:ϙ}{w w':Φ}{P:aa1}{at_:Addr}{u:θ}{k:Addr}{m:Bool}{v:Θ}{l:List Addr}(h:w.viewLoad P at_ u k m=.ok (v,l))(g:∀c e f,w.heap[at_.block]?=some (.cells c e f)->P.cellsOf e≠0->∃f',w'.heap[π at_.block]?=some (.cells (c.map (Value.ren π)) e f')):
  w'.viewLoad P (bA π at_) u (bA π k) m=.ok (Value.ren π v,l.map (bA π))/\(∀a∈l,a.block=at_.block)/\∃c e f,w.heap[at_.block]?=some (.cells c e f)/\P.cellsOf e≠0:=by
 unfold World.viewLoad at h⊢;have e1:w'.seen P (bA π at_) u (bA π k) m=pq P u k at_ m w'.heap[π at_.block]?:=xZ w' P (bA π at_) u (bA π k) m;rw[e1];rw[xZ]at h;simp only[bind,Except.bind,pure,Except.pure,sf]at h⊢;cases hs:pq P u k at_ m w.heap[at_.block]? with
 |error y=>simp[hs]at h
 |ok x=>
  have⟨h1,h2,_,i⟩:=uy hs;have⟨f',b⟩:=g _ _ _ h1 h2;rw[b,i π f'];simp only[hs]at h;dsimp only at h⊢;generalize d:x.2.2.2.2.1.ofBytes _=z at h⊢;cases z with|none=>simp at h|some j=>simp only[am7,ai6]at h⊢;obtain⟨rfl,rfl⟩:=h;refine⟨⟨(xj π _ _ _ d).symm,?_⟩,?_,_,_,_,h1,h2⟩;rw[List.map_map];rfl;intro a ha;obtain⟨y,_,rfl⟩:=ac9.1 ha;rfl
def zZ{a:Type}(r:Θ->Θ)(F:Array Θ->a->Except String (Array Θ))(b:∀c y,F (c.map r) y=match F c y with|.ok d=>.ok (d.map r)|.error e=>.error e):
  ∀(l:List a)(c:ϐ),List.foldlM F (c.map r) l=match List.foldlM F c l with|.ok d=>.ok (d.map r)|.error e=>.error e
 |[],c=>rfl
 |y::l,c=>by
  simp only[List.foldlM_cons,bind,Except.bind,b];cases F c y with|error e=>rfl|ok d=>exact zZ r F b l d
def nV{w:Φ}{P:aa1}{at_:Addr}{u:θ}{k:Addr}{m:Bool}{v:Θ}{w1:Φ}{l:List Addr}(h:w.viewStore P at_ u k v m=.ok (w1,l)):
  ∃c e f c1,w.heap[at_.block]?=some (.cells c e f)/\P.cellsOf e≠0/\w1={w with heap:=w.heap.setIfInBounds at_.block (.cells c1 e f)}/\(∀a∈l,a.block=at_.block)/\(f=(0,c.size)->l=[]/\c1=c)/\
   ∀(π:ϙ)(w':Φ)(f':Nat×Nat),(f'=f\/l=[])->w'.heap[π at_.block]?=some (.cells (c.map (Value.ren π)) e f')->
    w'.viewStore P (bA π at_) u (bA π k) (Value.ren π v) m=.ok ({w' with heap:=w'.heap.setIfInBounds (π at_.block) (.cells (c1.map (Value.ren π)) e f')},l.map (bA π)):=by
 unfold World.viewStore at h;by_cases q:tight P P.depth u=true
 .simp only[q,Bool.not_true,ab6,if_false]at h;rw[xZ]at h;simp only[bind,Except.bind,pure,Except.pure,sf]at h;cases hs:pq P u k at_ m w.heap[at_.block]? with
  |error y=>simp[hs]at h
  |ok x=>
   have⟨h1,h2,n,E⟩:=uy hs;simp only[hs]at h;cases hv:v.bytes? with
   |none=>simp[hv]at h
   |some bs=>
    simp only[hv]at h;by_cases o:some bs.length≠Option.map (λx=>x.length) x.2.2.2.2.1.bytes?;simp[o]at h
    .simp only[o,if_false]at h;generalize b:List.foldlM (m:=Except String) _ x.1 x.2.2.2.2.2=z at h;cases z with
     |error y=>simp at h
     |ok c1=>
      simp only[am7,ai6]at h;obtain⟨rfl,rfl⟩:=h;refine⟨_,_,_,c1,h1,h2,rfl,λa ha=>?_,λhf=>?_,λπ w' f' s t=>?_⟩;obtain⟨y,_,rfl⟩:=ac9.1 ha;rfl
      .cases p:x.2.2.2.2.2 with
       |nil=>rw[p]at b;simp only[List.foldlM_nil,pure,Except.pure,am7]at b;exact⟨rfl,b.symm⟩
       |cons y r=>exfalso;have B:=n y (by rw[p];simp);rw[p]at b;simp only[List.foldlM_cons,bind,Except.bind]at b;rw[hf]at b;split at b;simp at b;rename_i g;split at g;cases g;simp[B]at g
      .unfold World.viewStore;have e1:w'.seen P (bA π at_) u (bA π k) m=pq P u k at_ m w'.heap[π at_.block]?:=xZ w' P (bA π at_) u (bA π k) m;rw[e1,t,E π f'];simp only[q,Bool.not_true,ab6,if_false,bind,Except.bind,pure,Except.pure,sf,BO,hv,o];have C:∀(G:Array Θ->Nat×Nat×List η->Except String (Array Θ)),(f'=x.2.2.1->G=G)->True:=λ_ _=>trivial
       obtain rfl|i:=s
       rotate_left
       have d:x.2.2.2.2.2=[]:=by simpa using i
       rw[d]at b⊢;simp only[List.foldlM_nil,pure,Except.pure,am7]at b⊢;subst b;rfl;rw[zZ (Value.ren π),b];simp only[List.map_map];rfl;intro c y;simp only[ag8];split;rfl;split;rfl
       .cases F:c[y.1]? with
        |none=>rfl
        |some j=>
         simp only[ι,Fi];cases D:j.ofBytes (List.take y.2.2.length (List.drop (y.2.1-x.2.2.2.1) bs))with|none=>rfl|some new=>simp only[ϒ8,xj π _ _ _ D]
 have A:tight P P.depth u=false:=by simpa using q
 simp[A,bind,Except.bind,sf]at h
def ni:Θ->Bool
 |.agg _|.tuple _=>false
 |_=>true
def pY:Obj->Prop
 |.cells .. |.map .. |.stringIter .. |.mapIter .. =>True
 |.view .. |.number .. =>True
 |_=>False
def od(π:ϙ)(e:ai2):ai2:={key:=Value.ren π e.key,val:=Value.ren π e.val,born:=e.born}
def et(π:ϙ):Obj->Obj
 |.cells c e fr=>.cells (c.map (Value.ren π)) e fr
 |.map es b=>.map (es.map (od π)) b
 |.mapIter m d seen f=>.mapIter (m.map π) d seen f
 |.view a t=>.view (bA π a) t
 |.number a lost=>.number (bA π a) lost
 |o=>o
def inner:Obj->Nat->Prop
 |.view a _,i|.number a _,i=>i=a.block
 |_,_=>False
def mH:Halt->Prop
 |.panic _|.stuck _=>True
 |.unsupported (.initOrder _)=>False
 |.unsupported _=>True
 |_=>False
def eV(w:Φ):Prop:=∀(b:Nat)(o:Obj),w.heap[b]?=some o->pY o
structure WR (π:Nat->Nat)(H Z:Nat->Prop)(wL w:Φ):Prop where
 inj:∀i j,π i=π j->i=j
 tape:w.tape=wL.tape
 drawn:w.drawn=wL.drawn
 lt:∀b,b<wL.heap.size->¬H b->π b<w.heap.size
 ok:∀(b:Nat) (o:Obj),wL.heap[b]?=some o->¬H b->¬Z b->pY o/\w.heap[π b]?=some (et π o)
 hid:∀(b:Nat) (o:Obj),wL.heap[b]?=some o->H b->o=.cells #[] 1000000 (0,0)
 qj:∀(b:Nat) (o:Obj),wL.heap[b]?=some o->Z b->∃c t f,o=.cells c t (0,c.size)/\w.heap[π b]?=some (.cells (c.map (Value.ren π)) t f)
 low:∀b,H b\/Z b->b<wL.heap.size
 ic:∀(b:Nat) (o:Obj),wL.heap[b]?=some o->∀i,inner o i->i<wL.heap.size/\¬H i
def WR.mK{wL:Φ}(h:WR π H Z wL w):eV wL:=by
 intro b o a;by_cases e:H b;rw[h.hid b o a e];trivial;by_cases d:Z b;obtain⟨c,t,f,rfl,_⟩:=h.qj b o a d;trivial;exact(h.ok b o a e d).1
def Dead{α:Type}(P:aa1)(s:Sem α):Prop:=∀w,eV w->∃h w',s.run P w=.halt h w'/\mH h
def qR:Mark->Prop
 |.extern _|.noRoom=>True
 |_=>False
section
variable (P:aa1)(π:Nat->Nat)(N:Nat->Prop)
inductive bD:(Nat->Prop)->{α:Type}->(α->α->Prop)->Sem α->Sem α->Prop
 |pure {V:Nat->Prop}{α:Type}{R:α->α->Prop}{a b:α} (h:R a b):bD V R (.pure a) (.pure b)
 |load {V:Nat->Prop}{α:Type}{R:α->α->Prop}{m:Mode}{a:Addr}{k k':Θ->Sem α} (h:∀v,bD (λi=>V i\/i=a.block) R (k v) (k' (Value.ren π v))):bD V R (.load m a k) (.load m (bA π a) k')
 |store {V:Nat->Prop}{α:Type}{R:α->α->Prop}{m:Mode}{a:Addr}{v:Θ}{k k':Sem α} (h:bD (λi=>V i\/i=a.block) R k k'):bD V R (.store m a v k) (.store m (bA π a) (Value.ren π v) k')
 |new {V:Nat->Prop}{α:Type}{R:α->α->Prop}{o:Obj}{k k':Nat->Sem α} (ho:pY o) (hi:∀i,inner o i->V i) (h:∀b,¬N b->bD (λi=>V i\/i=b) R (k b) (k' (π b))):bD V R (.new o k) (.new (et π o) k')
 |getObj {V:Nat->Prop}{α:Type}{R:α->α->Prop}{r:Nat}{k k':Obj->Sem α} (h:∀o,pY o->bD (λi=>V i\/i=r\/inner o i) R (k o) (k' (et π o))):bD V R (.getObj r k) (.getObj (π r) k')
 |setObj {V:Nat->Prop}{α:Type}{R:α->α->Prop}{r:Nat}{o:Obj}{k k':Sem α} (ho:pY o) (hi:∀i,inner o i->V i) (h:bD (λi=>V i\/i=r) R k k'):bD V R (.setObj r o k) (.setObj (π r) (et π o) k')
 |shape {V:Nat->Prop}{α:Type}{R:α->α->Prop}{r:Nat}{k k':Option (θ×Nat)->Sem α} (hv:V r) (h:∀x,bD V R (k x) (k' x)):bD V R (.shape r k) (.shape (π r) k')
 |freeze {V:Nat->Prop}{α:Type}{R:α->α->Prop}{a:Addr}{n:Nat}{k k':Sem α} (hv:V a.block) (hn:¬N a.block) (h:bD V R k k'):bD V R (.freeze a n k) (.freeze (bA π a) n k')
 |frozen {V:Nat->Prop}{α:Type}{R:α->α->Prop}{a:Addr}{k k':Bool->Sem α} (hv:V a.block) (hn:¬N a.block) (h:∀x,bD V R (k x) (k' x)):bD V R (.frozen a k) (.frozen (bA π a) k')
 |choose {V:Nat->Prop}{α:Type}{R:α->α->Prop}{q:Question}{k k':Nat->Sem α} (h:∀n,bD V R (k n) (k' n)):bD V R (.choose q k) (.choose q k')
 |program {V:Nat->Prop}{α:Type}{R:α->α->Prop}{k k':aa1->Sem α} (h:bD V R (k P) (k' P)):bD V R (.program k) (.program k')
 |mark {V:Nat->Prop}{α:Type}{R:α->α->Prop}{m:Mark}{k k':Sem α} (hm:qR m) (h:bD V R k k'):bD V R (.mark m k) (.mark m k')
 |dead {V:Nat->Prop}{α:Type}{R:α->α->Prop}{s s':Sem α} (h:Dead P s):bD V R s s'
end
section
variable {P:aa1}{π:Nat->Nat}{N V:Nat->Prop}
def Dead.halt{α:Type}{h:Halt}(a:mH h):Dead P (.halt h:Sem α):=λw _=>⟨h,w,rfl,a⟩
def Dead.bind{α a:Type}{s:Sem α}(f:α->Sem a)(h:Dead P s):Dead P (s.bind f):=by
 intro w c;have⟨x,w',hr,b⟩:=h w c;refine⟨x,w',?_,b⟩;rw[Sem.run_bind',hr];rfl
def bD.weak{α:Type}{R:α->α->Prop}{s s':Sem α}(h:bD P π N V R s s'):∀{V':ϒ},(∀i,V i->V' i)->bD P π N V' R s s':=by
 induction h with|pure h=>exactλ_=>.pure h|load _ a=>exactλhv=>.load λv=>a v λi c=>c.imp (hv i) id|store _ a=>exactλhv=>.store (a λi c=>c.imp (hv i) id)|new d h1 _ a=>exactλhv=>.new d (λi c=>hv i (h1 i c)) λb e=>a b e λi c=>c.imp (hv i) id|getObj _ a=>exactλhv=>.getObj λo d=>a o d λi c=>c.imp (hv i) id|setObj d h1 _ a=>exactλhv=>.setObj d (λi c=>hv i (h1 i c)) (a λi c=>c.imp (hv i) id)|shape h1 _ a=>exactλhv=>.shape (hv _ h1) λx=>a x hv|freeze h1 h2 _ a=>exactλhv=>.freeze (hv _ h1) h2 (a hv)|frozen h1 h2 _ a=>exactλhv=>.frozen (hv _ h1) h2 λx=>a x hv|choose _ a=>exactλhv=>.choose λn=>a n hv|program _ a=>exactλhv=>.program (a hv)|mark hm _ a=>exactλhv=>.mark hm (a hv)|dead h=>exactλ_=>.dead h
def bD.bind{α d:Type}{R:α->α->Prop}{R':d->d->Prop}{s s':Sem α}(h:bD P π N V R s s'):∀{f f':α->Sem d},(∀x x',R x x'->bD P π N V R' (f x) (f' x'))->
  bD P π N V R' (s.bind f) (s'.bind f'):=by
 induction h with|pure h=>exactλhf=>hf _ _ h|load _ a=>exactλhf=>.load λv=>a v λx x' r=>(hf x x' r).weak λ_=>.inl|store _ a=>exactλhf=>.store (a λx x' r=>(hf x x' r).weak λ_=>.inl)|new c h1 _ a=>exactλhf=>.new c h1 λb e=>a b e λx x' r=>(hf x x' r).weak λ_=>.inl|getObj _ a=>exactλhf=>.getObj λo c=>a o c λx x' r=>(hf x x' r).weak λ_=>.inl|setObj c h1 _ a=>exactλhf=>.setObj c h1 (a λx x' r=>(hf x x' r).weak λ_=>.inl)|shape h1 _ a=>exactλhf=>.shape h1 λx=>a x hf|freeze h1 h2 _ a=>exactλhf=>.freeze h1 h2 (a hf)|frozen h1 h2 _ a=>exactλhf=>.frozen h1 h2 λx=>a x hf|choose _ a=>exactλhf=>.choose λn=>a n hf|program _ a=>exactλhf=>.program (a hf)|mark hm _ a=>exactλhf=>.mark hm (a hf)|dead h=>exactλhf=>.dead (h.bind _)
def bD.bind'{α a:Type}{R:α->α->Prop}{R':a->a->Prop}{s s':Sem α}(h:bD P π N V R s s'){f f':α->Sem a}(hf:∀x x',R x x'->bD P π N V R' (f x) (f' x')):
  bD P π N V R' (s>>=f) (s'>>=f'):=h.bind hf
def bD.mono{α:Type}{R R':α->α->Prop}{s s':Sem α}(h:bD P π N V R s s')(hr:∀x x',R x x'->R' x x'):bD P π N V R' s s':=by
 have:=h.bind (f:=Sem.pure) (f':=Sem.pure) (R':=R') λx x' r=>.pure (hr _ _ r)
 rwa [Sem.bind_pure',Sem.bind_pure']at this
end
def rJ(π:ϙ)(H Z:ϒ)(n:Nat)(e:Event):Prop:=
 (∃b,b<n/\¬H b/\(e.write=true->¬Z b)/\((∃a:Addr,e.loc=.cell a/\a.block=π b)\/e.loc=.obj (π b)))\/∃m,e.loc=.mark m/\qR m
def rJ.mono{e:Event}(h:rJ π H Z n e)(a:n<=n'):rJ π H Z n' e:=
 h.imp (λ⟨b,h1,h2⟩=>⟨b,ω h1 a,h2⟩) id
structure Ed (π:Nat->Nat)(H Z:Nat->Prop)(wL oT w w':Φ):Prop where
 oG:wL.heap.size<=oT.heap.size
 size:w'.heap.size=w.heap.size+(oT.heap.size-wL.heap.size)
 keep:∀k,k<w.heap.size->(∀b,b<wL.heap.size->¬H b->¬Z b->π b≠k)->w'.heap[k]?=w.heap[k]?
 os:w'.os=w.os
 output:w'.output=w.output
 tape:w'.tape=w.tape
 drawn:w.drawn<=w'.drawn
section
variable {P:aa1}{π:Nat->Nat}{N V:Nat->Prop}{H Z:Nat->Prop}{wL w:Φ}
def Ed.refl(π:ϙ)(H Z:ϒ)(wL w:Φ):Ed π H Z wL wL w w:=⟨ε _,ϖ,λ_ _ _=>rfl,rfl,rfl,rfl,ε _⟩
def Ed.trans{Sx d w1 e:Φ}(h:Ed π H Z wL Sx w w1)(k:Ed π H Z Sx d w1 e)(c:∀i,wL.heap.size+i<d.heap.size->π (wL.heap.size+i)=w.heap.size+i):Ed π H Z wL d w e:=by
 have h1:=h.oG;have h2:=k.oG;have p:=h.size;have n:=k.size;refine⟨ϖ,ϖ,λj m f=>?_,k.os.trans h.os,k.output.trans h.output,k.tape.trans h.tape,ac3 h.drawn k.drawn⟩;rw[k.keep j ϖ λb o l g=>?_,h.keep j m f];by_cases a:b<wL.heap.size;exact f b a l g;have:=c (b-wL.heap.size) ϖ;rw[show wL.heap.size+(b-wL.heap.size)=b by omega]at this;omega
def Al{b off:Nat}{sp:ϡ}(h:WR π H Z wL w){v:Θ}(a:wL.cell? ⟨b,off,sp⟩=some v):w.cell? ⟨π b,off,sp⟩=some (Value.ren π v)/\b<wL.heap.size/\¬H b:=by
 unfold World.cell? at a⊢;dsimp only at a⊢;cases d:wL.heap[b]? with
 |none=>simp[d]at a
 |some o=>
  have e:b<wL.heap.size:=(Ψ.1 d).1;rw[d]at a;by_cases i:H b;rw[h.hid b o d i]at a;simp at a;refine⟨?_,e,i⟩;have key:∀c t f g,o=.cells c t f->w.heap[π b]?=some (.cells (c.map (Value.ren π)) t g)->(match w.heap[π b]? with|some (.cells c ..)=>if sp.isSome=true then none else c[off]? |_=>none)=some (Value.ren π v):=by intro c t f g e1 e2;subst e1;rw[e2];dsimp only at a⊢;split at a;cases a;rename_i hs;simp only[hs,if_false,ab6];simp[a]
  by_cases j:Z b;have⟨c,t,f,e1,e2⟩:=h.qj b o d j;exact key c t _ f e1 e2;have⟨h1,h2⟩:=h.ok b o d i j;cases o with|cells c t f=>exact key c t f f rfl h2|_=>simp at a
def vq(h:eV wL)(a:Addr)(m:Bool):(∃v l,wL.farLoad P a m=.ok (v,l))\/∃x,wL.farLoad P a m=.error x/\mH x:=by
 unfold World.farLoad World.noCell;cases b:wL.heap[a.block]? with
 |none=>exact .inr ⟨_,rfl,trivial⟩
 |some o=>
  have:=h _ _ b;cases o with
  |view at_ u=>
   dsimp only;cases wL.viewLoad P at_ u a m with|error y=>exact .inr ⟨_,rfl,trivial⟩|ok r=>exact .inl ⟨r.1,r.2,rfl⟩
  |_=>first|exact .inr ⟨_,rfl,trivial⟩|exact this.elim
def se(h:eV wL)(a:Addr)(v:Θ)(m:Bool):(∃l b c e f,wL.farStore P a v m=.ok ({wL with heap:=wL.heap.setIfInBounds b (.cells c e f)},l))\/∃x,wL.farStore P a v m=.error x/\mH x:=by
 unfold World.farStore World.noCell;cases d:wL.heap[a.block]? with
 |none=>exact .inr ⟨_,rfl,trivial⟩
 |some o=>
  have:=h _ _ d;cases o with
  |view at_ u=>
   dsimp only;cases hs:wL.viewStore P at_ u a v m with|error y=>exact .inr ⟨_,rfl,trivial⟩|ok r=>have⟨c,e,f,c1,_,_,g,_⟩:=nV (w1:=r.1) (l:=r.2) hs;exact .inl ⟨r.2,at_.block,c1,e,f,by rw[<-g]⟩
  |_=>first|exact .inr ⟨_,rfl,trivial⟩|exact this.elim
def Gs{t:eH}{d:Nat}{a:Addr}{v:Θ}{m:Bool}{l:List Addr}{b:Nat}{c:ϐ}{e:θ}{f:Nat×Nat}(h:wL.farStore P a v m=.ok ({wL with heap:=wL.heap.setIfInBounds b (.cells c e f)},l)):
  (Go.Proofs.YtchcmhodnkgojaaGreat.az wL t d).farStore P a v m=.ok (Go.Proofs.YtchcmhodnkgojaaGreat.az {wL with heap:=wL.heap.setIfInBounds b (.cells c e f)} t d,l):=by
 unfold World.farStore at h⊢;show(match wL.heap[a.block]? with|some (.view at_ u)=>(match(Go.Proofs.YtchcmhodnkgojaaGreat.az wL t d).viewStore P at_ u a v m with|.ok r=>Except.ok r|.error why=>Except.error (Halt.unsupported (Unsupported.unsafePointer why)))|_=>Except.error (wL.noCell a "store: no such cell"))=_;cases j:wL.heap[a.block]? with
 |none=>rw[j]at h;cases h
 |some o=>
  rw[j]at h;cases o with
  |view at_ u=>
   dsimp only at h⊢;cases hs:wL.viewStore P at_ u a v m with
   |error y=>rw[hs]at h;cases h
   |ok r=>
    rw[hs]at h;simp only[am7]at h;subst h;have⟨c0,q,f0,c1,s,z,p,_,_,k⟩:=nV hs;have i:=k id (Go.Proofs.YtchcmhodnkgojaaGreat.az wL t d) f0 (.inl rfl) (by
     have:c0.map (Value.ren id)=c0:=cP λv _=>qJ v
     rw[this];exact s)
    have e1:bA id at_=at_:=rfl;have e2:bA id a=a:=rfl;have n:Value.ren id v=v:=qJ v;have x:c1.map (Value.ren id)=c1:=cP λv _=>qJ v
    have w:l.map (bA id)=l:=by rw[show bA id=id from rfl,List.map_id]
    rw[e1,e2,n,x,w]at i;rw[i];have g:=congrArg World.heap p;simp only at g;show Except.ok ({(Go.Proofs.YtchcmhodnkgojaaGreat.az wL t d)with heap:=wL.heap.setIfInBounds at_.block (.cells c1 q f0)},l)=_;rw[<-g];rfl
  |_=>cases h
def eV.set(h:eV w)(a:Addr)(v:Θ):eV (w.setCell a v):=by
 intro b o c;simp only[World.setCell,aj3]at c;split at c;obtain⟨e,d,rfl⟩:=ψ.1 c;have:=h _ _ d;cases e<;>first|trivial|exact this.elim
 exact h _ _ c
def eV.push{w:Φ}(h:eV w){o:Obj}(c:pY o):eV {w with heap:=w.heap.push o}:=by
 intro b d a;rw[am3]at a;split at a;cases a;exact c;exact h _ _ a
def eV.setObj{w:Φ}(h:eV w){o:Obj}(c:pY o)(r:Nat):eV {w with heap:=w.heap.setIfInBounds r o}:=by
 intro b d a;simp only[Array.getElem?_setIfInBounds]at a;split at a;split at a;cases a;exact c;cases a;exact h _ _ a
def eV.freeze{w:Φ}(h:eV w)(a:Addr)(n:Nat):eV (w.freeze a n):=by
 unfold World.freeze;split;exact h;intro b o c;simp only[aj3]at c;split at c;obtain⟨e,d,rfl⟩:=ψ.1 c;have:=h _ _ d;cases e<;>first|trivial|exact this.elim
 exact h _ _ c
def cQ(w:Φ)(a:Addr)(v:Θ):(w.setCell a v).heap.size=w.heap.size:=by simp[World.setCell]
def eI(w:Φ)(a:Addr)(n:Nat):(w.freeze a n).heap.size=w.heap.size:=by unfold World.freeze;split<;>simp
def bD.oG{α:Type}{R:α->α->Prop}{s s':Sem α}(h:bD P π N V R s s'):∀{wL:Φ}{x:α}{j:Φ},eV wL->(∀b,N b->b<wL.heap.size)->s.run P wL=.ok x j->wL.heap.size<=j.heap.size/\eV j:=by
 induction h with
 |pure _=>intro wL x j d g hr;simp only[Sem.run,Result.ok.injEq]at hr;obtain⟨_,rfl⟩:=hr;exact⟨ε _,d⟩
 |@load V α R m a k k' _ i=>intro wL x j d g hr;simp only[Sem.run]at hr;split at hr;exact i _ d g hr;obtain⟨v,l,n⟩|⟨y,n,_⟩:=vq (P:=P) d a (m==.atomic);rw[n]at hr;exact i _ d g hr;rw[n]at hr;cases hr
 |@store V α R m a v k k' _ i=>
  intro wL x j d g hr;cases v<;>simp only[Sem.run]at hr<;>first
   |(cases hr;done)
   |(
     split at hr;split at hr;cases hr;have:=i (d.set _ _) (by rw[cQ];exact g) hr;rw[cQ]at this;exact this;obtain⟨l,b,c,e,f,n⟩|⟨y,n,_⟩:=se (P:=P) d a _ (m==.atomic);rw[n]at hr;have:=i (d.setObj (o:=.cells c e f) trivial b) (by simpa using g) hr;simpa using this;rw[n]at hr;cases hr)
 |new p _ _ i=>intro wL x j d g hr;simp only[Sem.run]at hr;have:=i wL.heap.size (λq=>by have:=g _ q;omega) (d.push p) (λb q=>by have:=g _ q;simp;omega) hr;simp at this;exact⟨ϖ,this.2⟩
 |@getObj V α R r k k' _ i=>intro wL x j d g hr;simp only[Sem.run]at hr;split at hr;cases hr;rename_i o _ p;exact i _ (d _ _ p) d g hr;cases hr
 |setObj p _ _ i=>intro wL x j d g hr;simp only[Sem.run]at hr;split at hr;cases hr;have:=i (d.setObj p _) (by simpa using g) hr;simpa using this;cases hr
 |shape _ _ i=>intro wL x j d g hr;exact i _ d g hr
 |freeze _ _ _ i=>intro wL x j d g hr;have:=i (d.freeze _ _) (by rw[eI];exact g) hr;rw[eI]at this;exact this
 |frozen _ _ _ i=>intro wL x j d g hr;exact i _ d g hr
 |choose _ i=>intro wL x j d g hr;simp only[Sem.run]at hr;split at hr;exact i _ d g hr;exact i _ (wL:={wL with drawn:=wL.drawn+1}) d g hr
 |program _ i=>intro wL x j d g hr;exact i d g hr
 |mark _ _ i=>intro wL x j d g hr;exact i d g hr
 |dead h=>intro wL x j d g hr;have⟨y,w',n,_⟩:=h _ d;rw[n]at hr;cases hr
def bD.WV{α:Type}{R:α->α->Prop}{s s':Sem α}(h:bD P π N V R s s'):∀{wL:Φ}{x:Halt}{j:Φ},eV wL->(∀b,N b->b<wL.heap.size)->s.run P wL=.halt x j->mH x:=by
 induction h with
 |pure _=>intro wL x j d g hr;simp[Sem.run]at hr
 |@load V α R m a k k' _ i=>intro wL x j d g hr;simp only[Sem.run]at hr;split at hr;exact i _ d g hr;obtain⟨v,l,n⟩|⟨y,n,hk⟩:=vq (P:=P) d a (m==.atomic);rw[n]at hr;exact i _ d g hr;rw[n]at hr;cases hr;exact hk
 |@store V α R m a v k k' _ i=>
  intro wL x j d g hr;cases v<;>simp only[Sem.run]at hr<;>first
   |(cases hr;trivial)
   |(
     split at hr;split at hr;cases hr;trivial;exact i (d.set _ _) (by rw[cQ];exact g) hr;obtain⟨l,b,c,e,f,n⟩|⟨y,n,hk⟩:=se (P:=P) d a _ (m==.atomic);rw[n]at hr;exact i (d.setObj (o:=.cells c e f) trivial b) (by simpa using g) hr;rw[n]at hr;cases hr;exact hk)
 |new p _ _ i=>intro wL x j d g hr;simp only[Sem.run]at hr;exact i wL.heap.size (λq=>by have:=g _ q;omega) (d.push p) (λb q=>by have:=g _ q;simp;omega) hr
 |@getObj V α R r k k' _ i=>intro wL x j d g hr;simp only[Sem.run]at hr;split at hr;cases hr;trivial;rename_i o _ p;exact i _ (d _ _ p) d g hr;cases hr;trivial
 |setObj p _ _ i=>intro wL x j d g hr;simp only[Sem.run]at hr;split at hr;cases hr;trivial;exact i (d.setObj p _) (by simpa using g) hr;cases hr;trivial
 |shape _ _ i=>intro wL x j d g hr;exact i _ d g hr
 |freeze _ _ _ i=>intro wL x j d g hr;exact i (d.freeze _ _) (by rw[eI];exact g) hr
 |frozen _ _ _ i=>intro wL x j d g hr;exact i _ d g hr
 |choose _ i=>intro wL x j d g hr;simp only[Sem.run]at hr;split at hr;exact i _ d g hr;exact i _ (wL:={wL with drawn:=wL.drawn+1}) d g hr
 |program _ i=>intro wL x j d g hr;exact i d g hr
 |mark _ _ i=>intro wL x j d g hr;exact i d g hr
 |dead h=>intro wL x j d g hr;have⟨y,w',n,hk⟩:=h _ d;rw[n]at hr;cases hr;exact hk
def eV.az{w:Φ}(h:eV w)(t:eH)(d:Nat):eV (az w t d):=h
def bD.Hw{α:Type}{R:α->α->Prop}{s s':Sem α}(h:bD P π N V R s s'):∀{w:Φ}{t:eH}{d:Nat}{es:Ϛ}{x:α}{w':Φ}{f:Ϛ},eV w->(∀b,N b->b<w.heap.size)->
  s.runT P (Go.Proofs.YtchcmhodnkgojaaGreat.az w t d) es=(.ok x w',f)->∃c,w'=Go.Proofs.YtchcmhodnkgojaaGreat.az w' t (d+c)/\∀t2 d2,(∀i,i<c->t2 (d2+i)=t (d+i))->s.runT P (Go.Proofs.YtchcmhodnkgojaaGreat.az w t2 d2) es=(.ok x (Go.Proofs.YtchcmhodnkgojaaGreat.az w' t2 (d2+c)),f):=by
 induction h with
 |pure _=>intro w t d es x w' f g j hr;simp only[Sem.runT,ai6,Result.ok.injEq]at hr;obtain⟨⟨rfl,rfl⟩,rfl⟩:=hr;exact⟨0,rfl,λt2 d2 _=>rfl⟩
 |@load V α R m a k k' _ p=>
  intro w t d es x w' f g j hr;simp only[Sem.runT]at hr;have e:∀t d,(Go.Proofs.YtchcmhodnkgojaaGreat.az w t d).cell? a=w.cell? a:=λ_ _=>rfl
  rw[e]at hr;cases u:w.cell? a with
  |some v=>rw[u]at hr;have⟨c,h1,h2⟩:=p v g j hr;refine⟨c,h1,λt2 d2 z=>?_⟩;simp only[Sem.runT,e,u];exact h2 t2 d2 z
  |none=>
   rw[u]at hr;have G:∀t d,(Go.Proofs.YtchcmhodnkgojaaGreat.az w t d).farLoad P a (m==.atomic)=w.farLoad P a (m==.atomic):=λ_ _=>rfl
   rw[G]at hr;obtain⟨v,l,A⟩|⟨y,A,hk⟩:=vq (P:=P) g a (m==.atomic);rw[A]at hr;have⟨c,h1,h2⟩:=p v g j hr;refine⟨c,h1,λt2 d2 z=>?_⟩;simp only[Sem.runT,e,u,G,A];exact h2 t2 d2 z;rw[A]at hr;cases hr
 |@store V α R m a v k k' _ p=>
  intro w t d es x w' f g j hr;have e:∀t d,(Go.Proofs.YtchcmhodnkgojaaGreat.az w t d).cell? a=w.cell? a:=λ_ _=>rfl
  have e2:∀t d,(Go.Proofs.YtchcmhodnkgojaaGreat.az w t d).frozen? a=w.frozen? a:=λ_ _=>rfl
  cases v<;>simp only[Sem.runT]at hr<;>first
   |(cases hr;done)
   |(
     rw[e]at hr;cases u:w.cell? a with
     |some v=>
      rw[u]at hr;dsimp only at hr;rw[e2]at hr;cases D:w.frozen? a with|true=>rw[D]at hr;simp at hr|false=>rw[D]at hr;simp only[ab6,if_false]at hr;have⟨c,h1,h2⟩:=p (w:=w.setCell a _) (g.set _ _) (by rw[cQ];exact j) hr;refine⟨c,h1,λt2 d2 z=>?_⟩;simp only[Sem.runT,e,u,e2,D,ab6,if_false];exact h2 t2 d2 z
     |none=>
      rw[u]at hr;obtain⟨l,b,c0,e0,f0,A⟩|⟨y,A,hk⟩:=se (P:=P) (g.az t d) a _ (m==.atomic);have C:=λt2 d2=>Gs (t:=t2) (d:=d2) A
      rw[A]at hr;have⟨c,h1,h2⟩:=p (w:={w with heap:=w.heap.setIfInBounds b (.cells c0 e0 f0)}) (g.setObj (o:=.cells c0 e0 f0) trivial b) (by simpa using j) hr;refine⟨c,h1,λt2 d2 z=>?_⟩;have B:=C t2 d2;rw[AW]at B;simp only[Sem.runT,e,u,B];exact h2 t2 d2 z;rw[A]at hr;cases hr)
 |@new V α R o k k' ho _ _ p=>intro w t d es x w' f g j hr;exact p w.heap.size (λE=>by have:=j _ E;omega) (w:={w with heap:=w.heap.push o}) (g.push ho) (λb E=>by have:=j _ E;simp;omega) hr
 |@getObj V α R r k k' _ p=>
  intro w t d es x w' f g j hr;simp only[Sem.runT]at hr;have e:∀t d,(Go.Proofs.YtchcmhodnkgojaaGreat.az w t d).heap=w.heap:=λ_ _=>rfl
  rw[e]at hr;cases u:w.heap[r]? with
  |none=>rw[u]at hr;simp at hr
  |some o=>
   rw[u]at hr;cases o<;>first
    |(simp at hr;done)
    |(
      dsimp only at hr;have⟨c,h1,h2⟩:=p _ (g _ _ u) g j hr;refine⟨c,h1,λt2 d2 z=>?_⟩;simp only[Sem.runT,e,u];exact h2 t2 d2 z)
 |@setObj V α R r o k k' ho _ _ p=>
  intro w t d es x w' f g j hr;simp only[Sem.runT]at hr;have e:∀t d,(Go.Proofs.YtchcmhodnkgojaaGreat.az w t d).heap=w.heap:=λ_ _=>rfl
  rw[e]at hr;cases u:w.heap[r]? with
  |none=>rw[u]at hr;simp at hr
  |some o2=>
   rw[u]at hr;cases o2<;>first
    |(simp at hr;done)
    |(
      dsimp only at hr;have⟨c,h1,h2⟩:=p (w:={w with heap:=w.heap.setIfInBounds r o}) (g.setObj ho _) (by simpa using j) hr;refine⟨c,h1,λt2 d2 z=>?_⟩;simp only[Sem.runT,e,u];exact h2 t2 d2 z)
 |shape _ _ p=>intro w t d es x w' f g j hr;exact p _ g j hr
 |@freeze V α R a n k k' _ _ _ p=>
  intro w t d es x w' f g j hr;have e:∀t d,(Go.Proofs.YtchcmhodnkgojaaGreat.az w t d).freeze a n=Go.Proofs.YtchcmhodnkgojaaGreat.az (w.freeze a n) t d:=by intro t d;unfold World.freeze;split<;>rfl
  simp only[Sem.runT,e]at hr⊢;exact p (w:=w.freeze a n) (g.freeze _ _) (by rw[eI];exact j) hr
 |frozen _ _ _ p=>intro w t d es x w' f g j hr;exact p _ g j hr
 |@choose V α R q k k' _ p=>
  intro w t d es x w' f g j hr;simp only[Sem.runT]at hr⊢;cases F:q.forced with
  |true=>simp only[F,if_true]at hr⊢;exact p _ g j hr
  |false=>
   simp only[F,ab6,if_false]at hr⊢;have⟨c,h1,h2⟩:=p (q.cut (t d q)) (w:=w) (t:=t) (d:=d+1) g j hr;refine⟨c+1,by rw[show d+(c+1)=d+1+c by omega];exact h1,λt2 d2 z=>?_⟩;have h0:=z 0 ϖ;simp only[ϔ9]at h0;have:=h2 t2 (d2+1) λi H=>by have:=z (i+1) ϖ;rw[show d2+1+i=d2+(i+1) by omega,show d+1+i=d+(i+1) by omega];exact this
   show(k (q.cut (t2 d2 q))).runT P (Go.Proofs.YtchcmhodnkgojaaGreat.az w t2 (d2+1)) es=_;rw[h0,show d2+(c+1)=d2+1+c by omega];exact this
 |program _ p=>intro w t d es x w' f g j hr;exact p g j hr
 |mark _ _ p=>intro w t d es x w' f g j hr;exact p g j hr
 |dead h=>intro w t d es x w' f g j hr;have⟨y,w1,A,hk⟩:=h _ (g.az t d);have:=congrArg Prod.fst hr;rw[Sem.runT_fst,A]at this;cases this
def gT(w:Φ)(a:Addr)(v:Θ)(k:Nat)(hk:k≠a.block):(w.setCell a v).heap[k]?=w.heap[k]?:=by
 simp only[World.setCell,aj3];rw[Γ λe=>hk e.symm]
def jK(w:Φ)(b off:Nat)(sp:ϡ)(v:Θ){f:Nat×Nat}(h:w.heap[b]?=some (.cells c t f)):
  (w.setCell ⟨b,off,sp⟩ v).heap[b]?=some (.cells (if sp.isSome then c else c.setIfInBounds off v) t f):=by
 simp only[World.setCell,aj3,if_true,h,ι]
def WR.set(h:WR π H Z wL w){a:Addr}{v u:Θ}(j:wL.cell? a=some u)(n:wL.frozen? a=false):
  ¬Z a.block/\WR π H Z (wL.setCell a v) (w.setCell (bA π a) (Value.ren π v))/\w.frozen? (bA π a)=false:=by
 have⟨b,off,sp⟩:=a;have⟨_,r,p⟩:=Al h j;cases d:wL.heap[b]? with
 |none=>simp[World.cell?,d]at j
 |some o=>
  have g:¬Z b:=by intro q;obtain⟨c,t,f,rfl,_⟩:=h.qj b o d q;simp only[World.cell?,d]at j;simp only[World.frozen?,d]at n;split at j;cases j;have:=(Ψ.1 j).1;simp at n;omega
  have⟨y,s⟩:=h.ok b o d p g;cases o with
  |cells c t f=>
   have l:w.heap[π b]?=some (.cells (c.map (Value.ren π)) t f):=s;refine⟨g,?_,?_⟩;refine{inj:=h.inj,tape:=h.tape,drawn:=h.drawn,lt:=λk hk h0=>by rw[cQ]at hk⊢;exact h.lt k hk h0,ok:=λk o hk h1 h2=>?_,hid:=λk o hk h1=>?_,qj:=λk o hk h1=>?_,low:=λk hk=>by rw[cQ];exact h.low k hk,ic:=λk o hk i m=>?_};by_cases e:k=b;subst e;rw[jK wL k off sp v d]at hk;cases hk;refine⟨trivial,?_⟩;show(w.setCell ⟨π k,off,sp⟩ (Value.ren π v)).heap[π k]?=_;rw[jK w (π k) off sp _ l];cases sp<;>simp[et,ϒ8]
   rw[gT _ _ _ _ e]at hk;rw[gT _ _ _ _ (show π k≠π b fromλx=>e (h.inj _ _ x))];exact h.ok k o hk h1 h2;have e:k≠b:=λx=>p (x▸h1)
   rw[gT _ _ _ _ e]at hk;exact h.hid k o hk h1;have e:k≠b:=λx=>g (x▸h1)
   rw[gT _ _ _ _ e]at hk;rw[gT _ _ _ _ (show π k≠π b fromλx=>e (h.inj _ _ x))];exact h.qj k o hk h1;rw[cQ];by_cases e:k=b;subst e;rw[jK wL k off sp v d]at hk;cases hk;exact m.elim;rw[gT _ _ _ _ e]at hk;exact h.ic k o hk i m;simp only[World.frozen?,d]at n;show(match w.heap[π b]? with|some (.cells _ _ (lo,m))=>decide (lo<=off)&&decide (off<m)|_=>false)=false;rw[l];exact n
  |_=>simp[World.cell?,d]at j
def WR.push(h:WR π H Z wL w){o:Obj}(g:pY o)(c:∀i,inner o i->i<wL.heap.size/\¬H i)(d:π wL.heap.size=w.heap.size):WR π H Z {wL with heap:=wL.heap.push o} {w with heap:=w.heap.push (et π o)}:=by
 have a:∀k,(H k\/Z k)->k≠wL.heap.size:=λk hk=>by have:=h.low k hk;omega
 refine{inj:=h.inj,tape:=h.tape,drawn:=h.drawn,lt:=λk hk h0=>?_,ok:=λk b hk h1 h2=>?_,hid:=λk b hk h1=>?_,qj:=λk b hk h1=>?_,low:=λk hk=>by have:=h.low k hk;simp;omega,ic:=λk b hk i f=>?_};simp at hk⊢;obtain x|x:=am0 k wL.heap.size;have:=h.lt k x h0;omega;have:k=wL.heap.size:=ϖ;subst this;omega;simp only[am3]at hk⊢;split at hk;rename_i e;subst e;cases hk;rw[κ d];exact⟨g,rfl⟩;rename_i e;rw[Γ λx=>e (h.inj _ _ (x.trans d.symm))];exact h.ok k b hk h1 h2;simp only[am3]at hk;rw[Γ (a k (.inl h1))]at hk;exact h.hid k b hk h1;simp only[am3]at hk⊢;rw[Γ (a k (.inr h1))]at hk;rw[Γ λx=>a k (.inr h1) (h.inj _ _ (x.trans d.symm))];exact h.qj k b hk h1;simp only[am3]at hk;have:i<wL.heap.size/\¬H i:=by split at hk;cases hk;exact c i f;exact h.ic k b hk i f
 exact⟨by simp;omega,this.2⟩
def WR.setObj(h:WR π H Z wL w){o b:Obj}{r:Nat}(hr:wL.heap[r]?=some b)(d:∀c t f,b≠.cells c t f)(n:pY o)(l:∀i,inner o i->i<wL.heap.size/\¬H i):
  ¬H r/\¬Z r/\w.heap[π r]?=some (et π b)/\WR π H Z {wL with heap:=wL.heap.setIfInBounds r o} {w with heap:=w.heap.setIfInBounds (π r) (et π o)}:=by
 have g:¬H r:=λx=>d _ _ _ (h.hid r b hr x)
 have j:¬Z r:=λx=>by obtain⟨c,t,f,rfl,_⟩:=h.qj r b hr x;exact d _ _ _ rfl
 have a:r<wL.heap.size:=(Ψ.1 hr).1;refine⟨g,j,(h.ok r b hr g j).2,{inj:=h.inj,tape:=h.tape,drawn:=h.drawn,lt:=λk hk h0=>by simp at hk⊢;exact h.lt k hk h0,ok:=λk o2 hk h1 h2=>?_,hid:=λk o2 hk h1=>?_,qj:=λk o2 hk h1=>?_,low:=λk hk=>by simpa using h.low k hk,ic:=λk o2 hk i m=>?_}⟩;dsimp only at hk⊢;by_cases e:r=k;subst e;rw[ac1 a]at hk;cases hk;rw[ac1 (h.lt _ a g)];exact⟨n,rfl⟩;rw[ζ e]at hk;rw[ζ λx=>e (h.inj _ _ x)];exact h.ok k o2 hk h1 h2;dsimp only at hk;have e:r≠k:=λx=>g (x.symm▸h1)
 rw[ζ e]at hk;exact h.hid k o2 hk h1;dsimp only at hk⊢;have e:r≠k:=λx=>j (x.symm▸h1)
 rw[ζ e]at hk;rw[ζ λx=>e (h.inj _ _ x)];exact h.qj k o2 hk h1;dsimp only at hk⊢;rw[an1];by_cases e:r=k;subst e;rw[ac1 a]at hk;cases hk;exact l i m;rw[ζ e]at hk;exact h.ic k o2 hk i m
def WR.freeze(h:WR π H Z wL w){a:Addr}{n:Nat}(h1:¬H a.block)(h2:¬Z a.block):WR π H Z (wL.freeze a n) (w.freeze (bA π a) n):=by
 unfold World.freeze;by_cases j:n=0;simp only[j,if_true];exact h;simp only[j,if_false];refine{inj:=h.inj,tape:=h.tape,drawn:=h.drawn,lt:=λk hk h0=>by simp at hk⊢;exact h.lt k hk h0,ok:=λk o hk b g=>?_,hid:=λk o hk b=>?_,qj:=λk o hk b=>?_,low:=λk hk=>by simpa using h.low k hk,ic:=λk o hk i f=>?_};simp only[aj3]at hk⊢;by_cases e:a.block=k;rw[κ e]at hk;obtain⟨d,c,rfl⟩:=ψ.1 hk;have⟨l,k2⟩:=h.ok k d c b g;rw[κ (show(bA π a).block=π k by rw[<-e];rfl),k2];refine⟨?_,?_⟩;cases d<;>first|trivial|exact l.elim
 cases d<;>rfl
 rw[Γ e]at hk;rw[Γ (show(bA π a).block≠π k fromλx=>e (h.inj _ _ x))];exact h.ok k o hk b g;simp only[aj3]at hk;rw[Γ λx=>h1 (by rw[x];exact b)]at hk;exact h.hid k o hk b;simp only[aj3]at hk⊢;rw[Γ λx=>h2 (by rw[x];exact b)]at hk;rw[Γ (show(bA π a).block≠π k fromλx=>h2 (by rw[h.inj _ _ x];exact b))];exact h.qj k o hk b;simp only[Array.size_modify];simp only[aj3]at hk;by_cases e:a.block=k;rw[κ e]at hk;obtain⟨d,c,rfl⟩:=ψ.1 hk;exact h.ic k d c i (by cases d<;>first|exact f|exact f.elim);rw[Γ e]at hk;exact h.ic k o hk i f
def Ia{α:Type}{m:Mode}{a:Addr}{v:Θ}{k:Sem α}{w:Φ}(hv:ni v=true):(Sem.store m a v k).run P w=
  (match w.cell? a with
  |some _=>if w.frozen? a then .halt (.unsupported (.unsafePointer "a write to bytes that a string shares")) w else k.run P (w.setCell a v)
  |none=>match w.farStore P a v (m==.atomic)with
   |.ok (w,_)=>k.run P w
   |.error h=>.halt h w):=by
 cases v<;>first|rfl|cases hv
def wU{α:Type}{m:Mode}{a:Addr}{v:Θ}{k:Sem α}{w:Φ}{es:Ϛ}(hv:ni v=true):(Sem.store m a v k).runT P w es=
  (match w.cell? a with
  |some _=>if w.frozen? a then(.halt (.unsupported (.unsafePointer "a write to bytes that a string shares")) w,es) else k.runT P (w.setCell a v) (es.push ⟨.cell a,true,m== .atomic⟩)
  |none=>match w.farStore P a v (m==.atomic)with
   |.ok (w,touched)=>k.runT P w (es++touched.toArray.map (⟨.cell ·,true,m==.atomic⟩))
   |.error h=>(.halt h w,es)):=by
 cases v<;>first|rfl|cases hv
def Fh(π:ϙ)(v:Θ):ni v=ni (Value.ren π v):=by cases v<;>simp[ni]
def Eo(h:WR π H Z wL w){at_:Addr}(a:wL.heap[b]?=some (.view at_ u)):¬H b/\¬Z b/\b<wL.heap.size/\w.heap[π b]?=some (.view (bA π at_) u):=by
 have g:¬H b:=λx=>by have:=h.hid b _ a x;cases this
 have d:¬Z b:=λx=>by have⟨c,t,f,e,_⟩:=h.qj b _ a x;cases e
 exact⟨g,d,(Ψ.1 a).1,(h.ok b _ a g d).2⟩
def wE{at_:Addr}(a:w.heap[b]?=some (.view at_ u))(off:Nat)(sp:ϡ):w.cell? ⟨b,off,sp⟩=none:=by
 simp[World.cell?,a]
def Vi(B:P.cellsOf 1000000=0)(h:WR π H Z wL w){a:Addr}{m:Bool}{v:Θ}{l:List Addr}(d:wL.farLoad P a m=.ok (v,l)):
  w.cell? (bA π a)=none/\w.farLoad P (bA π a) m=.ok (Value.ren π v,l.map (bA π))/\True/\(a.block<wL.heap.size/\¬H a.block)/\∀b∈l,b.block<wL.heap.size/\¬H b.block:=by
 unfold World.farLoad at d⊢;cases j:wL.heap[a.block]? with
 |none=>rw[j]at d;cases d
 |some o=>
  rw[j]at d;cases o with
  |view at_ u=>
   have⟨h1,h2,C,q⟩:=Eo h j;dsimp only at d;cases hs:wL.viewLoad P at_ u a m with
   |error y=>rw[hs]at d;cases d
   |ok r=>
    rw[hs]at d;simp only[am7]at d;subst d;have g:∀c e f,wL.heap[at_.block]?=some (.cells c e f)->P.cellsOf e≠0->¬H at_.block/\∃f',w.heap[π at_.block]?=some (.cells (c.map (Value.ren π)) e f'):=by
     intro c e f i n;have t:¬H at_.block:=λx=>by have:=h.hid _ _ i x;cases this;exact n B
     refine⟨t,?_⟩;by_cases p:Z at_.block;have⟨E,t',f',e1,e2⟩:=h.qj _ _ i p;cases e1;exact⟨f',e2⟩;exact⟨f,(h.ok _ _ i t p).2⟩
    have⟨A,D,c,e,f,s,z⟩:=CD hs λc e f i n=>(g c e f i n).2
    refine⟨wE q ..,?_,trivial,⟨C,h1⟩,λb k=>?_⟩;rw[show(bA π a).block=π a.block from rfl,q];dsimp only;rw[A];rw[D b k];exact⟨(Ψ.1 s).1,(g _ _ _ s z).1⟩
  |_=>cases d
def Qw(N:P.cellsOf 1000000=0)(h:WR π H Z wL w){a:Addr}{v:Θ}{m:Bool}{l:List Addr}{Sx:Φ}(d:wL.farStore P a v m=.ok (Sx,l)):
  ∃w1,w.cell? (bA π a)=none/\w.farStore P (bA π a) (Value.ren π v) m=.ok (w1,l.map (bA π))/\(a.block<wL.heap.size/\¬H a.block)/\
   WR π H Z Sx w1/\(∀x∈l,x.block<wL.heap.size/\¬H x.block/\¬Z x.block)/\Ed π H Z wL Sx w w1/\Sx.heap.size=wL.heap.size/\w1.heap.size=w.heap.size:=by
 unfold World.farStore at d⊢;cases E:wL.heap[a.block]? with
 |none=>rw[E]at d;cases d
 |some o=>
  rw[E]at d;cases o with
  |view at_ u=>
   have⟨h1,h2,I,C⟩:=Eo h E;dsimp only at d;cases hs:wL.viewStore P at_ u a v m with
   |error y=>rw[hs]at d;cases d
   |ok r=>
    rw[hs]at d;simp only[am7]at d;subst d;obtain⟨c,e,f,c1,B,O,rfl,J,M,G⟩:=nV hs;have b:at_.block<wL.heap.size:=(Ψ.1 B).1;have z:¬H at_.block:=λx=>by have:=h.hid _ _ B x;cases this;exact O N
    by_cases A:Z at_.block
    .have⟨Q,t',f',e1,e2⟩:=h.qj _ _ B A;cases e1;obtain⟨rfl,rfl⟩:=M rfl;have D:=G π w f' (.inr rfl) e2;have q:wL.heap.setIfInBounds at_.block (.cells c1 e (0,c1.size))=wL.heap:=by
      apply an5;intro i;by_cases p:at_.block=i;subst p;rw[ac1 b,B];rw[ζ p]
     have n:π at_.block<w.heap.size:=h.lt _ b z;have t:w.heap.setIfInBounds (π at_.block) (.cells (c1.map (Value.ren π)) e f')=w.heap:=by apply an5;intro i;by_cases p:π at_.block=i;subst p;rw[ac1 n,e2];rw[ζ p]
     refine⟨w,wE C ..,?_,⟨I,h1⟩,?_,λx F=>(by simp at F),?_,ϛ,rfl⟩;rw[show(bA π a).block=π a.block from rfl,C];dsimp only;rw[D,t];rw[q];exact h;rw[q];exact Ed.refl ..
    .have K:=(h.ok _ _ B z A).2;have D:=G π w f (.inl rfl) K;have n:π at_.block<w.heap.size:=h.lt _ b z;refine⟨{w with heap:=w.heap.setIfInBounds (π at_.block) (.cells (c1.map (Value.ren π)) e f)},wE C ..,?_,⟨I,h1⟩,?_,λx F=>?_,⟨ϛ,ϛ,λj R L=>ζ (L _ b z A),rfl,rfl,rfl,ε _⟩,ϛ,ϛ⟩;rw[show(bA π a).block=π a.block from rfl,C];dsimp only;rw[D]
     .refine {inj:=h.inj,tape:=h.tape,drawn:=h.drawn,lt:=λk hk h0=>by simp at hk⊢;exact h.lt k hk h0,ok:=λk o2 hk s k2=>?_,hid:=λk o2 hk s=>?_,qj:=λk o2 hk s=>?_,low:=λk hk=>by simpa using h.low k hk,ic:=λk o2 hk i p=>?_}
      .dsimp only at hk⊢;by_cases g:at_.block=k;subst g;rw[ac1 b]at hk;cases hk;rw[ac1 n];exact⟨trivial,rfl⟩;rw[ζ g]at hk;rw[ζ λx=>g (h.inj _ _ x)];exact h.ok k o2 hk s k2
      .dsimp only at hk;have g:at_.block≠k:=λx=>z (x.symm▸s)
       rw[ζ g]at hk;exact h.hid k o2 hk s
      .dsimp only at hk⊢;have g:at_.block≠k:=λx=>A (x.symm▸s)
       rw[ζ g]at hk;rw[ζ λx=>g (h.inj _ _ x)];exact h.qj k o2 hk s
      .dsimp only at hk⊢;rw[an1];by_cases g:at_.block=k;subst g;rw[ac1 b]at hk;cases hk;exact p.elim;rw[ζ g]at hk;exact h.ic k o2 hk i p
     rw[J x F];exact⟨b,z,A⟩
  |_=>cases d
def mS{es:Ϛ}{a e:Event}(h0:rJ π H Z n a)(b:n<=n')(h:e∈es.push a\/rJ π H Z n' e):e∈es\/rJ π H Z n' e:=by
 obtain h|h:=h;obtain h|rfl:=Array.mem_push.1 h;exact .inl h;exact .inr (h0.mono b);exact .inr h
def bD.run{α:Type}{R:α->α->Prop}{s s':Sem α}(WW:P.cellsOf 1000000=0)(h:bD P π N V R s s')(hN:∀b,N b↔H b\/Z b):∀{wL w:Φ}{es:Ϛ}{x:α}{O:Φ},WR π H Z wL w->(∀i,V i->i<wL.heap.size/\¬H i)->
  s.run P wL=.ok x O->(∀i,wL.heap.size+i<O.heap.size->π (wL.heap.size+i)=w.heap.size+i)->
  ∃x' w' p,s'.runT P w es=(.ok x' w',p)/\R x x'/\WR π H Z O w'/\Ed π H Z wL O w w'/\∀e∈p,e∈es\/rJ π H Z O.heap.size e:=by
 have ve:∀{wL w:Φ},WR π H Z wL w->∀b,N b->b<wL.heap.size:=λd b hb=>d.low b ((hN b).1 hb)
 induction h with
 |pure hR=>intro wL w es x O d A hr g;simp only[Sem.run,Result.ok.injEq]at hr;obtain⟨rfl,rfl⟩:=hr;exact⟨_,w,es,rfl,hR,d,Ed.refl _ _ _ _ _,λe T=>.inl T⟩
 |@load V α R m a k k' hk I=>
  intro wL w es x O d A hr g;simp only[Sem.run]at hr;cases C:wL.cell? a with
  |none=>rw[C]at hr;obtain⟨v,l,hy⟩|⟨y,hy,_⟩:=vq (P:=P) d.mK a (m==.atomic);rw[hy]at hr;have B:=((hk v).oG d.mK (ve d) hr).1;have⟨f1,f2,f3,f4,f5⟩:=Vi WW d hy;have⟨x',w',p,J,K,L,D,M⟩:=I v d (λi E=>E.elim (A i) λe=>e▸f4) hr g (es:=es++(l.map (bA π)).toArray.map (⟨.cell ·,false,m==.atomic⟩));refine⟨x',w',p,?_,K,L,D,λe T=>?_⟩;simp only[Sem.runT];rw[f1,f2];exact J;obtain h|h:=M e T;obtain h|h:=ai1.1 h;exact .inl h;right;simp at h;obtain⟨b,hb,rfl⟩:=h;have⟨b1,b2⟩:=f5 b hb;exact .inl ⟨b.block,ϖ,b2,λx=>(by simp at x),.inl ⟨_,rfl,rfl⟩⟩;exact .inr h;rw[hy]at hr;cases hr
  |some v=>rw[C]at hr;have B:=((hk v).oG d.mK (ve d) hr).1;have⟨h1,h2,h3⟩:=Al d (show wL.cell? ⟨a.block,a.off,a.spot⟩=some v from C);have⟨x',w',p,J,K,L,D,M⟩:=I v d (λi E=>E.elim (A i) λe=>e▸⟨h2,h3⟩) hr g (es:=es.push ⟨.cell (bA π a),false,m==.atomic⟩);refine⟨x',w',p,?_,K,L,D,λe T=>mS (.inl ⟨a.block,h2,h3,λx=>(by simp at x),.inl ⟨_,rfl,rfl⟩⟩) B (M e T)⟩;simp only[Sem.runT];rw[show w.cell? (bA π a)=some (Value.ren π v)from h1];exact J
 |@store V α R m a v k k' hk I=>
  intro wL w es x O d A hr g;cases hv:ni v with
  |false=>cases v<;>simp[ni,Sem.run]at hv hr
  |true=>
   rw[Ia hv]at hr;rw[wU (Fh π v▸hv)];cases C:wL.cell? a with
   |none=>rw[C]at hr;obtain⟨l,b,c0,e0,f0,hy⟩|⟨y,hy,_⟩:=se (P:=P) d.mK a v (m==.atomic);rw[hy]at hr;have⟨w1,f1,f2,f3,f4,f5,f6,f7,f8⟩:=Qw WW d hy;have B:=(hk.oG f4.mK (ve f4) hr).1;rw[f7]at B;have⟨x',w',p,J,K,L,D,M⟩:=I f4 (λi E=>by rw[f7];exact E.elim (A i) λe=>e▸f3) hr (by rw[f7,f8];exact g) (es:=es++(l.map (bA π)).toArray.map (⟨.cell ·,true,m==.atomic⟩));refine⟨x',w',p,?_,K,L,f6.trans D g,λe T=>?_⟩;rw[f1,f2];exact J;obtain h|h:=M e T;obtain h|h:=ai1.1 h;exact .inl h;right;simp at h;obtain⟨b,hb,rfl⟩:=h;have⟨b1,b2,b3⟩:=f5 b hb;exact .inl ⟨b.block,ϖ,b2,λ_=>b3,.inl ⟨_,rfl,rfl⟩⟩;exact .inr h;rw[hy]at hr;cases hr
   |some u=>
    rw[C]at hr;dsimp only at hr;cases hz:wL.frozen? a with
    |true=>rw[hz]at hr;simp at hr
    |false=>
     rw[hz]at hr;simp only[ab6,if_false]at hr;have⟨h1,h2,h3⟩:=Al d (show wL.cell? ⟨a.block,a.off,a.spot⟩=some u from C);have⟨aa,F,hf⟩:=d.set (v:=v) C hz;have B:=(hk.oG F.mK (ve F) hr).1;rw[cQ]at B;have⟨x',w',p,J,K,L,D,M⟩:=I F (λi E=>by rw[cQ];exact E.elim (A i) λe=>e▸⟨h2,h3⟩) hr (by rw[cQ,cQ];exact g) (es:=es.push ⟨.cell (bA π a),true,m==.atomic⟩);refine⟨x',w',p,?_,K,L,Ed.trans ⟨by rw[cQ];exact ε _,by rw[cQ,cQ];omega,λj hj hn=>gT _ _ _ _ λe=>hn a.block h2 h3 aa e.symm,rfl,rfl,rfl,ε _⟩ D g,
      λe T=>mS (.inl ⟨a.block,h2,h3,λ_=>aa,.inl ⟨_,rfl,rfl⟩⟩) B (M e T)⟩
     rw[show w.cell? (bA π a)=some (Value.ren π u)from h1];simp only[hf,ab6,if_false];exact J
 |@new V α R o k k' ho hi0 hk I=>
  intro wL w es x O d A hr g;simp only[Sem.run]at hr;have hb:¬N wL.heap.size:=λx=>by have:=ve d _ x;omega
  have al:eV {wL with heap:=wL.heap.push o}:=d.mK.push ho;have B:=((hk _ hb).oG al (λb x=>by have:=ve d _ x;simp;omega) hr).1;simp at B;have hp:=g 0 ϖ;simp only[ϔ9]at hp;have F:=d.push ho (λi E=>A i (hi0 i E)) hp;have ac:∀b,H b->b≠wL.heap.size:=λb x=>by have:=d.low b (.inl x);omega
  have⟨x',w',p,J,K,L,D,M⟩:=I wL.heap.size hb F (λi E=>by
   rw[Array.size_push];obtain E|E:=E;exact⟨by have:=(A i E).1;omega,(A i E).2⟩;exact⟨ϖ,λy=>ac i y E⟩) hr (λi E=>by
   have:=g (i+1) (by simp at E;omega);simp;rw[show wL.heap.size+1+i=wL.heap.size+(i+1) by omega,this];omega) (es:=es)
  refine⟨x',w',p,?_,K,L,Ed.trans (Sx:={wL with heap:=wL.heap.push o}) (w1:={w with heap:=w.heap.push (et π o)}) ⟨ϛ,ϛ,λj hj hn=>?_,rfl,rfl,rfl,ε _⟩ D g,M⟩;simp only[Sem.runT];rw[<-hp];exact J;simp only[am3];rw[Γ ϖ]
 |@getObj V α R r k k' hk I=>
  intro wL w es x O d A hr g;simp only[Sem.run]at hr;cases C:wL.heap[r]? with
  |none=>rw[C]at hr;simp at hr
  |some o=>
   rw[C]at hr;have Q:∀c t f,o≠.cells c t f:=λc t f e=>by subst e;simp at hr
   have S:¬H r:=λx=>Q _ _ _ (d.hid r o C x)
   have X:¬Z r:=λx=>by obtain⟨c,t,f,rfl,_⟩:=d.qj r o C x;exact Q _ _ _ rfl
   have⟨W,U⟩:=d.ok r o C S X;have G:r<wL.heap.size:=(Ψ.1 C).1;have Y:(k o).run P wL=.ok x O:=by cases o<;>first|exact hr|exact absurd rfl (Q _ _ _)
   have B:=((hk o W).oG d.mK (ve d) Y).1;have⟨x',w',p,J,K,L,D,M⟩:=I o W d (λi E=>E.elim (A i) λe=>e.elim (λe=>e▸⟨G,S⟩) (d.ic r o C i)) Y g (es:=es.push ⟨.obj (π r),false,(et π o).isChan⟩);refine⟨x',w',p,?_,K,L,D,λe T=>mS (.inl ⟨r,G,S,λx=>(by simp at x),.inr rfl⟩) B (M e T)⟩;simp only[Sem.runT];rw[U];cases o<;>first|exact absurd rfl (Q _ _ _)|exact W.elim|exact J
 |@setObj V α R r o k k' ho hi0 hk I=>
  intro wL w es x O d A hr g;simp only[Sem.run]at hr;cases C:wL.heap[r]? with
  |none=>rw[C]at hr;simp at hr
  |some o'=>
   rw[C]at hr;have Q:∀c t f,o'≠.cells c t f:=λc t f e=>by subst e;simp at hr
   have⟨S,X,U,F⟩:=d.setObj C Q ho λi E=>A i (hi0 i E);have W:=(d.ok r o' C S X).1;have G:r<wL.heap.size:=(Ψ.1 C).1;have Y:k.run P {wL with heap:=wL.heap.setIfInBounds r o}=.ok x O:=by cases o'<;>first|exact hr|exact absurd rfl (Q _ _ _)
   have B:=(hk.oG F.mK (ve F) Y).1;simp at B;have⟨x',w',p,J,K,L,D,M⟩:=I F (λi E=>by rw[an1];exact E.elim (A i) λe=>e▸⟨G,S⟩) Y (by simpa using g) (es:=es.push ⟨.obj (π r),true,(et π o).isChan⟩);refine⟨x',w',p,?_,K,L,Ed.trans (Sx:={wL with heap:=wL.heap.setIfInBounds r o}) (w1:={w with heap:=w.heap.setIfInBounds (π r) (et π o)}) ⟨ϛ,ϛ,λj hj hn=>?_,rfl,rfl,rfl,ε _⟩ D g,λe T=>?_⟩;simp only[Sem.runT];rw[U];cases o'<;>first|exact absurd rfl (Q _ _ _)|exact W.elim|exact J
   exact ζ (hn r G S X);exact mS (.inl ⟨r,G,S,λ_=>X,.inr rfl⟩) B (M e T)
 |@shape V α R r k k' hv hk I=>
  intro wL w es x O d A hr g;have⟨G,S⟩:=A r hv;have hs:w.shape? (π r)=wL.shape? r:=by unfold World.shape?;have C:wL.heap[r]?=some wL.heap[r]:=τ G;by_cases X:Z r;have⟨c,t,f,e1,e2⟩:=d.qj r _ C X;rw[C,e1,e2];simp;have⟨W,U⟩:=d.ok r _ C S X;rw[C,U];cases wL.heap[r]<;>simp[et]
  simp only[Sem.run]at hr;have⟨x',w',p,J,K,L,D,M⟩:=I _ d A hr g (es:=es);refine⟨x',w',p,?_,K,L,D,M⟩;simp only[Sem.runT];rw[hs];exact J
 |@freeze V α R a n k k' hv hn hk I=>
  intro wL w es x O d A hr g;have⟨G,S⟩:=A _ hv;have X:¬Z a.block:=λz=>hn ((hN _).2 (.inr z))
  have F:=d.freeze (n:=n) S X;simp only[Sem.run]at hr;have ag:∀(u:Φ)(c:Addr)(b:Nat),b≠c.block->(u.freeze c n).heap[b]?=u.heap[b]?:=λu c b hb=>by unfold World.freeze;split;rfl;simp only[aj3];rw[Γ λe=>hb e.symm]
  have⟨x',w',p,J,K,L,D,M⟩:=I F (λi E=>by rw[eI];exact A i E) hr (by rw[eI,eI];exact g) (es:=es);exact⟨x',w',p,J,K,L,Ed.trans ⟨by rw[eI];exact ε _,by rw[eI,eI];omega,λj hj hm=>ag _ _ _ λe=>hm a.block G S X e.symm,by unfold World.freeze;split<;>rfl,by unfold World.freeze;split<;>rfl,by unfold World.freeze;split<;>rfl,by unfold World.freeze;split<;>exact ε _⟩ D g,M⟩
 |@frozen V α R a k k' hv hn hk I=>
  intro wL w es x O d A hr g;have⟨G,S⟩:=A _ hv;have X:¬Z a.block:=λz=>hn ((hN _).2 (.inr z))
  have hs:w.frozen? (bA π a)=wL.frozen? a:=by
   unfold World.frozen?;have C:wL.heap[a.block]?=some wL.heap[a.block]:=τ G;have⟨W,U⟩:=d.ok _ _ C S X;rw[show(bA π a).block=π a.block from rfl,C,U];generalize wL.heap[a.block]=o;cases o with|cells c t f=>have⟨lo,E⟩:=f;rfl|_=>rfl
  simp only[Sem.run]at hr;have⟨x',w',p,J,K,L,D,M⟩:=I _ d A hr g (es:=es);refine⟨x',w',p,?_,K,L,D,M⟩;simp only[Sem.runT];rw[hs];exact J
 |@choose V α R q k k' hk I=>
  intro wL w es x O d A hr g;simp only[Sem.run,Sem.runT]at hr⊢;cases hq:q.forced with
  |true=>simp only[hq,if_true]at hr⊢;exact I _ d A hr g
  |false=>
   simp only[hq,ab6,if_false]at hr⊢;rw[d.tape,d.drawn];have F:WR π H Z {wL with drawn:=wL.drawn+1} {w with drawn:=wL.drawn+1}:={inj:=d.inj,tape:=d.tape,drawn:=rfl,lt:=d.lt,ok:=d.ok,hid:=d.hid,qj:=d.qj,low:=d.low,ic:=d.ic}
   have⟨x',w',p,J,K,L,D,M⟩:=I _ F A hr g (es:=es);have hd:=d.drawn;rw[d.tape]at J;exact⟨x',w',p,J,K,L,⟨D.oG,D.size,D.keep,D.os,D.output,D.tape,by have:=D.drawn;simp at this;omega⟩,M⟩
 |program _ I=>intro wL w es x O d A hr g;exact I d A hr g
 |@mark V α R m k k' hm hk I=>intro wL w es x O d A hr g;simp only[Sem.run]at hr;have B:=(hk.oG d.mK (ve d) hr).1;have⟨x',w',p,J,K,L,D,M⟩:=I d A hr g (es:=es.push ⟨.mark m,false,true⟩);exact⟨x',w',p,J,K,L,D,λe T=>mS (n:=0) (.inr ⟨m,rfl,hm⟩) (ϕ6 _) (M e T)⟩
 |dead h=>intro wL w es x O d A hr g;have⟨y,w',hy,_⟩:=h _ d.mK;rw[hy]at hr;cases hr
end
def j7:Nat->Θ->Bool
 |0,_=>false
 |n+1,v=>match v with
  |.bool _|.int _ _|.float _ _|.complex _ _ _|.string _|.nilFunc|.nilIface=>true
  |.pointer a=>a.isNone
  |.slice a _ _=>a.isNone
  |.map r|.chan r=>r.isNone
  |.func fn f c=>(match fn with|.yield _=>false|_=>true)&&f.toList.all (j7 n)&&c.toList.all (j7 n)
  |.iface _ v=>j7 n v
  |.agg cs|.tuple cs=>cs.toList.all (j7 n)
def fu{π:ϙ}:∀{n:Nat}{v:Θ},j7 n v=true->Value.ren π v=v
 |0,_,h=>by simp[j7]at h
 |n+1,v,h=>by
  cases v with
  |pointer a=>cases a<;>simp[j7]at h⊢
  |slice a _ _=>cases a<;>simp[j7]at h⊢
  |map r=>cases r<;>simp[j7]at h⊢
  |chan r=>cases r<;>simp[j7]at h⊢
  |iface t v=>simp only[j7]at h;rw[dz,fu h]
  |agg cs=>simp only[j7,ae7,Array.mem_toList_iff]at h;rw[dV,cP λv hv=>fu (h v hv)]
  |tuple cs=>simp only[j7,ae7,Array.mem_toList_iff]at h;rw[dy,cP λv hv=>fu (h v hv)]
  |func fn f c=>simp only[j7,χ,ae7,Array.mem_toList_iff]at h;rw[dO,cP λv hv=>fu (h.1.2 v hv),cP λv hv=>fu (h.2 v hv)];cases fn<;>simp at h<;>rfl
  |_=>simp
inductive Value.Has (r:Nat):Θ->Prop
 |ptr {a:Addr} (h:a.block=r):Value.Has r (.pointer (some a))
 |slice {a:Addr}{n c:Nat} (h:a.block=r):Value.Has r (.slice (some a) n c)
 |map:Value.Has r (.map (some r))
 |chan:Value.Has r (.chan (some r))
 |yield {f c:Array Θ}:Value.Has r (.func (.yield r) f c)
 |first {fn:Fn}{f c:Array Θ}{x:Θ} (hx:x∈f) (h:Value.Has r x):Value.Has r (.func fn f c)
 |Ji {fn:Fn}{f c:Array Θ}{x:Θ} (hx:x∈c) (h:Value.Has r x):Value.Has r (.func fn f c)
 |iface {t:θ}{v:Θ} (h:Value.Has r v):Value.Has r (.iface t v)
 |agg {cs:Array Θ}{x:Θ} (hx:x∈cs) (h:Value.Has r x):Value.Has r (.agg cs)
 |tuple {cs:Array Θ}{x:Θ} (hx:x∈cs) (h:Value.Has r x):Value.Has r (.tuple cs)
section
variable {P:aa1}{π:Nat->Nat}{N V:Nat->Prop}
def RV(π:ϙ)(v a:Θ):Prop:=a=Value.ren π v
def RA(π:ϙ)(a a':Addr):Prop:=a'=bA π a
def RC(π:ϙ)(c a:ϐ):Prop:=a=c.map (Value.ren π)
def ak{α:Type}{R:α->α->Prop}{a b:α}(h:R a b):bD P π N V R (Pure.pure a) (Pure.pure b):=.pure h
def ai{α:Type}{R:α->α->Prop}{s':Sem α}:bD P π N V R (stuck m) s':=.dead (.halt trivial)
def aP{α:Type}{R:α->α->Prop}{u:Unsupported}{s':Sem α}(h:mH (.unsupported u)):bD P π N V R (unsupported u) s':=.dead (.halt h)
def iu{α a:Type}{R:a->a->Prop}{f:α->Sem a}{s':Sem a}:bD P π N V R (stuck m>>=f) s':=.dead (Dead.bind f (Dead.halt trivial))
def jm{α a:Type}{R:a->a->Prop}{u:Unsupported}{f:α->Sem a}{s':Sem a}(h:mH (.unsupported u)):bD P π N V R (unsupported u>>=f) s':=.dead (Dead.bind f (Dead.halt h))
def cX:bD P π N V (λa b=>a=P/\b=P) program program:=.program (.pure ⟨rfl,rfl⟩)
def jo{q:Question}:bD P π N V Eq (choose q) (choose q):=.choose λ_=>.pure rfl
def fg(t:θ):bD P π N V (λa b=>a=b/\P.info? t=some a) (typeInfo t) (typeInfo t):=by
 unfold typeInfo;refine cX.bind' λx x' h=>?_
 obtain⟨rfl,rfl⟩:=h;show bD x' π N V _ (match x'.info? t with|some i=>_|none=>_) _;cases h:x'.info? t with|none=>exact ai|some i=>exact ak ⟨rfl,rfl⟩
def aK(t:θ):bD P π N V (λa b=>a=b/\P.underlying t=some a) (underlying t) (underlying t):=by
 unfold underlying;refine cX.bind' λx x' h=>?_
 obtain⟨rfl,rfl⟩:=h;cases h:x'.underlying t with|none=>exact ai|some i=>exact ak ⟨rfl,rfl⟩
def dm(t:θ):bD P π N V (λa b=>a=b/\(P.info? t).map (·.size)=some a) (Go.sizeOf t) (Go.sizeOf t):=by
 unfold Go.sizeOf;exact(fg t).bind' λx x' h=>ak ⟨congrArg _ h.1,by rw[h.2];rfl⟩
def BH(t:θ):bD P π N V Eq (isAgg t) (isAgg t):=by
 unfold isAgg;refine(aK t).bind' λx x' h=>?_
 obtain⟨rfl,_⟩:=h;cases x<;>exact ak rfl
def yR(t:θ):bD P π N V Eq (elemOf t) (elemOf t):=by
 unfold elemOf;refine(aK t).bind' λx x' h=>?_
 obtain⟨rfl,_⟩:=h;cases x<;>first|exact ak rfl|exact ai
def zf(P:aa1)(t:θ):Bool:=match P.info? t with
 |some i=>match i.zero with
  |some z=>j7 8 z
  |none=>true
 |none=>true
def fl{t:θ}(c:zf P t=true):bD P π N V (λa b=>a=b/\∃n,j7 n a=true) (zeroValue t) (zeroValue t):=by
 unfold zeroValue;refine(fg t).bind' λx x' h=>?_
 obtain⟨rfl,d⟩:=h;unfold zf at c;simp only[d]at c;cases e:x.zero with|none=>exact aP trivial|some z=>simp only[e]at c;exact ak ⟨rfl,8,c⟩
def qx{m:Mode}(a:Addr):bD P π N V (RV π) (load a m) (load (bA π a) m):=.load λ_=>.pure rfl
def Lb{m:Mode}(a:Addr)(v:Θ):bD P π N V Eq (store a v m) (store (bA π a) (Value.ren π v) m):=.store (.pure rfl)
def jL(a:Addr)(n:Nat):bA π (a.add n)=(bA π a).add n:=by
 unfold Addr.add;split<;>rfl
def nr(a:Addr):∀(n i:Nat)(acc:ϐ),bD P π N V (RC π) (loadCellsFrom a i n acc) (loadCellsFrom (bA π a) i n (acc.map (Value.ren π)))
 |0,i,acc=>ak rfl
 |n+1,i,acc=>by
  unfold loadCellsFrom;rw[<-jL];refine(qx (a.add i)).bind' λv b h=>?_
  rw[show b=Value.ren π v from h,<-Array.map_push];exact nr a n (i+1) (acc.push v)
def n6(a:Addr)(n:Nat):bD P π N V (RC π) (loadCells a n) (loadCells (bA π a) n):=by
 have:=nr (P:=P) (π:=π) (N:=N) (V:=V) a n 0 #[];simpa[loadCells] using this
def iv(a:Addr):∀(vs:ϝ)(i:Nat),bD P π N V Eq (storeCells a vs i) (storeCells (bA π a) (vs.map (Value.ren π)) i)
 |[],i=>ak rfl
 |v::vs,i=>by simp only[storeCells,ϴ];rw[<-jL];exact(Lb (a.add i) v).bind' λ_ _ _=>iv a vs (i+1)
def jC(v:Θ):(Value.ren π v).cells=v.cells.map (Value.ren π):=by cases v<;>simp[Value.cells]
def wR(t:θ)(a:Addr):bD P π N V (RV π) (loadVar t a) (loadVar t (bA π a)):=by
 unfold loadVar;refine(BH t).bind' λx x' h=>?_
 subst h;cases x with
 |true=>
  simp only[if_true];refine(dm t).bind' λn n' h=>?_
  obtain⟨rfl,_⟩:=h;refine(n6 a n).bind' λc b h=>?_
  rw[show b=_ from h];exact ak (by simp[RV])
 |false=>simp only[ab6,if_false];exact qx a
def CR(t:θ)(a:Addr)(v:Θ):bD P π N V Eq (storeVar t a v) (storeVar t (bA π a) (Value.ren π v)):=by
 unfold storeVar;refine(dm t).bind' λn n' h=>?_
 obtain⟨rfl,_⟩:=h;rw[jC];simp only[Array.size_map,am2];by_cases b:v.cells.size≠n;simp only[b,ne_eq,not_false_eq_true,if_true];exact ai;simp only[b,ne_eq,if_false];exact iv a _ 0
def mr(a:θ)(cells:ϐ):bD P π N V (RA π) (newRow a cells) (newRow a (cells.map (Value.ren π))):=by
 unfold newRow newObj;exact bD.new (o:=.cells cells a) trivial (λ_ h=>h.elim) λb _=>.pure rfl
def yN(t:θ)(v:Θ):bD P π N V (RA π) (newVar t v) (newVar t (Value.ren π v)):=by
 unfold newVar;rw[jC];exact mr t _
def mq(t:θ)(cs:ϐ)(off:Nat):bD P π N V (λv a=>a=Value.ren π v/\((∃n,v=.agg (cs.extract off (off+n)))\/cs[off]?=some v)) (part t cs off) (part t (cs.map (Value.ren π)) off):=by
 unfold part;refine(BH t).bind' λx x' h=>?_
 subst h;cases x with
 |true=>
  simp only[if_true];refine(dm t).bind' λn n' h=>?_
  obtain⟨rfl,_⟩:=h;exact ak ⟨ϛ,.inl ⟨n,rfl⟩⟩
 |false=>
  simp only[ab6,if_false,ag8];cases h:cs[off]? with|none=>exact ai|some v=>exact ak ⟨rfl,.inr rfl⟩
def ny(v:Θ):bD P π N V Eq (asIntOf v) (asIntOf (Value.ren π v)):=by
 cases v with
 |int k n=>simp only[cR];exact ak rfl
 |pointer a=>cases a<;>first|exact aP trivial|exact ai
 |_=>exact ai
def lZ(v:Θ):bD P π N V Eq (asInt v) (asInt (Value.ren π v)):=by
 unfold asInt;exact(ny v).bind' λ_ _ h=>by rw[h];exact ak rfl
def Ht(v:Θ):bD P π N V Eq (asBool v) (asBool (Value.ren π v)):=by
 cases v with|bool b=>simp only[eB];exact ak rfl|_=>exact ai
def Ll(v:Θ):bD P π N V (λc a=>a=c.map (Value.ren π)/\v=.agg c) (asAgg v) (asAgg (Value.ren π v)):=by
 cases v with|agg cs=>simp only[dV];exact ak ⟨rfl,rfl⟩|_=>exact ai
def xx{α:Type}{q:Question}{k:Nat->Sem α}(h:∀n,Dead P (k n)):Dead P (.choose q k):=by
 intro w a;simp only[Sem.run];split;exact h 0 w a;exact h _ {w with drawn:=w.drawn+1} a
def ei{α:Type}(e:RuntimeError):Dead P (runtimePanic e:Sem α):=by
 intro w f;have b:∀(t:θ),(∃x,(elemOf t).run P w=.ok x w)\/∃h,(elemOf t).run P w=.halt h w/\mH h:=by
  intro t;unfold elemOf underlying;simp only[run_bind,program,Sem.run,Result.andThen];cases P.underlying t with
  |none=>exact .inr ⟨_,rfl,trivial⟩
  |some d=>cases d<;>first|exact .inl ⟨_,rfl⟩|exact .inr ⟨_,rfl,trivial⟩
 cases e with
 |typeAssertion i c a m=>unfold runtimePanic;simp only[run_bind,program,Sem.run,Result.andThen];obtain⟨x,hx⟩|⟨h,hx,ok⟩:=b P.rt.typeAssertionError;rw[hx];exact⟨_,_,rfl,trivial⟩;rw[hx];exact⟨_,_,rfl,ok⟩
 |panicNil=>unfold runtimePanic;simp only[run_bind,program,Sem.run,Result.andThen];obtain⟨x,hx⟩|⟨h,hx,ok⟩:=b P.rt.panicNilError;rw[hx];exact⟨_,_,rfl,trivial⟩;rw[hx];exact⟨_,_,rfl,ok⟩
 |_=>exact⟨_,_,rfl,trivial⟩
def vN{α:Type}{R:α->α->Prop}{e:RuntimeError}{s':Sem α}:bD P π N V R (runtimePanic e) s':=.dead (ei e)
def yT{α:Type}{R:α->α->Prop}{k:IntKind}{x y:Int}{c:BoundsCode}{s':Sem α}:bD P π N V R (boundsPanic k x y c) s':=by
 refine .dead ?_;unfold boundsPanic;by_cases h:(k !=.u64&&decide (0<=x)&&decide (x<=31))=true;simp only[h,if_true];exact xx λn=>ei (.bounds (IntKind.i64.wrap x) y (n==1) c)
 simp only[h,if_false,ab6];exact ei (.bounds (IntKind.i64.wrap x) y (k !=.u64) c)
def uo{α a:Type}{R:a->a->Prop}{e:RuntimeError}{f:α->Sem a}{s':Sem a}:bD P π N V R (runtimePanic e>>=f) s':=.dead (Dead.bind f (ei e))
def jI(v:Θ):bD P π N V (λa a'=>a'=bA π a/\v=.pointer (some a)) (Instr.sureAddr v) (Instr.sureAddr (Value.ren π v)):=by
 cases v with
 |pointer a=>cases a with
  |none=>exact ai
  |some a=>simp only[bn,ι];exact ak ⟨rfl,rfl⟩
 |_=>exact ai
end
def VV(V:ϒ)(v:Θ):Prop:=∀r,Value.Has r v->V r
section
variable {P:aa1}{π:Nat->Nat}{N V:Nat->Prop}
def VV.weak(h:VV V v)(hv:∀i,V i->V' i):VV V' v:=λr x=>hv _ (h r x)
def VV.ptr{a:Addr}(h:VV V (.pointer (some a))):V a.block:=h _ (.ptr rfl)
def VV.agg{cs:ϐ}(h:VV V (.agg cs)){v:Θ}(hv:v∈cs):VV V v:=λr x=>h r (.agg hv x)
def VV.part{cs:ϐ}(h:VV V (.agg cs)){off:Nat}{v:Θ}(hv:(∃n,v=.agg (cs.extract off (off+n)))\/cs[off]?=some v):VV V v:=by
 intro r x;obtain⟨n,rfl⟩|hv:=hv
 .cases x with|agg b a=>obtain⟨i,c,rfl⟩:=am9.1 b;rw[Array.getElem_extract]at a;exact h r (.agg (ϑ8 _) a)
 exact h r (.agg (al4 hv) x)
def Ln(b:zf P t=true):bD P π N V (RV π) (Instr.alloc t true (.tuple #[])) (Instr.alloc t true (.tuple #[])):=by
 unfold Instr.alloc;refine(fl b).bind' λz d h=>?_
 obtain⟨rfl,n,c⟩:=h;dsimp only;have:=yN (P:=P) (π:=π) (N:=N) (V:=V) t z;rw[fu c]at this;exact this.bind' λa a' h=>ak (by rw[show a'=_ from h];simp[RV])
def ST(t:θ)(v:Θ):bD P π N V (RV π) (Instr.box t v) (Instr.box t (Value.ren π v)):=by
 unfold Instr.box;exact(yN t v).bind' λa a' h=>ak (by rw[show a'=_ from h];simp[RV])
def Qs(off:Nat)(a cells:ϐ):(a.map (Value.ren π)).zipIdx.foldl (λcs (c,j)=>cs.setIfInBounds (off+j) c) (cells.map (Value.ren π))=(a.zipIdx.foldl (λcs (c,j)=>cs.setIfInBounds (off+j) c) cells).map (Value.ren π):=by
 rw[Array.zipIdx_map,Array.foldl_map];exact Array.foldl_hom (f:=Array.map (Value.ren π)) (H:=λx y=>by simp[ϒ8])
def vp(a:Nat->Option (Nat×Nat)):∀(b:List (Nat×Θ)) (cells:ϐ),
  Instr.fill a (cells.map (Value.ren π)) (b.map λp=>(p.1,Value.ren π p.2))=(Instr.fill a cells b).map (·.map (Value.ren π))
 |[],cells=>rfl
 |(i,v)::b,cells=>by
  simp only[ϴ,Instr.fill];cases a i with|none=>rfl|some x=>have⟨off,size⟩:=x;simp only[jC,Array.size_map];split;rfl;rw[Qs,vp a b]
def xG(a:Array Field):bD P π N V Eq (a.mapM λf=>do pure (f.offset,<-Go.sizeOf f.type)) (a.mapM λf=>do pure (f.offset,<-Go.sizeOf f.type)):=by
 rw[Array.mapM_eq_foldlM,<-Array.foldlM_toList];simp only[map_eq_pure_bind,bind_assoc,pure_bind];generalize (#[]:Array (Nat×Nat))=acc;generalize a.toList=l;induction l generalizing acc with
 |nil=>exact ak rfl
 |cons f l b=>
  simp only[List.foldlM_cons,bind_assoc,pure_bind];refine(dm f.type).bind' λn n' h=>?_
  obtain⟨rfl,_⟩:=h;exact b _
def Lj{t:θ}(g:zf P t=true)(e:Array (Nat×Θ)):bD P π N V (RV π) (Instr.build t e) (Instr.build t (e.map λp=>(p.1,Value.ren π p.2))):=by
 unfold Instr.build;refine(fl g).bind' λz j h=>?_
 obtain⟨rfl,n,i⟩:=h;have a:z.cells.map (Value.ren π)=z.cells:=by rw[<-jC,fu i]
 refine(aK t).bind' λx x' h=>?_
 obtain⟨rfl,_⟩:=h;cases x with
 |struct b=>
  dsimp only;refine(xG b).bind' λpl f h=>?_
  subst h;rw[am2,<-a,vp,a];cases Instr.fill (λx=>pl[x]?) z.cells e.toList with|none=>exact ai|some c=>exact ak (by simp[RV])
 |array m d=>
  dsimp only;refine(dm d).bind' λn n' h=>?_
  obtain⟨rfl,_⟩:=h;rw[am2,<-a,vp,a];cases Instr.fill _ z.cells e.toList with|none=>exact ai|some c=>exact ak (by simp[RV])
 |_=>exact ai
def mD(z:ϐ)(a:z.map (Value.ren π)=z)(k m:Nat):((Array.range k).map λi=>z[i%m]!).map (Value.ren π)=(Array.range k).map λi=>z[i%m]! :=by
 rw[ϕ1];apply al0;intro i _;show Value.ren π z[i%m]! =z[i%m]!;by_cases h:i%m<z.size;rw[al9 z _ h];have:=congrArg (·[i%m]?) a;simp[h]at this;exact this;rw[getElem!_neg z _ h];exact eB _
def R8(P:aa1)(t:θ):Bool:=match P.underlying t with
 |some (.slice e)=>zf P e
 |_=>true
def yS{t:θ}(l:R8 P t=true)(len:Nat)(f:Array (Nat×Θ)):bD P π N V (RV π) (Instr.buildSlice t len f) (Instr.buildSlice t len (f.map λp=>(p.1,Value.ren π p.2))):=by
 unfold Instr.buildSlice;refine(aK t).bind' λx x' h=>?_
 obtain⟨rfl,m⟩:=h;cases x with
 |slice b=>
  dsimp only;have j:zf P b=true:=by simpa[R8,m] using l
  refine(dm b).bind' λn n' h=>?_
  obtain⟨rfl,_⟩:=h;by_cases e:len*n>2^24;simp only[e,if_true];exact aP trivial;simp only[e,if_false];have d:∀z:Array Θ,z.map (Value.ren π)=z->bD P π N V (RV π) (match Instr.fill (λi=>some (i*n,n)) (Array.map (λx=>z[x%z.size]!) (Array.range (len*n))) f.toList with|some cells=>(do let a <-newRow b cells;Pure.pure (.slice (some a) len len))|_=>stuck "buildSlice: a part of the wrong size")
    (match Instr.fill (λi=>some (i*n,n)) (Array.map (λx=>z[x%z.size]!) (Array.range (len*n))) (f.map λp=>(p.1,Value.ren π p.2)).toList with|some cells=>(do let a <-newRow b cells;Pure.pure (.slice (some a) len len))|_=>stuck "buildSlice: a part of the wrong size"):=by
   intro z g;rw[am2]
   conv=>rhs;rw[<-mD z g,vp]
   cases Instr.fill (λi=>some (i*n,n)) (Array.map (λx=>z[x%z.size]!) (Array.range (len*n))) f.toList with|none=>exact ai|some c=>dsimp only[ι];exact(mr b c).bind' λa a' h=>ak (by rw[show a'=_ from h];simp[RV])
  by_cases h0:len*n=0;simp only[h0,if_true,pure_bind];have:=d #[] ϛ;rw[h0]at this;exact this;simp only[h0,if_false,bind_assoc,pure_bind];refine(fl j).bind' λz o h=>?_
  obtain⟨rfl,k,hk⟩:=h;exact d _ (by rw[<-jC,fu hk])
 |_=>exact ai
def Hr(t:θ)(v:Θ):bD P π N V (RV π) (Instr.loadAt t v) (Instr.loadAt t (Value.ren π v)):=by
 unfold Instr.loadAt;refine(jI v).bind' λa a' h=>?_
 obtain⟨rfl,_⟩:=h;exact wR t a
def EI(t:θ)(v u:Θ):bD P π N V Eq (Instr.storeAt t v u) (Instr.storeAt t (Value.ren π v) (Value.ren π u)):=by
 unfold Instr.storeAt;refine(jI v).bind' λa a' h=>?_
 obtain⟨rfl,_⟩:=h;exact CR t a u
def Qt(P:aa1)(s:θ)(a:Nat):Bool:=match P.underlying s with
 |some (.struct fs)=>match fs[a]? with
  |some f=>match P.info? f.type with|some i=>i.size !=0|none=>true
  |none=>true
 |_=>true
def EN{s:θ}{b:Nat}(hf:Qt P s b=true)(v:Θ):bD P π N V (RV π) (Instr.fieldAt s v b) (Instr.fieldAt s (Value.ren π v) b):=by
 unfold Instr.fieldAt;refine(aK s).bind' λx x' h=>?_
 obtain⟨rfl,g⟩:=h;cases x with
 |struct fs=>
  dsimp only;cases e:fs[b]? with
  |none=>exact ai
  |some f=>
   dsimp only;refine(jI v).bind' λa a' h=>?_
   obtain⟨rfl,_⟩:=h;unfold fieldPlace;rw[bind_assoc,bind_assoc];refine(dm f.type).bind' λn n' h=>?_
   obtain⟨rfl,d⟩:=h;have j:n≠0:=by
    simp only[Qt,g,e]at hf;cases c:P.info? f.type with|none=>simp[c]at d|some i=>simp[c]at d hf;omega
   simp only[j,if_false];exact ak (by simp[RV,jL])
 |_=>exact ai
def EM(t:θ)(v e:Θ):bD P π N V (RV π) (Instr.indexAt t v e) (Instr.indexAt t (Value.ren π v) (Value.ren π e)):=by
 unfold Instr.indexAt;refine(ny e).bind' λk k' h=>?_
 subst h;have⟨k,i⟩:=k;dsimp only;refine(aK t).bind' λx x' h=>?_
 obtain⟨rfl,j⟩:=h;have d:∀(a:Addr)(len:Nat)(c:θ)(b:Bool),bD P π N V (RV π) (if 0<=i/\i<(len:Int) then(do let n <-Go.sizeOf c;Pure.pure (.pointer (some (a.add (i.toNat*n))))) else if b=true then unsupported (.noEntry "op/indexAddr.an index out of range at an array of length 0 or 1 (ledger 616)") else boundsPanic k i len .index)
   (if 0<=i/\i<(len:Int) then(do let n <-Go.sizeOf c;Pure.pure (.pointer (some ((bA π a).add (i.toNat*n))))) else if b=true then unsupported (.noEntry "op/indexAddr.an index out of range at an array of length 0 or 1 (ledger 616)") else boundsPanic k i len .index):=by
  intro a len c b;by_cases f:0<=i/\i<(len:Int);simp only[f,and_self,if_true];refine(dm c).bind' λn n' h=>?_
  obtain⟨rfl,_⟩:=h;exact ak (by simp[RV,jL]);simp only[f,if_false];split;exact aP trivial;exact yT
 cases x with
 |array len c=>
  dsimp only;refine(jI v).bind' λa a' h=>?_
  obtain⟨rfl,_⟩:=h;simp only[pure_bind];refine(aK t).bind' λy g h=>?_
  obtain⟨rfl,_⟩:=h;exact d a len c _
 |slice c=>
  cases v with
  |slice base len cap=>
   rw[cg];simp only[pure_bind];refine(aK t).bind' λy g h=>?_
   obtain⟨rfl,_⟩:=h;cases base with|none=>exact yT|some a=>exact d a len c _
  |_=>exact iu
 |_=>exact iu
def yM(v:Θ)(y:Nat)(c:BoundsCode):bD P π N V Eq (Instr.sliceBound v y c) (Instr.sliceBound (Value.ren π v) y c):=by
 unfold Instr.sliceBound;refine(ny v).bind' λk k' h=>?_
 subst h;dsimp only;split;exact ak rfl;exact yT
def lz(a:Bool)(len cap:Nat)(d b c:ϱ):bD P π N V Eq (Instr.sliceBounds a len cap d b c) (Instr.sliceBounds a len cap (d.map (Value.ren π)) (b.map (Value.ren π)) (c.map (Value.ren π))):=by
 unfold Instr.sliceBounds;cases d<;>cases b<;>cases c<;>simp only[ι,Option.map_none,pure_bind]<;>
  repeat (first
   |exact ak rfl
   |exact ai
   |exact iu
   |(refine(yM ..).bind' λx x' e=>?_;subst e))
def Ld(t:θ)(v:Θ)(f d c:ϱ)(g:∀e,P.underlying t≠some (.pointer e)):bD P π N V (RV π) (Instr.slice t v f d c) (Instr.slice t (Value.ren π v) (f.map (Value.ren π)) (d.map (Value.ren π)) (c.map (Value.ren π))):=by
 unfold Instr.slice;refine(aK t).bind' λx x' h=>?_
 obtain⟨rfl,j⟩:=h;cases x with
 |string=>
  cases v with
  |string s=>
   rw[bU];dsimp only;cases c with
   |some m=>exact iu
   |none=>
    simp only[Ϸ,ab6,if_false,Option.map_none];refine(lz false s.size s.size f d none).bind' λy i h=>?_
    subst h;exact ak (by simp[RV])
  |_=>exact ai
 |slice b=>
  cases v with
  |slice a len cap=>
   rw[cg];dsimp only;refine(lz true len cap f d c).bind' λy i h=>?_
   subst h;refine(dm b).bind' λn n' h=>?_
   obtain⟨rfl,_⟩:=h;refine ak ?_;simp only[RV,cg];congr 1;split;rfl;cases a<;>simp[jL]
  |_=>exact ai
 |pointer e=>exact absurd j (g e)
 |_=>exact ai
def EJ(t:θ)(v:Θ)(f d c:ϱ)(g:∀e,P.underlying t≠some (.pointer e)):bD P π N V (RV π) (Instr.sliceAt t v f d c) (Instr.sliceAt t (Value.ren π v) (f.map (Value.ren π)) (d.map (Value.ren π)) (c.map (Value.ren π))):=by
 unfold Instr.sliceAt;refine(aK t).bind' λx x' h=>?_
 obtain⟨rfl,j⟩:=h;cases x with
 |array n b=>
  dsimp only;refine(jI v).bind' λa a' h=>?_
  obtain⟨rfl,_⟩:=h;refine(lz false n n f d c).bind' λy i h=>?_
  subst h;refine(dm b).bind' λk k' h=>?_
  obtain⟨rfl,_⟩:=h;refine ak ?_;simp only[RV,cg,ι];congr 2;split;rfl;rw[jL]
 |_=>exact Ld t v f d c g
def Lg(t:θ)(v:Θ)(f:Nat):bD P π N V (RV π) (Instr.field t v f) (Instr.field t (Value.ren π v) f):=by
 unfold Instr.field;refine(aK t).bind' λx x' h=>?_
 obtain⟨rfl,a⟩:=h;cases x with
 |struct fs=>
  dsimp only;cases fs[f]? with
  |none=>exact ai
  |some f=>
   dsimp only;refine(Ll v).bind' λc b h=>?_
   obtain⟨rfl,_⟩:=h;exact(mq f.type c f.offset).mono λ_ _ h=>h.1
 |_=>exact ai
def Lf(t:θ)(v b:Θ):bD P π N V (RV π) (Instr.index t v b) (Instr.index t (Value.ren π v) (Value.ren π b)):=by
 unfold Instr.index;refine(ny b).bind' λk k' h=>?_
 subst h;have⟨k,i⟩:=k;dsimp only;refine(aK t).bind' λx x' h=>?_
 obtain⟨rfl,c⟩:=h;cases x with
 |array len a=>
  cases v with
  |agg cs=>
   rw[dV];dsimp only;split;refine(dm a).bind' λn n' h=>?_
   obtain⟨rfl,_⟩:=h;exact(mq a cs _).mono λ_ _ h=>h.1
   exact yT
  |_=>exact ai
 |string=>
  cases v with|string s=>rw[bU];dsimp only;split;exact ak (by simp[RV]);exact yT|_=>exact ai
 |_=>exact ai
def EO(v:Θ)(a:Nat):bD P π N V (RV π) (Instr.extract v a) (Instr.extract (Value.ren π v) a):=by
 unfold Instr.extract;cases v with
 |tuple vs=>
  rw[dy];dsimp only;rw[ag8];cases vs[a]? with|none=>exact ai|some x=>exact ak rfl
 |_=>exact ai
def EL(t:θ)(r:ϱ):bD P π N V (RV π) (Instr.makeMap t r) (Instr.makeMap t (r.map (Value.ren π))):=by
 have a:bD P π N V (RV π) (do let b <-newObj (.map #[] 0);Pure.pure (.map (some b))) (do let b <-newObj (.map #[] 0);Pure.pure (.map (some b))):=by
  have:=bD.new (P:=P) (π:=π) (N:=N) (V:=V) (R:=RV π) (o:=.map #[] 0) (k:=λb=>Pure.pure (.map (some b))) (k':=λb=>Pure.pure (.map (some b))) trivial (λ_ h=>h.elim) λb _=>ak (by simp[RV])
  rw[show et π (.map #[] 0)=.map #[] 0 by simp[et]]at this;exact this
 unfold Instr.makeMap;cases r with
 |none=>exact a
 |some v=>
  refine(aK t).bind' λx x' h=>?_
  obtain⟨rfl,_⟩:=h;cases x with
  |map k e=>
   dsimp only;refine(lZ v).bind' λy c h=>?_
   exact a
  |_=>exact iu
def ut(t:θ)(v:Θ):bD P π N V (RV π) (Instr.makeInterface t v) (Instr.makeInterface t (Value.ren π v)):=by
 unfold Instr.makeInterface;refine(aK t).bind' λx x' h=>?_
 obtain⟨rfl,_⟩:=h;cases x<;>first|exact ai|exact ak (by simp[RV])
end
end
end
end Go.Proofs.YtchcmhodnkgojaaGreat
