/- On the way to the last text; put together and shortened by program. -/
import Derived.Test.YtchcmhodnkgojaaGreatPart2
import Derived.Conc.Beside
import Derived.Conc.CrowdCom2
import Derived.Conc.MuStops
import Derived.Conc.Own
import Derived.RunT
import Derived.StepT
import Derived.Laws.Sem
import Derived.Conc.Events
set_option linter.all false
set_option maxRecDepth 100000
set_option maxHeartbeats 8000000
namespace Go.Proofs.YtchcmhodnkgojaaGreat
noncomputable section
section
namespace aG
def KG (G:GM)(r:Nat):Prop:=∃ch∈jS,∃c js,(c::r::js)∈ch/\GM.dec c=G
def O5 (G:GG)(r:Nat):Prop:=∃ch∈zt,∃c js,(c::r::js)∈ch/\GG.dec c=G
theorem sW {α:Type}(l:List α)(f:α->Bool)(i k:Nat)(h1:((l.drop i).take k).all f=true)(h2:(l.drop (i+k)).all f=true):(l.drop i).all f=true:=by
 rw[<-List.take_append_drop k (l.drop i),List.all_append,List.drop_drop,h1,h2];rfl
theorem LG:∀ch∈jS,∀row∈ch,oO jS row=true:=by
 have e:jS.drop 30=[]:=by kernel_rfl
 have h5:(jS.drop 30).all (λc=>c.all (oO jS))=true:=by rw[e];rfl
 have h:=sW jS _ 0 6 acg (sW jS _ 6 6 acf (sW jS _ 12 6 ace (sW jS _ 18 6 acd (sW jS _ 24 6 acb h5))));rw[List.drop_zero] at h;exactλch hc row hr=>ae6.1 (ae6.1 h ch hc) row hr
theorem LH:∀ch∈zt,∀row∈ch,E4 zt row=true:=λch hc row hr=>ae6.1 (ae6.1 Qt ch hc) row hr
theorem Dr {raw:List (List (List Nat))}{j:Nat}{row:List Nat}(h:vH raw j=some row):∃ch∈raw,row∈ch:=by
 unfold vH at h;obtain⟨ch,h1,h2⟩:=Option.bind_eq_some_iff.1 h;exact⟨ch,af7 h1,af7 h2⟩
theorem tc {r:Nat}:∀{hs:List GM} {fs:List Bool} {js:List Nat},vW jS r hs fs js=true->∀(i:Nat) (H:GM),hs[i]? =some H->∃(r':Nat) (f:Bool),fs[i]? =some f/\KG H r'/\(f=true\/r'<r)/\r'<27
 |[],_,_,_,i,H,h=>by simp at h
 |H::hs,[],_,h,_,_,_=>by simp[vW] at h
 |H::hs,f::fs,[],h,_,_,_=>by simp[vW] at h
 |H::hs,f::fs,j::js,h,i,H',hi=>by
  simp only[vW,ξ] at h;obtain⟨h1,h2⟩:=h;cases i with
  |succ i=>
   simp only[List.getElem?_cons_succ] at hi⊢;exact tc h2 i H' hi
  |zero=>
   simp only[List.getElem?_cons_zero,ae9] at hi⊢;subst hi;split at h1
   .rename_i c r' rest he
    simp only[ξ,ai1,ag9] at h1;obtain⟨⟨e1,e2⟩,e3⟩:=h1;obtain⟨ch,hc,hr⟩:=Dr he;exact⟨r',f,rfl,⟨ch,hc,c,rest,hr,e1⟩,e2,e3⟩
   .cases h1
theorem zy {r:Nat}:∀{hs:List GG} {js:List Nat},zz zt r hs js=true->∀H∈hs,∃r',O5 H r'/\r'<r
 |[],_,_,H,h=>by simp at h
 |H::hs,[],h,_,_=>by simp[zz] at h
 |H::hs,j::js,h,H',hi=>by
  simp only[zz,ξ] at h;obtain⟨h1,h2⟩:=h;rcases ab8.1 hi with rfl|hi
  .split at h1
   .rename_i c r' rest he
    simp only[ξ,ai1] at h1;obtain⟨ch,hc,hr⟩:=Dr he;exact⟨r',⟨ch,hc,c,rest,hr,h1.1⟩,h1.2⟩
   .cases h1
  .exact zy h2 H' hi
theorem KG.row {G:GM}{r:Nat}(h:KG G r):G.safe=true/\∃js,vW jS r G.succs G.fresh js=true:=by
 obtain⟨ch,hc,c,js,hr,rfl⟩:=h;have:=LG ch hc _ hr;simp only[oO,ξ] at this;exact⟨this.1,js,this.2⟩
theorem O5.row {G:GG}{r:Nat}(h:O5 G r):G.safe=true/\∃js,zz zt r G.succs js=true:=by
 obtain⟨ch,hc,c,js,hr,rfl⟩:=h;have:=LH ch hc _ hr;simp only[E4,ξ] at this;exact⟨this.1,js,this.2⟩
theorem JG:KG {a:={pc:= .out},b:={pc:= .out},mu:=0,ms:=0} 0:=by
 refine⟨(jS[0]?).getD [],?_,((jS[0]?).getD []).headD []|>.headD 0,(((jS[0]?).getD []).headD []).drop 2,?_,by kernel_rfl⟩
 .exact af7 (i:=0) (by kernel_rfl)
 .exact af7 (i:=0) (by kernel_rfl)
theorem JH:O5 {m:={pc:= .x1},a:={pc:= .un},b:={pc:= .un},wg:=0,ws:=0} 15:=by
 refine⟨(zt[0]?).getD [],?_,((zt[0]?).getD []).headD []|>.headD 0,(((zt[0]?).getD []).headD []).drop 2,?_,by kernel_rfl⟩
 .exact af7 (i:=0) (by kernel_rfl)
 .exact af7 (i:=0) (by kernel_rfl)
theorem KG.SY {G:GM}{r:Nat}(h:KG G r){q:Lo×Int×Int}(hq:q∈yw G.a G.mu G.ms):∃r',KG {a:=q.1,b:=G.b,mu:=q.2.1,ms:=q.2.2} r'/\(G.a.pc= .out\/r'<r)/\r'<27:=by
 obtain⟨_,js,hw⟩:=h.row;obtain⟨i,hi,rfl⟩:=List.mem_iff_getElem.1 hq;obtain⟨r',f,hf,h1,h2,h3⟩:=tc hw i {a:=((yw G.a G.mu G.ms)[i]).1,b:=G.b,mu:=((yw G.a G.mu G.ms)[i]).2.1,ms:=((yw G.a G.mu G.ms)[i]).2.2} (by
  unfold GM.succs;rw[List.getElem?_append_left (by simpa using hi)];simp[List.getElem?_map,hi])
 refine⟨r',h1,h2.imp (λe=>?_) id,h3⟩;unfold GM.fresh at hf;rw[List.getElem?_append_left (by simpa using hi)] at hf;simp[hi] at hf;rw[e] at hf;simpa using hf
theorem KG.SX {G:GM}{r:Nat}(h:KG G r){q:Lo×Int×Int}(hq:q∈yw G.b G.mu G.ms):∃r',KG {a:=G.a,b:=q.1,mu:=q.2.1,ms:=q.2.2} r'/\(G.b.pc= .out\/r'<r)/\r'<27:=by
 obtain⟨_,js,hw⟩:=h.row;obtain⟨i,hi,rfl⟩:=List.mem_iff_getElem.1 hq;obtain⟨r',f,hf,h1,h2,h3⟩:=tc hw ((yw G.a G.mu G.ms).length+i) {a:=G.a,b:=((yw G.b G.mu G.ms)[i]).1,mu:=((yw G.b G.mu G.ms)[i]).2.1,ms:=((yw G.b G.mu G.ms)[i]).2.2} (by
  unfold GM.succs;rw[List.getElem?_append_right (by simp)];simp[List.getElem?_map,hi])
 refine⟨r',h1,h2.imp (λe=>?_) id,h3⟩;unfold GM.fresh at hf;rw[List.getElem?_append_right (by simp)] at hf;simp[hi] at hf;rw[e] at hf;simpa using hf
theorem O5.step {G H:GG}{r:Nat}(h:O5 G r)(hH:H∈G.succs):∃r',O5 H r'/\r'<r:=by
 obtain⟨_,js,hw⟩:=h.row;exact zy hw H hH
structure ZH (G:GM):Prop where
 noA:∀q∈yw G.a G.mu G.ms,q.1.pc≠.bad
 noB:∀q∈yw G.b G.mu G.ms,q.1.pc≠.bad
 UB:G.a.waits G.ms=true->G.b.waits G.ms=false/\G.b.pc≠.out
 UA:G.b.waits G.ms=true->G.a.waits G.ms=false/\G.a.pc≠.out
 excl:¬(G.a.pc= .u0/\G.b.pc= .u0)
 KY:∀q∈yw G.a G.mu G.ms,G.b.waits G.ms=true->G.b.waits q.2.2=true\/G.a.pc= .us
 KX:∀q∈yw G.b G.mu G.ms,G.a.waits G.ms=true->G.a.waits q.2.2=true\/G.b.pc= .us
 fits:Sh.fits ⟨G.mu,G.ms,0,0⟩
theorem KG.facts {G:GM}{r:Nat}(h:KG G r):ZH G:=by
 have hs:=h.row.1;simp only[GM.safe,ξ,ae6,bne_iff_ne,ne_eq,Bool.not_eq_true',Bool.and_eq_false_iff,ag9,Bool.or_eq_false_iff,ai0,ae8,ai1] at hs;obtain⟨⟨⟨⟨⟨⟨⟨⟨c1,c2⟩,c3⟩,c4⟩,c5⟩,c6⟩,c7⟩,c8⟩,c9⟩:=hs;refine⟨λq hq=>?_,λq hq=>?_,λhw=>?_,λhw=>?_,λ⟨x,y⟩=>?_,λq hq hw=>?_,λq hq hw=>?_,c9⟩
 .exact(c1 {a:=q.1,b:=G.b,mu:=q.2.1,ms:=q.2.2} (ag8.2 (.inl (ae0.2 ⟨q,hq,rfl⟩)))).1
 .exact(c1 {a:=G.a,b:=q.1,mu:=q.2.1,ms:=q.2.2} (ag8.2 (.inr (ae0.2 ⟨q,hq,rfl⟩)))).2
 .rcases c4 with c4|c4
  .rw[hw] at c4;cases c4
  .exact c4
 .refine⟨?_,?_⟩
  .rcases c4 with c4|c4
   .exact c4
   .rw[hw] at c4;exact absurd c4.1 (by simp)
  .rcases c5 with c5|c5
   .rw[hw] at c5;cases c5
   .exact c5
 .rcases c6 with c6|c6
  .exact c6 x
  .exact c6 y
 .rcases c7 q hq with(c|c)|c
  .rw[hw] at c;cases c
  .exact .inl c
  .exact .inr c
 .rcases c8 q hq with(c|c)|c
  .rw[hw] at c;cases c
  .exact .inl c
  .exact .inr c
structure ZI (G:GG):Prop where
 no:∀H∈G.succs,H.m.pc≠.bad/\H.a.pc≠.bad/\H.b.pc≠.bad
 fin:G.m.pc= .fin->G.a.pc= .quit/\G.b.pc= .quit
 sleep:G.m.pc= .w3->G.ws=0->live G.a=true\/live G.b=true
 KY:G.m.pc= .w3->G.ws=0->∀q∈Tj G.a G.wg G.ws,q.2.2=0\/G.a.pc= .d4
 KX:G.m.pc= .w3->G.ws=0->∀q∈Tj G.b G.wg G.ws,q.2.2=0\/G.b.pc= .d4
 un1:G.m.pc= .x1\/G.m.pc= .g1->G.a.pc= .un/\G.b.pc= .un
 un2:G.m.pc= .x2\/G.m.pc= .g2->G.a.pc≠.un/\G.b.pc= .un
 on:¬(G.m.pc= .x1\/G.m.pc= .g1\/G.m.pc= .x2\/G.m.pc= .g2)->G.a.pc≠.un/\G.b.pc≠.un
 fits:Sh.fits ⟨0,0,G.wg,G.ws⟩
theorem O5.facts {G:GG}{r:Nat}(h:O5 G r):ZI G:=by
 have hs:=h.row.1;simp only[GG.safe,ξ,ae6,bne_iff_ne,ne_eq,Bool.not_eq_true',Bool.and_eq_false_iff,ag9,Bool.or_eq_false_iff,ai0,ae8,ai1] at hs;obtain⟨⟨⟨⟨⟨⟨⟨⟨⟨⟨⟨c1,_⟩,_⟩,_⟩,c5⟩,c6⟩,c7⟩,c8⟩,c9⟩,c10⟩,c11⟩,c12⟩:=hs
 refine⟨λH hH=>⟨(c1 H hH).1.1,(c1 H hH).1.2,(c1 H hH).2⟩,λx=>(c5.resolve_left λy=>y x),λx y=>?_,λx y q hq=>?_,λx y q hq=>?_,λx=>?_,λx=>?_,λx=>⟨?_,?_⟩,c12⟩
 .rcases c6 with(c|c)|c
  .exact absurd (c.resolve_left λz=>z x) (by simpa using y)
  .exact .inl c
  .exact .inr c
 .rcases c7 with c|c
  .exact absurd (c.resolve_left λz=>z x) (by simpa using y)
  .exact c.1 q hq
 .rcases c7 with c|c
  .exact absurd (c.resolve_left λz=>z x) (by simpa using y)
  .exact c.2 q hq
 .rcases c8 with c|c
  .exact x.elim (λz=>absurd z c.1) (λz=>absurd z c.2)
  .exact c
 .rcases c9 with c|c
  .exact x.elim (λz=>absurd z c.1) (λz=>absurd z c.2)
  .exact c
 .rcases c10 with c|c
  .exact absurd (c.elim .inl λz=> .inr (.inl z)) x
  .exact c
 .rcases c11 with c|c
  .exfalso;apply x
   rcases c with((c|c)|c)|c
   .exact .inl c
   .exact .inr (.inl c)
   .exact .inr (.inr (.inl c))
   .exact .inr (.inr (.inr c))
  .exact c
end aG
end
section
open Go.Conc
namespace aG
inductive bg where
 |m|a|b
 deriving DecidableEq,Repr
def gid (n0:Nat):bg->Nat
 |.m=>0
 |.a=>n0
 |.b=>n0+1
theorem kq {n0:Nat}(h:0<n0){r r':bg}(e:gid n0 r=gid n0 r'):r=r':=by
 cases r<;>cases r'<;>simp[gid] at e<;>first|rfl|omega
theorem Ht {n0:Nat}(h:0<n0){r:bg}(hr:r≠.m):gid n0 r≠0:=by cases r<;>simp[gid] at hr⊢;omega
def lX (c:Nat)(l:Loc):Prop:=(∃a:Addr,l= .cell a/\a.block=c)\/l= .obj c
theorem lX.mem {c:Nat}{l:Loc}(h:lX c l):l.isMemory=true:=by rcases h with⟨a,rfl,_⟩|rfl<;>rfl
theorem lX.uniq {c c':Nat}{l:Loc}(h:lX c l)(h':lX c' l):c=c':=by
 rcases h with⟨a,rfl,e⟩|rfl<;>rcases h' with⟨a',e1,e2⟩|e1<;>cases e1
 .rw[<-e,<-e2]
 .rfl
theorem lX.low {c B:Nat}{l:Loc}(h:lX c l)(hl:l.low B):c<B:=by
 rcases h with⟨a,rfl,e⟩|rfl
 .rw[<-e];exact hl
 .exact hl
theorem IB {op:MemAct}{x:Touch}{B:Nat}(h:op.touch? =some x)(hl:op.low B):x.loc.low B:=by
 cases op with
 |access e=>simp[MemAct.touch?] at h;subst h;exact hl
 |mark m=>cases m<;>simp[MemAct.touch?] at h<;>(subst h;exact hl)
 |_=>simp[MemAct.touch?] at h
structure TI (n0:Nat)(Sh:Loc->Prop)(RO:bg->Loc->Prop)(lv:bg->Prop)(own:bg->Nat->Prop)(M:Nat)(hold:Option bg)(mA wA:Addr)(B:Nat)(t:Trace):Prop where
 clean:∀said,¬Race said t
 quiet:∀i x,touchAt t i=some x->Sh x.loc->x.kind= .atomic\/(x.kind= .said/\t.g? i=some 0)\/∀r,lv r->Knows t (gid n0 r) i
 own:∀r c,own r c->∀i x,touchAt t i=some x->lX c x.loc->Knows t (gid n0 r) i
 ro:∀r i x,touchAt t i=some x->RO r x.loc->x.write=true->Knows t (gid n0 r) i
 guard:hold=none->∀i x,touchAt t i=some x->lX M x.loc->(∀r,lv r->Knows t (gid n0 r) i)\/∃p,t.act? p=some (.mark (.releaseMerge mA))/\t.heard p/\Before t i p
 base:∀i x,touchAt t i=some x->x.loc.isMemory=true->(∃r,r≠.m/\lv r/\t.g? i=some (gid n0 r))\/Knows t 0 i\/(Sh x.loc/\x.kind= .atomic)
 work:∀i x,touchAt t i=some x->x.loc.isMemory=true->∀r,r≠.m->lv r->t.g? i=some (gid n0 r)->t.counts i\/(Sh x.loc/\x.kind= .atomic)
 over:∀i g,t.g? i=some g->g≠0->t.counts i->(∃r,r≠.m/\lv r/\g=gid n0 r)\/∃j,t.g? j=some 0/\HappensBefore t i j
 ids:∀i g,t.g? i=some g->n0<=g->∃r,r≠.m/\lv r/\g=gid n0 r
 Qz:NoRelease mA t
 nrW:NoRelease wA t
 low:∀op∈t,op.act.low B
structure Ap (Sh:Loc->Prop)(RO:bg->Loc->Prop)(lv:bg->Prop)(own:bg->Nat->Prop)(M:Nat)(hold:Option bg)(B:Nat):Prop where
 ownSh:∀r c l,own r c->lX c l->¬Sh l
 Tb:∀r c l r',own r c->lX c l->¬RO r' l
 apart:∀r r' c,own r c->own r' c->r=r'
 abr:∀r l,RO r l->¬Sh l
 mem:∀l,lX M l->¬Sh l/\∀r,¬RO r l
 held:∀r,own r M->hold=some r
 lv:∀r c,own r c->lv r
 newer:∀c l,lX c l->B<=c->¬Sh l/\∀r,¬RO r l
 Bb:M<B
 ahc:∀r c,own r c->c<B
 aa3:∀l,Sh l->l.isMemory=true
 abt:∀r l,RO r l->l.isMemory=true
def OkOp (n0:Nat)(Sh:Loc->Prop)(RO:bg->Loc->Prop)(own:bg->Nat->Prop)(mA wA:Addr)(B B':Nat)(r:bg)(op:MemOp):Prop:=
 op.g=gid n0 r/\op.act≠.mark (.release mA)/\op.act≠.mark (.release wA)/\op.act.low B'/\
 ∀x,op.act.touch? =some x->(Sh x.loc/\(x.kind= .atomic\/(x.kind= .said/\r= .m)))\/(∃c,lX c x.loc/\(own r c\/(B<=c/\c<B')))\/(RO r x.loc/\x.write=false)\/x.loc.isMemory=false
def grow (own:bg->Nat->Prop)(B B':Nat)(r:bg):bg->Nat->Prop:=λr' c=>own r' c\/(r'=r/\B<=c/\c<B')
section
variable {n0:Nat}{Sh:Loc->Prop}{RO:bg->Loc->Prop}{lv:bg->Prop}{own:bg->Nat->Prop}{M:Nat}{hold:Option bg}{mA wA:Addr}{B B':Nat}{t u:Trace}
theorem fC {i g:Nat}(h:(t++u).g? i=some g):(i<t.size/\t.g? i=some g)\/(t.size<=i/\∃op∈u,op.g=g):=by
 obtain⟨op,ho,hg⟩:=τ.1 h;rcases getElem?_append_cases ho with⟨h1,h2⟩|⟨h1,h2⟩
 .exact .inl ⟨h1,by simp[Trace.g?,h2,hg]⟩
 .exact .inr ⟨h1,op,h2,hg⟩
theorem ce {i:Nat}{x:Touch}(h:touchAt (t++u) i=some x):(i<t.size/\touchAt t i=some x)\/(t.size<=i/\∃op∈u,(t++u)[i]? =some op/\op.act.touch? =some x):=by
 obtain⟨op,ho,hx⟩:=touch_of h;rcases getElem?_append_cases ho with⟨h1,h2⟩|⟨h1,h2⟩
 .exact .inl ⟨h1,by rw[touchAt_of h2];exact hx⟩
 .exact .inr ⟨h1,op,h2,ho,hx⟩
theorem TI.app (hn:0<n0)(A:Ap Sh RO lv own M hold B)(h:TI n0 Sh RO lv own M hold mA wA B t){r:bg}(hr:lv r)(hB:B<=B')(hu:∀op∈u,OkOp n0 Sh RO own mA wA B B' r op)
  (hc:r≠.m->∀i x,t.size<=i->touchAt (t++u) i=some x->x.loc.isMemory=true->(t++u).counts i\/(Sh x.loc/\x.kind= .atomic)):
  TI n0 Sh RO lv (grow own B B' r) M hold mA wA B' (t++u):=by
 have hown:∀{i:Nat} {op:MemOp},t.size<=i->(t++u)[i]? =some op->op∈u->Knows (t++u) (gid n0 r) i:=fun {i op} _ ho hm=>by
  have:=knows_own ho
  rwa [(hu op hm).1] at this
 have Ty:∀{i:Nat} {x:Touch},touchAt t i=some x->x.loc.low B:=fun {i x} hx=>by
  obtain⟨op,ho,hox⟩:=touch_of hx;exact IB hox (h.low op (mem_of_getElem? ho))
 refine⟨λsaid=>noRace_append (h.clean said) (λop ho=>(hu op ho).1) (λi x hx op ho y hy hcf=>?_),λi x hx hs=>?_,λr' c hO i x hx hb=>?_,λr' i x hx hro hw=>?_,λhe i x hx hb=>?_,λi x hx hm=>?_,λi x hx hm r' hr1 hr2 hg=>?_,λi g hg h0 hcn=>?_,λi g hg hge=>?_,?_,?_,λop ho=>?_⟩
 ·
  have hloc:x.loc=y.loc:=hcf.1;rcases(hu op ho).2.2.2.2 y hy with⟨hs,hk⟩|⟨c,hb,hoc⟩|⟨hro,hw⟩|hnm
  .rcases h.quiet i x hx (hloc▸hs) with e|⟨e,hg⟩|e
   .exfalso
    rcases hcf.2.2.2 with z|z|⟨_,z,_⟩
    .rw[e] at z;cases z
    .rcases hk with k|⟨k,_⟩<;>rw[k] at z<;>cases z
    .rw[e] at z;cases z
   .rcases hcf.2.2.2 with z|z|⟨_,_,z⟩
    .rw[e] at z;cases z
    .rcases hk with k|⟨k,_⟩<;>rw[k] at z<;>cases z
    .rcases hk with k|⟨_,k⟩
     .rw[k] at z;cases z
     .subst k
      obtain⟨z',hz,hz'⟩:=τ.1 hg;have:=knows_own hz
      rwa [hz'] at this
   .exact e r hr
  .rcases hoc with hoc|⟨h1,h2⟩
   .exact h.own r c hoc i x hx (hloc▸hb)
   .exact absurd (lX.low (hloc▸hb) (Ty hx)) (by omega)
  .exact h.ro r i x hx (hloc▸hro) (hcf.2.2.1.resolve_right (by simp[hw]))
  .have:=hcf.2.1;rw[hloc,hnm] at this;cases this
 ·
  rcases ce hx with⟨h1,h2⟩|⟨h1,op,hop,ho,hox⟩
  .rcases h.quiet i x h2 hs with e|⟨e,hg⟩|e
   .exact .inl e
   .exact .inr (.inl ⟨e,by rw[g?_old h1];exact hg⟩)
   .exact .inr (.inr λr' hr'=>(e r' hr').app u)
  .rcases(hu op hop).2.2.2.2 x hox with⟨_,hk⟩|⟨c,hb,hoc⟩|⟨hro,_⟩|hnm
   .rcases hk with k|⟨k,rfl⟩
    .exact .inl k
    .exact .inr (.inl ⟨k,by simp[Trace.g?,ho,(hu op hop).1,gid]⟩)
   .rcases hoc with hoc|⟨h3,_⟩
    .exact absurd hs (A.ownSh r c _ hoc hb)
    .exact absurd hs (A.newer c _ hb h3).1
   .exact absurd hs (A.abr _ _ hro)
   .rw[A.aa3 _ hs] at hnm;cases hnm
 ·
  rcases ce hx with⟨h1,h2⟩|⟨h1,op,hop,ho,hox⟩
  .rcases hO with hO|⟨rfl,h3,h4⟩
   .exact(h.own r' c hO i x h2 hb).app u
   .exact absurd (lX.low hb (Ty h2)) (by omega)
  .have key:r'=r:=by
    rcases(hu op hop).2.2.2.2 x hox with⟨hs,_⟩|⟨c',hb',hoc⟩|⟨hro,_⟩|hnm
    .rcases hO with hO|⟨e,h3,_⟩
     .exact absurd hs (A.ownSh r' c _ hO hb)
     .exact(A.newer c _ hb h3).1 hs|>.elim
    .obtain rfl:=lX.uniq hb hb'
     rcases hO with hO|⟨e,_⟩
     .rcases hoc with hoc|⟨h3,_⟩
      .exact A.apart _ _ _ hO hoc
      .have:=A.ahc r' c hO;omega
     .exact e
    .rcases hO with hO|⟨e,_⟩
     .exact absurd hro (A.Tb r' c _ _ hO hb)
     .exact e
    .rw[lX.mem hb] at hnm;cases hnm
   subst key;exact hown h1 ho hop
 ·
  rcases ce hx with⟨h1,h2⟩|⟨h1,op,hop,ho,hox⟩
  .exact(h.ro r' i x h2 hro hw).app u
  .exfalso
   rcases(hu op hop).2.2.2.2 x hox with⟨hs,_⟩|⟨c',hb',hoc⟩|⟨_,hw'⟩|hnm
   .exact A.abr _ _ hro hs
   .rcases hoc with hoc|⟨h3,_⟩
    .exact A.Tb r c' _ _ hoc hb' hro
    .exact(A.newer c' _ hb' h3).2 _ hro
   .rw[hw'] at hw;cases hw
   .rw[A.abt _ _ hro] at hnm;cases hnm
 ·
  rcases ce hx with⟨h1,h2⟩|⟨h1,op,hop,ho,hox⟩
  .rcases h.guard he i x h2 hb with hk|⟨p,p1,p2,p3⟩
   .exact .inl λr' hr'=>(hk r' hr').app u
   .have hp:=lt_of_act? p1
    exact .inr ⟨p,by rw[act?_old hp];exact p1,(heard_old hp).2 p2,p3.app u⟩
  .exfalso
   rcases(hu op hop).2.2.2.2 x hox with⟨hs,_⟩|⟨c',hb',hoc⟩|⟨hro,_⟩|hnm
   .exact(A.mem _ hb).1 hs
   .obtain rfl:=lX.uniq hb hb'
    rcases hoc with hoc|⟨h3,_⟩
    .rw[A.held r hoc] at he;cases he
    .have:=A.Bb;omega
   .exact(A.mem _ hb).2 _ hro
   .rw[lX.mem hb] at hnm;cases hnm
 ·
  rcases ce hx with⟨h1,h2⟩|⟨h1,op,hop,ho,hox⟩
  .rcases h.base i x h2 hm with⟨r',z1,z2,z3⟩|z|z
   .exact .inl ⟨r',z1,z2,by rw[g?_old h1];exact z3⟩
   .exact .inr (.inl (z.app u))
   .exact .inr (.inr z)
  .by_cases e:r= .m
   .subst e
    exact .inr (.inl (hown h1 ho hop))
   .exact .inl ⟨r,e,hr,by simp[Trace.g?,ho,(hu op hop).1]⟩
 .rcases ce hx with⟨h1,h2⟩|⟨h1,op,hop,ho,hox⟩
  .rw[g?_old h1] at hg
   rw[counts_old h1];exact h.work i x h2 hm r' hr1 hr2 hg
  .have:gid n0 r=gid n0 r':=by simpa [Trace.g?,ho,(hu op hop).1] using hg
   have e:=kq hn this;subst e;exact hc hr1 i x h1 hx hm
 .rcases fC hg with⟨h1,h2⟩|⟨h1,op,hop,hog⟩
  .rcases h.over i g h2 h0 ((counts_old h1).1 hcn) with z|⟨j,j1,j2⟩
   .exact .inl z
   .have hj:j<t.size:=by
     unfold Trace.g? at j1;obtain⟨z,hz,_⟩:=τ.1 j1;exact lt_size_of_getElem? hz
    exact .inr ⟨j,by rw[g?_old hj];exact j1,hb_app u j2⟩
  .by_cases e:r= .m
   .subst e
    rw[<-hog,(hu op hop).1] at h0;exact absurd rfl h0
   .exact .inl ⟨r,e,hr,by rw[<-hog,(hu op hop).1]⟩
 .rcases fC hg with⟨h1,h2⟩|⟨h1,op,hop,hog⟩
  .exact h.ids i g h2 hge
  .by_cases e:r= .m
   .subst e
    rw[<-hog,(hu op hop).1] at hge;simp[gid] at hge;omega
   .exact⟨r,e,hr,by rw[<-hog,(hu op hop).1]⟩
 .exact h.Qz.app λop ho=>(hu op ho).2.1
 .exact h.nrW.app λop ho=>(hu op ho).2.2.1
 .rcases af6.1 ho with ho|ho
  .exact MemAct.low_mono hB (h.low op ho)
  .exact(hu op ho).2.2.2.1
theorem TI.mute (h:TI n0 Sh RO lv own M hold mA wA B t){g:Nat}(hg:g≠0)(hg0:g<n0\/∃r,r≠.m/\lv r/\g=gid n0 r)(hu:∀op∈u,op.g=g/\op.act.touch? =none/\op.act.low B/\op.act≠.mark (.release mA)/\op.act≠.mark (.release wA)):TI n0 Sh RO lv own M hold mA wA B (t++u):=by
 have old:∀{i:Nat} {x:Touch},touchAt (t++u) i=some x->i<t.size/\touchAt t i=some x:=fun {i x} hx=>by
  rcases ce hx with h1|⟨_,op,hop,_,hox⟩
  .exact h1
  .rw[(hu op hop).2.1] at hox;cases hox
 refine⟨λsaid=>noRace_append (h.clean said) (g:=g) (λop ho=>(hu op ho).1) (λi x _ op ho y hy _=>by rw[(hu op ho).2.1] at hy;cases hy),λi x hx hs=>?_,λr' c ho i x hx hb=>(h.own r' c ho i x (old hx).2 hb).app u,λr' i x hx hro hw=>(h.ro r' i x (old hx).2 hro hw).app u,λhe i x hx hb=>?_,λi x hx hm=>?_,λi x hx hm r' hr1 hr2 hg'=>?_,λi g' hg' h0 hcn=>?_,λi g' hg' hge=>?_,h.Qz.app λop ho=>(hu op ho).2.2.2.1,h.nrW.app λop ho=>(hu op ho).2.2.2.2,λop ho=>(af6.1 ho).elim (h.low op) λho=>(hu op ho).2.2.1⟩
 .obtain⟨h1,h2⟩:=old hx
  rcases h.quiet i x h2 hs with e|⟨e,hg⟩|e
  .exact .inl e
  .exact .inr (.inl ⟨e,by rw[g?_old h1];exact hg⟩)
  .exact .inr (.inr λr' hr'=>(e r' hr').app u)
 .rcases h.guard he i x (old hx).2 hb with hk|⟨p,p1,p2,p3⟩
  .exact .inl λr' hr'=>(hk r' hr').app u
  .have hp:=lt_of_act? p1
   exact .inr ⟨p,by rw[act?_old hp];exact p1,(heard_old hp).2 p2,p3.app u⟩
 .obtain⟨h1,h2⟩:=old hx
  rcases h.base i x h2 hm with⟨r',z1,z2,z3⟩|z|z
  .exact .inl ⟨r',z1,z2,by rw[g?_old h1];exact z3⟩
  .exact .inr (.inl (z.app u))
  .exact .inr (.inr z)
 .obtain⟨h1,h2⟩:=old hx
  rw[g?_old h1] at hg';rw[counts_old h1];exact h.work i x h2 hm r' hr1 hr2 hg'
 .rcases fC hg' with⟨h1,h2⟩|⟨h1,op,hop,hog⟩
  .rcases h.over i g' h2 h0 ((counts_old h1).1 hcn) with z|⟨j,j1,j2⟩
   .exact .inl z
   .have hj:j<t.size:=by
     unfold Trace.g? at j1;obtain⟨z,hz,_⟩:=τ.1 j1;exact lt_size_of_getElem? hz
    exact .inr ⟨j,by rw[g?_old hj];exact j1,hb_app u j2⟩
  .exfalso
   obtain⟨x,hx,_⟩:=hcn;exact absurd (old hx).1 (by omega)
 .rcases fC hg' with⟨h1,h2⟩|⟨h1,op,hop,hog⟩
  .exact h.ids i g' h2 hge
  .rw[<-hog,(hu op hop).1] at hge⊢
   rcases hg0 with h0|h0
   .omega
   .exact h0
theorem TI.acquire {r:bg}(h:TI n0 Sh RO lv own M none mA wA B t)(hr:lv r){z:MemOp}(hg:z.g=gid n0 r)(hz:z.act= .mark (.acquire mA))(hd:Deaf t (gid n0 r)=0)
  (h':TI n0 Sh RO lv own M none mA wA B (t++#[z])):TI n0 Sh RO lv (λr' c=>own r' c\/(r'=r/\c=M)) M (some r) mA wA B (t++#[z]):=by
 have hn:z.act.touch? =none:=by rw[hz];rfl
 have hq:(t++#[z])[t.size]? =some z:=by simp
 refine⟨h'.clean,h'.quiet,λr' c ho i x hx hb=>?_,h'.ro,(λe=>by cases e),h'.base,h'.work,h'.over,h'.ids,h'.Qz,h'.nrW,h'.low⟩;rcases ho with ho|⟨rfl,rfl⟩
 .exact h'.own r' c ho i x hx hb
 .have hx':touchAt t i=some x:=by
   rcases ce hx with⟨_,h2⟩|⟨_,op,hop,_,hox⟩
   .exact h2
   .simp at hop;subst hop;rw[hn] at hox;cases hox
  rcases h.guard rfl i x hx' hb with hk|⟨p,h1,h2,h3⟩
  .exact(hk _ hr).app _
  .have hp:=lt_of_act? h1
   have edge:HappensBefore (t++#[z]) p t.size:= .single (.inr ⟨.marked hp (.inr (by rw[act?_old hp];exact h1)) (by rw[act?_of hq,hz]) (λk _ _=>h'.Qz k),(heard_old hp).2 h2,
    ⟨gid n0 r',by simp[Trace.g?,hg],by rw[deaf_old (φ _)];exact hd⟩⟩)
   exact⟨t.size,z,hq,hg,.inr ((h3.app #[z]).hb edge)⟩
theorem TI.release {r:bg}(hold':own r M)(h:TI n0 Sh RO lv own M (some r) mA wA B t){y:MemOp}(hg:y.g=gid n0 r)(hy:y.act= .mark (.releaseMerge mA))(hd:Deaf t (gid n0 r)=0)
  (h':TI n0 Sh RO lv own M (some r) mA wA B (t++#[y])):TI n0 Sh RO lv (λr' c=>own r' c/\c≠M) M none mA wA B (t++#[y]):=by
 have hn:y.act.touch? =none:=by rw[hy];rfl
 have hq:(t++#[y])[t.size]? =some y:=by simp
 refine⟨h'.clean,h'.quiet,λr' c ho i x hx hb=>h'.own r' c ho.1 i x hx hb,h'.ro,λ_ i x hx hb=> .inr ⟨t.size,by rw[act?_of hq,hy],⟨gid n0 r,by simp[Trace.g?,hg],by rw[deaf_old (φ _)];exact hd⟩,.inr ?_⟩,h'.base,h'.work,h'.over,h'.ids,h'.Qz,h'.nrW,h'.low⟩;have hx':touchAt t i=some x:=by
  rcases ce hx with⟨_,h2⟩|⟨_,op,hop,_,hox⟩
  .exact h2
  .simp at hop;subst hop;rw[hn] at hox;cases hox
 exact(h.own r M hold' i x hx' hb).hb_new (φ _) hq hg
theorem TI.fork {r:bg}(hm:lv .m)(hr:r≠.m)(h:TI n0 Sh RO lv own M hold mA wA B t){x y:MemOp}(hx:x.g=0/\x.act= .go (gid n0 r))(hy:y.g=gid n0 r/\y.act= .start)
  (h0:Deaf t 0=0) (hk:Deaf t (gid n0 r)=0) (hn0:0<n0) (hgr:∀i g,t.g? i=some g->g≠gid n0 r):
  TI n0 Sh (λr' l=>if r'= .m\/r'=r then RO .m l\/∃c,own .m c/\lX c l else RO r' l) (λr'=>lv r'\/r'=r) (λr' c=>own r' c/\r'≠.m/\r'≠r) M hold mA wA B (t++#[x,y]):=by
 have hxy:∀op∈#[x,y],op=x\/op=y:=by intro op hop;simpa using hop
 have hnt:∀op∈#[x,y],∀b,op.act.touch? =some b->False:=by
  intro op hop b hb;rcases hxy op hop with rfl|rfl
  .rw[hx.2] at hb;cases hb
  .rw[hy.2] at hb;cases hb
 have old:∀{i:Nat} {b:Touch},touchAt (t++#[x,y]) i=some b->i<t.size/\touchAt t i=some b:=by
  intro i b hb;rcases ce hb with h1|⟨_,op,hop,_,hox⟩
  .exact h1
  .exact(hnt op hop b hox).elim
 have child:∀{i:Nat},Knows t 0 i->Knows (t++#[x,y]) (gid n0 r) i:=λhkn=>ConcN.fork_knows hx hy h0 hk hkn
 have km:∀{i:Nat},(∀r',lv r'->Knows t (gid n0 r') i)->∀r',lv r'\/r'=r->Knows (t++#[x,y]) (gid n0 r') i:=λhkn r' hr'=>by
  rcases hr' with hr'|rfl
  .exact(hkn r' hr').app _
  .exact child (hkn .m hm)
 refine⟨λsaid=>?_,λi z hz hs=>?_,λr' c ho i z hz hb=>(h.own r' c ho.1 i z (old hz).2 hb).app _,λr' i z hz hro hw=>?_,λhe i z hz hb=>?_,λi z hz hmm=>?_,λi z hz hmm r' hr1 hr2 hg'=>?_,λi g' hg' hg0 hcn=>?_,λi g' hg' hge=>?_,h.Qz.app λop ho=>?_,h.nrW.app λop ho=>?_,λop ho=>?_⟩
 .have e:t++#[x,y]=(t++#[x])++#[y]:=by apply Array.ext';simp
  rw[e];refine noRace_append (g:=gid n0 r) (noRace_append (g:=0) (h.clean said) (λop hop=>by simp at hop;rw[hop];exact hx.1) (λi b _ op hop c hc _=>(hnt op (by simp at hop⊢;exact .inl hop) c hc).elim))
   (λop hop=>by simp at hop;rw[hop];exact hy.1) (λi b _ op hop c hc _=>(hnt op (by simp at hop⊢;exact .inr hop) c hc).elim)
 .obtain⟨h1,h2⟩:=old hz
  rcases h.quiet i z h2 hs with e|⟨e,hg⟩|e
  .exact .inl e
  .exact .inr (.inl ⟨e,by rw[g?_old h1];exact hg⟩)
  .exact .inr (.inr (km e))
 .obtain⟨h1,h2⟩:=old hz
  by_cases e:r'= .m\/r'=r
  .rw[χ e] at hro
   have hk0:Knows t 0 i:=by
    rcases hro with hro|⟨c,hc,hb⟩
    .exact h.ro .m i z h2 hro hw
    .exact h.own .m c hc i z h2 hb
   rcases e with rfl|rfl
   .exact hk0.app _
   .exact child hk0
  .rw[ζ e] at hro
   exact(h.ro r' i z h2 hro hw).app _
 .obtain⟨h1,h2⟩:=old hz
  rcases h.guard he i z h2 hb with hkn|⟨p,p1,p2,p3⟩
  .exact .inl (km hkn)
  .have hp:=lt_of_act? p1
   exact .inr ⟨p,by rw[act?_old hp];exact p1,(heard_old hp).2 p2,p3.app _⟩
 .obtain⟨h1,h2⟩:=old hz
  rcases h.base i z h2 hmm with⟨r',z1,z2,z3⟩|z'|z'
  .exact .inl ⟨r',z1,.inl z2,by rw[g?_old h1];exact z3⟩
  .exact .inr (.inl (z'.app _))
  .exact .inr (.inr z')
 .obtain⟨h1,h2⟩:=old hz
  rw[g?_old h1] at hg';rw[counts_old h1];rcases hr2 with hr2|rfl
  .exact h.work i z h2 hmm r' hr1 hr2 hg'
  .exact absurd rfl (hgr i _ hg')
 .rcases fC hg' with⟨h1,h2⟩|⟨h1,op,hop,hog⟩
  .rcases h.over i g' h2 hg0 ((counts_old h1).1 hcn) with⟨r',z1,z2,z3⟩|⟨j,j1,j2⟩
   .exact .inl ⟨r',z1,.inl z2,z3⟩
   .have hj:j<t.size:=by
     unfold Trace.g? at j1;obtain⟨z,hz,_⟩:=τ.1 j1;exact lt_size_of_getElem? hz
    exact .inr ⟨j,by rw[g?_old hj];exact j1,hb_app _ j2⟩
  .exfalso
   obtain⟨b,hb,_⟩:=hcn;exact absurd (old hb).1 (by omega)
 .rcases fC hg' with⟨h1,h2⟩|⟨h1,op,hop,hog⟩
  .obtain⟨r',z1,z2,z3⟩:=h.ids i g' h2 hge
   exact⟨r',z1,.inl z2,z3⟩
  .rcases hxy op hop with rfl|rfl
   .rw[hx.1] at hog;omega
   .exact⟨r,hr,.inr rfl,hog.symm.trans hy.1⟩
 .rcases hxy op ho with rfl|rfl
  .rw[hx.2];simp
  .rw[hy.2];simp
 .rcases hxy op ho with rfl|rfl
  .rw[hx.2];simp
  .rw[hy.2];simp
 .rcases af6.1 ho with ho|ho
  .exact h.low op ho
  .rcases hxy op ho with rfl|rfl
   .rw[hx.2];trivial
   .rw[hy.2];trivial
theorem TI.join (hn:0<n0)(h:TI n0 Sh RO lv own M hold mA wA B t){z:MemOp}(hg:z.g=0)(hz:z.act= .mark (.acquire wA))(hd:Deaf t 0=0)(hl:z.act.low B)
  (hrel:∀r,r≠.m->lv r->∃p,ConcN.RelBy wA t (gid n0 r) p):Past Sh B (t++#[z]):=by
 have hn':z.act.touch? =none:=by rw[hz];rfl
 have hq:(t++#[z])[t.size]? =some z:=by simp
 have old:∀{i:Nat} {b:Touch},touchAt (t++#[z]) i=some b->i<t.size/\touchAt t i=some b:=by
  intro i b hb;rcases ce hb with h1|⟨_,op,hop,_,hox⟩
  .exact h1
  .simp at hop;subst hop;rw[hn'] at hox;cases hox
 have hnr:NoRelease wA (t++#[z]):=h.nrW.app λop ho=>by simp at ho;subst ho;rw[hz];simp
 have edge:∀r p,ConcN.RelBy wA t (gid n0 r) p->HappensBefore (t++#[z]) p t.size:=λr p hp=>by
  have hlt:=lt_of_act? hp.act;exact .single (.inr ⟨.marked hlt (.inr (by rw[act?_old hlt];exact hp.act)) (by rw[act?_of hq,hz]) (λk _ _=>hnr k),(heard_old hlt).2 hp.heard,⟨0,by simp[Trace.g?,hg],by rw[deaf_old (φ _)];exact hd⟩⟩)
 have cnt:∀r i,r≠.m->lv r->t.g? i=some (gid n0 r)->t.counts i->HappensBefore (t++#[z]) i t.size:=λr i h1 h2 hgi hc=>by
  obtain⟨p,hp⟩:=hrel r h1 h2;have hle:i<=p:=Nat.le_of_not_lt λhlt=>hp.after i hlt hgi hc
  have hlt:=lt_of_act? hp.act;rcases Nat.lt_or_ge i p with hip|hip
  .refine .trans (hb_app #[z] (.single (.inl ⟨hip,_,hgi,hp.g⟩))) (edge r p hp)
  .obtain rfl:i=p:=by omega
   exact edge r _ hp
 have k0:∀{i:Nat},HappensBefore (t++#[z]) i t.size->Knows (t++#[z]) 0 i:=λhb=>⟨t.size,z,hq,hg,.inr hb⟩
 refine⟨λsaid=>noRace_append (h.clean said) (g:=0) (λop ho=>by simp at ho;rw[ho];exact hg) (λi x _ op ho y hy _=>by simp at ho;subst ho;rw[hn'] at hy;cases hy),λi x hx hm=>?_,λi g hgi hne hc=>?_,?_,λop ho=>?_⟩
 .obtain⟨h1,h2⟩:=old hx
  rcases h.base i x h2 hm with⟨r,z1,z2,z3⟩|z'|z'
  .rcases h.work i x h2 hm r z1 z2 z3 with hc|hs
   .exact .inl (k0 (cnt r i z1 z2 z3 hc))
   .exact .inr hs
  .exact .inl (z'.app _)
  .exact .inr z'
 .rcases fC hgi with⟨h1,h2⟩|⟨h1,op,hop,hog⟩
  .have hc':=(counts_old h1).1 hc
   rcases h.over i g h2 hne hc' with⟨r,z1,z2,rfl⟩|⟨j,j1,j2⟩
   .exact⟨t.size,by simp[Trace.g?,hg],cnt r i z1 z2 h2 hc'⟩
   .have hj:j<t.size:=by
     unfold Trace.g? at j1;obtain⟨z,hz,_⟩:=τ.1 j1;exact lt_size_of_getElem? hz
    exact⟨j,by rw[g?_old hj];exact j1,hb_app _ j2⟩
  .simp at hop;subst hop;exact absurd (hog.symm.trans hg) hne
 .rw[ConcN.Deaf_still _ _ _ λop ho=>by simp at ho;subst ho;rw[hz];simp];exact hd
 .rcases af6.1 ho with ho|ho
  .exact h.low op ho
  .simp at ho;subst ho;exact hl
end
end aG
abbrev dZ:=Nat->Question->Nat
def az (w:Θ)(t:dZ)(d:Nat):Θ:={w with tape:=t,drawn:=d}
theorem yR (w:Θ)(t t':dZ)(d d':Nat):az (az w t d) t' d'=az w t' d':=rfl
theorem oP (w:Θ):az w w.tape w.drawn=w:=rfl
structure qj (g:Ω):Prop where
 run:g.status= .running
 dying:g.dying=none
 offers:g.offers=none
 calm:∀ch,g.frame.mode≠.panicking ch
inductive Rk where
 |zero
 |mk (f:Θ->Rk)
def Rk.Lt (a b:Rk):Prop:=∃f w,b= .mk f/\a=f w
theorem Rk.acc:∀a:Rk,Acc Rk.Lt a
 |.zero=>⟨_,λb ⟨f,w,h,_⟩=>by cases h⟩
 |.mk f=>⟨_,λb ⟨f',w,h,e⟩=>by cases h;subst e;exact Rk.acc (f w)⟩
theorem Rk.wf:WellFounded Rk.Lt:=⟨Rk.acc⟩
structure Co (S:Type) where
 R:S->Θ->Θ->Prop
 D:S->Θ->Θ->Array Event->Prop
 up:S->Θ->Θ->S
 refl:∀s w,R s w w
 trans:∀s a b c,R s a b->R s b c->R s a c
section
variable {S:Type}(P:ω)(main:Bool)(C:Co S)
def hU (Stop:S->Ω->Θ->Prop):Rk->S->Ω->Θ->Prop
 |.zero,s,g,w=>∀w₁,C.R s w w₁->Stop s g w₁
 |.mk f,s,g,w=>(∀w₁,C.R s w w₁->Stop s g w₁)\/
   (g.status= .running/\∀w₁,C.R s w w₁->∃g' w' es,stepG P main g w₁= .go g' w' es/\C.D s w₁ w' es/\hU Stop (f w₁) (C.up s w₁ w') g' w')
def aD (Stop:S->Ω->Θ->Prop)(s:S)(g:Ω)(w:Θ):Prop:=∃r,hU P main C Stop r s g w
end
section
variable {S:Type}{P:ω}{main:Bool}{C:Co S}{Stop Stop':S->Ω->Θ->Prop}{s:S}{g:Ω}{w:Θ}
theorem aD.stop (h:∀w₁,C.R s w w₁->Stop s g w₁):aD P main C Stop s g w:=⟨.zero,h⟩
theorem aD.step (hs:g.status= .running)(h:∀w₁,C.R s w w₁->∃g' w' es,stepG P main g w₁= .go g' w' es/\C.D s w₁ w' es/\aD P main C Stop (C.up s w₁ w') g' w'):
  aD P main C Stop s g w:=by
 have h':∀w₁,∃r,C.R s w w₁->∃g' w' es,stepG P main g w₁= .go g' w' es/\C.D s w₁ w' es/\hU P main C Stop r (C.up s w₁ w') g' w':=by
  intro w₁
  by_cases hr:C.R s w w₁
  .obtain⟨g',w',es,h1,h2,r,h3⟩:=h w₁ hr
   exact⟨r,λ_=>⟨g',w',es,h1,h2,h3⟩⟩
  .exact⟨.zero,λx=>absurd x hr⟩
 let f:Θ->Rk:=λw₁=>(h' w₁).choose
 exact⟨.mk f,.inr ⟨hs,λw₁ hr=>(h' w₁).choose_spec hr⟩⟩
theorem hU.rely {r:Rk}{w₁:Θ}(h:hU P main C Stop r s g w)(hr:C.R s w w₁):hU P main C Stop r s g w₁:=by
 cases r with
 |zero=>exactλw₂ h₂=>h w₂ (C.trans _ _ _ _ hr h₂)
 |mk f=>exact h.imp (λh w₂ h₂=>h w₂ (C.trans _ _ _ _ hr h₂)) λh=>⟨h.1,λw₂ h₂=>h.2 w₂ (C.trans _ _ _ _ hr h₂)⟩
theorem aD.rely {w₁:Θ}(h:aD P main C Stop s g w)(hr:C.R s w w₁):aD P main C Stop s g w₁:=let⟨r,x⟩:=h;⟨r,x.rely hr⟩
theorem hU.bind:∀{r:Rk} {s:S} {g:Ω} {w:Θ},hU P main C Stop r s g w->(∀s g w,Stop s g w->aD P main C Stop' s g w)->aD P main C Stop' s g w:=by
 intro r
 induction r with
 |zero=>exactλh k=>k _ _ _ (h _ (C.refl _ _))
 |mk f ih=>
  intro s g w h k;rcases h with h|⟨hs,h⟩
  .exact k _ _ _ (h _ (C.refl _ _))
  .exact aD.step hs λw₁ hr=>let⟨g',w',es,h1,h2,h3⟩:=h w₁ hr;⟨g',w',es,h1,h2,ih w₁ h3 k⟩
theorem aD.bind (h:aD P main C Stop s g w)(k:∀s g w,Stop s g w->aD P main C Stop' s g w):aD P main C Stop' s g w:=let⟨_,x⟩:=h;x.bind k
theorem aD.mono (h:aD P main C Stop s g w)(k:∀s g w,Stop s g w->Stop' s g w):aD P main C Stop' s g w:=by
 obtain⟨r,h⟩:=h
 induction r generalizing s g w with
 |zero=>exact .stop λw₁ hr=>k _ _ _ (h w₁ hr)
 |mk f ih=>
  rcases h with h|⟨hs,h⟩
  .exact .stop λw₁ hr=>k _ _ _ (h w₁ hr)
  .exact aD.step hs λw₁ hr=>let⟨g',w',es,h1,h2,h3⟩:=h w₁ hr;⟨g',w',es,h1,h2,ih w₁ h3⟩
theorem aD.silent {g':Ω}(hs:g.status= .running)(h:∀w₁,stepG P main g w₁= .go g' w₁)(hD:∀w₁,C.R s w w₁->C.D s w₁ w₁ #[])(hup:∀w₁,C.up s w₁ w₁=s)(k:aD P main C Stop s g' w):aD P main C Stop s g w:=
 aD.step hs λw₁ hr=>⟨g',w₁,#[],h w₁,hD w₁ hr,by rw[hup];exact k.rely hr⟩
end
section
variable (P:ω)(Fin:Ω->Θ->Prop)
def Run:Nat->Ω->Θ->Ω->Θ->Prop
 |0,g,w,g',w'=>g'=g/\w'=w
 |n+1,g,w,g',w'=>∃g1 w1 es,stepG P true g w= .go g1 w1 es/\qj g1/\Run n g1 w1 g' w'
def Ends (g:Ω)(w:Θ):Prop:=∀t d,∃n g' w',Run P n g (az w t d) g' w'/\Fin g' w'
def Shifts (J:Ω->Θ->Prop):Prop:=∀(g:Ω) (w:Θ) (t:dZ) (d:Nat) (g':Ω) (w':Θ) (es:Array Event),J g w->stepG P true g (az w t d)= .go g' w' es->qj g'->
 J g' w'/\∃c,w'=az w' t (d+c)/\∀t2 d2,(∀i,i<c->t2 (d2+i)=t (d+i))->stepG P true g (az w t2 d2)= .go g' (az w' t2 (d2+c)) es
inductive LT:Ω->Θ->Prop
 |stop {g:Ω} {w:Θ} (h:Fin g w):LT g w
 |step {g:Ω} {w:Θ} (nx:dZ->Nat->Ω×Θ×Array Event) (h:∀t d,stepG P true g (az w t d)= .go (nx t d).1 (nx t d).2.1 (nx t d).2.2)
   (ok:∀t d,qj (nx t d).1) (k:∀t d,LT (nx t d).1 (nx t d).2.1):LT g w
end
section
variable {P:ω}{Fin J:Ω->Θ->Prop}
theorem Run.fn:∀{n:Nat} {g:Ω} {w:Θ} {a:Ω} {v:Θ} {b:Ω} {u:Θ},Run P n g w a v->Run P n g w b u->a=b/\v=u
 |0,_,_,_,_,_,_,h,k=>⟨h.1.trans k.1.symm,h.2.trans k.2.symm⟩
 |n+1,_,_,_,_,_,_,⟨g1,w1,es,h1,_,h2⟩,⟨g2,w2,es2,k1,_,k2⟩=>by
  rw[h1] at k1;cases k1;exact Run.fn h2 k2
theorem Run.snoc:∀{n:Nat} {g:Ω} {w:Θ} {a:Ω} {v:Θ} {b:Ω} {u:Θ} {es:Array Event},Run P n g w a v->stepG P true a v= .go b u es->qj b->Run P (n+1) g w b u
 |0,_,_,_,_,b,u,es,⟨e1,e2⟩,h,hn=>by subst e1;subst e2;exact⟨b,u,es,h,hn,rfl,rfl⟩
 |n+1,_,_,_,_,_,_,_,⟨g1,w1,es1,h1,n1,h2⟩,h,hn=>⟨g1,w1,es1,h1,n1,Run.snoc h2 h hn⟩
theorem Run.shift (hS:Shifts P J):∀{n:Nat} {g:Ω} {w:Θ} {t:dZ} {d:Nat} {g':Ω} {w':Θ} {t2:dZ} {d2:Nat},J g w->Run P n g (az w t d) g' w'->(∀j,t2 (d2+j)=t (d+j))->
  ∃c,w'=az w' t (d+c)/\Run P n g (az w t2 d2) g' (az w' t2 (d2+c))
 |0,_,_,_,_,_,_,_,_,_,⟨e1,e2⟩,_=>by subst e1;subst e2;exact⟨0,rfl,rfl,rfl⟩
 |n+1,g,w,t,d,g',w',t2,d2,hn,⟨g1,w1,es,h1,n1,h2⟩,ht=>by
  obtain⟨j1,c,e,k⟩:=hS g w t d g1 w1 es hn h1 n1;have k1:=k t2 d2 λi _=>ht i
  rw[e] at h2;obtain⟨c',e',r⟩:=Run.shift hS (t2:=t2) (d2:=d2+c) j1 h2 λj=>by rw[Nat.add_assoc,Nat.add_assoc];exact ht (c+j)
  refine⟨c+c',by rw[<-Nat.add_assoc];exact e',g1,_,es,k1,n1,?_⟩;rw[<-Nat.add_assoc];exact r
theorem Ends.step (hS:Shifts P J)(hF:∀g w t d,Fin g (az w t d)↔Fin g w){g:Ω}{w:Θ}(hn:J g w)(h:Ends P Fin g w)(hf:¬Fin g w)(t:dZ)(d:Nat):
  ∃g' w' es,stepG P true g (az w t d)= .go g' w' es/\qj g'/\J g' w'/\Ends P Fin g' w':=by
 obtain⟨n,a,v,hr,ha⟩:=h t d;cases n with
 |zero=>
  obtain⟨rfl,rfl⟩:=hr;exact absurd ((hF _ _ _ _).1 ha) hf
 |succ n=>
  obtain⟨g1,w1,es,h1,n1,_⟩:=hr;obtain⟨j1,c,e,k⟩:=hS g w t d g1 w1 es hn h1 n1;refine⟨g1,w1,es,h1,n1,j1,λt2 d2=>?_⟩;obtain⟨m,b,u,hr2,hb⟩:=h (λp=>if p<c then t (d+p) else t2 (d2+(p-c))) 0;cases m with
  |zero=>
   obtain⟨rfl,rfl⟩:=hr2;exact absurd ((hF _ _ _ _).1 hb) hf
  |succ m=>
   obtain⟨g2,w2,es2,k1,_,k2⟩:=hr2;have k3:=k (λp=>if p<c then t (d+p) else t2 (d2+(p-c))) 0 λi hi=>by simp[hi]
   rw[k1] at k3;simp only[GStep.go.injEq] at k3;obtain⟨rfl,rfl,rfl⟩:=k3;obtain⟨c',_,r⟩:=Run.shift hS (t2:=t2) (d2:=d2) j1 k2 λj=>by simp;intro x;omega
   exact⟨m,b,_,r,(hF _ _ _ _).2 hb⟩
theorem Av (hS:Shifts P J)(hF:∀g w t d,Fin g (az w t d)↔Fin g w){g:Ω}{w:Θ}(hn:J g w)(h:Ends P Fin g w):LT P Fin g w:=by
 classical
 refine ad9 λhbad=>?_
 let Bad:Ω×Θ->Prop:=λx=>J x.1 x.2/\Ends P Fin x.1 x.2/\¬LT P Fin x.1 x.2
 have Fl:∀x:{x//Bad x},∃p:{x//Bad x}×dZ×Nat×Nat,∃es,stepG P true x.1.1 (az x.1.2 p.2.1 p.2.2.1)= .go p.1.1.1 p.1.1.2 es/\qj p.1.1.1/\
   (∀t2 d2,(∀i,i<p.2.2.2->t2 (d2+i)=p.2.1 (p.2.2.1+i))->stepG P true x.1.1 (az x.1.2 t2 d2)= .go p.1.1.1 (az p.1.1.2 t2 (d2+p.2.2.2)) es):=by
  rintro⟨⟨a,v⟩,na,ea,la⟩;have hf:¬Fin a v:=λx=>la (.stop x)
  have hex:∃t d g' w' es,stepG P true a (az v t d)= .go g' w' es/\qj g'/\J g' w'/\Ends P Fin g' w'/\¬LT P Fin g' w':=by
   refine ad9 λhno=>la ?_
   have hnx:∀t d,∃p:Ω×Θ×Array Event,stepG P true a (az v t d)= .go p.1 p.2.1 p.2.2/\qj p.1/\LT P Fin p.1 p.2.1:=by
    intro t d;obtain⟨g',w',es,h1,h2,hj,h3⟩:=ea.step hS hF na hf t d;refine⟨(g',w',es),h1,h2,ad9 λh4=>hno ⟨t,d,g',w',es,h1,h2,hj,h3,h4⟩⟩
   exact .step (λt d=>(hnx t d).choose) (λt d=>(hnx t d).choose_spec.1) (λt d=>(hnx t d).choose_spec.2.1) (λt d=>(hnx t d).choose_spec.2.2)
  obtain⟨t,d,g',w',es,h1,h2,hj,h3,h4⟩:=hex;obtain⟨_,c,_,k⟩:=hS a v t d g' w' es na h1 h2;exact⟨(⟨(g',w'),hj,h3,h4⟩,t,d,c),es,h1,h2,k⟩
 let x0:{x//Bad x}:=⟨(g,w),hn,h,hbad⟩
 let sq:Nat->{x//Bad x}:=λn=>Nat.rec x0 (λ_ x=>(Fl x).choose.1) n
 let dt:Nat->{x//Bad x}×dZ×Nat×Nat:=λn=>(Fl (sq n)).choose
 let pos:Nat->Nat:=λn=>Nat.rec 0 (λk p=>p+(dt k).2.2.2) n
 have xa:∀k,pos (k+1)=pos k+(dt k).2.2.2:=λ_=>rfl
 have Dc:∀i j,i<=j->pos i<=pos j:=by
  intro i j hij
  induction hij with
  |refl=>exact φ _
  |step _ ih=>exact ae3 ih (by rw[xa];omega)
 have LZ:∀i j p,pos i<=p->p<pos (i+1)->pos j<=p->p<pos (j+1)->i=j:=by
  intro i j p h1 h2 h3 h4;rcases Nat.lt_trichotomy i j with x|x|x
  .have:=Dc (i+1) j x;omega
  .exact x
  .have:=Dc (j+1) i x;omega
 let T:dZ:=λp q=>if hp:∃k,pos k<=p/\p<pos (k+1) then(dt hp.choose).2.1 ((dt hp.choose).2.2.1+(p-pos hp.choose)) q else 0
 have hT:∀k i,i<(dt k).2.2.2->T (pos k+i)=(dt k).2.1 ((dt k).2.2.1+i):=by
  intro k i hi;have hp:∃k',pos k'<=pos k+i/\pos k+i<pos (k'+1):=⟨k,by omega,by rw[xa];omega⟩
  have ek:hp.choose=k:=LZ _ _ _ hp.choose_spec.1 hp.choose_spec.2 (by omega) (by rw[xa];omega)
  funext q
  show(if hp:∃k',pos k'<=pos k+i/\pos k+i<pos (k'+1) then _ else _)=_;rw[dif_pos hp,ek,show pos k+i-pos k=i by omega]
 have hrun:∀k,Run P k g (az w T 0) (sq k).1.1 (az (sq k).1.2 T (pos k)):=by
  intro k
  induction k with
  |zero=>exact⟨rfl,rfl⟩
  |succ k ih=>
   obtain⟨es,_,ac4,hk⟩:=(Fl (sq k)).choose_spec;have:=hk T (pos k) λi hi=>hT k i hi
   exact ih.snoc this ac4
 obtain⟨n,a,v,hr,ha⟩:=h T 0;obtain⟨rfl,rfl⟩:=hr.fn (hrun n);exact(sq n).2.2.2 (.stop ((hF _ _ _ _).1 ha))
theorem Dt {S:Type}{main:Bool}{C:Co S}{Stop:S->Ω->Θ->Prop}(ba:S->Ω->Θ->Ω->Θ->Prop)
  (hstop:∀s gL wL g w,ba s gL wL g w->Fin gL wL->∀w₁,C.R s w w₁->Stop s g w₁) (hrun:∀s gL wL g w,ba s gL wL g w->g.status= .running)
  (hstep:∀s gL wL g w,ba s gL wL g w->∀w₁,C.R s w w₁->∀pY bI es,stepG P true gL (az wL w₁.tape w₁.drawn)= .go pY bI es->qj pY->LT P Fin pY bI->
   ∃g' w' es',stepG P main g w₁= .go g' w' es'/\C.D s w₁ w' es'/\ba (C.up s w₁ w') pY bI g' w')
  {gL:Ω} {wL:Θ} (h:LT P Fin gL wL):∀{s:S} {g:Ω} {w:Θ},ba s gL wL g w->aD P main C Stop s g w:=by
 induction h with
 |stop h=>exactλhs=> .stop (hstop _ _ _ _ _ hs h)
 |@step gL wL nx h ok hk ih=>
  intro s g w hs;refine aD.step (hrun _ _ _ _ _ hs) λw₁ hr=>?_
  obtain⟨g',w',es',h1,h2,h3⟩:=hstep _ _ _ _ _ hs w₁ hr _ _ _ (h _ _) (ok _ _) (hk _ _);exact⟨g',w',es',h1,h2,ih _ _ h3⟩
end
section
variable (π:Nat->Nat)
def aZ (a:Addr):Addr:={a with block:=π a.block}
def oU:Fn->Fn
 |.yield l=> .yield (π l)
 |f=>f
def Value.ren:Φ->Φ
 |.pointer a=> .pointer (a.map (aZ π))
 |.slice a n c=> .slice (a.map (aZ π)) n c
 |.map r=> .map (r.map π)
 |.chan r=> .chan (r.map π)
 |.func fn first captured=> .func (oU π fn) (first.attach.map λ⟨x,_⟩=>Value.ren x) (captured.attach.map λ⟨x,_⟩=>Value.ren x)
 |.iface t v=> .iface t (Value.ren v)
 |.agg cells=> .agg (cells.attach.map λ⟨x,_⟩=>Value.ren x)
 |.tuple vs=> .tuple (vs.attach.map λ⟨x,_⟩=>Value.ren x)
 |.bool b=> .bool b
 |.int k n=> .int k n
 |.float k n=> .float k n
 |.complex k a b=> .complex k a b
 |.string s=> .string s
 |.nilFunc=> .nilFunc
 |.nilIface=> .nilIface
termination_by v=>SizeOf.sizeOf v
decreasing_by
 all_goals first
  |(simp_wf;have:=Array.sizeOf_lt_of_mem ‹_∈_›;omega)
  |(simp_wf;omega)
end
section
variable {π:Nat->Nat}
@[simp] theorem dK (b:Bool):Value.ren π (.bool b)= .bool b:=by rw[Value.ren]
@[simp] theorem cA (k:IntKind) (n:Int):Value.ren π (.int k n)= .int k n:=by rw[Value.ren]
@[simp] theorem du (k:FloatKind) (n:Nat):Value.ren π (.float k n)= .float k n:=by rw[Value.ren]
@[simp] theorem cV (k:FloatKind) (n m:Nat):Value.ren π (.complex k n m)= .complex k n m:=by rw[Value.ren]
@[simp] theorem bF (s:Ξ):Value.ren π (.string s)= .string s:=by rw[Value.ren]
@[simp] theorem dG:Value.ren π .nilFunc= .nilFunc:=by rw[Value.ren]
@[simp] theorem cM:Value.ren π .nilIface= .nilIface:=by rw[Value.ren]
@[simp] theorem aU (a:Option Addr):Value.ren π (.pointer a)= .pointer (a.map (aZ π)):=by rw[Value.ren]
@[simp] theorem bK (a:Option Addr) (n c:Nat):Value.ren π (.slice a n c)= .slice (a.map (aZ π)) n c:=by rw[Value.ren]
@[simp] theorem dA (r:Option Nat):Value.ren π (.map r)= .map (r.map π):=by rw[Value.ren]
@[simp] theorem dX (r:Option Nat):Value.ren π (.chan r)= .chan (r.map π):=by rw[Value.ren]
@[simp] theorem cR (t:η) (v:Φ):Value.ren π (.iface t v)= .iface t (Value.ren π v):=by rw[Value.ren]
theorem nR (vs:Array Φ):(vs.attach.map λ⟨x,_⟩=>Value.ren π x)=vs.map (Value.ren π):=by
 apply Array.ext
 .simp
 .intro i h1 h2
  simp
@[simp] theorem dm (cs:Array Φ):Value.ren π (.agg cs)= .agg (cs.map (Value.ren π)):=by rw[Value.ren,nR]
@[simp] theorem cQ (cs:Array Φ):Value.ren π (.tuple cs)= .tuple (cs.map (Value.ren π)):=by rw[Value.ren,nR]
@[simp] theorem di (fn:Fn) (f c:Array Φ):Value.ren π (.func fn f c)= .func (oU π fn) (f.map (Value.ren π)) (c.map (Value.ren π)):=by rw[Value.ren,nR,nR]
end
theorem LJ (f:Fn):oU id f=f:=by cases f<;>rfl
theorem cx {vs:Array Φ}{f:Φ->Φ}(h:∀v∈vs,f v=v):vs.map f=vs:=by
 apply Array.ext
 .simp
 .intro i h1 h2
  simp[h]
theorem oS:∀v:Φ,Value.ren id v=v
 |.bool _|.int _ _|.float _ _|.complex _ _ _|.string _|.nilFunc|.nilIface=>by simp
 |.pointer a=>by cases a<;>simp[aZ]
 |.slice a _ _=>by cases a<;>simp[aZ]
 |.map r=>by cases r<;>simp
 |.chan r=>by cases r<;>simp
 |.iface t v=>by simp[oS v]
 |.agg cs=>by rw[dm,cx λv hv=>oS v]
 |.tuple cs=>by rw[cQ,cx λv hv=>oS v]
 |.func fn f c=>by rw[di,LJ,cx λv hv=>oS v,cx λv hv=>oS v]
termination_by v=>SizeOf.sizeOf v
decreasing_by
 all_goals first
  |(simp_wf;have:=Array.sizeOf_lt_of_mem ‹_∈_›;omega)
  |(simp_wf;omega)
theorem p7 {α:Type}(e:String):(MonadExcept.throw e:Except String α)= .error e:=rfl
theorem zR (π:Nat->Nat)(v:Φ):(Value.ren π v).bytes? =v.bytes? :=by cases v<;>simp[Value.bytes?]
theorem CX (π:Nat->Nat)(v:Φ)(bs:List Γ):(Value.ren π v).ofBytes bs=v.ofBytes bs:=by cases v<;>simp[Value.ofBytes]
theorem uB (π:Nat->Nat)(v u:Φ)(bs:List Γ)(h:v.ofBytes bs=some u):Value.ren π u=u:=by
 cases v with
 |bool b=>
  simp only[Value.ofBytes] at h;split at h<;>first|(cases h;simp)|cases h
 |int k n=>
  simp only[Value.ofBytes] at h;split at h<;>first|(cases h;simp)|cases h
 |float k n=>
  simp only[Value.ofBytes] at h;split at h<;>first|(cases h;simp)|cases h
 |complex k a b=>
  simp only[Value.ofBytes] at h;split at h<;>first|(cases h;simp)|cases h
 |_=>simp[Value.ofBytes] at h
theorem jC (π:Nat->Nat)(P:ω)(c:Array Φ)(e:η):∀f x stop,seenCells P (c.map (Value.ren π)) e f x stop=seenCells P c e f x stop
 |0,_,_=>rfl
 |f+1,x,stop=>by
  unfold seenCells;simp only[af2];split
  .rfl
  .split
   .rfl
   .split
    .rfl
    .rename_i i s _
     cases h:c[i]? with
     |none=>rfl
     |some v=>
      simp only[ε,zR];split
      .rfl
      .rfl
      .rw[jC π P c e f]
theorem ni {P:ω}{c:Array Φ}{e:η}:∀{f x stop:Nat} {l:List (Nat×Nat×List Γ)},seenCells P c e f x stop= .ok l->∀y∈l,y.1<c.size
 |0,_,_,_,h=>by simp[seenCells] at h
 |f+1,x,stop,l,h=>by
  unfold seenCells at h;split at h
  .cases h;simp
  .dsimp only at h
   split at h
   .cases h
   .split at h
    .cases h
    .rename_i i s _
     cases hc:c[i]? with
     |none=>simp[hc] at h
     |some v=>
      simp only[hc] at h;split at h
      .cases h
      .cases h
      .cases hr:seenCells P c e f (s+_) stop with
       |error y=>rw[hr] at h;cases h
       |ok r=>
        rw[hr] at h;simp only[Functor.map,Except.map,Except.ok.injEq] at h;subst h;intro y hy;rcases ab8.1 hy with rfl|hy
        .exact(Ψ.1 hc).1
        .exact ni hr y hy
def nh (P:ω)(u:η)(k at_:Addr)(m:Bool)(o:Option Obj):Except String (Array Φ×η×(Nat×Nat)×Nat×Φ×List (Nat×Nat×List Γ)):=
 (({heap:=#[o.getD (.coro none)],tape:=λ_ _=>0,drawn:=0,os:=default,output:=#[]}:Θ).seen P {at_ with block:=0} u k m)
theorem vA (w:Θ)(P:ω)(at_:Addr)(u:η)(k:Addr)(m:Bool):w.seen P at_ u k m=nh P u k at_ m w.heap[at_.block]? :=by
 unfold nh World.seen;simp only[bind,Except.bind,pure,Except.pure,p7];cases h:w.heap[at_.block]? with
 |none=>simp
 |some o=>simp
theorem rU {P:ω}{u:η}{k at_:Addr}{m:Bool}{o:Option Obj}{x:Array Φ×η×(Nat×Nat)×Nat×Φ×List (Nat×Nat×List Γ)}(h:nh P u k at_ m o= .ok x):
  o=some (.cells x.1 x.2.1 x.2.2.1)/\P.cellsOf x.2.1≠0/\(∀y∈x.2.2.2.2.2,y.1<x.1.size)/\∀(π:Nat->Nat) (f:Nat×Nat),nh P u k at_ m (some (.cells (x.1.map (Value.ren π)) x.2.1 f))= .ok (x.1.map (Value.ren π),x.2.1,f,x.2.2.2):=by
 unfold nh World.seen at h⊢;simp only[bind,Except.bind,pure,Except.pure,p7,jC] at h⊢
 by_cases hs:(k.spot.isSome||at_.spot.isSome)=true
 .simp[hs] at h
 .simp only[hs,ι,if_false] at h⊢
  cases hl:plainCell P P.depth u k.off with
  |none=>simp[hl] at h
  |some like=>
   simp only[hl] at h⊢;cases hb:Option.map (λx=>x.length) like.bytes? with
   |none=>simp[hb] at h
   |some size=>
    simp only[hb] at h⊢;cases hc:byteOfCell P P.depth u k.off with
    |none=>simp[hc] at h
    |some β=>
     simp only[hc] at h⊢;cases o with
     |none=>simp at h
     |some o=>
      cases o with
      |cells c e fz=>
       simp at h⊢
       by_cases h0:P.cellsOf e=0
       .simp[h0] at h
       .simp only[h0,if_false] at h
        cases h1:byteOfCell P P.depth e (at_.off%P.cellsOf e) with
        |none=>simp[h1] at h
        |some b0=>
         simp only[h1] at h;cases h2:seenCells P c e (size+1) (at_.off/P.cellsOf e*P.bytesOf e+b0+β) (at_.off/P.cellsOf e*P.bytesOf e+b0+β+size) with
         |error y=>simp[h2] at h
         |ok v=>
          simp only[h2] at h;cases m with
          |false=>
           simp only[ι,if_false,Except.ok.injEq] at h;subst h;refine⟨⟨rfl,rfl,rfl⟩,h0,?_,λπ a b=>by simp[h0,h1,jC,h2]⟩;intro i s bs hy;exact ni h2 _ hy
          |true=>
           simp only[if_true] at h
           match v,h2,h with
           |[(
             i,s,bs)],h2,h=>
            dsimp only at h
            by_cases h3:¬s=at_.off/P.cellsOf e*P.bytesOf e+b0+β\/¬bs.length=size
            .simp[h3] at h
            .simp only[h3,if_false,Except.ok.injEq] at h
             subst h;refine⟨⟨rfl,rfl,rfl⟩,h0,?_,λπ a b=>by simp[h0,h1,jC,h2];simpa using h3⟩;intro j s' bs' hy;obtain⟨rfl,rfl,rfl⟩:j=i/\s'=s/\bs'=bs:=by simpa using hy
             exact ni h2 (j,s',bs') (by simp)
           |[],_,h=>simp at h
           |_::_::_,_,h=>simp at h
      |_=>simp at h
theorem Au {π:Nat->Nat}{w w':Θ}{P:ω}{at_:Addr}{u:η}{k:Addr}{m:Bool}{v:Φ}{l:List Addr}(h:w.viewLoad P at_ u k m= .ok (v,l))
  (hb:∀c e f,w.heap[at_.block]? =some (.cells c e f)->P.cellsOf e≠0->∃f',w'.heap[π at_.block]? =some (.cells (c.map (Value.ren π)) e f')):
  w'.viewLoad P (aZ π at_) u (aZ π k) m= .ok (Value.ren π v,l.map (aZ π))/\(∀a∈l,a.block=at_.block)/\∃c e f,w.heap[at_.block]? =some (.cells c e f)/\P.cellsOf e≠0:=by
 unfold World.viewLoad at h⊢;have e1:w'.seen P (aZ π at_) u (aZ π k) m=nh P u k at_ m w'.heap[π at_.block]? :=vA w' P (aZ π at_) u (aZ π k) m;rw[e1];rw[vA] at h;simp only[bind,Except.bind,pure,Except.pure,p7] at h⊢;cases hs:nh P u k at_ m w.heap[at_.block]? with
 |error y=>simp[hs] at h
 |ok x=>
  obtain⟨h1,h2,_,h3⟩:=rU hs;obtain⟨f',hf'⟩:=hb _ _ _ h1 h2;rw[hf',h3 π f'];simp only[hs] at h;dsimp only at h⊢;generalize hz:x.2.2.2.2.1.ofBytes _=z at h⊢;cases z with
  |none=>simp at h
  |some v0=>
   simp only[Except.ok.injEq,af8] at h⊢;obtain⟨rfl,rfl⟩:=h;refine⟨⟨(uB π _ _ _ hz).symm,?_⟩,?_,_,_,_,h1,h2⟩
   .rw[List.map_map];rfl
   .intro a ha
    obtain⟨y,_,rfl⟩:=ae0.1 ha;rfl
theorem xM {β:Type}(r:Φ->Φ)(F:Array Φ->β->Except String (Array Φ))(hF:∀c y,F (c.map r) y=match F c y with|.ok d=> .ok (d.map r)|.error e=> .error e):
  ∀(l:List β) (c:Array Φ),List.foldlM F (c.map r) l=match List.foldlM F c l with|.ok d=> .ok (d.map r)|.error e=> .error e
 |[],c=>rfl
 |y::l,c=>by
  simp only[List.foldlM_cons,bind,Except.bind,hF];cases F c y with
  |error e=>rfl
  |ok d=>exact xM r F hF l d
theorem lY {w:Θ}{P:ω}{at_:Addr}{u:η}{k:Addr}{m:Bool}{v:Φ}{w1:Θ}{l:List Addr}(h:w.viewStore P at_ u k v m= .ok (w1,l)):
  ∃c e f c1,w.heap[at_.block]? =some (.cells c e f)/\P.cellsOf e≠0/\w1={w with heap:=w.heap.setIfInBounds at_.block (.cells c1 e f)}/\(∀a∈l,a.block=at_.block)/\(f=(0,c.size)->l=[]/\c1=c)/\
   ∀(π:Nat->Nat) (w':Θ) (f':Nat×Nat),(f'=f\/l=[])->w'.heap[π at_.block]? =some (.cells (c.map (Value.ren π)) e f')->
    w'.viewStore P (aZ π at_) u (aZ π k) (Value.ren π v) m= .ok ({w' with heap:=w'.heap.setIfInBounds (π at_.block) (.cells (c1.map (Value.ren π)) e f')},l.map (aZ π)):=by
 unfold World.viewStore at h
 by_cases ht:tight P P.depth u=true
 .simp only[ht,Bool.not_true,ι,if_false] at h
  rw[vA] at h;simp only[bind,Except.bind,pure,Except.pure,p7] at h;cases hs:nh P u k at_ m w.heap[at_.block]? with
  |error y=>simp[hs] at h
  |ok x=>
   obtain⟨h1,h2,hlt,h3⟩:=rU hs;simp only[hs] at h;cases hv:v.bytes? with
   |none=>simp[hv] at h
   |some bs=>
    simp only[hv] at h
    by_cases hq:some bs.length≠Option.map (λx=>x.length) x.2.2.2.2.1.bytes?
    .simp[hq] at h
    .simp only[hq,if_false] at h
     generalize hz:List.foldlM (m:=Except String) _ x.1 x.2.2.2.2.2=z at h;cases z with
     |error y=>simp at h
     |ok c1=>
      simp only[Except.ok.injEq,af8] at h;obtain⟨rfl,rfl⟩:=h;refine⟨_,_,_,c1,h1,h2,rfl,λa ha=>?_,λhf=>?_,λπ w' f' hff hw'=>?_⟩
      .obtain⟨y,_,rfl⟩:=ae0.1 ha
       rfl
      .cases hl:x.2.2.2.2.2 with
       |nil=>
        rw[hl] at hz;simp only[List.foldlM_nil,pure,Except.pure,Except.ok.injEq] at hz;exact⟨rfl,hz.symm⟩
       |cons y r=>
        exfalso;have hy:=hlt y (by rw[hl];simp);rw[hl] at hz;simp only[List.foldlM_cons,bind,Except.bind] at hz;rw[hf] at hz;split at hz
        .simp at hz
        .rename_i heq
         split at heq
         .cases heq
         .simp[hy] at heq
      .unfold World.viewStore
       have e1:w'.seen P (aZ π at_) u (aZ π k) m=nh P u k at_ m w'.heap[π at_.block]? :=vA w' P (aZ π at_) u (aZ π k) m;rw[e1,hw',h3 π f'];simp only[ht,Bool.not_true,ι,if_false,bind,Except.bind,pure,Except.pure,p7,zR,hv,hq];have ajD:∀(G:Array Φ->Nat×Nat×List Γ->Except String (Array Φ)),(f'=x.2.2.1->G=G)->True:=λ_ _=>trivial
       rcases hff with rfl|hnil
       rotate_left
       .have hnil':x.2.2.2.2.2=[]:=by simpa using hnil
        rw[hnil'] at hz⊢;simp only[List.foldlM_nil,pure,Except.pure,Except.ok.injEq] at hz⊢;subst hz;rfl
       rw[xM (Value.ren π),hz]
       .simp only[List.map_map]
        rfl
       .intro c y
        simp only[af2];split
        .rfl
        .split
         .rfl
         .cases hc:c[y.1]? with
          |none=>rfl
          |some old=>
           simp only[ε,CX];cases ho:old.ofBytes (List.take y.2.2.length (List.drop (y.2.1-x.2.2.2.1) bs)) with
           |none=>rfl
           |some new=>
            simp only[Array.map_setIfInBounds,uB π _ _ _ ho]
 .have ht':tight P P.depth u=false:=by simpa using ht
  simp[ht',bind,Except.bind,p7] at h
def lz:Φ->Bool
 |.agg _|.tuple _=>false
 |_=>true
def nY:Obj->Prop
 |.cells .. |.map .. |.stringIter .. |.mapIter .. =>True
 |.view .. |.number .. =>True
 |_=>False
def mh (π:Nat->Nat)(e:af5):af5:={key:=Value.ren π e.key,val:=Value.ren π e.val,born:=e.born}
def dE (π:Nat->Nat):Obj->Obj
 |.cells c e fr=> .cells (c.map (Value.ren π)) e fr
 |.map es clock=> .map (es.map (mh π)) clock
 |.mapIter m since seen st=> .mapIter (m.map π) since seen st
 |.view a t=> .view (aZ π a) t
 |.number a lost=> .number (aZ π a) lost
 |o=>o
def inner:Obj->Nat->Prop
 |.view a _,i|.number a _,i=>i=a.block
 |_,_=>False
def kV:Halt->Prop
 |.panic _|.stuck _=>True
 |.unsupported (.initOrder _)=>False
 |.unsupported _=>True
 |_=>False
def ed (w:Θ):Prop:=∀(b:Nat) (o:Obj),w.heap[b]? =some o->nY o
structure WR (π:Nat->Nat)(H Z:Nat->Prop)(wL w:Θ):Prop where
 inj:∀i j,π i=π j->i=j
 tape:w.tape=wL.tape
 drawn:w.drawn=wL.drawn
 lt:∀b,b<wL.heap.size->¬H b->π b<w.heap.size
 ok:∀(b:Nat) (o:Obj),wL.heap[b]? =some o->¬H b->¬Z b->nY o/\w.heap[π b]? =some (dE π o)
 hid:∀(b:Nat) (o:Obj),wL.heap[b]? =some o->H b->o= .cells #[] 1000000 (0,0)
 oq:∀(b:Nat) (o:Obj),wL.heap[b]? =some o->Z b->∃c t f,o= .cells c t (0,c.size)/\w.heap[π b]? =some (.cells (c.map (Value.ren π)) t f)
 low:∀b,H b\/Z b->b<wL.heap.size
 yx:∀(b:Nat) (o:Obj),wL.heap[b]? =some o->∀i,inner o i->i<wL.heap.size/\¬H i
theorem WR.kX {π:Nat->Nat}{H Z:Nat->Prop}{wL w:Θ}(h:WR π H Z wL w):ed wL:=by
 intro b o hb
 by_cases hH:H b
 .rw[h.hid b o hb hH];trivial
 .by_cases hZ:Z b
  .obtain⟨c,t,f,rfl,_⟩:=h.oq b o hb hZ;trivial
  .exact(h.ok b o hb hH hZ).1
def Dead {α:Type}(P:ω)(s:Sem α):Prop:=∀w,ed w->∃h w',s.run P w= .halt h w'/\kV h
def pi:Mark->Prop
 |.extern _|.noRoom=>True
 |_=>False
section
variable (P:ω)(π:Nat->Nat)(N:Nat->Prop)
inductive ba:(Nat->Prop)->{α:Type}->(α->α->Prop)->Sem α->Sem α->Prop
 |pure {V:Nat->Prop} {α:Type} {R:α->α->Prop} {a b:α} (h:R a b):ba V R (.pure a) (.pure b)
 |load {V:Nat->Prop} {α:Type} {R:α->α->Prop} {m:Mode} {a:Addr} {k k':Φ->Sem α} (h:∀v,ba (λi=>V i\/i=a.block) R (k v) (k' (Value.ren π v))):ba V R (.load m a k) (.load m (aZ π a) k')
 |store {V:Nat->Prop} {α:Type} {R:α->α->Prop} {m:Mode} {a:Addr} {v:Φ} {k k':Sem α} (h:ba (λi=>V i\/i=a.block) R k k'):ba V R (.store m a v k) (.store m (aZ π a) (Value.ren π v) k')
 |new {V:Nat->Prop} {α:Type} {R:α->α->Prop} {o:Obj} {k k':Nat->Sem α} (ho:nY o) (hi:∀i,inner o i->V i) (h:∀b,¬N b->ba (λi=>V i\/i=b) R (k b) (k' (π b))):ba V R (.new o k) (.new (dE π o) k')
 |getObj {V:Nat->Prop} {α:Type} {R:α->α->Prop} {r:Nat} {k k':Obj->Sem α} (h:∀o,nY o->ba (λi=>V i\/i=r\/inner o i) R (k o) (k' (dE π o))):ba V R (.getObj r k) (.getObj (π r) k')
 |setObj {V:Nat->Prop} {α:Type} {R:α->α->Prop} {r:Nat} {o:Obj} {k k':Sem α} (ho:nY o) (hi:∀i,inner o i->V i) (h:ba (λi=>V i\/i=r) R k k'):ba V R (.setObj r o k) (.setObj (π r) (dE π o) k')
 |shape {V:Nat->Prop} {α:Type} {R:α->α->Prop} {r:Nat} {k k':Option (η×Nat)->Sem α} (hv:V r) (h:∀x,ba V R (k x) (k' x)):ba V R (.shape r k) (.shape (π r) k')
 |freeze {V:Nat->Prop} {α:Type} {R:α->α->Prop} {a:Addr} {n:Nat} {k k':Sem α} (hv:V a.block) (hn:¬N a.block) (h:ba V R k k'):ba V R (.freeze a n k) (.freeze (aZ π a) n k')
 |frozen {V:Nat->Prop} {α:Type} {R:α->α->Prop} {a:Addr} {k k':Bool->Sem α} (hv:V a.block) (hn:¬N a.block) (h:∀x,ba V R (k x) (k' x)):ba V R (.frozen a k) (.frozen (aZ π a) k')
 |choose {V:Nat->Prop} {α:Type} {R:α->α->Prop} {q:Question} {k k':Nat->Sem α} (h:∀n,ba V R (k n) (k' n)):ba V R (.choose q k) (.choose q k')
 |program {V:Nat->Prop} {α:Type} {R:α->α->Prop} {k k':ω->Sem α} (h:ba V R (k P) (k' P)):ba V R (.program k) (.program k')
 |mark {V:Nat->Prop} {α:Type} {R:α->α->Prop} {m:Mark} {k k':Sem α} (hm:pi m) (h:ba V R k k'):ba V R (.mark m k) (.mark m k')
 |dead {V:Nat->Prop} {α:Type} {R:α->α->Prop} {s s':Sem α} (h:Dead P s):ba V R s s'
end
section
variable {P:ω}{π:Nat->Nat}{N V:Nat->Prop}
theorem Dead.halt {α:Type}{h:Halt}(hh:kV h):Dead P (.halt h:Sem α):=λw _=>⟨h,w,rfl,hh⟩
theorem Dead.bind {α β:Type}{s:Sem α}(f:α->Sem β)(h:Dead P s):Dead P (s.bind f):=by
 intro w hw;obtain⟨x,w',hr,hx⟩:=h w hw;refine⟨x,w',?_,hx⟩;rw[Sem.run_bind',hr];rfl
theorem ba.weak {α:Type}{R:α->α->Prop}{s s':Sem α}(h:ba P π N V R s s'):∀{V':Nat->Prop},(∀i,V i->V' i)->ba P π N V' R s s':=by
 induction h with
 |pure h=>exactλ_=> .pure h
 |load _ ih=>exactλhv=> .load λv=>ih v λi hi=>hi.imp (hv i) id
 |store _ ih=>exactλhv=> .store (ih λi hi=>hi.imp (hv i) id)
 |new ho h1 _ ih=>exactλhv=> .new ho (λi hi=>hv i (h1 i hi)) λb hb=>ih b hb λi hi=>hi.imp (hv i) id
 |getObj _ ih=>exactλhv=> .getObj λo ho=>ih o ho λi hi=>hi.imp (hv i) id
 |setObj ho h1 _ ih=>exactλhv=> .setObj ho (λi hi=>hv i (h1 i hi)) (ih λi hi=>hi.imp (hv i) id)
 |shape h1 _ ih=>exactλhv=> .shape (hv _ h1) λx=>ih x hv
 |freeze h1 h2 _ ih=>exactλhv=> .freeze (hv _ h1) h2 (ih hv)
 |frozen h1 h2 _ ih=>exactλhv=> .frozen (hv _ h1) h2 λx=>ih x hv
 |choose _ ih=>exactλhv=> .choose λn=>ih n hv
 |program _ ih=>exactλhv=> .program (ih hv)
 |mark hm _ ih=>exactλhv=> .mark hm (ih hv)
 |dead h=>exactλ_=> .dead h
theorem ba.bind {α β:Type}{R:α->α->Prop}{R':β->β->Prop}{s s':Sem α}(h:ba P π N V R s s'):∀{f f':α->Sem β},(∀x x',R x x'->ba P π N V R' (f x) (f' x'))->
  ba P π N V R' (s.bind f) (s'.bind f'):=by
 induction h with
 |pure h=>exactλhf=>hf _ _ h
 |load _ ih=>exactλhf=> .load λv=>ih v λx x' r=>(hf x x' r).weak λ_=> .inl
 |store _ ih=>exactλhf=> .store (ih λx x' r=>(hf x x' r).weak λ_=> .inl)
 |new ho h1 _ ih=>exactλhf=> .new ho h1 λb hb=>ih b hb λx x' r=>(hf x x' r).weak λ_=> .inl
 |getObj _ ih=>exactλhf=> .getObj λo ho=>ih o ho λx x' r=>(hf x x' r).weak λ_=> .inl
 |setObj ho h1 _ ih=>exactλhf=> .setObj ho h1 (ih λx x' r=>(hf x x' r).weak λ_=> .inl)
 |shape h1 _ ih=>exactλhf=> .shape h1 λx=>ih x hf
 |freeze h1 h2 _ ih=>exactλhf=> .freeze h1 h2 (ih hf)
 |frozen h1 h2 _ ih=>exactλhf=> .frozen h1 h2 λx=>ih x hf
 |choose _ ih=>exactλhf=> .choose λn=>ih n hf
 |program _ ih=>exactλhf=> .program (ih hf)
 |mark hm _ ih=>exactλhf=> .mark hm (ih hf)
 |dead h=>exactλhf=> .dead (h.bind _)
theorem ba.bind' {α β:Type}{R:α->α->Prop}{R':β->β->Prop}{s s':Sem α}(h:ba P π N V R s s'){f f':α->Sem β}(hf:∀x x',R x x'->ba P π N V R' (f x) (f' x')):
  ba P π N V R' (s>>=f) (s'>>=f'):=h.bind hf
theorem ba.mono {α:Type}{R R':α->α->Prop}{s s':Sem α}(h:ba P π N V R s s')(hr:∀x x',R x x'->R' x x'):ba P π N V R' s s':=by
 have:=h.bind (f:=Sem.pure) (f':=Sem.pure) (R':=R') λx x' r=> .pure (hr _ _ r)
 rwa [Sem.bind_pure',Sem.bind_pure'] at this
end
def pG (π:Nat->Nat)(H Z:Nat->Prop)(n:Nat)(e:Event):Prop:=
 (∃b,b<n/\¬H b/\(e.write=true->¬Z b)/\((∃a:Addr,e.loc= .cell a/\a.block=π b)\/e.loc= .obj (π b)))\/∃m,e.loc= .mark m/\pi m
theorem pG.mono {π:Nat->Nat}{H Z:Nat->Prop}{n n':Nat}{e:Event}(h:pG π H Z n e)(hn:n<=n'):pG π H Z n' e:=
 h.imp (λ⟨b,h1,h2⟩=>⟨b,ψ h1 hn,h2⟩) id
structure BM (π:Nat->Nat)(H Z:Nat->Prop)(wL bI w w':Θ):Prop where
 mG:wL.heap.size<=bI.heap.size
 size:w'.heap.size=w.heap.size+(bI.heap.size-wL.heap.size)
 keep:∀k,k<w.heap.size->(∀b,b<wL.heap.size->¬H b->¬Z b->π b≠k)->w'.heap[k]? =w.heap[k]?
 os:w'.os=w.os
 output:w'.output=w.output
 tape:w'.tape=w.tape
 drawn:w.drawn<=w'.drawn
section
variable {P:ω}{π:Nat->Nat}{N V:Nat->Prop}{H Z:Nat->Prop}{wL w:Θ}
theorem BM.refl (π:Nat->Nat)(H Z:Nat->Prop)(wL w:Θ):BM π H Z wL wL w w:=⟨φ _,by omega,λ_ _ _=>rfl,rfl,rfl,rfl,φ _⟩
theorem BM.trans {Pg BZ w1 w2:Θ}(h:BM π H Z wL Pg w w1)(k:BM π H Z Pg BZ w1 w2)(hag:∀i,wL.heap.size+i<BZ.heap.size->π (wL.heap.size+i)=w.heap.size+i):BM π H Z wL BZ w w2:=by
 have h1:=h.mG;have h2:=k.mG;have h3:=h.size;have h4:=k.size;refine⟨by omega,by omega,λj hj hn=>?_,k.os.trans h.os,k.output.trans h.output,k.tape.trans h.tape,ae3 h.drawn k.drawn⟩;rw[k.keep j (by omega) λb hb hH hZ=>?_,h.keep j hj hn]
 by_cases hlt:b<wL.heap.size
 .exact hn b hlt hH hZ
 .have:=hag (b-wL.heap.size) (by omega)
  rw[show wL.heap.size+(b-wL.heap.size)=b by omega] at this;omega
theorem ye {b off:Nat}{sp:Option Nat}(h:WR π H Z wL w){v:Φ}(hc:wL.cell? ⟨b,off,sp⟩=some v):w.cell? ⟨π b,off,sp⟩=some (Value.ren π v)/\b<wL.heap.size/\¬H b:=by
 unfold World.cell? at hc⊢;dsimp only at hc⊢;cases hb:wL.heap[b]? with
 |none=>simp[hb] at hc
 |some o=>
  have hlt:b<wL.heap.size:=(Ψ.1 hb).1;rw[hb] at hc
  by_cases hH:H b
  .rw[h.hid b o hb hH] at hc
   simp at hc
  .refine⟨?_,hlt,hH⟩
   have key:∀c t f g,o= .cells c t f->w.heap[π b]? =some (.cells (c.map (Value.ren π)) t g)->(match w.heap[π b]? with|some (.cells c _ _)=>if sp.isSome=true then none else c[off]? |_=>none)=some (Value.ren π v):=by
    intro c t f g e1 e2;subst e1;rw[e2];dsimp only at hc⊢;split at hc
    .cases hc
    .rename_i hs
     simp only[hs,if_false,ι];simp[hc]
   by_cases hZ:Z b
   .obtain⟨c,t,f,e1,e2⟩:=h.oq b o hb hZ
    exact key c t _ f e1 e2
   .obtain⟨h1,h2⟩:=h.ok b o hb hH hZ
    cases o with
    |cells c t f=>exact key c t f f rfl h2
    |_=>simp at hc
theorem sL (h:ed wL)(a:Addr)(m:Bool):(∃v l,wL.farLoad P a m= .ok (v,l))\/∃x,wL.farLoad P a m= .error x/\kV x:=by
 unfold World.farLoad World.noCell;cases hb:wL.heap[a.block]? with
 |none=>exact .inr ⟨_,rfl,trivial⟩
 |some o=>
  have:=h _ _ hb;cases o with
  |view at_ u=>
   dsimp only;cases wL.viewLoad P at_ u a m with
   |error y=>exact .inr ⟨_,rfl,trivial⟩
   |ok r=>exact .inl ⟨r.1,r.2,rfl⟩
  |_=>first|exact .inr ⟨_,rfl,trivial⟩|exact this.elim
theorem p6 (h:ed wL)(a:Addr)(v:Φ)(m:Bool):(∃l b c e f,wL.farStore P a v m= .ok ({wL with heap:=wL.heap.setIfInBounds b (.cells c e f)},l))\/∃x,wL.farStore P a v m= .error x/\kV x:=by
 unfold World.farStore World.noCell;cases hb:wL.heap[a.block]? with
 |none=>exact .inr ⟨_,rfl,trivial⟩
 |some o=>
  have:=h _ _ hb;cases o with
  |view at_ u=>
   dsimp only;cases hs:wL.viewStore P at_ u a v m with
   |error y=>exact .inr ⟨_,rfl,trivial⟩
   |ok r=>
    obtain⟨c,e,f,c1,_,_,h3,_⟩:=lY (w1:=r.1) (l:=r.2) hs;exact .inl ⟨r.2,at_.block,c1,e,f,by rw[<-h3]⟩
  |_=>first|exact .inr ⟨_,rfl,trivial⟩|exact this.elim
theorem DV {t:dZ}{d:Nat}{a:Addr}{v:Φ}{m:Bool}{l:List Addr}{b:Nat}{c:Array Φ}{e:η}{f:Nat×Nat}(h:wL.farStore P a v m= .ok ({wL with heap:=wL.heap.setIfInBounds b (.cells c e f)},l)):
  (Go.Proofs.YtchcmhodnkgojaaGreat.az wL t d).farStore P a v m= .ok (Go.Proofs.YtchcmhodnkgojaaGreat.az {wL with heap:=wL.heap.setIfInBounds b (.cells c e f)} t d,l):=by
 unfold World.farStore at h⊢;show(match wL.heap[a.block]? with|some (.view at_ u)=>(match(Go.Proofs.YtchcmhodnkgojaaGreat.az wL t d).viewStore P at_ u a v m with|.ok r=>Except.ok r|.error why=>Except.error (Halt.unsupported (Unsupported.unsafePointer why)))|_=>Except.error (wL.noCell a "store: no such cell"))=_;cases hb:wL.heap[a.block]? with
 |none=>rw[hb] at h;cases h
 |some o=>
  rw[hb] at h;cases o with
  |view at_ u=>
   dsimp only at h⊢;cases hs:wL.viewStore P at_ u a v m with
   |error y=>rw[hs] at h;cases h
   |ok r=>
    rw[hs] at h;simp only[Except.ok.injEq] at h;subst h;obtain⟨c0,e0,f0,c1,g1,g2,g3,_,_,g4⟩:=lY hs;have g5:=g4 id (Go.Proofs.YtchcmhodnkgojaaGreat.az wL t d) f0 (.inl rfl) (by
     have:c0.map (Value.ren id)=c0:=cx λv _=>oS v
     rw[this];exact g1)
    have e1:aZ id at_=at_:=rfl;have e2:aZ id a=a:=rfl;have e3:Value.ren id v=v:=oS v;have e4:c1.map (Value.ren id)=c1:=cx λv _=>oS v
    have e5:l.map (aZ id)=l:=by rw[show aZ id=id from rfl,List.map_id]
    rw[e1,e2,e3,e4,e5] at g5;rw[g5];have g6:=congrArg World.heap g3;simp only at g6;show Except.ok ({(Go.Proofs.YtchcmhodnkgojaaGreat.az wL t d) with heap:=wL.heap.setIfInBounds at_.block (.cells c1 e0 f0)},l)=_;rw[<-g6];rfl
  |_=>cases h
theorem ed.set {w:Θ}(h:ed w)(a:Addr)(v:Φ):ed (w.setCell a v):=by
 intro b o hb;simp only[World.setCell,ag3] at hb;split at hb
 .obtain⟨o',ho',rfl⟩:=τ.1 hb
  have:=h _ _ ho';cases o'<;>first|trivial|exact this.elim
 .exact h _ _ hb
theorem ed.push {w:Θ}(h:ed w){o:Obj}(ho:nY o):ed {w with heap:=w.heap.push o}:=by
 intro b o' hb;rw[Array.getElem?_push] at hb;split at hb
 .cases hb;exact ho
 .exact h _ _ hb
theorem ed.setObj {w:Θ}(h:ed w){o:Obj}(ho:nY o)(r:Nat):ed {w with heap:=w.heap.setIfInBounds r o}:=by
 intro b o' hb;simp only[Array.getElem?_setIfInBounds] at hb;split at hb
 .split at hb
  .cases hb;exact ho
  .cases hb
 .exact h _ _ hb
theorem ed.freeze {w:Θ}(h:ed w)(a:Addr)(n:Nat):ed (w.freeze a n):=by
 unfold World.freeze;split
 .exact h
 .intro b o hb
  simp only[ag3] at hb;split at hb
  .obtain⟨o',ho',rfl⟩:=τ.1 hb
   have:=h _ _ ho';cases o'<;>first|trivial|exact this.elim
  .exact h _ _ hb
theorem cz (w:Θ)(a:Addr)(v:Φ):(w.setCell a v).heap.size=w.heap.size:=by simp[World.setCell]
theorem dS (w:Θ)(a:Addr)(n:Nat):(w.freeze a n).heap.size=w.heap.size:=by unfold World.freeze;split<;>simp
theorem ba.mG {α:Type}{R:α->α->Prop}{s s':Sem α}(h:ba P π N V R s s'):∀{wL:Θ} {x:α} {bI:Θ},ed wL->(∀b,N b->b<wL.heap.size)->s.run P wL= .ok x bI->wL.heap.size<=bI.heap.size/\ed bI:=by
 induction h with
 |pure _=>intro wL x bI hl hn hr;simp only[Sem.run,Result.ok.injEq] at hr;obtain⟨_,rfl⟩:=hr;exact⟨φ _,hl⟩
 |@load V α R m a k k' _ ih=>
  intro wL x bI hl hn hr;simp only[Sem.run] at hr;split at hr
  .exact ih _ hl hn hr
  .rcases sL (P:=P) hl a (m== .atomic) with⟨v,l,hy⟩|⟨y,hy,_⟩
   .rw[hy] at hr;exact ih _ hl hn hr
   .rw[hy] at hr;cases hr
 |@store V α R m a v k k' _ ih=>
  intro wL x bI hl hn hr;cases v<;>simp only[Sem.run] at hr<;>first
   |(cases hr;done)
   |(
     split at hr
     .split at hr
      .cases hr
      .have:=ih (hl.set _ _) (by rw[cz];exact hn) hr
       rw[cz] at this;exact this
     .rcases p6 (P:=P) hl a _ (m== .atomic) with⟨l,b,c,e,f,hy⟩|⟨y,hy,_⟩
      .rw[hy] at hr
       have:=ih (hl.setObj (o:= .cells c e f) trivial b) (by simpa using hn) hr;simpa using this
      .rw[hy] at hr;cases hr)
 |new ho _ _ ih=>
  intro wL x bI hl hn hr;simp only[Sem.run] at hr;have:=ih wL.heap.size (λhb=>by have:=hn _ hb;omega) (hl.push ho) (λb hb=>by have:=hn _ hb;simp;omega) hr;simp at this;exact⟨by omega,this.2⟩
 |@getObj V α R r k k' _ ih=>
  intro wL x bI hl hn hr;simp only[Sem.run] at hr;split at hr
  .cases hr
  .rename_i o _ ho
   exact ih _ (hl _ _ ho) hl hn hr
  .cases hr
 |setObj ho _ _ ih=>
  intro wL x bI hl hn hr;simp only[Sem.run] at hr;split at hr
  .cases hr
  .have:=ih (hl.setObj ho _) (by simpa using hn) hr
   simpa using this
  .cases hr
 |shape _ _ ih=>intro wL x bI hl hn hr;exact ih _ hl hn hr
 |freeze _ _ _ ih=>
  intro wL x bI hl hn hr;have:=ih (hl.freeze _ _) (by rw[dS];exact hn) hr;rw[dS] at this;exact this
 |frozen _ _ _ ih=>intro wL x bI hl hn hr;exact ih _ hl hn hr
 |choose _ ih=>
  intro wL x bI hl hn hr;simp only[Sem.run] at hr;split at hr
  .exact ih _ hl hn hr
  .exact ih _ (wL:={wL with drawn:=wL.drawn+1}) hl hn hr
 |program _ ih=>intro wL x bI hl hn hr;exact ih hl hn hr
 |mark _ _ ih=>intro wL x bI hl hn hr;exact ih hl hn hr
 |dead h=>
  intro wL x bI hl hn hr;obtain⟨y,w',hy,_⟩:=h _ hl;rw[hy] at hr;cases hr
theorem ba.TA {α:Type}{R:α->α->Prop}{s s':Sem α}(h:ba P π N V R s s'):∀{wL:Θ} {x:Halt} {bI:Θ},ed wL->(∀b,N b->b<wL.heap.size)->s.run P wL= .halt x bI->kV x:=by
 induction h with
 |pure _=>intro wL x bI hl hn hr;simp[Sem.run] at hr
 |@load V α R m a k k' _ ih=>
  intro wL x bI hl hn hr;simp only[Sem.run] at hr;split at hr
  .exact ih _ hl hn hr
  .rcases sL (P:=P) hl a (m== .atomic) with⟨v,l,hy⟩|⟨y,hy,hk⟩
   .rw[hy] at hr;exact ih _ hl hn hr
   .rw[hy] at hr;cases hr;exact hk
 |@store V α R m a v k k' _ ih=>
  intro wL x bI hl hn hr;cases v<;>simp only[Sem.run] at hr<;>first
   |(cases hr;trivial)
   |(
     split at hr
     .split at hr
      .cases hr;trivial
      .exact ih (hl.set _ _) (by rw[cz];exact hn) hr
     .rcases p6 (P:=P) hl a _ (m== .atomic) with⟨l,b,c,e,f,hy⟩|⟨y,hy,hk⟩
      .rw[hy] at hr
       exact ih (hl.setObj (o:= .cells c e f) trivial b) (by simpa using hn) hr
      .rw[hy] at hr;cases hr;exact hk)
 |new ho _ _ ih=>
  intro wL x bI hl hn hr;simp only[Sem.run] at hr;exact ih wL.heap.size (λhb=>by have:=hn _ hb;omega) (hl.push ho) (λb hb=>by have:=hn _ hb;simp;omega) hr
 |@getObj V α R r k k' _ ih=>
  intro wL x bI hl hn hr;simp only[Sem.run] at hr;split at hr
  .cases hr;trivial
  .rename_i o _ ho
   exact ih _ (hl _ _ ho) hl hn hr
  .cases hr;trivial
 |setObj ho _ _ ih=>
  intro wL x bI hl hn hr;simp only[Sem.run] at hr;split at hr
  .cases hr;trivial
  .exact ih (hl.setObj ho _) (by simpa using hn) hr
  .cases hr;trivial
 |shape _ _ ih=>intro wL x bI hl hn hr;exact ih _ hl hn hr
 |freeze _ _ _ ih=>
  intro wL x bI hl hn hr;exact ih (hl.freeze _ _) (by rw[dS];exact hn) hr
 |frozen _ _ _ ih=>intro wL x bI hl hn hr;exact ih _ hl hn hr
 |choose _ ih=>
  intro wL x bI hl hn hr;simp only[Sem.run] at hr;split at hr
  .exact ih _ hl hn hr
  .exact ih _ (wL:={wL with drawn:=wL.drawn+1}) hl hn hr
 |program _ ih=>intro wL x bI hl hn hr;exact ih hl hn hr
 |mark _ _ ih=>intro wL x bI hl hn hr;exact ih hl hn hr
 |dead h=>
  intro wL x bI hl hn hr;obtain⟨y,w',hy,hk⟩:=h _ hl;rw[hy] at hr;cases hr;exact hk
theorem ed.az {w:Θ}(h:ed w)(t:dZ)(d:Nat):ed (az w t d):=h
theorem ba.EU {α:Type}{R:α->α->Prop}{s s':Sem α}(h:ba P π N V R s s'):∀{w:Θ} {t:dZ} {d:Nat} {es:Array Event} {x:α} {w':Θ} {es':Array Event},ed w->(∀b,N b->b<w.heap.size)->
  s.runT P (Go.Proofs.YtchcmhodnkgojaaGreat.az w t d) es=(.ok x w',es')->∃c,w'=Go.Proofs.YtchcmhodnkgojaaGreat.az w' t (d+c)/\∀t2 d2,(∀i,i<c->t2 (d2+i)=t (d+i))->s.runT P (Go.Proofs.YtchcmhodnkgojaaGreat.az w t2 d2) es=(.ok x (Go.Proofs.YtchcmhodnkgojaaGreat.az w' t2 (d2+c)),es'):=by
 induction h with
 |pure _=>
  intro w t d es x w' es' hl hn hr;simp only[Sem.runT,af8,Result.ok.injEq] at hr;obtain⟨⟨rfl,rfl⟩,rfl⟩:=hr;exact⟨0,rfl,λt2 d2 _=>rfl⟩
 |@load V α R m a k k' _ ih=>
  intro w t d es x w' es' hl hn hr;simp only[Sem.runT] at hr;have e:∀t d,(Go.Proofs.YtchcmhodnkgojaaGreat.az w t d).cell? a=w.cell? a:=λ_ _=>rfl
  rw[e] at hr;cases hc:w.cell? a with
  |some v=>
   rw[hc] at hr;obtain⟨c,h1,h2⟩:=ih v hl hn hr;refine⟨c,h1,λt2 d2 ht=>?_⟩;simp only[Sem.runT,e,hc];exact h2 t2 d2 ht
  |none=>
   rw[hc] at hr;have ef:∀t d,(Go.Proofs.YtchcmhodnkgojaaGreat.az w t d).farLoad P a (m== .atomic)=w.farLoad P a (m== .atomic):=λ_ _=>rfl
   rw[ef] at hr;rcases sL (P:=P) hl a (m== .atomic) with⟨v,l,hy⟩|⟨y,hy,hk⟩
   .rw[hy] at hr
    obtain⟨c,h1,h2⟩:=ih v hl hn hr;refine⟨c,h1,λt2 d2 ht=>?_⟩;simp only[Sem.runT,e,hc,ef,hy];exact h2 t2 d2 ht
   .rw[hy] at hr;cases hr
 |@store V α R m a v k k' _ ih=>
  intro w t d es x w' es' hl hn hr;have e:∀t d,(Go.Proofs.YtchcmhodnkgojaaGreat.az w t d).cell? a=w.cell? a:=λ_ _=>rfl
  have e2:∀t d,(Go.Proofs.YtchcmhodnkgojaaGreat.az w t d).frozen? a=w.frozen? a:=λ_ _=>rfl
  cases v<;>simp only[Sem.runT] at hr<;>first
   |(cases hr;done)
   |(
     rw[e] at hr;cases hc:w.cell? a with
     |some v=>
      rw[hc] at hr;dsimp only at hr;rw[e2] at hr;cases hz:w.frozen? a with
      |true=>rw[hz] at hr;simp at hr
      |false=>
       rw[hz] at hr;simp only[ι,if_false] at hr;obtain⟨c,h1,h2⟩:=ih (w:=w.setCell a _) (hl.set _ _) (by rw[cz];exact hn) hr;refine⟨c,h1,λt2 d2 ht=>?_⟩;simp only[Sem.runT,e,hc,e2,hz,ι,if_false];exact h2 t2 d2 ht
     |none=>
      rw[hc] at hr;rcases p6 (P:=P) (hl.az t d) a _ (m== .atomic) with⟨l,b,c0,e0,f0,hy⟩|⟨y,hy,hk⟩
      .have hy1:=λt2 d2=>DV (t:=t2) (d:=d2) hy
       rw[hy] at hr;obtain⟨c,h1,h2⟩:=ih (w:={w with heap:=w.heap.setIfInBounds b (.cells c0 e0 f0)}) (hl.setObj (o:= .cells c0 e0 f0) trivial b) (by simpa using hn) hr;refine⟨c,h1,λt2 d2 ht=>?_⟩;have hy2:=hy1 t2 d2;rw[yR] at hy2;simp only[Sem.runT,e,hc,hy2];exact h2 t2 d2 ht
      .rw[hy] at hr;cases hr)
 |@new V α R o k k' ho _ _ ih=>
  intro w t d es x w' es' hl hn hr;exact ih w.heap.size (λhb=>by have:=hn _ hb;omega) (w:={w with heap:=w.heap.push o}) (hl.push ho) (λb hb=>by have:=hn _ hb;simp;omega) hr
 |@getObj V α R r k k' _ ih=>
  intro w t d es x w' es' hl hn hr;simp only[Sem.runT] at hr;have e:∀t d,(Go.Proofs.YtchcmhodnkgojaaGreat.az w t d).heap=w.heap:=λ_ _=>rfl
  rw[e] at hr;cases hc:w.heap[r]? with
  |none=>rw[hc] at hr;simp at hr
  |some o=>
   rw[hc] at hr;cases o<;>first
    |(simp at hr;done)
    |(
      dsimp only at hr;obtain⟨c,h1,h2⟩:=ih _ (hl _ _ hc) hl hn hr;refine⟨c,h1,λt2 d2 ht=>?_⟩;simp only[Sem.runT,e,hc];exact h2 t2 d2 ht)
 |@setObj V α R r o k k' ho _ _ ih=>
  intro w t d es x w' es' hl hn hr;simp only[Sem.runT] at hr;have e:∀t d,(Go.Proofs.YtchcmhodnkgojaaGreat.az w t d).heap=w.heap:=λ_ _=>rfl
  rw[e] at hr;cases hc:w.heap[r]? with
  |none=>rw[hc] at hr;simp at hr
  |some o2=>
   rw[hc] at hr;cases o2<;>first
    |(simp at hr;done)
    |(
      dsimp only at hr;obtain⟨c,h1,h2⟩:=ih (w:={w with heap:=w.heap.setIfInBounds r o}) (hl.setObj ho _) (by simpa using hn) hr;refine⟨c,h1,λt2 d2 ht=>?_⟩;simp only[Sem.runT,e,hc];exact h2 t2 d2 ht)
 |shape _ _ ih=>intro w t d es x w' es' hl hn hr;exact ih _ hl hn hr
 |@freeze V α R a n k k' _ _ _ ih=>
  intro w t d es x w' es' hl hn hr;have e:∀t d,(Go.Proofs.YtchcmhodnkgojaaGreat.az w t d).freeze a n=Go.Proofs.YtchcmhodnkgojaaGreat.az (w.freeze a n) t d:=by
   intro t d;unfold World.freeze;split<;>rfl
  simp only[Sem.runT,e] at hr⊢;exact ih (w:=w.freeze a n) (hl.freeze _ _) (by rw[dS];exact hn) hr
 |frozen _ _ _ ih=>intro w t d es x w' es' hl hn hr;exact ih _ hl hn hr
 |@choose V α R q k k' _ ih=>
  intro w t d es x w' es' hl hn hr;simp only[Sem.runT] at hr⊢;cases hq:q.forced with
  |true=>
   simp only[hq,if_true] at hr⊢;exact ih _ hl hn hr
  |false=>
   simp only[hq,ι,if_false] at hr⊢;obtain⟨c,h1,h2⟩:=ih (q.cut (t d q)) (w:=w) (t:=t) (d:=d+1) hl hn hr;refine⟨c+1,by rw[show d+(c+1)=d+1+c by omega];exact h1,λt2 d2 ht=>?_⟩;have h0:=ht 0 (by omega);simp only[Nat.add_zero] at h0;have:=h2 t2 (d2+1) λi hi=>by
    have:=ht (i+1) (by omega);rw[show d2+1+i=d2+(i+1) by omega,show d+1+i=d+(i+1) by omega];exact this
   show(k (q.cut (t2 d2 q))).runT P (Go.Proofs.YtchcmhodnkgojaaGreat.az w t2 (d2+1)) es=_;rw[h0,show d2+(c+1)=d2+1+c by omega];exact this
 |program _ ih=>intro w t d es x w' es' hl hn hr;exact ih hl hn hr
 |mark _ _ ih=>intro w t d es x w' es' hl hn hr;exact ih hl hn hr
 |dead h=>
  intro w t d es x w' es' hl hn hr;obtain⟨y,w1,hy,hk⟩:=h _ (hl.az t d);have:=congrArg Prod.fst hr;rw[Sem.runT_fst,hy] at this;cases this
theorem fB (w:Θ)(a:Addr)(v:Φ)(k:Nat)(hk:k≠a.block):(w.setCell a v).heap[k]? =w.heap[k]? :=by
 simp only[World.setCell,ag3];rw[ζ (λe=>hk e.symm)]
theorem iO (w:Θ)(b off:Nat)(sp:Option Nat)(v:Φ){c:Array Φ}{t:η}{f:Nat×Nat}(h:w.heap[b]? =some (.cells c t f)):
  (w.setCell ⟨b,off,sp⟩ v).heap[b]? =some (.cells (if sp.isSome then c else c.setIfInBounds off v) t f):=by
 simp only[World.setCell,ag3,if_true,h,ε]
theorem WR.set (h:WR π H Z wL w){a:Addr}{v u:Φ}(hc:wL.cell? a=some u)(hz:wL.frozen? a=false):
  ¬Z a.block/\WR π H Z (wL.setCell a v) (w.setCell (aZ π a) (Value.ren π v))/\w.frozen? (aZ π a)=false:=by
 obtain⟨b,off,sp⟩:=a;obtain⟨_,hlt,hH⟩:=ye h hc;cases hb:wL.heap[b]? with
 |none=>simp[World.cell?,hb] at hc
 |some o=>
  have hnz:¬Z b:=by
   intro hZ;obtain⟨c,t,f,rfl,_⟩:=h.oq b o hb hZ;simp only[World.cell?,hb] at hc;simp only[World.frozen?,hb] at hz;split at hc
   .cases hc
   .have:=(Ψ.1 hc).1
    simp at hz;omega
  obtain⟨hok,hw⟩:=h.ok b o hb hH hnz;cases o with
  |cells c t f=>
   have hw':w.heap[π b]? =some (.cells (c.map (Value.ren π)) t f):=hw;refine⟨hnz,?_,?_⟩
   .refine {inj:=h.inj,tape:=h.tape,drawn:=h.drawn,lt:=λk hk h0=>by rw[cz] at hk⊢;exact h.lt k hk h0,ok:=λk o hk h1 h2=>?_,hid:=λk o hk h1=>?_,oq:=λk o hk h1=>?_,low:=(λk hk=>by rw[cz];exact h.low k hk),yx:=λk o hk i hi=>?_}
    .by_cases e:k=b
     .subst e
      rw[iO wL k off sp v hb] at hk;cases hk;refine⟨trivial,?_⟩;show(w.setCell ⟨π k,off,sp⟩ (Value.ren π v)).heap[π k]? =_;rw[iO w (π k) off sp _ hw'];cases sp<;>simp[dE,Array.map_setIfInBounds]
     .rw[fB _ _ _ _ e] at hk
      rw[fB _ _ _ _ (show π k≠π b fromλx=>e (h.inj _ _ x))];exact h.ok k o hk h1 h2
    .have e:k≠b:=λx=>hH (x▸h1)
     rw[fB _ _ _ _ e] at hk;exact h.hid k o hk h1
    .have e:k≠b:=λx=>hnz (x▸h1)
     rw[fB _ _ _ _ e] at hk;rw[fB _ _ _ _ (show π k≠π b fromλx=>e (h.inj _ _ x))];exact h.oq k o hk h1
    .rw[cz]
     by_cases e:k=b
     .subst e
      rw[iO wL k off sp v hb] at hk;cases hk;exact hi.elim
     .rw[fB _ _ _ _ e] at hk
      exact h.yx k o hk i hi
   .simp only[World.frozen?,hb] at hz
    show(match w.heap[π b]? with|some (.cells _ _ (lo,hi))=>decide (lo<=off)&&decide (off<hi)|_=>false)=false;rw[hw'];exact hz
  |_=>simp[World.cell?,hb] at hc
theorem WR.push (h:WR π H Z wL w){o:Obj}(ho:nY o)(hin:∀i,inner o i->i<wL.heap.size/\¬H i)(hp:π wL.heap.size=w.heap.size):WR π H Z {wL with heap:=wL.heap.push o} {w with heap:=w.heap.push (dE π o)}:=by
 have hlow:∀k,(H k\/Z k)->k≠wL.heap.size:=λk hk=>by have:=h.low k hk;omega
 refine {inj:=h.inj,tape:=h.tape,drawn:=h.drawn,lt:=λk hk h0=>?_,ok:=λk o' hk h1 h2=>?_,hid:=λk o' hk h1=>?_,oq:=λk o' hk h1=>?_,low:=(λk hk=>by have:=h.low k hk;simp;omega),yx:=λk o' hk i hi=>?_}
 .simp at hk⊢
  rcases Nat.lt_or_ge k wL.heap.size with x|x
  .have:=h.lt k x h0;omega
  .have:k=wL.heap.size:=by omega
   subst this;omega
 .simp only[Array.getElem?_push] at hk⊢
  split at hk
  .rename_i e
   subst e;cases hk;rw[χ hp];exact⟨ho,rfl⟩
  .rename_i e
   rw[ζ (λx=>e (h.inj _ _ (x.trans hp.symm)))];exact h.ok k o' hk h1 h2
 .simp only[Array.getElem?_push] at hk
  rw[ζ (hlow k (.inl h1))] at hk;exact h.hid k o' hk h1
 .simp only[Array.getElem?_push] at hk⊢
  rw[ζ (hlow k (.inr h1))] at hk;rw[ζ (λx=>hlow k (.inr h1) (h.inj _ _ (x.trans hp.symm)))];exact h.oq k o' hk h1
 .simp only[Array.getElem?_push] at hk
  have:i<wL.heap.size/\¬H i:=by
   split at hk
   .cases hk;exact hin i hi
   .exact h.yx k o' hk i hi
  exact⟨by simp;omega,this.2⟩
theorem WR.setObj (h:WR π H Z wL w){o o':Obj}{r:Nat}(hr:wL.heap[r]? =some o')(hnc:∀c t f,o'≠.cells c t f)(ho:nY o)(hin:∀i,inner o i->i<wL.heap.size/\¬H i):
  ¬H r/\¬Z r/\w.heap[π r]? =some (dE π o')/\WR π H Z {wL with heap:=wL.heap.setIfInBounds r o} {w with heap:=w.heap.setIfInBounds (π r) (dE π o)}:=by
 have hH:¬H r:=λx=>hnc _ _ _ (h.hid r o' hr x)
 have hZ:¬Z r:=λx=>by obtain⟨c,t,f,rfl,_⟩:=h.oq r o' hr x;exact hnc _ _ _ rfl
 have hlt:r<wL.heap.size:=(Ψ.1 hr).1;refine⟨hH,hZ,(h.ok r o' hr hH hZ).2,{inj:=h.inj,tape:=h.tape,drawn:=h.drawn,lt:=λk hk h0=>by simp at hk⊢;exact h.lt k hk h0,ok:=λk o2 hk h1 h2=>?_,hid:=λk o2 hk h1=>?_,oq:=λk o2 hk h1=>?_,low:=(λk hk=>by simpa using h.low k hk),yx:=λk o2 hk i hi=>?_}⟩
 .dsimp only at hk⊢
  by_cases e:r=k
  .subst e
   rw[ae4 hlt] at hk;cases hk;rw[ae4 (h.lt _ hlt hH)];exact⟨ho,rfl⟩
  .rw[aa6 e] at hk
   rw[aa6 (λx=>e (h.inj _ _ x))];exact h.ok k o2 hk h1 h2
 .dsimp only at hk
  have e:r≠k:=λx=>hH (x.symm▸h1)
  rw[aa6 e] at hk;exact h.hid k o2 hk h1
 .dsimp only at hk⊢
  have e:r≠k:=λx=>hZ (x.symm▸h1)
  rw[aa6 e] at hk;rw[aa6 (λx=>e (h.inj _ _ x))];exact h.oq k o2 hk h1
 .dsimp only at hk⊢
  rw[Array.size_setIfInBounds]
  by_cases e:r=k
  .subst e
   rw[ae4 hlt] at hk;cases hk;exact hin i hi
  .rw[aa6 e] at hk
   exact h.yx k o2 hk i hi
theorem WR.freeze (h:WR π H Z wL w){a:Addr}{n:Nat}(h1:¬H a.block)(h2:¬Z a.block):WR π H Z (wL.freeze a n) (w.freeze (aZ π a) n):=by
 unfold World.freeze
 by_cases hn:n=0
 .simp only[hn,if_true];exact h
 .simp only[hn,if_false]
  refine {inj:=h.inj,tape:=h.tape,drawn:=h.drawn,lt:=λk hk h0=>by simp at hk⊢;exact h.lt k hk h0,ok:=λk o hk g1 g2=>?_,hid:=λk o hk g1=>?_,oq:=λk o hk g1=>?_,low:=(λk hk=>by simpa using h.low k hk),yx:=λk o hk i hi=>?_}
  .simp only[ag3] at hk⊢
   by_cases e:a.block=k
   .rw[χ e] at hk
    obtain⟨o1,ho1,rfl⟩:=τ.1 hk;obtain⟨k1,k2⟩:=h.ok k o1 ho1 g1 g2;rw[χ (show(aZ π a).block=π k by rw[<-e];rfl),k2];refine⟨?_,?_⟩
    .cases o1<;>first|trivial|exact k1.elim
    .cases o1<;>rfl
   .rw[ζ e] at hk
    rw[ζ (show(aZ π a).block≠π k fromλx=>e (h.inj _ _ x))];exact h.ok k o hk g1 g2
  .simp only[ag3] at hk
   rw[ζ (λx=>h1 (by rw[x];exact g1))] at hk;exact h.hid k o hk g1
  .simp only[ag3] at hk⊢
   rw[ζ (λx=>h2 (by rw[x];exact g1))] at hk;rw[ζ (show(aZ π a).block≠π k fromλx=>h2 (by rw[h.inj _ _ x];exact g1))];exact h.oq k o hk g1
  .simp only[Array.size_modify]
   simp only[ag3] at hk
   by_cases e:a.block=k
   .rw[χ e] at hk
    obtain⟨o1,ho1,rfl⟩:=τ.1 hk;exact h.yx k o1 ho1 i (by cases o1<;>first|exact hi|exact hi.elim)
   .rw[ζ e] at hk
    exact h.yx k o hk i hi
theorem EZ {α:Type}{m:Mode}{a:Addr}{v:Φ}{k:Sem α}{w:Θ}(hv:lz v=true):(Sem.store m a v k).run P w=
  (match w.cell? a with
  |some _=>if w.frozen? a then .halt (.unsupported (.unsafePointer "a write to bytes that a string shares")) w else k.run P (w.setCell a v)
  |none=>match w.farStore P a v (m== .atomic) with
   |.ok (w,_)=>k.run P w
   |.error h=> .halt h w):=by
 cases v<;>first|rfl|cases hv
theorem uk {α:Type}{m:Mode}{a:Addr}{v:Φ}{k:Sem α}{w:Θ}{es:Array Event}(hv:lz v=true):(Sem.store m a v k).runT P w es=
  (match w.cell? a with
  |some _=>if w.frozen? a then(.halt (.unsupported (.unsafePointer "a write to bytes that a string shares")) w,es) else k.runT P (w.setCell a v) (es.push ⟨.cell a,true,m== .atomic⟩)
  |none=>match w.farStore P a v (m== .atomic) with
   |.ok (w,touched)=>k.runT P w (es++touched.toArray.map (⟨.cell ·,true,m== .atomic⟩))
   |.error h=>(.halt h w,es)):=by
 cases v<;>first|rfl|cases hv
theorem CW (π:Nat->Nat)(v:Φ):lz v=lz (Value.ren π v):=by cases v<;>simp[lz]
theorem B0 (h:WR π H Z wL w){b:Nat}{at_:Addr}{u:η}(hb:wL.heap[b]? =some (.view at_ u)):¬H b/\¬Z b/\b<wL.heap.size/\w.heap[π b]? =some (.view (aZ π at_) u):=by
 have hH:¬H b:=λx=>by have:=h.hid b _ hb x;cases this
 have hZ:¬Z b:=λx=>by obtain⟨c,t,f,e,_⟩:=h.oq b _ hb x;cases e
 exact⟨hH,hZ,(Ψ.1 hb).1,(h.ok b _ hb hH hZ).2⟩
theorem tU {b:Nat}{at_:Addr}{u:η}(hb:w.heap[b]? =some (.view at_ u))(off:Nat)(sp:Option Nat):w.cell? ⟨b,off,sp⟩=none:=by
 simp[World.cell?,hb]
theorem RL (TB:P.cellsOf 1000000=0)(h:WR π H Z wL w){a:Addr}{m:Bool}{v:Φ}{l:List Addr}(hy:wL.farLoad P a m= .ok (v,l)):
  w.cell? (aZ π a)=none/\w.farLoad P (aZ π a) m= .ok (Value.ren π v,l.map (aZ π))/\True/\(a.block<wL.heap.size/\¬H a.block)/\∀b∈l,b.block<wL.heap.size/\¬H b.block:=by
 unfold World.farLoad at hy⊢;cases hb:wL.heap[a.block]? with
 |none=>rw[hb] at hy;cases hy
 |some o=>
  rw[hb] at hy;cases o with
  |view at_ u=>
   obtain⟨h1,h2,h3,h4⟩:=B0 h hb;dsimp only at hy;cases hs:wL.viewLoad P at_ u a m with
   |error y=>rw[hs] at hy;cases hy
   |ok r=>
    rw[hs] at hy;simp only[Except.ok.injEq] at hy;subst hy;have hcell:∀c e f,wL.heap[at_.block]? =some (.cells c e f)->P.cellsOf e≠0->¬H at_.block/\∃f',w.heap[π at_.block]? =some (.cells (c.map (Value.ren π)) e f'):=by
     intro c e f hc he;have hH:¬H at_.block:=λx=>by
      have:=h.hid _ _ hc x;cases this;exact he TB
     refine⟨hH,?_⟩
     by_cases hZ:Z at_.block
     .obtain⟨c',t',f',e1,e2⟩:=h.oq _ _ hc hZ
      cases e1;exact⟨f',e2⟩
     .exact⟨f,(h.ok _ _ hc hH hZ).2⟩
    obtain⟨g1,g2,c,e,f,g3,g4⟩:=Au hs λc e f hc he=>(hcell c e f hc he).2
    refine⟨tU h4 _ _,?_,trivial,⟨h3,h1⟩,λb hbl=>?_⟩
    .rw[show(aZ π a).block=π a.block from rfl,h4]
     dsimp only;rw[g1]
    .rw[g2 b hbl]
     exact⟨(Ψ.1 g3).1,(hcell _ _ _ g3 g4).1⟩
  |_=>cases hy
theorem Nl (TB:P.cellsOf 1000000=0)(h:WR π H Z wL w){a:Addr}{v:Φ}{m:Bool}{l:List Addr}{Pg:Θ}(hy:wL.farStore P a v m= .ok (Pg,l)):
  ∃w1,w.cell? (aZ π a)=none/\w.farStore P (aZ π a) (Value.ren π v) m= .ok (w1,l.map (aZ π))/\(a.block<wL.heap.size/\¬H a.block)/\
   WR π H Z Pg w1/\(∀x∈l,x.block<wL.heap.size/\¬H x.block/\¬Z x.block)/\BM π H Z wL Pg w w1/\Pg.heap.size=wL.heap.size/\w1.heap.size=w.heap.size:=by
 unfold World.farStore at hy⊢;cases hb:wL.heap[a.block]? with
 |none=>rw[hb] at hy;cases hy
 |some o=>
  rw[hb] at hy;cases o with
  |view at_ u=>
   obtain⟨h1,h2,h3,h4⟩:=B0 h hb;dsimp only at hy;cases hs:wL.viewStore P at_ u a v m with
   |error y=>rw[hs] at hy;cases hy
   |ok r=>
    rw[hs] at hy;simp only[Except.ok.injEq] at hy;subst hy;obtain⟨c,e,f,c1,g1,g2,rfl,g4,g5,g6⟩:=lY hs;have hlt:at_.block<wL.heap.size:=(Ψ.1 g1).1;have hH:¬H at_.block:=λx=>by
     have:=h.hid _ _ g1 x;cases this;exact g2 TB
    by_cases hZ:Z at_.block
    .obtain⟨c',t',f',e1,e2⟩:=h.oq _ _ g1 hZ
     cases e1;obtain⟨rfl,rfl⟩:=g5 rfl;have g7:=g6 π w f' (.inr rfl) e2;have same:wL.heap.setIfInBounds at_.block (.cells c1 e (0,c1.size))=wL.heap:=by
      apply Array.ext_getElem?
      intro i
      by_cases hi:at_.block=i
      .subst hi;rw[ae4 hlt,g1]
      .rw[aa6 hi]
     have hlt':π at_.block<w.heap.size:=h.lt _ hlt hH;have same':w.heap.setIfInBounds (π at_.block) (.cells (c1.map (Value.ren π)) e f')=w.heap:=by
      apply Array.ext_getElem?
      intro i
      by_cases hi:π at_.block=i
      .subst hi;rw[ae4 hlt',e2]
      .rw[aa6 hi]
     refine⟨w,tU h4 _ _,?_,⟨h3,h1⟩,?_,λx hx=>(by simp at hx),?_,by simp,rfl⟩
     .rw[show(aZ π a).block=π a.block from rfl,h4]
      dsimp only;rw[g7,same']
     .rw[same];exact h
     .rw[same];exact BM.refl _ _ _ _ _
    .have hw:=(h.ok _ _ g1 hH hZ).2
     have g7:=g6 π w f (.inl rfl) hw;have hlt':π at_.block<w.heap.size:=h.lt _ hlt hH;refine⟨{w with heap:=w.heap.setIfInBounds (π at_.block) (.cells (c1.map (Value.ren π)) e f)},tU h4 _ _,?_,⟨h3,h1⟩,?_,λx hx=>?_,⟨by simp,by simp,λj hj hn=>aa6 (hn _ hlt hH hZ),rfl,rfl,rfl,φ _⟩,by simp,by simp⟩
     .rw[show(aZ π a).block=π a.block from rfl,h4]
      dsimp only;rw[g7]
     .refine {inj:=h.inj,tape:=h.tape,drawn:=h.drawn,lt:=λk hk h0=>by simp at hk⊢;exact h.lt k hk h0,ok:=λk o2 hk k1 k2=>?_,hid:=λk o2 hk k1=>?_,oq:=λk o2 hk k1=>?_,low:=(λk hk=>by simpa using h.low k hk),yx:=λk o2 hk i hi=>?_}
      .dsimp only at hk⊢
       by_cases e':at_.block=k
       .subst e'
        rw[ae4 hlt] at hk;cases hk;rw[ae4 hlt'];exact⟨trivial,rfl⟩
       .rw[aa6 e'] at hk
        rw[aa6 (λx=>e' (h.inj _ _ x))];exact h.ok k o2 hk k1 k2
      .dsimp only at hk
       have e':at_.block≠k:=λx=>hH (x.symm▸k1)
       rw[aa6 e'] at hk;exact h.hid k o2 hk k1
      .dsimp only at hk⊢
       have e':at_.block≠k:=λx=>hZ (x.symm▸k1)
       rw[aa6 e'] at hk;rw[aa6 (λx=>e' (h.inj _ _ x))];exact h.oq k o2 hk k1
      .dsimp only at hk⊢
       rw[Array.size_setIfInBounds]
       by_cases e':at_.block=k
       .subst e'
        rw[ae4 hlt] at hk;cases hk;exact hi.elim
       .rw[aa6 e'] at hk
        exact h.yx k o2 hk i hi
     .rw[g4 x hx]
      exact⟨hlt,hH,hZ⟩
  |_=>cases hy
theorem k7 {es:Array Event}{e0 e:Event}{n n':Nat}(h0:pG π H Z n e0)(hn:n<=n')(h:e∈es.push e0\/pG π H Z n' e):e∈es\/pG π H Z n' e:=by
 rcases h with h|h
 .rcases Array.mem_push.1 h with h|rfl
  .exact .inl h
  .exact .inr (h0.mono hn)
 .exact .inr h
theorem ba.run {α:Type}{R:α->α->Prop}{s s':Sem α}(TB:P.cellsOf 1000000=0)(h:ba P π N V R s s')(hN:∀b,N b↔H b\/Z b):∀{wL w:Θ} {es:Array Event} {x:α} {bI:Θ},WR π H Z wL w->(∀i,V i->i<wL.heap.size/\¬H i)->
  s.run P wL= .ok x bI->(∀i,wL.heap.size+i<bI.heap.size->π (wL.heap.size+i)=w.heap.size+i)->
  ∃x' w' es',s'.runT P w es=(.ok x' w',es')/\R x x'/\WR π H Z bI w'/\BM π H Z wL bI w w'/\∀e∈es',e∈es\/pG π H Z bI.heap.size e:=by
 have sC:∀{wL w:Θ},WR π H Z wL w->∀b,N b->b<wL.heap.size:=λhw b hb=>hw.low b ((hN b).1 hb)
 induction h with
 |pure hR=>
  intro wL w es x bI hw hV hr hag;simp only[Sem.run,Result.ok.injEq] at hr;obtain⟨rfl,rfl⟩:=hr;exact⟨_,w,es,rfl,hR,hw,BM.refl _ _ _ _ _,λe he=> .inl he⟩
 |@load V α R m a k k' hk ih=>
  intro wL w es x bI hw hV hr hag;simp only[Sem.run] at hr;cases hc:wL.cell? a with
  |none=>
   rw[hc] at hr;rcases sL (P:=P) hw.kX a (m== .atomic) with⟨v,l,hy⟩|⟨y,hy,_⟩
   .rw[hy] at hr
    have hsz:=((hk v).mG hw.kX (sC hw) hr).1;obtain⟨f1,f2,f3,f4,f5⟩:=RL TB hw hy;obtain⟨x',w',es',g1,g2,g3,g4,g5⟩:=ih v hw (λi hi=>hi.elim (hV i) λe=>e▸f4) hr hag (es:=es++(l.map (aZ π)).toArray.map (⟨.cell ·,false,m== .atomic⟩));refine⟨x',w',es',?_,g2,g3,g4,λe he=>?_⟩
    .simp only[Sem.runT]
     rw[f1,f2];exact g1
    .rcases g5 e he with h|h
     .rcases af6.1 h with h|h
      .exact .inl h
      .right
       simp at h;obtain⟨b,hb,rfl⟩:=h;obtain⟨b1,b2⟩:=f5 b hb;exact .inl ⟨b.block,by omega,b2,λx=>(by simp at x),.inl ⟨_,rfl,rfl⟩⟩
     .exact .inr h
   .rw[hy] at hr;cases hr
  |some v=>
   rw[hc] at hr;have hsz:=((hk v).mG hw.kX (sC hw) hr).1;obtain⟨h1,h2,h3⟩:=ye hw (show wL.cell? ⟨a.block,a.off,a.spot⟩=some v from hc);obtain⟨x',w',es',g1,g2,g3,g4,g5⟩:=ih v hw (λi hi=>hi.elim (hV i) λe=>e▸⟨h2,h3⟩) hr hag (es:=es.push ⟨.cell (aZ π a),false,m== .atomic⟩)
   refine⟨x',w',es',?_,g2,g3,g4,λe he=>k7 (.inl ⟨a.block,h2,h3,λx=>(by simp at x),.inl ⟨_,rfl,rfl⟩⟩) hsz (g5 e he)⟩;simp only[Sem.runT];rw[show w.cell? (aZ π a)=some (Value.ren π v) from h1];exact g1
 |@store V α R m a v k k' hk ih=>
  intro wL w es x bI hw hV hr hag;cases hv:lz v with
  |false=>cases v<;>simp[lz,Sem.run] at hv hr
  |true=>
   rw[EZ hv] at hr;rw[uk (CW π v▸hv)];cases hc:wL.cell? a with
   |none=>
    rw[hc] at hr;rcases p6 (P:=P) hw.kX a v (m== .atomic) with⟨l,b,c0,e0,f0,hy⟩|⟨y,hy,_⟩
    .rw[hy] at hr
     obtain⟨w1,f1,f2,f3,f4,f5,f6,f7,f8⟩:=Nl TB hw hy;have hsz:=(hk.mG f4.kX (sC f4) hr).1;rw[f7] at hsz;obtain⟨x',w',es',g1,g2,g3,g4,g5⟩:=ih f4 (λi hi=>by rw[f7];exact hi.elim (hV i) λe=>e▸f3) hr (by rw[f7,f8];exact hag) (es:=es++(l.map (aZ π)).toArray.map (⟨.cell ·,true,m== .atomic⟩));refine⟨x',w',es',?_,g2,g3,f6.trans g4 hag,λe he=>?_⟩
     .rw[f1,f2]
      exact g1
     .rcases g5 e he with h|h
      .rcases af6.1 h with h|h
       .exact .inl h
       .right
        simp at h;obtain⟨b,hb,rfl⟩:=h;obtain⟨b1,b2,b3⟩:=f5 b hb;exact .inl ⟨b.block,by omega,b2,λ_=>b3,.inl ⟨_,rfl,rfl⟩⟩
      .exact .inr h
    .rw[hy] at hr;cases hr
   |some u=>
    rw[hc] at hr;dsimp only at hr;cases hz:wL.frozen? a with
    |true=>rw[hz] at hr;simp at hr
    |false=>
     rw[hz] at hr;simp only[ι,if_false] at hr;obtain⟨h1,h2,h3⟩:=ye hw (show wL.cell? ⟨a.block,a.off,a.spot⟩=some u from hc);obtain⟨hnz,hw',hf⟩:=hw.set (v:=v) hc hz;have hsz:=(hk.mG hw'.kX (sC hw') hr).1;rw[cz] at hsz
     obtain⟨x',w',es',g1,g2,g3,g4,g5⟩:=ih hw' (λi hi=>by rw[cz];exact hi.elim (hV i) λe=>e▸⟨h2,h3⟩) hr (by rw[cz,cz];exact hag) (es:=es.push ⟨.cell (aZ π a),true,m== .atomic⟩)
     refine⟨x',w',es',?_,g2,g3,BM.trans ⟨by rw[cz];exact φ _,by rw[cz,cz];omega,λj hj hn=>fB _ _ _ _ (λe=>hn a.block h2 h3 hnz e.symm),rfl,rfl,rfl,φ _⟩ g4 hag,
      λe he=>k7 (.inl ⟨a.block,h2,h3,λ_=>hnz,.inl ⟨_,rfl,rfl⟩⟩) hsz (g5 e he)⟩
     rw[show w.cell? (aZ π a)=some (Value.ren π u) from h1];simp only[hf,ι,if_false];exact g1
 |@new V α R o k k' ho hi0 hk ih=>
  intro wL w es x bI hw hV hr hag;simp only[Sem.run] at hr;have hb:¬N wL.heap.size:=λx=>by have:=sC hw _ x;omega
  have hl1:ed {wL with heap:=wL.heap.push o}:=hw.kX.push ho;have hsz:=((hk _ hb).mG hl1 (λb x=>by have:=sC hw _ x;simp;omega) hr).1;simp at hsz;have hp:=hag 0 (by omega);simp only[Nat.add_zero] at hp;have hw':=hw.push ho (λi hi=>hV i (hi0 i hi)) hp;have hHl:∀b,H b->b≠wL.heap.size:=λb x=>by have:=hw.low b (.inl x);omega
  obtain⟨x',w',es',g1,g2,g3,g4,g5⟩:=ih wL.heap.size hb hw' (λi hi=>by
   rw[Array.size_push];rcases hi with hi|hi
   .exact⟨by have:=(hV i hi).1;omega,(hV i hi).2⟩
   .exact⟨by omega,λy=>hHl i y hi⟩) hr (λi hi=>by
   have:=hag (i+1) (by simp at hi;omega);simp;rw[show wL.heap.size+1+i=wL.heap.size+(i+1) by omega,this];omega) (es:=es)
  refine⟨x',w',es',?_,g2,g3,BM.trans (Pg:={wL with heap:=wL.heap.push o}) (w1:={w with heap:=w.heap.push (dE π o)}) ⟨by simp,by simp,λj hj hn=>?_,rfl,rfl,rfl,φ _⟩ g4 hag,g5⟩
  .simp only[Sem.runT]
   rw[<-hp];exact g1
  .simp only[Array.getElem?_push]
   rw[ζ (by omega)]
 |@getObj V α R r k k' hk ih=>
  intro wL w es x bI hw hV hr hag;simp only[Sem.run] at hr;cases hc:wL.heap[r]? with
  |none=>rw[hc] at hr;simp at hr
  |some o=>
   rw[hc] at hr;have hnc:∀c t f,o≠.cells c t f:=λc t f e=>by subst e;simp at hr
   have hH:¬H r:=λx=>hnc _ _ _ (hw.hid r o hc x)
   have hZ:¬Z r:=λx=>by obtain⟨c,t,f,rfl,_⟩:=hw.oq r o hc x;exact hnc _ _ _ rfl
   obtain⟨hok,hwo⟩:=hw.ok r o hc hH hZ;have hlt:r<wL.heap.size:=(Ψ.1 hc).1;have hr':(k o).run P wL= .ok x bI:=by cases o<;>first|exact hr|exact absurd rfl (hnc _ _ _)
   have hsz:=((hk o hok).mG hw.kX (sC hw) hr').1;obtain⟨x',w',es',g1,g2,g3,g4,g5⟩:=ih o hok hw (λi hi=>hi.elim (hV i) λe=>e.elim (λe=>e▸⟨hlt,hH⟩) (hw.yx r o hc i)) hr' hag (es:=es.push ⟨.obj (π r),false,(dE π o).isChan⟩);refine⟨x',w',es',?_,g2,g3,g4,λe he=>k7 (.inl ⟨r,hlt,hH,λx=>(by simp at x),.inr rfl⟩) hsz (g5 e he)⟩;simp only[Sem.runT];rw[hwo]
   cases o<;>first|exact absurd rfl (hnc _ _ _)|exact hok.elim|exact g1
 |@setObj V α R r o k k' ho hi0 hk ih=>
  intro wL w es x bI hw hV hr hag;simp only[Sem.run] at hr;cases hc:wL.heap[r]? with
  |none=>rw[hc] at hr;simp at hr
  |some o'=>
   rw[hc] at hr;have hnc:∀c t f,o'≠.cells c t f:=λc t f e=>by subst e;simp at hr
   obtain⟨hH,hZ,hwo,hw'⟩:=hw.setObj hc hnc ho (λi hi=>hV i (hi0 i hi));have hok:=(hw.ok r o' hc hH hZ).1;have hlt:r<wL.heap.size:=(Ψ.1 hc).1;have hr':k.run P {wL with heap:=wL.heap.setIfInBounds r o}= .ok x bI:=by cases o'<;>first|exact hr|exact absurd rfl (hnc _ _ _)
   have hsz:=(hk.mG hw'.kX (sC hw') hr').1;simp at hsz;obtain⟨x',w',es',g1,g2,g3,g4,g5⟩:=ih hw' (λi hi=>by rw[Array.size_setIfInBounds];exact hi.elim (hV i) λe=>e▸⟨hlt,hH⟩) hr' (by simpa using hag) (es:=es.push ⟨.obj (π r),true,(dE π o).isChan⟩)
   refine⟨x',w',es',?_,g2,g3,BM.trans (Pg:={wL with heap:=wL.heap.setIfInBounds r o}) (w1:={w with heap:=w.heap.setIfInBounds (π r) (dE π o)}) ⟨by simp,by simp,λj hj hn=>?_,rfl,rfl,rfl,φ _⟩ g4 hag,λe he=>?_⟩
   .simp only[Sem.runT]
    rw[hwo];cases o'<;>first|exact absurd rfl (hnc _ _ _)|exact hok.elim|exact g1
   .exact aa6 (hn r hlt hH hZ)
   .exact k7 (.inl ⟨r,hlt,hH,λ_=>hZ,.inr rfl⟩) hsz (g5 e he)
 |@shape V α R r k k' hv hk ih=>
  intro wL w es x bI hw hV hr hag;obtain⟨hlt,hH⟩:=hV r hv;have hs:w.shape? (π r)=wL.shape? r:=by
   unfold World.shape?;have hc:wL.heap[r]? =some wL.heap[r]:=ν hlt
   by_cases hZ:Z r
   .obtain⟨c,t,f,e1,e2⟩:=hw.oq r _ hc hZ
    rw[hc,e1,e2];simp
   .obtain⟨hok,hwo⟩:=hw.ok r _ hc hH hZ
    rw[hc,hwo];cases wL.heap[r]<;>simp[dE]
  simp only[Sem.run] at hr;obtain⟨x',w',es',g1,g2,g3,g4,g5⟩:=ih _ hw hV hr hag (es:=es);refine⟨x',w',es',?_,g2,g3,g4,g5⟩;simp only[Sem.runT];rw[hs];exact g1
 |@freeze V α R a n k k' hv hn hk ih=>
  intro wL w es x bI hw hV hr hag;obtain⟨hlt,hH⟩:=hV _ hv;have hZ:¬Z a.block:=λz=>hn ((hN _).2 (.inr z))
  have hw':=hw.freeze (n:=n) hH hZ;simp only[Sem.run] at hr;have ail:∀(u:Θ) (c:Addr) (b:Nat),b≠c.block->(u.freeze c n).heap[b]? =u.heap[b]? :=λu c b hb=>by
   unfold World.freeze;split
   .rfl
   .simp only[ag3];rw[ζ (λe=>hb e.symm)]
  obtain⟨x',w',es',g1,g2,g3,g4,g5⟩:=ih hw' (λi hi=>by rw[dS];exact hV i hi) hr (by rw[dS,dS];exact hag) (es:=es)
  exact⟨x',w',es',g1,g2,g3,BM.trans ⟨by rw[dS];exact φ _,by rw[dS,dS];omega,λj hj hm=>ail _ _ _ (λe=>hm a.block hlt hH hZ e.symm),by unfold World.freeze;split<;>rfl,by unfold World.freeze;split<;>rfl,by unfold World.freeze;split<;>rfl,by unfold World.freeze;split<;>exact φ _⟩ g4 hag,g5⟩
 |@frozen V α R a k k' hv hn hk ih=>
  intro wL w es x bI hw hV hr hag;obtain⟨hlt,hH⟩:=hV _ hv;have hZ:¬Z a.block:=λz=>hn ((hN _).2 (.inr z))
  have hs:w.frozen? (aZ π a)=wL.frozen? a:=by
   unfold World.frozen?;have hc:wL.heap[a.block]? =some wL.heap[a.block]:=ν hlt;obtain⟨hok,hwo⟩:=hw.ok _ _ hc hH hZ;rw[show(aZ π a).block=π a.block from rfl,hc,hwo];generalize wL.heap[a.block]=o;cases o with
   |cells c t f=>obtain⟨lo,hi⟩:=f;rfl
   |_=>rfl
  simp only[Sem.run] at hr;obtain⟨x',w',es',g1,g2,g3,g4,g5⟩:=ih _ hw hV hr hag (es:=es);refine⟨x',w',es',?_,g2,g3,g4,g5⟩;simp only[Sem.runT];rw[hs];exact g1
 |@choose V α R q k k' hk ih=>
  intro wL w es x bI hw hV hr hag;simp only[Sem.run,Sem.runT] at hr⊢;cases hq:q.forced with
  |true=>
   simp only[hq,if_true] at hr⊢;exact ih _ hw hV hr hag
  |false=>
   simp only[hq,ι,if_false] at hr⊢;rw[hw.tape,hw.drawn];have hw':WR π H Z {wL with drawn:=wL.drawn+1} {w with drawn:=wL.drawn+1}:={inj:=hw.inj,tape:=hw.tape,drawn:=rfl,lt:=hw.lt,ok:=hw.ok,hid:=hw.hid,oq:=hw.oq,low:=hw.low,yx:=hw.yx}
   obtain⟨x',w',es',g1,g2,g3,g4,g5⟩:=ih _ hw' hV hr hag (es:=es);have hd:=hw.drawn;rw[hw.tape] at g1;exact⟨x',w',es',g1,g2,g3,⟨g4.mG,g4.size,g4.keep,g4.os,g4.output,g4.tape,by have:=g4.drawn;simp at this;omega⟩,g5⟩
 |program _ ih=>intro wL w es x bI hw hV hr hag;exact ih hw hV hr hag
 |@mark V α R m k k' hm hk ih=>
  intro wL w es x bI hw hV hr hag;simp only[Sem.run] at hr;have hsz:=(hk.mG hw.kX (sC hw) hr).1;obtain⟨x',w',es',g1,g2,g3,g4,g5⟩:=ih hw hV hr hag (es:=es.push ⟨.mark m,false,true⟩);exact⟨x',w',es',g1,g2,g3,g4,λe he=>k7 (n:=0) (.inr ⟨m,rfl,hm⟩) (Nat.zero_le _) (g5 e he)⟩
 |dead h=>
  intro wL w es x bI hw hV hr hag;obtain⟨y,w',hy,_⟩:=h _ hw.kX;rw[hy] at hr;cases hr
end
def i9:Nat->Φ->Bool
 |0,_=>false
 |n+1,v=>match v with
  |.bool _|.int _ _|.float _ _|.complex _ _ _|.string _|.nilFunc|.nilIface=>true
  |.pointer a=>a.isNone
  |.slice a _ _=>a.isNone
  |.map r|.chan r=>r.isNone
  |.func fn f c=>(match fn with|.yield _=>false|_=>true)&&f.toList.all (i9 n)&&c.toList.all (i9 n)
  |.iface _ v=>i9 n v
  |.agg cs|.tuple cs=>cs.toList.all (i9 n)
theorem eA {π:Nat->Nat}:∀{n:Nat} {v:Φ},i9 n v=true->Value.ren π v=v
 |0,_,h=>by simp[i9] at h
 |n+1,v,h=>by
  cases v with
  |pointer a=>cases a<;>simp[i9] at h⊢
  |slice a _ _=>cases a<;>simp[i9] at h⊢
  |map r=>cases r<;>simp[i9] at h⊢
  |chan r=>cases r<;>simp[i9] at h⊢
  |iface t v=>simp only[i9] at h;rw[cR,eA h]
  |agg cs=>
   simp only[i9,ae6,Array.mem_toList_iff] at h;rw[dm,cx λv hv=>eA (h v hv)]
  |tuple cs=>
   simp only[i9,ae6,Array.mem_toList_iff] at h;rw[cQ,cx λv hv=>eA (h v hv)]
  |func fn f c=>
   simp only[i9,ξ,ae6,Array.mem_toList_iff] at h;rw[di,cx λv hv=>eA (h.1.2 v hv),cx λv hv=>eA (h.2 v hv)];cases fn<;>simp at h<;>rfl
  |_=>simp
inductive Value.Has (r:Nat):Φ->Prop
 |ptr {a:Addr} (h:a.block=r):Value.Has r (.pointer (some a))
 |slice {a:Addr} {n c:Nat} (h:a.block=r):Value.Has r (.slice (some a) n c)
 |map:Value.Has r (.map (some r))
 |chan:Value.Has r (.chan (some r))
 |yield {f c:Array Φ}:Value.Has r (.func (.yield r) f c)
 |first {fn:Fn} {f c:Array Φ} {x:Φ} (hx:x∈f) (h:Value.Has r x):Value.Has r (.func fn f c)
 |Gn {fn:Fn} {f c:Array Φ} {x:Φ} (hx:x∈c) (h:Value.Has r x):Value.Has r (.func fn f c)
 |iface {t:η} {v:Φ} (h:Value.Has r v):Value.Has r (.iface t v)
 |agg {cs:Array Φ} {x:Φ} (hx:x∈cs) (h:Value.Has r x):Value.Has r (.agg cs)
 |tuple {cs:Array Φ} {x:Φ} (hx:x∈cs) (h:Value.Has r x):Value.Has r (.tuple cs)
section
variable {P:ω}{π:Nat->Nat}{N V:Nat->Prop}
def RV (π:Nat->Nat)(v v':Φ):Prop:=v'=Value.ren π v
def RA (π:Nat->Nat)(a a':Addr):Prop:=a'=aZ π a
def RC (π:Nat->Nat)(c c':Array Φ):Prop:=c'=c.map (Value.ren π)
theorem al {α:Type}{R:α->α->Prop}{a b:α}(h:R a b):ba P π N V R (Pure.pure a) (Pure.pure b):= .pure h
theorem aj {α:Type}{R:α->α->Prop}{m:String}{s':Sem α}:ba P π N V R (stuck m) s':= .dead (.halt trivial)
theorem aI {α:Type}{R:α->α->Prop}{u:Unsupported}{s':Sem α}(h:kV (.unsupported u)):ba P π N V R (unsupported u) s':= .dead (.halt h)
theorem fV {α β:Type}{R:β->β->Prop}{m:String}{f:α->Sem β}{s':Sem β}:ba P π N V R (stuck m>>=f) s':= .dead (Dead.bind f (Dead.halt trivial))
theorem iy {α β:Type}{R:β->β->Prop}{u:Unsupported}{f:α->Sem β}{s':Sem β}(h:kV (.unsupported u)):ba P π N V R (unsupported u>>=f) s':= .dead (Dead.bind f (Dead.halt h))
theorem cD:ba P π N V (λa b=>a=P/\b=P) program program:= .program (.pure ⟨rfl,rfl⟩)
theorem iz {q:Question}:ba P π N V Eq (choose q) (choose q):= .choose λ_=> .pure rfl
theorem eh (t:η):ba P π N V (λa b=>a=b/\P.info? t=some a) (typeInfo t) (typeInfo t):=by
 unfold typeInfo;refine cD.bind' λx x' h=>?_
 obtain⟨rfl,rfl⟩:=h;show ba x' π N V _ (match x'.info? t with|some i=>_|none=>_) _;cases h:x'.info? t with
 |none=>exact aj
 |some i=>exact al ⟨rfl,rfl⟩
theorem aE (t:η):ba P π N V (λa b=>a=b/\P.underlying t=some a) (underlying t) (underlying t):=by
 unfold underlying;refine cD.bind' λx x' h=>?_
 obtain⟨rfl,rfl⟩:=h;cases h:x'.underlying t with
 |none=>exact aj
 |some i=>exact al ⟨rfl,rfl⟩
theorem cL (t:η):ba P π N V (λa b=>a=b/\(P.info? t).map (·.size)=some a) (Go.sizeOf t) (Go.sizeOf t):=by
 unfold Go.sizeOf;exact(eh t).bind' λx x' h=>al ⟨congrArg _ h.1,by rw[h.2];rfl⟩
theorem zL (t:η):ba P π N V Eq (isAgg t) (isAgg t):=by
 unfold isAgg;refine(aE t).bind' λx x' h=>?_
 obtain⟨rfl,_⟩:=h;cases x<;>exact al rfl
theorem wE (t:η):ba P π N V Eq (elemOf t) (elemOf t):=by
 unfold elemOf;refine(aE t).bind' λx x' h=>?_
 obtain⟨rfl,_⟩:=h;cases x<;>first|exact al rfl|exact aj
def zf (P:ω)(t:η):Bool:=match P.info? t with
 |some i=>match i.zero with
  |some z=>i9 8 z
  |none=>true
 |none=>true
theorem eu {t:η}(hz:zf P t=true):ba P π N V (λa b=>a=b/\∃n,i9 n a=true) (zeroValue t) (zeroValue t):=by
 unfold zeroValue;refine(eh t).bind' λx x' h=>?_
 obtain⟨rfl,hi⟩:=h;unfold zf at hz;simp only[hi] at hz;cases hx:x.zero with
 |none=>exact aI trivial
 |some z=>simp only[hx] at hz;exact al ⟨rfl,8,hz⟩
theorem oF {m:Mode}(a:Addr):ba P π N V (RV π) (load a m) (load (aZ π a) m):= .load λ_=> .pure rfl
theorem IN {m:Mode}(a:Addr)(v:Φ):ba P π N V Eq (store a v m) (store (aZ π a) (Value.ren π v) m):= .store (.pure rfl)
theorem iP (a:Addr)(n:Nat):aZ π (a.add n)=(aZ π a).add n:=by
 unfold Addr.add;split<;>rfl
theorem lD (a:Addr):∀(n i:Nat) (acc:Array Φ),ba P π N V (RC π) (loadCellsFrom a i n acc) (loadCellsFrom (aZ π a) i n (acc.map (Value.ren π)))
 |0,i,acc=>al rfl
 |n+1,i,acc=>by
  unfold loadCellsFrom;rw[<-iP];refine(oF (a.add i)).bind' λv v' h=>?_
  rw[show v'=Value.ren π v from h,<-Array.map_push];exact lD a n (i+1) (acc.push v)
theorem mc (a:Addr)(n:Nat):ba P π N V (RC π) (loadCells a n) (loadCells (aZ π a) n):=by
 have:=lD (P:=P) (π:=π) (N:=N) (V:=V) a n 0 #[];simpa [loadCells] using this
theorem fX (a:Addr):∀(vs:List Φ) (i:Nat),ba P π N V Eq (storeCells a vs i) (storeCells (aZ π a) (vs.map (Value.ren π)) i)
 |[],i=>al rfl
 |v::vs,i=>by
  simp only[storeCells,List.map_cons];rw[<-iP];exact(IN (a.add i) v).bind' λ_ _ _=>fX a vs (i+1)
theorem iI (v:Φ):(Value.ren π v).cells=v.cells.map (Value.ren π):=by cases v<;>simp[Value.cells]
theorem uh (t:η)(a:Addr):ba P π N V (RV π) (loadVar t a) (loadVar t (aZ π a)):=by
 unfold loadVar;refine(zL t).bind' λx x' h=>?_
 subst h;cases x with
 |true=>
  simp only[if_true];refine(cL t).bind' λn n' h=>?_
  obtain⟨rfl,_⟩:=h;refine(mc a n).bind' λc c' h=>?_
  rw[show c'=_ from h];exact al (by simp[RV])
 |false=>simp only[ι,if_false];exact oF a
theorem AB (t:η)(a:Addr)(v:Φ):ba P π N V Eq (storeVar t a v) (storeVar t (aZ π a) (Value.ren π v)):=by
 unfold storeVar;refine(cL t).bind' λn n' h=>?_
 obtain⟨rfl,_⟩:=h;rw[iI];simp only[Array.size_map,Array.toList_map]
 by_cases hn:v.cells.size≠n
 .simp only[hn,ne_eq,not_false_eq_true,if_true]
  exact aj
 .simp only[hn,ne_eq,if_false]
  exact fX a _ 0
theorem kO (elem:η)(cells:Array Φ):ba P π N V (RA π) (newRow elem cells) (newRow elem (cells.map (Value.ren π))):=by
 unfold newRow newObj;exact ba.new (o:= .cells cells elem) trivial (λ_ h=>h.elim) λb _=> .pure rfl
theorem wu (t:η)(v:Φ):ba P π N V (RA π) (newVar t v) (newVar t (Value.ren π v)):=by
 unfold newVar;rw[iI];exact kO t _
theorem kN (t:η)(cs:Array Φ)(off:Nat):ba P π N V (λv v'=>v'=Value.ren π v/\((∃n,v= .agg (cs.extract off (off+n)))\/cs[off]? =some v)) (part t cs off) (part t (cs.map (Value.ren π)) off):=by
 unfold part;refine(zL t).bind' λx x' h=>?_
 subst h;cases x with
 |true=>
  simp only[if_true];refine(cL t).bind' λn n' h=>?_
  obtain⟨rfl,_⟩:=h;exact al ⟨by simp,.inl ⟨n,rfl⟩⟩
 |false=>
  simp only[ι,if_false,af2];cases h:cs[off]? with
  |none=>exact aj
  |some v=>exact al ⟨rfl,.inr rfl⟩
theorem lE (v:Φ):ba P π N V Eq (asIntOf v) (asIntOf (Value.ren π v)):=by
 cases v with
 |int k n=>simp only[cA];exact al rfl
 |pointer a=>cases a<;>first|exact aI trivial|exact aj
 |_=>exact aj
theorem kC (v:Φ):ba P π N V Eq (asInt v) (asInt (Value.ren π v)):=by
 unfold asInt;exact(lE v).bind' λ_ _ h=>by rw[h];exact al rfl
theorem ES (v:Φ):ba P π N V Eq (asBool v) (asBool (Value.ren π v)):=by
 cases v with
 |bool b=>simp only[dK];exact al rfl
 |_=>exact aj
theorem IX (v:Φ):ba P π N V (λc c'=>c'=c.map (Value.ren π)/\v= .agg c) (asAgg v) (asAgg (Value.ren π v)):=by
 cases v with
 |agg cs=>simp only[dm];exact al ⟨rfl,rfl⟩
 |_=>exact aj
theorem uQ {α:Type}{q:Question}{k:Nat->Sem α}(h:∀n,Dead P (k n)):Dead P (.choose q k):=by
 intro w hw;simp only[Sem.run];split
 .exact h 0 w hw
 .exact h _ {w with drawn:=w.drawn+1} hw
theorem dD {α:Type}(e:RuntimeError):Dead P (runtimePanic e:Sem α):=by
 intro w hw;have hel:∀(t:η),(∃x,(elemOf t).run P w= .ok x w)\/∃h,(elemOf t).run P w= .halt h w/\kV h:=by
  intro t;unfold elemOf underlying;simp only[Sem.run_bind,program,Sem.run,Result.andThen];cases P.underlying t with
  |none=>exact .inr ⟨_,rfl,trivial⟩
  |some d=>cases d<;>first|exact .inl ⟨_,rfl⟩|exact .inr ⟨_,rfl,trivial⟩
 cases e with
 |typeAssertion i c a m=>
  unfold runtimePanic;simp only[Sem.run_bind,program,Sem.run,Result.andThen];rcases hel P.rt.typeAssertionError with⟨x,hx⟩|⟨h,hx,ok⟩
  .rw[hx];exact⟨_,_,rfl,trivial⟩
  .rw[hx];exact⟨_,_,rfl,ok⟩
 |panicNil=>
  unfold runtimePanic;simp only[Sem.run_bind,program,Sem.run,Result.andThen];rcases hel P.rt.panicNilError with⟨x,hx⟩|⟨h,hx,ok⟩
  .rw[hx];exact⟨_,_,rfl,trivial⟩
  .rw[hx];exact⟨_,_,rfl,ok⟩
 |_=>exact⟨_,_,rfl,trivial⟩
theorem tn {α:Type}{R:α->α->Prop}{e:RuntimeError}{s':Sem α}:ba P π N V R (runtimePanic e) s':= .dead (dD e)
theorem wG {α:Type}{R:α->α->Prop}{k:IntKind}{x y:Int}{c:BoundsCode}{s':Sem α}:ba P π N V R (boundsPanic k x y c) s':=by
 refine .dead ?_;unfold boundsPanic
 by_cases h:(k != .u64&&decide (0<=x)&&decide (x<=31))=true
 .simp only[h,if_true]
  exact uQ λn=>dD (.bounds (IntKind.i64.wrap x) y (n==1) c)
 .simp only[h,if_false,ι]
  exact dD (.bounds (IntKind.i64.wrap x) y (k != .u64) c)
theorem rN {α β:Type}{R:β->β->Prop}{e:RuntimeError}{f:α->Sem β}{s':Sem β}:ba P π N V R (runtimePanic e>>=f) s':= .dead (Dead.bind f (dD e))
theorem iM (v:Φ):ba P π N V (λa a'=>a'=aZ π a/\v= .pointer (some a)) (Instr.sureAddr v) (Instr.sureAddr (Value.ren π v)):=by
 cases v with
 |pointer a=>cases a with
  |none=>exact aj
  |some a=>simp only[aU,ε];exact al ⟨rfl,rfl⟩
 |_=>exact aj
end
def VV (V:Nat->Prop)(v:Φ):Prop:=∀r,Value.Has r v->V r
section
variable {P:ω}{π:Nat->Nat}{N V:Nat->Prop}
theorem VV.weak {V':Nat->Prop}{v:Φ}(h:VV V v)(hv:∀i,V i->V' i):VV V' v:=λr x=>hv _ (h r x)
theorem VV.ptr {a:Addr}(h:VV V (.pointer (some a))):V a.block:=h _ (.ptr rfl)
theorem VV.agg {cs:Array Φ}(h:VV V (.agg cs)){v:Φ}(hv:v∈cs):VV V v:=λr x=>h r (.agg hv x)
theorem VV.part {cs:Array Φ}(h:VV V (.agg cs)){off:Nat}{v:Φ}(hv:(∃n,v= .agg (cs.extract off (off+n)))\/cs[off]? =some v):VV V v:=by
 intro r x;rcases hv with⟨n,rfl⟩|hv
 .cases x with
  |agg hx hh=>
   obtain⟨i,hi,rfl⟩:=Array.mem_iff_getElem.1 hx;rw[Array.getElem_extract] at hh;exact h r (.agg (Array.getElem_mem _) hh)
 .exact h r (.agg (Array.mem_of_getElem? hv) x)
theorem IY {t:η}(hz:zf P t=true):ba P π N V (RV π) (Instr.alloc t true (.tuple #[])) (Instr.alloc t true (.tuple #[])):=by
 unfold Instr.alloc;refine(eu hz).bind' λz z' h=>?_
 obtain⟨rfl,n,hn⟩:=h;dsimp only;have:=wu (P:=P) (π:=π) (N:=N) (V:=V) t z;rw[eA hn] at this;exact this.bind' λa a' h=>al (by rw[show a'=_ from h];simp[RV])
theorem PF (t:η)(v:Φ):ba P π N V (RV π) (Instr.box t v) (Instr.box t (Value.ren π v)):=by
 unfold Instr.box;exact(wu t v).bind' λa a' h=>al (by rw[show a'=_ from h];simp[RV])
theorem Nj (off:Nat)(a cells:Array Φ):(a.map (Value.ren π)).zipIdx.foldl (λcs (c,j)=>cs.setIfInBounds (off+j) c) (cells.map (Value.ren π))=(a.zipIdx.foldl (λcs (c,j)=>cs.setIfInBounds (off+j) c) cells).map (Value.ren π):=by
 rw[Array.zipIdx_map,Array.foldl_map];exact Array.foldl_hom (f:=Array.map (Value.ren π)) (H:=λx y=>by simp[Array.map_setIfInBounds])
theorem sK (place:Nat->Option (Nat×Nat)):∀(ps:List (Nat×Φ)) (cells:Array Φ),
  Instr.fill place (cells.map (Value.ren π)) (ps.map λp=>(p.1,Value.ren π p.2))=(Instr.fill place cells ps).map (·.map (Value.ren π))
 |[],cells=>rfl
 |(i,v)::ps,cells=>by
  simp only[List.map_cons,Instr.fill];cases place i with
  |none=>rfl
  |some x=>
   obtain⟨off,size⟩:=x;simp only[iI,Array.size_map];split
   .rfl
   .rw[Nj,sK place ps]
theorem vd (fields:Array Field):ba P π N V Eq (fields.mapM λf=>do pure (f.offset,<-Go.sizeOf f.type)) (fields.mapM λf=>do pure (f.offset,<-Go.sizeOf f.type)):=by
 rw[Array.mapM_eq_foldlM,<-Array.foldlM_toList];simp only[map_eq_pure_bind,bind_assoc,pure_bind];generalize (#[]:Array (Nat×Nat))=acc;generalize fields.toList=l
 induction l generalizing acc with
 |nil=>exact al rfl
 |cons f l ih=>
  simp only[List.foldlM_cons,bind_assoc,pure_bind];refine(cL f.type).bind' λn n' h=>?_
  obtain⟨rfl,_⟩:=h;exact ih _
theorem IV {t:η}(hz:zf P t=true)(ps:Array (Nat×Φ)):ba P π N V (RV π) (Instr.build t ps) (Instr.build t (ps.map λp=>(p.1,Value.ren π p.2))):=by
 unfold Instr.build;refine(eu hz).bind' λz z' h=>?_
 obtain⟨rfl,n,hn⟩:=h;have hzc:z.cells.map (Value.ren π)=z.cells:=by rw[<-iI,eA hn]
 refine(aE t).bind' λx x' h=>?_
 obtain⟨rfl,_⟩:=h;cases x with
 |struct fields=>
  dsimp only;refine(vd fields).bind' λpl pl' h=>?_
  subst h;rw[Array.toList_map,<-hzc,sK,hzc];cases Instr.fill (λx=>pl[x]?) z.cells ps.toList with
  |none=>exact aj
  |some c=>exact al (by simp[RV])
 |array m elem=>
  dsimp only;refine(cL elem).bind' λn n' h=>?_
  obtain⟨rfl,_⟩:=h;rw[Array.toList_map,<-hzc,sK,hzc];cases Instr.fill _ z.cells ps.toList with
  |none=>exact aj
  |some c=>exact al (by simp[RV])
 |_=>exact aj
theorem kS (z:Array Φ)(hz:z.map (Value.ren π)=z)(k m:Nat):((Array.range k).map λi=>z[i%m]!).map (Value.ren π)=(Array.range k).map λi=>z[i%m]! :=by
 rw[Array.map_map]
 apply Array.map_congr_left
 intro i _;show Value.ren π z[i%m]! =z[i%m]!
 by_cases h:i%m<z.size
 .rw[getElem!_pos z _ h]
  have:=congrArg (·[i%m]?) hz;simp[h] at this;exact this
 .rw[getElem!_neg z _ h]
  exact dK _
def OR (P:ω)(t:η):Bool:=match P.underlying t with
 |some (.slice e)=>zf P e
 |_=>true
theorem wF {t:η}(hz:OR P t=true)(len:Nat)(ps:Array (Nat×Φ)):ba P π N V (RV π) (Instr.buildSlice t len ps) (Instr.buildSlice t len (ps.map λp=>(p.1,Value.ren π p.2))):=by
 unfold Instr.buildSlice;refine(aE t).bind' λx x' h=>?_
 obtain⟨rfl,hx⟩:=h;cases x with
 |slice elem=>
  dsimp only;have XF:zf P elem=true:=by simpa [OR,hx] using hz
  refine(cL elem).bind' λn n' h=>?_
  obtain⟨rfl,_⟩:=h
  by_cases hbig:len*n>2^24
  .simp only[hbig,if_true];exact aI trivial
  .simp only[hbig,if_false]
   have tail:∀z:Array Φ,z.map (Value.ren π)=z->ba P π N V (RV π) (match Instr.fill (λi=>some (i*n,n)) (Array.map (λx=>z[x%z.size]!) (Array.range (len*n))) ps.toList with|some cells=>(do let a <-newRow elem cells;Pure.pure (.slice (some a) len len))|_=>stuck "buildSlice: a part of the wrong size")
     (match Instr.fill (λi=>some (i*n,n)) (Array.map (λx=>z[x%z.size]!) (Array.range (len*n))) (ps.map λp=>(p.1,Value.ren π p.2)).toList with|some cells=>(do let a <-newRow elem cells;Pure.pure (.slice (some a) len len))|_=>stuck "buildSlice: a part of the wrong size"):=by
    intro z hzz;rw[Array.toList_map]
    conv=>rhs;rw[<-kS z hzz,sK]
    cases Instr.fill (λi=>some (i*n,n)) (Array.map (λx=>z[x%z.size]!) (Array.range (len*n))) ps.toList with
    |none=>exact aj
    |some c=>
     dsimp only[ε];exact(kO elem c).bind' λa a' h=>al (by rw[show a'=_ from h];simp[RV])
   by_cases h0:len*n=0
   .simp only[h0,if_true,pure_bind]
    have:=tail #[] (by simp);rw[h0] at this;exact this
   .simp only[h0,if_false,bind_assoc,pure_bind]
    refine(eu XF).bind' λz z' h=>?_
    obtain⟨rfl,k,hk⟩:=h;exact tail _ (by rw[<-iI,eA hk])
 |_=>exact aj
theorem EQ (t:η)(v:Φ):ba P π N V (RV π) (Instr.loadAt t v) (Instr.loadAt t (Value.ren π v)):=by
 unfold Instr.loadAt;refine(iM v).bind' λa a' h=>?_
 obtain⟨rfl,_⟩:=h;exact uh t a
theorem Cv (t:η)(v u:Φ):ba P π N V Eq (Instr.storeAt t v u) (Instr.storeAt t (Value.ren π v) (Value.ren π u)):=by
 unfold Instr.storeAt;refine(iM v).bind' λa a' h=>?_
 obtain⟨rfl,_⟩:=h;exact AB t a u
def Nk (P:ω)(s:η)(field:Nat):Bool:=match P.underlying s with
 |some (.struct fs)=>match fs[field]? with
  |some f=>match P.info? f.type with|some i=>i.size !=0|none=>true
  |none=>true
 |_=>true
theorem CB {s:η}{field:Nat}(hf:Nk P s field=true)(v:Φ):ba P π N V (RV π) (Instr.fieldAt s v field) (Instr.fieldAt s (Value.ren π v) field):=by
 unfold Instr.fieldAt;refine(aE s).bind' λx x' h=>?_
 obtain⟨rfl,hx⟩:=h;cases x with
 |struct fs=>
  dsimp only;cases hq:fs[field]? with
  |none=>exact aj
  |some f=>
   dsimp only;refine(iM v).bind' λa a' h=>?_
   obtain⟨rfl,_⟩:=h;unfold fieldPlace;rw[bind_assoc,bind_assoc];refine(cL f.type).bind' λn n' h=>?_
   obtain⟨rfl,hi⟩:=h;have hn:n≠0:=by
    simp only[Nk,hx,hq] at hf;cases hi2:P.info? f.type with
    |none=>simp[hi2] at hi
    |some i=>simp[hi2] at hi hf;omega
   simp only[hn,if_false];exact al (by simp[RV,iP])
 |_=>exact aj
theorem CA (t:η)(v ix:Φ):ba P π N V (RV π) (Instr.indexAt t v ix) (Instr.indexAt t (Value.ren π v) (Value.ren π ix)):=by
 unfold Instr.indexAt;refine(lE ix).bind' λk k' h=>?_
 subst h;obtain⟨k,i⟩:=k;dsimp only;refine(aE t).bind' λx x' h=>?_
 obtain⟨rfl,hx⟩:=h;have body:∀(a:Addr) (len:Nat) (elem:η) (b:Bool),ba P π N V (RV π) (if 0<=i/\i<(len:Int) then(do let n <-Go.sizeOf elem;Pure.pure (.pointer (some (a.add (i.toNat*n))))) else if b=true then unsupported (.noEntry "op/indexAddr.an index out of range at an array of length 0 or 1 (ledger 616)") else boundsPanic k i len .index)
   (if 0<=i/\i<(len:Int) then(do let n <-Go.sizeOf elem;Pure.pure (.pointer (some ((aZ π a).add (i.toNat*n))))) else if b=true then unsupported (.noEntry "op/indexAddr.an index out of range at an array of length 0 or 1 (ledger 616)") else boundsPanic k i len .index):=by
  intro a len elem b
  by_cases hi:0<=i/\i<(len:Int)
  .simp only[hi,and_self,if_true]
   refine(cL elem).bind' λn n' h=>?_
   obtain⟨rfl,_⟩:=h;exact al (by simp[RV,iP])
  .simp only[hi,if_false]
   split
   .exact aI trivial
   .exact wG
 cases x with
 |array len elem=>
  dsimp only;refine(iM v).bind' λa a' h=>?_
  obtain⟨rfl,_⟩:=h;simp only[pure_bind];refine(aE t).bind' λy y' h=>?_
  obtain⟨rfl,_⟩:=h;exact body a len elem _
 |slice elem=>
  cases v with
  |slice base len cap=>
   rw[bK];simp only[pure_bind];refine(aE t).bind' λy y' h=>?_
   obtain⟨rfl,_⟩:=h;cases base with
   |none=>exact wG
   |some a=>exact body a len elem _
  |_=>exact fV
 |_=>exact fV
theorem wq (v:Φ)(y:Nat)(c:BoundsCode):ba P π N V Eq (Instr.sliceBound v y c) (Instr.sliceBound (Value.ren π v) y c):=by
 unfold Instr.sliceBound;refine(lE v).bind' λk k' h=>?_
 subst h;dsimp only;split
 .exact al rfl
 .exact wG
theorem jW (isSlice:Bool)(len cap:Nat)(lo hi mx:Option Φ):ba P π N V Eq (Instr.sliceBounds isSlice len cap lo hi mx) (Instr.sliceBounds isSlice len cap (lo.map (Value.ren π)) (hi.map (Value.ren π)) (mx.map (Value.ren π))):=by
 unfold Instr.sliceBounds;cases lo<;>cases hi<;>cases mx<;>simp only[ε,Option.map_none,pure_bind]<;>
  repeat (first
   |exact al rfl
   |exact aj
   |exact fV
   |(refine(wq _ _ _).bind' λx x' e=>?_;subst e))
theorem IP (t:η)(v:Φ)(lo hi mx:Option Φ)(hp:∀e,P.underlying t≠some (.pointer e)):ba P π N V (RV π) (Instr.slice t v lo hi mx) (Instr.slice t (Value.ren π v) (lo.map (Value.ren π)) (hi.map (Value.ren π)) (mx.map (Value.ren π))):=by
 unfold Instr.slice;refine(aE t).bind' λx x' h=>?_
 obtain⟨rfl,hx⟩:=h;cases x with
 |string=>
  cases v with
  |string s=>
   rw[bF];dsimp only;cases mx with
   |some m=>exact fV
   |none=>
    simp only[Option.isSome_none,ι,if_false,Option.map_none];refine(jW false s.size s.size lo hi none).bind' λy y' h=>?_
    subst h;exact al (by simp[RV])
  |_=>exact aj
 |slice elem=>
  cases v with
  |slice a len cap=>
   rw[bK];dsimp only;refine(jW true len cap lo hi mx).bind' λy y' h=>?_
   subst h;refine(cL elem).bind' λn n' h=>?_
   obtain⟨rfl,_⟩:=h;refine al ?_;simp only[RV,bK]
   congr 1
   split
   .rfl
   .cases a<;>simp[iP]
  |_=>exact aj
 |pointer e=>exact absurd hx (hp e)
 |_=>exact aj
theorem Cw (t:η)(v:Φ)(lo hi mx:Option Φ)(hp:∀e,P.underlying t≠some (.pointer e)):ba P π N V (RV π) (Instr.sliceAt t v lo hi mx) (Instr.sliceAt t (Value.ren π v) (lo.map (Value.ren π)) (hi.map (Value.ren π)) (mx.map (Value.ren π))):=by
 unfold Instr.sliceAt;refine(aE t).bind' λx x' h=>?_
 obtain⟨rfl,hx⟩:=h;cases x with
 |array n elem=>
  dsimp only;refine(iM v).bind' λa a' h=>?_
  obtain⟨rfl,_⟩:=h;refine(jW false n n lo hi mx).bind' λy y' h=>?_
  subst h;refine(cL elem).bind' λk k' h=>?_
  obtain⟨rfl,_⟩:=h;refine al ?_;simp only[RV,bK,ε]
  congr 2
  split
  .rfl
  .rw[iP]
 |_=>exact IP t v lo hi mx hp
theorem IS (t:η)(v:Φ)(f:Nat):ba P π N V (RV π) (Instr.field t v f) (Instr.field t (Value.ren π v) f):=by
 unfold Instr.field;refine(aE t).bind' λx x' h=>?_
 obtain⟨rfl,hx⟩:=h;cases x with
 |struct fs=>
  dsimp only;cases fs[f]? with
  |none=>exact aj
  |some f=>
   dsimp only;refine(IX v).bind' λc c' h=>?_
   obtain⟨rfl,_⟩:=h;exact(kN f.type c f.offset).mono λ_ _ h=>h.1
 |_=>exact aj
theorem IR (t:η)(v ix:Φ):ba P π N V (RV π) (Instr.index t v ix) (Instr.index t (Value.ren π v) (Value.ren π ix)):=by
 unfold Instr.index;refine(lE ix).bind' λk k' h=>?_
 subst h;obtain⟨k,i⟩:=k;dsimp only;refine(aE t).bind' λx x' h=>?_
 obtain⟨rfl,hx⟩:=h;cases x with
 |array len elem=>
  cases v with
  |agg cs=>
   rw[dm];dsimp only;split
   .refine(cL elem).bind' λn n' h=>?_
    obtain⟨rfl,_⟩:=h;exact(kN elem cs _).mono λ_ _ h=>h.1
   .exact wG
  |_=>exact aj
 |string=>
  cases v with
  |string s=>
   rw[bF];dsimp only;split
   .exact al (by simp[RV])
   .exact wG
  |_=>exact aj
 |_=>exact aj
theorem CD (v:Φ)(ix:Nat):ba P π N V (RV π) (Instr.extract v ix) (Instr.extract (Value.ren π v) ix):=by
 unfold Instr.extract;cases v with
 |tuple vs=>
  rw[cQ];dsimp only;rw[af2];cases vs[ix]? with
  |none=>exact aj
  |some x=>exact al rfl
 |_=>exact aj
theorem Cz (t:η)(r:Option Φ):ba P π N V (RV π) (Instr.makeMap t r) (Instr.makeMap t (r.map (Value.ren π))):=by
 have tail:ba P π N V (RV π) (do let b <-newObj (.map #[] 0);Pure.pure (.map (some b))) (do let b <-newObj (.map #[] 0);Pure.pure (.map (some b))):=by
  have:=ba.new (P:=P) (π:=π) (N:=N) (V:=V) (R:=RV π) (o:= .map #[] 0) (k:=λb=>Pure.pure (.map (some b))) (k':=λb=>Pure.pure (.map (some b))) trivial (λ_ h=>h.elim) λb _=>al (by simp[RV])
  rw[show dE π (.map #[] 0)= .map #[] 0 by simp[dE]] at this;exact this
 unfold Instr.makeMap;cases r with
 |none=>exact tail
 |some v=>
  refine(aE t).bind' λx x' h=>?_
  obtain⟨rfl,_⟩:=h;cases x with
  |map k e=>
   dsimp only;refine(kC v).bind' λy y' h=>?_
   exact tail
  |_=>exact fV
theorem rP (t:η)(v:Φ):ba P π N V (RV π) (Instr.makeInterface t v) (Instr.makeInterface t (Value.ren π v)):=by
 unfold Instr.makeInterface;refine(aE t).bind' λx x' h=>?_
 obtain⟨rfl,_⟩:=h;cases x<;>first|exact aj|exact al (by simp[RV])
end
end
end
end Go.Proofs.YtchcmhodnkgojaaGreat
