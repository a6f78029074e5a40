/- On the way to the last text; put together and shortened by program. -/
import Derived.Test.YtchcmhodnkgojaaGreatPart10
set_option linter.all false
set_option maxRecDepth 100000
set_option maxHeartbeats 8000000
namespace Go.Proofs.YtchcmhodnkgojaaGreat
noncomputable section
section
open Go.RowKit Go.Lib
theorem Cl {s:Nat}{p:List η}(hs:s<=2)(hp:p∈P7):dU s p=true:=by
 obtain⟨k,hk,rfl⟩:=BE.1 hp;exact FJ k hk s hs
theorem SM {p:List η}(hp:p∈P7):cz p=true:=by
 have h:=Cl (s:=0) (by omega) hp;unfold dU at h;simpa using h
def lD (H:bZ):List dj->bZ
 |[]=>H
 |w::r=>lD (fK H w.set w.path w.becomes) r
def okW (H:bZ):List dj->Prop
 |[]=>True
 |w::r=>(w.set<=2/\w.path∈P7/\(∀c,w.becomes=some c->c.length<=96)/\(w.becomes=none->H w.set w.path≠none))/\okW (fK H w.set w.path w.becomes) r
theorem yS (H:bZ)(a b:List dj):lD H (a++b)=lD (lD H a) b:=by
 induction a generalizing H with
 |nil=>rfl
 |cons w r ih=>exact ih _
theorem Ht (H:bZ)(a b:List dj):okW H (a++b)↔okW H a/\okW (lD H a) b:=by
 induction a generalizing H with
 |nil=>simp[okW,lD]
 |cons w r ih=>
  constructor
  .rintro⟨x,y⟩
   exact⟨⟨x,((ih _).1 y).1⟩,((ih _).1 y).2⟩
  .rintro⟨⟨x,y⟩,z⟩
   exact⟨x,(ih _).2 ⟨y,z⟩⟩
theorem Lh (x:DS):rM (x,Value.int .i64 0).2=0:=rfl
section
variable {n:Nat}
theorem Ij:∀(ws:List dj) {L:List η} {H:bZ},Has L n H->qM H->22<aJ n->okW H ws->
  ∃L' k,Has L' n (lD H ws)/\qM (lD H ws)/\0<=k/\k<=5*(ws.length:Int)/\∀a,(DS.calm L a).hY n ws=(DS.calm L' (a+k),.int .i64 0)
 |[],L,H,h,h8,_,_=>⟨L,0,h,h8,by omega,by simp,λa=>by simp[DS.hY]⟩
 |w::r,L,H,h,h8,hn,ho=>by
  obtain⟨⟨hs,hp,hc,hx⟩,ho⟩:=ho;have h8':=h8.set (.inl ⟨hs,hp⟩) w.becomes;obtain⟨L1,k1,hL1,hk0,hk1,hw1⟩:∃L1 k1,Has L1 n (fK H w.set w.path w.becomes)/\(0:Int)<=k1/\k1<=5/\∀a,(DS.calm L a).uq n w=(DS.calm L1 (a+k1),.int .i64 0):=by
   unfold DS.uq;cases hb:w.becomes with
   |none=>
    obtain⟨L1,q1,q2⟩:=ri h w.set w.path (hx hb);exact⟨L1,2,q1,by omega,by omega,q2⟩
   |some c=>
    obtain⟨L1,q1,q2⟩:=wo h h8 hn w.set w.path c (Cl hs hp) (hc c hb);exact⟨L1,5,q1,by omega,by omega,q2⟩
  obtain⟨L2,k2,hL2,h82,hk2,hk3,hw2⟩:=Ij r hL1 h8' hn ho;refine⟨L2,k1+k2,hL2,h82,by omega,by rw[List.length_cons];omega,λa=>?_⟩;show(if rM ((DS.calm L a).uq n w).2=0 then((DS.calm L a).uq n w).1.hY n r else(DS.calm L a).uq n w)=_;rw[hw1 a,ξ (Lh _),hw2,show a+k1+k2=a+(k1+k2) by omega]
def ik (H:bZ)(p:List η×Nat):bZ:=λs q=>if q=p.1/\s<=2 then H p.2 p.1 else H s q
theorem CP {x:DS}{K:bZ}(p:List η×Nat)(hp:p.1∈P7)(h2:p.2<=1)(hK:∀s:Nat,s<=2->x.content n s (aB p.1)=K s p.1):okW K (fO x n p)/\lD K (fO x n p)=ik K p:=by
 have c1:=hK (1-p.2) (by omega);have c2:=hK 2 (by omega);have cs:=hK p.2 (by omega);have hl:∀c,K p.2 p.1=some c->c.length<=96:=λc hc=>th (cs.trans hc)
 have one:∀(s:Nat) (M:bZ),s<=2->s≠p.2->M s p.1=x.content n s (aB p.1)->M p.2 p.1=K p.2 p.1->okW M (dA x n p s)/\lD M (dA x n p s)=fK M s p.1 (K p.2 p.1):=by
  intro s M hs hne hM hMs;have hcs:=hK s hs;unfold dA;rw[cs];split
  .rename_i e
   refine⟨trivial,?_⟩;rw[<-e,<-hM,Jk];rfl
  .rename_i e
   refine⟨⟨⟨hs,hp,hl,λhn=>?_⟩,trivial⟩,rfl⟩;rw[hM];intro q;exact e (q.trans hn.symm)
 obtain⟨o1,a1⟩:=one (1-p.2) K (by omega) (by omega) c1.symm rfl;obtain⟨o2,a2⟩:=one 2 (fK K (1-p.2) p.1 (K p.2 p.1)) (by omega) (by omega) (by
  unfold fK;rw[ζ (by omega),c2]) (by
  unfold fK;rw[ζ (by omega)])
 unfold fO;refine⟨(Ht _ _ _).2 ⟨o1,by rw[a1];exact o2⟩,?_⟩;rw[yS,a1,a2]
 funext s q
 unfold ik fK
 by_cases hq:q=p.1
 .subst hq
  by_cases h0:s=2
  .subst h0;simp
  .by_cases h1:s=1-p.2
   .subst h1;simp[h0]
   .by_cases hs:s=p.2
    .subst hs;simp[h0,h1]
    .simp[h0,h1];intro;omega
 .simp[hq]
theorem rq (ss:List (List η×Nat))(K:bZ)(s:Nat)(q:List η)(h:∀p∈ss,p.1≠q):ss.foldl ik K s q=K s q:=by
 induction ss generalizing K with
 |nil=>rfl
 |cons p r ih=>
  rw[List.foldl_cons,ih _ λp' hp'=>h p' (by simp[hp'])];unfold ik;rw[ζ];exactλe=>h p (by simp) e.1.symm
theorem ls (ss:List (List η×Nat))(K:bZ)(s:Nat)(q:List η)(h:2<s:=by omega):ss.foldl ik K s q=K s q:=by
 induction ss generalizing K with
 |nil=>rfl
 |cons p r ih=>
  rw[List.foldl_cons,ih];unfold ik;rw[ζ (by omega)]
theorem Eh (ss:List (List η×Nat))(K K':bZ)(h:∀s q,s<=2->K s q=K' s q)(h1:∀p∈ss,p.2<=1)(s:Nat)(q:List η)(hs:s<=2):ss.foldl ik K s q=ss.foldl ik K' s q:=by
 induction ss generalizing K K' with
 |nil=>exact h s q hs
 |cons p r ih=>
  rw[List.foldl_cons,List.foldl_cons];refine ih _ _ (λs q hs=>?_) λp' hp'=>h1 p' (by simp[hp'])
  have:=h1 p (by simp);unfold ik;rw[h p.2 p.1 (by omega),h s q hs]
theorem NF (ss:List (List η×Nat))(K:bZ)(hs:ss.Pairwise λp q=>p.1≠q.1)(h1:∀p∈ss,p.2<=1){p:List η×Nat}(hp:p∈ss)(s:Nat)(h2:s<=2):ss.foldl ik K s p.1=K p.2 p.1:=by
 induction ss generalizing K with
 |nil=>simp at hp
 |cons a r ih=>
  rw[List.pairwise_cons] at hs;rw[List.foldl_cons];rcases ac5.1 hp with rfl|hp'
  .rw[rq r _ _ _ λq hq e=>hs.1 q hq e.symm]
   unfold ik;rw[ξ ⟨rfl,h2⟩]
  .rw[ih _ hs.2 (λq hq=>h1 q (by simp[hq])) hp']
   unfold ik;rw[ζ];exactλe=>hs.1 p hp' e.1.symm
theorem G1 {x:DS}(ss:List (List η×Nat))(K:bZ)(hs:ss.Pairwise λp q=>p.1≠q.1)(h1:∀p∈ss,p.1∈P7/\p.2<=1)(hK:∀p∈ss,∀s:Nat,s<=2->x.content n s (aB p.1)=K s p.1):
  okW K (bA x n ss)/\lD K (bA x n ss)=ss.foldl ik K:=by
 induction ss generalizing K with
 |nil=>exact⟨trivial,rfl⟩
 |cons p r ih=>
  rw[List.pairwise_cons] at hs;obtain⟨o1,a1⟩:=CP (n:=n) (x:=x) (K:=K) p (h1 p (by simp)).1 (h1 p (by simp)).2 (hK p (by simp));have e:bA x n (p::r)=fO x n p++bA x n r:=rfl;obtain⟨o2,a2⟩:=ih (ik K p) hs.2 (λq hq=>h1 q (by simp[hq])) λq hq s hs'=>by
   rw[hK q (by simp[hq]) s hs'];unfold ik;rw[ζ];exactλe=>hs.1 q hq e.1.symm
  rw[e,Ht,yS,a1,a2];exact⟨⟨o1,o2⟩,rfl⟩
theorem nK:∀(ws:List dj) (f:Int),(ws.length:Int)<f->lx ws f=true
 |[],_,_=>rfl
 |w::r,f,h=>by
  rw[List.length_cons] at h;unfold lx;split
  .exact nK r _ (by omega)
  .rw[ζ (by omega)]
   split
   .exact nK r _ (by omega)
   .exact nK r _ (by omega)
structure jP (ss:List (List η×Nat)):Prop where
 strict:ss.Pairwise λp q=>p.1<q.1
 names:∀p∈ss,p.1∈P7/\p.2<=1
theorem jP.ne {ss:List (List η×Nat)}(h:jP ss):ss.Pairwise λp q=>p.1≠q.1:=h.strict.imp fun {a b} hab e=>by rw[e] at hab;exact absurd hab (List.lt_irrefl _)
theorem jP.ok {ss:List (List η×Nat)}(h:jP ss):pU ss:=λp hp=>⟨SM (h.names p hp).1,(h.names p hp).2⟩
theorem jP.len {ss:List (List η×Nat)}(h:jP ss):ss.length<=7:=by
 have:=ng (ss.map (·.1)) P7 (List.Pairwise.map _ (λ_ _ h=>h) h.ne) λa ha=>by
  obtain⟨p,hp,rfl⟩:=ae2.1 ha;exact(h.names p hp).1
 rw[af9] at this;exact ae6 this (ah2 (by rfl))
variable {L:List η}{H:bZ}
theorem yP (h:Has L n H)(h7:ez H)(hn:37<aJ n){ss:List (List η×Nat)}(hs:jP ss):
  ∃L',Has L' n (fK H 3 [] (some (dh ss)))/\∀a,(DS.calm L a).begin n ss=(DS.calm L' (a+5),.int .i64 0):=by
 have hl:=hs.len;have hej:(dh ss).length<=63:=by have:=tf ss λp hpm=>sC (hs.ok p hpm).1;omega
 obtain⟨L',q1,q2⟩:=wo h h7.eight (by omega) 3 [] (dh ss) (by rfl) (by omega);refine⟨L',q1,λa=>?_⟩;have hfit:qH (DS.calm L a) n ss ((aJ n:Int)-(taken (DS.calm L a) n).length-1)=true:=by
  have ht:(taken (DS.calm L a) n).length<=22:=by
   obtain⟨m,hr,hm⟩:=h;have h1:=kM (x:=DS.calm L a) hr rfl;have h2:=Tf hr (h7.eight.slots (L:=L) (n:=n) hm);rw[<-h1] at h2;unfold aM at h2
   rwa [af9] at h2
  have hw:=iR (DS.calm L a) n ss;unfold qH;rw[decide_eq_true (by omega),Bool.true_and];exact nK _ _ (by omega)
 unfold DS.begin;rw[hfit,ζ (by simp)];exact q2 a
theorem Se (h:Has L n H)(h7:ez H)(hn:37<aJ n){ss:List (List η×Nat)}(hs:jP ss)(hne:ss≠[]):
  ∃L' k,Has L' n (ss.foldl ik H)/\ez (ss.foldl ik H)/\(0:Int)<=k/\k<=80/\(∀a,(DS.calm L a).yx n ss=(DS.calm L' (a+k),.int .i64 0))/\
   ∀a,((DS.calm L a).begin n ss).1.content n 3 ⟨#[]⟩=some (dh ss):=by
 have hl:=hs.len;obtain⟨L1,q1,q2⟩:=yP h h7 hn hs;have h8:qM (fK H 3 [] (some (dh ss))):=h7.eight.set (.inr ⟨rfl,rfl⟩) _;have hset:∀s p,s<=2->fK H 3 [] (some (dh ss)) s p=H s p:=λs p hs=>by unfold fK;rw[ζ (by omega)]
 obtain⟨o1,a1⟩:=G1 (n:=n) (x:=DS.calm L1 0) ss (fK H 3 [] (some (dh ss))) hs.ne hs.names λp hp s hs'=>Has.content (x:=DS.calm L1 0) q1 rfl s p.1
 have hcalm:∀a,bA (DS.calm L1 a) n ss=bA (DS.calm L1 0) n ss:=λa=>by
  have hc:∀(s:Nat) p,(DS.calm L1 a).content n s (aB p)=(DS.calm L1 0).content n s (aB p):=λs p=>(Has.content (x:=DS.calm L1 a) q1 rfl s p).trans (Has.content (x:=DS.calm L1 0) q1 rfl s p).symm
  have hw:fO (DS.calm L1 a) n=fO (DS.calm L1 0) n:=by
   funext p
   unfold fO dA;simp only[hc]
  unfold bA;rw[hw]
 obtain⟨L2,k2,r1,r2,r3,r4,r5⟩:=Ij _ q1 h8 (by omega) o1;rw[a1] at r1 r2;have hj:ss.foldl ik (fK H 3 [] (some (dh ss))) 3 []=some (dh ss):=by
  rw[ls _ _ _ _];unfold fK;rw[ξ ⟨rfl,rfl⟩]
 obtain⟨L3,t1,t2⟩:=ri r1 3 [] (by rw[hj];simp);have hfin:fK (ss.foldl ik (fK H 3 [] (some (dh ss)))) 3 [] none=ss.foldl ik H:=by
  funext s p
  unfold fK
  by_cases e:s=3/\p=[]
  .rw[ξ e,ls _ _ _ _]
   cases hv:H s p with
   |none=>rfl
   |some v=>have:=(h7 s p (by rw[hv];simp)).1;omega
  .rw[ζ e]
   by_cases h2:s<=2
   .exact Eh ss _ _ (λs q hs=>by rw[ζ (by omega)]) (λp hp=>(hs.names p hp).2) s p h2
   .rw[ls _ _ _ _,ls _ _ _ _,ζ e]
 rw[hfin] at t1;have hlw:=iR (DS.calm L1 0) n ss;refine⟨L3,5+k2+2,t1,?_,by omega,by omega,λa=>?_,λa=>?_⟩
 .intro s p hsp
  rw[<-hfin] at hsp;unfold fK at hsp;split at hsp
  .exact absurd rfl hsp
  .rename_i e
   rcases r2 s p hsp with q|q
   .exact q
   .exact absurd q e
 .unfold DS.yx
  rw[ζ hne,q2 a,ξ (Lh _)];show DS.tb (DS.calm L1 (a+5)) n ss=_;unfold DS.tb;rw[hcalm,r5,ξ (Lh _)];show DS.remove (DS.calm L2 (a+5+k2)) n 3 ⟨#[]⟩=_;have:=t2 (a+5+k2);rw[show a+5+k2+2=a+(5+k2+2) by omega] at this;exact this
 .rw[q2 a]
  have:=Has.content (x:=DS.calm L1 (a+5)) q1 rfl 3 [];rw[show fK H 3 [] (some (dh ss)) 3 []=some (dh ss) by unfold fK;rw[ξ ⟨rfl,rfl⟩]] at this;exact this
end
theorem uz {a b:List η}(h:aB a=aB b):a=b:=by simpa [aB] using h
def Io (set:Int):(Ξ->Option Ξ)->cQ->Ξ->Option Ξ:=λg f=>if(f.set:Int)=set then λs=>if s=aB f.path then some (aB f.content) else g s else g
theorem rj (set:Int)(p:List η):∀(fs:List cQ) (g:Ξ->Option Ξ),(∀f∈fs,(f.set:Int)=set->f.path≠p)->fs.foldl (Io set) g (aB p)=g (aB p)
 |[],_,_=>rfl
 |f::r,g,h=>by
  rw[List.foldl_cons,rj set p r _ λf' hf'=>h f' (by simp[hf'])];unfold Io;split
  .rename_i e
   exact ζ λq=>h f (by simp) e (uz q).symm
  .rfl
theorem Ef (set:Nat):∀(fs:List cQ) (g:Ξ->Option Ξ),(fs.map nameOf).Nodup->∀f∈fs,f.set=set->fs.foldl (Io set) g (aB f.path)=some (aB f.content)
 |[],_,_,f,hf,_=>by simp at hf
 |a::r,g,hn,f,hf,hs=>by
  rw[List.map_cons,List.nodup_cons] at hn;rw[List.foldl_cons];rcases ac5.1 hf with rfl|hf
  .rw[rj set f.path r _ λf' hf' e1 e2=>hn.1 (ae2.2 ⟨f',hf',by unfold nameOf;rw[e2,hs,show f'.set=set by omega]⟩)]
   unfold Io;rw[ξ (by omega),ξ rfl]
  .exact Ef set r _ hn.2 f hf hs
section
variable {L:List η}{n:Nat}{H:bZ}{x:DS}
theorem Iq (h:Has x.aI n H)(hw:x.waiting=[])(s:Nat)(l:List η):qG s (aM x n) (aB l)=(H s l).map aB:=by
 obtain⟨m,hr,hm⟩:=h;rw[kM hr hw];have hh:=hm s l;cases hv:H s l with
 |none=>
  rw[hv] at hh;refine rj _ l _ _ λf hf e1 e2=>?_
  obtain⟨i,hi⟩:=hr.mem.1 hf;exact hh i f hi (by unfold nameOf;rw[e2,show f.set=s by omega])
 |some c=>
  rw[hv] at hh;obtain⟨i,hi⟩:=hh;exact Ef s _ _ hr.nodup ⟨s,l,c⟩ (hr.mem.2 ⟨i,hi⟩) rfl
def Gs (H:bZ)(s:Nat)(l:List η):Option (Bool×Ξ):=if H s l=H 2 l then none else some (match H s l with|some c=>(true,aB c)|none=>(false,⟨#[]⟩))
theorem DP {a b:Option (List η)}:a.map aB=b.map aB↔a=b:=by
 constructor
 .intro h
  cases a<;>cases b<;>simp at h
  .rfl
  .rw[uz h]
 .rintro rfl;rfl
theorem wv (h:Has x.aI n H)(hw:x.waiting=[])(s:Nat)(l:List η):ii x n s (aB l)=Gs H s l:=by
 unfold ii aG.jZ Gs;have h2:=Iq h hw 2 l;rw[show((2:Nat):Int)=2 from rfl] at h2;rw[Iq h hw s l,h2]
 by_cases e:H s l=H 2 l
 .rw[ξ e,ξ (DP.2 e)]
 .rw[ζ e,ζ λq=>e (DP.1 q)]
  cases H s l<;>rfl
def zk (H:bZ)(l:List η):Option Nat:=if H 0 l=H 2 l then some 1 else if H 1 l=H 2 l then some 0 else if H 0 l=H 1 l then some 0 else none
theorem PR (H:bZ)(l:List η):kV (Gs H 0 l) (Gs H 1 l)=zk H l:=by
 unfold Gs zk
 by_cases e0:H 0 l=H 2 l
 .rw[ξ e0,ξ e0]
  cases (if H 1 l=H 2 l then none else some (match H 1 l with|some c=>(true,aB c)|none=>(false,⟨#[]⟩):Bool×Ξ))<;>rfl
 .rw[ζ e0,ζ e0]
  by_cases e1:H 1 l=H 2 l
  .rw[ξ e1,ξ e1];rfl
  .rw[ζ e1,ζ e1]
   by_cases e:H 0 l=H 1 l
   .rw[ξ e,<-e]
    exact ξ rfl
   .rw[ζ e]
    refine ζ λq=>e ?_
    cases h0:H 0 l<;>cases h1:H 1 l<;>rw[h0,h1] at q<;>simp at q;rw[uz q]
theorem PS {l:List η}{q:Nat}(h:zk H l=some q):q<=1:=by
 unfold zk at h;split at h
 .cases h;omega
 .split at h
  .cases h;omega
  .split at h
   .cases h;omega
   .cases h
theorem I6 {l:List η}(h0:H 0 l=H 2 l)(_:H 1 l=H 2 l):zk H l=some 1:=by unfold zk;rw[ξ h0]
def kh (H:bZ):bZ:=λs p=>if s<=2 then(match zk H p with|some q=>H q p|none=>H s p) else H s p
def ib (H:bZ)(ps:List (List η)):List (List η×Nat):=ps.filterMap λl=>(zk H l).map λs=>(l,s)
def yE (H:bZ)(ps:List (List η)):List (List η):=ps.filter λl=>(zk H l).isNone
def jH (H:bZ)(ps:List (List η)):Prop:=ps.Pairwise (·<·)/\∀l,l∈ps↔(H 0 l≠H 2 l\/H 1 l≠H 2 l)
theorem tY (h:Has x.aI n H)(hw:x.waiting=[]){ps:List (List η)}(hP:tE x n ps):jH H ps:=by
 obtain⟨h1,h2,h3⟩:=hP;refine⟨z7 h1 h2,λl=>?_⟩;rw[h3,Ov];have f0:=wv h hw 0 l;have f1:=wv h hw 1 l;rw[show((0:Nat):Int)=0 from rfl] at f0;rw[show((1:Nat):Int)=1 from rfl] at f1;rw[f0,f1];have one:∀s,Gs H s l≠none↔H s l≠H 2 l:=λs=>by
  unfold Gs
  by_cases e:H s l=H 2 l
  .rw[ξ e];simp[e]
  .rw[ζ e];simp[e]
 rw[one,one]
theorem tL (h:Has x.aI n H)(hw:x.waiting=[])(ps:List (List η)):eL x n ps=ib H ps/\ma x n ps=yE H ps:=by
 have f0:=λl=>wv h hw 0 l
 have f1:=λl=>wv h hw 1 l
 simp only[show((0:Nat):Int)=0 from rfl] at f0;simp only[show((1:Nat):Int)=1 from rfl] at f1;unfold eL ma iF jF ib yE;simp only[f0,f1,PR];exact⟨trivial,trivial⟩
theorem wU (h7:ez H){ps:List (List η)}(hP:jH H ps):jP (ib H ps):=by
 refine⟨?_,λp hp=>?_⟩
 .unfold ib
  refine List.Pairwise.filterMap _ (λa b hab p hp q hq=>?_) hP.1;obtain⟨_,_,rfl⟩:=φ.1 hp;obtain⟨_,_,rfl⟩:=φ.1 hq;exact hab
 .unfold ib at hp
  obtain⟨l,hl,e⟩:=List.mem_filterMap.1 hp;obtain⟨q,hq,rfl⟩:=φ.1 e;refine⟨?_,PS hq⟩;show l∈P7;have h1:=(hP.2 l).1 hl
  by_cases e2:H 2 l=none
  .rcases h1 with h1|h1
   .exact(h7 0 l λq=>h1 (q.trans e2.symm)).2
   .exact(h7 1 l λq=>h1 (q.trans e2.symm)).2
  .exact(h7 2 l e2).2
theorem wO (h7:ez H){ps:List (List η)}(hP:jH H ps):(ib H ps).foldl ik H=kh H:=by
 have hok:=wU h7 hP
 funext s p
 unfold kh
 by_cases h2:s<=2
 .rw[ξ h2]
  by_cases hp:p∈ps
  .cases hs:zk H p with
   |some q=>
    have hm:(p,q)∈ib H ps:=List.mem_filterMap.2 ⟨p,hp,by rw[hs];rfl⟩;exact NF _ H hok.ne (λa ha=>(hok.names a ha).2) hm s h2
   |none=>
    refine rq _ H s p λa ha e=>?_
    obtain⟨l,hl,e1⟩:=List.mem_filterMap.1 ha;obtain⟨q,hq,rfl⟩:=φ.1 e1;have e:l=p:=e;rw[e,hs] at hq;cases hq
  .have hnp:=λq=>hp ((hP.2 p).2 q)
   have e0:H 0 p=H 2 p:=ad2 λq=>hnp (.inl q)
   have e1:H 1 p=H 2 p:=ad2 λq=>hnp (.inr q)
   rw[I6 e0 e1];rw[rq _ H s p λa ha e=>?_]
   .show H s p=H 1 p
    rcases(by omega:s=0\/s=1\/s=2) with rfl|rfl|rfl
    .rw[e0,e1]
    .rfl
    .rw[e1]
   .obtain⟨l,hl,e1⟩:=List.mem_filterMap.1 ha
    obtain⟨q,hq,rfl⟩:=φ.1 e1;exact hp (e▸hl)
 .rw[ζ h2]
  exact ls _ _ _ _
theorem zT (h:Has L n H)(h7:ez H)(hn:37<aJ n){ss:List (List η×Nat)}(hs:jP ss)(a:Int):((DS.calm L a).begin n ss).1.content n 3 ⟨#[]⟩=some (dh ss):=by
 obtain⟨L1,q1,q2⟩:=yP h h7 hn hs;rw[q2 a];have:=Has.content (x:=DS.calm L1 (a+5)) q1 rfl 3 [];rw[show fK H 3 [] (some (dh ss)) 3 []=some (dh ss) by unfold fK;rw[ξ ⟨rfl,rfl⟩]] at this;exact this
theorem PG (h:Has L n H)(h7:ez H)(hn:37<aJ n)(a:Int)(h0:0<=a)(h1:a<=900000000):Cj (DS.calm L a) n:=by
 refine⟨rfl,λ_=>ly L a 105 h0,λps hP=>?_⟩;have TK:=tY (x:=DS.calm L a) h rfl hP;rw[(tL (x:=DS.calm L a) h rfl ps).1];have hok:=wU h7 TK;exact⟨hok.len,hok.ok,λ_=>zT h h7 hn hok a⟩
theorem DM (h:Has L n H)(h7:ez H)(a:Int):zx (DS.calm L a) n=0:=by
 obtain⟨m,hr,hm⟩:=h;have:=lR (x:=DS.calm L a) hr rfl (h7.slots hm);unfold zx;rw[this];rfl
theorem z6 (h:Has L n H)(h7:ez H)(hn:37<aJ n){ps:List (List η)}(hP:jH H ps):
  ∃L' k,Has L' n (kh H)/\ez (kh H)/\(0:Int)<=k/\k<=80/\(∀a,(DS.calm L a).yx n (ib H ps)=(DS.calm L' (a+k),.int .i64 0))/\(ib H ps=[]->L'=L/\k=0):=by
 by_cases he:ib H ps=[]
 .have hf:=wO h7 hP
  rw[he] at hf;have hf:H=kh H:=hf;refine⟨L,0,hf▸h,hf▸h7,by omega,by omega,λa=>?_,λ_=>⟨rfl,rfl⟩⟩;unfold DS.yx;rw[ξ he,Int.add_zero]
 .obtain⟨L',k,q1,q2,q3,q4,q5,_⟩:=Se h h7 hn (wU h7 hP) he
  rw[wO h7 hP] at q1 q2;exact⟨L',k,q1,q2,q3,q4,q5,λe=>absurd e he⟩
end
theorem wQ:∀{a b:List (List η)},a.Pairwise (·<·)->b.Pairwise (·<·)->(∀x,x∈a↔x∈b)->a=b
 |[],[],_,_,_=>rfl
 |[],y::_,_,_,h=>absurd ((h y).2 (by simp)) (by simp)
 |x::_,[],_,_,h=>absurd ((h x).1 (by simp)) (by simp)
 |x::a,y::b,ha,hb,h=>by
  rw[List.pairwise_cons] at ha hb;have hxy:x=y:=by
   rcases ac5.1 ((h x).1 (by simp)) with e|hx
   .exact e
   .rcases ac5.1 ((h y).2 (by simp)) with e|hy
    .exact e.symm
    .exact absurd (List.lt_trans (ha.1 y hy) (hb.1 x hx)) (List.lt_irrefl _)
  subst hxy;rw[wQ ha.2 hb.2 λz=>?_];constructor
  .intro hz
   rcases ac5.1 ((h z).1 (by simp[hz])) with rfl|q
   .exact absurd (ha.1 z hz) (List.lt_irrefl _)
   .exact q
  .intro hz
   rcases ac5.1 ((h z).2 (by simp[hz])) with rfl|q
   .exact absurd (hb.1 z hz) (List.lt_irrefl _)
   .exact q
section
variable {H:bZ}{l:List η}{ps ps':List (List η)}
theorem jH.uniq (h:jH H ps)(h':jH H ps'):ps=ps':=wQ h.1 h'.1 λx=>(h.2 x).trans (h'.2 x).symm
end
end
end
end Go.Proofs.YtchcmhodnkgojaaGreat
