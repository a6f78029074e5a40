/- On the way to the last text; put together and shortened by program. -/
import Derived.Test.YtchcmhodnkgojaaGreatPart10
set_option linter.all false
set_option maxRecDepth 100000
set_option maxHeartbeats 8000000
open Go.Proofs.Tryz
namespace Go.Proofs.YtchcmhodnkgojaaGreat
open List (range)
noncomputable section
section
open Go.RowKit Go.Lib
abbrev aZ:=Nat->List Γ->Option (List Γ)
def eR (H:aZ)(s:Nat)(p:ϓ)(r:Option (List Γ)):aZ:=λs' a=>if s'=s/\a=p then r else H s' a
def Has (L:ϓ)(n:Nat)(H:aZ):Prop:=∃m,lV L n m/\∀s p,holds m s p (H s p)
def kh (H:aZ):Prop:=∀s p,H s p≠none->(s<=2/\p∈P7)\/(s=3/\p=[])
def bF (H:aZ):Prop:=∀s p,H s p≠none->s<=2/\p∈P7
def tz {m:ew}{s:Nat}{p:ϓ}{r:Option (List Γ)}(h:holds m s p r){i:Nat}{f:dl}(a:m i=some f)(e:nameOf f=(s,p)):r≠none:=λhr=>by
 subst hr;exact h i f a e
def kh.slots {L:ϓ}{n:Nat}{H:aZ}{m:ew}(h:kh H)(hm:∀s p,holds m s p (H s p))(i:Nat)(f:dl)(a:m i=some f):(f.set<=2/\f.path∈P7)\/(f.set=3/\f.path=[]):=
 h f.set f.path (tz (hm f.set f.path) a rfl)
def bF.slots {H:aZ}{m:ew}(h:bF H)(hm:∀s p,holds m s p (H s p)):Seven m:=λi f a=>h f.set f.path (tz (hm f.set f.path) a rfl)
def J0 {L:ϓ}{n:Nat}{m:ew}(h:lV L n m)(d:∀i f,m i=some f->(f.set<=2/\f.path∈P7)\/(f.set=3/\f.path=[])):(iS n m).length<=22:=by
 have b:=kN ((iS n m).map nameOf) (((range 3).flatMap λs=>P7.map λp=>(s,p))++[(3,[])]) h.nodup λa ha=>by
  have⟨f,g,e⟩:=ad1.1 ha;have⟨i,c⟩:=h.mem.1 g;rw[<-e,ϐ1];rcases d i f c with⟨q1,q2⟩|⟨q1,q2⟩
  .left
   rw[List.mem_flatMap];exact⟨f.set,ae2.2 ϖ,ad1.2 ⟨f.path,q2,rfl⟩⟩
  .right
   simp[nameOf,q1,q2]
 rw[ah1] at b;have:(((range 3).flatMap λs=>P7.map λp=>(s,p))++[(3,([]:List Γ))]).length=22:=by rfl
 omega
def O3 {L:ϓ}{n:Nat}{m:ew}(h:lV L n m)(g:∀i f,m i=some f->(f.set<=2/\f.path∈P7)\/(f.set=3/\f.path=[]))(j:22<aK n):∃i,i<aK n/\m i=none:=by
 by_cases c:∃i,i<aK n/\m i=none
 .exact c
 .exfalso
  have h1:(iS n m).length=aK n:=by
   have h2:∀l:List Nat,(∀i∈l,i<aK n)->(l.filterMap m).length=l.length:=by
    intro l
    induction l with
    |nil=>intro _;rfl
    |cons a l e=>
     intro d;have ha:=d a ϒ2;cases hm:m a with
     |none=>exact absurd ⟨a,ha,hm⟩ c
     |some f=>rw[List.filterMap_cons_some hm,ϳ,ϳ,e λi b=>d i (ak9 _ b)]
   unfold iS;rw[h2 _ λi b=>ae2.1 b,List.length_range]
  have:=J0 h g;omega
section
variable {L:List Γ}{n:Nat}{H:aZ}{x:DS}
def Has.content (h:Has x.aB n H)(a:x.waiting=[])(s:Nat)(p:ϓ):x.content n s (aD p)=H s p:=by
 have⟨m,hr,hm⟩:=h;exact qw hr a (hm s p)
def uP (h:Has L n H)(h8:kh H)(hn:22<aK n)(s:Nat)(p c:ϓ)(Y:eD s p=true)(T:c.length<=96):
  ∃L',Has L' n (eR H s p (some c))/\∀a,(DS.calm L a).put n s (aD p) (aD c)=(DS.calm L' (a+5),.int .i64 0):=by
 have⟨m,hr,hm⟩:=h;have ab:=oq n;have⟨i,S,P,E⟩:=Fh (x:=DS.fresh L) hr rfl (O3 hr (h8.slots (L:=L) (n:=n) hm) hn);have aa:=Cl n i S;have⟨o,ho,Q,M,I,t⟩:=owner hr s p;have W:o≠i:=by
  intro e;have⟨g,hg,_⟩:=t ϖ;rw[e] at hg;simp only[ϒ4] at hg;rw[E] at hg;cases hg
 let f:dl:=⟨s,p,c⟩
 have u:eD f.set f.path=true/\f.content.length<=96:=⟨Y,T⟩
 have R:f.path.length<=8:=(qJ u.1).1;generalize l:cI f.set f.path f.content=r;have d:r.length=128:=by rw[<-l];exact Kj _ _ _ R T
 have h0:=uQ r d 0;have h1:=uQ r d 1;generalize O:bg L ((1+2*i:Nat),half r 0)=A;have rA:lV A n m:=by rw[<-O];exact hr.loose ϖ ϖ h0 (mD E (.inl rfl))
 generalize G:bg A ((2+2*i:Nat),half r 1)=B;have rB:lV B n m:=by rw[<-G];exact rA.loose ϖ ϖ h1 (mD E (.inr rfl))
 have U:mM L i r=B:=by unfold mM;rw[O,G]
 have k:seenIn (mM L i r) [] 0=cG n m:=by rw[U,<-rB.root];rfl
 have z:aV (cG n m) i o=cG n (after m i f o):=uF m i ϖ f o ⟨Q,M⟩;have Z:∀j,gn A j=if j=1+2*i then half r 0 else gn L j:=λj=>by rw[<-O];exact gT L n hr.len _ ϖ _ h0 j
 have V:∀j,gn B j=if j=2+2*i then half r 1 else gn A j:=λj=>by rw[<-G];exact gT A n rA.len _ ϖ _ h1 j
 have J:gn B (1+2*i)++gn B (2+2*i)=cI f.set f.path f.content:=by
  rw[V,V,ζ ϖ,φ rfl,Z,φ rfl,halves r d,l]
 have X:=rB.put S J u λj g hg e=>I j g hg e
 refine⟨_,⟨_,X,λs' K=>?_⟩,λa=>?_⟩
 .unfold eR
  by_cases e:s'=s/\K=p
  .rw[φ e]
   obtain⟨rfl,rfl⟩:=e;refine⟨i,?_⟩;unfold after;rw[tH ϖ];unfold upd;rw[φ rfl]
  .rw[ζ e]
   have C:=hm s' K;cases hv:H s' K with
   |none=>
    rw[hv] at C;intro j g hg e2;rcases jI hg with⟨rfl,rfl⟩|⟨_,q,_⟩
    .unfold nameOf at e2
     simp only[ai1] at e2;exact e ⟨e2.1.symm,e2.2.symm⟩
    .exact C j g q e2
   |some v=>
    rw[hv] at C;have⟨j,D⟩:=C;have N:j≠i:=λe2=>by subst e2;rw[E] at D;cases D
    refine⟨j,?_⟩;unfold after;rw[tH ?_]
    .unfold upd
     rw[ζ N];exact D
    .by_cases w:o=-1
     .exact .inl w
     .right
      refine⟨ϖ,λe2=>?_⟩;have⟨g,hg,b⟩:=t w;rw[e2] at hg;simp only[ϒ4] at hg;rw[D] at hg;cases hg;unfold nameOf at b;simp only[ai1] at b;exact e ⟨b.1,b.2⟩
 .have y:cI s (aD p).data.toList (aD c).data.toList=r:=l
  have F:eg (DS.calm L a) n=i:=by
   rw[uW _ n rfl,<-P,uW (DS.fresh L) n rfl];rfl
  have:=zt L a 0 0 n s (aD p) (aD c) i o (cG n m) r y F (ho (DS.calm L a) rfl rfl) k;rw[U,z] at this;exact this
def pj (h:Has L n H)(s:Nat)(p:ϓ)(w:H s p≠none):
  ∃L',Has L' n (eR H s p none)/\∀a,(DS.calm L a).remove n s (aD p)=(DS.calm L' (a+2),.int .i64 0):=by
 have⟨m,hr,hm⟩:=h;have⟨o,x,t,r,f,l⟩:=owner hr s p;have i:o≠-1:=by
  have c:=hm s p;cases hv:H s p with
  |none=>exact absurd hv w
  |some v=>
   rw[hv] at c;have⟨j,k⟩:=c;have:=f j _ k rfl;omega
 have u:=hr.dropped o;refine⟨_,⟨_,u,λs' q=>?_⟩,λa=>?_⟩
 .unfold eR
  by_cases e:s'=s/\q=p
  .rw[φ e]
   obtain⟨rfl,rfl⟩:=e;intro j g hg e2;have⟨q1,y⟩:=iU hg;have:=f j g q1 e2;have:=y ϖ;omega
  .rw[ζ e]
   have c:=hm s' q;cases hv:H s' q with
   |none=>
    rw[hv] at c;intro j g hg e2;exact c j g (iU hg).1 e2
   |some v=>
    rw[hv] at c;have⟨j,k⟩:=c;refine⟨j,?_⟩;rw[tH ?_]
    .exact k
    .right
     refine⟨ϖ,λe2=>?_⟩;have⟨g,hg,b⟩:=l i;rw[e2] at hg;simp only[ϒ4] at hg;rw[k] at hg;cases hg;unfold nameOf at b;simp only[ai1] at b;exact e ⟨b.1,b.2⟩
 .have d:seenIn L [] 0=cG n m:=by rw[<-hr.root];rfl
  have:=qB L a 0 0 n s (aD p) o (cG n m) (x (DS.calm L a) rfl rfl) i d;rw[sL m o ⟨t,r⟩] at this;exact this
def LI (H:aZ)(s:Nat)(p:ϓ):eR H s p (H s p)=H:=by
 funext s' p'
 unfold eR;split
 .rename_i e;rw[e.1,e.2]
 .rfl
def kh.set {H:aZ}(h:kh H){s:Nat}{p:ϓ}(c:(s<=2/\p∈P7)\/(s=3/\p=[]))(r:Option (List Γ)):kh (eR H s p r):=λs' b a=>by
 unfold eR at a;split at a
 .rename_i e;rw[e.1,e.2];exact c
 .exact h s' b a
def bF.eight {H:aZ}(h:bF H):kh H:=λs p a=> .inl (h s p a)
end
def yD {s:Nat}{p:ϓ}(b:s<=2)(c:p∈P7):eD s p=true:=by
 obtain⟨k,a,rfl⟩:=zG.1 c;exact It k a s b
def VN {p:ϓ}(a:p∈P7):cL p=true:=by
 have h:=yD (s:=0) ϖ a;unfold eD at h;simpa using h
def iY (H:aZ):List dw->aZ
 |[]=>H
 |w::r=>iY (eR H w.set w.path w.becomes) r
def okW (H:aZ):List dw->Prop
 |[]=>True
 |w::r=>(w.set<=2/\w.path∈P7/\(∀c,w.becomes=some c->c.length<=96)/\(w.becomes=none->H w.set w.path≠none))/\okW (eR H w.set w.path w.becomes) r
def AC (H:aZ)(a b:List dw):iY H (a++b)=iY (iY H a) b:=by
 induction a generalizing H with
 |nil=>rfl
 |cons w r c=>exact c _
def Ka (H:aZ)(a b:List dw):okW H (a++b)↔okW H a/\okW (iY H a) b:=by
 induction a generalizing H with
 |nil=>simp[okW,iY]
 |cons w r c=>
  constructor
  .rintro⟨x,y⟩
   exact⟨⟨x,((c _).1 y).1⟩,((c _).1 y).2⟩
  .rintro⟨⟨x,y⟩,z⟩
   exact⟨x,(c _).2 ⟨y,z⟩⟩
def BK (x:DS):pV (x,Value.int .i64 0).2=0:=rfl
section
variable {n:Nat}
def Kv:∀(d:List dw){L:ϓ}{H:aZ},Has L n H->kh H->22<aK n->okW H d->
  ∃L' k,Has L' n (iY H d)/\kh (iY H d)/\0<=k/\k<=5*(d.length:Int)/\∀a,(DS.calm L a).iV n d=(DS.calm L' (a+k),.int .i64 0)
 |[],L,H,h,h8,_,_=>⟨L,0,h,h8,ϖ,ϛ,λa=>by simp[DS.iV]⟩
 |w::r,L,H,h,h8,hn,j=>by
  have⟨⟨p,s,v,x⟩,j⟩:=j;have i:=h8.set (.inl ⟨p,s⟩) w.becomes;obtain⟨L1,b,g,t,u,m⟩:∃L1 b,Has L1 n (eR H w.set w.path w.becomes)/\(0:Int)<=b/\b<=5/\∀a,(DS.calm L a).vd n w=(DS.calm L1 (a+b),.int .i64 0):=by
   unfold DS.vd;cases q:w.becomes with
   |none=>
    have⟨L1,q1,l⟩:=pj h w.set w.path (x q);exact⟨L1,2,q1,ϖ,ϖ,l⟩
   |some c=>
    have⟨L1,q1,l⟩:=uP h h8 hn w.set w.path c (yD p s) (v c q);exact⟨L1,5,q1,ϖ,ϖ,l⟩
  have⟨L2,k2,e,f,y,z,o⟩:=Kv r g i hn j;refine⟨L2,b+k2,e,f,ϖ,by rw[ϳ];omega,λa=>?_⟩;show(if pV ((DS.calm L a).vd n w).2=0 then((DS.calm L a).vd n w).1.iV n r else(DS.calm L a).vd n w)=_;rw[m a,φ (BK _),o,show a+b+k2=a+(b+k2) by omega]
def eW (H:aZ)(p:List Γ×Nat):aZ:=λs q=>if q=p.1/\s<=2 then H p.2 p.1 else H s q
def ED {x:DS}{K:aZ}(p:List Γ×Nat)(r:p.1∈P7)(h2:p.2<=1)(b:∀s:Nat,s<=2->x.content n s (aD p.1)=K s p.1):okW K (fL x n p)/\iY K (fL x n p)=eW K p:=by
 have c1:=b (1-p.2) ϖ;have c2:=b 2 ϖ;have cs:=b p.2 ϖ;have k:∀c,K p.2 p.1=some c->c.length<=96:=λc j=>vg (cs.trans j)
 have one:∀(s:Nat)(M:aZ),s<=2->s≠p.2->M s p.1=x.content n s (aD p.1)->M p.2 p.1=K p.2 p.1->okW M (dU x n p s)/\iY M (dU x n p s)=eR M s p.1 (K p.2 p.1):=by
  intro s M a l d t;have m:=b s a;unfold dU;rw[cs];split
  .rename_i e
   refine⟨trivial,?_⟩;rw[<-e,<-d,LI];rfl
  .rename_i e
   refine⟨⟨⟨a,r,k,λo=>?_⟩,trivial⟩,rfl⟩;rw[d];intro q;exact e (q.trans o.symm)
 have⟨i,g⟩:=one (1-p.2) K ϖ ϖ c1.symm rfl;have⟨o2,h⟩:=one 2 (eR K (1-p.2) p.1 (K p.2 p.1)) ϖ ϖ (by
  unfold eR;rw[ζ ϖ,c2]) (by
  unfold eR;rw[ζ ϖ])
 unfold fL;refine⟨(Ka ..).2 ⟨i,by rw[g];exact o2⟩,?_⟩;rw[AC,g,h]
 funext s q
 unfold eW eR
 by_cases f:q=p.1
 .subst f
  by_cases h0:s=2
  .subst h0;simp
  .by_cases h1:s=1-p.2
   .subst h1;simp[h0]
   .by_cases a:s=p.2
    .subst a;simp[h0,h1]
    .simp[h0,h1];intro;omega
 .simp[f]
def mE (ss:List (List Γ×Nat))(K:aZ)(s:Nat)(q:ϓ)(h:∀p∈ss,p.1≠q):ss.foldl eW K s q=K s q:=by
 induction ss generalizing K with
 |nil=>rfl
 |cons p r b=>
  rw[ϒ1,b _ λc a=>h c (by simp[a])];unfold eW;rw[ζ];exactλe=>h p ϛ e.1.symm
def iR (ss:List (List Γ×Nat))(K:aZ)(s:Nat)(q:ϓ)(h:2<s:=by omega):ss.foldl eW K s q=K s q:=by
 induction ss generalizing K with
 |nil=>rfl
 |cons p r a=>
  rw[ϒ1,a];unfold eW;rw[ζ ϖ]
def Gl (ss:List (List Γ×Nat))(K a:aZ)(h:∀s q,s<=2->K s q=a s q)(h1:∀p∈ss,p.2<=1)(s:Nat)(q:ϓ)(c:s<=2):ss.foldl eW K s q=ss.foldl eW a s q:=by
 induction ss generalizing K a with
 |nil=>exact h s q c
 |cons p r d=>
  rw[ϒ1,ϒ1];refine d _ _ (λs q c=>?_) λe b=>h1 e (by simp[b])
  have:=h1 p ϛ;unfold eW;rw[h p.2 p.1 ϖ,h s q c]
def uY (ss:List (List Γ×Nat))(K:aZ)(c:ss.Pairwise λp q=>p.1≠q.1)(h1:∀p∈ss,p.2<=1){p:List Γ×Nat}(f:p∈ss)(s:Nat)(h2:s<=2):ss.foldl eW K s p.1=K p.2 p.1:=by
 induction ss generalizing K with
 |nil=>simp at f
 |cons a r g=>
  rw[ϔ8] at c;rw[ϒ1];rcases ac1.1 f with rfl|b
  .rw[mE r _ _ _ λq d e=>c.1 q d e.symm]
   unfold eW;rw[φ ⟨rfl,h2⟩]
  .rw[g _ c.2 (λq d=>h1 q (by simp[d])) b]
   unfold eW;rw[ζ];exactλe=>c.1 p b e.1.symm
def AD {x:DS}(ss:List (List Γ×Nat))(K:aZ)(b:ss.Pairwise λp q=>p.1≠q.1)(h1:∀p∈ss,p.1∈P7/\p.2<=1)(d:∀p∈ss,∀s:Nat,s<=2->x.content n s (aD p.1)=K s p.1):
  okW K (bu x n ss)/\iY K (bu x n ss)=ss.foldl eW K:=by
 induction ss generalizing K with
 |nil=>exact⟨trivial,rfl⟩
 |cons p r g=>
  rw[ϔ8] at b;have⟨i,f⟩:=ED (n:=n) (x:=x) (K:=K) p (h1 p ϛ).1 (h1 p ϛ).2 (d p ϛ);have e:bu x n (p::r)=fL x n p++bu x n r:=rfl;have⟨o2,h⟩:=g (eW K p) b.2 (λq a=>h1 q (by simp[a])) λq a s c=>by
   rw[d q (by simp[a]) s c];unfold eW;rw[ζ];exactλe=>b.1 q a e.1.symm
  rw[e,Ka,AC,f,h];exact⟨⟨i,o2⟩,rfl⟩
def kG:∀(a:List dw)(f:Int),(a.length:Int)<f->mG a f=true
 |[],_,_=>rfl
 |w::r,f,h=>by
  rw[ϳ] at h;unfold mG;split
  .exact kG r _ ϖ
  .rw[ζ ϖ]
   split
   .exact kG r _ ϖ
   .exact kG r _ ϖ
structure dW (ss:List (List Γ×Nat)):Prop where
 strict:ss.Pairwise λp q=>p.1<q.1
 names:∀p∈ss,p.1∈P7/\p.2<=1
def dW.ne {ss:List (List Γ×Nat)}(h:dW ss):ss.Pairwise λp q=>p.1≠q.1:=h.strict.imp fun {a b} c e=>by rw[e] at c;exact absurd c (Ϙ7 _)
def dW.ok {ss:List (List Γ×Nat)}(h:dW ss):m7 ss:=λp a=>⟨VN (h.names p a).1,(h.names p a).2⟩
def dW.len {ss:List (List Γ×Nat)}(h:dW ss):ss.length<=7:=by
 have:=kN (ss.map (·.1)) P7 (List.Pairwise.map _ (λ_ _ h=>h) h.ne) λa ha=>by
  obtain⟨p,b,rfl⟩:=ad1.1 ha;exact(h.names p b).1
 rw[ah1] at this;exact ac7 this (ai8 (by rfl))
variable {L:List Γ}{H:aZ}
def Az (h:Has L n H)(d:bF H)(l:37<aK n){ss:List (List Γ×Nat)}(e:dW ss):
  ∃L',Has L' n (eR H 3 [] (some (db ss)))/\∀a,(DS.calm L a).begin n ss=(DS.calm L' (a+5),.int .i64 0):=by
 have i:=e.len;have g:(db ss).length<=63:=by have:=oB ss λp c=>og (e.ok p c).1;omega
 have⟨L',q1,f⟩:=uP h d.eight ϖ 3 [] (db ss) (by rfl) ϖ;refine⟨L',q1,λa=>?_⟩;have b:mH (DS.calm L a) n ss ((aK n:Int)-(taken (DS.calm L a) n).length-1)=true:=by
  have k:(taken (DS.calm L a) n).length<=22:=by
   have⟨m,hr,hm⟩:=h;have h1:=iv (x:=DS.calm L a) hr rfl;have h2:=J0 hr (d.eight.slots (L:=L) (n:=n) hm);rw[<-h1] at h2;unfold aO at h2
   rwa [ah1] at h2
  have j:=fZ (DS.calm L a) n ss;unfold mH;rw[decide_eq_true ϖ,ϕ5];exact kG _ _ ϖ
 unfold DS.begin;rw[b,ζ ϛ];exact f a
def Vb (h:Has L n H)(g:bF H)(C:37<aK n){ss:List (List Γ×Nat)}(d:dW ss)(i:ss≠[]):
  ∃L' k,Has L' n (ss.foldl eW H)/\bF (ss.foldl eW H)/\(0:Int)<=k/\k<=80/\(∀a,(DS.calm L a).sU n ss=(DS.calm L' (a+k),.int .i64 0))/\
   ∀a,((DS.calm L a).begin n ss).1.content n 3 ⟨#[]⟩=some (db ss):=by
 have F:=d.len;have⟨L1,q1,m⟩:=Az h g C d;have D:kh (eR H 3 [] (some (db ss))):=g.eight.set (.inr ⟨rfl,rfl⟩) _;have o:∀s p,s<=2->eR H 3 [] (some (db ss)) s p=H s p:=λs p d=>by unfold eR;rw[ζ ϖ]
 have⟨u,z⟩:=AD (n:=n) (x:=DS.calm L1 0) ss (eR H 3 [] (some (db ss))) d.ne d.names λp r s E=>Has.content (x:=DS.calm L1 0) q1 rfl s p.1
 have f:∀a,bu (DS.calm L1 a) n ss=bu (DS.calm L1 0) n ss:=λa=>by
  have y:∀(s:Nat) p,(DS.calm L1 a).content n s (aD p)=(DS.calm L1 0).content n s (aD p):=λs p=>(Has.content (x:=DS.calm L1 a) q1 rfl s p).trans (Has.content (x:=DS.calm L1 0) q1 rfl s p).symm
  have A:fL (DS.calm L1 a) n=fL (DS.calm L1 0) n:=by
   funext p
   unfold fL dU;simp only[y]
  unfold bu;rw[A]
 have⟨L2,k2,j,r2,r3,r4,r5⟩:=Kv _ q1 D ϖ u;rw[z] at j r2;have w:ss.foldl eW (eR H 3 [] (some (db ss))) 3 []=some (db ss):=by
  rw[iR _ _ _ _];unfold eR;rw[φ ⟨rfl,rfl⟩]
 have⟨B,l,t2⟩:=pj j 3 [] (by rw[w];simp);have c:eR (ss.foldl eW (eR H 3 [] (some (db ss)))) 3 [] none=ss.foldl eW H:=by
  funext s p
  unfold eR
  by_cases e:s=3/\p=[]
  .rw[φ e,iR _ _ _ _]
   cases hv:H s p with
   |none=>rfl
   |some v=>have:=(g s p (by rw[hv];simp)).1;omega
  .rw[ζ e]
   by_cases h2:s<=2
   .exact Gl ss _ _ (λs q d=>by rw[ζ ϖ]) (λp r=>(d.names p r).2) s p h2
   .rw[iR _ _ _ _,iR ..,ζ e]
 rw[c] at l;have t:=fZ (DS.calm L1 0) n ss;refine⟨B,5+k2+2,l,?_,ϖ,ϖ,λa=>?_,λa=>?_⟩
 .intro s p b
  rw[<-c] at b;unfold eR at b;split at b
  .exact absurd rfl b
  .rename_i e
   rcases r2 s p b with q|q
   .exact q
   .exact absurd q e
 .unfold DS.sU
  rw[ζ i,m a,φ (BK _)];show DS.oA (DS.calm L1 (a+5)) n ss=_;unfold DS.oA;rw[f,r5,φ (BK _)];show DS.remove (DS.calm L2 (a+5+k2)) n 3 ⟨#[]⟩=_;have:=t2 (a+5+k2);rw[show a+5+k2+2=a+(5+k2+2) by omega] at this;exact this
 .rw[m a]
  have:=Has.content (x:=DS.calm L1 (a+5)) q1 rfl 3 [];rw[show eR H 3 [] (some (db ss)) 3 []=some (db ss) by unfold eR;rw[φ ⟨rfl,rfl⟩]] at this;exact this
end
end
section
open Go.RowKit Go.Lib Go.Sort
def filter_or {α:Type}(p q r:α->Bool)(h:∀x,p x=true->q x=true\/r x=true):∀l:List α,(l.filter p).length<=(l.filter q).length+(l.filter r).length
 |[]=>ϛ
 |a::l=>by
  have d:=filter_or p q r h l;have ha:=h a;rw[List.filter_cons,List.filter_cons,List.filter_cons];cases b:p a<;>cases c:q a<;>cases hr:r a<;>simp only[b,c,hr,if_true,ν,if_false,ϳ,or_self,imp_false,not_true_eq_false] at ha⊢<;>omega
def GC (a b c:ϓ)(n:Nat):gV a c n<=gV a b n+gV b c n:=by
 unfold gV;refine filter_or _ _ _ (λj d=>?_) _
 by_cases e:gn a j=gn b j
 .right;rw[<-e];exact d
 .left;simpa using e
structure oF (n:Nat)(L:List Γ)(f:DS->DS×Φ)(N:Nat)(L':List Γ)(g:Nat->Int->List Γ):Prop where
 free:∀a lf kp,f ⟨L,[],a,false,lf,kp,false⟩=(⟨L',[],a+N,false,lf,kp,false⟩,.int .i64 0)
 room:∀a kp (lf:Int),N<=lf->f ⟨L,[],a,true,lf,kp,false⟩=(⟨L',[],a+N,true,lf-N,kp,false⟩,.int .i64 0)
 falls:∀a kp (j:Nat),j<N->f ⟨L,[],a,true,j,kp,false⟩=(⟨g j kp,[],a+j,true,0,kp,true⟩,.int .i64 3)
 near:∀kp j,j<N->gV L (g j kp) n<=j
 all:gV L L' n<=N-1
def LK (f1 f2:DS->DS×Φ):DS->DS×Φ:=λx=>if pV (f1 x).2=0 then f2 (f1 x).1 else f1 x
section
variable {n:Nat}{L L1 L2:List Γ}{f f1 f2:DS->DS×Φ}{N N1 N2:Nat}{g g1 g2:Nat->Int->List Γ}{H K:aZ}
def oF.nil:oF n L (λx=>(x,.int .i64 0)) 0 L (λ_ _=>L) where
 free a lf kp:=ϛ
 room a kp lf h:=ϛ
 falls a kp j h:=ϖ
 near kp j h:=ϖ
 all:=by rw[oC];omega
def oF.seq (h1:oF n L f1 N1 L1 g1)(h2:oF n L1 f2 N2 L2 g2):oF n L (LK f1 f2) (N1+N2) L2 (λj b=>if j<N1 then g1 j b else g2 (j-N1) b) where
 free a lf b:=by
  unfold LK;rw[h1.free,φ (BK _),h2.free,show a+(N1:Int)+N2=a+((N1+N2:Nat):Int) by omega]
 room a b lf h:=by
  unfold LK;rw[h1.room a b lf ϖ,φ (BK _),h2.room _ b _ ϖ,show a+(N1:Int)+N2=a+((N1+N2:Nat):Int) by omega,show lf-(N1:Int)-N2=lf-((N1+N2:Nat):Int) by omega]
 falls a b j h:=by
  unfold LK
  by_cases c:j<N1
  .rw[h1.falls a b j c,φ c]
   rfl
  .rw[ζ c,h1.room a b j ϖ,φ (BK _),show((j:Nat):Int)-N1=((j-N1:Nat):Int) by omega]
   show f2 _=_;rw[h2.falls _ b (j-N1) ϖ,show a+(N1:Int)+((j-N1:Nat):Int)=a+j by omega]
 near b j h:=by
  by_cases c:j<N1
  .simp only[φ c];exact h1.near b j c
  .simp only[ζ c]
   have:=h1.all;have:=h2.near b (j-N1) ϖ;have:=GC L L1 (g2 (j-N1) b) n;omega
 all:=by
  have:=h1.all;have:=h2.all;have:=GC L L1 L2 n;omega
def oF.congr (h:oF n L f1 N L1 g)(e:∀x:DS,x.aB=L->x.waiting=[]->x.failed=false->f2 x=f1 x):oF n L f2 N L1 g where
 free a lf kp:=(e _ rfl rfl rfl).trans (h.free a lf kp)
 room a kp lf hl:=(e _ rfl rfl rfl).trans (h.room a kp lf hl)
 falls a kp j hj:=(e _ rfl rfl rfl).trans (h.falls a kp j hj)
 near:=h.near
 all:=h.all
def rU (b:Bool){A B:ϓ}{k:Nat}(c:gV L A n<=k)(a:gV L B n<=k):gV L (if b then A else B) n<=k:=by cases b<;>assumption
def DP (b:Bool){A B:ϓ}(c:Has A n H)(a:Has B n H):Has (if b then A else B) n H:=by cases b<;>assumption
def yL (h:Has L n H)(Y:kh H)(hn:22<aK n)(s:Nat)(p c:ϓ)(hs:eD s p=true)(X:c.length<=96):
  ∃L' g,oF n L (λx=>x.put n s (aD p) (aD c)) 5 L' g/\Has L' n (eR H s p (some c))/\∀j b,j<5->Has (g j b) n H\/Has (g j b) n (eR H s p (some c)):=by
 have⟨L',D,v⟩:=uP h Y hn s p c hs X;have⟨m,hr,hm⟩:=h;have aa:=oq n;have⟨i,hi,W,O⟩:=Fh (x:=DS.fresh L) hr rfl (O3 hr (Y.slots (L:=L) (n:=n) hm) hn);have ab:=Cl n i hi;have⟨o,J,N,Q,ad,ac⟩:=owner hr s p;have U:p.length<=8:=(qJ hs).1;generalize F:cI s p c=r;have u:r.length=128:=by rw[<-F];exact Kj _ _ _ U X
 have h0:=uQ r u 0;have h1:=uQ r u 1;generalize G:bg L ((1+2*i:Nat),half r 0)=A;have rA:lV A n m:=by rw[<-G];exact hr.loose ϖ ϖ h0 (mD O (.inl rfl))
 generalize K:bg A ((2+2*i:Nat),half r 1)=B;have rB:lV B n m:=by rw[<-K];exact rA.loose ϖ ϖ h1 (mD O (.inr rfl))
 generalize t:bg L ((2+2*i:Nat),half r 1)=y;have R:lV y n m:=by rw[<-t];exact hr.loose ϖ ϖ h1 (mD O (.inr rfl))
 have I:mM L i r=B:=by unfold mM;rw[G,K]
 have e:seenIn (mM L i r) [] 0=cG n m:=by rw[I,<-rB.root];rfl
 have V:∀j,j≠1+2*i->gn A j=gn L j:=λj d=>by rw[<-G,gT L n hr.len _ ϖ _ h0 j,ζ d]
 have Z:∀j,j≠2+2*i->gn B j=gn A j:=λj d=>by rw[<-K,gT A n rA.len _ ϖ _ h1 j,ζ d]
 have s2:∀j,j≠2+2*i->gn y j=gn L j:=λj d=>by rw[<-t,gT L n hr.len _ ϖ _ h1 j,ζ d]
 have f:cI s (aD p).data.toList (aD c).data.toList=r:=F;have l:∀x:DS,x.aB=L->x.waiting=[]->eg x n=i:=λx hl hw=>by
  rw[uW x n hw,hl,<-W,uW (DS.fresh L) n rfl];rfl
 generalize E:bg (mM L i r) (0,aV (cG n m) i o)=C;have eC:L'=C:=by
  have e1:=v 0;have e2:=zt L 0 0 0 n s (aD p) (aD c) i o (cG n m) r f (l _ rfl rfl) (J _ rfl rfl) e;rw[E] at e2;have e3:=e1.symm.trans e2;exact congrArg (λz:DS×Φ=>z.1.aB) e3
 subst eC;have sC:∀j,j≠0->gn L' j=gn B j:=λj d=>by
  rw[<-E,I];have:=gT B n rB.len 0 ϖ (aV (cG n m) i o) (by rw[uF m i ϖ ⟨s,p,c⟩ o ⟨N,Q⟩];exact ie n _) j;rw[ζ d] at this;exact this
 have k1:∀b,iF L b i o (cG n m) r 1=if eB b 0 then A else L:=λb=>by show dQ _ _ _ _=_;rw[zP,G]
 have k2:∀b,iF L b i o (cG n m) r 2=if eB b 1 then(if eB b 0 then B else y) else if eB b 0 then A else L:=λb=>by
  show dQ _ _ _ _=_;rw[PU,G];cases eB b 0<;>cases eB b 1<;>first|rfl|exact K|exact t
 have k4:∀b,iF L b i o (cG n m) r 4=if eB b 0 then L' else B:=λb=>by
  show dQ _ _ _ _=_;rw[zP,E,I]
 have S:∀k,gV L L n<=k:=λk=>by rw[oC];omega
 have dA:gV L A n<=1:=rT _ _ _ [1+2*i] λj _ d=>(V j (by simpa using d)).symm
 have ae:gV L y n<=1:=rT _ _ _ [2+2*i] λj _ d=>(s2 j (by simpa using d)).symm
 have dB:gV L B n<=2:=rT _ _ _ [1+2*i,2+2*i] λj _ d=>by
  simp only[ac1,al7,or_false,not_or] at d;rw[Z j d.2,V j d.1]
 have dC:gV L L' n<=3:=rT _ _ _ [1+2*i,2+2*i,0] λj _ d=>by
  simp only[ac1,al7,or_false,not_or] at d;rw[sC j d.2.2,Z j d.2.1,V j d.1]
 have M:Has L n H:=⟨m,hr,hm⟩
 have w:Has A n H:=⟨m,rA,hm⟩
 have q:Has B n H:=⟨m,rB,hm⟩
 have P:Has y n H:=⟨m,R,hm⟩
 refine⟨L',λj b=>iF L b i o (cG n m) r j,⟨?_,?_,?_,?_,ac7 dC ϖ⟩,D,?_⟩
 .intro a T b
  have:=zt L a T b n s (aD p) (aD c) i o (cG n m) r f (l _ rfl rfl) (J _ rfl rfl) e;rw[E] at this;exact this
 .intro a b T ag
  have:=Pd L a T b n s (aD p) (aD c) i o (cG n m) r f (l _ rfl rfl) (J _ rfl rfl) e ϖ;rw[E] at this;exact this
 .intro a b j d
  exact LZ L a b n s (aD p) (aD c) i o (cG n m) r f j d (l _ rfl rfl) (J _ rfl rfl) e
 .intro b j d
  rcases(by omega:j=0\/j=1\/j=2\/j=3\/j=4) with rfl|rfl|rfl|rfl|rfl
  .exact S _
  .rw[k1];exact rU _ dA (S _)
  .rw[k2];exact rU _ (rU _ dB ϖ) (rU _ ϖ (S _))
  .show gV L (mM L i r) n<=3
   rw[I];omega
  .rw[k4];exact rU _ ϖ ϖ
 .intro j b d
  rcases(by omega:j=0\/j=1\/j=2\/j=3\/j=4) with rfl|rfl|rfl|rfl|rfl
  .exact .inl M
  .left;show Has (iF L b i o (cG n m) r 1) n H;rw[k1];exact DP _ w M
  .left;show Has (iF L b i o (cG n m) r 2) n H;rw[k2];exact DP _ (DP _ q P) (DP _ w M)
  .left;show Has (mM L i r) n H;rw[I];exact q
  .show Has (iF L b i o (cG n m) r 4) n H\/Has (iF L b i o (cG n m) r 4) n _
   rw[k4];cases eB b 0
   .exact .inl q
   .exact .inr D
def wP (h:Has L n H)(s:Nat)(p:ϓ)(y:H s p≠none):
  ∃L' g,oF n L (λx=>x.remove n s (aD p)) 2 L' g/\Has L' n (eR H s p none)/\∀j b,j<2->Has (g j b) n H\/Has (g j b) n (eR H s p none):=by
 have⟨L',f,q⟩:=pj h s p y;have D:=h;have⟨m,hr,hm⟩:=h;have I:=hr.lo;have⟨o,k,u,r,l,E⟩:=owner hr s p;have e:o≠-1:=by
  have w:=hm s p;cases hv:H s p with
  |none=>exact absurd hv y
  |some v=>
   rw[hv] at w;have⟨j,d⟩:=w;have:=l j _ d rfl;omega
 have c:seenIn L [] 0=cG n m:=by rw[<-hr.root];rfl
 generalize i:bg L (0,aV (cG n m) (-1) o)=C;have F:L'=C:=by
  have e1:=q 0;have e2:=qB L 0 0 0 n s (aD p) o (cG n m) (k _ rfl rfl) e c;rw[i] at e2;exact congrArg (λz:DS×Φ=>z.1.aB) (e1.symm.trans e2)
 subst F;have G:∀j,j≠0->gn L' j=gn L j:=λj d=>by
  rw[<-i];have:=gT L n hr.len 0 ϖ (aV (cG n m) (-1) o) (by rw[sL m o ⟨u,r⟩];exact ie n _) j;rw[ζ d] at this;exact this
 have A:∀b,jE L b o (cG n m) 1=if eB b 0 then L' else L:=λb=>by show dQ _ _ _ _=_;rw[zP,i]
 have B:gV L L' n<=1:=rT _ _ _ [0] λj _ d=>(G j (by simpa using d)).symm
 refine⟨L',λj b=>jE L b o (cG n m) j,⟨?_,?_,?_,?_,B⟩,f,?_⟩
 .intro a t b
  have:=qB L a t b n s (aD p) o (cG n m) (k _ rfl rfl) e c;rw[i] at this;exact this
 .intro a b t J
  have:=Fm L a t b n s (aD p) o (cG n m) (k _ rfl rfl) e c ϖ;rw[i] at this;exact this
 .intro a b j d
  exact Dl L a b n s (aD p) o (cG n m) j d (k _ rfl rfl) e c
 .intro b j d
  rcases(by omega:j=0\/j=1) with rfl|rfl
  .show gV L L n<=0
   rw[oC];omega
  .rw[A];exact rU _ B (by rw[oC];omega)
 .intro j b d
  rcases(by omega:j=0\/j=1) with rfl|rfl
  .exact .inl D
  .show Has (jE L b o (cG n m) 1) n H\/Has (jE L b o (cG n m) 1) n _
   rw[A];cases eB b 0
   .exact .inl D
   .exact .inr f
def Ey:∀(b:List dw){L:ϓ}{H:aZ},Has L n H->kh H->22<aK n->okW H b->
  ∃N L' g,oF n L (λx=>x.iV n b) N L' g/\N<=5*b.length/\Has L' n (iY H b)/\kh (iY H b)/\∀j a,j<N->∃i,i<=b.length/\Has (g j a) n (iY H (b.take i))
 |[],L,H,h,h8,_,_=>⟨0,L,λ_ _=>L,oF.nil,ϛ,h,h8,λj a A=>ϖ⟩
 |w::r,L,H,h,h8,hn,m=>by
  have⟨⟨u,y,B,C⟩,m⟩:=m;have l:=h8.set (.inl ⟨u,y⟩) w.becomes;obtain⟨N1,L1,g1,D,z,k,e⟩:∃N1 L1 g1,oF n L (λx=>x.vd n w) N1 L1 g1/\N1<=5/\Has L1 n (eR H w.set w.path w.becomes)/\∀j a,j<N1->Has (g1 j a) n H\/Has (g1 j a) n (eR H w.set w.path w.becomes):=by
   unfold DS.vd;cases v:w.becomes with
   |none=>
    have⟨L1,g1,q1,p,o⟩:=wP h w.set w.path (C v);exact⟨2,L1,g1,q1,ϖ,p,o⟩
   |some c=>
    have⟨L1,g1,q1,p,o⟩:=yL h h8 hn w.set w.path c (yD u y) (B c v);exact⟨5,L1,g1,q1,ϖ,p,o⟩
  have⟨N2,L2,g2,t2,E,f,t,s⟩:=Ey r k l hn m;refine⟨N1+N2,L2,_,D.seq t2,by rw[ϳ];omega,f,t,λj a A=>?_⟩
  by_cases d:j<N1
  .simp only[φ d]
   rcases e j a d with q|q
   .exact⟨0,ϖ,q⟩
   .exact⟨1,ϛ,q⟩
  .simp only[ζ d]
   have⟨i,F,q⟩:=s (j-N1) a ϖ;exact⟨i+1,by rw[ϳ];omega,q⟩
end
end
section
open Go.RowKit Go.Lib
def wJ {a b:ϓ}(h:aD a=aD b):a=b:=by simpa [aD] using h
def KB (set:Int):(Ξ->Option Ξ)->dl->Ξ->Option Ξ:=λg f=>if(f.set:Int)=set then λs=>if s=aD f.path then some (aD f.content) else g s else g
def tA (set:Int)(p:ϓ):∀(fs:List dl)(g:Ξ->Option Ξ),(∀f∈fs,(f.set:Int)=set->f.path≠p)->fs.foldl (KB set) g (aD p)=g (aD p)
 |[],_,_=>rfl
 |f::r,g,h=>by
  rw[ϒ1,tA set p r _ λf' a=>h f' (by simp[a])];unfold KB;split
  .rename_i e
   exact ζ λq=>h f ϛ e (wJ q).symm
  .rfl
def Gj (set:Nat):∀(fs:List dl)(g:Ξ->Option Ξ),(fs.map nameOf).Nodup->∀f∈fs,f.set=set->fs.foldl (KB set) g (aD f.path)=some (aD f.content)
 |[],_,_,f,b,_=>by simp at b
 |a::r,g,hn,f,b,hs=>by
  rw[ϴ,List.nodup_cons] at hn;rw[ϒ1];rcases ac1.1 b with rfl|b
  .rw[tA set f.path r _ λf' c e1 e2=>hn.1 (ad1.2 ⟨f',c,by unfold nameOf;rw[e2,hs,show f'.set=set by omega]⟩)]
   unfold KB;rw[φ ϖ,φ rfl]
  .exact Gj set r _ hn.2 f b hs
section
variable {L:List Γ}{n:Nat}{H:aZ}{x:DS}
def KD (h:Has x.aB n H)(d:x.waiting=[])(s:Nat)(l:ϓ):sP s (aO x n) (aD l)=(H s l).map aD:=by
 have⟨m,hr,hm⟩:=h;rw[iv hr d];have a:=hm s l;cases hv:H s l with
 |none=>
  rw[hv] at a;refine tA _ l _ _ λf e e1 e2=>?_
  have⟨i,b⟩:=hr.mem.1 e;exact a i f b (by unfold nameOf;rw[e2,show f.set=s by omega])
 |some c=>
  rw[hv] at a;have⟨i,b⟩:=a;exact Gj s _ _ hr.nodup ⟨s,l,c⟩ (hr.mem.2 ⟨i,b⟩) rfl
def I4 (H:aZ)(s:Nat)(l:ϓ):Option (Bool×Ξ):=if H s l=H 2 l then none else some (match H s l with|some c=>(true,aD c)|none=>(false,⟨#[]⟩))
def FJ {a b:Option (List Γ)}:a.map aD=b.map aD↔a=b:=by
 constructor
 .intro h
  cases a<;>cases b<;>simp at h
  .rfl
  .rw[wJ h]
 .rintro rfl;rfl
def yx (h:Has x.aB n H)(a:x.waiting=[])(s:Nat)(l:ϓ):jk x n s (aD l)=I4 H s l:=by
 unfold jk aI.k9 I4;have h2:=KD h a 2 l;rw[show((2:Nat):Int)=2 from rfl] at h2;rw[KD h a s l,h2]
 by_cases e:H s l=H 2 l
 .rw[φ e,φ (FJ.2 e)]
 .rw[ζ e,ζ λq=>e (FJ.1 q)]
  cases H s l<;>rfl
def oL (H:aZ)(l:ϓ):Option Nat:=if H 0 l=H 2 l then some 1 else if H 1 l=H 2 l then some 0 else if H 0 l=H 1 l then some 0 else none
def SH (H:aZ)(l:ϓ):l9 (I4 H 0 l) (I4 H 1 l)=oL H l:=by
 unfold I4 oL
 by_cases a:H 0 l=H 2 l
 .rw[φ a,φ a]
  cases (if H 1 l=H 2 l then none else some (match H 1 l with|some c=>(true,aD c)|none=>(false,⟨#[]⟩):Bool×Ξ))<;>rfl
 .rw[ζ a,ζ a]
  by_cases e1:H 1 l=H 2 l
  .rw[φ e1,φ e1];rfl
  .rw[ζ e1,ζ e1]
   by_cases e:H 0 l=H 1 l
   .rw[φ e,<-e]
    exact φ rfl
   .rw[ζ e]
    refine ζ λq=>e ?_
    cases h0:H 0 l<;>cases h1:H 1 l<;>rw[h0,h1] at q<;>simp at q;rw[wJ q]
def JM {l:ϓ}{q:Nat}(h:oL H l=some q):q<=1:=by
 unfold oL at h;split at h
 .cases h;omega
 .split at h
  .cases h;omega
  .split at h
   .cases h;omega
   .cases h
def Lu {l:ϓ}(h0:H 0 l=H 2 l)(_:H 1 l=H 2 l):oL H l=some 1:=by unfold oL;rw[φ h0]
def aU (H:aZ):aZ:=λs p=>if s<=2 then(match oL H p with|some q=>H q p|none=>H s p) else H s p
def cz (H:aZ)(ps:List (List Γ)):List (List Γ×Nat):=ps.filterMap λl=>(oL H l).map λs=>(l,s)
def qV (H:aZ)(ps:List (List Γ)):List (List Γ):=ps.filter λl=>(oL H l).isNone
def fV (H:aZ)(ps:List (List Γ)):Prop:=ps.Pairwise (·<·)/\∀l,l∈ps↔(H 0 l≠H 2 l\/H 1 l≠H 2 l)
def oe (h:Has x.aB n H)(a:x.waiting=[]){ps:List (List Γ)}(c:vv x n ps):fV H ps:=by
 have⟨h1,h2,b⟩:=c;refine⟨BM h1 h2,λl=>?_⟩;rw[b,Q7];have f0:=yx h a 0 l;have f1:=yx h a 1 l;rw[show((0:Nat):Int)=0 from rfl] at f0;rw[show((1:Nat):Int)=1 from rfl] at f1;rw[f0,f1];have one:∀s,I4 H s l≠none↔H s l≠H 2 l:=λs=>by
  unfold I4
  by_cases e:H s l=H 2 l
  .rw[φ e];simp[e]
  .rw[ζ e];simp[e]
 rw[one,one]
def nU (h:Has x.aB n H)(a:x.waiting=[])(ps:List (List Γ)):fM x n ps=cz H ps/\nm x n ps=qV H ps:=by
 have f0:=λl=>yx h a 0 l
 have f1:=λl=>yx h a 1 l
 simp only[show((0:Nat):Int)=0 from rfl] at f0;simp only[show((1:Nat):Int)=1 from rfl] at f1;unfold fM nm jB kI cz qV;simp only[f0,f1,SH];exact⟨trivial,trivial⟩
def p7 (d:bF H){ps:List (List Γ)}(h:fV H ps):dW (cz H ps):=by
 refine⟨?_,λp c=>?_⟩
 .unfold cz
  refine List.Pairwise.filterMap _ (λa b f p c q g=>?_) h.1;obtain⟨_,_,rfl⟩:=χ.1 c;obtain⟨_,_,rfl⟩:=χ.1 g;exact f
 .unfold cz at c
  have⟨l,i,e⟩:=ϓ1.1 c;obtain⟨q,g,rfl⟩:=χ.1 e;refine⟨?_,JM g⟩;show l∈P7;have h1:=(h.2 l).1 i
  by_cases e2:H 2 l=none
  .rcases h1 with h1|h1
   .exact(d 0 l λq=>h1 (q.trans e2.symm)).2
   .exact(d 1 l λq=>h1 (q.trans e2.symm)).2
  .exact(d 2 l e2).2
def lZ (k:bF H){ps:List (List Γ)}(g:fV H ps):(cz H ps).foldl eW H=aU H:=by
 have c:=p7 k g
 funext s p
 unfold aU
 by_cases h2:s<=2
 .rw[φ h2]
  by_cases d:p∈ps
  .cases h:oL H p with
   |some q=>
    have hm:(p,q)∈cz H ps:=ϓ1.2 ⟨p,d,by rw[h];rfl⟩;exact uY _ H c.ne (λa ha=>(c.names a ha).2) hm s h2
   |none=>
    refine mE _ H s p λa ha e=>?_
    have⟨l,j,e1⟩:=ϓ1.1 ha;obtain⟨q,f,rfl⟩:=χ.1 e1;have e:l=p:=e;rw[e,h] at f;cases f
  .have b:=λq=>d ((g.2 p).2 q)
   have i:H 0 p=H 2 p:=ac9 λq=>b (.inl q)
   have e1:H 1 p=H 2 p:=ac9 λq=>b (.inr q)
   rw[Lu i e1];rw[mE _ H s p λa ha e=>?_]
   .show H s p=H 1 p
    rcases(by omega:s=0\/s=1\/s=2) with rfl|rfl|rfl
    .rw[i,e1]
    .rfl
    .rw[e1]
   .have⟨l,j,e1⟩:=ϓ1.1 ha
    obtain⟨q,f,rfl⟩:=χ.1 e1;exact d (e▸j)
 .rw[ζ h2]
  exact iR ..
def By (h:Has L n H)(b:bF H)(d:37<aK n){ss:List (List Γ×Nat)}(c:dW ss)(a:Int):((DS.calm L a).begin n ss).1.content n 3 ⟨#[]⟩=some (db ss):=by
 have⟨L1,q1,e⟩:=Az h b d c;rw[e a];have:=Has.content (x:=DS.calm L1 (a+5)) q1 rfl 3 [];rw[show eR H 3 [] (some (db ss)) 3 []=some (db ss) by unfold eR;rw[φ ⟨rfl,rfl⟩]] at this;exact this
def Sx (h:Has L n H)(c:bF H)(f:37<aK n)(a:Int)(h0:0<=a)(h1:a<=900000000):AG (DS.calm L a) n:=by
 refine⟨rfl,λ_=>oy L a 105 h0,λps d=>?_⟩;have e:=oe (x:=DS.calm L a) h rfl d;rw[(nU (x:=DS.calm L a) h rfl ps).1];have b:=p7 c e;exact⟨b.len,b.ok,λ_=>By h c f b a⟩
def FF (h:Has L n H)(b:bF H)(a:Int):x4 (DS.calm L a) n=0:=by
 have⟨m,hr,hm⟩:=h;have:=mY (x:=DS.calm L a) hr rfl (b.slots hm);unfold x4;rw[this];rfl
def vH (h:Has L n H)(b:bF H)(l:37<aK n){ps:List (List Γ)}(f:fV H ps):
  ∃L' k,Has L' n (aU H)/\bF (aU H)/\(0:Int)<=k/\k<=80/\(∀a,(DS.calm L a).sU n (cz H ps)=(DS.calm L' (a+k),.int .i64 0))/\(cz H ps=[]->L'=L/\k=0):=by
 by_cases d:cz H ps=[]
 .have c:=lZ b f
  rw[d] at c;have c:H=aU H:=c;refine⟨L,0,c▸h,c▸b,ϖ,ϖ,λa=>?_,λ_=>⟨rfl,rfl⟩⟩;unfold DS.sU;rw[φ d,Int.add_zero]
 .have⟨L',k,q1,g,m,i,j,_⟩:=Vb h b l (p7 b f) d
  rw[lZ b f] at q1 g;exact⟨L',k,q1,g,m,i,j,λe=>absurd e d⟩
end
structure RM (x:DS)(n:Nat)(ss:List (List Γ×Nat)):Prop where
 text:x.content n 3 ⟨#[]⟩=some (db ss)
 OC:0<ss.length
 few:ss.length<=7
 ok:m7 ss
 order:ss.Pairwise λp q=>p.1<q.1
def DS.zQ (x:DS)(n:Nat)(ss:List (List Γ×Nat)):Bool:=mH x n ss ((aK n:Int)-(taken x n).length)
def FU (d g n:Nat)(c:Φ)(x:DS)(ss:List (List Γ×Nat))(w:Ω)(h:bG w d g n c x)(a:RM x n ss):Calls prog 106 #[.pointer (some ⟨d,0,none⟩)] w λe w'=>e= .returned (.bool (x.zQ n ss))/\aQ [] w w':=by
 have C:=a.few;have t:Hid (x.zQ n ss=mH x n ss ((aK n:Int)-(taken x n).length)):=rfl;have E:aK n<=54:=by unfold aK;have:=h.hi;omega
 have D:(taken x n).length<=aK n:=ac7 (ϑ7 ..) (by rw[List.length_range];exact ι _);go_enter func106,ntmps106;go_wp2_with fail;refine(fY w).mono ?_;rintro e w1 ⟨rfl,f1⟩;have h1:=h.new f1;go_wp2_with fail;refine(oz d g n c x 3 ⟨#[]⟩ w1 h1).mono ?_;rintro e o ⟨rfl,f2⟩;have h2:=h1.new f2
 have l:=f1.trans f2;rw[a.text];simp only[ϕ9,ϑ1];go_wp2_with fail;refine(xy ss o a.OC ϖ a.ok a.order).mono ?_;rintro e y ⟨u,rfl,b,i⟩;have k:=h2.new i;have m:=l.trans i;clear f1 f2 i h1 h2 l;go_wp2_with fail;refine(Gk d g n c x y k).mono ?_;rintro e q ⟨rfl,f⟩
 have r:=k.new f;have j:=f.owns b;have z:=m.trans f;clear f k b m;go_wp2_with fail;refine(Gp d g n c x _ u ss ((aK n:Int)-(taken x n).length) q r j ϖ (λp A=>(a.ok p A).2) ϖ ϖ).mono ?_;rintro e B ⟨rfl,v⟩;have s:=z.trans v;rw[<-t.out];go_wp2;go_ret;exact⟨rfl,s⟩
def DJ (F:ϑ)(s d n:Nat)(x:DS)(ss:List (List Γ×Nat))(w:Ω)(h:aE w F s d n x)(r:RM x n ss):Calls prog 73 #[.pointer (some ⟨s,0,none⟩)] w λe w'=>e= .returned (.bool (x.gO n&&x.zQ n ss))/\aQ [] w w':=by
 have c0:=h.cell;have⟨k,g,hd⟩:=h.jG;have a:Hid (x.gO n=(x.sound n&&decide (kH (aO x n)<=7))):=rfl;have q:(aO x n).length<=54:=by unfold aO;rw[ah1];exact fy x n
 go_enter func73,ntmps73;go_wp2_with fail;refine(BT d k n g x w hd).mono ?_;rintro e w1 ⟨rfl,f1⟩;have h1:=h.new f1;have i:=hd.new f1;have c0:=h1.cell;cases l:x.sound n with
 |false=>
  rw[l] at a;go_wp2;go_ret;exact⟨by rw[a.out];rfl,f1⟩
 |true=>
  rw[l] at a;go_wp2_with fail;refine(vq d k n g x w1 i).mono ?_;rintro e o ⟨v,rfl,hv,f2⟩;go_wp2_with fail;refine(wv _ v (aO x n) o hv ϖ).mono ?_;rintro e u ⟨rfl,p⟩;have b:=(f1.trans f2).trans p;generalize kH (aO x n)=m at*
  by_cases hm:m<=7
  .have j:Hid (x.gO n=true):=by show _=_;rw[a.out];simp[hm]
   have f:(m:Int)<=7:=ϖ
   have y:=h.new b;have c:=hd.new b;clear c0;have c0:=y.cell;go_wp2_with fail;refine(FU d k n g x ss u c r).mono ?_;rintro e A ⟨rfl,t⟩;have z:=b.trans t;go_wp2;go_ret;exact⟨by rw[j.out];rfl,z⟩
  .have j:Hid (x.gO n=false):=by show _=_;rw[a.out];simp[hm]
   have f:¬(m:Int)<=7:=ϖ
   go_wp2;go_ret;refine⟨?_,b⟩;rw[j.out];rfl
def Md (b:Ξ)(n:Nat)(ss:List (List Γ×Nat))(w:Ω)(i:b.size=64*n)(h:16<=n)(l:n<=400)(g:(DS.fresh b.data.toList).gO n=true)(m:RM (DS.fresh b.data.toList) n ss)(a:(DS.fresh b.data.toList).zQ n ss=true):
  Calls prog 38 #[.string b] w λe w'=>∃s d F,e= .returned (.tuple #[.pointer (some ⟨s,0,none⟩),.int .i64 0])/\aE w' F s d n (DS.fresh b.data.toList)/\aQ [] w w'/\bC [] F w/\w.heap.size<=s:=by
 have hr:(b.size:Int).tmod 64=0:=by rw[i];push_cast;exact Int.mul_tmod_right ..
 have p:(b.size:Int).tdiv 64=n:=by rw[i];push_cast;exact Int.mul_tdiv_cancel_left _ (by decide)
 go_enter func38,ntmps38;go_wp2_with fail;refine(tv n w).mono ?_;rintro e w1 ⟨rfl,rfl⟩;have e1:(decide (16<=(n:Int))&&decide ((n:Int)<=400))=true:=by
  rw[decide_eq_true ϖ,decide_eq_true ϖ];rfl
 rw[e1];go_wp2_with fail;refine(oR b n w1 i h l).mono ?_;rintro e k ⟨s,d,F,rfl,f,f2,g2,l2⟩;go_wp2_with fail;refine(DJ F s d n _ ss k f m).mono ?_;rintro e q ⟨rfl,c⟩;have j:=f.new c;have o:=f2.trans c;rw[g,a];clear f f2 c;go_wp2_with fail
 all_goals
  go_ret2
  exact⟨s,d,F,rfl,j,o,g2,l2⟩
def GK (F:ϑ)(s d n:Nat)(x:DS)(ss:List (List Γ×Nat))(w:Ω)(h:aE w F s d n x)(q:(DS.fresh x.aB).gO n=true)(k:RM (DS.fresh x.aB) n ss)(hr:(DS.fresh x.aB).zQ n ss=true):
  Calls prog 16 #[.pointer (some ⟨s,0,none⟩)] w λe w'=>∃s' p f,e= .returned (.pointer (some ⟨s',0,none⟩))/\aE w' f s' p n (DS.fresh x.aB)/\aQ [] w w'/\bC [] f w/\w.heap.size<=s':=by
 have⟨L,J,hd⟩:=h.jG;have u:=hd.lo;have v:=hd.hi;have c:=hd.len;go_enter func16,ntmps16;go_wp2_with (with_reducible refine ia rfl ?_);refine(kx F s d n x w h).mono ?_;rintro e w1 ⟨rfl,f1⟩;generalize D:x.aB=l at*;have y:Hid (x.aB=l):=D;clear D;go_wp2_with (with_reducible refine ia rfl ?_)
 refine yG rfl 9 85 5 _ rfl underlying9 underlying85 underlying5 ⟨l.toArray⟩ rfl ?_;intro o b cap lb f2 a;have z:(⟨l.toArray⟩:Ξ).size=l.length:=by show l.toArray.size=_;simp
 have g:∀j,(k:j<l.length)->o.cell? ⟨b,j,none⟩=some (.int .u8 (l[j].toNat:Int)):=λj k=>by
  have:=a j (by simpa using k);simpa using this
 have G:Hid (∀j,(k:j<l.length)->o.cell? ⟨b,j,none⟩=some (.int .u8 (l[j].toNat:Int))):=g;have r:=f1.trans f2;rw[z];clear a g f1 f2 h hd;go_wp2_with (with_reducible refine ia rfl ?_);refine cT rfl (.string (aD l)) o (qP 85 9 5 _ rfl underlying85 underlying5 underlying9 b (64*n) cap rfl l c G.out) ?_
 go_wp2_with fail;refine(Md (aD l) n ss o (by rw[fg,c]) u v q k hr).mono ?_;rintro e I ⟨s',p,f,rfl,m,A,B,K⟩;have H:=r.trans A;have C:=r.size;have gw:bC [] f w:=λi E=>(B i E).imp id (λh=>ϖ)
 have t:aE I f s' p n (DS.fresh l):=m;clear A r m B;go_wp2_with fail
 all_goals
  go_ret;exact⟨s',p,f,rfl,by rw[y.out];exact t,H,gw,ϖ⟩
end
section
open Go.RowKit Go.Lib Go.Sort
structure Mid (H:aZ)(ss:List (List Γ×Nat))(K:aZ):Prop where
 jrn:K 3 []=some (db ss)
 eight:kh K
 src:∀p∈ss,K p.2 p.1=H p.2 p.1
 btw:∀s p,s<=2->K s p=H s p\/K s p=ss.foldl eW H s p
section
variable {n:Nat}{L:List Γ}{H K:aZ}{ss:List (List Γ×Nat)}
def Cg:∀(l:List (List Γ×Nat)),l.Pairwise (λp q=>p.1≠q.1)->∀p∈l,∀q∈l,q.1=p.1->q=p
 |a::l,h,p,hp,q,hq,e=>by
  have⟨h1,h2⟩:=ϔ8.1 h;rcases ac1.1 hp with rfl|c
  .rcases ac1.1 hq with rfl|b
   .rfl
   .exact absurd e.symm (h1 q b)
  .rcases ac1.1 hq with rfl|b
   .exact absurd e (h1 p c)
   .exact Cg l h2 p c q b e
def Mh (b:bF H)(a:dW ss):Mid H ss (eR H 3 [] (some (db ss))) where
 jrn:=by unfold eR;rw[φ ⟨rfl,rfl⟩]
 eight:=b.eight.set (.inr ⟨rfl,rfl⟩) _
 src p hp:=by
  have:=(a.names p hp).2;unfold eR;rw[ζ ϖ]
 btw s p a:=by unfold eR;rw[ζ ϖ];exact .inl rfl
def Mid.foldl (h:Mid H ss K)(b:dW ss)(s:Nat)(p:ϓ)(h2:s<=2):ss.foldl eW K s p=ss.foldl eW H s p:=by
 have h1:∀p∈ss,p.2<=1:=λp f=>(b.names p f).2
 by_cases c:∃q∈ss,q.1=p
 .obtain⟨q,a,rfl⟩:=c
  rw[uY ss K b.ne h1 a s h2,uY ss H b.ne h1 a s h2,h.src q a]
 .have d:∀q∈ss,q.1≠p:=λq a e=>c ⟨q,a,e⟩
  rw[mE ss K s p d];rcases h.btw s p h2 with e|e
  .rw[e,mE ss H s p d]
  .exact e
def Hi {x:DS}{w:dw}(a:w∈bu x n ss):∃p∈ss,w.path=p.1/\(w.set=1-p.2\/w.set=2)/\w.becomes=x.content n p.2 (aD p.1):=by
 have⟨p,b,a⟩:=List.mem_flatMap.1 a;refine⟨p,b,?_⟩;unfold fL at a;rcases ϐ1.1 a with a|a<;>unfold dU at a<;>split at a<;>simp at a<;>subst a<;>simp
def Mid.apply (a:dW ss):∀(f:List dw)(K:aZ),Mid H ss K->(∀w∈f,∃p∈ss,w.path=p.1/\(w.set=1-p.2\/w.set=2)/\w.becomes=H p.2 p.1)->Mid H ss (iY K f)
 |[],K,h,_=>h
 |w::r,K,h,hw=>by
  refine Mid.apply a r _ ?_ λw' c=>hw w' (ak9 _ c)
  have⟨p,b,e1,e2,j⟩:=hw w ϒ2;have i:=(a.names p b).2;refine⟨?_,h.eight.set (.inl ⟨ϖ,by rw[e1];exact(a.names p b).1⟩) _,λq g=>?_,λs l h2=>?_⟩
  .unfold eR
   rw[ζ ϖ];exact h.jrn
  .unfold eR
   by_cases e:q.2=w.set/\q.1=w.path
   .rw[φ e]
    have d:q=p:=Cg ss a.ne p b q g (e.2.trans e1);subst d;exfalso;omega
   .rw[ζ e]
    exact h.src q g
  .unfold eR
   by_cases e:s=w.set/\l=w.path
   .rw[φ e]
    right
    rw[e.2,e1,uY ss H a.ne (λp b=>(a.names p b).2) b s h2,j]
   .rw[ζ e]
    exact h.btw s l h2
def Mid.done (h:Mid H ss K)(a:bF H)(b:dW ss):eR (ss.foldl eW K) 3 [] none=ss.foldl eW H:=by
 funext s p
 unfold eR
 by_cases h2:s<=2
 .rw[ζ ϖ]
  exact h.foldl b s p h2
 .rw[iR _ H _ _]
  have c:H s p=none:=by
   cases hv:H s p with
   |none=>rfl
   |some v=>have:=(a s p (by rw[hv];simp)).1;omega
  rw[c];split
  .rfl
  .rename_i e
   rw[iR _ K _ _];cases hv:K s p with
   |none=>rfl
   |some v=>
    rcases h.eight s p (by rw[hv];simp) with⟨q,_⟩|q
    .omega
    .exact absurd q e
def Mid.content (h:Mid H ss K)(f:dW ss){x:DS}(e:Has x.aB n K)(g:x.waiting=[]):okW K (bu x n ss)/\iY K (bu x n ss)=ss.foldl eW K/\∀w∈bu x n ss,∃p∈ss,w.path=p.1/\(w.set=1-p.2\/w.set=2)/\w.becomes=H p.2 p.1:=by
 have⟨a,b⟩:=AD (n:=n) (x:=x) ss K f.ne f.names λp d s j=>Has.content e g s p.1
 refine⟨a,b,λw c=>?_⟩;have⟨p,d,e1,e2,i⟩:=Hi c;exact⟨p,d,e1,e2,by rw[i,Has.content e g,h.src p d]⟩
def Em (h:Has L n K){x y:DS}(b:x.aB=L)(e:y.aB=L)(f:x.waiting=[])(c:y.waiting=[]):bu x n ss=bu y n ss:=by
 subst b;have a:∀(s:Nat) p,x.content n s (aD p)=y.content n s (aD p):=λs p=>(Has.content h f s p).trans (Has.content (x:=y) (by rw[e];exact h) c s p).symm
 have d:fL x n=fL y n:=by
  funext p
  unfold fL dU;simp only[a]
 unfold bu;rw[d]
theorem Ex (h:Has L n K)(hm:Mid H ss K)(A:bF H)(l:dW ss)(F:22<aK n):
  ∃N L' g,oF n L (λx=>x.oA n ss) N L' g/\2<=N/\N<=72/\Has L' n (ss.foldl eW H)/\∀j e,j<N->(∃t,Mid H ss t/\Has (g j e) n t)\/Has (g j e) n (ss.foldl eW H):=by
 obtain⟨x,u,z⟩:∃x:DS,x.aB=L/\x.waiting=[]:=⟨DS.fresh L,rfl,rfl⟩
 obtain⟨C,v,m1⟩:=hm.content l (x:=x) (by rw[u];exact h) z;obtain⟨N1,L1,g1,D,B,f,p,m⟩:=Ey _ h hm.eight F C;rw[v] at f p;have G:=fZ x n ss;have I:=l.len;have s:ss.foldl eW K 3 []=some (db ss):=by rw[iR _ _ _ _];exact hm.jrn
 obtain⟨L2,g2,t2,d,k⟩:=wP f 3 [] (by rw[s];simp);rw[hm.done A l] at d k;have a:∀i,Mid H ss (iY K ((bu x n ss).take i)):=λi=>Mid.apply l _ K hm λw o=>m1 w (List.mem_of_mem_take o)
 have b:Mid H ss (ss.foldl eW K):=by
  have:=a (bu x n ss).length
  rwa [List.take_length,v] at this
 refine⟨N1+2,L2,_,(D.seq t2).congr λy E r _=>?_,ϖ,ϖ,d,λj e s=>?_⟩
 .unfold DS.oA LK
  rw[Em h E u r z];rfl
 .by_cases c:j<N1
  .simp only[φ c]
   obtain⟨i,_,q⟩:=m j e c;exact .inl ⟨_,a i,q⟩
  .simp only[ζ c]
   rcases k (j-N1) e ϖ with q|q
   .exact .inl ⟨_,b,q⟩
   .exact .inr q
def Sr (h:Has L n H)(d:bF H)(e:dW ss)(l:ss≠[])(G:37<aK n):
  ∃N L' g,oF n L (λx=>x.sU n ss) N L' g/\7<=N/\N<=80/\Has L' n (ss.foldl eW H)/\∀j b,j<N->Has (g j b) n H\/(∃t,Mid H ss t/\Has (g j b) n t)\/Has (g j b) n (ss.foldl eW H):=by
 have D:=e.len;have B:(db ss).length<=63:=by have:=oB ss λp r=>og (e.ok p r).1;omega
 have⟨L1,g1,w,k,f⟩:=yL h d.eight ϖ 3 [] (db ss) (by rfl) ϖ;have hm:=Mh (H:=H) d e;have⟨N2,L2,g2,t2,A,u,i,o⟩:=Ex k hm d e ϖ;refine⟨5+N2,L2,_,(w.seq t2).congr λy z s _=>?_,ϖ,ϖ,i,λj b C=>?_⟩
 .have c:mH y n ss ((aK n:Int)-(taken y n).length-1)=true:=by
   have F:(taken y n).length<=22:=by
    have⟨m,hr,hm⟩:=h;subst z;have h1:=iv (x:=y) hr s;have h2:=J0 hr (d.eight.slots (L:=y.aB) (n:=n) hm);rw[<-h1] at h2;unfold aO at h2
    rwa [ah1] at h2
   have E:=fZ y n ss;unfold mH;rw[decide_eq_true ϖ,ϕ5];exact kG _ _ ϖ
  have v:y.begin n ss=y.put n 3 ⟨#[]⟩ (aD (db ss)):=by
   unfold DS.begin;rw[c,ζ ϛ]
  unfold DS.sU LK;rw[ζ l,v];rfl
 .by_cases a:j<5
  .simp only[φ a]
   rcases f j b a with q|q
   .exact .inl q
   .exact .inr (.inl ⟨_,hm,q⟩)
  .simp only[ζ a]
   exact .inr (o (j-5) b ϖ)
end
end
section
open Go.RowKit Go.Lib
def yO:∀{a b:List (List Γ)},a.Pairwise (·<·)->b.Pairwise (·<·)->(∀x,x∈a↔x∈b)->a=b
 |[],[],_,_,_=>rfl
 |[],y::_,_,_,h=>absurd ((h y).2 ϛ) ϛ
 |x::_,[],_,_,h=>absurd ((h x).1 ϛ) ϛ
 |x::a,y::b,ha,hb,h=>by
  rw[ϔ8] at ha hb;have d:x=y:=by
   rcases ac1.1 ((h x).1 ϛ) with e|f
   .exact e
   .rcases ac1.1 ((h y).2 ϛ) with e|g
    .exact e.symm
    .exact absurd (List.lt_trans (ha.1 y g) (hb.1 x f)) (Ϙ7 _)
  subst d;rw[yO ha.2 hb.2 λz=>?_];constructor
  .intro c
   rcases ac1.1 ((h z).1 (by simp[c])) with rfl|q
   .exact absurd (ha.1 z c) (Ϙ7 _)
   .exact q
  .intro c
   rcases ac1.1 ((h z).2 (by simp[c])) with rfl|q
   .exact absurd (hb.1 z c) (Ϙ7 _)
   .exact q
section
variable {H:aZ}{l:List Γ}{ps ps':List (List Γ)}
def fV.uniq (h:fV H ps)(a:fV H ps'):ps=ps':=yO h.1 a.1 λx=>(h.2 x).trans (a.2 x).symm
def lQ {q:Nat}(h:oL H l=some q)(s:Nat)(a:s<=2):aU H s l=H q l:=by
 unfold aU;rw[φ a,h]
def rq (h:oL H l=none)(s:Nat)(a:s<=2):aU H s l=H s l:=by
 unfold aU;rw[φ a,h]
def yS:oL H l=none↔H 0 l≠H 2 l/\H 1 l≠H 2 l/\H 0 l≠H 1 l:=by
 unfold oL
 by_cases h0:H 0 l=H 2 l
 .simp[h0]
 .by_cases h1:H 1 l=H 2 l
  .simp[h0,h1]
  .by_cases h2:H 0 l=H 1 l
   .simp[h0,h1,h2]
   .simp[h0,h1,h2]
def JB:oL (aU H) l=none↔oL H l=none:=by
 cases h:oL H l with
 |none=>
  rw[yS,rq h 0 ϖ,rq h 1 ϖ,rq h 2 ϖ,<-yS,h]
 |some q=>
  rw[yS,lQ h 0 ϖ,lQ h 1 ϖ,lQ h 2 ϖ];simp
def EB (H:aZ):aU (aU H)=aU H:=by
 funext s p
 by_cases a:s<=2
 .cases h:oL (aU H) p with
  |none=>rw[rq h s a]
  |some q=>
   rw[lQ h s a];cases b:oL H p with
   |none=>rw[JB.2 b] at h;cases h
   |some c=>rw[lQ b s a,lQ b q (by have:=JM h;omega)]
 .unfold aU
  rw[ζ a]
end
end
end
end Go.Proofs.YtchcmhodnkgojaaGreat
