/- A part. -/
import Derived.Test.YtchcmhodnkgojaaGreatPart9
import Derived.Handy
import Derived.Lib.AppendStr
import Derived.Sort.Walk0
import Derived.Laws.ResultCell
import Derived.BigQuiet
set_option linter.all false
set_option maxRecDepth 100000
set_option maxHeartbeats 8000000
open Go.Proofs.Tryz
namespace Go.Proofs.YtchcmhodnkgojaaGreat
open Value (ren)
open Region (wanted)
open Sem (run_bind)
open List (range)
open List (replicate)
noncomputable section
variable {b d i j m n s size:Nat}{p:List η}{l ps qs:List (List η)}{a:Act}{F S:List Nat}{w w' wL:Φ}{R:Act->Φ->Prop}{es:Array ai2}{s1 s2:Ξ}{c cs cur:Array Θ}{e t ty u:θ}{ops:Array Oper}{rest:List Oper}{o:Oper}{x:DS}{v z:Θ}{xs:List Θ}{y:ac4}{ss:List (List η×Nat)}{P:aa1}{Q:Exit->Act->Φ->Prop}{as':Array ac4}{ts:Array θ}{ρ:ac4->Θ}{r:Option (List η)}
section
open Go.RowKit Go.Lib
def kS(L:ϑ)(j:Nat):List η:=(L.drop (64*j)).take 64
def EZ(L:ϑ)(j k:Nat):(kS L j)[k]?=if k<64 then L[64*j+k]? else none:=by
 unfold kS;rw[ai9];split;rw[aj1];rfl
def Tz(L:ϑ)(n:Nat)(d:L.length=64*n)(i:Nat)(e:i<n)(b:ϑ)(c:b.length=64)(m:Nat):
  (ci L ((i:Int),b))[m]?=if m<64*i then L[m]? else if m<64*i+64 then b[m-64*i]? else L[m]?:=by
 unfold ci;simp only[an3];rw[an6,an6];simp only[af0,ac8,c,ai9,aj1];have h1:min (64*i) L.length=64*i:=ϖ;rw[h1];by_cases h2:m<64*i;simp[h2];omega;by_cases a:m<64*i+64;simp[h2,a];simp only[h2,a,if_false];congr 1;omega
def kR(L:ϑ)(n:Nat)(d:L.length=64*n)(i:Nat)(e:i<n)(b:ϑ)(c:b.length=64)(j:Nat):kS (ci L ((i:Int),b)) j=if j=i then b else kS L j:=by
 apply an2;intro k;rw[EZ,Tz L n d i e b c];by_cases a:j=i;subst a;simp only[if_true];by_cases hk:k<64;rw[κ hk,Γ ϖ,κ ϖ];congr 1;omega;rw[Γ hk,ai7 ϖ];rw[Γ a,EZ];by_cases hk:k<64;rw[κ hk,κ hk];by_cases h2:64*j+k<64*i;rw[κ h2];rw[Γ h2,Γ ϖ];rw[Γ hk,Γ hk]
def Ka(L:ϑ)(n:Nat)(c:L.length=64*n)(i:Nat)(d:i<n)(b:ϑ)(a:b.length=64):(ci L ((i:Int),b)).length=64*n:=by
 unfold ci;simp only[an3,af0,ac8,am1,a];omega
def zi(x:DS)(h:x.waiting=[])(j:Nat):x.read j=kS x.bg j:=by
 unfold DS.read seenIn kS;rw[h];simp
def rT(x:DS)(h:x.waiting=[]):x.read 0=kS x.bg 0:=zi x h 0
abbrev eU:=Nat->Option dk
def Gd(n:Nat):List η:=oo++[UInt8.ofNat (n/256),UInt8.ofNat n]
def eX(n:Nat)(m:eU):List η:=Gd n++(range 54).map λi=>if(m i).isSome then(1:η)else 0
def pD(n:Nat):(Gd n).length=10:=rfl
def jR(n:Nat)(m:eU):(eX n m).length=64:=by simp[eX,pD]
def rR(n:Nat)(m:eU)(k:Nat):(eX n m)[k]?=if k<10 then(Gd n)[k]? else if k<64 then some (if(m (k-10)).isSome then(1:η)else 0)else none:=by
 unfold eX;rw[an6,pD];split;rfl;rename_i h;rw[List.getElem?_map];by_cases h2:k<64;rw[List.getElem?_range ϖ,κ h2];rfl;rw[ai7 (by simp;omega),Γ h2];rfl
def Lz(n k:Nat):(i9 n)[k]?=if k<10 then(Gd n)[k]? else if k<64 then some 0 else none:=by
 unfold i9;rw[show oo++[UInt8.ofNat (n/256),UInt8.ofNat n]=Gd n from rfl,an6,pD];split;rfl;rw[List.getElem?_replicate];by_cases h2:k<64;rw[κ h2,κ ϖ];rw[Γ h2,Γ ϖ]
def rX(n:Nat)(m:eU)(i:Nat)(a:i<54:=by omega):dP (eX n m) i=if(m i).isSome then 1 else 0:=by
 unfold dP;rw[al8,rR,Γ ϖ,κ ϖ];simp
def He(n:Nat)(m:eU)(k:Nat)(hk:k<=54):jF (eX n m) k=(range k).filter λi=>(m i).isSome:=by
 unfold jF;apply List.filter_congr;intro i a;rw[ah9]at a;rw[rX n m i];cases (m i).isSome<;>rfl
def A5(l:ϓ):∀(r:ϑ)(j:Nat),(dZ r l)[j]?=if(∃i∈l,10+i=j)/\j<r.length then some 1 else r[j]?:=by
 induction l with
 |nil=>intro r j;simp[dZ]
 |cons a l d=>intro r j;unfold dZ;rw[Ϲ];have:=d (r.set (10+a) 1) j;unfold dZ at this;rw[this,List.length_set,List.getElem?_set];by_cases h1:(∃i∈l,10+i=j)/\j<r.length;rw[κ h1,κ ⟨by have⟨⟨i,b,e⟩,_⟩:=h1;exact⟨i,af9 _ b,e⟩,h1.2⟩];rw[Γ h1];by_cases h2:10+a=j;rw[κ h2];by_cases c:j<r.length;rw[κ ϖ,κ ⟨⟨a,ai4,h2⟩,c⟩];rw[Γ ϖ,Γ ϖ,ai7 ϖ];rw[Γ h2,Γ];rintro⟨⟨i,b,e⟩,c⟩;obtain rfl|b:=ac2.1 b;exact h2 e;exact h1 ⟨⟨i,b,e⟩,c⟩
def kJ(n:Nat):(i9 n).length=64:=by simp[i9,oo]
def y8(n:Nat)(m:eU)(k:Nat)(hm:∀i,(m i).isSome->i<k):dZ (i9 n) ((range k).filter λi=>(m i).isSome)=eX n m:=by
 apply an2;intro j;rw[A5,rR,Lz,kJ];by_cases h1:j<10;rw[κ h1,κ h1,Γ (by rintro⟨⟨i,_,e⟩,_⟩;omega)];rw[Γ h1,Γ h1];by_cases h2:j<64;rw[κ h2,κ h2];cases a:(m (j-10)).isSome with|true=>rw[κ ⟨⟨j-10,by rw[ai3,ah9];exact⟨hm _ a,a⟩,ϖ⟩,h2⟩];rfl|false=>rw[Γ];rfl;rintro⟨⟨i,hi,e⟩,_⟩;rw[ai3]at hi;obtain rfl:i=j-10:=ϖ;rw[a]at hi;exact absurd hi.2 (by decide)
 rw[Γ h2,Γ h2,Γ ϖ]
def upd(m:eU)(i:Nat)(v:Option dk):eU:=λj=>if j=i then v else m j
def EW(n:Nat)(m:eU)(i:Nat)(e:i<54)(v:Option dk):(eX n m).set (10+i) (if v.isSome then 1 else 0)=eX n (upd m i v):=by
 apply an2;intro j;rw[List.getElem?_set,jR,rR,rR];by_cases h1:10+i=j;have c:j-10=i:=ϖ;have a:¬(j<10):=ϖ;have d:j<64:=ϖ;have b:10+i<64:=ϖ;simp[upd,c,a,d,b,h1];rw[Γ h1];by_cases h2:j<10;rw[κ h2,κ h2];rw[Γ h2,Γ h2];have:¬(j-10=i):=ϖ;simp[upd,this]
def yK(l:ϑ)(o:Nat)(v:ϑ)(h:o+v.length<=l.length)(k:Nat):(splice l o v)[k]?=if k<o then l[k]? else if k<o+v.length then v[k-o]? else l[k]?:=by
 unfold splice;rw[an6,an6];simp only[af0,ac8,ai9,aj1];have h1:min o l.length=o:=ϖ;rw[h1];by_cases h2:k<o;simp[h2];omega;by_cases a:k<o+v.length;simp[h2,a];simp only[h2,a,if_false];congr 1;omega
def pE(l:ϑ)(o:Nat)(v:ϑ)(h:o+v.length<=l.length):(splice l o v).length=l.length:=by
 unfold splice;simp only[af0,ac8,am1];omega
def vr(s:Nat)(p c:ϑ)(a:p.length<=8)(b:c.length<=96)(k:Nat):
  (dc s p c)[k]?=if k<3 then(eL s p.length c.length)[k]? else if k<3+p.length then p[k-3]? else if k<11 then(eL s p.length c.length)[k]? else if k<11+c.length then c[k-11]? else(eL s p.length c.length)[k]?:=by
 have d:(eL s p.length c.length).length=128:=by simp[eL]
 unfold dc;rw[ν a,ν (by omega:c.length<=117)];rw[yK _ _ _ (by rw[pE _ _ _ ϖ];omega),yK _ _ _ ϖ];by_cases h1:k<3;rw[κ ϖ,κ h1,κ h1];rw[Γ h1,Γ h1];by_cases h2:k<3+p.length;rw[κ ϖ,κ h2,κ h2];rw[Γ h2,Γ h2]
def Um(s:Nat)(p c:ϑ)(a:p.length<=8)(d:c.length<=96):(dc s p c).length=128:=by
 have b:(eL s p.length c.length).length=128:=by simp[eL]
 unfold dc;rw[ν a,ν (by omega:c.length<=117)];rw[pE _ _ _ (by rw[pE _ _ _ ϖ];omega),pE _ _ _ ϖ,b]
def zO(s p c:Nat):(eL s p c)[0]?=some (UInt8.ofNat s)/\(eL s p c)[1]?=some (UInt8.ofNat p)/\(eL s p c)[2]?=some (UInt8.ofNat c):=by
 refine⟨?_,?_,?_⟩<;>simp[eL,List.getElem?_set]
def Kw(s:Nat)(p c:ϑ)(hs:s<256)(a:p.length<=8)(b:c.length<=96):fJ (dc s p c)=s:=by
 unfold fJ fC;rw[al8,vr s p c a b,κ ϖ,(zO ..).1];simp;omega
def Q1(s:Nat)(p c:ϑ)(a:p.length<=8)(b:c.length<=96):fC (dc s p c) 1=p.length:=by
 unfold fC;rw[al8,vr s p c a b,κ ϖ,(zO ..).2.1];simp;omega
def Q2(s:Nat)(p c:ϑ)(a:p.length<=8)(b:c.length<=96):fC (dc s p c) 2=c.length:=by
 unfold fC;rw[al8,vr s p c a b,κ ϖ,(zO ..).2.2];simp;omega
def Gy(s:Nat)(p c:ϑ)(a:p.length<=8)(b:c.length<=96):dA (dc s p c)=p:=by
 unfold dA;rw[Q1 s p c a b,ϒ1 a];apply an2;intro k;rw[ai9];by_cases h:k<p.length;rw[κ h,aj1,vr s p c a b,Γ ϖ,κ ϖ];congr 1;omega;rw[Γ h,ai7 ϖ]
def rh(s:Nat)(p c:ϑ)(b:p.length<=8)(a:c.length<=96):bQ (dc s p c)=c:=by
 unfold bQ;rw[Q2 s p c b a,ϒ1 a];apply an2;intro k;rw[ai9];by_cases h:k<c.length;rw[κ h,aj1,vr s p c b a,Γ ϖ,Γ ϖ,Γ ϖ,κ ϖ];congr 1;omega;rw[Γ h,ai7 ϖ]
def ij{α:Type}[BEq α][LawfulBEq α]:∀(l r:List α),l.Nodup->(∀a∈l,a∈r)->l.length<=r.length
 |[],_,_,_=>ϛ
 |a::l,r,hn,hs=>by
  rw[ϒ4]at hn;have ha:a∈r:=hs a ai4;have h:=ij l (r.erase a) hn.2 λb d=>by
   have c:b≠a:=λe=>hn.1 (e▸d)
   exact(List.mem_erase_of_ne c).2 (hs b (af9 _ d))
  rw[List.length_erase_of_mem ha]at h;have:=List.length_pos_of_mem ha;rw[ϲ];omega
structure oW (L:List η)(n:Nat)(m:eU):Prop where
 len:L.length=64*n
 lo:16<=n
 root:kS L 0=eX n m
 recs:∀i f,m i=some f->kS L (1+2*i)++kS L (2+2*i)=dc f.set f.path f.content
 lt:∀i f,m i=some f->i<aH n
 good:∀i f,m i=some f->eR f.set f.path=true/\f.content.length<=96
 inj:∀i j f g,m i=some f->m j=some g->nameOf f=nameOf g->i=j
def oO(n:Nat):aH n<=54:=Nat.min_le_right ..
def L4(n i:Nat)(h:i<aH n):2+2*i<n:=by
 unfold aH at h;omega
def uT(h:eR s p=true):p.length<=8/\s<=3:=by
 unfold eR at h;split at h;unfold aX at h;simp only[χ,ai0]at h;omega;split at h;have:p=[]:=by simpa using h
 subst this;simp;omega;cases h
def lD(n:Nat)(m:eU):List dk:=(range (aH n)).filterMap m
section
variable {L:List η}{n:Nat}{m:eU}{x:DS}
def oW.Mn(h:oW L n m):∀i,(m i).isSome->i<aH n:=λi a=>by
 have⟨f,hf⟩:=Option.isSome_iff_exists.1 a;exact h.lt i f hf
def vS(h:oW x.bg n m)(a:x.waiting=[]):taken x n=(range (aH n)).filter λi=>(m i).isSome:=by
 unfold taken;rw[rT x a,h.root,He n m _ (oO n)]
def Db(h:oW x.bg n m)(a:x.waiting=[]){f:dk}(hf:m i=some f):cN x i=dc f.set f.path f.content:=by
 unfold cN DS.sec;rw[zi x a,zi x a,h.recs i f hf]
def Ff(h:oW x.bg n m)(b:x.waiting=[]){f:dk}(hf:m i=some f):fileAt x i=f:=by
 have hg:=h.good i f hf;have a:=uT hg.1;unfold fileAt;rw[Db h b hf,Kw _ _ _ ϖ a.1 hg.2,Gy _ _ _ a.1 hg.2,rh _ _ _ a.1 hg.2]
def p6(g:Nat->dk):∀(l:ϓ),(∀i∈l,∀f,m i=some f->g i=f)->(l.filter λi=>(m i).isSome).map g=l.filterMap m
 |[],_=>rfl
 |a::l,h=>by
  have b:=p6 g l λi c=>h i (af9 _ c)
  cases hm:m a with|none=>rw[ϓ1 (by simp[hm]),List.filterMap_cons_none hm,b]|some f=>rw[ϐ5 (by simp[hm]),ϴ,List.filterMap_cons_some hm,b,h a ai4 f hm]
def oJ(h:oW x.bg n m)(a:x.waiting=[]):aS x n=lD n m:=by
 unfold aS lD;rw[vS h a];exact p6 _ _ λi _ f hf=>Ff h a hf
def BN(h:oW x.bg n m)(a:x.waiting=[]){f:dk}(hf:m i=some f)(s:Int)(p:Ξ):named x s p i=((f.set:Int)==s&&aj f.path==p):=by
 have:=Ff h a hf;unfold fileAt at this;unfold named;rw[<-this]
def JE(s:Int)(p:Ξ)(i:Nat):∀(l:ϓ),i∈l->(∀j∈l,named x s p j=decide (j=i))->dl x s p l=i
 |[],h,_=>by simp at h
 |a::l,h,hn=>by unfold dl;rw[hn a ai4];by_cases ha:a=i;simp[ha];rw[decide_eq_false ha];obtain e|c:=ac2.1 h;exact absurd e.symm ha;simpa using JE s p i l c λj b=>hn j (af9 _ b)
def EF(s:Int)(p:Ξ):∀(l:ϓ),(∀j∈l,named x s p j=false)->dl x s p l=-1
 |[],_=>rfl
 |a::l,hn=>by unfold dl;rw[hn a ai4];simpa using EF s p l λj b=>hn j (af9 _ b)
def x7(h:oW x.bg n m)(a:x.waiting=[]):i∈taken x n↔∃f,m i=some f:=by
 rw[vS h a,ai3,ah9,Option.isSome_iff_exists];exact⟨λh=>h.2,λ⟨f,hf⟩=>⟨h.lt i f hf,f,hf⟩⟩
def Fc(h:oW x.bg n m)(b:x.waiting=[]){f:dk}(hf:m i=some f):dl x f.set (aj f.path) (taken x n)=i:=by
 refine JE _ _ i _ ((x7 h b).2 ⟨f,hf⟩) λj c=>?_
 have⟨g,hg⟩:=(x7 h b).1 c;rw[BN h b hg];by_cases a:j=i;subst a;rw[hf]at hg;obtain rfl:=ag2 hg;rw[vD];simp;rw[decide_eq_false a,ϓ6];by_cases h1:g.set=f.set;right;rw[vD,ae9];intro e;exact a (h.inj j i g f hg hf (by unfold nameOf;rw[h1,e]));left;rw[ae9];omega
def tE(h:oW x.bg n m)(a:x.waiting=[])(s:Nat)(p:ϑ)(b:∀i f,m i=some f->nameOf f≠(s,p)):dl x s (aj p) (taken x n)=-1:=by
 refine EF _ _ _ λj c=>?_
 have⟨g,hg⟩:=(x7 h a).1 c;rw[BN h a hg,ϓ6];by_cases h1:g.set=s;right;rw[vD,ae9];intro e;exact b j g hg (by unfold nameOf;rw[h1,e]);left;rw[ae9];omega
def Tp(h:oW x.bg n m)(a:x.waiting=[]){f:dk}(hf:m i=some f):x.content n f.set (aj f.path)=some f.content:=by
 have hg:=h.good i f hf;have b:=uT hg.1;unfold DS.content;rw[Fc h a hf];show some (bQ (cN x i))=_;rw[Db h a hf,rh _ _ _ b.1 hg.2]
def If(h:oW x.bg n m)(a:x.waiting=[])(s:Nat)(p:ϑ)(b:∀i f,m i=some f->nameOf f≠(s,p)):x.content n s (aj p)=none:=by
 unfold DS.content;rw[tE h a s p b];rfl
def holds(m:eU)(s:Nat)(p:ϑ)(r:Option (List η)):Prop:=
 match r with
 |some c=>∃i,m i=some ⟨s,p,c⟩
 |none=>∀i f,m i=some f->nameOf f≠(s,p)
def Fg(h:oW x.bg n m)(a:x.waiting=[]){s:Nat}{p:ϑ}{r:Option (List η)}(hr:holds m s p r):x.content n s (aj p)=r:=by
 cases r with|none=>exact If h a s p hr|some c=>have⟨i,b⟩:=hr;exact Tp h a b
def FH:∀(fs:List dk)(seen:List jD),(∀f∈fs,eR f.set f.path=true)->(seen++fs.map nameOf).Nodup->eQ seen fs=true
 |[],_,_,_=>rfl
 |f::fs,seen,h,hn=>by unfold eQ;rw[h f ai4,Bool.true_and,χ];constructor;rw[ϑ6,<-Bool.not_eq_true,List.contains_iff_mem];intro hm;rw[List.nodup_append]at hn;exact hn.2.2 _ hm _ ϛ rfl;refine FH fs _ (λg hg=>h g (af9 _ hg)) ?_;rw[List.append_assoc];exact hn
def oW.mem(h:oW L n m){f:dk}:f∈lD n m↔∃i,m i=some f:=by
 unfold lD;rw[ϓ5];exact⟨λ⟨i,_,hf⟩=>⟨i,hf⟩,λ⟨i,hf⟩=>⟨i,ah9.2 (h.lt i f hf),hf⟩⟩
def oW.nodup(h:oW L n m):((lD n m).map nameOf).Nodup:=by
 unfold lD List.Nodup;rw[ϒ3,List.pairwise_filterMap];refine List.Pairwise.imp ?_ List.pairwise_lt_range;intro i j a f hf g hg e;have:=h.inj i j f g hf hg e;omega
def LD(h:oW x.bg n m)(a:x.waiting=[]):x.sound n=true:=by
 unfold DS.sound;rw[χ,χ];refine⟨?_,?_,?_⟩;unfold DS.vR;rw[vS h a,y8 n m _ h.Mn,rT x a,h.root];simp;unfold DS.pu;rw[ae7];intro i c;have⟨f,hf⟩:=(x7 h a).1 c;have hg:=h.good i f hf;have b:=uT hg.1;unfold xa;rw[Db h a hf,Kw _ _ _ ϖ b.1 hg.2,Gy _ _ _ b.1 hg.2,rh _ _ _ b.1 hg.2];simp;unfold DS.eQ;rw[oJ h a];refine FH _ _ (λf hf=>?_) (by simpa using h.nodup);have⟨i,c⟩:=h.mem.1 hf;exact(h.good i f c).1
end
def xq(root:ϑ)(M:Nat):∀(f k:Nat),eP root M f k=-1->∀i,k<=i->i<M->i<k+f->dP root i≠0
 |0,k,_,i,h1,_,h3=>ϖ
 |f+1,k,h,i,h1,h2,h3=>by unfold eP at h;rw[κ ϖ]at h;split at h;omega;rename_i hk;by_cases e:i=k;subst e;intro h0;exact hk (by simp[h0]);exact xq root M f (k+1) h i ϖ h2 ϖ
def vk(root:ϑ)(M:Nat):∀(f k:Nat),eP root M f k≠-1->∃i:Nat,i<M/\eP root M f k=i/\dP root i=0
 |0,k,h=>absurd rfl h
 |f+1,k,h=>by unfold eP at h⊢;by_cases h1:k<M;rw[κ h1]at h⊢;by_cases h2:(dP root k==0)=true;rw[κ h2];exact⟨k,h1,rfl,by simpa using h2⟩;rw[Γ h2]at h⊢;exact vk root M f (k+1) h;rw[Γ h1]at h;exact absurd rfl h
def OP{n:Nat}{m:eU}{x:DS}(h:oW x.bg n m)(g:x.waiting=[])(a:∃i,i<aH n/\m i=none):∃i:Nat,i<aH n/\eF x n=i/\m i=none:=by
 have j:=oO n;unfold eF;rw[rT x g,h.root];have b:eP (eX n m) (aH n) (aH n) 0≠-1:=by intro e;have⟨i,c,hm⟩:=a;have:=xq _ _ _ _ e i ϖ c ϖ;rw[rX n m i,hm]at this;exact this rfl
 have⟨i,c,e,hm⟩:=vk _ _ _ _ b;refine⟨i,c,e,?_⟩;rw[rX n m i]at hm;cases d:m i with|none=>rfl|some f=>rw[d]at hm;simp at hm
end
section
open Go.RowKit Go.Lib Go.Sort
def vL:(ps.mergeSort λx y=>decide (x<=y)).Pairwise λx y=>x<=y:=by
 have h:=List.pairwise_mergeSort (le:=λx y:List η=>decide (x<=y)) (λa b c h1 h2=>by simp only[ai0]at*;exact List.le_trans h1 h2)
  (λa b=>by simp only[ak7,ai0];exact List.le_total a b) ps
 exact h.imp λh=>by simpa using h
def GJ{a:ϑ}(h:a∈compact qs):a∈qs:=by
 unfold compact compactUpTo at h;have⟨i,c,e⟩:=ac9.1 h;have b:=ah9.1 (ai3.1 c).1;rw[al9 qs.toArray i (by simpa using b)]at e;rw[<-e];simp
def Bh(hs:qs.Pairwise λx y=>x<=y):(compact qs).Nodup:=by
 unfold compact compactUpTo List.Nodup;rw[ϒ3];refine(List.pairwise_lt_range.filter _).imp_of_mem ?_;intro i j g c f e;have b:=ah9.1 (ai3.1 g).1;have a:=ah9.1 (ai3.1 c).1;have hk:=(ai3.1 c).2;unfold keeps at hk;rw[ai0]at hk;obtain hk|hk:=hk;omega;rw[al9 qs.toArray i (by simpa using b),al9 qs.toArray j (by simpa using a)]at e;rw[al9 qs.toArray (j-1) (by simp;omega),al9 qs.toArray j (by simpa using a)]at hk;simp only[List.getElem_toArray]at e hk;rw[am8]at hs;have h1:qs[i]<=qs[j-1]:=by by_cases d:i=j-1;subst d;exact List.le_refl _;exact hs i (j-1) b ϖ ϖ
 have h2:qs[j-1]<=qs[j]:=hs (j-1) j ϖ a ϖ;exact hk (List.le_antisymm (e▸h1) h2)
structure nU (S:List Nat)(w w':Φ):Prop where
 os:w'.os=w.os
 size:w.heap.size<=w'.heap.size
 block:∀k,k<w.heap.size->k∉S->w'.heap[k]?=w.heap[k]?
def aG.blk(h:aG S w w'):nU S w w':=⟨h.os,h.size,h.block⟩
def nU.refl(S:ϓ)(w:Φ):nU S w w:=⟨rfl,ε _,λ_ _ _=>rfl⟩
def nU.tape(h:nU S w w')(t:Go.Proofs.YtchcmhodnkgojaaGreat.eH)(d:Nat):nU S w (az w' t d):=⟨h.os,h.size,h.block⟩
def nU.trans{S T:ϓ}{w w' a:Φ}(h:nU S w w')(b:nU T w' a)(hs:∀i∈T,i∈S\/w.heap.size<=i:=by simp):nU S w a:=
 ⟨b.os.trans h.os,ac3 h.size b.size,λk hk c=>(b.block k (ω hk h.size) λx=>(hs k x).elim c λq=>ϖ).trans (h.block k hk c)⟩
def nU.mono{T:ϓ}(h:nU S w w')(hs:∀i∈S,i∈T\/w.heap.size<=i:=by simp):nU T w w':=⟨h.os,h.size,λk hk a=>h.block k hk λx=>(hs k x).elim a λq=>ϖ⟩
namespace gz
namespace Sq
def OR{E:aB.Env}{f:ac5}{k:ϕ}(a':Act)(e:a=a')(h:aB.CI E f k R a' wL):aB.CI E f k R a wL:=e▸h
def KG(f:Ξ->Option Θ)(wL:Φ)(v:Θ)(w':Φ):Prop:=∃ps:List (List η),ps.Pairwise (·<=·)/\ps.Nodup/\(∀l,l∈ps↔f (aj l)≠none)/\nU [] wL w'/\
 ((v=.slice none 0 0/\ps=[])\/∃g cap,v=.slice (some ⟨g,0,none⟩) ps.length cap/\wL.heap.size<=g/\g<w'.heap.size/\Holds encStr w' g 0 ps.toArray)
def Nb{E:aB.Env}{bx:Nat}{f:Ξ->Option Θ}(h:aB.CC E 134 #[Jh bx] (Nv f wL) wL)(G:∀ks:List Ξ,ks.Nodup->(∀s,s∈ks↔f s≠none)->ks.length<1000000):
  aB.CC E 89 #[Jh bx] (KG f wL) wL:=by
 refine aB.jZ func89 rfl ?_;refine aB.dI (aB.ep (eT _ rfl (.inl rfl) rfl (aB.cT ?_)));refine aB.dI (aB.ep (eT _ rfl (.inr rfl) rfl ?_));refine jY (f2:=134) #[.tmp 4] #[Jh bx] (R2:=Nv f wL) rfl rfl ϰ (λb w=>ϰ) ϰ h λv w1 V Y=>?_
 refine eT _ rfl (.inl rfl) rfl (aB.cT ?_);refine OR {tmps:=#[Jh bx,ϗ,.slice none 0 0,v,Jh bx,v,ϗ,ϗ,ϗ],defers:=[]} ϰ ?_;have⟨ks,O,c,hv⟩:=V;have u:=G ks O c;obtain⟨rfl,rfl,t,d,rfl⟩|⟨cap,rfl,hle,t,d,rfl⟩:=hv
 .refine aB.cU none ⟨_,func89⟩ (λw=>nU [] wL w) (λw t d h=>h.tape t d) ((nU.refl ..).tape t d) λw B hs=>?_
  go_wp2_with fail;refine(Tryz.slices_Sort_string_none none 0 w).mono ?_;rintro e o⟨rfl,rfl⟩;go_wp2;exact⟨o.tape,o.drawn,.slice none 0 0,ϰ,[],.nil,.nil,λl=>by rw[<-c];simp,B,.inl ⟨rfl,rfl⟩⟩
 .obtain⟨qs,n⟩:∃qs:List (List η),qs=ks.map λk=>k.data.toList:=⟨_,rfl⟩
  have A:qs.length=ks.length:=by rw[n];simp
  have q:ks.map Value.string=qs.map encStr:=by
   rw[n,List.map_map];refine List.map_congr_left λk _=>?_
   simp[encStr]
  have D:∀l,l∈qs↔f (aj l)≠none:=λl=>by rw[n,ac9,<-c];constructor;rintro⟨k,hk,rfl⟩;simpa[aj] using hk;intro U;exact⟨aj l,U,by simp[aj]⟩
  have I:qs.Nodup:=by rw[n];refine List.Pairwise.map _ (λa b M W=>M ?_) O;have:a.data=b.data:=Array.ext' W;cases a;cases b;simp_all
  have F:qs.length<4611686018427387904:=ϖ;rw[<-A,q];clear q A u n c O;refine aB.cU none ⟨_,func89⟩ (λw=>nU [] wL w/\wL.heap.size<w.heap.size/\Holds encStr w wL.heap.size 0 qs.toArray) (λw t d h=>⟨h.1.tape t d,h.2.1,h.2.2⟩) ⟨?_,?_,?_⟩ λw B hs=>?_
  exact⟨rfl,by simp[az],λk hk _=>by show(wL.heap.push _)[k]?=_;rw[ac6 hk];exact(τ hk).symm⟩;show wL.heap.size<(wL.heap.push _).size;simp;intro j S;have r:j<qs.length:=by simpa using S
  have p:(az {wL with heap:=wL.heap.push (.cells (qs.map encStr++replicate (cap-qs.length) (Value.string ⟨#[]⟩)).toArray gz.lj (0,0))} t d).heap[wL.heap.size]?=some (.cells (qs.map encStr++replicate (cap-qs.length) (Value.string ⟨#[]⟩)).toArray gz.lj (0,0)):=by show(wL.heap.push _)[wL.heap.size]?=_;simp
  refine⟨?_,Lib.frozen_of_heap p _⟩;rw[Lib.cell_of_heap p,ϐ9];rw[List.getElem?_toArray,List.getElem?_append_left (by simpa using r),al9 qs.toArray j S];simp[r];have⟨R,hg,P⟩:=B;generalize z:wL.heap.size=g at*;go_wp2_with fail;refine(Tryz.slices_Sort_string g 0 cap qs w P hg F).mono ?_;rintro e o⟨rfl,m,os,H⟩;have K:(qs.mergeSort λx y=>decide (x<=y)).length=qs.length:=ϑ1 _;have C:Holds encStr o g 0 (qs.mergeSort λx y=>decide (x<=y)).toArray:=by rw[H];exact holds_grow _ _ _ _ _ _ (by rw[size_putRow];exact hg) (holds_putRow _ _ _ _ _ _ (holds_ahead _ _ _ _ _ _ P) ϛ)
  have N:aG [g] w o:=by rw[H];exact(((Qd w m).mono (T:=[g]) ϛ).trans (pI encStr _ g 0 _) λi hi=>.inl hi).trans (vj ..)
  have Z:nU [] wL o:=R.trans N.blk (by simp[z]);have Q:g<o.heap.size:=ω hg N.size;have X:(qs.mergeSort λx y=>decide (x<=y)).Pairwise (·<=·):=vL;have L:(qs.mergeSort λx y=>decide (x<=y)).Nodup:=(List.mergeSort_perm ..).nodup_iff.2 I;have J:∀l,l∈(qs.mergeSort λx y=>decide (x<=y))↔f (aj l)≠none:=λl=>by rw[ϕ5];exact D l
  clear H N P R hs;generalize (qs.mergeSort λx y=>decide (x<=y))=rs at*;go_wp2;exact⟨o.tape,o.drawn,.slice (some ⟨g,0,none⟩) qs.length cap,ϰ,rs,X,L,J,Z,.inr ⟨g,cap,by rw[K],by rw[z];exact ε _,Q,C⟩⟩
end Sq
end gz
end
section
open Go.RowKit Go.Lib
def mo(a b:Option (Bool×Ξ)):Option Nat:=match a,b with
 |none,_=>some 1
 |some _,none=>some 0
 |some x,some y=>if x=y then some 0 else none
section
variable {P:aa1}{ops:Array Oper}{Q:Exit->Act->Φ->Prop}{a:Act}{w:Φ}{rest:List Oper}{o:Oper}
def JA(b:wanted o (yielded ops a.tmps)=true)(v:Θ)(w1:Φ)(hr:(execOp a.eval o).run P w=.ok (.value v) w1)(h:wpList P ops Q rest (a.put o.dst v) w1):wpList P ops Q (o::rest) a w:=by
 unfold wpList;rw[κ b];refine .inl ?_;unfold Oper.wp;rw[hr];exact h
end
def K6(a b:Bool)(xs ys:Ξ):mo (some (a,xs)) (some (b,ys))=if(a==b&&xs==ys)=true then some 0 else none:=by
 have e:((a==b&&xs==ys)=true)↔(a,xs)=(b,ys):=by rw[χ,ai5,Go.MapKept.bytes_beq,ai6]
 show(if(a,xs)=(b,ys)then some 0 else none)=_;by_cases h:(a,xs)=(b,ys)
 rw[κ h,κ (e.2 h)];rw[Γ h,Γ λq=>h (e.1 q)]
def Th(b1 b2:Bool)(s1 s2:Ξ):gz.RT (m6.bin .eql gz.TH (gz.hv b1 s1) (gz.hv b2 s2)).sem w (.value (.bool (b1==b2&&s1==s2))) w #[]:=by
 have hg:prog.eqGuardType prog.depth gz.TH=false:=ϰ;refine gz.RT.bk (x:=.bool (b1==b2&&s1==s2)) (gz.RT.bk (x:=()) (w1:=w) ?_ ?_) (.pure _);unfold eqGuard;simp only[gz.hv];refine gz.iz.bk (gz.iz.bk ?_);rw[hg];exact .pure _;exact gz.RT.bk (gz.BK 9998 b1 b2 s1 s2) (.pure _)
section
variable {ops:Array Oper}{Q:Exit->Act->Φ->Prop}{a:Act}{w:Φ}{rest:List Oper}{o:Oper}
def Sw(c:wanted o (yielded ops a.tmps)=true)(x y:Nat)(u:θ)(b:o.op=.binOp .eql gz.TH (.tmp x) (.tmp y) u){b1 b2:Bool}(e:a.eval (.tmp x)=gz.hv b1 s1)(d:a.eval (.tmp y)=gz.hv b2 s2)(h:wpList prog ops Q rest (a.put o.dst (.bool (b1==b2&&s1==s2))) w):wpList prog ops Q (o::rest) a w:=by
 refine JA c _ w ?_ h;have:=(Th (w:=w) b1 b2 s1 s2).run;unfold execOp;rw[b];show(do pure (.value (<-(do eqGuard .eql gz.TH (.tmp x) (.tmp y) (a.eval (.tmp x)) (a.eval (.tmp y));binOp .eql gz.TH (a.eval (.tmp x)) (a.eval (.tmp y))))):Sem Next).run _ _=_;rw[e,d,Ki _ _ _ _ rfl rfl];exact this
def El(g:wanted o (yielded ops a.tmps)=true)(t:θ)(x:ac4)(i:o.op=.load t x)(b off:Nat)(e:a.eval x=.pointer (some ⟨b,off,none⟩)){f:Nat×Nat}(hr:w.heap[b]?=some (.cells cs u f))(ha:(prog.underlying t).map (λd=>match d with|.struct _|.array _ _=>true|_=>false)=some true)(j:(prog.info? t).map (·.size)=some n)(c:off+n<=cs.size)(v:Θ)(hv:Value.agg (cs.extract off (off+n))=v)(h:wpList prog ops Q rest (a.put o.dst v) w):wpList prog ops Q (o::rest) a w:=by
 have⟨ev,h1,_⟩:=gz.kU hr ha j c;rw[hv]at h1;refine JA g _ w ?_ h;have:=h1.run;unfold execOp;rw[i];show(do pure (.value (<-Instr.loadAt t (a.eval x))):Sem Next).run _ _=_;rw[e];exact this
end
theorem Ho(a b:Option (Bool×Ξ))(w:Φ):
  Calls prog 91 #[.agg (gz.cA a b)] w λe w'=>e=.returned (.tuple #[.int .i64 ((mo a b).getD 0),.bool (mo a b).isSome])/\aG [] w w':=by
 go_enter func91,ntmps91;go_wp2_with (with_reducible refine bv rfl ?_);refine eZ rfl 164 _ rfl (.agg (gz.cA a b)) rfl ?_;intro w1 b1 l1 f1 h;have c0:=h.val 0 (.bool a.isSome);have c1:=h.val 1 (.bool b.isSome);cases a with
 |none=>
  simp only[Option.isSome_none]at c0;go_wp2_with (with_reducible first|refine ax 161 rfl ?_|refine ft 161 rfl ?_)
  go_ret2
  exact⟨rfl,f1⟩
 |some x=>
  simp only[Option.isSome_some]at c0;cases b with
  |none=>
   simp only[Option.isSome_none]at c1;go_wp2_with (with_reducible first|refine ax 161 rfl ?_|refine ft 161 rfl ?_)
   go_ret2
   exact⟨rfl,f1⟩
  |some y=>
   simp only[Option.isSome_some]at c1;go_wp2_with (with_reducible first|refine ax 161 rfl ?_|refine ft 161 rfl ?_);obtain⟨d,xs⟩:=x;obtain⟨f,ys⟩:=y;refine El rfl 161 _ rfl b1 2 rfl h ϰ (n:=2) ϰ (by simp[gz.cA,Value.cells]) (gz.hv d xs) (by simp[gz.cA,Value.cells,gz.hv]) ?_;go_wp2_with (with_reducible first|refine ax 161 rfl ?_|refine ft 161 rfl ?_);refine El rfl 161 _ rfl b1 4 rfl h ϰ (n:=2) ϰ (by simp[gz.cA,Value.cells]) (gz.hv f ys) (by simp[gz.cA,Value.cells,gz.hv]) ?_;go_wp2_with (with_reducible first|refine ax 161 rfl ?_|refine ft 161 rfl ?_);refine Sw rfl 15 18 _ rfl (b1:=d) (b2:=f) (s1:=xs) (s2:=ys) rfl rfl ?_;have c:=K6 d f xs ys;cases g:(d==f&&xs==ys)with
   |true=>
    have hs:Hid (mo (some (d,xs)) (some (f,ys))=some 0):=by show _=_;rw[c,g];rfl
    clear c;go_wp2_with (with_reducible first|refine ax 161 rfl ?_|refine ft 161 rfl ?_)
    go_ret2
    exact⟨by rw[hs.out];rfl,f1⟩
   |false=>
    have hs:Hid (mo (some (d,xs)) (some (f,ys))=none):=by show _=_;rw[c,g];rfl
    clear c;go_wp2_with (with_reducible first|refine ax 161 rfl ?_|refine ft 161 rfl ?_)
    go_ret2
    exact⟨by rw[hs.out];rfl,f1⟩
end
section
open Go.RowKit Go.Lib Go.Sort
open Go.Conc (base G stepG_value listed)
namespace gz
namespace Sq
abbrev Xg:Nat:=90
def Xy(m:Nat)(wL:Φ)(v:Θ)(w':Φ):Prop:=v=Jh wL.heap.size/\∃t d,w'=az {wL with heap:=wL.heap.push (.cells #[.map (some m)] RW (0,0))} t d
def iI{E:aB.Env}{f:ac5}{k:ϕ}{w1:Φ}{rest:ϓ}(v:Θ)(b:ops[i]?=some o)(hg:o.guard=none)(hr:∀t d,(execOp a.eval o).run PP (az wL t d)=.ok (.value v) (az w1 t d))(h:aB.CI E f (.inRegion ops rest::k) R (a.put o.dst v) w1)(xo:og PP S0 E0 true o=true:=by kernel_rfl):aB.CI E f (.inRegion ops (i::rest)::k) R a wL:=by
 refine aB.Xk b xo hg λt d=>?_
 rw[hr];exact(aB.pO t d).2 h
def GO{E:aB.Env}{f:ac5}{k:ϕ}{R:ϥ}{a:Act}{wL:Φ}{ops:Ϝ}{i:Nat}{rest:ϓ}{o:Oper}(g j:Nat)(y:ops[i]?=some o)(hg:o.guard=none)(m:o.op=.makeFunc (.func g) #[] #[.tmp j])(h:aB.CI E f (.inRegion ops rest::k) R (a.put o.dst (.func (.func g) #[] #[a.eval (.tmp j)])) wL):aB.CI E f (.inRegion ops (i::rest)::k) R a wL:=λCS π M tr v ha hd hk=>by
 have l:∀c:Array Θ,wanted o (yielded ops c)=true:=λc=>by simp[wanted,hg]
 have n:(base f).kind≠.early:=by simp[base]
 have hv:VV (iT E.H wL) (a.eval (.tmp j)):=pL (x:=.tmp j) ha rfl;have hr:∀w es,(execOp (bF π a []).eval o).runT PP w es=(.ok (.value (.func (.func g) #[] #[(bF π a []).eval (.tmp j)])) w,es):=λw es=>by unfold execOp;rw[m];show(do pure (.value (<-Instr.makeFunc (.func g) ((#[]:Array ac4).map (bF π a []).eval) ((#[.tmp j]:Array ac4).map (bF π a []).eval))):Sem Next).runT PP w es=_;rw[show(#[]:Array ac4).map (bF π a []).eval=#[] by simp,show(#[.tmp j]:Array ac4).map (bF π a []).eval=#[(bF π a []).eval (.tmp j)] by simp];rfl
 have p:∀w,listed PP (base f).fn (bF π a []) o w=#[]:=λw=>by unfold listed;rw[show(execOp (bF π a []).eval o).events PP w #[]=#[]from congrArg Prod.snd (hr w #[])];simp[seen]
 refine aB.iC v (λw=>by rw[stepG_value y (l _) n (by rw[<-Sem.runT_fst PP _ w #[],hr]),p]) λu t b=>?_
 have e:(bF π a []).put o.dst (.func (.func g) #[] #[(bF π a []).eval (.tmp j)])=bF π (a.put o.dst (.func (.func g) #[] #[a.eval (.tmp j)])) []:=by
  have h1:=uJ (π:=π) a o.dst (.func (.func g) #[] #[a.eval (.tmp j)]);have h2:ren π (.func (.func g) #[] #[a.eval (.tmp j)])=.func (.func g) #[] #[(bF π a []).eval (.tmp j)]:=by
   have q:(bF π a []).eval (.tmp j)=ren π (a.eval (.tmp j)):=by show(a.tmps.map (ren π)).getD j ϗ=_;rw[kZ];rfl
   rw[q];simp[qL]
  rw[<-h2];exact h1
 rw[e]at b;refine h CS π u t b (mE ha λr hr=>?_) ((put_defers ..).trans hd) hk;cases hr with
 |first d _=>simp at d
 |Ji d s=>simp at d;subst d;exact hv r s
def VE{E:aB.Env}(m:Nat):aB.CC E Xg #[.map (some m)] (Xy m wL) wL:=by
 refine aB.jZ func90 rfl ?_;refine aB.dI (aB.ep (iI (w1:={wL with heap:=wL.heap.push (.cells #[.map (some m)] RW (0,0))}) (pb wL.heap.size) rfl rfl (λt d=>ϰ) ?_));refine eT _ rfl (.inl rfl) rfl (aB.cT ?_);refine aB.dI (aB.ep (GO Xf 1 rfl rfl rfl ?_));refine eT _ rfl (.inl rfl) rfl (aB.cT (aB.DY ?_));exact⟨Jh wL.heap.size,ϰ,rfl,wL.tape,wL.drawn,rfl⟩
end Sq
end gz
def iZ(x:DS)(n:Nat)(s:Int):gz.jE:=gz.lh (s9 s (aS x n)) (s9 2 (aS x n))
def jl(a b:gz.jE)(ps:List (List η)):List (List η×Nat):=ps.filterMap λl=>(mo (a (aj l)) (b (aj l))).map λs=>(l,s)
def kC(b a:gz.jE)(ps:List (List η)):List (List η):=ps.filter λl=>(mo (b (aj l)) (a (aj l))).isNone
def cV(ss:List (List η×Nat)):List Θ:=ss.flatMap λp=>[.string (aj p.1),.int .i64 p.2]
def Kr(set:Int)(fs:List dk)(s:Ξ)(h:s9 set fs s≠none):∃f∈fs,s=aj f.path:=by
 have key:∀(fs:List dk)(g:Ξ->Option Ξ),fs.foldl (λg f=>if(f.set:Int)=set then λs=>if s=aj f.path then some (aj f.content)else g s else g) g s≠none->(∃f∈fs,s=aj f.path)\/g s≠none:=by
  intro fs;induction fs with
  |nil=>intro g h;exact .inr h
  |cons f fs b=>intro g h;obtain⟨x,hx,e⟩|h:=b _ h;exact .inl ⟨x,by simp[hx],e⟩;dsimp only at h;by_cases hs:(f.set:Int)=set;rw[κ hs]at h;by_cases a:s=aj f.path;exact .inl ⟨f,ϛ,a⟩;rw[Γ a]at h;exact .inr h;rw[Γ hs]at h;exact .inr h
 obtain h|h:=key fs _ h;exact h;exact absurd rfl h
def Vd{s:Ξ}(h:gz.comb (iZ x n 0 s) (iZ x n 1 s)≠none):∃f∈aS x n,s=aj f.path:=by
 have one:∀set,iZ x n set s≠none->∃f∈aS x n,s=aj f.path:=λset hs=>by
  unfold iZ gz.lh at hs;split at hs;exact absurd rfl hs;rename_i a;by_cases h1:s9 set (aS x n) s=none;exact Kr 2 _ s λq=>a (h1.trans q.symm)
  exact Kr set _ s h1
 by_cases h0:iZ x n 0 s=none;by_cases h1:iZ x n 1 s=none;rw[h0,h1]at h;exact absurd rfl h;exact one 1 h1;exact one 0 h0
def few(ks:List Ξ)(g:ks.Nodup)(h:∀s∈ks,gz.comb (iZ x n 0 s) (iZ x n 1 s)≠none):ks.length<=54:=by
 have i:(aS x n).length<=54:=by unfold aS;rw[af2];exact fM x n
 have h1:(ks.map λk=>k.data.toList).Nodup:=by refine List.Pairwise.map _ (λa b c d=>c ?_) g;have:a.data=b.data:=Array.ext' d;cases a;cases b;simp_all
 have h2:=ij (ks.map λk=>k.data.toList) ((aS x n).map (·.path)) h1 λa ha=>by obtain⟨k,hk,rfl⟩:=ac9.1 ha;have⟨f,hf,e⟩:=Vd (h k hk);refine ac9.2 ⟨f,hf,?_⟩;rw[e];simp[aj]
 simp at h2;omega
def gz.dU.few{c:Nat}{f:Ξ->Option Θ}(h:gz.dU es c f):∃ks:List Ξ,ks.Nodup/\ks.length=es.size/\∀s∈ks,f s≠none:=by
 refine⟨es.toList.map λe=>match e.key with|.string s=>s|_=>⟨#[]⟩,?_,ϛ,λs hs=>?_⟩;have k:=((Go.MapKept.stamped_iff es c).1 h.stamped).2.2;refine(ϒ3).2 (k.imp_of_mem fun {a b} ha j g d=>?_);have⟨s,hs⟩:=gz.jA (h.keys a ha);have⟨s',i⟩:=gz.jA (h.keys b j);rw[hs,i]at d g;simp only at d;subst d;simp_all;obtain⟨e,d,rfl⟩:=ac9.1 hs;have⟨s,hs⟩:=gz.jA (h.keys e d);rw[hs];rw[(h.has s e.val).2 ⟨e,d,hs,rfl⟩];simp
end
section
open Go.RowKit Go.Lib Go.Sort
open Go.Conc (base G)
def si:Elem prog 109 168 2 24:=⟨ϰ,ϰ,ϖ⟩
def Rb{a b:Option (Bool×Ξ)}:gz.comb a b≠none↔(a≠none\/b≠none):=by
 unfold gz.comb;cases a<;>cases b<;>simp
def World.ownsRow.al7{base:Nat}(h:w.ownsRow base e size v n xs)(f:nU S w w')(b:∀g,v.ownBlock=some g->g∉S):w'.ownsRow base e size v n xs:=by
 refine⟨h.1,h.2.imp id λ⟨g,cap,cur,e1,e2,a,c⟩=>⟨g,cap,cur,e1,e2,?_,c⟩⟩;rw[f.block g (Ψ.1 a).1 (b g (by rw[e1];rfl))];exact a
def Ev(a b:gz.jE)(ps:List (List η))(k:Nat)(hk:k<ps.length):jl a b (ps.take (k+1))=jl a b (ps.take k)++((mo (a (aj ps[k])) (b (aj ps[k]))).map λs=>(ps[k],s)).toList:=by
 unfold jl;rw[ac0 hk,List.filterMap_append];congr 1
 all_goals (cases h:mo (a (aj ps[k])) (b (aj ps[k]))<;>simp[h])
def GI(a b:gz.jE)(ps:List (List η))(k:Nat)(hk:k<ps.length):kC a b (ps.take (k+1))=kC a b (ps.take k)++if(mo (a (aj ps[k])) (b (aj ps[k]))).isNone then[ps[k]]else[]:=by
 unfold kC;rw[ac0 hk,ϕ4];congr 1
 all_goals (cases h:mo (a (aj ps[k])) (b (aj ps[k]))<;>simp[h])
def Hi(b a:gz.jE)(ps:List (List η)):(jl b a ps).length<=ps.length:=ϒ5 ..
def Jb(b a:gz.jE)(ps:List (List η)):(kC b a ps).length<=ps.length:=ϐ2 ..
def uh(a b:List (List η×Nat)):cV (a++b)=cV a++cV b:=by simp[cV]
section
variable {ops:Array Oper}{Q:Exit->Act->Φ->Prop}{a:Act}{w:Φ}{rest:List Oper}{o:Oper}
def wO{x:ac4}{b:Bool}(_:o.op=.lookup t x y b)(h:af (wpList prog ops Q (o::rest) a w)):wpList prog ops Q (o::rest) a w:=h
def KR(hg:o.guard=none)(t kt vt:θ)(x y:ac4)(e:o.op=.lookup t x y false)(i:prog.underlying t=some (.map kt vt))(hk:prog.underlying kt=some .string)(b:(prog.info? vt).bind (·.zero)=some z){c:Nat}{f:Ξ->Option Θ}{s:Ξ}(d:a.eval x=.map (some m))(g:a.eval y=.string s)(hm:w.heap[m]?=some (.map es c))(hf:gz.dU es c f)(v:Θ)(hv:(f s).getD z=v)(h:wpList prog ops Q rest (a.put o.dst v) w):wpList prog ops Q (o::rest) a w:=by
 refine bX hg v w ?_ h;have:=(gz.rP (t:=t) (s:=s) i hk b hm hf).run;rw[hv]at this;unfold execOp;rw[e];show(do pure (.value (<-Instr.lookup t (a.eval x) (a.eval y) false)):Sem Next).run _ _=_;rw[d,g];exact this
end
def _root_.Go.World.ownsRow.weak{base base':Nat}(h:w.ownsRow base e size v n xs)(b:base'<=base):w.ownsRow base' e size v n xs:=
 ⟨h.1,h.2.imp id λ⟨g,cap,cur,e1,e2,a⟩=>⟨g,cap,cur,e1,ac3 b e2,a⟩⟩
def XB(x:DS)(n:Nat)(wL:Φ)(v:Θ)(w':Φ):Prop:=∃(ps:List (List η)) (sv a:Θ),ps.Pairwise (·<=·)/\ps.Nodup/\(∀l,l∈ps↔gz.comb (iZ x n 0 (aj l)) (iZ x n 1 (aj l))≠none)/\
 v=.tuple #[sv,a]/\nU [] wL w'/\w'.ownsRow wL.heap.size 168 2 sv (jl (iZ x n 0) (iZ x n 1) ps).length (cV (jl (iZ x n 0) (iZ x n 1) ps))/\
 w'.ownsRow wL.heap.size 9 1 a (kC (iZ x n 0) (iZ x n 1) ps).length (bJ (kC (iZ x n 0) (iZ x n 1) ps))
open gz gz.Sq in
theorem VF{E:aB.Env}{wL:Φ}{d bl n:Nat}{x:DS}(hd:gz.ie d bl n x wL):aB.CC E 55 #[.pointer (some ⟨d,0,none⟩)] (XB x n wL) wL:=by
 refine aB.jZ func55 rfl ?_;refine aB.dI (aB.ep (eT _ rfl (.inl rfl) rfl (eT _ rfl (.inl rfl) rfl (aB.cT ?_))));refine aB.dI (aB.ep (eT _ rfl (.inl rfl) rfl (aB.cT ?_)));refine aB.dI (aB.ep (eT _ rfl (.inl rfl) rfl (aB.cT ?_)));refine aB.dI (aB.ep (eT _ rfl (.inr rfl) rfl ?_));refine jY (f2:=88) #[.tmp 11] #[.pointer (some ⟨d,0,none⟩)] (R2:=aiq x n wL) rfl rfl ϰ (λb w=>ϰ) ϰ (Jf hd) λv w1 hR _=>?_
 obtain⟨es,c,rfl,⟨t1,d1,rfl⟩,hD⟩:=hR;refine(aB.pO t1 d1).2 ?_;obtain⟨es',c',f,e0,hm,hf⟩:=hD;cases e0;have hfix:=GF (a:=iZ x n 0) (b:=iZ x n 1) (es:=es) (c:=c) ⟨es,c,f,rfl,hm,hf⟩;have hf':∀s,f s=comb (iZ x n 0 s) (iZ x n 1 s):=hf;obtain⟨w1,hw1⟩:∃w1,w1={wL with heap:=wL.heap.push (.map es c)}:=⟨_,rfl⟩
 rw[<-hw1];have hes:es.size<=54:=by obtain⟨ks,k1,k2,k3⟩:=hm.few;rw[<-k2];exact few (x:=x) (n:=n) ks k1 λs hs=>by rw[<-hf'];exact k3 s hs
 have B1:nU [] wL w1:=by rw[hw1];exact⟨rfl,ϛ,λk hk _=>by show(wL.heap.push _)[k]?=_;rw[ac6 hk];exact(τ hk).symm⟩
 have hM1:w1.heap[wL.heap.size]?=some (.map es c):=by rw[hw1];simp
 have s1:w1.heap.size=wL.heap.size+1:=by rw[hw1];simp
 clear hw1;refine eT _ rfl (.inl rfl) rfl (aB.cT ?_);refine aB.dI (aB.dI (aB.ep (eT _ rfl (.inr rfl) rfl ?_)));refine jY (f2:=Xg) #[.tmp 13] #[.map (some wL.heap.size)] (R2:=Xy wL.heap.size w1) rfl rfl ϰ (λb w=>ϰ) ϰ (VE _) λv w2 hR _=>?_
 obtain⟨rfl,t2,d2,rfl⟩:=hR;refine(aB.pO t2 d2).2 ?_;obtain⟨w2,hw2⟩:∃w2,w2={w1 with heap:=w1.heap.push (.cells #[.map (some wL.heap.size)] RW (0,0))}:=⟨_,rfl⟩
 rw[<-hw2];have B2:nU [] w1 w2:=by rw[hw2];exact⟨rfl,ϛ,λk hk _=>by show(w1.heap.push _)[k]?=_;rw[ac6 hk];exact(τ hk).symm⟩
 have hB2:w2.heap[w1.heap.size]?=some (.cells #[.map (some wL.heap.size)] RW (0,0)):=by rw[hw2];simp
 have s2:w2.heap.size=w1.heap.size+1:=by rw[hw2];simp
 clear hw2;have hM2:w2.heap[wL.heap.size]?=some (.map es c):=(B2.block _ ϖ ϛ).trans hM1;refine jY (f2:=89) #[.tmp 14] #[Jh w1.heap.size] (R2:=KG f w2) rfl rfl ϰ (λb w=>ϰ) ϰ
  (Nb (Jg (acA hB2 hM2 hm hfix ϖ)) λks k1 k2=>Nat.lt_of_le_of_lt (few (x:=x) (n:=n) ks k1 λs hs=>by rw[<-hf'];exact(k2 s).1 hs) ϖ) λv w3 hR _=>?_
 obtain⟨ps,hs,hn,hmem,B3,hv⟩:=hR;have W2:w3.heap[wL.heap.size]?=some (.map es c):=(B3.block _ ϖ ϛ).trans hM2;have BL:nU [] wL w3:=(B1.trans B2).trans B3;obtain⟨ad,cap,rfl,hcell⟩:∃ad cap,v=.slice ad ps.length cap/\(0<ps.length->∃g,ad=some ⟨g,0,none⟩/\g<w3.heap.size/\Holds encStr w3 g 0 ps.toArray):=by obtain⟨rfl,rfl⟩|⟨g,cap,rfl,_,h2,h3⟩:=hv;exact⟨none,0,rfl,λh=>absurd h ϛ⟩;exact⟨_,cap,rfl,λ_=>⟨g,rfl,h2,h3⟩⟩
 have hpl:ps.length<=54:=by
  have:=few (x:=x) (n:=n) (ps.map aj) (List.Pairwise.map _ (λa b hab he=>hab (by simpa[aj] using he)) hn) λs hs=>by obtain⟨l,hl,rfl⟩:=ac9.1 hs;rw[<-hf'];exact(hmem l).1 hl
  simpa using this
 clear hv B1 B2 B3 hM1 hM2 hB2;refine iI (w1:=w3) (.int .i64 ps.length) rfl rfl (λt d=>ϰ) ?_;refine eT _ rfl (.inr rfl) rfl (aB.cT ?_);refine OR {tmps:=#[.pointer (some ⟨d,0,none⟩),undef,.slice none 0 0,.slice none 0 0,.slice none 0 0,.slice none 0 0,.map (some wL.heap.size),undef,undef,undef,undef,.pointer (some ⟨d,0,none⟩),.map (some wL.heap.size),.map (some wL.heap.size),Jh w1.heap.size,.slice ad ps.length cap,.int .i64 ps.length,.int .i64 0,undef,undef,undef,undef,undef,undef,undef,undef,undef,undef,undef,undef,undef,undef,undef,undef,undef,undef,undef,undef,undef,undef,undef,undef],defers:=[]} ϰ ?_;generalize hmm:wL.heap.size=m at*;generalize w1.heap.size=qb at*;refine aB.cU none ⟨_,func55⟩ (λw=>nU [] wL w/\w.heap[m]?=some (.map es c)/\(0<ps.length->∃g,ad=some ⟨g,0,none⟩/\g<w.heap.size/\Holds encStr w g 0 ps.toArray)) (λw t d h=>⟨h.1.tape t d,h.2.1,h.2.2⟩) ⟨BL,W2,hcell⟩ λw hI hsz=>?_
 obtain⟨hB,hM,hC⟩:=hI;clear BL W2 hcell hsz;go_wp2_with fail
 go_loopw [4,5,17] (λu4 u5 u17 wr=>∃k:Nat,u17=.int .i64 k/\k<=ps.length/\aG [] w wr/\wr.ownsRow w.heap.size 168 2 u4 (jl (iZ x n 0) (iZ x n 1) (ps.take k)).length (cV (jl (iZ x n 0) (iZ x n 1) (ps.take k)))/\
  wr.ownsRow w.heap.size 9 1 u5 (kC (iZ x n 0) (iZ x n 1) (ps.take k)).length (bJ (kC (iZ x n 0) (iZ x n 1) (ps.take k)))/\∀g,u4.ownBlock=some g->u5.ownBlock=some g->False) λ_ _ u17 _=>ps.length-(intOf u17).toNat
 case atStart=>exact⟨0,rfl,ϖ,aG.refl _ _,World.ownsRow_nil _ _ _ _,World.ownsRow_nil _ _ _ _,λg h=>by cases h⟩
 case round=>
  obtain⟨k,rfl,hk,fk,ho1,ho2,MC⟩:=hrel;by_cases hlt:k<ps.length
  .obtain⟨g,rfl,hg,hH⟩:=hC ϖ;have hc1:wr.cell? ⟨g,k,none⟩=some (.string (aj ps[k])):=by
    have h1:=(hH k (by simpa using hlt)).1;rw[al9 ps.toArray k (by simpa using hlt)]at h1;have h2:wr.heap[g]?=w.heap[g]?:=fk.block g hg ϛ;unfold World.cell? at h1⊢;simp only[Nat.zero_add]at h1;rw[h2];simpa[encStr,aj] using h1
   have hM':wr.heap[m]?=some (.map es c):=(fk.block m (Ψ.1 hM).1 ϛ).trans hM;have hs1:=Ev (iZ x n 0) (iZ x n 1) ps k hlt;have hs2:=GI (iZ x n 0) (iZ x n 1) ps k hlt;have hl1:(jl (iZ x n 0) (iZ x n 1) (ps.take k)).length<=54:=by have:=Hi (iZ x n 0) (iZ x n 1) (ps.take k);rw[ac8]at this;omega
   have hl2:(kC (iZ x n 0) (iZ x n 1) (ps.take k)).length<=54:=by have:=Jb (iZ x n 0) (iZ x n 1) (ps.take k);rw[ac8]at this;omega
   generalize ps[k]=p at*;have hfp:(f (aj p)).getD zF=.agg (gz.cA (iZ x n 0 (aj p)) (iZ x n 1 (aj p))):=by rw[hf',Ai]
   go_wp2_with (with_reducible refine wO rfl ?_);refine KR rfl 153 9 164 _ _ rfl N5 N6 NP rfl rfl hM' hm _ hfp ?_;clear hfp hM' hc1;have Jw:Hid (jl (iZ x n 0) (iZ x n 1) (ps.take (k+1))=jl (iZ x n 0) (iZ x n 1) (ps.take k)++((mo (iZ x n 0 (aj p)) (iZ x n 1 (aj p))).map λs=>(p,s)).toList):=hs1;have HS2:Hid (kC (iZ x n 0) (iZ x n 1) (ps.take (k+1))=kC (iZ x n 0) (iZ x n 1) (ps.take k)++if(mo (iZ x n 0 (aj p)) (iZ x n 1 (aj p))).isNone then[p]else[]):=hs2;clear hs1 hs2;generalize iZ x n 0 (aj p)=fa at Jw HS2⊢;generalize iZ x n 1 (aj p)=fb at Jw HS2⊢;go_wp2_with (with_reducible refine wO rfl ?_);refine(Ho fa fb wr).mono ?_;rintro e w4⟨rfl,f4⟩;have tO:=fk.trans f4;have UH:=f4.owns ho1;have UG:=f4.owns ho2;cases hsrc:mo fa fb with
   |some sd=>
    rw[hsrc]at Jw HS2;simp only[Option.getD_some,Option.isSome_some];go_wp2_with (with_reducible first|refine bC 168 rfl ?_|refine aQ rfl ?_|refine aM rfl ?_);refine bX rfl (.agg #[.string (aj p),.int .i64 sd]) w4 ϰ ?_;go_wp2_with (with_reducible first|refine aQ rfl ?_|refine aM rfl ?_);refine dj rfl 109 168 2 24 si _ rfl (.agg #[.string (aj p),.int .i64 sd]) rfl rfl ?_;intro w8 b8 l8 f8 r8;go_wp2_with (with_reducible first|refine aQ rfl ?_|refine aM rfl ?_);have gV:=f8.owns UH;have IN:=f8.owns UG;have ta:=tO.trans f8;have hbase:w.heap.size<=w8.heap.size:=ta.size;refine dG rfl 109 168 2 24 si _ _ rfl w.heap.size u4 _ _ rfl gV b8 1 1 [.string (aj p),.int .i64 sd] rfl _ _ r8 rfl rfl (by simp[Value.oneCell']) ϖ ϖ ϖ hbase ?_;intro g' cap' w9 nK f9 hg';have Qu:=ta.trans f9 (by intro j hj;right;simp at hj;exact(gV.lt j hj).1);have alr:=f9.owns IN (by intro q hq hq';simp at hq;exact MC q hq hq');have Qa:∀q,g'=q->u5.ownBlock=some q->False:=λq e hq=>by subst e;obtain h|h:=hg';exact MC g' h hq;have:=(IN.lt g' hq).2;omega
    clear ho1 ho2 UH UG gV IN r8 f8 f9 l8 fk tO ta f4 hbase MC hg';go_wp2
    go_roundw
    case rel=>
     refine⟨k+1,by go_num,ϖ,Qu,?_,?_,λq h=>Qa q (by simpa[Value.ownBlock] using h)⟩;rw[Jw.out,uh];simpa[cV] using nK;rw[HS2.out];simpa using alr
    case measure=>simp[intOf];omega
   |none=>
    rw[hsrc]at Jw HS2;simp only[Option.getD_none,Option.isSome_none];go_wp2_with (with_reducible first|refine bC 168 rfl ?_|refine aQ rfl ?_|refine aM rfl ?_);refine dj rfl 45 9 1 16 cJ _ rfl (.string (aj p)) rfl rfl ?_;intro w8 b8 l8 f8 r8;go_wp2_with (with_reducible first|refine aQ rfl ?_|refine aM rfl ?_);have gV:=f8.owns UH;have IN:=f8.owns UG;have ta:=tO.trans f8;have hbase:w.heap.size<=w8.heap.size:=ta.size;refine dG rfl 45 9 1 16 cJ _ _ rfl w.heap.size u5 _ _ rfl IN b8 1 1 [.string (aj p)] rfl _ _ r8 rfl rfl (by simp[Value.oneCell']) ϖ ϖ ϖ hbase ?_;intro g' cap' w9 nK f9 hg';have Qu:=ta.trans f9 (by intro j hj;right;simp at hj;exact(IN.lt j hj).1);have als:=f9.owns gV (by intro q hq hq';simp at hq;exact MC q hq' hq);have Qa:∀q,u4.ownBlock=some q->g'=q->False:=λq hq e=>by subst e;obtain h|h:=hg';exact MC g' hq h;have:=(gV.lt g' hq).2;omega
    clear ho1 ho2 UH UG gV IN r8 f8 f9 l8 fk tO ta f4 hbase MC hg';go_wp2
    go_roundw
    case rel=>
     refine⟨k+1,by go_num,ϖ,Qu,?_,?_,λq h h'=>Qa q h (by simpa[Value.ownBlock] using h')⟩;rw[Jw.out];simpa using als;rw[HS2.out];simpa[bJ,encStr,aj] using nK
    case measure=>simp[intOf];omega
  .have hk2:k=ps.length:=ϖ;subst hk2;rw[ν (ε _)]at ho1 ho2;have hbw:m<=w.heap.size:=by have:=hB.size;omega
   go_wp2_with fail;refine aB.dI (aB.ep (eT _ rfl (.inr rfl) rfl (eT _ rfl (.inr rfl) rfl (eT _ rfl (.inl rfl) rfl (eT _ rfl (.inl rfl) rfl (aB.cT (aB.DY ?_)))))));refine⟨.tuple #[u4,u5],ϰ,ps,u4,u5,hs,hn,λl=>by rw[<-hf'];exact hmem l,rfl,hB.trans fk.blk,?_,?_⟩;rw[hmm];exact ho1.weak hbw;rw[hmm];exact ho2.weak hbw
end
section
open Go.RowKit Go.Lib
def zK:∃i,prog.info? 5=some i/\i.size=1/\i.bytes=1/\i.zero=some (.int .u8 0):=by
 have:=wm;cases a:prog.info? 5 with|none=>simp[a]at this|some i=>simp only[a,ι,ag0,ai6]at this;exact⟨i,rfl,this⟩
def AI(b:Nat)(w w':Φ):Prop:=∀k o,w.heap[k]?=some o->k≠b->(∀c f,o≠.cells c 5 f)->w'.heap[k]?=some o
def AI.refl(b:Nat)(w:Φ):AI b w w:=λ_ _ h _ _=>h
def AI.trans{a:Φ}(h:AI b w w')(d:AI b w' a):AI b w a:=λk o h1 h2 c=>d k o (h k o h1 h2 c) h2 c
def AI.cell{off:Nat}(v:Θ):AI b w (w.setCell ⟨b,off,none⟩ v):=λk o h1 h2 _=>by rw[(Go.Conc.aside_setCell w ⟨b,off,none⟩ v).block k h2];exact h1
def AI.ky(h:aG [] w w'):AI b w w':=λk o h1 _ _=>by rw[h.block k (Ψ.1 h1).1 ϛ];exact h1
def AI.grown{B:Nat}(a:w.ownsRow B 5 1 v n xs)(h:w.grownBy w' v.ownBlock):AI b w w':=λk o h1 _ c=>by
 rw[h.block k (Ψ.1 h1).1 λe=>?_];exact h1;obtain⟨rfl,_⟩|⟨g,cap,cur,rfl,_,hg,_⟩:=a.2;cases e;have:g=k:=by simpa[Value.ownBlock] using e.symm
 subst this;rw[hg]at h1;exact c _ _ (ag2 h1).symm
def xy(B b:Nat)(bs:ϝ)(w:Φ)(h:IsBuilder 146 5 B b bs w):
  Calls prog 129 #[.pointer (some ⟨b,0,none⟩)] w λe w'=>e=.returned (.tuple #[])/\BuilderAt 146 5 B b (.pointer (some ⟨b,0,none⟩)) bs w'/\Below B w w'/\AI b w w':=by
 obtain h|h:=h;refine(p8 b w h.cell0 h.shape h.frozen0).mono ?_;rintro e w'⟨rfl,rfl⟩;exact⟨rfl,h.used _,(Below.refl B w).setCell (p:=⟨b,0,none⟩) h.1 _,AI.cell _⟩;refine(NK b w h.cell0).mono ?_;rintro e w'⟨rfl,rfl⟩;exact⟨rfl,h,Below.refl B _,AI.refl _ _⟩
def Ck:Elem prog 85 5 1 1:=⟨rL,ϰ,ϖ⟩
def KS(B b:Nat)(bs:ϝ)(c:Int)(w:Φ)(h:IsBuilder 146 5 B b bs w)(G:bs.length+1<=1000000)(N:B<=w.heap.size):
  Calls prog 179 #[.pointer (some ⟨b,0,none⟩),.int .u8 c] w λe w'=>e=.returned .nilIface/\BuilderAt 146 5 B b (.pointer (some ⟨b,0,none⟩)) (bs++[.int .u8 c]) w'/\Below B w w'/\AI b w w':=by
 have⟨J,L,t⟩:=zK;go_enter func179,ntmps179;go_wp2_with fail;refine(xy B b bs w h).mono ?_;rintro e w1⟨rfl,C,d,z⟩;have⟨E,v,l,o,A⟩:=C;have c0:w1.cell? ⟨b,0,none⟩=some (.pointer (some ⟨b,0,none⟩)):=by rw[Lib.cell_of_heap l];rfl
 have c1:w1.cell? ⟨b,1,none⟩=some v:=by rw[Lib.cell_of_heap l];rfl
 have x:b<w1.heap.size:=(Ψ.1 l).1;go_wp2_with (with_reducible refine aQ rfl ?_);refine dj rfl 85 5 1 1 Ck _ rfl (.int .u8 c) rfl rfl ?_;intro y b2 l2 f2 r2;have i:=f2.owns o;have q:y.heap[b]?=some (.cells #[.pointer (some ⟨b,0,none⟩),v] 146 (0,0)):=by rw[f2.block b x ϛ];exact l
 have K:=d.size;have F:=f2.size;have n:∀j u,[Value.int .u8 c][j]?=some u->y.cell? ((⟨b2,0,none⟩:Addr).add j)=some u:=λj u I=>by rw[Addr.add_mid,r2.cell];simpa[Value.cells] using I
 clear c0 c1;go_wp2_with (at_builtin;refine wpList_append_own _ rfl _ _ 85 rfl B 5 J (.int .u8 0) 1 1 rL L t.2.2 t.1 t.2.1 rfl (by decide) _ _ _ rfl i ⟨b2,0,none⟩ 1 1 [.int .u8 c] rfl rfl n (by simp[Value.oneCell']) ?c3 ?c4 ?c5 ?_)
 case c3=>unfold maxLen;omega
 case c4=>omega
 case c5=>omega
 intro M r f a _;have m:r.heap[b]?=some (.cells #[.pointer (some ⟨b,0,none⟩),v] 146 (0,0)):=by rw[a.block b ϖ λe=>A e.symm];exact q
 have O:r.cell? ⟨b,0,none⟩=some (.pointer (some ⟨b,0,none⟩)):=by rw[Lib.cell_of_heap m];rfl
 have d1:r.cell? ⟨b,1,none⟩=some v:=by rw[Lib.cell_of_heap m];rfl
 have f1:r.frozen? ⟨b,1,none⟩=false:=Lib.frozen_of_heap m 1;obtain⟨D,H,cap,rfl⟩:∃D H cap,M=.slice D H cap:=by obtain⟨hv,_⟩|⟨g,cap,cur,hv,_⟩:=f.2;exact⟨_,_,_,hv⟩;exact⟨_,_,_,hv⟩
 have s:Below B w y:=⟨f2.os.trans d.os,f2.tape.trans d.tape,f2.output.trans d.output,ϖ,λk hk=>by rw[f2.block k (by have:=d.size;omega) ϛ];exact d.block k hk⟩
 go_wp2;go_ret;refine⟨rfl,?_,?_,((z.trans (AI.ky f2)).trans (AI.grown i a)).trans (AI.cell _)⟩
 exact Lib.BuilderAt.put (T:=146) (e:=5) E m (bs':=bs++[.int .u8 c]) (by simpa using f) (by decide);exact(s.grown a ϖ λk hk=>(o.lt k hk).1).setCell (p:=⟨b,1,none⟩) E _
def Ei(B b:Nat)(bs:ϝ)(s:Ξ)(w:Φ)(h:IsBuilder 146 5 B b bs w)(u:bs.length+s.size<=1000000)(E:B<=w.heap.size):
  Calls prog 153 #[.pointer (some ⟨b,0,none⟩),.string s] w λe w'=>e=.returned (.tuple #[.int .i64 s.size,.nilIface])/\BuilderAt 146 5 B b (.pointer (some ⟨b,0,none⟩)) (bs++strCells s) w'/\Below B w w'/\AI b w w':=by
 have⟨z,C,m⟩:=zK;go_enter func153,ntmps153;go_wp2_with fail;refine(xy B b bs w h).mono ?_;rintro e w1⟨rfl,q,j,n⟩;have⟨t,v,f,c,o⟩:=q;have c0:w1.cell? ⟨b,0,none⟩=some (.pointer (some ⟨b,0,none⟩)):=by rw[Lib.cell_of_heap f];rfl
 have c1:w1.cell? ⟨b,1,none⟩=some v:=by rw[Lib.cell_of_heap f];rfl
 have y:b<w1.heap.size:=(Ψ.1 f).1;have A:=j.size;go_wp2_with (at_builtin;refine Lib.wpList_append_own_string _ rfl _ _ 85 9 rfl B 5 z rL underlying9 C m.2.2 m.1 m.2.1 _ _ _ rfl c s rfl ?c3 ?c4 ?c5 ?_)
 case c3=>unfold maxLen;omega
 case c4=>omega
 case c5=>omega
 intro D l d a _;have i:l.heap[b]?=some (.cells #[.pointer (some ⟨b,0,none⟩),v] 146 (0,0)):=by rw[a.block b ϖ λe=>o e.symm];exact f
 have F:l.cell? ⟨b,0,none⟩=some (.pointer (some ⟨b,0,none⟩)):=by rw[Lib.cell_of_heap i];rfl
 have d1:l.cell? ⟨b,1,none⟩=some v:=by rw[Lib.cell_of_heap i];rfl
 have f1:l.frozen? ⟨b,1,none⟩=false:=Lib.frozen_of_heap i 1;obtain⟨r,x,cap,rfl⟩:∃r x cap,D=.slice r x cap:=by obtain⟨hv,_⟩|⟨g,cap,cur,hv,_⟩:=d.2;exact⟨_,_,_,hv⟩;exact⟨_,_,_,hv⟩
 clear c0 c1;go_wp2
 go_ret2
 refine⟨rfl,?_,?_,(n.trans (AI.grown c a)).trans (AI.cell _)⟩;exact Lib.BuilderAt.put (T:=146) (e:=5) t i (bs':=bs++strCells s) (by rw[af0,strCells_length];exact d) (by decide);exact(j.grown a ϖ λk hk=>(c.lt k hk).1).setCell (p:=⟨b,1,none⟩) t _
def ec(ss:List (List η×Nat)):List η:=ss.flatMap λp=>(if p.2=0 then 76 else 82)::p.1
def Gz(a b:List (List η×Nat)):ec (a++b)=ec a++ec b:=by simp[ec]
def qp(l:List (List η×Nat))(k:Nat)(hk:k<l.length):((cV l).drop (k*2)).take 2=[.string (aj l[k].1),.int .i64 l[k].2]:=by
 have h:∀(l:List (List η×Nat)) (k:Nat),(cV l).drop (k*2)=cV (l.drop k):=by
  intro l;induction l with
  |nil=>intro k;simp[cV]
  |cons f r a=>
   intro k;cases k with|zero=>simp|succ k=>have:=a k;have e:cV (f::r)=[.string (aj f.1),.int .i64 f.2]++cV r:=rfl;rw[e,show(k+1)*2=2+k*2 by omega,<-List.drop_drop];simpa using this
 rw[h,ac7 hk];rfl
def row_step:(prog.underlying 168).map TypeDesc.isRow=some true:=ϰ
def rZ:(prog.info? 168).map (·.size)=some 2:=ϰ
def Br:(prog.info? 168).map (·.zero)=some (some (.agg #[.string ⟨#[]⟩,.int .i64 0])):=ϰ
def yG(l:ϑ):strCells (aj l)=byteCells l:=by
 unfold strCells aj byteCells;simp
def FW(base:Nat)(v:Θ)(ss:List (List η×Nat))(w:Φ)(hv:w.ownsRow base 168 2 v ss.length (cV ss))(hl:ss.length<=54)(R:∀p∈ss,p.1.length<=8/\p.2<=1):
  Calls prog 138 #[v] w λe w'=>e=.returned (.string (aj (ec ss)))/\aG [] w w':=by
 have⟨ad,cap,J⟩:=aY hv;subst J;have E:∀k,k<=ss.length->(ec (ss.take k)).length<=9*k:=by
  intro k;induction k with
  |zero=>intro _;simp[ec]
  |succ k X=>
   intro hk;rw[ac0 ϖ,Gz,af0];have h1:=X ϖ;have h2:=(R ss[k] (ag5 ϖ)).1;have h3:(ec [ss[k]]).length=1+ss[k].1.length:=by simp[ec];omega
   omega
 go_enter func138,ntmps138;go_wp2_with (with_reducible refine au rfl ?_);refine br rfl 146 rfl _ t8 ?_;intro w1 d Z f1 r3;have x:IsBuilder 146 5 w.heap.size d (byteCells (ec (ss.take 0))) w1:=
  .inl ⟨Z,.slice none 0 0,r3,by simpa[byteCells,ec] using World.ownsRow_nil _ _ _ _,by simp[Value.ownBlock]⟩
 go_wp2_with fail;clear r3
 go_loopw [8] (λc wr=>∃k:Nat,c=.int .i64 k/\k<=ss.length/\aG [] w wr/\IsBuilder 146 5 w.heap.size d (byteCells (ec (ss.take k))) wr) λc _=>ss.length-(intOf c).toNat
 case atStart=>exact⟨0,rfl,ϖ,f1,x⟩
 case round=>
  obtain⟨k,rfl,hk,o,f⟩:=hrel;clear f1 x;by_cases h:k<ss.length
  .have u:=o.owns hv;obtain⟨g,cur,rfl,hg,W,_,N,n⟩:=cO u;have i:((cur.toList.drop (k*2)).take 2)=[.string (aj ss[k].1),.int .i64 ss[k].2]:=by
    rw[pA n _ _,qp ss k h]
   have t:=R ss[k] (ag5 h);have Y:=E k hk;have L:Hid (ec (ss.take (k+1))=ec (ss.take k)++((if ss[k].2=0 then 76 else 82)::ss[k].1)):=by show _=_;rw[ac0 h,Gz];simp[ec]
   generalize ss[k]=p at*;have⟨p1,j⟩:=p;simp only at i t L;generalize ec (ss.take k)=b at*;clear N n u;go_wp2_with (with_reducible refine ax 168 rfl ?_);refine bT rfl 168 _ rfl g (k*2) rfl row_step 2 rZ _ _ hg _ i rfl ?_;clear i hg;go_wp2_with (with_reducible first|refine au rfl ?_|refine ah 168 rfl ?_);refine aas 168 Br _ rZ λF B l5 U S=>?_;have C:Row F B #[.string (aj p1),.int .i64 j] 168:=S;have G:aG [] wr F:=U;have M:=o.trans G;have l:=Kc f G;have c0:=C.val 0 (.string (aj p1));have K:B≠d:=by
    have:d<wr.heap.size:=by obtain f|f:=f<;>exact f.lt
    omega
   have a:(byteCells b).length+1<=1000000:=by rw[ae];omega
   clear S U G o f;have aa:(aj p1).size<=8:=by simpa[aj,ByteArray.size] using t.1
   obtain⟨z,I,H⟩:∃z:η,Hid (z=if j=0 then 76 else 82)/\Hid (ec (ss.take (k+1))=b++[z]++p1):=⟨_,rfl,by show _=_;rw[L.out];rcases(by omega:j=0\/j=1)with rfl|rfl<;>simp⟩
   clear L;rcases(by omega:j=0\/j=1)with rfl|rfl
   all_goals
    have c1:=C.cell 1;simp at c1;go_wp2_with fail;refine(KS w.heap.size d _ _ F l a M.size).mono ?_;rintro e D⟨rfl,y,A,m⟩;have q:=mc M A;have P:IsBuilder 146 5 w.heap.size d (byteCells (b++[z])) D:=by rw[byteCells_append,I.out];exact .inr y
    have Q:Row D B _ 168:=m B _ C K ϛ;have d0:=Q.val 0 (.string (aj p1));have T:(byteCells (b++[z])).length+(aj p1).size<=1000000:=by rw[ae,af0,List.length_singleton];omega
    clear y A m l C Q M c0 c1 a;go_wp2_with fail;refine(Ei w.heap.size d _ _ D P T q.size).mono ?_;rintro e V⟨rfl,r,s,_⟩;have AE:=mc q s;have O:IsBuilder 146 5 w.heap.size d (byteCells (ec (ss.take (k+1)))) V:=by rw[H.out,byteCells_append,<-yG p1];exact .inr r
    clear r s P q d0 T;go_wp2
    go_roundw
    case rel=>exact⟨k+1,by go_num,ϖ,AE,O⟩
    case measure=>simp[intOf];omega
  .obtain rfl:k=ss.length:=ϖ;rw[ν ϖ]at f;go_wp2_with fail;refine(Tryz.Builder_String_any w.heap.size d (ec ss) wr f o.size).mono ?_;rintro e D⟨rfl,A⟩;have q:=mc o A;go_wp2;go_ret;exact⟨rfl,q⟩
def hvD(o:Option (List η)):Θ:=gz.hv o.isSome (aj (o.getD []))
def hcells(o:Option (List η)):Array Θ:=#[.bool o.isSome,.string (aj (o.getD []))]
def uB:(prog.underlying 161).map TypeDesc.isRow=some true:=ϰ
def kx:(prog.info? 161).map (·.size)=some 2:=ϰ
def vG:(prog.info? 161).map (·.zero)=some (some (.agg #[.bool false,.string ⟨#[]⟩])):=ϰ
def B0(d r n:Nat)(l:Θ)(x:DS)(s:Int)(p:Ξ)(w:Φ)(h:bM w d r n l x):
  Calls prog 142 #[.pointer (some ⟨d,0,none⟩),.agg (dJ s p)] w λe w'=>e=.returned (hvD (x.content n s p))/\aG [] w w':=by
 go_enter func142,ntmps142;go_wp2_with (with_reducible refine bv rfl ?_);refine eZ rfl 103 _ rfl (.agg (dJ s p)) rfl ?_;intro w1 f C f1 r3;have h1:=h.new f1;go_wp2_with (with_reducible refine au rfl ?_);refine br rfl 161 rfl _ vG ?_;intro q a y f2 r4;have h2:=h1.new f2;have b:Row q f (dJ s p) 103:=by unfold Row;rw[f2.block f (Ψ.1 r3).1 ϛ];exact r3
 go_wp2_with (with_reducible refine ax 103 rfl ?_);refine bT rfl 103 _ rfl f 0 rfl eW 2 dN _ _ b [.int .i64 s,.string p] rfl rfl ?_;go_wp2_with fail;refine(qW d r n l x s p q h2).mono ?_;rintro e m⟨rfl,g⟩;have k:Row m a #[.bool false,.string ⟨#[]⟩] 161:=by unfold Row;rw[g.block a (Ψ.1 r4).1 ϛ];exact r4
 have v:=(f1.trans f2).trans g;have c:w.heap.size<=a:=ac3 f1.size y;clear h1 h2 r3 r4 b f1 f2 g;obtain⟨o,i⟩:∃o,x.content n s p=o:=⟨_,rfl⟩
 have A:Hid (x.content n s p=o):=i;rw[i];clear i;go_wp2_with (with_reducible refine bC 161 rfl ?_);refine bX rfl (.agg (hcells o)) m ϰ ?_;go_wp2_with (with_reducible refine ah 161 rfl ?_);refine cu rfl 161 _ _ rfl a 0 rfl (hcells o) rfl 2 kx ?_ ?_ _ _ k ?_ ?_;rfl;simp[hcells,Value.oneCell'];decide;intro z B j;rw[bV _ _ (by rfl)]at j;have t:Row z a (hcells o) 161:=j;have u:=v.trans B (by simp;exact c);clear j;go_wp2;exact nB rfl a rfl rfl _ _ t uB (by exact kx) ⟨by rw[A.out];rfl,u⟩
def AY(s:Nat)(hs:s<=1)(w:Φ):Calls prog 143 #[.int .i64 s] w λe w'=>e=.returned (.int .i64 (1-s:Nat))/\w'=w:=by
 rcases(by omega:s=0\/s=1)with rfl|rfl
 .go_enter func143,ntmps143
  go_wp2;go_ret;exact⟨rfl,rfl⟩
 .go_enter func143,ntmps143
  go_wp2;go_ret;exact⟨rfl,rfl⟩
structure dS where
 set:Nat
 path:List η
 becomes:Option (List η)
 replaces:Bool
def dS.vals(w:dS):List Θ:=[.int .i64 w.set,.string (aj w.path),.bool w.becomes.isSome,.string (aj (w.becomes.getD [])),.bool w.replaces]
def kP(a:List dS):List Θ:=a.flatMap dS.vals
def dh(x:DS)(n:Nat)(p:List η×Nat)(set:Nat):List dS:=if x.content n set (aj p.1)=x.content n p.2 (aj p.1)then[]else[⟨set,p.1,x.content n p.2 (aj p.1),(x.content n set (aj p.1)).isSome⟩]
def fO(x:DS)(n:Nat)(p:List η×Nat):List dS:=dh x n p (1-p.2)++dh x n p 2
def bG(x:DS)(n:Nat)(ss:List (List η×Nat)):List dS:=ss.flatMap (fO x n)
def AK(x:DS)(n:Nat)(ss:List (List η×Nat))(k:Nat)(hk:k<ss.length):bG x n (ss.take (k+1))=bG x n (ss.take k)++fO x n ss[k]:=by
 unfold bG;rw[ac0 hk,List.flatMap_append];simp
def qk(x:DS)(n:Nat)(p:List η×Nat)(s:Nat):(dh x n p s).length<=1:=by unfold dh;split<;>simp
def lI(x:DS)(n:Nat)(ss:List (List η×Nat)):(bG x n ss).length<=2*ss.length:=by
 induction ss with|nil=>simp[bG]|cons p ss a=>have e:bG x n (p::ss)=fO x n p++bG x n ss:=rfl;have h1:=qk x n p (1-p.2);have h2:=qk x n p 2;rw[e,af0,ϲ];unfold fO;rw[af0];omega
def KN(a b:List dS):kP (a++b)=kP a++kP b:=by simp[kP]
def Ab:Elem prog 173 176 5 56:=⟨ϰ,ϰ,ϖ⟩
def P1{a b:Option (List η)}:(a.isSome==b.isSome&&aj (a.getD [])==aj (b.getD []))=true↔a=b:=by
 rw[χ,ai5,Go.MapKept.bytes_beq];constructor;rintro⟨h1,h2⟩;have c:a.getD []=b.getD []:=by have:=congrArg (λs:Ξ=>s.data.toList) h2;simpa[aj] using this
 cases a<;>cases b<;>simp_all
 rintro rfl;exact⟨rfl,rfl⟩
section
variable {ops:Array Oper}{Q:Exit->Act->Φ->Prop}{a:Act}{w:Φ}{rest:List Oper}{o:Oper}
def iq{x:ac4}(_:o.op=.index t x y)(h:af (wpList prog ops Q (o::rest) a w)):wpList prog ops Q (o::rest) a w:=h
def Su(hg:o.guard=none)(x y:Nat)(u:θ)(b:o.op=.binOp .neq gz.TH (.tmp x) (.tmp y) u){b1 b2:Bool}(d:a.eval (.tmp x)=gz.hv b1 s1)(c:a.eval (.tmp y)=gz.hv b2 s2)(h:wpList prog ops Q rest (a.put o.dst (.bool (!(b1==b2&&s1==s2)))) w):wpList prog ops Q (o::rest) a w:=by
 refine bX hg _ w ?_ h;have:=(gz.JO (w:=w) b1 b2 s1 s2).run;unfold execOp;rw[b];show(do pure (.value (<-(do eqGuard .neq gz.TH (.tmp x) (.tmp y) (a.eval (.tmp x)) (a.eval (.tmp y));binOp .neq gz.TH (a.eval (.tmp x)) (a.eval (.tmp y))))):Sem Next).run _ _=_;rw[d,c,Ki _ _ _ _ rfl rfl];exact this
end
def Row.aside{base:Nat}(r:Row w b c t)(h:w.ownsRow base e size v n xs)(a:t≠e)(f:aG v.ownBlock.toList w w'):Row w' b c t:=by
 unfold Row at r⊢;rw[f.block b (Ψ.1 r).1 λd=>?_];exact r;obtain⟨rfl,_⟩|⟨g,cap,cur,rfl,_,hg,_⟩:=h.2;simp[Value.ownBlock]at d;have:b=g:=by simpa[Value.ownBlock] using d
 subst this;rw[r]at hg;cases hg;exact a rfl
def Row.ky(r:Row w b c t)(f:aG [] w w'):Row w' b c t:=by
 unfold Row at r⊢;rw[f.block b (Ψ.1 r).1 ϛ];exact r
def yx(d bl n:Nat)(vw:Θ)(x:DS)(base:Nat)(v:Θ)(ss:List (List η×Nat))(w:Φ)(h:bM w d bl n vw x)(hv:w.ownsRow base 168 2 v ss.length (cV ss))(hl:ss.length<=54)(hp:∀p∈ss,p.2<=1):
  Calls prog 95 #[.pointer (some ⟨d,0,none⟩),v] w λe w'=>∃u,e=.returned u/\w'.ownsRow w.heap.size 176 5 u (bG x n ss).length (kP (bG x n ss))/\aG [] w w':=by
 have⟨ad,cap,an⟩:=aY hv;subst an;go_enter func95,ntmps95;go_wp2_with fail
 go_loopw [5,15] (λu c wr=>∃k:Nat,c=.int .i64 k/\k<=ss.length/\aG [] w wr/\wr.ownsRow w.heap.size 176 5 u (bG x n (ss.take k)).length (kP (bG x n (ss.take k)))) λ_ c _=>ss.length-(intOf c).toNat
 case atStart=>exact⟨0,rfl,ϖ,aG.refl ..,World.ownsRow_nil ..⟩
 case round=>
  obtain⟨k,rfl,hk,fk,ho⟩:=hrel;by_cases D:k<ss.length
  .have T:=fk.owns hv;obtain⟨g,cur,rfl,hg,aL,_,ao,W⟩:=cO T;have F:((cur.toList.drop (k*2)).take 2)=[.string (aj ss[k].1),.int .i64 ss[k].2]:=by
    rw[pA W _ _,qp ss k D]
   have X:=hp ss[k] (ag5 D);have av:(bG x n (ss.take k)).length<=108:=by have:=lI x n (ss.take k);rw[ac8]at this;omega
   have HX:Hid (bG x n (ss.take (k+1))=bG x n (ss.take k)++fO x n ss[k]):=AK x n ss k D;generalize ss[k]=p at*;generalize bG x n (ss.take k)=m at*;have⟨p1,a⟩:=p;simp only at F X;clear ao W T;go_wp2_with (with_reducible refine ax 168 rfl ?_);refine bT rfl 168 _ rfl g (k*2) rfl row_step 2 rZ _ _ hg _ F rfl ?_;clear F hg;go_wp2_with (with_reducible first|refine au rfl ?_|refine ah 168 rfl ?_);refine aas 168 Br _ rZ λQ b7 l7 f4 q5=>?_;have ma:Row Q b7 #[.string (aj p1),.int .i64 a] 168:=q5;have ll:aG [] wr Q:=f4;have xR:=fk.trans ll
   have A8:=ll.owns ho;have h5:=h.new xR;have c0:=ma.val 0 (.string (aj p1));have c1:=ma.val 1 (.int .i64 a);clear q5 f4 fk ho;go_wp2_with (with_reducible refine bC 103 rfl ?_);refine bX rfl (.agg (dJ a (aj p1))) Q ϰ ?_;go_wp2_with (with_reducible refine au rfl ?_);refine(B0 d bl n vw x a (aj p1) Q h5).mono ?_;rintro e w6⟨rfl,f6⟩;obtain⟨o,I⟩:∃o,x.content n a (aj p1)=o:=⟨_,rfl⟩
   have HB:Hid (x.content n a (aj p1)=o):=I;rw[I];clear I h5 c0 c1;go_wp2_with (with_reducible refine au rfl ?_);refine aas 161 vG (hcells o) kx (h1:=by simp[hcells,Value.oneCell']) λw8 b8 l8 f7 q8=>?_;have U:Row w8 b8 (hcells o) 161:=q8;have y:aG [] Q w8:=f6.trans (f7);have t7:=xR.trans y;have q7:=ma.ky y
   have B:=y.owns A8;have c1:=q7.val 1 (.int .i64 a);clear q8 f6 f7 y xR ma A8;go_wp2_with fail;refine(AY a X w8).mono ?_;rintro e w9⟨rfl,rfl⟩;go_wp2_with (with_reducible refine bC 233 rfl ?_);refine bX rfl (.agg #[.int .i64 (1-a:Nat),.int .i64 2]) w9 ϰ ?_;go_wp2_with fail
   go_loopw [5,30] (λu c A=>∃j:Nat,c=.int .i64 j/\j<=2/\aG [] w A/\Row A b7 #[.string (aj p1),.int .i64 a] 168/\Row A b8 (hcells o) 161/\
    A.ownsRow w.heap.size 176 5 u (m++([1-a,2].take j).flatMap (dh x n (p1,a))).length (kP (m++([1-a,2].take j).flatMap (dh x n (p1,a))))) λ_ c _=>2-(intOf c).toNat
   case atStart=>exact⟨0,rfl,ϖ,t7,q7,U,by simpa using B⟩
   case round=>
    obtain⟨j,rfl,hj,fr,J,ac,t⟩:=hrel;clear c1 q7 U B t7;by_cases aW:j<2
    .have Kl:(m++([1-a,2].take j).flatMap (dh x n (p1,a))).length<=110:=by
      have h1:=qk x n (p1,a) (1-a);rw[af0];rcases(by omega:j=0\/j=1)with rfl|rfl<;>simp<;>omega
     obtain⟨b,jn,HT,HJ,HY⟩:∃b jn:Nat,Hid (b=if j=0 then 1-a else 2)/\Hid (jn=j+1)/\Hid (([1-a,2].take jn).flatMap (dh x n (p1,a))=([1-a,2].take j).flatMap (dh x n (p1,a))++dh x n (p1,a) b):=⟨_,_,rfl,rfl,by show _=_;rcases(by omega:j=0\/j=1)with rfl|rfl<;>simp⟩
     obtain⟨am,P5⟩:∃l,l=m++([1-a,2].take j).flatMap (dh x n (p1,a)):=⟨_,rfl⟩
     have Y:Hid (am=m++([1-a,2].take j).flatMap (dh x n (p1,a))):=P5;rw[<-P5]at t Kl;clear P5;rcases(by omega:j=0\/j=1)with rfl|rfl
     all_goals
      have c0:=J.val 0 (.string (aj p1));go_wp2_with (with_reducible refine iq rfl ?_);refine bX rfl (.int .i64 (b:Nat)) wr (by rw[HT.out];kernel_rfl) ?_;go_wp2_with (with_reducible refine bC 103 rfl ?_);refine bX rfl (.agg (dJ b (aj p1))) wr ϰ ?_;go_wp2_with (with_reducible refine au rfl ?_);refine br rfl 103 rfl NR Bs ?_;intro v1 z m1 g1 s1;go_wp2_with (with_reducible refine ah 103 rfl ?_);refine cu rfl 103 _ _ rfl z 0 rfl (dJ b (aj p1)) rfl 2 dN ?_ ?_ _ _ s1 ?_ ?_;rfl;simp[dJ,Value.oneCell'];decide;intro v2 g2 s2;rw[bV _ _ (by rfl)]at s2;have G:Row v2 z (dJ b (aj p1)) 103:=s2;have s:aG [] wr v2:=g1.trans g2 (by simpa using m1);have H:=fr.trans s;have h2:=h.new H;have P:=J.ky s;have O:=ac.ky s;have aa:=s.owns t;clear s1 s2 g1 g2 s fr J ac t c0;go_wp2_with (with_reducible refine ax 103 rfl ?_);refine bT rfl 103 _ rfl z 0 rfl eW 2 dN _ _ G [.int .i64 (b:Nat),.string (aj p1)] rfl rfl ?_;go_wp2_with (with_reducible refine au rfl ?_);refine(B0 d bl n vw x b (aj p1) v2 h2).mono ?_;rintro e v3⟨rfl,g3⟩;obtain⟨o2,IP⟩:∃o,x.content n b (aj p1)=o:=⟨_,rfl⟩
      have L:Hid (x.content n b (aj p1)=o2):=IP;rw[IP];clear IP h2;go_wp2_with (with_reducible refine au rfl ?_);refine aas 161 vG (hcells o2) kx (h1:=by simp[hcells,Value.oneCell']) λv5 b12 m4 g4 s5=>?_;have E:Row v5 b12 (hcells o2) 161:=s5;have f:aG [] v2 v5:=g3.trans (g4);have N:=H.trans f
      have Zu:=P.ky f;have S:=O.ky f;have K:=f.owns aa;have ag:=G.ky f;have c12:=E.val 0 (.bool o2.isSome);clear s5 g3 g4 f H P O aa G;go_wp2_with (with_reducible refine ax 161 rfl ?_);refine bT rfl 161 _ rfl b12 0 rfl uB 2 kx _ _ E [.bool o2.isSome,.string (aj (o2.getD []))] rfl rfl ?_;go_wp2_with (with_reducible refine ax 161 rfl ?_);refine bT rfl 161 _ rfl b8 0 rfl uB 2 kx _ _ S [.bool o.isSome,.string (aj (o.getD []))] rfl rfl ?_;go_wp2_with (with_reducible first|refine ax 161 rfl ?_|refine ft 161 rfl ?_);refine Su rfl 40 41 _ rfl (b1:=o2.isSome) (b2:=o.isSome) (s1:=aj (o2.getD [])) (s2:=aj (o.getD [])) rfl rfl ?_;by_cases i:(o2.isSome==o.isSome&&aj (o2.getD [])==aj (o.getD []))=true
      .have HW:Hid (dh x n (p1,a) b=[]):=by
        show _=_;unfold dh;rw[κ (by rw[L.out,HB.out];exact P1.1 i)]
       rw[i];clear i;go_wp2
       go_roundw
       case rel=>exact⟨jn,by rw[HJ.out];rfl,by rw[HJ.out];omega,N,Zu,S,by rw[HY.out,HW.out,List.append_nil,<-Y.out];exact K⟩
       case measure=>simp[intOf]
      .have HW:Hid (dh x n (p1,a) b=[⟨b,p1,o,o2.isSome⟩]):=by
        show _=_;unfold dh;rw[Γ (by rw[L.out,HB.out];exactλq=>i (P1.2 q)),L.out,HB.out]
       have C:(o2.isSome==o.isSome&&aj (o2.getD [])==aj (o.getD []))=false:=by simpa using i
       rw[C];clear i C;go_wp2_with (with_reducible refine ax 103 rfl ?_);refine bT rfl 103 _ rfl z 0 rfl eW 2 dN _ _ ag [.int .i64 (b:Nat),.string (aj p1)] rfl rfl ?_;go_wp2_with (with_reducible refine ax 161 rfl ?_);refine bT rfl 161 _ rfl b8 0 rfl uB 2 kx _ _ S [.bool o.isSome,.string (aj (o.getD []))] rfl rfl ?_;go_wp2_with (with_reducible refine bC 176 rfl ?_);refine bX rfl (.agg (dS.vals ⟨b,p1,o,o2.isSome⟩).toArray) v5 ϰ ?_;go_wp2_with (with_reducible refine aQ rfl ?_);refine dj rfl 173 176 5 56 Ab _ rfl (.agg (dS.vals ⟨b,p1,o,o2.isSome⟩).toArray) rfl rfl ?_;intro v8 b9 m8 Z s8;go_wp2_with (with_reducible first|refine aQ rfl ?_|refine aM rfl ?_);have B:=Z.owns K;have M:=N.trans Z;have V:=Zu.ky Z;have R:=S.ky Z;have r:w.heap.size<=v8.heap.size:=M.size;refine dG rfl 173 176 5 56 Ab _ _ rfl w.heap.size u5 _ _ rfl B b9 1 1 (dS.vals ⟨b,p1,o,o2.isSome⟩) rfl _ _ s8 rfl rfl (by simp[dS.vals,Value.oneCell']) ϖ ϖ ϖ r ?_;intro g' aw v9 nK g9 _;have aq:=M.trans g9 (by intro j hj;right;simp at hj;exact(B.lt j hj).1);have ar:=V.aside B (by decide) g9;have al:=R.aside B (by decide) g9;clear K B s8 Z g9 m8 N M Zu S V R r c12 E ag;go_wp2
       go_roundw
       case rel=>
        refine⟨jn,by rw[HJ.out];rfl,by rw[HJ.out];omega,aq,ar,al,?_⟩;rw[HY.out,HW.out,<-List.append_assoc,<-Y.out,KN,af0];simpa[kP] using nK
       case measure=>simp[intOf]
    .obtain rfl:j=2:=ϖ;have HZ:Hid (m++([1-a,2].take 2).flatMap (dh x n (p1,a))=bG x n (ss.take (k+1))):=by
      show _=_;rw[HX.out];simp[fO]
     go_wp2
     go_roundw
     case rel=>exact⟨k+1,by go_num,ϖ,fr,by rw[<-HZ.out];exact t⟩
     case measure=>simp[intOf];omega
  .obtain rfl:k=ss.length:=ϖ;rw[ν ϖ]at ho;go_wp2;go_ret;exact⟨u5,rfl,ho,fk⟩
def jU:List dS->Int->Bool
 |[],_=>true
 |w::r,f=>if w.becomes=none then jU r (f+1)else if f=0 then false else if w.replaces=false then jU r (f-1)else jU r f
def lg(x:DS)(n:Nat)(ss:List (List η×Nat))(a:Int):Bool:=decide (0<=a)&&jU (bG x n ss) a
def Eh(l:List dS)(k:Nat)(hk:k<l.length):((kP l).drop (k*5)).take 5=l[k].vals:=by
 have h:∀(l:List dS)(k:Nat),(kP l).drop (k*5)=kP (l.drop k):=by
  intro l;induction l with
  |nil=>intro k;simp[kP]
  |cons f r a=>
   intro k;cases k with
   |zero=>simp
   |succ k=>
    have:=a k;have e:kP (f::r)=f.vals++kP r:=rfl;rw[e,show(k+1)*5=5+k*5 by omega,<-List.drop_drop];have e2:(f.vals++kP r).drop 5=kP r:=by simp[dS.vals]
    rw[e2];simpa using this
 rw[h,ac7 hk];rfl
def Ic:(prog.underlying 176).map TypeDesc.isRow=some true:=ϰ
def uZ:(prog.info? 176).map (·.size)=some 5:=ϰ
def zJw:Θ:=.agg #[.int .i64 0,.string ⟨#[]⟩,.bool false,.string ⟨#[]⟩,.bool false]
def Jx:(prog.info? 176).map (·.zero)=some (some zJw):=ϰ
def Qv(d K n:Nat)(F:Θ)(x:DS)(base:Nat)(v:Θ)(ss:List (List η×Nat))(b:Int)(w:Φ)(h:bM w d K n F x)(hv:w.ownsRow base 168 2 v ss.length (cV ss))(N:ss.length<=54)(H:∀p∈ss,p.2<=1)(V:-1<=b)(hf:b<=1000):
  Calls prog 136 #[.pointer (some ⟨d,0,none⟩),v,.int .i64 b] w λe w'=>e=.returned (.bool (lg x n ss b))/\aG [] w w':=by
 by_cases G:b<0
 .have t:Hid (lg x n ss b=false):=by show _=_;unfold lg;rw[decide_eq_false ϖ];rfl
  have⟨ad,cap,j⟩:=aY hv;subst j;go_enter func136,ntmps136;go_wp2;go_ret;exact⟨by rw[t.out];rfl,aG.refl ..⟩
 .have t:Hid (lg x n ss b=jU (bG x n ss) b):=by show _=_;unfold lg;rw[decide_eq_true ϖ];rfl
  have Z:(bG x n ss).length<=108:=by have:=lI x n ss;omega
  have⟨ad,cap,j⟩:=aY hv;subst j;go_enter func136,ntmps136;go_wp2_with fail;refine(yx d K n F x base _ ss w h hv N H).mono ?_;rintro e w1⟨u,rfl,I,f1⟩;generalize bG x n ss=i at*;have⟨NM,J,U⟩:=aY I;subst U;clear hv H;go_wp2_with fail
  go_loopw [2,15] (λW c wr=>∃(k:Nat)(f:Int),c=.int .i64 k/\k<=i.length/\W=.int .i64 f/\0<=f/\f<=1000+k/\aG [] w1 wr/\jU (i.drop k) f=jU i b) λ_ c _=>i.length-(intOf c).toNat
  case atStart=>exact⟨0,b,rfl,ϖ,rfl,ϖ,ϖ,aG.refl ..,ϛ⟩
  case round=>
   obtain⟨k,f,rfl,hk,rfl,O,T,s,a⟩:=hrel;by_cases o:k<i.length
   .have l:=s.owns I;obtain⟨g,cur,rfl,hg,P,_,D,m⟩:=cO l;have q:((cur.toList.drop (k*5)).take 5)=i[k].vals:=by
     rw[pA m _ _,Eh i k o]
    have hd:jU (i.drop k) f=if i[k].becomes=none then jU (i.drop (k+1)) (f+1)else if f=0 then false else if i[k].replaces=false then jU (i.drop (k+1)) (f-1)else jU (i.drop (k+1)) f:=by rw[ac7 o];rfl
    rw[hd]at a;clear hd;generalize i[k]=R at*;have⟨Y,pt,z,C⟩:=R;simp only at a;clear D m l;go_wp2_with (with_reducible refine ax 176 rfl ?_);refine bT rfl 176 _ rfl g (k*5) rfl Ic 5 uZ _ _ hg _ q rfl ?_;clear q hg;go_wp2_with (with_reducible first|refine au rfl ?_|refine ah 176 rfl ?_);refine aas 176 Jx _ uZ (h1:=by simp[dS.vals,Value.oneCell']) λE X Q M L=>?_;have A:Row E X (dS.vals ⟨Y,pt,z,C⟩).toArray 176:=L;have r:=s.trans (M:aG [] wr E);have c2:=A.val 2 (.bool z.isSome);have c4:=A.val 4 (.bool C)
    clear L A M s Q;cases z with
    |none=>
     simp only[Ϸ]at c2;rw[κ rfl]at a;go_wp2
     go_roundw
     case rel=>exact⟨k+1,f+1,by go_num,ϖ,by go_num,ϖ,ϖ,r,a⟩
     case measure=>simp[intOf];omega
    |some bb=>
     simp only[ϑ2]at c2;rw[Γ ϛ]at a;by_cases y:f=0
     .subst y;rw[κ rfl]at a;have B:Hid (jU i b=false):=a.symm;clear a;go_wp2;go_ret;exact⟨by rw[t.out,B.out];rfl,f1.trans r⟩
     .rw[Γ y]at a;have S:(f==0)=false:=by simpa using y
      cases C with
      |false=>
       rw[κ rfl]at a;go_wp2
       go_roundw
       case rel=>exact⟨k+1,f-1,by go_num,ϖ,by go_num,ϖ,ϖ,r,a⟩
       case measure=>simp[intOf];omega
      |true=>
       rw[Γ ϛ]at a;go_wp2
       go_roundw
       case rel=>exact⟨k+1,f,by go_num,ϖ,rfl,ϖ,ϖ,r,a⟩
       case measure=>simp[intOf];omega
   .obtain rfl:k=i.length:=ϖ;rw[List.drop_length]at a;have B:Hid (jU i b=true):=a.symm;clear a;go_wp2;go_ret;exact⟨by rw[t.out,B.out];rfl,f1.trans s⟩
def DS.yl(x:DS)(n:Nat)(w:dS):DS×Θ:=match w.becomes with
 |none=>x.remove n w.set (aj w.path)
 |some c=>x.put n w.set (aj w.path) (aj c)
def Q5(F:ϓ)(d n:Nat)(x:DS)(g:dS)(w:Φ)(h:ce w F d n x)(l:x.Fit 5)(C:x.waiting.length<55)(hs:g.set<256)(z:g.path.length<256)(A:∀c,g.becomes=some c->c.length<256):
  Calls prog 96 #[.agg g.vals.toArray,.pointer (some ⟨d,0,none⟩)] w λe w'=>e=.returned (x.yl n g).2/\∃k,ce w' k d n (x.yl n g).1/\aG F w w'/\dw F k w:=by
 have⟨a,pt,m,i⟩:=g;simp only at hs z A;have u:(aj pt).size<256:=by simpa[aj,ByteArray.size] using z
 go_enter func96,ntmps96;go_wp2_with (with_reducible refine bv rfl ?_);refine eZ rfl 176 _ rfl (.agg (dS.vals ⟨a,pt,m,i⟩).toArray) rfl ?_;intro w1 b2 l1 f1 p;have h1:=h.new f1;have b:Row w1 b2 (dS.vals ⟨a,pt,m,i⟩).toArray 176:=p;have c2:=b.val 2 (.bool m.isSome);have t:=b.val 3 (.string (aj (m.getD [])));clear p;cases m with
 |none=>
  simp only[Ϸ]at c2;have o:Hid (x.yl n ⟨a,pt,none,i⟩=x.remove n a (aj pt)):=rfl;go_wp2_with (with_reducible refine ax 103 rfl ?_);refine bT rfl 103 _ rfl b2 0 rfl eW 2 dN _ _ b [.int .i64 a,.string (aj pt)] rfl rfl ?_;clear c2 t b;go_wp2_with fail;refine(qM F d n x a (aj pt) w1 h1 ⟨l.mZ,by have:=l.mY;omega,l.mM,l.mL⟩ ϖ).mono ?_;rintro e B⟨rfl,k,h2,f2,v⟩;obtain⟨r,hr⟩:∃r,x.remove n a (aj pt)=r:=⟨_,rfl⟩
  rw[hr]at h2⊢;have f:Hid (x.yl n ⟨a,pt,none,i⟩=r):=o.out.trans hr;clear hr o;have⟨p,r2⟩:=r;go_wp2;go_ret;rw[f.out];exact⟨rfl,k,h2,(f1.mono).trans f2 λj s=>.inl s,(dw.refl F w).trans v f1.size⟩
 |some c=>
  simp only[ϑ2]at c2;have y:(aj c).size<256:=by simpa[aj,ByteArray.size] using A c rfl
  have o:Hid (x.yl n ⟨a,pt,some c,i⟩=x.put n a (aj pt) (aj c)):=rfl;have q:w1.cell? ⟨b2,3,none⟩=some (.string (aj c)):=t;clear t;go_wp2_with (with_reducible refine ax 103 rfl ?_);refine bT rfl 103 _ rfl b2 0 rfl eW 2 dN _ _ b [.int .i64 a,.string (aj pt)] rfl rfl ?_;go_wp2_with (with_reducible refine bC 107 rfl ?_);refine bX rfl (.agg #[.int .i64 a,.string (aj pt),.string (aj c)]) w1 ϰ ?_;clear c2 q b;go_wp2_with fail;refine(zl F d n x a (aj pt) (aj c) w1 h1 l C hs u y).mono ?_;rintro e B⟨rfl,k,h2,f2,v⟩;obtain⟨r,hr⟩:∃r,x.put n a (aj pt) (aj c)=r:=⟨_,rfl⟩
  rw[hr]at h2⊢;have f:Hid (x.yl n ⟨a,pt,some c,i⟩=r):=o.out.trans hr;clear hr o;have⟨p,r2⟩:=r;go_wp2;go_ret;rw[f.out];exact⟨rfl,k,h2,(f1.mono).trans f2 λj s=>.inl s,(dw.refl F w).trans v f1.size⟩
def CO(l:List (List η×Nat))(k:Nat)(hk:k<l.length):(cV l)[k*2]?=some (.string (aj l[k].1)):=by
 have h:=qp l k hk;have h1:(((cV l).drop (k*2)).take 2)[0]?=some (.string (aj l[k].1)):=by rw[h];rfl
 rw[ak2 ϖ,aj1]at h1;simpa using h1
def aG.Xl{w w':Φ}{b off:Nat}{v:Θ}(f:aG [] w w')(h:w.cell? ⟨b,off,none⟩=some v)(_:True):w'.cell? ⟨b,off,none⟩=some v:=by
 have c:b<w.heap.size:=by
  unfold World.cell? at h;cases a:w.heap[b]? with|none=>simp[a]at h|some o=>exact(Ψ.1 a).1
 unfold World.cell? at h⊢;rw[f.block b c ϛ];exact h
def F0(base:Nat)(v:Θ)(ss:List (List η×Nat))(w:Φ)(hv:w.ownsRow base 168 2 v ss.length (cV ss))(h0:0<ss.length)(y:ss.length<=54)(hs:ss.Pairwise λp q=>p.1<q.1):
  Calls prog 141 #[v] w λe w'=>e=.returned (.bool true)/\aG [] w w':=by
 have⟨ad,cap,m⟩:=aY hv;subst m;obtain⟨g,cur,rfl,hg,r,_,x,j⟩:=cO hv;have f:∀k (hk:k<ss.length),cur[k*2]?=some (.string (aj ss[k].1)):=λk hk=>by have h1:=CO ss k hk;rw[<-j,ak2 ϖ]at h1;simpa using h1
 go_enter func141,ntmps141;go_wp2_with fail
 go_loopw [7] (λc wr=>∃k:Nat,c=.int .i64 k/\k+1<=ss.length/\aG [] w wr) λc _=>ss.length-(intOf c).toNat
 case atStart=>exact⟨0,rfl,ϖ,aG.refl ..⟩
 case round=>
  obtain⟨k,rfl,hk,l⟩:=hrel;by_cases d:k+1<ss.length
  .have h:=l.row (b:=g) hg ϛ;have c1:wr.cell? ⟨g,k*2,none⟩=some (.string (aj (ss[k]'ϖ).1)):=by rw[h.cell];exact f k ϖ
   have c2:wr.cell? ⟨g,(k+1)*2,none⟩=some (.string (aj (ss[k+1]'d).1)):=by rw[h.cell];exact f (k+1) d
   have i:(ss[k]'ϖ).1<(ss[k+1]'d).1:=(am8.1 hs) k (k+1) ϖ d ϖ;generalize (ss[k]'ϖ).1=p1 at*;generalize (ss[k+1]'d).1=t at*;go_wp2_with fail;have s:∀(Z:List (Nat×Θ)),True:=λ_=>trivial
   refine kF ?_;refine bW rfl (some 10) rfl (.slice (some ⟨g,0,none⟩) ss.length cap) (λw' a=>by go_simp) ?_;simp only[puts];refine bW rfl (some 11) rfl (.int .i64 k) (λw' a=>by go_simp) ?_;simp only[puts];refine bW rfl (some 12) rfl (.pointer (some ⟨g,k*2,none⟩)) (λw' a=>by go_simp;intro o;omega) ?_;simp only[puts];refine bW rfl (some 13) rfl (.pointer (some ⟨g,k*2,none⟩)) (λw' a=>by go_simp) ?_;simp only[puts];refine bW rfl (some 14) rfl (.string (aj p1)) (λw' a=>by have u:=a.Xl c1 ϛ;go_simp) ?_;simp only[puts];refine bW rfl (some 15) rfl (.slice (some ⟨g,0,none⟩) ss.length cap) (λw' a=>by go_simp) ?_;simp only[puts];refine bW rfl (some 16) rfl (.int .i64 k) (λw' a=>by go_simp) ?_;simp only[puts];refine bW rfl (some 17) rfl (.int .i64 (k+1:Nat)) (λw' a=>by go_simp;rw[IntKind.wrap_i64];omega) ?_;simp only[puts];refine bW rfl (some 18) rfl (.pointer (some ⟨g,(k+1)*2,none⟩)) (λw' a=>by go_simp;intro o;have:=o ϖ;omega) ?_;simp only[puts];refine bW rfl (some 19) rfl (.pointer (some ⟨g,(k+1)*2,none⟩)) (λw' a=>by go_simp) ?_;simp only[puts];refine bW rfl (some 20) rfl (.string (aj t)) (λw' a=>by have u:=a.Xl c2 ϛ;go_simp) ?_;simp only[puts];refine bW rfl (some 21) rfl (.bool false) (λw' a=>by go_simp;rw[bytesLess_eq,Lib.toList_data,Lib.toList_data];exact decide_eq_true (by simpa[aj] using i)) ?_;simp only[puts];intro z f2;have n:=l.trans f2;go_wp2
   go_roundw
   case rel=>exact⟨k+1,by go_num,ϖ,n⟩
   case measure=>simp[intOf];omega
  .go_wp2
   go_ret;exact⟨rfl,l⟩
def chJ(s:Nat):η:=if s=0 then 76 else 82
def wv(p:List η×Nat)(r:List (List η×Nat)):ec (p::r)=chJ p.2::(p.1++ec r):=rfl
def vc(a:ϑ):∀(p r:ϑ),(∀b∈p,a.contains b=false)->indexAny (p++r) a=if indexAny r a=-1 then -1 else indexAny r a+p.length
 |[],r,_=>by by_cases h:indexAny r a=-1<;>simp[h]
 |b::p,r,h=>by
  have h1:=h b ϛ;have e:=vc a p r λx d=>h x (by simp[d])
  have hg:=indexAny_ge a r;show(if a.contains b then 0 else if indexAny (p++r) a==-1 then -1 else indexAny (p++r) a+1)=_;rw[h1,e];by_cases c:indexAny r a=-1;simp[c];simp only[c,if_false,ab6];rw[Γ (by simp;omega)];simp;omega
def IC{b:η}(h:eY b=true):([76,82]:List η).contains b=false:=by
 unfold eY at h;rw[χ]at h;have h1:97<=b.toNat:=by simpa using h.1
 simp only[List.contains_cons,List.contains_nil,Bool.or_false,Bool.or_eq_false_iff,ae9];constructor<;>(intro e;subst e;revert h1;decide)
def DG{p:ϑ}(a:aX p=true)(r:List (List η×Nat)):indexAny (p++ec r) [76,82]=if r=[]then -1 else(p.length:Int):=by
 unfold aX at a;simp only[χ,ae7]at a;rw[vc _ p _ λb c=>IC (a.2 b c)];cases r with
 |nil=>rfl
 |cons q r=>
  have:indexAny (ec (q::r)) [76,82]=0:=by rw[wv];show(if([76,82]:List η).contains (chJ q.2)then 0 else _)=_;rw[κ (by unfold chJ;split<;>decide)]
  rw[this];simp
def Np(h:∀p∈ss,aX p.1=true):∀b∈ec ss,b.toNat<128:=by
 intro b a;unfold ec at a;rw[ϐ4]at a;have⟨p,c,a⟩:=a;obtain rfl|a:=ac2.1 a;split<;>decide
 have:=h p c;unfold aX at this;simp only[χ,ae7]at this;have:=this.2 b a;unfold eY at this;rw[χ]at this;have:b.toNat<=122:=by simpa using this.2
 omega
def pR(l:ϑ)(a b:Nat):(aj l).extract a b=aj ((l.take b).drop a):=by
 have h:((aj l).extract a b).data=(l.toArray).extract a b:=by simp[aj,ByteArray.data_extract]
 have h2:(l.toArray).extract a b=((l.take b).drop a).toArray:=by simp[ϔ4,List.drop_take]
 have:((aj l).extract a b).data=(aj ((l.take b).drop a)).data:=h.trans h2;cases c:(aj l).extract a b;rw[c]at this;simp only at this;rw[this]
def io{x:ac4}{l h m:Option ac4}(_:o.op=.slice t x l h m)(k:af (wpList P ops Q (o::rest) a w)):wpList P ops Q (o::rest) a w:=k
def ri:∀(l:List (List η×Nat)),(∀p∈l,p.1.length<=8)->(ec l).length<=9*l.length
 |[],_=>by simp[ec]
 |p::l,h=>by
  have h1:=h p ϛ;have h2:=ri l λq a=>h q (by simp[a])
  rw[wv,ϲ,af0,ϲ];omega
def qO(h:aX p=true):p.length<=8:=by
 unfold aX at h;simp only[χ]at h;simpa using h.1.2
def GH(c:η)(p R:ϑ):(aj (c::(p++R))).extract (1+(p.length:Int)).toNat (aj (c::(p++R))).size=aj R:=by
 rw[pR,da,ν (ε _),show(1+(p.length:Int)).toNat=p.length+1 by omega];simp
def Cq(c:η)(p:ϑ):(aj (c::p)).extract (1+(p.length:Int)).toNat (aj (c::p)).size=aj (ec []):=by
 have:=GH c p [];rw[List.append_nil]at this;exact this
def Oa(_:o.op=.call {callee:=.builtin .len,args:=as',argTypes:=ts})(k:af (wpList P ops Q (o::rest) a w)):wpList P ops Q (o::rest) a w:=k
def FX(ss:List (List η×Nat))(w:Φ)(h0:0<ss.length)(Y:ss.length<=54)(J:∀p∈ss,aX p.1=true/\p.2<=1)(hs:ss.Pairwise λp q=>p.1<q.1):
  Calls prog 94 #[.string (aj (ec ss))] w λe w'=>∃u,e=.returned (.tuple #[u,.bool true])/\w'.ownsRow w.heap.size 168 2 u ss.length (cV ss)/\aG [] w w':=by
 go_enter func94,ntmps94;go_wp2_with fail
 go_loopw [4,5] (λu t wr=>∃k:Nat,t=.string (aj (ec (ss.drop k)))/\k<=ss.length/\aG [] w wr/\wr.ownsRow w.heap.size 168 2 u k (cV (ss.take k))) (λ_ t _=>match t with|.string s=>s.size|_=>0)
 case atStart=>exact⟨0,rfl,ϖ,aG.refl ..,World.ownsRow_nil ..⟩
 case round=>
  obtain⟨k,rfl,hk,I,v⟩:=hrel;by_cases i:k<ss.length
  .have hd:ss.drop k=ss[k]::ss.drop (k+1):=ac7 i;have g:=J ss[k] (ag5 i);have B:ss.take (k+1)=ss.take k++[ss[k]]:=ac0 i;have HR:Hid (ss.take (k+1)=ss.take k++[ss[k]]):=B;have a:∀b∈ec (ss.drop k),b.toNat<128:=Np λp m=>(J p (List.mem_of_mem_drop m)).1
   have d:(ec (ss.drop k)).length<=1000:=by
    have h1:=ri (ss.drop k) λp m=>qO (J p (List.mem_of_mem_drop m)).1
    have h2:(ss.drop k).length<=54:=by rw[am1];omega
    omega
   rw[hd,wv]at a d⊢;have HD:Hid (ss.drop k=ss[k]::ss.drop (k+1)):=hd;clear hd B;generalize ss[k]=p at*;have⟨p1,h⟩:=p;simp only at g a d⊢;have T:∃(c:η)(sv:Int),Hid (c=chJ h)/\Hid (sv=h)/\Hid (Lib.indexByte [76,82] c=sv):=⟨chJ h,h,rfl,rfl,by show _=_;rcases(by omega:h=0\/h=1)with rfl|rfl<;>decide⟩
   have⟨c,sv,hc,l,A⟩:=T;rcases(by omega:h=0\/h=1)with rfl|rfl
   all_goals
    obtain⟨r,n⟩:∃r,ss.drop (k+1)=r:=⟨_,rfl⟩
    rw[n]at HD a d⊢;go_wp2_with (with_reducible first|refine ft 9 rfl ?_|refine iq rfl ?_|refine io rfl ?_);refine bX rfl (.bool true) wr (by go_simp;simp[aj]) ?_;go_wp2_with (with_reducible first|refine ft 9 rfl ?_|refine iq rfl ?_|refine io rfl ?_);refine bX rfl (.int .u8 c.toNat) wr (by rw[hc.out];kernel_rfl) ?_;go_wp2_with (with_reducible first|refine ft 9 rfl ?_|refine io rfl ?_);refine(Tryz.strings_IndexByte ⟨#[76,82]⟩ c.toNat wr).mono ?_;rintro e w1⟨rfl,rfl⟩;rw[show Lib.indexByte (⟨#[76,82]⟩:Ξ).data.toList (c.toNat:Int).toNat.toUInt8=sv by simpa using A.out,l.out];clear A;go_wp2_with (with_reducible first|refine ft 9 rfl ?_|refine io rfl ?_);refine bX rfl (.string (aj (p1++ec r))) w1 (by go_simp;rw[κ (by rw[da];simp;omega),pR,da,ν (ε _)];rfl) ?_;go_wp2_with (with_reducible first|refine ft 9 rfl ?_|refine io rfl ?_);have C:=DG g.1 r;refine(Tryz.strings_IndexAny_laid (aj (p1++ec r)) ⟨#[76,82]⟩ w1 (by rw[da];simp at d⊢;omega) (by decide) (λj b o=>a b (by
     have:b∈p1++ec r:=aj0 (by simpa[aj] using o);exact af9 _ this)) (λj b o=>by
     have:b∈([76,82]:List η):=aj0 o;simp at this;obtain rfl|rfl:=this<;>decide)).mono ?_
    rintro e F⟨rfl,z⟩;have f2:aG [] w1 F:=mc (aG.refl ..) z;have y:Lib.indexAny (aj (p1++ec r)).data.toList (⟨#[76,82]⟩:Ξ).data.toList=if r=[]then -1 else(p1.length:Int):=by simpa[aj] using C
    rw[y];clear C y z a;have ac:p1.length<=8:=by have:=g.1;unfold aX at this;simp only[χ]at this;simpa using this.1.2
    have aa:k<=54:=ϖ;have S:Hid (ss.drop (k+1)=r):=n;clear n;have O:(aj p1).size<=9223372036854775807:=by rw[da];omega
    by_cases hr:r=[]
    all_goals
     first
      |(
        rw[κ hr];have G:p1++ec r=p1:=by rw[hr];simp[ec]
        rw[G];clear G)
      |(
        rw[Γ hr];go_wp2_with (with_reducible refine io rfl ?_);refine bX rfl (.string (aj p1)) F (by go_simp;rw[κ (by rw[da];simp),pR];simp) ?_)
     go_wp2_with (with_reducible first|refine aQ rfl ?_|refine aM rfl ?_);refine(iE (aj p1) F O).mono ?_;rintro e w3⟨rfl,N⟩;have E:aX (aj p1).data.toList=true:=by simpa[aj] using g.1
     rw[E];clear E;have W:=(I.trans f2).trans N;have D:=N.owns (f2.owns v ϛ);clear v f2 N;go_wp2_with (with_reducible refine bC 168 rfl ?_);refine bX rfl (.agg #[.string (aj p1),.int .i64 sv]) w3 (by rw[l.out];kernel_rfl) ?_;go_wp2_with (with_reducible refine aQ rfl ?_);refine dj rfl 109 168 2 24 si _ rfl (.agg #[.string (aj p1),.int .i64 sv]) rfl rfl ?_;intro w8 b8 l8 P V;go_wp2_with (with_reducible first|refine aQ rfl ?_|refine aM rfl ?_);have H:=P.owns D;have M:=W.trans P;have f:w.heap.size<=w8.heap.size:=M.size;refine dG rfl 109 168 2 24 si _ _ rfl w.heap.size u4 _ _ rfl H b8 1 1 [.string (aj p1),.int .i64 sv] rfl _ _ V rfl rfl (by simp[Value.oneCell']) ϖ ϖ ϖ f ?_;intro g' x R Q U _;have Z:=M.trans U (by intro j o;right;simp at o;exact(H.lt j o).1);have L:R.ownsRow w.heap.size 168 2 (.slice (some ⟨g',0,none⟩) (k+1) x) (k+1) (cV (ss.take (k+1))):=by rw[HR.out,uh];rw[l.out]at Q;exact Q
     clear D H Q V P U l8 I W M f;go_wp2_with (with_reducible first|refine Oa rfl ?_|refine io rfl ?_);refine bX rfl (.int .i64 p1.length) R ϰ ?_;have ag:wrap64 (1+(p1.length:Int))=1+p1.length:=IntWalk.wrap64_in _ ϖ;go_wp2_with (with_reducible refine io rfl ?_);refine bX rfl (.string (aj (ec r))) R (by go_simp;rw[κ (by rw[da];simp;omega)];first|rw[GH]|rw[Cq]|rw[Cq,hr]) ?_;go_wp2
     go_roundw
     case rel=>exact⟨k+1,by simp only[S.out,hr],ϖ,Z,L⟩
     case measure=>simp[da,hr];omega
  .obtain rfl:k=ss.length:=ϖ;rw[List.drop_length];rw[ν ϖ]at v;have G:aj (ec [])=⟨#[]⟩:=rfl;rw[G];have⟨al,X,K⟩:=aY v;subst K;go_wp2_with fail;refine(F0 w.heap.size _ ss wr v h0 Y hs).mono ?_;rintro e F⟨rfl,f2⟩;go_wp2
   go_ret2
   exact⟨_,rfl,f2.owns v,I.trans f2⟩
def Qq(d i n:Nat)(g:Θ)(x:DS)(w:Φ)(h:bM w d i n g x):
  Calls prog 137 #[.pointer (some ⟨d,0,none⟩)] w λe w'=>e=.returned (.int .i64 ((aH n:Int)-(taken x n).length))/\aG [] w w':=by
 have q:aH n<=54:=by unfold aH;omega
 have r:=fM x n;go_enter func137,ntmps137;go_wp2_with fail;refine(nz d i n g x w h).mono ?_;rintro e w1⟨rfl,rfl⟩;go_wp2_with fail;refine(nZ n h.lo h.hi w1).mono ?_;rintro e p⟨rfl,rfl⟩;go_wp2_with fail;refine(jG d i n g x p h).mono ?_;rintro e s⟨v,rfl,j,o⟩;have⟨ad,cap,hv⟩:=aY j;subst hv;obtain⟨c,a⟩:∃c,(taken x n).length=c:=⟨_,rfl⟩
 obtain⟨f,b⟩:∃f,aH n=f:=⟨_,rfl⟩
 have l:Hid ((taken x n).length=c):=a;have k:Hid (aH n=f):=b;rw[a]at r j⊢;rw[b]at q⊢;clear a b;have m:wrap64 ((f:Int)-c)=f-c:=IntWalk.wrap64_in _ ϖ;go_wp2;go_ret;exact⟨by rw[l.out,k.out];rfl,o⟩
def lQ(ss:List (List η×Nat)):Prop:=∀p∈ss,aX p.1=true/\p.2<=1
def DS.begin(x:DS)(n:Nat)(ss:List (List η×Nat)):DS×Θ:=
 if lg x n ss ((aH n:Int)-(taken x n).length-1)=false then(x,.int .i64 7)else x.put n 3 ⟨#[]⟩ (aj (ec ss))
def Jp(F:ϓ)(d n:Nat)(x:DS)(base:Nat)(v:Θ)(ss:List (List η×Nat))(w:Φ)(h:ce w F d n x)(O:x.Fit 5)(T:x.waiting.length<55)(hv:w.ownsRow base 168 2 v ss.length (cV ss))(Z:ss.length<=7)(A:lQ ss)(hF:∀g,v.ownBlock=some g->g∉F):
  Calls prog 92 #[.pointer (some ⟨d,0,none⟩),v] w λe w'=>e=.returned (x.begin n ss).2/\∃t,ce w' t d n (x.begin n ss).1/\aG F w w'/\dw F t w:=by
 have hn:aH n<=54:=by unfold aH;omega
 have ht:=fM x n;have⟨L,G,hd,U⟩:=id h;have l:∀p∈ss,p.1.length<=8/\p.2<=1:=λp b=>⟨qO (A p b).1,(A p b).2⟩
 have W:(ec ss).length<=63:=by have:=ri ss λp b=>(l p b).1;omega
 have⟨ad,cap,C⟩:=aY hv;subst C;have q:Hid (x.begin n ss=if lg x n ss ((aH n:Int)-(taken x n).length-1)=false then(x,.int .i64 7)else x.put n 3 ⟨#[]⟩ (aj (ec ss))):=rfl;go_enter func92,ntmps92;go_wp2_with fail;refine(Qq d L n G x w hd).mono ?_;rintro e w1⟨rfl,f1⟩;have m:=hd.new f1;have h1:=h.new f1;have f:=f1.owns hv;have Q:(taken x n).length<=aH n:=qm (x.read 0) (aH n);generalize (taken x n).length=s at*;generalize aH n=u at*;have R:wrap64 ((u:Int)-s-1)=u-s-1:=IntWalk.wrap64_in _ ϖ;go_wp2_with fail;refine(Qv d L n G x base _ ss (u-s-1) w1 m f ϖ (λp b=>(A p b).2) ϖ ϖ).mono ?_;rintro e K⟨rfl,f2⟩;have h2:=h1.new f2;have k:=f2.owns f;have y:=f1.trans f2;have H:aG F w K:=y.mono;clear hd m h1 f f1 f2;cases a:lg x n ss (u-s-1)with
 |false=>
  have c:Hid (x.begin n ss=(x,.int .i64 7)):=by show _=_;rw[q.out,a];rfl
  clear q a;go_wp2;go_ret;rw[c.out];exact⟨rfl,F,h2,H,dw.refl _ _⟩
 |true=>
  have c:Hid (x.begin n ss=x.put n 3 ⟨#[]⟩ (aj (ec ss))):=by show _=_;rw[q.out,a];rfl
  clear q a;go_wp2_with fail;refine(gX K).mono ?_;rintro e S⟨rfl,o⟩;have D:=h2.new o;have i:=o.owns k;have I:=y.trans o;clear h2 k o y H;go_wp2_with fail;refine(FW base _ ss S i ϖ l).mono ?_;rintro e J⟨rfl,z⟩;have P:=D.new z;have M:=I.trans z;clear D i z I;go_wp2_with (with_reducible refine bC 107 rfl ?_);refine bX rfl (.agg #[.int .i64 (3:Nat),.string ⟨#[]⟩,.string (aj (ec ss))]) J ϰ ?_;go_wp2_with fail;refine(zl F d n x 3 ⟨#[]⟩ (aj (ec ss)) J P O T ϖ (by decide) (by rw[da];omega)).mono ?_;rintro e w5⟨rfl,t,E,X,V⟩;obtain⟨r,hr⟩:∃r,x.put n 3 ⟨#[]⟩ (aj (ec ss))=r:=⟨_,rfl⟩
  rw[hr]at E⊢;have B:Hid (x.begin n ss=r):=c.out.trans hr;clear hr c;have⟨Y,r2⟩:=r;go_wp2;go_ret;rw[B.out];exact⟨rfl,t,E,(M.mono).trans X λj N=>.inl N,(dw.refl F w).trans V M.size⟩
def sx:Θ->Int
 |.int _ e=>e
 |_=>0
def DS.Fit.weak{k:Nat}(h:x.Fit (m+k)):x.Fit m:=⟨h.mZ,by have:=h.mY;omega,h.mM,h.mL⟩
def BW{t o:Int}(a:x.Fit (m+2))(h:x.kr t o=true):(x.mark t o).Fit m/\(x.mark t o).waiting=[]:=by
 unfold DS.kr at h;rw[χ]at h;unfold DS.mark;rw[κ h.1];refine⟨DS.Ce (DS.j9 (r:=m+1) a h.1) h.2,?_⟩;unfold DS.flush;rw[κ h.2]
def Ft{p c:Ξ}(b:x.Fit (m+5)):∃e:Int,(x.put n s p c).2=.int .i64 e/\(e=0->(x.put n s p c).1.Fit m/\(x.put n s p c).1.waiting=[]):=by
 unfold DS.put;split;exact⟨7,rfl,λh=>by cases h⟩;split;rename_i h1 h2;refine⟨_,rfl,λh=>?_⟩;have a:=(DS.Ek (m:=m+2) b h2).1;split at h;exact BW a (by assumption);cases h;exact⟨3,rfl,λh=>by cases h⟩
def Fl{p:Ξ}(b:x.Fit (m+5)):∃e:Int,(x.remove n s p).2=.int .i64 e/\(e=0->(x.remove n s p).1.Fit m/\(x.remove n s p).1.waiting=[]):=by
 unfold DS.remove;split;exact⟨5,rfl,λh=>by cases h⟩;refine⟨_,rfl,λh=>?_⟩;have a:x.Fit (m+3+2):=b;split at h;have:=BW a (by assumption);exact⟨this.1.weak (k:=3),this.2⟩;cases h
def Q6{x:DS}{n m:Nat}{w:dS}(a:x.Fit (m+5)):∃e:Int,(x.yl n w).2=.int .i64 e/\(e=0->(x.yl n w).1.Fit m/\(x.yl n w).1.waiting=[]):=by
 unfold DS.yl;cases w.becomes with|none=>exact Fl a|some c=>exact Ft a
def DS.iS(x:DS)(n:Nat):List dS->DS×Θ
 |[]=>(x,.int .i64 0)
 |w::r=>if sx (x.yl n w).2=0 then(x.yl n w).1.iS n r else x.yl n w
def DS.sD(x:DS)(n:Nat)(ss:List (List η×Nat)):DS×Θ:=
 if sx (x.iS n (bG x n ss)).2=0 then(x.iS n (bG x n ss)).1.remove n 3 ⟨#[]⟩else x.iS n (bG x n ss)
def pN{s:Int}{p:Ξ}{c:ϑ}(h:x.content n s p=some c):c.length<=96:=by
 unfold DS.content at h;split at h;rw[<-ag2 h];unfold bQ;rw[ac8];omega;cases h
def KO(e:lQ ss):∀w∈bG x n ss,w.set<256/\w.path.length<256/\∀c,w.becomes=some c->c.length<256:=by
 intro w a;unfold bG at a;have⟨p,d,a⟩:=ϐ4.1 a;have b:=e p d;have one:∀set,set<=2->w∈dh x n p set->w.set<256/\w.path.length<256/\∀c,w.becomes=some c->c.length<256:=λset hs hm=>by unfold dh at hm;split at hm;simp at hm;simp only[ξ]at hm;subst hm;exact⟨by show set<256;omega,by have:=qO b.1;show p.1.length<256;omega,λc f=>by have:=pN f;omega⟩
 unfold fO at a;obtain a|a:=ag4.1 a;exact one _ ϖ a;exact one _ ϖ a
def ce.apart(h:ce w F d n x)(r:Row w b c t)(h1:t≠134)(h2:t≠148)(f:t≠240):b∉F:=by
 obtain⟨j,i,hd,rfl⟩:=h;unfold Row at r;intro a;obtain rfl|a:=ac2.1 a;have:=hd.row;unfold Row at this;rw[r]at this;cases this;exact h1 rfl;obtain rfl|a:=ac2.1 a;have:=hd.last;unfold Row at this;rw[r]at this;cases this;exact h2 rfl;obtain⟨e,_⟩|⟨g,cap,cur,e,_,hg,_⟩:=hd.own.2;rw[e]at a;simp[Value.ownBlock]at a;rw[e]at a;have:b=g:=by simpa[Value.ownBlock] using a
 subst this;rw[r]at hg;cases hg;exact f rfl
def LQ{base k:Nat}(h:ce w F d n x)(a:w.ownsRow base e size v k xs)(h1:e≠134)(h2:e≠148)(b:e≠240):∀j∈F,v.ownBlock≠some j:=λj f hv=>by
 obtain⟨rfl,_⟩|⟨g,cap,cur,rfl,_,hg,_⟩:=a.2;cases hv;have:g=j:=by simpa[Value.ownBlock] using hv
 subst this;exact h.apart (c:=cur) (t:=e) hg h1 h2 b f
def Vm(M:Nat)(hM:M<=48)(F:ϓ)(d n:Nat)(x:DS)(ss:List (List η×Nat))(w:Φ)(h:ce w F d n x)(hx:x.Fit (10*M+30))(fX:x.waiting.length<55)(i:x.content n 3 ⟨#[]⟩=some (ec ss))(h0:0<ss.length)(hl:ss.length<=M)(hp:lQ ss)(hs:ss.Pairwise λp q=>p.1<q.1):
  Calls prog 58 #[.pointer (some ⟨d,0,none⟩)] w λe w'=>e=.returned (x.sD n ss).2/\∃F',ce w' F' d n (x.sD n ss).1/\aG F w w'/\dw F F' w:=by
 have⟨bl,vw,hd,a3⟩:=id h;go_enter func58,ntmps58;go_wp2_with fail;refine(gX w).mono ?_;rintro e w1⟨rfl,f1⟩;have B:=hd.new f1;go_wp2_with fail;refine(qW d bl n vw x 3 ⟨#[]⟩ w1 B).mono ?_;rintro e w2⟨rfl,f2⟩;have P:=B.new f2;have L:=f1.trans f2;rw[i];simp only[Option.getD_some,ϑ2];go_wp2_with fail;refine(FX ss w2 h0 ϖ hp hs).mono ?_;rintro e w3⟨u,rfl,U,f3⟩;have K:=P.new f3;have yh:=L.trans f3;go_wp2_with fail;refine(yx d bl n vw x _ u ss w3 K U ϖ λp aa=>(hp p aa).2).mono ?_;rintro e I⟨v,rfl,S,f4⟩;have Q:=yh.trans f4;have h4:=h.new Q;have a4:(bG x n ss).length<=2*M:=by have:=lI x n ss;omega
 have ar:=KO (x:=x) (n:=n) hp;have Y:Hid (x.sD n ss=if sx (x.iS n (bG x n ss)).2=0 then(x.iS n (bG x n ss)).1.remove n 3 ⟨#[]⟩else x.iS n (bG x n ss)):=rfl;generalize bG x n ss=a at*;clear hd B P K f1 f2 f3 f4 L yh U;have⟨ad,cap,hv⟩:=aY S;subst hv;go_wp2_with fail
 go_loopw [25] (λc wr=>∃(k:Nat)(y:DS)(G:ϓ),c=.int .i64 k/\k<=a.length/\ce wr G d n y/\y.Fit (5*(2*M-k)+5)/\y.waiting.length<55/\y.iS n (a.drop k)=x.iS n a/\aG F I wr/\dw F G I/\wr.ownsRow w3.heap.size 176 5 (Value.slice ad a.length cap) a.length (kP a)) λc _=>a.length-(intOf c).toNat
 case atStart=>exact⟨0,x,F,rfl,ϖ,h4,DS.Fit.weak (k:=25) (by rw[show 5*(2*M-0)+5+25=10*M+30 by omega];exact hx),fX,ϛ,aG.refl _ _,dw.refl _ _,S⟩
 case round=>
  obtain⟨k,y,G,rfl,hk,hy,s,aL,b,W,Z,o⟩:=hrel;by_cases A:k<a.length
  .have av:=LQ hy o (by decide) (by decide) (by decide);have⟨g,cur,ag,hg,a1,_,aq,R⟩:=cO o;have N:((cur.toList.drop (k*5)).take 5)=a[k].vals:=by
    rw[pA R _ _,Eh a k A]
   have hd:y.iS n (a.drop k)=if sx (y.yl n a[k]).2=0 then(y.yl n a[k]).1.iS n (a.drop (k+1))else y.yl n a[k]:=by rw[ac7 A];rfl
   rw[hd]at b;obtain⟨m,hm⟩:∃m,5*(2*M-k)+5=m+5:=⟨_,rfl⟩
   have an:m=5*(2*M-(k+1))+5:=ϖ;rw[hm]at s;have⟨e,he,f⟩:=Q6 (n:=n) (w:=a[k]) s;have C:=ar a[k] (ag5 A);clear hd aq R;generalize a[k]=t at*;subst ag;go_wp2_with (with_reducible first|refine au rfl ?_|refine ax 176 rfl ?_|refine ah 176 rfl ?_);refine bT rfl 176 _ rfl g (k*5) rfl Ic 5 uZ _ _ hg _ N rfl ?_;clear N hg;go_wp2_with (with_reducible first|refine au rfl ?_|refine ah 176 rfl ?_);refine br rfl 176 rfl _ Jx ?_;intro w5 b7 l7 H r5;go_wp2_with (with_reducible first|refine au rfl ?_|refine ax 176 rfl ?_|refine ah 176 rfl ?_);refine cu rfl 176 _ _ rfl _ 0 rfl _ rfl 5 uZ ?_ ?_ _ _ r5 ?_ ?_;rfl;simp[dS.vals,Value.oneCell'];decide;intro D X q6;rw[bV _ _ (by rfl)]at q6;have ZA:Row D b7 t.vals.toArray 176:=q6;have E:aG [] wr D:=H.trans X (by simpa using l7);have aw:=hy.new E;have aW:=E.owns o;clear q6 r5 H X o hy;go_wp2_with (with_reducible first|refine au rfl ?_|refine ax 176 rfl ?_);refine bT rfl 176 _ rfl b7 0 rfl Ic 5 uZ _ _ ZA t.vals (by rfl) rfl ?_;clear ZA;go_wp2_with fail;refine(Q5 G d n y t D aw ⟨s.mZ,by have:=s.mY;omega,s.mM,s.mL⟩ aL C.1 C.2.1 C.2.2).mono ?_;rintro e w7⟨rfl,J,h7,f7,g7⟩;have T:aG F I w7:=W.trans ((E.mono).trans f7 (λj i=>.inl i):aG G wr w7) λj i=>Z j i;have O:dw F J I:=Z.trans (dw.trans (dw.refl G wr) g7 E.size) W.size;have al:=f7.owns aW av;rw[he]at b⊢;have HD:Hid (x.iS n a=if sx (.int .i64 e)=0 then(y.yl n t).1.iS n (a.drop (k+1))else y.yl n t):=b.symm;have HP:Hid (y.yl n t=((y.yl n t).1,.int .i64 e)):=Prod.ext rfl he;clear b he;generalize (y.yl n t).1=z at*
   by_cases V:e=0
   .subst V;have⟨ac,am⟩:=f rfl;have l:Hid (x.iS n a=z.iS n (a.drop (k+1))):=HD.out;clear f HD HP;go_wp2
    go_roundw
    case rel=>exact⟨k+1,z,J,by go_num,ϖ,h7,an▸ac,by rw[am];decide,l.out.symm,T,O,al⟩
    case measure=>simp[intOf];omega
   .have a2:(e==0)=false:=by simpa using V
    have l:Hid (x.sD n ss=(z,.int .i64 e)):=by
     have h1:x.iS n a=(z,.int .i64 e):=by rw[HD.out,Γ (by simpa[sx] using V),HP.out]
     show _=_;rw[Y.out,h1,Γ (by simpa[sx] using V)]
    clear f HD HP Y;go_wp2;go_ret;rw[l.out];exact⟨rfl,J,h7,(Q.mono).trans T λj i=>.inl i,(dw.refl F w).trans O Q.size⟩
  .obtain rfl:k=a.length:=ϖ;rw[List.drop_length]at b;have l:Hid (x.sD n ss=y.remove n 3 ⟨#[]⟩):=by
    have h1:x.iS n a=(y,.int .i64 0):=b.symm;show _=_;rw[Y.out,h1];rfl
   clear b Y o;go_wp2_with fail;refine(gX wr).mono ?_;rintro e w5⟨rfl,H⟩;have h5:=hy.new H;go_wp2_with fail;refine(qM G d n y 3 ⟨#[]⟩ w5 h5 ⟨s.mZ,by have:=s.mY;omega,s.mM,s.mL⟩ ϖ).mono ?_;rintro e D⟨rfl,J,h6,X,g6⟩;obtain⟨r,hr⟩:∃r,y.remove n 3 ⟨#[]⟩=r:=⟨_,rfl⟩
   rw[hr]at h6⊢;have ao:Hid (x.sD n ss=r):=l.out.trans hr;clear hr l;have⟨r1,r2⟩:=r;go_wp2;go_ret;rw[ao.out];have E:aG F I D:=W.trans ((H.mono).trans X (λj i=>.inl i):aG G wr D) λj i=>Z j i;have a0:dw F J I:=Z.trans (dw.trans (dw.refl G wr) g6 H.size) W.size;exact⟨rfl,J,h6,(Q.mono).trans E λj i=>.inl i,(dw.refl F w).trans a0 Q.size⟩
def QX(F:ϓ)(d n:Nat)(x:DS)(ss:List (List η×Nat))(w:Φ)(h:ce w F d n x)(f:x.Fit 100)(i:x.waiting.length<55)(c:x.content n 3 ⟨#[]⟩=some (ec ss))(h0:0<ss.length)(b:ss.length<=7)(g:lQ ss)(hs:ss.Pairwise λp q=>p.1<q.1):
  Calls prog 58 #[.pointer (some ⟨d,0,none⟩)] w λe w'=>e=.returned (x.sD n ss).2/\∃a,ce w' a d n (x.sD n ss).1/\aG F w w'/\dw F a w:=Vm 7 ϖ F d n x ss w h f i c h0 b g hs
def Ty(x:DS)(n s:Nat)(p c:Ξ):∃e:Int,(x.put n s p c).2=.int .i64 e:=by
 unfold DS.put;split;exact⟨_,rfl⟩;split<;>exact⟨_,rfl⟩
def ze(x:DS)(n s:Nat)(p:Ξ):∃e:Int,(x.remove n s p).2=.int .i64 e:=by
 unfold DS.remove;split<;>exact⟨_,rfl⟩
def Cl(n:Nat):∀(a:List dS)(x:DS),∃e:Int,(x.iS n a).2=.int .i64 e
 |[],_=>⟨0,rfl⟩
 |w::r,x=>by
  unfold DS.iS;split;exact Cl n r _;unfold DS.yl;cases w.becomes with|none=>exact ze ..|some c=>exact Ty ..
def Q0(x:DS)(n:Nat)(ss:List (List η×Nat)):∃e:Int,(x.sD n ss).2=.int .i64 e:=by
 unfold DS.sD;split;exact ze ..;exact Cl ..
def Ao(a:x.Fit (m+5)):∃e:Int,(x.begin n ss).2=.int .i64 e/\(e=0->(x.begin n ss).1.Fit m/\(x.begin n ss).1.waiting=[]):=by
 unfold DS.begin;split;exact⟨7,rfl,λh=>by cases h⟩;exact Ft a
def DS.AF(x:DS)(n:Nat)(ss:List (List η×Nat)):DS×Θ:=
 if ss=[]then(x,.int .i64 0)else if sx (x.begin n ss).2=0 then(x.begin n ss).1.sD n ss else x.begin n ss
def Vr(x:DS)(n:Nat)(ss:List (List η×Nat))(a:x.Fit 105):∃e:Int,(x.AF n ss).2=.int .i64 e:=by
 unfold DS.AF;split;exact⟨0,rfl⟩;split;exact Q0 ..;exact(Ao (m:=100) a).imp λe h=>h.1
def oF.moved{a:ϓ}{x':DS}(h:oF w F s d n x)(hd:ce w' a d n x')(f:aG F w w')(g:dw F a w):oF w' a s d n x':=
 ⟨f.row h.row h.ne,hd,λb=>(g s b).elim h.ne λc=>by have:=h.row.lt;omega⟩
def Vq(F:ϓ)(s d n:Nat)(x:DS)(base:Nat)(v:Θ)(ss:List (List η×Nat))(w:Φ)(h:oF w F s d n x)(l:x.Fit 105)(P:x.waiting.length<55)(hv:w.ownsRow base 168 2 v ss.length (cV ss))(z:ss.length<=7)(E:lQ ss)(hs:ss.Pairwise λp q=>p.1<q.1)(R:∀g,v.ownBlock=some g->g∉F)(k:sx (x.begin n ss).2=0->(x.begin n ss).1.content n 3 ⟨#[]⟩=some (ec ss)):
  Calls prog 56 #[.pointer (some ⟨s,0,none⟩),v] w λe w'=>e=.returned (x.AF n ss).2/\(∃L,oF w' L s d n (x.AF n ss).1/\dw F L w)/\aG F w w':=by
 have c0:=h.cell;have⟨ad,cap,G⟩:=aY hv;subst G;have i:Hid (x.AF n ss=if ss=[]then(x,.int .i64 0)else if sx (x.begin n ss).2=0 then(x.begin n ss).1.sD n ss else x.begin n ss):=rfl;go_enter func56,ntmps56;by_cases h0:ss.length=0
 .have b:Hid (x.AF n ss=(x,.int .i64 0)):=i.out.trans (κ (Ϻ.1 h0));rw[h0];clear i hv hs E k z h0;go_wp2;go_ret;rw[b.out];exact⟨rfl,⟨F,h,dw.refl _ _⟩,aG.refl _ _⟩
 .have t:ss≠[]:=λe=>h0 (by rw[e];rfl)
  have D:0<ss.length:=ϖ;have o:((ss.length:Int)==0)=false:=by simp;omega
  have⟨e1,c,a⟩:=Ao (m:=100) (n:=n) (ss:=ss) l;go_wp2_with fail;refine(Jp F d n x base _ ss w h.disk ⟨l.mZ,by have:=l.mY;omega,l.mM,l.mL⟩ P hv z E R).mono ?_;rintro e w1⟨rfl,J,h1,f1,u⟩;have f:=h.moved h1 f1 u;have c1:=f.cell;rw[c]at k i⊢;have H:Hid (x.begin n ss=((x.begin n ss).1,.int .i64 e1)):=Prod.ext rfl c;clear c c0 h0;generalize (x.begin n ss).1=y at*
  by_cases A:e1=0
  .subst A;have⟨Q,C⟩:=a rfl;have b:Hid (x.AF n ss=y.sD n ss):=i.out.trans (Γ t);have B:=k rfl;clear i H k a o;go_wp2_with fail;refine(QX J d n y ss w1 h1 Q (by rw[C];decide) B D z E hs).mono ?_;rintro e T⟨rfl,O,h2,f2,K⟩;obtain⟨r,hr⟩:∃r,y.sD n ss=r:=⟨_,rfl⟩
   rw[hr]at h2⊢;have I:Hid (x.AF n ss=r):=b.out.trans hr;clear hr b;have⟨S,r2⟩:=r;go_wp2;go_ret;rw[I.out];exact⟨rfl,⟨O,f.moved h2 f2 K,u.trans K f1.size⟩,f1.trans f2 λj M=>u j M⟩
  .have N:(e1==0)=false:=by simpa using A
   have b:Hid (x.AF n ss=(y,.int .i64 e1)):=i.out.trans ((Γ t).trans ((Γ (by simpa[sx] using A)).trans H.out));clear i H k a o;go_wp2;go_ret;rw[b.out];exact⟨rfl,⟨J,f,u⟩,f1⟩
def ew(b:ϑ):(aj b).toList=b:=by rw[ϔ8];rfl
def DZ:prog.cellsOf 9=1:=ϰ
end
section
open Go.RowKit Go.Lib Go.Sort
section
variable {L:List η}{n:Nat}{m:eU}
def oW.loose(h:oW L n m){b:ϑ}(c:j<n)(h0:j≠0)(a:b.length=64)(hf:∀i f,m i=some f->j≠1+2*i/\j≠2+2*i):oW (ci L ((j:Int),b)) n m where
 len:=Ka L n h.len j c b a
 lo:=h.lo
 root:=by rw[kR L n h.len j c b a,Γ ϖ,h.root]
 recs i f hm:=by have h1:=hf i f hm;rw[kR L n h.len j c b a,kR L n h.len j c b a,Γ ϖ,Γ ϖ,h.recs i f hm]
 lt:=h.lt
 good:=h.good
 inj:=h.inj
def zY(a:m i=none)(b:j=1+2*i\/j=2+2*i):∀k f,m k=some f->j≠1+2*k/\j≠2+2*k:=by
 intro k f hk;have:k≠i:=λe=>by subst e;rw[a]at hk;cases hk
 omega
def tf(m:eU)(o:Int):eU:=if o=-1 then m else upd m o.toNat none
def after(m:eU)(i:Nat)(f:dk)(o:Int):eU:=tf (upd m i (some f)) o
def uw(m:eU)(o:Int)(a:-1<=o/\o<54):ik (eX n m) o 0=eX n (tf m o):=by
 unfold ik tf;split;rfl;exact EW n m o.toNat ϖ none
def Dw(m:eU)(i:Nat)(b:i<54)(f:dk)(o:Int)(a:-1<=o/\o<54):bu (eX n m) i o=eX n (after m i f o):=by
 unfold bu after;have:ik (eX n m) (i:Int) 1=eX n (upd m i (some f)):=by unfold ik;rw[Γ ϖ];exact EW n m i b (some f)
 rw[this,uw _ o a]
def A6(m:eU)(o:Int)(a:-1<=o/\o<54):bu (eX n m) (-1) o=eX n (tf m o):=by
 unfold bu;rw[show ik (eX n m) (-1) 1=eX n m from rfl,uw _ o a]
def iG{m:eU}{o:Int}{f:dk}(h:tf m o j=some f):m j=some f/\(0<=o->o.toNat≠j):=by
 unfold tf at h;split at h;exact⟨h,ϖ⟩;unfold upd at h;split at h;cases h;rename_i a;exact⟨h,λ_ e=>a e.symm⟩
def tS{m:eU}{o:Int}(h:o=-1\/(0<=o/\o≠j)):tf m o j=m j:=by
 unfold tf;split;rfl;unfold upd;rw[Γ ϖ]
def oW.rooted(h:oW L n m){a:eU}(b:0<n)(hr:∀i f,a i=some f->kS L (1+2*i)++kS L (2+2*i)=dc f.set f.path f.content)(c:∀i f,a i=some f->i<aH n)(hg:∀i f,a i=some f->eR f.set f.path=true/\f.content.length<=96)(d:∀i j f g,a i=some f->a j=some g->nameOf f=nameOf g->i=j):oW (ci L (0,eX n a)) n a where
 len:=Ka L n h.len 0 b _ (jR ..)
 lo:=h.lo
 root:=by have:=kR L n h.len 0 b _ (jR n a) 0;rw[κ rfl]at this;exact this
 recs i f hm:=by have h1:=kR L n h.len 0 b _ (jR n a) (1+2*i);have h2:=kR L n h.len 0 b _ (jR n a) (2+2*i);rw[Γ ϖ]at h1 h2;show kS (ci L (((0:Nat):Int),eX n a)) _++kS (ci L (((0:Nat):Int),eX n a)) _=_;rw[h1,h2];exact hr i f hm
 lt:=c
 good:=hg
 inj:=d
def oW.dropped(h:oW L n m)(o:Int):oW (ci L (0,eX n (tf m o))) n (tf m o):=
 h.rooted (by have:=h.lo;omega) (λi f hm=>h.recs i f (iG hm).1) (λi f hm=>h.lt i f (iG hm).1) (λi f hm=>h.good i f (iG hm).1)
  λi j f g hf hg e=>h.inj i j f g (iG hf).1 (iG hg).1 e
def jx{m:eU}{f:dk}{o:Int}{g:dk}(h:after m i f o j=some g):(j=i/\g=f)\/(j≠i/\m j=some g/\(0<=o->o.toNat≠j)):=by
 unfold after at h;have⟨h1,h2⟩:=iG h;unfold upd at h1;split at h1;rename_i e;exact .inl ⟨e,(ag2 h1).symm⟩;rename_i e;exact .inr ⟨e,h1,h2⟩
def oW.put(h:oW L n m){f:dk}{o:Int}(d:i<aH n)(a:kS L (1+2*i)++kS L (2+2*i)=dc f.set f.path f.content)(hg:eR f.set f.path=true/\f.content.length<=96)(b:∀j g,m j=some g->nameOf g=nameOf f->o=j):oW (ci L (0,eX n (after m i f o))) n (after m i f o):=by
 refine h.rooted (by have:=h.lo;omega) (λj g hm=>?_) (λj g hm=>?_) (λj g hm=>?_) λj k g g' c hk e=>?_
 obtain⟨rfl,rfl⟩|⟨_,h1,_⟩:=jx hm;exact a;exact h.recs j g h1;obtain⟨rfl,rfl⟩|⟨_,h1,_⟩:=jx hm;exact d;exact h.lt j g h1;obtain⟨rfl,rfl⟩|⟨_,h1,_⟩:=jx hm;exact hg;exact h.good j g h1;obtain⟨rfl,rfl⟩|⟨_,h1,h2⟩:=jx c;obtain⟨rfl,rfl⟩|⟨_,h3,h4⟩:=jx hk;rfl;have:=b k g' h3 e.symm;have:=h4 ϖ;omega;obtain⟨rfl,rfl⟩|⟨_,h3,h4⟩:=jx hk;have:=b j g h1 e;have:=h2 ϖ;omega;exact h.inj j k g g' h1 h3 e
end
def half(r:ϑ)(k:Nat):List η:=(r.drop (k*64)).take 64
def Gg(r:ϑ)(h:r.length=128)(k:Nat)(hk:k<2):(half r k).length=64:=by
 unfold half;rw[ac8,am1];omega
def halves(r:ϑ)(h:r.length=128):half r 0++half r 1=r:=by
 unfold half;simp only[Nat.zero_mul,ϳ,Nat.one_mul];rw[ν (l:=r.drop 64) (by rw[am1];omega),List.take_append_drop]
def Ih(L:ϑ)(i:Nat)(r:ϑ):List η:=ci (ci L ((1+2*i:Nat),half r 0)) ((2+2*i:Nat),half r 1)
section
variable (L:List η)(a k kp:Int)(n s:Nat)(p c:Ξ)(i:Nat)(o:Int)(root r:List η)
def O5(hr:dc s p.data.toList c.data.toList=r)(d:eF ⟨L,[],a,false,k,kp,false⟩ n=i)(f:dl ⟨L,[],a,false,k,kp,false⟩ s p (taken ⟨L,[],a,false,k,kp,false⟩ n)=o)(b:seenIn (Ih L i r) [] 0=root):
  (⟨L,[],a,false,k,kp,false⟩:DS).put n s p c=(⟨ci (Ih L i r) (0,bu root i o),[],a+5,false,k,kp,false⟩,.int .i64 0):=by
 have e:ci (ci L ((1+2*i:Nat),List.take 64 r)) ((2+2*i:Nat),List.take 64 (List.drop 64 r))=Ih L i r:=by simp[Ih,half]
 unfold DS.put;rw[d,f,hr,Γ ϖ];simp[DS.lu,DS.qa,DS.wr,DS.write,DS.bL,DS.lG,DS.flush,DS.mark,DS.kr,du,kq,DS.read];rw[show 1+2*(i:Int)=((1+2*i:Nat):Int) by omega,show((1+2*i:Nat):Int)+1=((2+2*i:Nat):Int) by omega,e,b];simp;omega
def Fk(x:DS)(a:dl x s p (taken x n)=-1):x.remove n s p=(x,.int .i64 5):=by
 unfold DS.remove;rw[κ a]
def Fm(c:dl ⟨L,[],a,false,k,kp,false⟩ s p (taken ⟨L,[],a,false,k,kp,false⟩ n)=o)(d:o≠-1)(b:seenIn L [] 0=root):
  (⟨L,[],a,false,k,kp,false⟩:DS).remove n s p=(⟨ci L (0,bu root (-1) o),[],a+2,false,k,kp,false⟩,.int .i64 0):=by
 unfold DS.remove;rw[c,Γ d];simp[DS.write,DS.bL,DS.lG,DS.flush,DS.mark,DS.kr,du,kq,DS.read,b];omega
end
end
section
open Go.RowKit Go.Lib
def oF.ky{w w':Φ}{S F:ϓ}{s d n:Nat}{x:DS}(h:oF w F s d n x)(f:aG S w w')(h1:s∉S)(h2:∀k∈S,k∉F):oF w' F s d n x:=⟨f.row h.row h1,h.disk.ky f h2,h.ne⟩
def qY(src a e:θ)(x:ac4)(g:o.op=.convert src a x)(hs:P.underlying src=some (.slice e))(f:P.underlying e=some (.int .u8))(hd:P.underlying a=some .string)(b n c:Nat)(k:ρ x=.slice (some ⟨b,0,none⟩) n c)(l:ϑ)(h:l.length=n)(i:∀j,(d:j<l.length)->w.cell? ⟨b,j,none⟩=some (.int .u8 (l[j].toNat:Int))):
  (execOp ρ o).run P w=.ok (.value (.string (aj l))) w:=by
 subst h;have:=run_convert_bytes_back (P:=P) w src a e ⟨b,0,none⟩ c l hs f hd (λj d=>by rw[Addr.add_mid,ϐ9];exact i j d)
 simp only[execOp,g,k,run_bind,this];rfl
end
section
open Go.RowKit Go.Lib Go.Sort
def zX(x:DS)(n:Nat)(h:x.waiting=[]):eF x n=eP (kS x.bg 0) (aH n) (aH n) 0:=by
 unfold eF;rw[rT x h]
section
variable {L:List η}{n:Nat}{m:eU}
def owner(h:oW L n m)(s:Nat)(p:ϑ):∃o:Int,(∀x:DS,x.bg=L->x.waiting=[]->dl x s (aj p) (taken x n)=o)/\-1<=o/\o<54/\(∀j g,m j=some g->nameOf g=(s,p)->o=j)/\(o≠-1->∃g,m o.toNat=some g/\nameOf g=(s,p)):=by
 by_cases d:∃j g,m j=some g/\nameOf g=(s,p);have⟨j,g,hg,e⟩:=d;have f:=h.lt j g hg;have:=oO n;have a:=e;unfold nameOf at a;simp only[ai6]at a;refine⟨j,λx b c=>?_,ϖ,ϖ,λk g' hk i=>?_,λ_=>⟨g,by simpa using hg,e⟩⟩;subst b;have:=Fc h c hg;rw[a.1,a.2]at this;exact this;rw[h.inj k j g' g hk hg (i.trans e.symm)];refine⟨-1,λx b c=>?_,ϖ,ϖ,λj g hg e=>absurd ⟨j,g,hg,e⟩ d,λh=>absurd rfl h⟩;subst b;exact tE h c s p λj g hg e=>d ⟨j,g,hg,e⟩
end
def LF(n:Nat)(h:16<=n):oW (iF n) n λ_=>none where
 len:=by unfold iF;rw[af0,kJ,ak6];omega
 lo:=h
 root:=by unfold iF kS;rw[Nat.mul_zero,ϳ,ϵ (by rw[kJ];omega),ν (by rw[kJ];omega)];have:=y8 n (λ_=>none) 0 ϛ;rw[<-this];rfl
 recs:=λi f hm=>by cases hm
 lt:=λi f hm=>by cases hm
 good:=λi f hm=>by cases hm
 inj:=λi j f g hm=>by cases hm
end
section
open Go.RowKit Go.Lib
def aG.cell{S:ϓ}{w w':Φ}(h:aG S w w'){a:Addr}{v:Θ}(b:w.cell? a=some v)(ha:a.block∉S):w'.cell? a=some v:=by
 unfold World.cell? at b⊢;cases c:w.heap[a.block]? with
 |none=>rw[c]at b;cases b
 |some o=>rw[h.block a.block (Ψ.1 c).1 ha,c];rw[c]at b;exact b
def tP(x:Int):Prop:=-9223372036854775808<=x/\x<=9223372036854775807
def DS.calm(L:ϑ)(a:Int):DS:=⟨L,[],a,false,0,0,false⟩
def z0(L:ϑ)(a:Int)(r:Nat)(h0:0<=a)(h1:a+r<=1000000000):(DS.calm L a).Fit r:=⟨h0,h1,by show(0:Int)<=0;omega,by show(0:Int)<=_;omega⟩
section
variable {P:aa1}{ops:Array Oper}{Q:Exit->Act->Φ->Prop}{a:Act}{w:Φ}{rest:List Oper}{o:Oper}
def gj(hg:o.guard=none)(t:θ)(x y:ac4)(f:o.op=.store t x y)(b:Nat)(e:a.eval x=.pointer (some ⟨b,0,none⟩))(cells:ϐ)(g:a.eval y=.agg cells)(i:(P.info? t).map (·.size)=some cells.size)(h1:∀v∈cells.toList,v.oneCell'=true)(c:ϐ)(u:θ)(hr:Row w b c u)(j:c.size=cells.size)(h:∀w1:Φ,aG [b] w w1->Row w1 b cells u->wpList P ops Q rest (a.put o.dst ϗ) w1):wpList P ops Q (o::rest) a w:=by
 refine cu hg t x y f b 0 e cells g cells.size i rfl h1 c u hr ϖ λw1 f1 d=>h w1 f1 ?_
 rw[bV _ _ (by rw[j,aj6]),Array.toArray_toList]at d;exact d
end
end
section
open Go.RowKit Go.Lib Go.Sort
open Go.Conc (base G)
def xW(w:Φ):Prop:=∃c t f,w.heap[0]?=some (.cells c t f)/\∀v∈c,∀r,¬Value.Has r v
def xW.blk(h:xW w)(f:nU S w w')(h0:0∉S):xW w':=by
 have⟨c,t,a,h1,h2⟩:=h;exact⟨c,t,a,(f.block 0 (Ψ.1 h1).1 h0).trans h1,h2⟩
def oF.az{w:Φ}{F:ϓ}{s d n:Nat}{x:DS}(h:oF w F s d n x)(t:Go.Proofs.YtchcmhodnkgojaaGreat.eH)(k:Nat):oF (az w t k) F s d n x:=by
 obtain⟨h1,⟨p,j,⟨l,v,q,r,f,i,y,m,o,e,c,b,a⟩,u⟩,g⟩:=h;exact⟨h1,⟨p,j,⟨l,v,q,r,f,i,y,m,o,e,c,b,a⟩,u⟩,g⟩
def bM.blk{a:Nat}{b:Θ}(h:bM w d a n b x)(f:nU S w w')(h1:d∉S)(h2:a∉S)(c:∀k∈S,b.ownBlock≠some k):bM w' d a n b x:=
 {h with row:=(f.block d h.row.lt h1).trans h.row,last:=(f.block a h.last.lt h2).trans h.last,own:=World.ownsRow.al7 h.own f λg hg e=>c g e hg}
def oF.blk{w w':Φ}{F S:ϓ}{s d n:Nat}{x:DS}(h:oF w F s d n x)(f:nU S w w')(h1:s∉S)(h2:∀k∈S,k∉F):oF w' F s d n x:=by
 obtain⟨b,a,hd,rfl⟩:=h.disk;exact⟨(f.block s h.row.lt h1).trans h.row,⟨b,a,hd.blk f (λe=>h2 _ e ϛ) (λe=>h2 _ e ϛ) λk hk e=>h2 k hk (by simp[e]),rfl⟩,h.ne⟩
def oF.rd(h:oF w F s d n x)(hg:xW w)(b:x.waiting=[]):∃a,gz.ie d a n x w:=by
 obtain⟨a,c,hd,rfl⟩:=h.disk;have:=hd.nil b;subst this;exact⟨a,⟨⟨_,hd.row⟩,⟨_,hd.last⟩,hg,hd.len,hd.lo,hd.hi,b⟩⟩
def vF(x:DS)(n:Nat)(ps:List (List η)):Prop:=ps.Pairwise (·<=·)/\ps.Nodup/\∀l,l∈ps↔gz.comb (iZ x n 0 (aj l)) (iZ x n 1 (aj l))≠none
def Bx(h:ps.Pairwise (·<=·))(d:ps.Nodup):ps.Pairwise (·<·):=
 (h.and d).imp fun {a b} c=>by obtain q|q:=List.le_iff_lt_or_eq.1 c.1;exact q;exact absurd q c.2
def AM(e f:gz.jE)(h:ps.Pairwise (·<·)):(jl e f ps).Pairwise λp q=>p.1<q.1:=by
 unfold jl;refine List.Pairwise.filterMap _ (λa b c p g q d=>?_) h;obtain⟨_,_,rfl⟩:=ψ.1 g;obtain⟨_,_,rfl⟩:=ψ.1 d;exact c
def fD(x:DS)(n:Nat)(ps:List (List η)):List (List η×Nat):=jl (iZ x n 0) (iZ x n 1) ps
def lU(x:DS)(n:Nat)(ps:List (List η)):List (List η):=kC (iZ x n 0) (iZ x n 1) ps
def cY:(prog.info? 58).map (·.size)=some 2:=ϰ
def cL:Θ:=.agg #[.int .i64 0,.slice none 0 0]
def fN:(prog.info? 58).map (·.zero)=some (some cL):=ϰ
def lP{fn:Func}{tp tq:Tmp}(hf:fn.results=#[.cell tp ty,.tmp tq])(a:ϐ)(w:Φ)(b:Nat)(c:ϐ)(u:θ)(i:a.getD tp ϗ=.pointer (some ⟨b,0,none⟩))(hr:Row w b c u)(k:(prog.info? ty).map (·.size)=some c.size)(j:(prog.underlying ty).map (λd=>match d with|.struct _|.array _ _=>true|_=>false)=some true:=by kernel_rfl):(results fn a).run prog w=.ok (.tuple #[.agg c,a.getD tq ϗ]) w:=by
 have⟨d,e,f⟩:=ψ.1 j;have g:a[tp]?.getD ϗ=.pointer (some ⟨b,0,none⟩):=by simpa using i
 have h:=run_loadVar_row w b u ty c (0,0) d hr e (by revert f e;cases d<;>intro x y<;>first|rfl|cases y) k;simp[results,hf,g,asAddr,h]
def Rm{E:aB.Env}{f:ac5}{k:ϕ}{rest:ϓ}(t:θ)(x:ac4)(j:ops[i]?=some o)(c:o.op=.load t x)(xo:og aB.PP S0 E0 true o=true)(hg:o.guard=none)(ha:(prog.underlying t).map (λd=>match d with|.struct _|.array _ _=>true|_=>false)=some false)(b:Addr)(g:a.eval x=.pointer (some b))(v:Θ)(l:wL.cell? b=some v)(h:aB.CI E f (.inRegion ops rest::k) R (a.put o.dst v) wL):aB.CI E f (.inRegion ops (i::rest)::k) R a wL:=by
 refine gz.Sq.iI (w1:=wL) v j (xo:=xo) hg (λt' d=>?_) h;have e:(az wL t' d).cell? b=some v:=l;have h1:gz.RT (m6.load t (.pointer (some b))).sem (az wL t' d) (.value v) (az wL t' d) #[⟨.cell b,false,false⟩]:=by refine gz.RT.fH (x:=v) ?_ (.pure _);show gz.RT (do if<-isAgg t then Pure.pure (.agg (<-loadCells b (<-Go.sizeOf t)))else load b) _ _ _ _;refine(gz.i7 ha).bk ?_;simp only[ab6,if_false];exact gz.lN e
 have:=h1.run;unfold execOp;rw[c];show(do pure (.value (<-Instr.loadAt t (a.eval x))):Sem Next).run _ _=_;rw[g];exact this
def KA{E:aB.Env}{f:ac5}{k:ϕ}{l:ϓ}(m:Nat)(c:l=List.range' m (ops.toList.drop m).length)(h0:∃fn,aB.PP.funcs[f]?=some fn)(JU:Dr aB.PP S0 E0 true (.inRegion ops l)=true)(I:ϣ)(g:∀w t d,I w->I (az w t d))(e:I wL)(b:∀w,I w->w.heap.size=wL.heap.size->wpList aB.PP ops (aB.after E none f k R) (ops.toList.drop m) a w):aB.CI E f (.inRegion ops l::k) R a wL:=by
 refine aB.VB none h0 JU ϛ I g e λw h1 h2=>?_
 rw[c,wpOps_eq_wpList (ops.toList.drop m) m λj=>by rw[aj1,ai8]];exact b w h1 h2
structure Jt (x:DS)(n:Nat):Prop where
 wait:x.waiting=[]
 fit:x.failed=false->x.Fit 105
 steps:∀ps,vF x n ps->(fD x n ps).length<=7/\lQ (fD x n ps)/\(sx (x.begin n (fD x n ps)).2=0->(x.begin n (fD x n ps)).1.content n 3 ⟨#[]⟩=some (ec (fD x n ps)))
def Ix(x:DS)(n:Nat):Int:=if x.failed then 3 else if x.pending n then 4 else 0
def RY(F:ϓ)(s d n:Nat)(x:DS)(wL:Φ)(v:Θ)(w':Φ):Prop:=
 (Ix x n≠0/\v=.tuple #[cL,.int .i64 (Ix x n)]/\oF w' F s d n x/\nU [] wL w')\/
 (Ix x n=0/\∃ps b,vF x n ps/\oF w' b s d n (x.AF n (fD x n ps)).1/\dw F b wL/\nU F wL w'/\
  ((∃a,(x.AF n (fD x n ps)).2=.int .i64 0/\v=.tuple #[.agg #[.int .i64 (fD x n ps).length,a],.int .i64 0]/\w'.ownsRow wL.heap.size 9 1 a (lU x n ps).length (bJ (lU x n ps))/\∀g,a.ownBlock=some g->g∉b)\/
   (∃e:Int,e≠0/\(x.AF n (fD x n ps)).2=.int .i64 e/\v=.tuple #[cL,.int .i64 e])))
open gz gz.Sq in
def VD{E:aB.Env}{wL:Φ}{F:ϓ}{s d n:Nat}{x:DS}(h:oF wL F s d n x)(hG:xW wL)(h0:0∉F)(r:Jt x n):
  aB.CC E 31 #[.pointer (some ⟨s,0,none⟩)] (RY F s d n x wL) wL:=by
 refine aB.jZ func31 rfl ?_;refine aB.dI ?_;refine OR {tmps:=#[.pointer (some ⟨s,0,none⟩),ϗ,ϗ,ϗ,ϗ,ϗ,ϗ,ϗ,ϗ,ϗ,ϗ,ϗ,ϗ,ϗ,ϗ,ϗ,ϗ,ϗ,ϗ,ϗ,ϗ,ϗ,ϗ,ϗ,ϗ,ϗ,ϗ,ϗ,ϗ,ϗ,ϗ,ϗ,ϗ],defers:=[]} ϰ ?_;refine aB.cU none ⟨_,func31⟩ (λw=>oF w F s d n x/\nU [] wL w) (λw t k h=>⟨h.1.az t k,h.2.tape t k⟩) ⟨h,nU.refl ..⟩ λw hI a9=>?_
 have⟨hS,hB⟩:=hI;go_wp2_with (with_reducible refine au rfl ?_);refine br rfl 58 rfl _ fN ?_;intro w1 b2 l2 f2 r2;have U:=hS.new f2;have aq:=hB.trans f2.blk;have C:b2∉F:=λhb=>by have:=hS.disk.lt b2 hb;omega
 have H:s≠b2:=by have:=hS.row.lt;omega
 have a8:wL.heap.size<=b2:=ϖ;clear hS hB f2;go_wp2_with fail;refine aB.dI (aB.cU none ⟨_,func31⟩ (λw=>oF w F s d n x/\nU [] wL w/\Row w b2 cL.cells 58) (λw t k h=>⟨h.1.az t k,h.2.1.tape t k,h.2.2⟩) ⟨U,aq,r2⟩ λw2 hI W=>?_);have⟨I,aL,aa⟩:=hI;clear U aq r2 W;go_wp2_with fail;refine(oh F s d n x w2 I).mono ?_;rintro e f⟨rfl,f3⟩;have M:=I.new f3;have j:=aL.trans f3.blk;have r3:Row f b2 cL.cells 58:=f3.row aa;have L:Hid (Ix x n=(if x.failed then 3 else if x.pending n then 4 else 0)):=rfl;obtain⟨e0,aw⟩:∃e0:Int,(if x.failed then 3 else if x.pending n then 4 else 0)=e0:=⟨_,rfl⟩
 rw[aw]at L⊢;clear aw I aL f3 aa;by_cases NG:e0=0
 .subst NG;go_wp2_with fail;have R:xW f:=hG.blk j ϛ;have⟨bl,S⟩:=M.rd R r.wait;refine aB.dI (aB.ep (eT _ rfl (.inr rfl) rfl (iI (w1:=f) (.pointer (some ⟨s,0,none⟩)) rfl rfl (λt d=>ϰ) (iI (w1:=f) (.pointer (some ⟨s,0,none⟩)) rfl rfl (λt d=>ϰ) (Rm _ _ rfl rfl ϰ rfl ϰ ⟨s,0,none⟩ rfl (.pointer (some ⟨d,0,none⟩)) M.cell ?_)))));refine jY (f2:=55) #[.tmp 18] #[.pointer (some ⟨d,0,none⟩)] (R2:=XB x n f) rfl rfl ϰ (λb w=>ϰ) ϰ (VF S) λv z hR a7=>?_
  obtain⟨ps,sv,cv,p1,p2,p3,rfl,u,ac,ao⟩:=hR;refine eT _ rfl (.inr rfl) rfl (iI (w1:=z) sv rfl rfl (λt d=>ϰ) (iI (w1:=z) cv rfl rfl (λt d=>ϰ) (eT _ rfl (.inl rfl) rfl (eT _ rfl (.inl rfl) rfl (aB.cT ?_)))));have hP:vF x n ps:=⟨p1,p2,p3⟩
  have y:=r.steps ps hP;have V:(fD x n ps).Pairwise λp q=>p.1<q.1:=AM _ _ (Bx p1 p2)
  have D:z.ownsRow f.heap.size 168 2 sv (fD x n ps).length (cV (fD x n ps)):=ac;have IP:z.ownsRow f.heap.size 9 1 cv (lU x n ps).length (bJ (lU x n ps)):=ao;have X:oF z F s d n x:=M.blk u ϛ ϛ;have r4:Row z b2 cL.cells 58:=(u.block b2 r3.lt ϛ).trans r3;have am:=j.trans u;have a1:wL.heap.size<=f.heap.size:=j.size;have a5:=M.disk.lt;have B:x.Fit 105:=r.fit (by
   have:=L.out;unfold Ix at this;cases hf:x.failed with|false=>rfl|true=>rw[hf]at this;simp at this)
  generalize Y:fD x n ps=ss at*;generalize A:lU x n ps=cs at*;clear ac ao p1 p2 p3 M j r3 R S u;have⟨ad,cap,a2⟩:=aY D;have⟨o,a,a3⟩:=aY IP;subst a2 a3;refine OR {tmps:=#[.pointer (some ⟨s,0,none⟩),ϗ,.pointer (some ⟨b2,0,none⟩),.int .i64 0,.int .i64 0,.slice ad ss.length cap,.slice o cs.length a,ϗ,.pointer (some ⟨s,0,none⟩),.int .i64 0,.int .i64 0,.bool false,ϗ,ϗ,.tuple #[.slice ad ss.length cap,.slice o cs.length a],.pointer (some ⟨s,0,none⟩),.pointer (some ⟨s,0,none⟩),.pointer (some ⟨s,0,none⟩),.pointer (some ⟨d,0,none⟩),.tuple #[.slice ad ss.length cap,.slice o cs.length a],.slice ad ss.length cap,.slice o cs.length a,ϗ,ϗ,ϗ,ϗ,ϗ,ϗ,ϗ,ϗ,ϗ,ϗ,ϗ],defers:=[]} ϰ ?_;refine aB.cU none ⟨_,func31⟩ (λw=>oF w F s d n x/\nU [] wL w/\Row w b2 cL.cells 58/\w.ownsRow f.heap.size 168 2 (.slice ad ss.length cap) ss.length (cV ss)/\w.ownsRow f.heap.size 9 1 (.slice o cs.length a) cs.length (bJ cs)) (λw t k h=>⟨h.1.az t k,h.2.1.tape t k,h.2.2⟩) ⟨X,am,r4,D,IP⟩ λw5 hI ar=>?_
  have⟨an,J,r5,A8,c⟩:=hI;clear X am r4 D IP a7 ar;have apart:∀{v:Θ}{e:θ}{m k:Nat}{l:ϝ},w5.ownsRow f.heap.size e m v k l->∀g,v.ownBlock=some g->g∉F:=λho g hg hF=>by have:=(ho.lt g hg).1;have:=a5 g hF;omega
  have N:Hid (fD x n ps=ss/\lU x n ps=cs):=⟨Y,A⟩
  clear Y A;have⟨e5,G⟩:=Vr x n ss B;go_wp2_with fail;refine(Vq F s d n x _ _ ss w5 an B (by rw[r.wait];decide) A8 y.1 y.2.1 V (apart A8) y.2.2).mono ?_;rintro e w6 ⟨rfl,⟨O,al,g6⟩,f6⟩;have r6:=f6.row r5 C;have a4:=f6.owns c λk hk h=>apart c k h hk
  have a6:∀g,(Value.slice o cs.length a).ownBlock=some g->g∉O:=λg hg hF=>by obtain q|q:=g6 g hF;exact apart c g hg q;have:=(c.lt g hg).2;omega
  have av:b2∉O:=λhF=>by obtain q|q:=g6 b2 hF;exact C q;have:=r5.lt;omega
  have ag:dw F O wL:=(dw.refl F wL).trans g6 J.size;have Q:nU F wL w6:=(J.mono).trans f6.blk λi Z=>.inl Z;have a0:∀g,(Value.slice o cs.length a).ownBlock=some g->g≠b2:=λg hg e=>by
   subst e;obtain⟨e1,_⟩|⟨g',cap',cur,e1,_,hg',_⟩:=c.2;rw[e1]at hg;simp[Value.ownBlock]at hg;rw[e1]at hg;have:g'=g:=by simpa[Value.ownBlock] using hg
   subst this;unfold Row at r5;rw[r5]at hg';cases hg'
  have HO:Hid ((x.AF n ss).2=.int .i64 e5):=G;rw[G];have HX:Hid (oF w6 O s d n (x.AF n ss).1):=al;clear y V al G an J r5 A8 c f6 g6 apart;by_cases h5:e5=0
  .subst h5;go_wp2_with (with_reducible refine bC 58 rfl ?_);refine bX rfl (.agg #[.int .i64 ss.length,.slice o cs.length a]) w6 ϰ ?_;go_wp2_with (with_reducible refine ah 58 rfl ?_);refine gj rfl 58 _ _ rfl b2 rfl #[.int .i64 ss.length,.slice o cs.length a] rfl cY (by simp[Value.oneCell']) _ _ r6 rfl ?_;intro P K r7;have aW:=K.owns a4 λk hk h=>a0 k h (by simpa using hk);go_wp2_with fail;refine⟨P.tape,P.drawn,.tuple #[.agg #[.int .i64 ss.length,.slice o cs.length a],.int .i64 0],?_,.inr ⟨L.out,ps,O,hP,?_,ag,?_,.inl ⟨_,?_,?_,?_,a6⟩⟩⟩;exact lP (tp:=2) (tq:=3) (ty:=58) rfl _ _ b2 _ _ rfl r7 cY;rw[N.out.1];exact HX.out.ky K (by simpa using H) (by simpa using av);exact Q.trans K.blk (by intro i Z;right;simp at Z;omega);rw[N.out.1];exact HO.out;rw[N.out.1];rw[N.out.2];exact aW.weak a1
  .have bb:(e5==0)=false:=by simpa using h5
   go_wp2_with (with_reducible refine bC 58 rfl ?_);refine bX rfl cL w6 ϰ ?_;go_wp2_with (with_reducible refine ah 58 rfl ?_);refine gj rfl 58 _ _ rfl b2 rfl cL.cells rfl cY (by decide) _ _ r6 rfl ?_;intro P K r7;go_wp2_with fail;refine⟨P.tape,P.drawn,.tuple #[cL,.int .i64 e5],?_,.inr ⟨L.out,ps,O,hP,?_,ag,?_,.inr ⟨e5,h5,?_,rfl⟩⟩⟩;exact lP (tp:=2) (tq:=3) (ty:=58) rfl _ _ b2 _ _ rfl r7 cY;rw[N.out.1];exact HX.out.ky K (by simpa using H) (by simpa using av);exact Q.trans K.blk (by intro i Z;right;simp at Z;omega);rw[N.out.1];exact HO.out
 .have ba:(e0==0)=false:=by simpa using NG
  go_wp2_with (with_reducible refine bC 58 rfl ?_);refine bX rfl cL f ϰ ?_;go_wp2_with (with_reducible refine ah 58 rfl ?_);refine gj rfl 58 _ _ rfl b2 rfl cL.cells rfl cY (by decide) _ _ r3 rfl ?_;intro z f4 r4;go_wp2_with fail;refine⟨z.tape,z.drawn,.tuple #[cL,.int .i64 e0],?_,.inl ⟨by rw[L.out];exact NG,by rw[L.out],M.ky f4 ?_ ?_,?_⟩⟩;exact lP (tp:=2) (tq:=3) (ty:=58) rfl _ _ b2 _ _ rfl r4 cY;simpa using H;simpa using C;exact j.trans (f4.blk.mono (T:=[b2]) ϛ) (by simpa using a8)
end
section
open Go.RowKit Go.Lib
abbrev dE:=Nat->List η->Option (List η)
def gn(H:dE)(s:Nat)(p:ϑ)(r:Option (List η)):dE:=λs' a=>if s'=s/\a=p then r else H s' a
def Has(L:ϑ)(n:Nat)(H:dE):Prop:=∃m,oW L n m/\∀s p,holds m s p (H s p)
def tK{m:eU}(h:holds m s p r){f:dk}(hf:m i=some f)(e:nameOf f=(s,p)):r≠none:=λhr=>by
 subst hr;exact h i f hf e
section
variable {L:List η}{n:Nat}{H:dE}{x:DS}
def Has.content(h:Has x.bg n H)(a:x.waiting=[])(s:Nat)(p:ϑ):x.content n s (aj p)=H s p:=by
 have⟨m,hr,hm⟩:=h;exact Fg hr a (hm s p)
def Gf{m:eU}(hr:oW L n m)(hm:∀s p,holds m s p (H s p))(h:∃i,i<aH n/\m i=none)(s:Nat)(p c:ϑ)(hs:eR s p=true)(W:c.length<=96):
  ∃S,Has S n (gn H s p (some c))/\∀a,(DS.calm L a).put n s (aj p) (aj c)=(DS.calm S (a+5),.int .i64 0):=by
 have X:=oO n;have⟨i,T,I,b⟩:=OP (x:=DS.fresh L) hr rfl h;have aa:=L4 n i T;have⟨o,ho,R,G,K,y⟩:=owner hr s p;have Y:o≠i:=by intro e;have⟨g,hg,_⟩:=y ϖ;rw[e]at hg;simp only[an3]at hg;rw[b]at hg;cases hg
 let f:dk:=⟨s,p,c⟩
 have w:eR f.set f.path=true/\f.content.length<=96:=⟨hs,W⟩
 have N:f.path.length<=8:=(uT w.1).1;generalize k:dc f.set f.path f.content=r;have l:r.length=128:=by rw[<-k];exact Um _ _ _ N W
 have h0:=Gg r l 0 ϖ;have h1:=Gg r l 1 ϖ;generalize P:ci L ((1+2*i:Nat),half r 0)=A;have rA:oW A n m:=by rw[<-P];exact hr.loose ϖ ϖ h0 (zY b (.inl rfl))
 generalize J:ci A ((2+2*i:Nat),half r 1)=B;have rB:oW B n m:=by rw[<-J];exact rA.loose ϖ ϖ h1 (zY b (.inr rfl))
 have U:Ih L i r=B:=by unfold Ih;rw[P,J]
 have t:seenIn (Ih L i r) [] 0=eX n m:=by rw[U,<-rB.root];rfl
 have C:bu (eX n m) i o=eX n (after m i f o):=Dw m i ϖ f o ⟨R,G⟩;have sA:∀j,kS A j=if j=1+2*i then half r 0 else kS L j:=λj=>by rw[<-P];exact kR L n hr.len _ ϖ _ h0 j
 have V:∀j,kS B j=if j=2+2*i then half r 1 else kS A j:=λj=>by rw[<-J];exact kR A n rA.len _ ϖ _ h1 j
 have O:kS B (1+2*i)++kS B (2+2*i)=dc f.set f.path f.content:=by rw[V,V,Γ ϖ,κ rfl,sA,κ rfl,halves r l,k]
 have Z:=rB.put T O w λj g hg e=>K j g hg e
 refine⟨_,⟨_,Z,λs' M=>?_⟩,λa=>?_⟩;unfold gn;by_cases e:s'=s/\M=p;rw[κ e];obtain⟨rfl,rfl⟩:=e;refine⟨i,?_⟩;unfold after;rw[tS ϖ];unfold upd;rw[κ rfl];rw[Γ e];have E:=hm s' M;cases hv:H s' M with
 |none=>rw[hv]at E;intro j g hg e2;obtain⟨rfl,rfl⟩|⟨_,q,_⟩:=jx hg;unfold nameOf at e2;simp only[ai6]at e2;exact e ⟨e2.1.symm,e2.2.symm⟩;exact E j g q e2
 |some v=>
  rw[hv]at E;have⟨j,D⟩:=E;have F:j≠i:=λe2=>by subst e2;rw[b]at D;cases D
  refine⟨j,?_⟩;unfold after;rw[tS ?_];unfold upd;rw[Γ F];exact D;by_cases z:o=-1;exact .inl z;right;refine⟨ϖ,λe2=>?_⟩;have⟨g,hg,d⟩:=y z;rw[e2]at hg;simp only[an3]at hg;rw[D]at hg;cases hg;unfold nameOf at d;simp only[ai6]at d;exact e ⟨d.1,d.2⟩
 have u:dc s (aj p).data.toList (aj c).data.toList=r:=k;have Q:eF (DS.calm L a) n=i:=by rw[zX _ n rfl,<-I,zX (DS.fresh L) n rfl];rfl
 have:=O5 L a 0 0 n s (aj p) (aj c) i o (eX n m) r u Q (ho (DS.calm L a) rfl rfl) t;rw[U,C]at this;exact this
def Fv{m:eU}(hr:oW L n m)(b:¬∃i,i<aH n/\m i=none)(s:Nat)(p c:Ξ)(a:Int):(DS.calm L a).put n s p c=(DS.calm L a,.int .i64 7):=by
 have hf:eF (DS.calm L a) n=-1:=by
  rw[zX _ n rfl];have e:kS L 0=eX n m:=hr.root;obtain h|⟨i,g,_,h0⟩:=mT (kS L 0) (aH n) (aH n) 0;exact h;exfalso;have d:=oO n;rw[e,rX n m i]at h0;refine b ⟨i,g,?_⟩;cases hm:m i with|none=>rfl|some f=>rw[hm]at h0;simp at h0
 unfold DS.put;rw[κ hf]
def IS(h:Has L n H)(s:Nat)(p:ϑ)(hs:H s p≠none):
  ∃u,Has u n (gn H s p none)/\∀a,(DS.calm L a).remove n s (aj p)=(DS.calm u (a+2),.int .i64 0):=by
 have⟨m,hr,hm⟩:=h;have⟨o,x,r,l,f,q⟩:=owner hr s p;have i:o≠-1:=by
  have c:=hm s p;cases hv:H s p with|none=>exact absurd hv hs|some v=>rw[hv]at c;have⟨j,k⟩:=c;have:=f j _ k rfl;omega
 have w:=hr.dropped o;refine⟨_,⟨_,w,λs' t=>?_⟩,λa=>?_⟩;unfold gn;by_cases e:s'=s/\t=p;rw[κ e];obtain⟨rfl,rfl⟩:=e;intro j g hg e2;have⟨q1,y⟩:=iG hg;have:=f j g q1 e2;have:=y ϖ;omega;rw[Γ e];have c:=hm s' t;cases hv:H s' t with
 |none=>rw[hv]at c;intro j g hg e2;exact c j g (iG hg).1 e2
 |some v=>rw[hv]at c;have⟨j,k⟩:=c;refine⟨j,?_⟩;rw[tS ?_];exact k;right;refine⟨ϖ,λe2=>?_⟩;have⟨g,hg,b⟩:=q i;rw[e2]at hg;simp only[an3]at hg;rw[k]at hg;cases hg;unfold nameOf at b;simp only[ai6]at b;exact e ⟨b.1,b.2⟩
 have d:seenIn L [] 0=eX n m:=by rw[<-hr.root];rfl
 have:=Fm L a 0 0 n s (aj p) o (eX n m) (x (DS.calm L a) rfl rfl) i d;rw[A6 m o ⟨r,l⟩]at this;exact this
def Lq(H:dE)(s:Nat)(p:ϑ):gn H s p (H s p)=H:=by
 funext s' p';unfold gn;split;rename_i e;rw[e.1,e.2];rfl
end
def oA(H:dE):List dS->dE
 |[]=>H
 |w::r=>oA (gn H w.set w.path w.becomes) r
def As(H:dE)(a b:List dS):oA H (a++b)=oA (oA H a) b:=by
 induction a generalizing H with|nil=>rfl|cons w r c=>exact c _
def NY(x:DS):sx (x,Value.int .i64 0).2=0:=rfl
section
variable {n:Nat}
def j6(H:dE)(p:List η×Nat):dE:=λs q=>if q=p.1/\s<=2 then H p.2 p.1 else H s q
def tN(ss:List (List η×Nat))(K:dE)(s:Nat)(q:ϑ)(h:∀p∈ss,p.1≠q):ss.foldl j6 K s q=K s q:=by
 induction ss generalizing K with|nil=>rfl|cons p r c=>rw[Ϲ,c _ λb a=>h b (by simp[a])];unfold j6;rw[Γ];exactλe=>h p ϛ e.1.symm
def mU(ss:List (List η×Nat))(K:dE)(s:Nat)(q:ϑ)(h:2<s:=by omega):ss.foldl j6 K s q=K s q:=by
 induction ss generalizing K with|nil=>rfl|cons p r a=>rw[Ϲ,a];unfold j6;rw[Γ ϖ]
def Gp(ss:List (List η×Nat))(K b:dE)(h:∀s q,s<=2->K s q=b s q)(h1:∀p∈ss,p.2<=1)(s:Nat)(q:ϑ)(hs:s<=2):ss.foldl j6 K s q=ss.foldl j6 b s q:=by
 induction ss generalizing K b with
 |nil=>exact h s q hs
 |cons p r d=>
  rw[Ϲ,Ϲ];refine d _ _ (λs q hs=>?_) λc a=>h1 c (by simp[a])
  have:=h1 p ϛ;unfold j6;rw[h p.2 p.1 ϖ,h s q hs]
def Gn(ss:List (List η×Nat))(K:dE)(hs:ss.Pairwise λp q=>p.1≠q.1)(h1:∀p∈ss,p.2<=1){p:List η×Nat}(d:p∈ss)(s:Nat)(h2:s<=2):ss.foldl j6 K s p.1=K p.2 p.1:=by
 induction ss generalizing K with
 |nil=>simp at d
 |cons a r f=>rw[ϐ3]at hs;rw[Ϲ];obtain rfl|b:=ac2.1 d;rw[tN r _ _ _ λq c e=>hs.1 q c e.symm];unfold j6;rw[κ ⟨rfl,h2⟩];rw[f _ hs.2 (λq c=>h1 q (by simp[c])) b];unfold j6;rw[Γ];exactλe=>hs.1 p b e.1.symm
end
def wG{a b:ϑ}(h:aj a=aj b):a=b:=by simpa[aj] using h
def Kq(set:Int):(Ξ->Option Ξ)->dk->Ξ->Option Ξ:=λg f=>if(f.set:Int)=set then λs=>if s=aj f.path then some (aj f.content)else g s else g
def tM(set:Int)(p:ϑ):∀(fs:List dk)(g:Ξ->Option Ξ),(∀f∈fs,(f.set:Int)=set->f.path≠p)->fs.foldl (Kq set) g (aj p)=g (aj p)
 |[],_,_=>rfl
 |f::r,g,h=>by
  rw[Ϲ,tM set p r _ λf' a=>h f' (by simp[a])];unfold Kq;split;rename_i e;exact Γ λq=>h f ϛ e (wG q).symm
  rfl
def Gl(set:Nat):∀(fs:List dk)(g:Ξ->Option Ξ),(fs.map nameOf).Nodup->∀f∈fs,f.set=set->fs.foldl (Kq set) g (aj f.path)=some (aj f.content)
 |[],_,_,f,hf,_=>by simp at hf
 |a::r,g,hn,f,hf,hs=>by rw[ϴ,ϒ4]at hn;rw[Ϲ];obtain rfl|hf:=ac2.1 hf;rw[tM set f.path r _ λf' b e1 e2=>hn.1 (ac9.2 ⟨f',b,by unfold nameOf;rw[e2,hs,show f'.set=set by omega]⟩)];unfold Kq;rw[κ ϖ,κ rfl];exact Gl set r _ hn.2 f hf hs
section
variable {L:List η}{n:Nat}{H:dE}{x:DS}
def Ks(h:Has x.bg n H)(d:x.waiting=[])(s:Nat)(l:ϑ):s9 s (aS x n) (aj l)=(H s l).map aj:=by
 have⟨m,hr,hm⟩:=h;rw[oJ hr d];have a:=hm s l;cases hv:H s l with
 |none=>
  rw[hv]at a;refine tM _ l _ _ λf hf e1 e2=>?_
  have⟨i,b⟩:=hr.mem.1 hf;exact a i f b (by unfold nameOf;rw[e2,show f.set=s by omega])
 |some c=>rw[hv]at a;have⟨i,b⟩:=a;exact Gl s _ _ hr.nodup ⟨s,l,c⟩ (hr.mem.2 ⟨i,b⟩) rfl
def I1(H:dE)(s:Nat)(l:ϑ):Option (Bool×Ξ):=if H s l=H 2 l then none else some (match H s l with|some c=>(true,aj c)|none=>(false,⟨#[]⟩))
def FL{a b:Option (List η)}:a.map aj=b.map aj↔a=b:=by
 constructor;intro h;cases a<;>cases b<;>simp at h
 rfl;rw[wG h];rintro rfl;rfl
def yj(h:Has x.bg n H)(a:x.waiting=[])(s:Nat)(l:ϑ):iZ x n s (aj l)=I1 H s l:=by
 unfold iZ gz.lh I1;have h2:=Ks h a 2 l;rw[show((2:Nat):Int)=2 from rfl]at h2;rw[Ks h a s l,h2];by_cases e:H s l=H 2 l;rw[κ e,κ (FL.2 e)];rw[Γ e,Γ λq=>e (FL.1 q)];cases H s l<;>rfl
def ly(H:dE)(l:ϑ):Option Nat:=if H 0 l=H 2 l then some 1 else if H 1 l=H 2 l then some 0 else if H 0 l=H 1 l then some 0 else none
def SM(H:dE)(l:ϑ):mo (I1 H 0 l) (I1 H 1 l)=ly H l:=by
 unfold I1 ly;by_cases a:H 0 l=H 2 l;rw[κ a,κ a];cases (if H 1 l=H 2 l then none else some (match H 1 l with|some c=>(true,aj c)|none=>(false,⟨#[]⟩):Bool×Ξ))<;>rfl
 rw[Γ a,Γ a];by_cases e1:H 1 l=H 2 l;rw[κ e1,κ e1];rfl;rw[Γ e1,Γ e1];by_cases e:H 0 l=H 1 l;rw[κ e,<-e];exact κ rfl;rw[Γ e];refine Γ λq=>e ?_
 cases h0:H 0 l<;>cases h1:H 1 l<;>rw[h0,h1]at q<;>simp at q;rw[wG q]
def xY{l:ϑ}{q:Nat}(h:ly H l=some q):q<=1:=by
 unfold ly at h;split at h;cases h;omega;split at h;cases h;omega;split at h;cases h;omega;cases h
def K7{l:ϑ}(h0:H 0 l=H 2 l)(_:H 1 l=H 2 l):ly H l=some 1:=by unfold ly;rw[κ h0]
def iR(H:dE):dE:=λs p=>if s<=2 then(match ly H p with|some q=>H q p|none=>H s p)else H s p
def bZ(H:dE)(ps:List (List η)):List (List η×Nat):=ps.filterMap λl=>(ly H l).map λs=>(l,s)
def ru(H:dE)(ps:List (List η)):List (List η):=ps.filter λl=>(ly H l).isNone
def m7(H:dE)(ps:List (List η)):Prop:=ps.Pairwise (·<·)/\∀l,l∈ps↔(H 0 l≠H 2 l\/H 1 l≠H 2 l)
def BQ(h:Has x.bg n H)(a:x.waiting=[])(b:vF x n ps):m7 H ps:=by
 have⟨h1,h2,c⟩:=b;refine⟨Bx h1 h2,λl=>?_⟩;rw[c,Rb];have f0:=yj h a 0 l;have f1:=yj h a 1 l;rw[show((0:Nat):Int)=0 from rfl]at f0;rw[show((1:Nat):Int)=1 from rfl]at f1;rw[f0,f1];have one:∀s,I1 H s l≠none↔H s l≠H 2 l:=λs=>by unfold I1;by_cases e:H s l=H 2 l;rw[κ e];simp[e];rw[Γ e];simp[e]
 rw[one,one]
def BB(h:Has x.bg n H)(a:x.waiting=[])(ps:List (List η)):fD x n ps=bZ H ps/\lU x n ps=ru H ps:=by
 have f0:=λl=>yj h a 0 l
 have f1:=λl=>yj h a 1 l
 simp only[show((0:Nat):Int)=0 from rfl]at f0;simp only[show((1:Nat):Int)=1 from rfl]at f1;unfold fD lU jl kC bZ ru;simp only[f0,f1,SM];exact⟨trivial,trivial⟩
end
section
variable {L:List η}{n:Nat}{H:dE}
def DI(h:Has L n H)(s:Nat)(p:ϑ)(hs:H s p=none)(a:Int):(DS.calm L a).remove n s (aj p)=(DS.calm L a,.int .i64 5):=by
 have⟨m,hr,hm⟩:=h;have b:=hm s p;rw[hs]at b;exact Fk n s (aj p) (DS.calm L a) (tE (x:=DS.calm L a) hr rfl s p b)
end
end
section
open Go.RowKit Go.Lib Go.Sort
def x8(fs:List dk):List (List η):=compact ((eJ fs).mergeSort λx y=>decide (x<=y))
def vv(qs:List (List η)):∀(i:Nat)(a:i<qs.length),qs[i]∈compact qs
 |0,a=>by unfold compact compactUpTo;refine ac9.2 ⟨0,ai3.2 ⟨ah9.2 a,by simp[keeps]⟩,?_⟩;rw[al9 qs.toArray 0 (by simpa using a)];simp
 |i+1,a=>by
  by_cases e:qs[i]=qs[i+1];rw[<-e];exact vv qs i ϖ;unfold compact compactUpTo;refine ac9.2 ⟨i+1,ai3.2 ⟨ah9.2 a,?_⟩,?_⟩;unfold keeps;rw[ai0];right;rw[al9 qs.toArray (i+1) (by simpa using a),al9 qs.toArray (i+1-1) (by simp;omega)];simpa usingλq=>e q.symm
  rw[al9 qs.toArray (i+1) (by simpa using a)];simp
theorem xk{fs:List dk}:p∈x8 fs↔∃f∈fs,f.set≠3/\f.path=p:=by
 have h1:p∈eJ fs↔∃f∈fs,f.set≠3/\f.path=p:=by unfold eJ;rw[ac9];exact⟨λ⟨f,hf,e⟩=>⟨f,(ai3.1 hf).1,by simpa using(ai3.1 hf).2,e⟩,λ⟨f,hf,a,e⟩=>⟨f,ai3.2 ⟨hf,by simpa using a⟩,e⟩⟩
 rw[<-h1];unfold x8;constructor;intro h;exact List.mem_mergeSort.1 (GJ h);intro h;obtain⟨i,b,e⟩:=List.getElem_of_mem (List.mem_mergeSort.2 h);rw[<-e];exact vv _ i b
structure QF (Q:List (List η))(H:dE):Prop where
 names:∀s p,H s p≠none->(s<=2/\p∈Q)\/(s=3/\p=[])
 len:Q.length<=7
 path:∀p∈Q,aX p=true
def TZ(hs:s<=2)(a:aX p=true):eR s p=true:=by
 unfold eR;rw[κ ϖ];exact a
section
variable {L:List η}{n:Nat}{H:dE}{Q:List (List η)}{m:eU}{x:DS}
def tL{s:Nat}{p:ϑ}{r:Option (List η)}(h:holds m s p r)(a:r≠none):∃i f,m i=some f/\f.set=s/\f.path=p:=by
 cases r with|none=>exact absurd rfl a|some c=>have⟨i,b⟩:=h;exact⟨i,_,b,rfl,rfl⟩
def QF.set(h:QF Q H)(hs:(s<=2/\p∈Q)\/(s=3/\p=[]))(r:Option (List η)):QF Q (gn H s p r):=by
 refine⟨λs' b a=>?_,h.len,h.path⟩;unfold gn at a;by_cases e:s'=s/\b=p;obtain⟨rfl,rfl⟩:=e;exact hs;rw[Γ e]at a;exact h.names s' b a
def QF.name(h:QF Q H)(hs:(s<=2/\p∈Q)\/(s=3/\p=[])):eR s p=true:=by
 obtain⟨h1,h2⟩|⟨rfl,rfl⟩:=hs;exact TZ h1 (h.path p h2);rfl
structure iX (L:List η)(n:Nat)(Q:List (List η))(H:dE):Prop where
 has:Has L n H
 qf:QF Q H
def iX.put(h:iX L n Q H)(s:Nat)(p c:ϑ)(hs:(s<=2/\p∈Q)\/(s=3/\p=[]))(l:c.length<=96):
  ∃d g k e,iX d n Q g/\(0:Int)<=k/\k<=5/\(g=gn H s p (some c)/\e=0\/g=H/\e=7)/\∀a,(DS.calm L a).put n s (aj p) (aj c)=(DS.calm d (a+k),.int .i64 e):=by
 have⟨⟨m,hr,hm⟩,f⟩:=h;by_cases b:∃i,i<aH n/\m i=none;have⟨d,q1,j⟩:=Gf hr hm b s p c (f.name hs) l;exact⟨d,_,5,0,⟨q1,f.set hs _⟩,ϖ,ϖ,.inl ⟨rfl,rfl⟩,j⟩;exact⟨L,H,0,7,⟨⟨m,hr,hm⟩,f⟩,ϖ,ϖ,.inr ⟨rfl,rfl⟩,λa=>by rw[ϒ6];exact Fv hr b s _ _ a⟩
def iX.writes(h:iX L n Q H)(a:Int)(d:lQ ss):∀w∈bG (DS.calm L a) n ss,(w.set<=2/\w.path∈Q)/\∀c,w.becomes=some c->c.length<=96:=by
 intro w b;unfold bG at b;have⟨p,g,b⟩:=ϐ4.1 b;have h2:=(d p g).2;have key:∀s:Nat,s<=2->w∈dh (DS.calm L a) n p s->(w.set<=2/\w.path∈Q)/\∀c,w.becomes=some c->c.length<=96:=by intro s hs hm;unfold dh at hm;have e1:=Has.content (x:=DS.calm L a) h.has rfl s p.1;have e2:=Has.content (x:=DS.calm L a) h.has rfl p.2 p.1;by_cases e:(DS.calm L a).content n s (aj p.1)=(DS.calm L a).content n p.2 (aj p.1);rw[κ e]at hm;simp at hm;rw[Γ e]at hm;obtain rfl:=ξ.1 hm;refine⟨⟨hs,?_⟩,λc i=>pN i⟩;rw[e1,e2]at e;by_cases f:H s p.1=none;obtain q|q:=h.qf.names p.2 p.1 λq=>e (f.trans q.symm);exact q.2;omega;obtain q|q:=h.qf.names s p.1 f;exact q.2;omega
 unfold fO at b;obtain b|b:=ag4.1 b;exact key _ ϖ b;exact key 2 ϖ b
def iX.sync(h:iX L n Q H)(a:Int)(h0:0<=a)(h1:a<=900000000):Jt (DS.calm L a) n:=by
 refine⟨rfl,λ_=>z0 L a 105 h0 ϖ,λps y=>?_⟩;have t:=BQ (x:=DS.calm L a) h.has rfl y;rw[(BB (x:=DS.calm L a) h.has rfl ps).1];have b:∀l∈ps,l∈Q:=by
  intro l f;have h2:=(t.2 l).1 f;have key:∀s,s<=2->H s l≠none->l∈Q:=λs hs B=>by obtain q|q:=h.qf.names s l B;exact q.2;omega
  by_cases e2:H 2 l=none;obtain h2|h2:=h2;exact key 0 ϖ λq=>h2 (q.trans e2.symm)
  exact key 1 ϖ λq=>h2 (q.trans e2.symm)
  exact key 2 ϖ e2
 have g:ps.length<=7:=ac3 (ij ps Q (t.1.imp λj e=>by subst e;exact ϑ4 _ j) b) h.qf.len;have i:(bZ H ps).length<=7:=ac3 (ϒ5 ..) g;have c:lQ (bZ H ps):=by intro p r;unfold bZ at r;have⟨l,f,e⟩:=ϓ5.1 r;obtain⟨q,u,rfl⟩:=ψ.1 e;exact⟨h.qf.path _ (b l f),xY u⟩
 refine⟨i,c,λd=>?_⟩;have A:(ec (bZ H ps)).length<=63:=by have:=ri (bZ H ps) λp m=>qO (c p m).1;omega
 have⟨o,E,k,e,q1,D,F,w,z⟩:=h.put 3 [] (ec (bZ H ps)) (.inr ⟨rfl,rfl⟩) ϖ;have v:(DS.calm L a).put n 3 ⟨#[]⟩ (aj (ec (bZ H ps)))=(DS.calm o (a+k),.int .i64 e):=z a;unfold DS.begin at d⊢;by_cases hf:lg (DS.calm L a) n (bZ H ps) ((aH n:Int)-(taken (DS.calm L a) n).length-1)=false;rw[κ hf]at d;simp[sx]at d;rw[Γ hf,v]at d⊢;have C:e=0:=by simpa[sx] using d
 have:=Has.content (x:=DS.calm o (a+k)) q1.has rfl 3 [];rw[(w.resolve_right λh=>ϖ).1,show gn H 3 [] (some (ec (bZ H ps))) 3 []=some (ec (bZ H ps)) by unfold gn;rw[κ ⟨rfl,rfl⟩]]at this;exact this
end
abbrev Xr:=List η×List η
abbrev fL:=List Xr
def gO:fL->List η->Option (List η)
 |[],_=>none
 |f::r,p=>if f.1=p then some f.2 else gO r p
def bj(p c:ϑ)(a:Bool):Bool->fL->fL
 |ic,[]=>if a&&!ic then[(p,c)]else[]
 |ic,f::r=>(if a&&!ic&&decide (p<=f.1)then[(p,c)]else[])++((if f.1=p then[]else[f])++bj p c a (ic||(a&&decide (p<=f.1))) r)
def V5(l:fL):Prop:=l.Pairwise λf g=>f.1<g.1
def JS(l m:fL)(q:ϑ):gO (l++m) q=(gO l q).or (gO m q):=by
 induction l with
 |nil=>simp[gO]
 |cons f r a=>
  have e1:gO ((f::r)++m) q=if f.1=q then some f.2 else gO (r++m) q:=rfl
  have e2:gO (f::r) q=if f.1=q then some f.2 else gO r q:=rfl
  rw[e1,e2];by_cases h:f.1=q;rw[κ h,κ h];rfl;rw[Γ h,Γ h,a]
def uG(p c:ϑ)(a:Bool)(q:ϑ):∀(l:fL)(b:Bool),gO (bj p c a b l) q=if q=p then(if a&&!b then some c else none)else gO l q
 |[],b=>by unfold bj;by_cases g:(a&&!b)=true;rw[κ g];simp only[gO];by_cases e:p=q;rw[κ e,κ e.symm,κ g];rw[Γ e,Γ λh=>e h.symm];rw[Γ g,Γ g];simp[gO]
 |f::r,b=>by
  unfold bj;rw[JS,JS,uG p c a q r];have i:gO (f::r) q=if f.1=q then some f.2 else gO r q:=rfl
  rw[i];by_cases e:q=p;subst e;rw[κ rfl,κ rfl];have h1:gO (if f.1=q then[]else[f]) q=none:=by by_cases h:f.1=q;rw[κ h];rfl;rw[Γ h];simp[gO,h]
  rw[h1];cases a<;>cases b<;>by_cases hd:q<=f.1<;>simp[hd,gO]
  rw[Γ e,Γ e];have h1:gO (if(a&&!b&&decide (p<=f.1))=true then[(p,c)]else[]) q=none:=by split;simp only[gO];rw[Γ λh:p=q=>e h.symm];rfl
  rw[h1];by_cases h:f.1=p;rw[κ h,Γ λd=>e (d.symm.trans h)];simp[gO];rw[Γ h];by_cases d:f.1=q;simp[gO,d];simp[gO,d]
def FI(p c:ϑ)(a:Bool)(g:Xr):∀(l:fL)(d:Bool),g∈bj p c a d l->(g=(p,c)/\a=true/\d=false)\/(g∈l/\g.1≠p)
 |[],d,h=>by unfold bj at h;by_cases b:(a&&!d)=true;rw[κ b]at h;simp at b;exact .inl ⟨by simpa using h,b.1,b.2⟩;rw[Γ b]at h;simp at h
 |f::r,d,h=>by unfold bj at h;obtain h|h:=ag4.1 h;by_cases b:(a&&!d&&decide (p<=f.1))=true;rw[κ b]at h;simp at b;exact .inl ⟨by simpa using h,b.1.1,b.1.2⟩;rw[Γ b]at h;simp at h;obtain h|h:=ag4.1 h;by_cases e:f.1=p;rw[κ e]at h;simp at h;rw[Γ e]at h;obtain rfl:=ξ.1 h;exact .inr ⟨ai4,e⟩;obtain⟨h1,h2,h3⟩|⟨h1,h2⟩:=FI p c a g r _ h;simp at h3;exact .inl ⟨h1,h2,h3.1⟩;exact .inr ⟨af9 _ h1,h2⟩
def lt_of_le_ne{a b:ϑ}(h:a<=b)(c:a≠b):a<b:=by
 obtain h1|h1:=Classical.em (a<b);exact h1;exact absurd (List.le_antisymm h (List.not_lt.1 h1)) c
def ui(p c:ϑ)(a:Bool):∀(l:fL)(i:Bool),V5 l->V5 (bj p c a i l)
 |[],i,_=>by unfold bj V5;split<;>simp
 |f::r,i,h=>by
  have⟨hf,hr⟩:=ϐ3.1 h;have n:=ui p c a r (i||(a&&decide (p<=f.1))) hr;have key:∀m:fL,(∀g∈m,g∈bj p c a (i||(a&&decide (p<=f.1))) r->True)->True:=λ_ _=>trivial
  have d:∀g∈bj p c a (i||(a&&decide (p<=f.1))) r,f.1<g.1/\((a&&!i&&decide (p<=f.1))=true->p<g.1):=by
   intro g hg;obtain⟨rfl,h2,h3⟩|⟨h1,h2⟩:=FI p c a g r _ hg;simp[h2]at h3;have:f.1<p:=by exact h3.2
   exact⟨this,λb=>by simp at b;exact absurd this (List.not_lt.2 b.2)⟩
   refine⟨hf g h1,λb=>?_⟩;simp at b;exact List.lt_of_le_of_lt b.2 (hf g h1)
  have j:V5 ((if f.1=p then[]else[f])++bj p c a (i||(a&&decide (p<=f.1))) r):=by by_cases e:f.1=p;rw[κ e];exact n;rw[Γ e];exact ϐ3.2 ⟨λg hg=>(d g hg).1,n⟩
  unfold bj;by_cases b:(a&&!i&&decide (p<=f.1))=true;rw[κ b];refine ϐ3.2 ⟨λg hg=>?_,j⟩;have k:g∈(if f.1=p then[]else[f])\/g∈bj p c a (i||(a&&decide (p<=f.1))) r:=ag4.1 hg;obtain hg|hg:=k;by_cases e:f.1=p;rw[κ e]at hg;simp at hg;rw[Γ e]at hg;obtain rfl:=ξ.1 hg;simp at b;exact lt_of_le_ne b.2 λq=>e q.symm
  exact(d g hg).2 b;rw[Γ b];exact j
def JR{l:fL}{p:ϑ}:gO l p≠none↔∃f∈l,f.1=p:=by
 induction l with|nil=>simp[gO]|cons f r a=>unfold gO;by_cases h:f.1=p;simp[h];rw[Γ h,a];simp[h]
def yJ{l:fL}(h:V5 l):(l.map (·.1)).Pairwise (·<·):=ϒ3.2 h
def iM(h:l.Pairwise (·<·)):l.Nodup:=h.imp λa e=>by subst e;exact ϑ4 _ a
def qo:∀{l m:List (List η)},l.Pairwise (·<·)->m.Pairwise (·<·)->(∀a,a∈l↔a∈m)->l=m
 |[],[],_,_,_=>rfl
 |[],b::m,_,_,h=>by have:=(h b).2 ai4;simp at this
 |a::l,[],_,_,h=>by have:=(h a).1 ai4;simp at this
 |a::l,b::m,hl,hm,h=>by
  have⟨h1,h2⟩:=ϐ3.1 hl;have⟨g,i⟩:=ϐ3.1 hm;have d:a=b:=by obtain e|e:=ac2.1 ((h a).1 ai4);exact e;obtain f|f:=ac2.1 ((h b).2 ai4);exact f.symm;exact absurd (List.lt_trans (g a e) (h1 b f)) (ϑ4 _)
  subst d;rw[qo h2 i λx=>?_];constructor;intro c;obtain e|e:=ac2.1 ((h x).1 (af9 _ c));exact absurd (e▸h1 x c) (ϑ4 _);exact e;intro c;obtain e|e:=ac2.1 ((h x).2 (af9 _ c));exact absurd (e▸g x c) (ϑ4 _);exact e
structure RS where
 a:fL
 b:fL
 o:fL
 n:Nat
def RS.set(s:RS)(k:Nat):fL:=if k=0 then s.a else if k=1 then s.b else s.o
def RS.upd(s:RS)(k:Nat)(l:fL):RS:=if k=0 then{s with a:=l} else if k=1 then{s with b:=l} else{s with o:=l}
def RS.C1(s:RS)(k j:Nat)(hk:k<=2)(a:j<=2)(l:fL):(s.upd k l).set j=if j=k then l else s.set j:=by
 unfold RS.upd RS.set;rcases(by omega:k=0\/k=1\/k=2)with rfl|rfl|rfl<;>rcases(by omega:j=0\/j=1\/j=2)with rfl|rfl|rfl<;>rfl
def RS.NZ(s:RS)(k:Nat)(l:fL):(s.upd k l).n=s.n:=by
 unfold RS.upd;split;rfl;split<;>rfl
def RS.files(s:RS):Nat:=s.a.length+s.b.length+s.o.length
def nh(all l:fL):fL:=l.foldl (λall f=>bj f.1 [] true false all) all
def RS.all(s:RS):fL:=nh (nh (nh [] s.a) s.b) s.o
def RS.paths(s:RS):List (List η):=s.all.map (·.1)
def xX:∀(l all:fL),V5 all->V5 (nh all l)
 |[],_,h=>h
 |f::l,all,h=>xX l _ (ui _ _ _ _ _ h)
def tX(q:ϑ):∀(l all:fL),gO (nh all l) q≠none↔gO all q≠none\/gO l q≠none
 |[],all=>by simp[nh,gO]
 |f::l,all=>by
  show gO (nh (bj f.1 [] true false all) l) q≠none↔_;rw[tX q l,uG];have:gO (f::l) q=if f.1=q then some f.2 else gO l q:=rfl
  rw[this];by_cases e:q=f.1;simp[e];rw[Γ e,Γ λh=>e h.symm]
def RS.jN(s:RS):s.paths.Pairwise (·<·):=yJ (xX _ _ (xX _ _ (xX _ _ List.Pairwise.nil)))
def RS.L7(s:RS)(p:ϑ):p∈s.paths↔gO s.a p≠none\/gO s.b p≠none\/gO s.o p≠none:=by
 unfold RS.paths;rw[ac9];have h1:(∃f∈s.all,f.1=p)↔gO s.all p≠none:=JR.symm;rw[show(∃a,a∈s.all/\a.1=p)↔_ from h1];unfold RS.all;rw[tX,tX,tX];simp[gO,or_assoc]
structure Repr (s:RS)(H:dE):Prop where
 SL:∀k,k<=2->V5 (s.set k)
 at':∀k,k<=2->∀p,gO (s.set k) p=H k p
def Repr.upd{s:RS}{H:dE}(h:Repr s H)(k:Nat)(hk:k<=2)(p c:ϑ)(a:Bool):Repr (s.upd k (bj p c a false (s.set k))) (gn H k p (if a then some c else none)):=by
 refine⟨λj b=>?_,λj b q=>?_⟩;rw[s.C1 k j hk b];split;exact ui _ _ _ _ _ (h.SL k hk);exact h.SL j b;rw[s.C1 k j hk b];unfold gn;by_cases e:j=k;subst e;rw[κ rfl,uG,h.at' j b];by_cases e2:q=p;have d:j=j/\q=p:=⟨rfl,e2⟩
 rw[κ e2,κ d];simp;have d:¬(j=j/\q=p):=λq=>e2 q.2
 rw[Γ e2,Γ d];rw[Γ e,Γ λq=>e q.1,h.at' j b]
def Repr.mem{s:RS}{H:dE}(h:Repr s H)(p:ϑ):p∈s.paths↔H 0 p≠none\/H 1 p≠none\/H 2 p≠none:=by
 rw[s.L7,<-h.at' 0 ϖ,<-h.at' 1 ϖ,<-h.at' 2 ϖ];rfl
end
section
open Go.RowKit Go.Lib
def Df(F:ϓ)(s d n:Nat)(x:DS)(w:Φ)(h:oF w F s d n x)(hf:x.failed=false)(c:x.pending n=false):Calls prog 32 #[.pointer (some ⟨s,0,none⟩)] w λe w'=>e=.returned (.int .i64 0)/\aG [] w w':=by
 have c0:=h.cell;have⟨g,f,a⟩:=h.oz;have hd:=mO F s d n x w h;have b:=xf d g n f x w a;rw[hf]at hd;rw[c]at b;clear hf c a;go_enter func32,ntmps32;go_wp2_with fail;refine hd.mono ?_;rintro e w1⟨rfl,rfl⟩;go_wp2_with fail;refine b.mono ?_;rintro e i⟨rfl,f2⟩;go_wp2;go_ret;exact⟨rfl,f2⟩
def yz(b:wanted o (yielded ops a.tmps)=true)(h:wpList P ops Q ({o with guard:=none}::rest) a w):wpList P ops Q (o::rest) a w:=by
 unfold wpList at h⊢;rw[κ b];rw[κ (by simp[wanted])]at h;exact h
def Dl{base cap:Nat}{ad:Ϣ}(h:w.ownsRow base 9 1 (.slice ad n cap) n (bJ l))(d:n=l.length)(i:Nat)(e:i<n):
  ∃g,ad=some ⟨g,0,none⟩/\w.cell? ⟨g,i,none⟩=some (.string (aj (l[i]'ϖ))):=by
 obtain⟨g,cur,rfl,hg,h1,h2,c,b⟩:=cO h;refine⟨g,rfl,?_⟩;have a:(cur.toList.take (n*1))[i]?=(bJ l)[i]?:=by rw[b]
 rw[ak2 ϖ,ai8]at a;unfold World.cell?;rw[hg];simp only[Ϸ,ab6,if_false];rw[a];unfold bJ;rw[List.getElem?_map,al3 ϖ];rfl
section
variable {P:aa1}{ops:Array Oper}{Q:Exit->Act->Φ->Prop}{a:Act}{w:Φ}{rest:List Oper}{o:Oper}
def Qe{o2:Oper}(hg:o.guard=none)(p:o2.guard=none)(t e:θ)(size c:Nat)(E:Elem P t e size c)(x s y:ac4)(C:o.op=.buildSlice t 1 #[(0,x)])(q:o2.op=.call {callee:=.builtin .append,args:=#[s,y],argTypes:=#[t,t]})(u:Θ)(A:a.eval x=u)(m:u.cells.size=size)(h1:∀z∈u.cells.toList,z.oneCell'=true)(base:Nat)(v:Θ)(n:Nat)(xs:ϝ)(hs:∀b,(a.put o.dst (.slice (some ⟨b,0,none⟩) 1 1)).eval s=v)(D:∀b,(a.put o.dst (.slice (some ⟨b,0,none⟩) 1 1)).eval y=.slice (some ⟨b,0,none⟩) 1 1)(l:w.ownsRow base e size v n xs)(k:base<=w.heap.size)(h:∀b g cap w',w'.ownsRow base e size (.slice (some ⟨g,0,none⟩) (n+1) cap) (n+1) (xs++u.cells.toList)->aG v.ownBlock.toList w w'->wpList P ops Q rest ((a.put o.dst (.slice (some ⟨b,0,none⟩) 1 1)).put o2.dst (.slice (some ⟨g,0,none⟩) (n+1) cap)) w')(W4:size<=1000:=by omega)(j:c<=1048576:=by omega)(d:n+1<=1048576:=by omega):wpList P ops Q (o::o2::rest) a w:=
 dj hg t e size c E x C (W4:=W4) u A m λw1 b G f r=>dG p t e size c E s y q base v n xs (hs b) (f.owns l) b 1 1 u.cells.toList (D b) _ _ r (ν (by simp[m])) (by simp[m]) h1 ϖ d j (ac3 k f.size)
  λg cap w' B o2 _=>h b g cap w' B ((f.mono ϛ:aG v.ownBlock.toList w w1).trans o2 λi F=>.inl F)
end
def vV(l:ϑ)(w:Φ)(hs:l.length<=9223372036854775807):
  Calls prog 97 #[.string (aj l)] w λe w'=>e=.returned (.bool (aX l))/\w'=w:=by
 have a:(aj l).size=l.length:=da l;go_enter func97,ntmps97;by_cases h1:l.length<1
 .have i:Hid (aX l=false):=by
   show _=_;unfold aX;rw[decide_eq_false (p:=1<=l.length) ϖ];rfl
  have hd:decide (((aj l).size:Int)<1)=true:=by rw[a];simp;omega
  go_wp2;go_ret;exact⟨by rw[i.out];rfl,rfl⟩
 .have hd:decide (((aj l).size:Int)<1)=false:=by rw[a];simp;omega
  by_cases x:8<l.length
  .have i:Hid (aX l=false):=by
    show _=_;unfold aX;rw[decide_eq_false (p:=l.length<=8) ϖ];simp
   have n:decide (8<((aj l).size:Int))=true:=by rw[a];simp;omega
   go_wp2;go_ret;exact⟨by rw[i.out];rfl,rfl⟩
  .have n:decide (8<((aj l).size:Int))=false:=by rw[a];simp;omega
   have m:Hid (aX l=(l.drop 0).all eY):=by show _=_;unfold aX;rw[decide_eq_true (p:=1<=l.length) ϖ,decide_eq_true (p:=l.length<=8) ϖ];rfl
   go_wp2_with fail
   go_loopw [3] (λc wr=>∃k:Nat,c=.int .i64 k/\k<=l.length/\wr=w/\Hid (aX l=(l.drop k).all eY)) λc _=>l.length-(intOf c).toNat
   case atStart=>exact⟨0,rfl,ϖ,rfl,m⟩
   case round=>
    obtain⟨k,rfl,hk,rfl,t⟩:=hrel;by_cases f:k<l.length
    .have q:decide ((k:Int)<((aj l).size:Int))=true:=by rw[a];simp;omega
     have u:(k:Int)<((aj l).size:Int):=by rw[a];omega
     have j:Hid (aX l=(eY l[k]&&(l.drop (k+1)).all eY)):=by have:=t.out;rw[ac7 f,ϒ9]at this;exact this
     have o:Hid (eY l[k]=(decide (97<=l[k].toNat)&&decide (l[k].toNat<=122))):=rfl;have d:Hid ((aj l)[k]'(by rw[a];exact f)=l[k]):=by show(aj l).data[k]'_=_;simp[aj]
     generalize l[k]=c at*;have v:(c.toNat:Int)<=255:=by have:=c.toNat_lt;omega
     by_cases r:(c.toNat:Int)<97
     .have b:Hid (aX l=false):=by
       show _=_;rw[j.out,o.out];have:decide (97<=c.toNat)=false:=by simp;omega
       rw[this];rfl
      have h:decide ((c.toNat:Int)<97)=true:=by simpa using r
      go_wp2_with (with_reducible refine iq rfl ?_);refine bX rfl (.int .u8 (c.toNat:Int)) wr (by go_simp;rw[d.out]) ?_;go_wp2;go_ret;exact⟨by rw[b.out];rfl,rfl⟩
     .have h:decide ((c.toNat:Int)<97)=false:=by simpa using r
      by_cases s:(c.toNat:Int)>122
      .have b:Hid (aX l=false):=by
        show _=_;rw[j.out,o.out];have:decide (c.toNat<=122)=false:=by simp;omega
        rw[this];simp
       have g:decide (122<(c.toNat:Int))=true:=by simpa using s
       go_wp2_with (with_reducible refine iq rfl ?_);refine bX rfl (.int .u8 (c.toNat:Int)) wr (by go_simp;rw[d.out]) ?_;go_wp2_with (with_reducible refine iq rfl ?_);refine yz ϰ (bX rfl (.int .u8 (c.toNat:Int)) wr (by go_simp;rw[d.out]) ?_);go_wp2;go_ret;exact⟨by rw[b.out];rfl,rfl⟩
      .have b:Hid (aX l=(l.drop (k+1)).all eY):=by
        show _=_;rw[j.out,o.out];have e1:decide (97<=c.toNat)=true:=by simp;omega
        have e2:decide (c.toNat<=122)=true:=by simp;omega
        rw[e1,e2];rfl
       have g:decide (122<(c.toNat:Int))=false:=by simpa using s
       go_wp2_with (with_reducible refine iq rfl ?_);refine bX rfl (.int .u8 (c.toNat:Int)) wr (by go_simp;rw[d.out]) ?_;go_wp2_with (with_reducible refine iq rfl ?_);refine yz ϰ (bX rfl (.int .u8 (c.toNat:Int)) wr (by go_simp;rw[d.out]) ?_);go_wp2
       go_roundw
       case rel=>exact⟨k+1,by go_num,ϖ,trivial,b⟩
       case measure=>simp[intOf];omega
    .have q:decide ((k:Int)<((aj l).size:Int))=false:=by rw[a];simp;omega
     have b:Hid (aX l=true):=by have:=t.out;rw[aj9 ϖ]at this;exact this
     go_wp2;go_ret;exact⟨by rw[b.out];rfl,rfl⟩
def dd(l:fL):List Θ:=l.flatMap λf=>[.string (aj f.1),.string (aj f.2)]
def kh(a b:fL):dd (a++b)=dd a++dd b:=List.flatMap_append ..
def E4(l:fL)(k:Nat)(hk:k<l.length):((dd l).drop (k*2)).take 2=[.string (aj l[k].1),.string (aj l[k].2)]:=by
 induction l generalizing k with
 |nil=>simp at hk
 |cons f r a=>
  cases k with
  |zero=>rfl
  |succ k=>
   have h:=a k (by simpa using hk);have e:dd (f::r)=[.string (aj f.1),.string (aj f.2)]++dd r:=rfl;have e2:(([.string (aj f.1),.string (aj f.2)]:List Θ)++dd r).drop (2+k*2)=(dd r).drop (k*2):=by rw[<-List.drop_drop];rfl
   rw[e,show(k+1)*2=2+k*2 by omega,e2];exact h
def zj{g:Nat}(hg:Row w g cur t){l:fL}(a:cur.toList.take (l.length*2)=dd l)(k:Nat)(hk:k<l.length):
  w.cell? ⟨g,k*2,none⟩=some (.string (aj l[k].1))/\w.cell? ⟨g,k*2+1,none⟩=some (.string (aj l[k].2)):=by
 have h:=E4 l k hk;rw[<-a]at h;rw[hg.cell,hg.cell,<-ai8,<-ai8];have h0:=congrArg (λx=>x[0]?) h;have h1:=congrArg (λx=>x[1]?) h;simp only[ai9,aj1]at h0 h1;rw[κ ϖ,κ ϖ]at h0 h1;exact⟨by simpa using h0,by simpa using h1⟩
def oI:(prog.underlying 187).map TypeDesc.isRow=some true:=ϰ
def mP:(prog.info? 187).map (·.size)=some 2:=ϰ
def dW:Elem prog 177 187 2 32:=⟨ϰ,ϰ,ϖ⟩
def uH(base:Nat)(v:Θ)(l:fL)(p:ϑ)(w:Φ)(hv:w.ownsRow base 187 2 v l.length (dd l))(o:l.length<=1000:=by omega):
  Calls prog 102 #[v,.string (aj p)] w λe w'=>e=.returned (.tuple #[.string (aj ((gO l p).getD [])),.bool (gO l p).isSome])/\w'=w:=by
 have⟨ad,cap,i⟩:=aY hv;subst i;have d:Hid (gO l p=gO (l.drop 0) p):=rfl;go_enter func102,ntmps102;go_wp2_with fail
 go_loopw [6] (λc wr=>∃k:Nat,c=.int .i64 k/\k<=l.length/\wr=w/\Hid (gO l p=gO (l.drop k) p)) λc _=>l.length-(intOf c).toNat
 case atStart=>exact⟨0,rfl,ϖ,rfl,d⟩
 case round=>
  obtain⟨k,rfl,hk,rfl,d⟩:=hrel;by_cases b:k<l.length
  .obtain⟨g,cur,rfl,hg,m,_,n,a⟩:=cO hv;have⟨c0,c1⟩:=zj hg a k b;have j:Hid (gO l p=if l[k].1=p then some l[k].2 else gO (l.drop (k+1)) p):=by
    have:=d.out;rw[ac7 b]at this;exact this
   generalize l[k]=f at*;have⟨f1,f2⟩:=f;simp only at c0 c1 j;clear a;by_cases h:f1=p
   .have hd:((aj f1).toList==(aj p).toList)=true:=by rw[ew,ew];simpa using h
    have HR:Hid (gO l p=some f2):=by show _=_;rw[j.out,κ h]
    go_wp2
    go_ret2
    exact⟨by rw[HR.out];rfl,rfl⟩
   .have hd:((aj f1).toList==(aj p).toList)=false:=by rw[ew,ew];simpa using h
    have HR:Hid (gO l p=gO (l.drop (k+1)) p):=by show _=_;rw[j.out,Γ h]
    go_wp2
    go_roundw
    case rel=>exact⟨k+1,by go_num,ϖ,trivial,HR⟩
    case measure=>simp[intOf];omega
  .have HR:Hid (gO l p=none):=by
    have:=d.out;rw[aj9 ϖ]at this;exact this
   go_wp2
   go_ret2
   exact⟨by rw[HR.out];rfl,rfl⟩
def l9(base:Nat)(v:Θ)(l:fL)(p c:ϑ)(a:Bool)(w:Φ)(hv:w.ownsRow base 187 2 v l.length (dd l))(Z:l.length<=1000):
  Calls prog 99 #[v,.string (aj p),.string (aj c),.bool a] w λe w'=>∃u,e=.returned u/\w'.ownsRow w.heap.size 187 2 u (bj p c a false l).length (dd (bj p c a false l))/\aG [] w w':=by
 have⟨ad,cap,O⟩:=aY hv;subst O;have W:Hid (bj p c a false l=[]++bj p c a false (l.drop 0)):=rfl;go_enter func99,ntmps99;go_wp2_with fail
 go_loopw [9,10,11] (λT M N wr=>∃(k:Nat)(q:Bool)(o:fL),N=.int .i64 k/\M=.bool q/\k<=l.length/\Hid (bj p c a false l=o++bj p c a q (l.drop k))/\o.length<=2*k/\aG [] w wr/\wr.ownsRow w.heap.size 187 2 T o.length (dd o)) λ_ _ c _=>l.length-(intOf c).toNat
 case atStart=>exact⟨0,false,[],rfl,rfl,ϖ,W,ϛ,aG.refl ..,World.ownsRow_nil ..⟩
 case round=>
  obtain⟨k,q,o,rfl,rfl,hk,HW,t,n,i⟩:=hrel;by_cases D:k<l.length
  .obtain⟨g,cur,rfl,hg,V,_,Y,C⟩:=cO hv;have s:=n.row (b:=g) hg ϛ;have⟨c0,c1⟩:=zj s C k D;have I:Hid (bj p c a false l=o++((if a&&!q&&decide (p<=l[k].1)then[(p,c)]else[])++((if l[k].1=p then[]else[l[k]])++bj p c a (q||(a&&decide (p<=l[k].1))) (l.drop (k+1))))):=by
    have:=HW.out;rw[ac7 D]at this;exact this
   have F:(cur.toList.drop (k*2)).take 2=[.string (aj l[k].1),.string (aj l[k].2)]:=by rw[pA C _ _];exact E4 l k D
   generalize l[k]=f at*;have⟨f1,f2⟩:=f;simp only at c0 c1 I F;have L:Hid ((cur.toList.drop (k*2)).take 2=[.string (aj f1),.string (aj f2)]):=F;clear C F;have B:(a=true/\q=false/\p<=f1)\/(a=true/\q=false/\¬p<=f1)\/(a=true/\q=true)\/a=false:=by
    cases a<;>cases q<;>simp;obtain h|h:=Classical.em (p<=f1)
    exact .inl h;exact .inr (List.not_le.1 h)
   have z:Hid (Op.bytesLess (aj f1).toList (aj p).toList=decide (f1<p)):=by show _=_;rw[bytesLess_eq,ew,ew]
   have A:Hid (((aj f1).toList==(aj p).toList)=decide (f1=p)):=by show _=_;rw[ew,ew];by_cases h:f1=p;simp[h];simp[h]
   have S:o.length<=2000:=ϖ;have d:w.heap.size<=wr.heap.size:=n.size;have R:Hid (cur[k*2]?=some (.string (aj f1))):=by show _=_;rw[<-s.cell];exact c0
   clear c1;obtain⟨rfl,rfl,hpf⟩|⟨rfl,rfl,hpf⟩|⟨rfl,rfl⟩|rfl:=B
   case' inl=>
    have P:Op.bytesLess (aj f1).toList (aj p).toList=false:=by rw[z.out];exact decide_eq_false (List.not_lt.2 hpf)
    have E:Hid (bj p c true false l=(o++[(p,c)])++((if f1=p then[]else[(f1,f2)])++bj p c true true (l.drop (k+1)))):=by show _=_;rw[I.out];simp[hpf]
    go_wp2_with (with_reducible refine bC 187 rfl ?_);refine bX rfl (.agg #[.string (aj p),.string (aj c)]) wr ϰ ?_;go_wp2_with (with_reducible refine aQ rfl ?_);have m:=i;refine Qe rfl rfl 177 187 2 32 dW _ _ _ rfl rfl (.agg #[.string (aj p),.string (aj c)]) rfl rfl (by simp[Value.cells,Value.oneCell']) w.heap.size _ _ _ (λ_=>rfl) (λ_=>rfl) i d ?_;intro _ G J wr i y;replace n:=n.trans y (by intro j x;right;simp at x;exact(m.lt j x).1);replace i:wr.ownsRow w.heap.size 187 2 (.slice (some ⟨G,0,none⟩) (o.length+1) J) (o++[(p,c)]).length (dd (o++[(p,c)])):=by rw[kh o [(p,c)],show(o++[(p,c)]).length=o.length+1 from af0];exact i
    have s:=n.row (b:=g) hg ϛ;have c0:=s.val (k*2) (.string (aj f1)) R.out;clear I HW m y d
    go_upto_region 9 with fail
    have t:(o++[(p,c)]).length<=2*k+1:=by simp;omega
    generalize o++[(p,c)]=o at E t i;generalize Value.slice (some ⟨G,0,none⟩) _ J=T at i⊢
   case' inr.inl=>
    have P:Op.bytesLess (aj f1).toList (aj p).toList=true:=by rw[z.out];exact decide_eq_true (List.not_le.1 hpf)
    have E:Hid (bj p c true false l=o++((if f1=p then[]else[(f1,f2)])++bj p c true false (l.drop (k+1)))):=by show _=_;rw[I.out];simp[hpf]
    replace t:o.length<=2*k+1:=ϖ;clear d
    go_upto_region 9 with fail
   case' inr.inr.inl=>
    have E:Hid (bj p c true false l=o++((if f1=p then[]else[(f1,f2)])++bj p c true true (l.drop (k+1)))):=by show _=_;rw[I.out];simp
    replace t:o.length<=2*k+1:=ϖ;clear d
    go_upto_region 9 with fail
   case' inr.inr.inr=>
    have E:Hid (bj p c false false l=o++((if f1=p then[]else[(f1,f2)])++bj p c false q (l.drop (k+1)))):=by show _=_;rw[I.out];simp
    replace t:o.length<=2*k+1:=ϖ;clear d
    go_upto_region 9 with fail
   all_goals
    have d:w.heap.size<=wr.heap.size:=n.size;have r:=E.out;by_cases H:f1=p
    .have hd:((aj f1).toList==(aj p).toList)=true:=by rw[A.out];simpa using H
     rw[κ H,ϸ]at r;replace r:Hid _:=r;clear H E;go_wp2
     go_roundw
     case rel=>exact⟨k+1,_,o,by go_num,rfl,ϖ,r,ϖ,n,i⟩
     case measure=>simp[intOf];omega
    .have hd:((aj f1).toList==(aj p).toList)=false:=by rw[A.out];simpa using H
     rw[Γ H,<-List.append_assoc]at r;replace r:Hid _:=r;clear H E;go_wp2_with (with_reducible refine ax 187 rfl ?_);refine bT rfl 187 _ rfl g (k*2) rfl oI 2 mP _ _ s _ L.out rfl ?_;go_wp2_with (with_reducible refine aQ rfl ?_);have m:=i;refine Qe rfl rfl 177 187 2 32 dW _ _ _ rfl rfl (.agg #[.string (aj f1),.string (aj f2)]) rfl rfl (by simp[Value.cells,Value.oneCell']) w.heap.size _ _ _ (λ_=>rfl) (λ_=>rfl) i d ?_;intro _ G J wr i y;replace n:=n.trans y (by intro j x;right;simp at x;exact(m.lt j x).1);replace i:wr.ownsRow w.heap.size 187 2 (.slice (some ⟨G,0,none⟩) (o.length+1) J) (o++[(f1,f2)]).length (dd (o++[(f1,f2)])):=by rw[kh o [(f1,f2)],show(o++[(f1,f2)]).length=o.length+1 from af0];exact i
     clear m y d;go_wp2
     go_roundw
     case rel=>exact⟨k+1,_,o++[(f1,f2)],by go_num,rfl,ϖ,r,by simp;omega,n,by simpa using i⟩
     case measure=>simp[intOf];omega
  .have r:Hid (bj p c a false l=o++bj p c a q []):=by
    have:=HW.out;rw[aj9 ϖ]at this;exact this
   have⟨X,U,Q⟩:=aY i;subst Q;have d:w.heap.size<=wr.heap.size:=n.size;have S:o.length<=2000:=ϖ;cases a with
   |false=>
    have K:Hid (bj p c false false l=o):=by show _=_;rw[r.out];simp[bj]
    go_wp2;go_ret;exact⟨_,rfl,by rw[K.out];exact i,n⟩
   |true=>
    cases q with
    |true=>
     have K:Hid (bj p c true false l=o):=by show _=_;rw[r.out];simp[bj]
     go_wp2;go_ret;exact⟨_,rfl,by rw[K.out];exact i,n⟩
    |false=>
     have K:Hid (bj p c true false l=o++[(p,c)]):=by show _=_;rw[r.out];simp[bj]
     go_wp2_with (with_reducible refine bC 187 rfl ?_);refine bX rfl (.agg #[.string (aj p),.string (aj c)]) wr ϰ ?_;go_wp2_with (with_reducible refine aQ rfl ?_);have m:=i;refine Qe rfl rfl 177 187 2 32 dW _ _ _ rfl rfl (.agg #[.string (aj p),.string (aj c)]) rfl rfl (by simp[Value.cells,Value.oneCell']) w.heap.size _ _ _ (λ_=>rfl) (λ_=>rfl) i d ?_;intro _ G J wr i y;replace n:=n.trans y (by intro j x;right;simp at x;exact(m.lt j x).1);replace i:wr.ownsRow w.heap.size 187 2 (.slice (some ⟨G,0,none⟩) (o.length+1) J) (o++[(p,c)]).length (dd (o++[(p,c)])):=by rw[kh o [(p,c)],show(o++[(p,c)]).length=o.length+1 from af0];exact i
     clear m y;go_wp2;go_ret;exact⟨_,rfl,by rw[K.out];exact i,n⟩
end
end
end Go.Proofs.YtchcmhodnkgojaaGreat
