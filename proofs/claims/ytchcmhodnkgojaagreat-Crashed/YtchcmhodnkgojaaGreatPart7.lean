/- On the way to the last text; put together and shortened by program. -/
import Derived.Test.YtchcmhodnkgojaaGreatPart6
import Derived.Laws.MakeOwn
import Derived.Test.YtchcmhodnkgojaaGreatShelf
import Derived.OwnWalk
import Derived.DeepKeys
import Derived.Test.YtchcmhodnkgojaaGreatProg
import Derived.Laws.LoneSync
import Derived.Conc.SmallLaws
set_option linter.all false
set_option maxRecDepth 100000
set_option maxHeartbeats 8000000
open Go.Proofs.Tryz
namespace Go.Proofs.YtchcmhodnkgojaaGreat
open Region (wanted)
open Region (ready)
open MemOp (ofEvents)
open Sem (run_bind)
open List (range)
open List (replicate)
noncomputable section
section
open Go.RowKit Go.Lib
def iE (a:ϓ)(i:Int)(b:Γ):List Γ:=if i=-1 then a else a.set (10+i.toNat) b
def aV (c:ϓ)(b a:Int):List Γ:=iE (iE c b 1) a 0
def DS.mark (x:DS)(b a:Int):DS:=
 if x.bp then(x.write 0 (aV (x.read 0) b a)).flush else x.write 0 (aV (x.read 0) b a)
def DS.fT (x:DS)(b a:Int):Bool:=x.bp&&(x.write 0 (aV (x.read 0) b a)).bp
def ee (a:ϓ)(i:Int)(b:Γ):(iE a i b).length=a.length:=by unfold iE;split<;>simp
def iw (l:ϓ)(i:Nat)(b:Γ):(byteCells (l.set i b)).toArray=(byteCells l).toArray.setIfInBounds i (.int .u8 b.toNat):=by
 simp[byteCells,List.map_set]
def Fs {w:Ω}{F:ϑ}{d n:Nat}{x:DS}(h:bT w F d n x):(x.read 0).length=64:=by
 have⟨b,a,h,_⟩:=h;exact bD _ _ (by rw[h.len];have:=h.lo;simp;omega) _ h.eY
def bT.size {w:Ω}{F:ϑ}{d n:Nat}{x:DS}(h:bT w F d n x):16<=n/\n<=400:=by
 have⟨b,a,h,_⟩:=h;exact⟨h.lo,h.hi⟩
def Fr (F:ϑ)(d n:Nat)(x:DS)(s:Int)(w:Ω)(h:bT w F d n x)(a:0<=s)(b:s<n):
  Calls prog 114 #[.pointer (some ⟨d,0,none⟩),.int .i64 s] w λe w'=>e= .returned (.agg (byteCells (x.read s)).toArray)/\aQ [] w w':=by
 have⟨f,c,h,_⟩:=h;exact um d f n c x s w h a b
def DS.kj {x:DS}{s:Int}{l:ϓ}{r:Nat}(h:x.Fit (r+1))(a:x.bp=true):(x.write s l).Fit r:=by
 have h1:=h.lD;have h2:=h.lC;have b:=h.lB;have c:=h.lA;unfold DS.write;rw[φ a];unfold DS.bp at a;refine⟨by simp[DS.gW];omega,by simp[DS.gW];omega,?_,?_⟩
 .simp only[DS.gW]
  split
  .rename_i hg
   simp[hg] at a;have:=a.2;omega
  .exact b
 .simp only[DS.gW]
  split<;>omega
section
variable {P:ω}{ops:Array Oper}{Q:Exit->Act->Ω->Prop}{a:Act}{w:Ω}{rest:List Oper}{o:Oper}
def ir (hg:o.guard=none)(t:η)(x y:ab7)(m:o.op= .store t x y)(b off:Nat)(n:a.eval x= .pointer (some ⟨b,off,none⟩))(k:IntKind)(v:Int)(p:a.eval y= .int k v)(c:ϐ)(u:η)(hr:Row w b c u)(d:off<c.size)(h:∀w1:Ω,aQ [b] w w1->Row w1 b (c.setIfInBounds off (.int k v)) u->wpList P ops Q rest (a.put o.dst ϗ) w1)(j:(P.info? t).map (·.size)=some 1:=by kernel_rfl):wpList P ops Q (o::rest) a w:=by
 refine yd hg (w.setCell ⟨b,off,none⟩ (.int k v)) ?_ (h _ (aQ.setCell ..) (hr.setCell ..));have g:=hr.cell off;have l:=hr.thaw off;have q:c[off]? =some c[off]:=by simp[d]
 rw[q] at g;have f:(store ((⟨b,off,none⟩:Addr).add 0) (.int k v)).run P w= .ok () (w.setCell ⟨b,off,none⟩ (.int k v)):=by
  rw[Addr.add_mid,ϕ1,run_store P w _ _ _ rfl,g];simp[l]
 cases e:P.info? t with
 |none=>simp[e] at j
 |some i=>
  have h1:i.size=1:=by simpa [e] using j
  simp[execOp,m,n,p,Instr.storeAt,Instr.sureAddr,storeVar,sizeOf,typeInfo,e,h1,Value.cells,storeCells,f]
end
def Cn (F:ϑ)(d n:Nat)(x:DS)(b a:Int)(w:Ω)(h:bT w F d n x)(j:x.Fit 2)(W:x.waiting.length<60)(ae:-1<=b)(am:b<54)(ac:-1<=a)(ag:a<54):
  Calls prog 111 #[.pointer (some ⟨d,0,none⟩),.int .i64 b,.int .i64 a] w λe w'=>e= .returned (cu (x.fT b a))/\∃F',bT w' F' d n (x.mark b a)/\aQ F w w'/\bC F F' w:=by
 have ak:=h.size;have X:=Fs h;go_enter func111,ntmps111;go_wp2_with fail;refine(Fr F d n x 0 w h ϖ ϖ).mono ?_;rintro e w1 ⟨rfl,Y⟩;go_wp2_with (with_reducible first|refine aA rfl ?_|refine ai 148 rfl ?_);refine bj rfl 148 rfl fO d9 ?_;intro w2 s l7 f2 r7
 go_wp2_with (with_reducible first|refine aA rfl ?_|refine ai 148 rfl ?_);refine bQ rfl 148 _ _ rfl _ 0 rfl _ rfl 64 bE ?_ ?_ _ _ r7 ?_ ?_
 .simp only[ab3,ah];exact X
 .exact byteCells_one _
 .decide
 intro w3 f3 T;rw[bL _ _ (by rw[ah,X];rfl)] at T;have t:aQ [] w w3:=(Y.trans f2).trans f3 (by simp;have:=Y.size;omega);have I:w.heap.size<=s:=by have:=Y.size;omega
 have HR:Hid ((x.read 0).length=64):=X;clear r7 Y f2 f3 X;have q:Hid (∀r:List Γ,r.length=64->∀i:Int,0<=i->i<54->(10+i).toNat<(byteCells r).toArray.size/\(byteCells r).toArray.setIfInBounds (10+i).toNat (.int .u8 1)=(byteCells (iE r i 1)).toArray/\(byteCells r).toArray.setIfInBounds (10+i).toNat (.int .u8 0)=(byteCells (iE r i 0)).toArray):=by
  intro r hr i h0 ad;have e:(10+i).toNat=10+i.toNat:=ϖ
  have V:i≠-1:=ϖ
  refine⟨by simp[ah,hr];omega,?_,?_⟩
  .rw[iE,ζ V,iw,e];rfl
  .rw[iE,ζ V,iw,e];rfl
 by_cases h1:b=-1
 .subst h1
  by_cases h2:a=-1
  .subst h2
   go_wp2_with (with_reducible first|refine au 148 rfl ?_|refine ai 5 rfl ?_);have f:Hid ((aV (x.read 0) (-1) (-1)).length=64):=by show _=_;unfold aV;rw[ee,ee];exact HR.out
   have u:Row w3 s (byteCells (aV (x.read 0) (-1) (-1))).toArray 148:=T;have z:=h.new t;refine bZ rfl 148 _ rfl s 0 rfl dY 64 bE _ _ u (byteCells (aV (x.read 0) (-1) (-1))) ?_ ?_ ?_
   .simp only[ϲ];exact θ (by rw[ah];exact ai8 f.out)
   .rw[ah];exact f.out
   go_wp2_with fail;refine(lX F d n x 0 (aV (x.read 0) (-1) (-1)) w3 z ⟨j.lD,by have:=j.lC;omega,j.lB,j.lA⟩ f.out W).mono ?_;rintro e E ⟨rfl,p,C,v,G⟩;have l:aQ F w E:=(t.mono ϛ:aQ F w w3).trans v (λi o=> .inl o);have m:bC F p w:=λk M=>(G k M).imp id (λhh=>by have:=t.size;omega)
   have N:=l.size;have A:Hid (x.mark (-1) (-1)=if x.bp then(x.write 0 (aV (x.read 0) (-1) (-1))).flush else x.write 0 (aV (x.read 0) (-1) (-1))):=rfl;have D:Hid (x.fT (-1) (-1)=(x.bp&&(x.write 0 (aV (x.read 0) (-1) (-1))).bp)):=rfl;have g:Hid (x.bp=true->(x.write 0 (aV (x.read 0) (-1) (-1))).Fit 1):=λc=>DS.kj j c
   have O:∀R:Φ×DS,R=R:=λ_=>rfl
   clear O u z v G;generalize x.write 0 (aV (x.read 0) (-1) (-1))=y at*;cases c:x.bp with
   |true=>
    simp only[cu,if_true];go_wp2_with fail;refine(mF p d n y E C (g.out c)).mono ?_;rintro e w9 ⟨rfl,P,Q,L,S⟩;go_wp2;go_ret;refine⟨?_,P,?_,l.trans L (λi o=>m i o),m.trans S N⟩
    .rw[D.out,c];simp
    .rw[A.out,c];simpa using Q
   |false=>
    simp only[cu];go_wp2;go_ret;refine⟨?_,p,?_,l,m⟩
    .rw[D.out,c];rfl
    .rw[A.out,c];simpa using C
  .have aa:(a==-1)=false:=by simpa using h2
   go_wp2_with (with_reducible first|refine au 148 rfl ?_|refine ai 5 rfl ?_);have H:=q.out (x.read 0) (by exact HR.out) a ϖ ϖ;refine ir rfl 5 _ _ rfl s (10+a).toNat rfl .u8 0 rfl _ _ T H.1 ?_;intro B U K;rw[H.2.2] at K;have J:aQ [] w B:=t.trans U (by simpa using I);clear H
   go_wp2_with (with_reducible first|refine au 148 rfl ?_|refine ai 5 rfl ?_);have f:Hid ((aV (x.read 0) (-1) a).length=64):=by show _=_;unfold aV;rw[ee,ee];exact HR.out
   have u:Row B s (byteCells (aV (x.read 0) (-1) a)).toArray 148:=K;have z:=h.new J;refine bZ rfl 148 _ rfl s 0 rfl dY 64 bE _ _ u (byteCells (aV (x.read 0) (-1) a)) ?_ ?_ ?_
   .simp only[ϲ];exact θ (by rw[ah];exact ai8 f.out)
   .rw[ah];exact f.out
   go_wp2_with fail;refine(lX F d n x 0 (aV (x.read 0) (-1) a) B z ⟨j.lD,by have:=j.lC;omega,j.lB,j.lA⟩ f.out W).mono ?_;rintro e E ⟨rfl,p,C,v,G⟩;have l:aQ F w E:=(J.mono ϛ:aQ F w B).trans v (λi o=> .inl o);have m:bC F p w:=λk M=>(G k M).imp id (λhh=>by have:=J.size;omega)
   have N:=l.size;have A:Hid (x.mark (-1) a=if x.bp then(x.write 0 (aV (x.read 0) (-1) a)).flush else x.write 0 (aV (x.read 0) (-1) a)):=rfl;have D:Hid (x.fT (-1) a=(x.bp&&(x.write 0 (aV (x.read 0) (-1) a)).bp)):=rfl;have g:Hid (x.bp=true->(x.write 0 (aV (x.read 0) (-1) a)).Fit 1):=λc=>DS.kj j c
   have O:∀R:Φ×DS,R=R:=λ_=>rfl
   clear O u z v G;generalize x.write 0 (aV (x.read 0) (-1) a)=y at*;cases c:x.bp with
   |true=>
    simp only[cu,if_true];go_wp2_with fail;refine(mF p d n y E C (g.out c)).mono ?_;rintro e w9 ⟨rfl,P,Q,L,S⟩;go_wp2;go_ret;refine⟨?_,P,?_,l.trans L (λi o=>m i o),m.trans S N⟩
    .rw[D.out,c];simp
    .rw[A.out,c];simpa using Q
   |false=>
    simp only[cu];go_wp2;go_ret;refine⟨?_,p,?_,l,m⟩
    .rw[D.out,c];rfl
    .rw[A.out,c];simpa using C
 .have ab:(b==-1)=false:=by simpa using h1
  by_cases h2:a=-1
  .subst h2
   go_wp2_with (with_reducible first|refine au 148 rfl ?_|refine ai 5 rfl ?_);have H:=q.out (x.read 0) (by exact HR.out) b ϖ ϖ;refine ir rfl 5 _ _ rfl s (10+b).toNat rfl .u8 1 rfl _ _ T H.1 ?_;intro B U K;rw[H.2.1] at K;have J:aQ [] w B:=t.trans U (by simpa using I);clear H
   go_wp2_with (with_reducible first|refine au 148 rfl ?_|refine ai 5 rfl ?_);have f:Hid ((aV (x.read 0) b (-1)).length=64):=by show _=_;unfold aV;rw[ee,ee];exact HR.out
   have u:Row B s (byteCells (aV (x.read 0) b (-1))).toArray 148:=K;have z:=h.new J;refine bZ rfl 148 _ rfl s 0 rfl dY 64 bE _ _ u (byteCells (aV (x.read 0) b (-1))) ?_ ?_ ?_
   .simp only[ϲ];exact θ (by rw[ah];exact ai8 f.out)
   .rw[ah];exact f.out
   go_wp2_with fail;refine(lX F d n x 0 (aV (x.read 0) b (-1)) B z ⟨j.lD,by have:=j.lC;omega,j.lB,j.lA⟩ f.out W).mono ?_;rintro e E ⟨rfl,p,C,v,G⟩;have l:aQ F w E:=(J.mono ϛ:aQ F w B).trans v (λi o=> .inl o);have m:bC F p w:=λk M=>(G k M).imp id (λhh=>by have:=J.size;omega)
   have N:=l.size;have A:Hid (x.mark b (-1)=if x.bp then(x.write 0 (aV (x.read 0) b (-1))).flush else x.write 0 (aV (x.read 0) b (-1))):=rfl;have D:Hid (x.fT b (-1)=(x.bp&&(x.write 0 (aV (x.read 0) b (-1))).bp)):=rfl;have g:Hid (x.bp=true->(x.write 0 (aV (x.read 0) b (-1))).Fit 1):=λc=>DS.kj j c
   have O:∀R:Φ×DS,R=R:=λ_=>rfl
   clear O u z v G;generalize x.write 0 (aV (x.read 0) b (-1))=y at*;cases c:x.bp with
   |true=>
    simp only[cu,if_true];go_wp2_with fail;refine(mF p d n y E C (g.out c)).mono ?_;rintro e w9 ⟨rfl,P,Q,L,S⟩;go_wp2;go_ret;refine⟨?_,P,?_,l.trans L (λi o=>m i o),m.trans S N⟩
    .rw[D.out,c];simp
    .rw[A.out,c];simpa using Q
   |false=>
    simp only[cu];go_wp2;go_ret;refine⟨?_,p,?_,l,m⟩
    .rw[D.out,c];rfl
    .rw[A.out,c];simpa using C
  .have aa:(a==-1)=false:=by simpa using h2
   go_wp2_with (with_reducible first|refine au 148 rfl ?_|refine ai 5 rfl ?_);have H:=q.out (x.read 0) (by exact HR.out) b ϖ ϖ;refine ir rfl 5 _ _ rfl s (10+b).toNat rfl .u8 1 rfl _ _ T H.1 ?_;intro B U K;rw[H.2.1] at K;have J:aQ [] w B:=t.trans U (by simpa using I);clear H
   go_wp2_with (with_reducible first|refine au 148 rfl ?_|refine ai 5 rfl ?_);have zb:=q.out (iE (x.read 0) b 1) (by rw[ee];exact HR.out) a ϖ ϖ;refine ir rfl 5 _ _ rfl s (10+a).toNat rfl .u8 0 rfl _ _ K zb.1 ?_;intro Z fb rb;rw[zb.2.2] at rb;have gb:aQ [] w Z:=J.trans fb (by simpa using I)
   clear zb;go_wp2_with (with_reducible first|refine au 148 rfl ?_|refine ai 5 rfl ?_);have f:Hid ((aV (x.read 0) b a).length=64):=by show _=_;unfold aV;rw[ee,ee];exact HR.out
   have u:Row Z s (byteCells (aV (x.read 0) b a)).toArray 148:=rb;have z:=h.new gb;refine bZ rfl 148 _ rfl s 0 rfl dY 64 bE _ _ u (byteCells (aV (x.read 0) b a)) ?_ ?_ ?_
   .simp only[ϲ];exact θ (by rw[ah];exact ai8 f.out)
   .rw[ah];exact f.out
   go_wp2_with fail;refine(lX F d n x 0 (aV (x.read 0) b a) Z z ⟨j.lD,by have:=j.lC;omega,j.lB,j.lA⟩ f.out W).mono ?_;rintro e E ⟨rfl,p,C,v,G⟩;have l:aQ F w E:=(gb.mono ϛ:aQ F w Z).trans v (λi o=> .inl o);have m:bC F p w:=λk M=>(G k M).imp id (λhh=>by have:=gb.size;omega)
   have N:=l.size;have A:Hid (x.mark b a=if x.bp then(x.write 0 (aV (x.read 0) b a)).flush else x.write 0 (aV (x.read 0) b a)):=rfl;have D:Hid (x.fT b a=(x.bp&&(x.write 0 (aV (x.read 0) b a)).bp)):=rfl;have g:Hid (x.bp=true->(x.write 0 (aV (x.read 0) b a)).Fit 1):=λc=>DS.kj j c
   have O:∀R:Φ×DS,R=R:=λ_=>rfl
   clear O u z v G;generalize x.write 0 (aV (x.read 0) b a)=y at*;cases c:x.bp with
   |true=>
    simp only[cu,if_true];go_wp2_with fail;refine(mF p d n y E C (g.out c)).mono ?_;rintro e w9 ⟨rfl,P,Q,L,S⟩;go_wp2;go_ret;refine⟨?_,P,?_,l.trans L (λi o=>m i o),m.trans S N⟩
    .rw[D.out,c];simp
    .rw[A.out,c];simpa using Q
   |false=>
    simp only[cu];go_wp2;go_ret;refine⟨?_,p,?_,l,m⟩
    .rw[D.out,c];rfl
    .rw[A.out,c];simpa using C
def eU (a:ϓ)(m:Nat):Nat->Nat->Int
 |0,_=>-1
 |f+1,k=>if k<m then(if dP a k==0 then k else eU a m f (k+1)) else -1
def eg (x:DS)(n:Nat):Int:=eU (x.read 0) (aK n) (aK n) 0
def FI (a:ϓ)(i:Nat):(((dP a i).toNat:Int)==0)=(dP a i==0):=by
 rw[ϐ2];simp[<-UInt8.toNat_inj]
def qN (a:ϓ)(m:Nat):∀(f k:Nat),eU a m f k=-1\/∃i:Nat,i<m/\eU a m f k=i/\dP a i=0
 |0,_=> .inl rfl
 |f+1,k=>by
  unfold eU
  by_cases h:k<m
  .rw[φ h]
   by_cases h2:(dP a k==0)=true
   .exact .inr ⟨k,h,by simp[h2],by simpa using h2⟩
   .rw[ζ h2];exact qN a m f (k+1)
  .rw[ζ h];exact .inl rfl
def DV (F:ϑ)(d n:Nat)(x:DS)(w:Ω)(h:bT w F d n x):
  Calls prog 108 #[.pointer (some ⟨d,0,none⟩)] w λe w'=>e= .returned (.int .i64 (eg x n))/\aQ [] w w':=by
 have g:=h.size;have j:=Fs h;go_enter func108,ntmps108;go_wp2_with fail;refine(Fr F d n x 0 w h ϖ ϖ).mono ?_;rintro e w1 ⟨rfl,o⟩;go_wp2_with (with_reducible first|refine aA rfl ?_|refine ai 148 rfl ?_);refine bj rfl 148 rfl fO d9 ?_;intro G b4 H f2 r4
 go_wp2_with (with_reducible first|refine aA rfl ?_|refine ai 148 rfl ?_);refine bQ rfl 148 _ _ rfl _ 0 rfl _ rfl 64 bE ?_ ?_ _ _ r4 ?_ ?_
 .simp only[ab3,ah];exact j
 .exact byteCells_one _
 .decide
 intro v u t;rw[bL _ _ (by rw[ah,j];rfl)] at t;have c:aQ [] w v:=(o.trans f2).trans u (by simp;have:=o.size;omega);have C:=h.new c;clear r4 u f2;have⟨B,z,l,_⟩:=C;go_wp2_with fail;refine(mV d B n z x v l).mono ?_;rintro e s ⟨rfl,rfl⟩;go_wp2_with fail;refine(nB n g.1 g.2 _).mono ?_;rintro e s ⟨rfl,rfl⟩
 go_wp2_with fail;have A:aK n<=54:=by unfold aK;omega
 have D:w.heap.size<=b4:=by have:=o.size;omega
 have q:Hid (eg x n=eU (x.read 0) (aK n) (aK n) 0):=rfl
 go_loopw [10] (λi wr=>∃k:Nat,i= .int .i64 k/\k<=aK n/\wr=s/\Hid (eg x n=eU (x.read 0) (aK n) (aK n-k) k)) (λi _=>aK n-(intOf i).toNat)
 case atStart=>exact⟨0,rfl,ϖ,rfl,q⟩
 case round=>
  obtain⟨k,rfl,I,rfl,m⟩:=hrel
  by_cases p:k<aK n
  .have E:wr.cell? ⟨b4,10+k,none⟩=some (.int .u8 (dP (x.read 0) k).toNat):=by
    rw[t.cell];simp[byteCells,dP,ϻ];rw[List.getElem?_eq_getElem ϖ];exact⟨_,rfl,rfl⟩
   have HR:Hid ((x.read 0).length=64):=j;clear j;have b:=FI (x.read 0) k;have a:Hid (eU (x.read 0) (aK n) (aK n-k) k=if dP (x.read 0) k==0 then(k:Int) else eU (x.read 0) (aK n) (aK n-(k+1)) (k+1)):=by
    show _=_;rw[show aK n-k=(aK n-(k+1))+1 by omega,eU,φ p]
   by_cases hm:(dP (x.read 0) k==0)=true
   .have y:(((dP (x.read 0) k).toNat:Int)==0)=true:=by rw[b];exact hm
    have r:Hid ((dP (x.read 0) k==0)=true):=hm;clear hm b;go_wp2;go_ret;refine⟨rF ?_,c⟩;rw[m.out,a.out,φ r.out]
   .have f:(dP (x.read 0) k==0)=false:=by simpa using hm
    have y:(((dP (x.read 0) k).toNat:Int)==0)=false:=by rw[b];exact f
    have r:Hid ((dP (x.read 0) k==0)=false):=f;clear hm f b;go_wp2
    go_roundw
    case rel=>
     refine⟨k+1,by go_num,ϖ,trivial,?_⟩;show _=_;rw[m.out,a.out,ζ (by rw[r.out];simp)]
    case measure=>simp[intOf];omega
  .have HK:Hid (k=aK n):=(by omega:k=aK n)
   go_wp2;go_ret;refine⟨rF ?_,c⟩;rw[m.out,HK.out,Nat.sub_self];rfl
def splice (l:ϓ)(o:Nat)(v:ϓ):List Γ:=l.take o++v++l.drop (o+v.length)
def m6 (l:ϓ)(o:Nat)(v:ϓ):over (byteCells l).toArray o (byteCells v)=(byteCells (splice l o v)).toArray:=by
 simp[over,splice,byteCells_append,fD,fE,ah]
def length_splice (l:ϓ)(o:Nat)(v:ϓ)(h:o+v.length<=l.length):(splice l o v).length=l.length:=by
 simp[splice];omega
def eP (s p c:Nat):List Γ:=(((replicate 128 (0:Γ)).set 0 (UInt8.ofNat s)).set 1 (UInt8.ofNat p)).set 2 (UInt8.ofNat c)
def cI (s:Nat)(p c:ϓ):List Γ:=splice (splice (eP s p.length c.length) 3 (p.take 8)) 11 (c.take 117)
def fB (s p c:Nat):(eP s p c).length=128:=by simp[eP]
def nN (s:Nat)(p c:ϓ):(cI s p c).length=128:=by
 unfold cI;rw[length_splice _ _ _ (by rw[length_splice _ _ _ (by rw[fB,ac8];omega),fB,ac8];omega),length_splice _ _ _ (by rw[fB,ac8];omega),fB]
def IW (s p c:Nat)(a:s<256)(d:p<256)(b:c<256):(((byteCells (replicate 128 0)).toArray.setIfInBounds 0 (.int .u8 s)).setIfInBounds 1 (.int .u8 p)).setIfInBounds 2 (.int .u8 c)=(byteCells (eP s p c)).toArray:=by
 unfold eP;rw[iw,iw,iw];simp[a,d,b,Nat.mod_eq_of_lt]
def Ac (s:Nat)(p c:Ξ)(w:Ω)(hs:s<256)(hp:p.size<256)(hc:c.size<256):
  Calls prog 110 #[.agg #[.int .i64 s,.string p,.string c]] w λe w'=>e= .returned (.agg (byteCells (cI s p.data.toList c.data.toList)).toArray)/\aQ [] w w':=by
 have X:Hid (p.data.toList.length=p.size):=by show _=_;rw[af9];rfl
 have O:Hid (c.data.toList.length=c.size):=by show _=_;rw[af9];rfl
 go_enter func110,ntmps110;go_wp2_with (with_reducible first|refine bA rfl ?_|refine aA rfl ?_|refine au 138 rfl ?_|refine ai 138 rfl ?_|refine ai 5 rfl ?_);refine eQ rfl 107 _ rfl (.agg #[.int .i64 s,.string p,.string c]) rfl ?_;intro w1 b1 l1 M r1
 go_wp2_with (with_reducible first|refine bA rfl ?_|refine aA rfl ?_|refine au 138 rfl ?_|refine ai 138 rfl ?_|refine ai 5 rfl ?_);refine bj rfl 138 rfl oG kV ?_;intro w2 b2 l2 f2 r2
 go_wp2_with (with_reducible first|refine bA rfl ?_|refine aA rfl ?_|refine au 138 rfl ?_|refine ai 138 rfl ?_|refine ai 5 rfl ?_);refine bj rfl 138 rfl oG kV ?_;intro w3 a l3 N r3;have q1:Row w3 b1 #[.int .i64 s,.string p,.string c] 107:=N.row (f2.row r1 ϛ);have k:=N.row r2
 have G:=(M.trans f2).trans N;have Z:w.heap.size<=b2:=by have:=M.size;omega
 have j:w.heap.size<=a:=by have:=M.size;have:=f2.size;omega
 have n12:b1≠b2:=by have:=r1.lt;omega
 have l:b1≠a:=by have:=r1.lt;have:=f2.size;omega
 have i:b2≠a:=by have:=r2.lt;omega
 have E:Row w3 a (byteCells (replicate 128 0)).toArray 138:=r3;clear r1 r2 r3 M f2 N l1 l2 l3;have c0:w3.cell? ⟨b1,0,none⟩=some (.int .i64 s):=by rw[q1.cell];rfl
 go_wp2_with (with_reducible first|refine bA rfl ?_|refine aA rfl ?_|refine au 138 rfl ?_|refine ai 138 rfl ?_|refine ai 5 rfl ?_);refine ir rfl 5 _ _ rfl a 0 rfl .u8 s rfl _ _ E (by simp only[ab3,ah,Ϸ];omega) ?_;intro w4 H r4;have u:=H.row q1 (by simpa using l)
 have F:=H.row k (by simpa using i);have c1:w4.cell? ⟨b1,1,none⟩=some (.string p):=by rw[u.cell];rfl
 clear c0;go_wp2_with (with_reducible first|refine bA rfl ?_|refine aA rfl ?_|refine au 138 rfl ?_|refine ai 138 rfl ?_|refine ai 5 rfl ?_);refine ir rfl 5 _ _ rfl a 1 rfl .u8 p.size rfl _ _ r4 (by simp only[ϑ5,ab3,ah,Ϸ];omega) ?_;intro w5 K r5
 have t:=K.row u (by simpa using l);have D:=K.row F (by simpa using i);have c2:w5.cell? ⟨b1,2,none⟩=some (.string c):=by rw[t.cell];rfl
 clear c1;go_wp2_with (with_reducible first|refine bA rfl ?_|refine aA rfl ?_|refine au 138 rfl ?_|refine ai 138 rfl ?_|refine ai 5 rfl ?_);refine ir rfl 5 _ _ rfl a 2 rfl .u8 c.size rfl _ _ r5 (by simp only[ϑ5,ab3,ah,Ϸ];omega) ?_;intro L J Y
 have y:=J.row t (by simpa using l);have B:=J.row D (by simpa using i);rw[IW s p.size c.size hs hp hc] at Y;have fw:aQ [] w L:=((G.trans H (by simpa using j)).trans K (by simpa using j)).trans J (by simpa using j);clear c2 H K J r4 r5 u t F D q1 k E G
 go_wp2_with (with_reducible first|refine bA rfl ?_|refine aA rfl ?_|refine au 138 rfl ?_|refine ai 138 rfl ?_|refine ai 5 rfl ?_)
 refine iq 5 rfl ?_;have g:aQ [] L L.drew:=aQ.drew ..;have q1:=g.row y;have k:=g.row B;have m:=g.row Y;have S:=fw.trans g;generalize L.drew=R at q1 k m S;clear y B Y fw g
 have T:Lets (λw':Ω=>Row w' b1 #[.int .i64 s,.string p,.string c] 107):=⟨λw o h=>(aQ.alloc [] w o).row h,λw h=>h⟩
 refine cy 0 (some 20) rfl rfl (λ_ _ _ h=>h) rfl (v:= .slice (some ⟨a,3,none⟩) 8 125) (λ_=>lx 138 5 128 _ _ _ rfl underlying138 ϰ a 0 rfl 3 11 rfl rfl ϖ ϖ ϖ ϖ _ _ _ ϖ ϖ ϖ) ?_
 refine cy 1 (some 21) rfl rfl (λ_ _ _ h=>h) rfl (v:= .pointer (some ⟨b1,0,none⟩)) (λ_=>by go_simp) ?_;simp only[Act.put,co,cq,ck];refine cy 2 (some 22) rfl rfl (λ_ _ _ h=>h) rfl (v:= .pointer (some ⟨b1,1,none⟩)) (λ_=>by go_simp) ?_
 refine nn 3 _ T q1 (some 23) rfl rfl (λ_ _ _ h=>h) rfl (v:= .string p) (λw' r=>by have:=r.cell 1;go_simp) ?_;simp only[Act.put,co,cq,ck];refine tL 4 (some 24) rfl rfl rfl _ _ (nj _ _ _ _ 5 rfl underlying85 a 3 8 125 rfl p rfl _ _ m ?_) ?_
 .simp only[ab3,ah,fB];have:Nat.min p.size 8<=8:=Nat.min_le_right ..;omega
 rw[m6];refine nr ?_;have d:=m.setRow (byteCells (splice (eP s p.size c.size) 3 (p.data.toList.take 8))).toArray;have I:aQ [a] R (R.setRow a (byteCells (splice (eP s p.size c.size) 3 (p.data.toList.take 8))).toArray):=aQ.setRow ..;have x:=I.row q1 (by simpa using l);have f:=I.row k (by simpa using i)
 have Q:aQ [] w _:=S.trans I (by simpa using j);generalize R.setRow a (byteCells (splice (eP s p.size c.size) 3 (p.data.toList.take 8))).toArray=w8 at x f d Q;clear q1 k m I S;simp only[Act.put,co,cq,ck]
 go_wp2_with (with_reducible first|refine bA rfl ?_|refine aA rfl ?_|refine au 138 rfl ?_|refine ai 138 rfl ?_|refine ai 5 rfl ?_)
 refine iq 4 rfl ?_;have g:aQ [] w8 w8.drew:=aQ.drew ..;have q1:=g.row x;have k:=g.row f;have m:=g.row d;have n:=Q.trans g;generalize w8.drew=W at q1 k m n;clear x f d Q g
 refine cy 0 (some 25) rfl rfl (λ_ _ _ h=>h) rfl (v:= .slice (some ⟨a,11,none⟩) 117 117) (λ_=>nO 138 5 128 _ _ rfl underlying138 ϰ a 0 rfl 11 rfl ϖ ϖ _ _ ϖ ϖ) ?_
 refine cy 1 (some 26) rfl rfl (λ_ _ _ h=>h) rfl (v:= .pointer (some ⟨b1,2,none⟩)) (λ_=>by go_simp) ?_;refine nn 2 _ T q1 (some 27) rfl rfl (λ_ _ _ h=>h) rfl (v:= .string c) (λw' r=>by have:=r.cell 2;go_simp) ?_
 simp only[Act.put,co,cq,ck];have A:(splice (eP s p.size c.size) 3 (p.data.toList.take 8)).length=128:=by rw[length_splice _ _ _ (by rw[fB,ac8];omega),fB]
 refine tL 3 (some 28) rfl rfl rfl _ _ (nj _ _ _ _ 5 rfl underlying85 a 11 117 117 rfl c rfl _ _ m ?_) ?_
 .simp only[ab3,ah,A];have:Nat.min c.size 117<=117:=Nat.min_le_right ..;omega
 rw[m6];refine nr ?_;have er:splice (splice (eP s p.size c.size) 3 (p.data.toList.take 8)) 11 (c.data.toList.take 117)=cI s p.data.toList c.data.toList:=by unfold cI;rw[X.out,O.out]
 rw[er];have d:=m.setRow (byteCells (cI s p.data.toList c.data.toList)).toArray;have q:aQ [a] W (W.setRow a (byteCells (cI s p.data.toList c.data.toList)).toArray):=aQ.setRow ..;have f:=q.row k (by simpa using i);have C:aQ [] w _:=n.trans q (by simpa using j)
 generalize W.setRow a (byteCells (cI s p.data.toList c.data.toList)).toArray=aa at f d C;have b:Hid ((cI s p.data.toList c.data.toList).length=128):=nN ..;clear q1 k m q n er A T;simp only[Act.put,co,cq,ck]
 go_wp2_with (with_reducible first|refine bA rfl ?_|refine aA rfl ?_|refine au 138 rfl ?_|refine ai 138 rfl ?_|refine ai 5 rfl ?_);refine bZ rfl 138 _ rfl a 0 rfl kz 128 gy _ _ d (byteCells (cI s p.data.toList c.data.toList)) ?_ ?_ ?_
 .simp only[ϲ];exact θ (by rw[ah];exact ai8 b.out)
 .rw[ah];exact b.out
 go_wp2_with (with_reducible first|refine bA rfl ?_|refine aA rfl ?_|refine au 138 rfl ?_|refine ai 138 rfl ?_|refine ai 5 rfl ?_);refine bQ rfl 138 _ _ rfl _ 0 rfl _ rfl 128 gy ?_ ?_ _ _ f ?_ ?_
 .simp only[ab3,ah];exact b.out
 .exact byteCells_one _
 .decide
 intro V U z;rw[bL _ _ (by simp only[ah];rw[b.out];rfl)] at z;have P:aQ [] w V:=C.trans U (by simpa using Z);go_wp2_with (with_reducible first|refine bA rfl ?_|refine aA rfl ?_|refine au 138 rfl ?_|refine ai 138 rfl ?_|refine ai 5 rfl ?_)
 exact mX rfl b2 rfl rfl _ _ z kz (by simp only[ab3,ah];rw[b.out];exact gy) ⟨rfl,P⟩
def VM (t:η)(a b c:Int)(w:Ω)(h:a+b=c)(h0:0<=c)(h1:c<=9223372036854775807):(binOp .add t (.int .i64 a) (.int .i64 b)).run prog w= .ok (.int .i64 c) w:=by
 subst h;have:=IntWalk.i64_in (a+b) ϖ;go_simp
def DS.wr (x:DS)(i:Nat)(r:ϓ):Nat->DS
 |0=>x
 |k+1=>(x.wr i r k).write (1+2*i+k:Nat) ((r.drop (k*64)).take 64)
def DS.lG (x:DS)(i:Nat)(r:ϓ):DS:=if x.bp then(if(x.wr i r 1).bp then(x.wr i r 2).flush else x.wr i r 2) else x.wr i r 1
def DS.iy (x:DS)(i:Nat)(r:ϓ):Bool:=x.bp&&(x.wr i r 1).bp&&(x.wr i r 2).bp
def DS.K7 {x:DS}{s:Int}{l:ϓ}{m:Nat}(h:x.waiting.length<=m):(x.write s l).waiting.length<=m+1:=by
 unfold DS.write DS.stopped DS.fall;split
 .simp;omega
 .split
  .omega
  .simp
def DS.N6 {x:DS}{i:Nat}{r:ϓ}{m:Nat}(h:x.waiting.length<=m):∀k,(x.wr i r k).waiting.length<=m+k
 |0=>h
 |k+1=>DS.K7 (DS.N6 h k)
def DS.Hj {x:DS}{i:Nat}{r:ϓ}{m:Nat}:∀k,x.Fit (m+k)->(∀j,j<k->(x.wr i r j).bp=true)->(x.wr i r k).Fit m
 |0,h,_=>h
 |k+1,h,hc=>DS.kj (DS.Hj (m:=m+1) k (by rw[show m+1+k=m+(k+1) by omega];exact h) λj a=>hc j ϖ) (hc k ϖ)
section
variable {P:ω}{ops:Array Oper}{Q:Exit->Act->Ω->Prop}
def G7 {n:Nat}(k:Nat){c:Oper}{a:Act}{w:Ω}(i:k<n)(b:Ϩ)(l:ops[k]? =some c)(hd:c.dst=b)(hr:ready .any ops (upto n k)=[k])(hg:c.guard=none)(f:ac0)(args:ϐ)(j:(execOp a.eval c).run P w= .ok (.enter f args) w)(R:Ending->Ω->Prop)(d:Calls P f args w R)(h:∀e w',R e w'->∃v,e= .returned v/\At P ops Q n (k+1) (a.put b v) w'):At P ops Q n k a w:=
 at_one k i l hr hg λK g=>by
  unfold Oper.wp;rw[j];simp only[Oper.upon];refine d.mono ?_;intro e w' m;obtain⟨v,rfl,hv⟩:=h e w' m;rw[hd];exact g _ _ hv
end
def vE (F:ϑ)(d n:Nat)(x:DS)(i:Nat)(r:ϓ)(w:Ω)(h:bT w F d n x)(hx:x.Fit 3)(iA:x.waiting.length<55)(hi:i<aK n)(hr:r.length=128):
  Calls prog 109 #[.pointer (some ⟨d,0,none⟩),.int .i64 i,.agg (byteCells r).toArray] w λe w'=>e= .returned (cu (x.iy i r))/\∃p,bT w' p d n (x.lG i r)/\aQ F w w'/\bC F p w:=by
 have aq:=h.size;have ao:i<54:=by unfold aK at hi;omega
 have an:2*i+2<n:=by unfold aK at hi;omega
 go_enter func109,ntmps109;go_wp2_with (with_reducible first|refine bA rfl ?_|refine aA rfl ?_|refine au 138 rfl ?_);refine eQ rfl 138 _ rfl (.agg (byteCells r).toArray) rfl ?_;intro w1 u l5 f1 r5;have h1:=h.new f1;have n5:u∉F:=λH=>by have:=h.lt _ H;omega
 have HR:Hid (r.length=128):=hr;clear hr;go_wp2_with (with_reducible first|refine bA rfl ?_|refine aA rfl ?_|refine au 138 rfl ?_);have HW:Hid (∀k,k<2->x.wr i r (k+1)=(x.wr i r k).write (1+2*i+k:Nat) ((r.drop (k*64)).take 64)):=λk _=>rfl
 have P:Hid (∀k,k<=2->(∀j,j<k->(x.wr i r j).bp=true)->(x.wr i r k).Fit 1):=λk Z O=>DS.Hj k ⟨hx.lD,by have:=hx.lC;omega,hx.lB,hx.lA⟩ O
 have ac:Hid (∀k,k<=2->(x.wr i r k).waiting.length<60):=λk Z=>by have:=DS.N6 (x:=x) (i:=i) (r:=r) (ι _) k;omega
 have H0:Hid (x.wr i r 0=x):=rfl;have E:Hid (x.lG i r=if x.bp then(if(x.wr i r 1).bp then(x.wr i r 2).flush else x.wr i r 2) else x.wr i r 1):=rfl;have N:Hid (x.iy i r=(x.bp&&(x.wr i r 1).bp&&(x.wr i r 2).bp)):=rfl;have X:bT w1 F d n (x.wr i r 0):=h1;generalize x.wr i r=y at*
 go_loopw [10] (λc wr=>∃k:Nat,c= .int .i64 k/\k<=2/\Hid (∀j,j<k->(y j).bp=true)/\∃p,bT wr p d n (y k)/\aQ F w wr/\Hid (bC F p w)/\Row wr u (byteCells r).toArray 138/\Hid (u∉p)) (λc _=>2-(intOf c).toNat)
 case atStart=>exact⟨0,rfl,ϖ,λj G=>ϖ,F,X,f1.mono,bC.refl _ _,r5,n5⟩
 case round=>
  obtain⟨k,rfl,Z,L,p,A,q,T,B,M⟩:=hrel;clear h1 X f1 r5
  by_cases ae:k<2
  .go_wp2_with (with_reducible first|refine bA rfl ?_|refine aA rfl ?_|refine au 138 rfl ?_)
   refine bj rfl 148 rfl fO d9 ?_;intro w2 m l8 f2 r8;have R:=f2.row B;have W:=A.new f2;have Y:=q.trans f2;have ag:u≠m:=by have:=B.lt;omega
   have n8:m∉p:=λH=>by have:=A.lt _ H;omega
   have am:w.heap.size<=m:=by have:=q.size;omega
   clear B A q f2 l8;go_wp2_with fail;refine iq 5 rfl ?_;have g:aQ [] w2 w2.drew:=aQ.drew _ _;have t:=g.row R;have s:Row w2.drew m fO.cells 148:=g.row r8;have Ge:=W.new g;have J:=Y.trans g;generalize w2.drew=w3 at t s Ge J;clear R r8 W Y g
   refine cy 0 (some 13) rfl rfl (λ_ _ _ h=>h) rfl (v:= .slice (some ⟨m,0,none⟩) 64 64) (λ_=>by go_simp) ?_;refine cy 1 (some 14) rfl rfl (λ_ _ _ h=>h) rfl (v:= .int .i64 k) (λ_=>rfl) ?_
   refine cy 2 (some 15) rfl rfl (λ_ _ _ h=>h) rfl (v:= .int .i64 (k*64)) (λ_=>by go_simp;exact IntWalk.i64_in _ ϖ) ?_;simp only[Act.put,co,cq,ck]
   refine cy 3 (some 16) rfl rfl (λ_ _ _ h=>h) rfl (v:= .slice (some ⟨u,k*64,none⟩) (128-k*64) (128-k*64)) (λ_=>nO 138 5 128 _ _ rfl underlying138 ϰ u 0 rfl (k*64) rfl ϖ ϖ _ _ ϖ ϖ) ?_;simp only[Act.put,co,cq,ck]
   have f:Nat.min (128-k*64) 64=64:=Nat.min_eq_right ϖ;have a:((r.drop (k*64)).take 64).length=64:=by rw[ac8,ϐ3,HR.out];omega
   refine tL 4 (some 17) rfl rfl rfl _ _ (KH _ _ _ _ 5 rfl underlying85 ϰ m 0 _ _ rfl u (k*64) _ _ rfl _ _ s _ _ t (byteCells ((r.drop (k*64)).take 64)) ?_ ?_ ?_ (byteCells_one _)) ?_
   .rw[f];rw[fE,fD]
   .rw[f,ah,a]
   .rw[ah,a];decide
   rw[bL _ _ (by rw[ah,a];rfl)];refine nr ?_;have C:=s.setRow (byteCells ((r.drop (k*64)).take 64)).toArray;have f3:aQ [m] w3 (w3.setRow m (byteCells ((r.drop (k*64)).take 64)).toArray):=aQ.setRow _ _ _ _;have I:=f3.row t (by simpa using ag);have K:=Ge.yw f3 (by simpa using n8);have D:=J.trans f3 (by simp;omega)
   have VO:Hid (((r.drop (k*64)).take 64).length=64):=a;generalize V:(r.drop (k*64)).take 64=b at*;have S:Hid ((r.drop (k*64)).take 64=b):=V;generalize w3.setRow m (byteCells b).toArray=w4 at C I K D;clear s t Ge J f3 f a V;simp only[Act.put,co,cq,ck];go_wp2_with fail;refine iq 8 rfl ?_;have g:aQ [] w4 w4.drew:=aQ.drew _ _
   have B:=g.row I;have q8:=g.row C;have A:=K.new g;have q:=D.trans g;generalize w4.drew=w5 at B q8 A q;clear I C K D g;have hC:Lets (λw':Ω=>Row w' m (byteCells b).toArray 148):=⟨λw o h=>(aQ.alloc [] w o).row h,λw h=>h⟩
   refine cy 0 (some 18) rfl rfl (λ_ _ _ h=>h) rfl (v:= .pointer (some ⟨d,0,none⟩)) (λ_=>rfl) ?_;refine cy 1 (some 19) rfl rfl (λ_ _ _ h=>h) rfl (v:= .int .i64 i) (λ_=>rfl) ?_;simp only[Act.put,co,cq,ck]
   refine VK 2 _ hC q8 ϖ (some 20) rfl rfl ϰ ϰ ϰ rfl ϰ 115 #[.int .i64 i] (.int .i64 (1+2*i:Nat)) (λ_ _ _ h=>h) (λ_=>by go_simp) (λw' _=>pR i ϖ w') ?_;refine cy 3 (some 21) rfl rfl (λ_ _ _ h=>h) rfl (v:= .int .i64 k) (λ_=>rfl) ?_
   simp only[Act.put,co,cq,ck];have ab:((1+2*i:Nat):Int)<=400:=ϖ
   refine cy 4 (some 22) rfl rfl (λ_ _ _ h=>h) rfl (v:= .int .i64 (1+2*i+k:Nat)) (λ_=>tE _ _ _ _ _ rfl (.int .i64 (1+2*i:Nat)) (.int .i64 k) rfl rfl _ rfl (VM _ _ _ _ _ ϖ ϖ ϖ)) ?_;simp only[Act.put,co,cq,ck]
   refine tL 5 (some 23) rfl rfl rfl _ w5 (j4 148 _ rfl m 0 rfl dY 64 bE _ _ q8 (byteCells b) ?_ (by rw[ah];exact VO.out)) ?_
   .simp only[ϲ];exact θ (by rw[ah];exact ai8 VO.out)
   refine G7 6 ϖ (some 24) rfl rfl ϰ rfl 148 #[.pointer (some ⟨d,0,none⟩),.int .i64 (1+2*i+k:Nat),.agg (byteCells b).toArray] (by go_simp) _ (lX p d n (y k) (1+2*i+k:Nat) b w5 A (P.out k Z L.out) VO.out (ac.out k Z)) ?_;rintro e w6 ⟨rfl,F6,h6,f6,g6⟩;refine⟨_,rfl,?_⟩
   refine cy 7 (some 9) rfl rfl (λ_ _ _ h=>h) rfl (v:=cu (y k).bp) (λ_=>rfl) ?_;simp only[Act.put,co,cq,ck];refine nr ?_;have hy:(y k).write (1+2*i+k:Nat) b=y (k+1):=by rw[HW.out k ae,S.out]
   rw[hy] at h6;have aa:=f6.row B (λH=>M.out H);have tB:aQ F w w6:=q.trans f6 (λj G=>T.out j G);have Q:Hid (bC F F6 w):=λj G=>(g6 j G).elim (λh=>T.out j h) (λh=> .inr (by have:=q.size;omega))
   have ad:Hid (u∉F6):=λH=>(g6 _ H).elim M.out (λh=>by have:=B.lt;omega)
   clear hC B q8 A q hy f6 g6 T M S VO ab;cases O:(y k).bp with
   |true=>
    have l:Hid ((y k).bp=true):=O;simp only[cu,if_true];clear O;go_wp2
    go_roundw
    case rel=>
     refine⟨k+1,by go_num,ϖ,λj G=>?_,F6,h6,tB,Q,aa,ad⟩;rcases ϐ5 j k with h|h
     .exact L.out j h
     .obtain rfl:j=k:=ϖ
      exact l.out
    case measure=>simp[intOf];omega
   |false=>
    have l:Hid ((y k).bp=false):=O;simp only[cu];clear O;have z:x.iy i r=false/\x.lG i r=y (k+1):=by
     have ak:k=0\/k=1:=ϖ
     rcases ak with rfl|rfl
     .have h0:x.bp=false:=by rw[<-H0.out];exact l.out
      exact⟨by rw[N.out,h0];rfl,by rw[E.out,h0];rfl⟩
     .have h0:x.bp=true:=by rw[<-H0.out];exact L.out 0 ϖ
      exact⟨by rw[N.out,h0,l.out];rfl,by rw[E.out,h0,l.out];rfl⟩
    have U:Hid (x.iy i r=false/\x.lG i r=y (k+1)):=z;clear z;go_wp2;go_ret;exact⟨by rw[U.out.1];rfl,F6,by rw[U.out.2];exact h6,tB,Q.out⟩
  .obtain rfl:k=2:=ϖ
   have h0:x.bp=true:=by rw[<-H0.out];exact L.out 0 ϖ
   have U:Hid (x.iy i r=(y 2).bp/\x.lG i r=(y 2).flush):=by
    constructor
    .rw[N.out,h0,L.out 1 ϖ];rfl
    .rw[E.out,h0,L.out 1 ϖ];rfl
   clear h0;go_wp2_with fail;refine(mF p d n (y 2) wr A (P.out 2 ϖ L.out)).mono ?_;rintro e w9 ⟨rfl,F9,h9,f9,g9⟩;go_wp2;go_ret;exact⟨by rw[U.out.1];rfl,F9,by rw[U.out.2];exact h9,q.trans f9 (λj G=>T.out j G),T.out.trans g9 q.size⟩
def DS.CD {x:DS}{r:Nat}(h:x.Fit (r+1))(a:x.bp=true):x.flush.Fit r:=by
 have h2:=DS.kj (s:=0) (l:=[]) h a;unfold DS.write at h2;unfold DS.flush;rw[φ a] at h2⊢;exact⟨h2.lD,h2.lC,h2.lB,h2.lA⟩
def DS.Sf {x:DS}{i:Nat}{r:ϓ}(h:x.iy i r=true):x.lG i r=(x.wr i r 2).flush/\x.bp=true/\(x.wr i r 1).bp=true/\(x.wr i r 2).bp=true:=by
 unfold DS.iy at h;simp only[ε] at h;unfold DS.lG;rw[φ h.1.1,φ h.1.2];exact⟨rfl,h.1.1,h.1.2,h.2⟩
def DS.Eo {x:DS}{i:Nat}{r:ϓ}{m:Nat}(a:x.Fit (m+3))(h:x.iy i r=true):(x.lG i r).Fit m/\(x.lG i r).waiting=[]:=by
 have⟨e,h0,h1,h2⟩:=DS.Sf h;rw[e];refine⟨DS.CD (DS.Hj (m:=m+1) 2 (by rw[show m+1+2=m+3 by omega];exact a) λj b=>?_) h2,?_⟩
 .rcases ϐ5 j 1 with h|h
  .obtain rfl:j=0:=ϖ
   exact h0
  .obtain rfl:j=1:=ϖ
   exact h1
 .unfold DS.flush;rw[φ h2]
def DS.put (x:DS)(n s:Nat)(p:Ξ)(c:Ξ):DS×Φ:=
 if eg x n=-1 then(x,.int .i64 7)
 else if x.iy (eg x n).toNat (cI s p.data.toList c.data.toList) then
  ((
    x.lG (eg x n).toNat (cI s p.data.toList c.data.toList)).mark (eg x n) (cN x s p (taken x n)),
    cu ((x.lG (eg x n).toNat (cI s p.data.toList c.data.toList)).fT (eg x n) (cN x s p (taken x n))))
 else(x.lG (eg x n).toNat (cI s p.data.toList c.data.toList),.int .i64 3)
def DS.remove (x:DS)(n s:Nat)(p:Ξ):DS×Φ:=
 if cN x s p (taken x n)=-1 then(x,.int .i64 5)
 else(x.mark (-1) (cN x s p (taken x n)),cu (x.fT (-1) (cN x s p (taken x n))))
def tZ (n:Nat)(x:DS)(s:Int)(p:Ξ):-1<=cN x s p (taken x n)/\cN x s p (taken x n)<aK n:=by
 rcases oO x s p (taken x n) with a|⟨i,b,a,_⟩
 .rw[a];omega
 .rw[a];have:=nT x n i b;omega
def qA (F:ϑ)(d n:Nat)(x:DS)(s:Nat)(p:Ξ)(w:Ω)(h:bT w F d n x)(B:x.Fit 2)(u:x.waiting.length<60):
  Calls prog 78 #[.pointer (some ⟨d,0,none⟩),.agg (dH s p)] w λe w'=>e= .returned (x.remove n s p).2/\∃l,bT w' l d n (x.remove n s p).1/\aQ F w w'/\bC F l w:=by
 have G:aK n<=54:=by unfold aK;omega
 go_enter func78,ntmps78;go_wp2_with (with_reducible first|refine bA rfl ?_|refine au 103 rfl ?_);refine eQ rfl 103 _ rfl (.agg (dH s p)) rfl ?_;intro w1 r E b r3;have h1:=h.new b;go_wp2_with (with_reducible first|refine bA rfl ?_|refine au 103 rfl ?_)
 refine bZ rfl 103 _ rfl r 0 rfl fl 2 dN _ _ r3 [.int .i64 s,.string p] rfl rfl ?_;go_wp2_with fail;have⟨q,o,a,C⟩:=id h1;refine(tc d q n o x s p w1 a).mono ?_;rintro e g ⟨rfl,f2⟩;have hr:=tZ n x s p;have h2:=h1.new f2;have c:=b.trans f2
 have i:Hid (x.remove n s p=if cN x s p (taken x n)=-1 then(x,.int .i64 5) else(x.mark (-1) (cN x s p (taken x n)),cu (x.fT (-1) (cN x s p (taken x n))))):=rfl;generalize cN x s p (taken x n)=k at*;clear a b f2 r3 C h1;have f:aQ F w g:=c.mono;rcases Int.lt_or_le k 0 with A|A
 .obtain rfl:k=-1:=ϖ
  go_wp2;go_ret;rw[i.out];exact⟨rfl,F,h2,f,bC.refl _ _⟩
 .have t:(k==-1)=false:=by rw[ac3];omega
  go_wp2_with fail;refine(Cn F d n x (-1) k g h2 B u ϖ ϖ ϖ ϖ).mono ?_;rintro e H ⟨rfl,m,y,D,z⟩;go_wp2;go_ret;rw[i.out,ζ ϖ];exact⟨rfl,m,y,f.trans D (λj v=> .inl v),(bC.refl F w).trans z c.size⟩
def zr (F:ϑ)(d n:Nat)(x:DS)(s:Nat)(p c:Ξ)(w:Ω)(h:bT w F d n x)(r:x.Fit 5)(Z:x.waiting.length<55)(hs:s<256)(hp:p.size<256)(N:c.size<256):
  Calls prog 76 #[.pointer (some ⟨d,0,none⟩),.agg #[.int .i64 s,.string p,.string c]] w λe w'=>e= .returned (x.put n s p c).2/\∃I,bT w' I d n (x.put n s p c).1/\aQ F w w'/\bC F I w:=by
 have hn:aK n<=54:=by unfold aK;omega
 go_enter func76,ntmps76;go_wp2_with (with_reducible first|refine bA rfl ?_|refine au 103 rfl ?_|refine au 107 rfl ?_);refine eQ rfl 107 _ rfl (.agg #[.int .i64 s,.string p,.string c]) rfl ?_;intro w1 G l3 v r3;have h1:=h.new v
 go_wp2_with (with_reducible first|refine bA rfl ?_|refine au 103 rfl ?_|refine au 107 rfl ?_);refine(DV F d n x w1 h1).mono ?_;rintro e W ⟨rfl,f2⟩;have h2:=h1.new f2;have f:=f2.row r3;have u:=v.trans f2;clear h1 v f2 r3;have l:Hid (x.put n s p c=if eg x n=-1 then(x,.int .i64 7)
 else if x.iy (eg x n).toNat (cI s p.data.toList c.data.toList) then
  ((
    x.lG (eg x n).toNat (cI s p.data.toList c.data.toList)).mark (eg x n) (cN x s p (taken x n)),
    cu ((x.lG (eg x n).toNat (cI s p.data.toList c.data.toList)).fT (eg x n) (cN x s p (taken x n))))
 else(x.lG (eg x n).toNat (cI s p.data.toList c.data.toList),.int .i64 3)):=rfl
 have o:eg x n=-1\/∃i:Nat,i<aK n/\eg x n=i:=by
  rcases qN (x.read 0) (aK n) (aK n) 0 with o|⟨i,B,o,_⟩
  .exact .inl o
  .exact .inr ⟨i,B,o⟩
 generalize eg x n=fs at*;rcases o with rfl|⟨i,B,rfl⟩
 .go_wp2
  go_ret;rw[l.out];exact⟨rfl,F,h2,u.mono,bC.refl _ _⟩
 .have X:((i:Int)==-1)=false:=by rw[ac3];omega
  simp only[ϒ4] at l;go_wp2_with (with_reducible first|refine au 103 rfl ?_|refine au 107 rfl ?_);refine bZ rfl 103 _ rfl G 0 rfl fl 2 dN _ _ f [.int .i64 s,.string p] rfl rfl ?_;go_wp2_with (with_reducible first|refine au 103 rfl ?_|refine au 107 rfl ?_);have⟨Q,P,q,hF⟩:=id h2
  refine(tc d Q n P x s p W q).mono ?_;rintro e w3 ⟨rfl,t⟩;have hr:=tZ n x s p;have h3:=h2.new t;have A:=t.row f;have M:=u.trans t;generalize cN x s p (taken x n)=k at*;clear q hF h2 f u t;go_wp2_with (with_reducible first|refine au 103 rfl ?_|refine au 107 rfl ?_)
  refine bZ rfl 107 _ rfl G 0 rfl kZ 3 eZ _ _ A [.int .i64 s,.string p,.string c] rfl rfl ?_;go_wp2_with fail;refine(Ac s p c w3 hs hp N).mono ?_;rintro e O ⟨rfl,K⟩;have U:=h3.new K;have D:=(M.trans K).mono (T:=F) ϛ;generalize J:cI s p.data.toList c.data.toList=R at*
  have C:R.length=128:=by rw[<-J];exact nN _ _ _
  clear J;go_wp2_with fail;refine(vE F d n x i R O U ⟨r.lD,by have:=r.lC;omega,r.lB,r.lA⟩ Z B C).mono ?_;rintro e S ⟨rfl,H,E,L,g5⟩;have z:=D.trans L (λj hj=> .inl hj);have g:=(bC.refl F w).trans g5 D.size;cases a:x.iy i R with
  |true=>
   rw[a] at l;have b:=DS.Eo (m:=2) r a;generalize x.lG i R=y at*;clear a;simp only[cu,if_true];go_wp2_with fail;refine(Cn H d n y i k S E b.1 (by rw[b.2];decide) ϖ ϖ ϖ ϖ).mono ?_;rintro e w6 ⟨rfl,V,h6,f6,Y⟩;go_wp2;go_ret;rw[l.out,ζ ϖ];exact⟨rfl,V,h6,z.trans f6 g,g.trans Y z.size⟩
  |false=>
   rw[a] at l;generalize x.lG i R=y at*;clear a;simp only[cu];go_wp2;go_ret;rw[l.out,ζ ϖ];exact⟨rfl,H,E,z,g⟩
def marks (n:Nat)(l:ϑ):Array Bool:=((range n).map λj=>l.contains j).toArray
def vX (n k:Nat)(l:ϑ)(h:k<n):(marks n l).setIfInBounds k true=marks n (k::l):=by
 apply ϑ9
 intro i;simp only[marks,Array.getElem?_setIfInBounds,ab3,ah1,List.length_range,List.getElem?_toArray,List.getElem?_map]
 by_cases a:k=i
 .subst a;simp[h]
 .simp only[a,if_false]
  by_cases b:i<n
  .simp[List.getElem?_range b,Ne.symm a]
  .rw[ai5 (by simp;omega)];rfl
def AK (P:ω)(ops:Ϙ)(Q:ϔ)(n m:Nat)(l:ϑ)(a:Act)(w:Ω):Prop:=wpAny P .any ops Q m (marks n l) a w
section
variable {P:ω}{ops:Array Oper}{Q:Exit->Act->Ω->Prop}
def vu {n:Nat}{a:Act}{w:Ω}(h:AK P ops Q n n [] a w):At P ops Q n 0 a w:=by
 unfold At;have e:upto n 0=marks n []:=by simp[upto,marks]
 rw[e];exact h
def fh {n m:Nat}{l:ϑ}(k:Nat){b:Oper}{v:Φ}{a:Act}{w:Ω}(d:Ϩ)(o:ops[k]? =some b)(hd:b.dst=d)(f:∀c a w,Q (.panic c) (a.put b.dst v) w->Q (.panic c) a w)(hg:b.guard=none)(i:∀w,(execOp a.eval b).run P w= .ok (.value v) w)(h:AK P ops Q n m (k::l) (a.put d v) w)(g:k<n:=by omega)(j:Region.noSelect ops=true:=by kernel_rfl)(e:Region.free .any ops (marks n l) k=true:=by kernel_rfl)(hr:(ready .any ops (marks n l)).contains k=true:=by kernel_rfl):AK P ops Q n (m+1) l a w:=
 Hb o j e hr f hg i (by rw[vX n k l g,hd];exact h)
def RF {n m:Nat}{l:ϑ}(k:Nat){d:Oper}{a:Act}{w:Ω}(f:k<n)(b:Ϩ)(e:ops[k]? =some d)(hd:d.dst=b)(hr:ready .any ops (marks n l)=[k])(hg:d.guard=none)(v:Φ)(w1:Ω)(c:(execOp a.eval d).run P w= .ok (.value v) w1)(h:AK P ops Q n m (k::l) (a.put b v) w1):AK P ops Q n (m+1) l a w:=
 KS hr e hg v w1 c (by rw[vX n k l f,hd];exact h)
def vr {n m:Nat}{l:ϑ}{a:Act}{w:Ω}(h:Q .normal a w)(hr:ready .any ops (marks n l)=[]:=by kernel_rfl):AK P ops Q n m l a w:=wpAny_done hr h _
end
def PK (v:Φ)(c m:Nat)(d:0<c):madeCells (replicate c v).toArray m=(replicate m v).toArray:=by
 apply ϑ9
 intro i;have a:∀j,j<c->((replicate c v).toArray)[j]! =v:=λj b=>by
  rw[getElem!_pos _ j (by simpa using b)];simp
 by_cases h:i<m
 .simp only[madeCells,ai0,Array.getElem?_range,h,if_true,ξ,ab3,Ϸ,List.getElem?_toArray,List.getElem?_replicate]
  rw[a _ (Nat.mod_lt _ d)]
 .simp[madeCells,h]
def Mj (m:Nat):madeCells fO.cells m=(byteCells (replicate m 0)).toArray:=by
 have e:fO.cells=(replicate 64 (Value.int .u8 ((0:Γ).toNat))).toArray:=by
  show(byteCells (replicate 64 0)).toArray=_;unfold byteCells;rw[List.map_replicate]
 rw[e,PK _ _ _ (by decide)];unfold byteCells;rw[List.map_replicate]
def DS.fresh (l:ϓ):DS:=⟨l,[],0,false,0,0,false⟩
def laid (l:ϓ)(n k:Nat):List Γ:=l.take (k*64)++replicate ((n-k)*64) 0
def FO (l:ϓ)(n k:Nat)(a:l.length=64*n)(b:k<=n):(laid l n k).length=64*n:=by
 simp[laid];omega
def EK (l:ϓ)(n k:Nat)(a:l.length=64*n)(b:k<n):splice (laid l n k) (k*64) ((l.drop (k*64)).take 64)=laid l n (k+1):=by
 unfold splice laid;have h1:(l.take (k*64)).length=k*64:=by rw[ac8];omega
 have h2:((l.drop (k*64)).take 64).length=64:=by rw[ac8,ϐ3];omega
 rw[ϔ5 ϖ,θ (ai8 h1),h2,List.drop_append,ϑ2 (show(l.take (k*64)).length<=k*64+64 by omega),h1,List.drop_replicate,show(k+1)*64=k*64+64 by omega,List.take_add];simp only[ϓ8,List.append_assoc];rw[show(n-k)*64-(k*64+64-k*64)=(n-(k+1))*64 by omega]
def FY:(prog.info? 148).map (λi=>(i.size,i.bytes,i.zero))=some (64,64,some fO):=ϰ
def Jv (a n:Nat):prog.built 134 [(0,.slice (some ⟨a,0,none⟩) n n)]=some (iX a n (.slice none 0 0) (DS.fresh [])):=ϰ
def vG:prog.underlying 129=some (.slice 148):=ϰ
def bM {P:ω}{ops:Ϙ}{Q:ϔ}{a:Act}{w:Ω}{rest:ϧ}{o:Oper}(t:η){b:Array (Nat×ab7)}(_:o.op= .build t b)(h:aj (wpList P ops Q (o::rest) a w)):wpList P ops Q (o::rest) a w:=h
def BN {P:ω}{ops:Ϙ}{Q:ϔ}{a:Act}{w:Ω}{rest:ϧ}{o:Oper}(t:η){x y:ab7}(_:o.op= .makeSlice t x y)(h:aj (wpList P ops Q (o::rest) a w)):wpList P ops Q (o::rest) a w:=h
def Sk {P:ω}{ops:Ϙ}{Q:ϔ}{a:Act}{w:Ω}{rest:ϧ}{o:Oper}(hg:o.guard=none)(t e:η)(x y:ab7)(k:o.op= .makeSlice t x y)(j:P.underlying t=some (.slice e))(f d:Nat)(z:Φ)(g:(P.info? e).map (λi=>(i.size,i.bytes,i.zero))=some (f,d,some z))(n:Nat)(m:a.eval x= .int .i64 n)(p:a.eval y= .int .i64 n)(q:d*n<=281474976710656)(r:n<=9223372036854775807)(h:∀(w1:Ω)(b:Nat),w.heap.size<=b->aQ [] w w1->Row w1 b (madeCells z.cells (n*f)) e->wpList P ops Q rest (a.put o.dst (.slice (some ⟨b,0,none⟩) n n)) w1):wpList P ops Q (o::rest) a w:=by
 refine cT hg _ (w.alloc (.cells (madeCells z.cells (n*f)) e)) ?_ (h _ _ (ι _) (aQ.alloc ..) (Row.new ..));cases c:P.info? e with
 |none=>simp[c] at g
 |some i=>
  simp only[c,ξ,af5,ai1] at g;have⟨h1,h2,l⟩:=g;subst h1;subst h2;have:=run_make (P:=P) w t e i z j c l .i64 .i64 n n ϖ (Int.le_refl _) (by rw[<-Int.natCast_mul];omega) ϖ;simp only[ϒ4] at this;simp[execOp,k,m,p,this]
def Gd (s:Ξ)(n:Nat)(w:Ω)(I:s.size=64*n)(A:16<=n)(N:n<=400):
  Calls prog 104 #[.string s] w λe w'=>∃d F,e= .returned (.pointer (some ⟨d,0,none⟩))/\bT w' F d n (DS.fresh s.data.toList)/\aQ [] w w'/\bC [] F w:=by
 have b:Hid (s.data.toList.length=64*n):=by show _=_;rw[af9];exact I
 have O:(s.size:Int).tdiv 64=n:=by rw[I];push_cast;exact Int.mul_tdiv_cancel_left _ (by decide)
 go_enter func104,ntmps104;go_wp2_with (with_reducible refine BN 129 rfl ?_);refine Sk rfl 129 148 _ _ rfl vG 64 64 fO FY n rfl rfl ϖ ϖ ?_;intro w1 a l1 x r1;rw[Mj] at r1;have B:Hid (laid s.data.toList n 0=replicate (n*64) 0):=by show _=_;simp[laid]
 rw[<-B.out] at r1;go_wp2_with (with_reducible first|refine BN 129 rfl ?_|refine bM 134 rfl ?_|refine bA rfl ?_);refine cT rfl (.agg (iX a n (.slice none 0 0) (DS.fresh []))) w1 (iT _ _ rfl _ (Jv a n)) ?_;go_wp2_with (with_reducible refine bA rfl ?_)
 refine eQ rfl 134 _ rfl (.agg (iX a n (.slice none 0 0) (DS.fresh []))) rfl ?_;intro L d l2 f2 r2;have C:Row L d (iX a n (.slice none 0 0) (DS.fresh [])) 134:=r2;have q1:=f2.row r1;have G:=x.trans f2;have m:d≠a:=by have:=r1.lt;omega
 have E:w.heap.size<=d:=by have:=x.size;omega
 clear r1 r2 x f2 l2;have c0:=(j7 C).1;go_wp2_with fail;clear c0
 go_loopw [16] (λc wr=>∃k:Nat,c= .int .i64 k/\k<=n/\aQ [] w wr/\Row wr d (iX a n (.slice none 0 0) (DS.fresh [])) 134/\Row wr a (byteCells (laid s.data.toList n k)).toArray 148) (λc _=>n-(intOf c).toNat)
 case atStart=>exact⟨0,rfl,ϖ,G,C,q1⟩
 case round=>
  obtain⟨k,rfl,M,f,u,r⟩:=hrel;clear q1 C G
  by_cases y:k<n
  .go_wp2_with fail
   refine iq 12 rfl ?_;have p:aQ [] wr wr.drew:=aQ.drew ..;have t:=p.row u;have q:=p.row r;have f:=f.trans p;generalize wr.drew=g at t q f;clear u r p;refine vu ?_
   refine fh 0 (some 19) rfl rfl (λ_ _ _ h=>h) rfl (v:= .pointer (some ⟨d,0,none⟩)) (λ_=>rfl) ?_;refine fh 1 (some 20) rfl rfl (λ_ _ _ h=>h) rfl (v:= .pointer (some ⟨d,0,none⟩)) (λ_=>by go_simp) ?_
   refine fh 2 (some 21) rfl rfl (λ_ _ _ h=>h) rfl (v:= .pointer (some ⟨d,0,none⟩)) (λ_=>by go_simp) ?_;refine fh 4 (some 23) rfl rfl (λ_ _ _ h=>h) rfl (v:= .int .i64 k) (λ_=>rfl) ?_
   refine fh 7 (some 26) rfl rfl (λ_ _ _ h=>h) rfl (v:= .string s) (λ_=>rfl) ?_;refine fh 8 (some 27) rfl rfl (λ_ _ _ h=>h) rfl (v:= .int .i64 k) (λ_=>rfl) ?_;simp only[Act.put,co,cq,ck]
   refine fh 9 (some 28) rfl rfl (λ_ _ _ h=>h) rfl (v:= .int .i64 (k*64)) (λ_=>by go_simp;exact IntWalk.i64_in _ ϖ) ?_;simp only[Act.put,co,cq,ck]
   refine fh 10 (some 29) rfl rfl (λ_ _ _ h=>h) rfl (v:= .string (s.extract (k*64) s.size)) (λ_=>?_) ?_
   .have e:((k:Int)*64).toNat=k*64:=ϖ
    go_simp;intro h;exact absurd (h ϖ) ϖ
   simp only[Act.put,co,cq,ck];have c0:=(j7 t).1;refine RF 3 ϖ (some 22) rfl rfl ϰ rfl (.slice (some ⟨a,0,none⟩) n n) g (by go_simp) ?_;clear c0;refine fh 5 (some 24) rfl rfl (λ_ _ _ h=>h) rfl (v:= .pointer (some ⟨a,k*64,none⟩)) (λ_=>by go_simp) ?_
   refine fh 6 (some 25) rfl rfl (λ_ _ _ h=>h) rfl (v:= .slice (some ⟨a,k*64,none⟩) 64 64) (λ_=>by go_simp) ?_;simp only[Act.put,co,cq,ck];have j:=FO s.data.toList n k b.out M
   refine RF 11 ϖ (some 30) rfl rfl ϰ rfl _ _ (nj _ _ _ _ 5 rfl underlying85 a (k*64) 64 64 rfl (s.extract (k*64) s.size) rfl _ _ q ?_) ?_
   .simp only[ab3,ah,j]
    have:Nat.min (s.extract (k*64) s.size).size 64<=64:=Nat.min_le_right ..;omega
   have o:(s.extract (k*64) s.size).data.toList.take 64=(s.data.toList.drop (k*64)).take 64:=by
    have z:s.data.toList.length=s.size:=by rw[af9];rfl
    rw[ByteArray.data_extract,Array.toList_extract,List.extract_eq_take_drop,List.take_take,<-z,<-List.length_drop];rw[List.take_eq_take_iff];omega
   rw[o,m6,EK _ _ _ b.out y];refine vr ?_;have l:=q.setRow (byteCells (laid s.data.toList n (k+1))).toArray;have D:aQ [a] g (g.setRow a (byteCells (laid s.data.toList n (k+1))).toArray):=aQ.setRow ..;have J:=D.row t (by simpa using m)
   have H:aQ [] w (g.setRow a (byteCells (laid s.data.toList n (k+1))).toArray):=f.trans D (by simp;exact l1);generalize g.setRow a (byteCells (laid s.data.toList n (k+1))).toArray=P at l J H;clear q t f D o j;simp only[Act.put,co,cq,ck];go_wp2
   go_roundw
   case rel=>exact⟨k+1,by go_num,ϖ,H,J,l⟩
   case measure=>simp[intOf];omega
  .obtain rfl:k=n:=ϖ
   go_wp2;go_ret;have K:laid s.data.toList k k=s.data.toList:=by
    unfold laid;rw[θ (by rw[b.out];omega)];simp
   rw[K] at r;refine⟨d,[d,a],rfl,⟨a,.slice none 0 0,{row:=u,last:=r,len:=b.out,own:=World.ownsRow_nil ..,eY:=by simp[DS.fresh],within:=by simp[DS.fresh],lo:=A,hi:=N,few:=by simp[DS.fresh],ne:=m,ne1:=by simp[Value.ownBlock],Eh:=by simp[Value.ownBlock],nil:=λ_=>rfl},by simp[Value.ownBlock]⟩,f,λi hi=>?_⟩;simp only[ac1,al7,or_false] at hi
   rcases hi with rfl|rfl
   .exact .inr E
   .exact .inr l1
def wj:(prog.info? 5).map (λi=>(i.size,i.bytes,i.zero))=some (1,1,some (.int .u8 0)):=ϰ
def rl:prog.underlying 85=some (.slice 5):=underlying85
def t7:(prog.info? 146).map (·.size)=some 2:=ϰ
def DG:liesAt prog prog.depth 146 (2/prog.cellsOf 146) 0 146 1=true:=ϰ
def qU (b:Nat)(w:Ω)(h0:w.cell? ⟨b,0,none⟩=some (.pointer (some ⟨b,0,none⟩))):
  Calls prog 129 #[.pointer (some ⟨b,0,none⟩)] w λe w'=>e= .returned (.tuple #[])/\w'=w:=by
 have⟨j,a,_⟩:=χ.1 t7;go_enter func129,ntmps129;go_wp2_with fail;rw[Lib.run_neq_ptr_same w _ underlying144 a];go_wp2_with fail
 go_end0
 exact⟨rfl,rfl⟩
def pT (b:Nat)(w:Ω)(h0:w.cell? ⟨b,0,none⟩=some (.pointer none))(a:w.shape? b=some (146,2))(f:w.frozen? ⟨b,0,none⟩=false):
  Calls prog 129 #[.pointer (some ⟨b,0,none⟩)] w λe w'=>e= .returned (.tuple #[])/\w'=w.setCell ⟨b,0,none⟩ (.pointer (some ⟨b,0,none⟩)):=by
 have⟨j,d,c⟩:=χ.1 t7;go_enter func129,ntmps129;go_wp2_with fail;rw[Lib.run_to_unsafe w ⟨b,0,none⟩ underlying144 underlying247 d (by rw[c];decide) a (Nat.zero_lt_succ 1)];simp only[Result.andThen];rw[Oper.upon_value];go_wp2_with fail
 rw[run_callFunc_extern func161 ϰ ϰ ϰ (e:=Extern.AbiNoEscape.same) ϰ];rw[Lib.run_noEscape];simp only[Result.andThen];rw[Oper.upon_value];go_wp2_with fail;rw[Lib.run_from_unsafe w ⟨b,0,none⟩ underlying247 underlying144 d a DG];simp only[Result.andThen];rw[Oper.upon_value];go_wp2_with fail
 go_end0
 exact⟨rfl,rfl⟩
def Js (B b:Nat)(bs:ϡ)(ad:Addr)(m c:Nat)(a:ϡ)(w:Ω)(h:IsBuilder 146 5 B b bs w)(L:a.length=m)(t:∀j u,a[j]? =some u->w.cell? (ad.add j)=some u)(D:ad.block≠b)(h1:∀u∈a,u.oneCell'=true)(G:bs.length+m<=1000000)(K:B<=w.heap.size):
  Calls prog 86 #[.pointer (some ⟨b,0,none⟩),.slice (some ad) m c] w λe w'=>e= .returned (.tuple #[.int .i64 m,.nilIface])/\BuilderAt 146 5 B b (.pointer (some ⟨b,0,none⟩)) (bs++a) w'/\Below B w w':=by
 obtain⟨R,y,z⟩:∃i,prog.info? 5=some i/\i.size=1/\i.bytes=1/\i.zero=some (.int .u8 0):=by
  have:=wj;cases y:prog.info? 5 with
  |none=>simp[y] at this
  |some i=>simp only[y,ξ,af5,ai1] at this;exact⟨i,rfl,this⟩
 have N:Calls prog 129 #[.pointer (some ⟨b,0,none⟩)] w λe w'=>e= .returned (.tuple #[])/\BuilderAt 146 5 B b (.pointer (some ⟨b,0,none⟩)) bs w'/\Below B w w'/\∀p:Addr,p.block≠b->w'.cell? p=w.cell? p:=by
  rcases h with h|h
  .refine(pT b w h.cell0 h.shape h.frozen0).mono ?_
   rintro e w' ⟨rfl,rfl⟩;exact⟨rfl,h.used _,(Below.refl B w).setCell (p:=⟨b,0,none⟩) h.1 _,λp Q=>World.cell?_setCell_other _ _ _ _ (λe=>Q (by rw[<-e]))⟩
  .refine(qU b w h.cell0).mono ?_
   rintro e w' ⟨rfl,rfl⟩;exact⟨rfl,h,Below.refl B _,λ_ _=>rfl⟩
 go_enter func86,ntmps86;go_wp2_with fail;refine N.mono ?_;rintro e w1 ⟨rfl,E,s,r⟩;have⟨I,v,l,q,C⟩:=E;have c0:w1.cell? ⟨b,0,none⟩=some (.pointer (some ⟨b,0,none⟩)):=by rw[Lib.cell_of_heap l];rfl
 have c1:w1.cell? ⟨b,1,none⟩=some v:=by rw[Lib.cell_of_heap l];rfl
 have n:∀j u,a[j]? =some u->w1.cell? (ad.add j)=some u:=λj u O=>by rw[r (ad.add j) (by unfold Addr.add;split<;>exact D)];exact t j u O
 go_wp2_with (at_builtin;refine wpList_append_own _ rfl _ _ 85 rfl B 5 R (.int .u8 0) 1 1 rl y z.2.2 z.1 z.2.1 rfl (by decide) _ _ _ rfl q ad m c a rfl ϖ n h1 ?c3 ?c4 ?c5 ?_)
 case c3=>unfold maxLen;omega
 case c4=>omega
 case c5=>have:=s.size;omega
 intro M x f d _;have A:b<w1.heap.size:=by
  rcases ϐ5 b w1.heap.size with F|F
  .exact F
  .simp[Array.getElem?_eq_none F] at l
 have o:x.heap[b]? =some (.cells #[.pointer (some ⟨b,0,none⟩),v] 146 (0,0)):=by
  rw[d.block b A (λe=>C e.symm)];exact l
 have S:x.cell? ⟨b,0,none⟩=some (.pointer (some ⟨b,0,none⟩)):=by rw[Lib.cell_of_heap o];rfl
 have d1:x.cell? ⟨b,1,none⟩=some v:=by rw[Lib.cell_of_heap o];rfl
 have U:x.frozen? ⟨b,1,none⟩=false:=Lib.frozen_of_heap o 1;obtain⟨J,H,cap,rfl⟩:∃J H cap,M= .slice J H cap:=by
  rcases f.2 with⟨hv,_⟩|⟨g,cap,cur,hv,_⟩
  .exact⟨_,_,_,hv⟩
  .exact⟨_,_,_,hv⟩
 go_wp2
 go_ret2
 refine⟨rfl,?_,?_⟩
 .exact Lib.BuilderAt.put (T:=146) (e:=5) I o (bs':=bs++a) (by simpa [L] using f) (by decide)
 .exact(s.grown d (by have:=s.size;omega) (λk P=>(q.lt k P).1)).setCell (p:=⟨b,1,none⟩) I _
def Km {T e:η}{B b:Nat}{bs:ϡ}{w w':Ω}(h:IsBuilder T e B b bs w)(f:aQ [] w w'):IsBuilder T e B b bs w':=by
 have g:∀p,BuilderAt T e B b p bs w->BuilderAt T e B b p bs w':=λp c=>by
  have a:=c.lt;have⟨i,v,k,d,j⟩:=c;exact⟨i,v,by rw[f.block b a ϛ];exact k,f.owns d,j⟩
 exact h.imp (g _) (g _)
def lT {w w1 b:Ω}(f:aQ [] w w1)(h:Below w.heap.size w1 b):aQ [] w b:=
 ⟨h.os.trans f.os,h.tape.trans f.tape,h.output.trans f.output,ac7 f.size h.size,λk a _=>(h.block k a).trans (f.block k a ϛ)⟩
def tQ:(prog.info? 146).map (·.zero)=some (some (.agg #[.pointer none,.slice none 0 0])):=ϰ
def NB (d E n:Nat)(L:Φ)(x:DS)(w:Ω)(h:bG w d E n L x):
  Calls prog 53 #[.pointer (some ⟨d,0,none⟩)] w λe w'=>e= .returned (.string ⟨x.aB.toArray⟩)/\aQ [] w w':=by
 have G:=h.len;have U:=h.hi;go_enter func53,ntmps53;go_wp2_with (with_reducible refine aA rfl ?_);refine bj rfl 146 rfl _ tQ ?_;intro w1 f M r r3;have h1:=h.new r;have c0:=(j7 h1.row).1;have p:IsBuilder 146 5 w.heap.size f (byteCells (x.aB.take (64*0))) w1:=
  .inl ⟨M,.slice none 0 0,r3,by simpa [byteCells] using World.ownsRow_nil _ _ _ _,by simp[Value.ownBlock]⟩
 go_wp2_with fail;clear c0 r3
 go_loopw [11] (λc wr=>∃k:Nat,c= .int .i64 k/\k<=n/\aQ [] w wr/\IsBuilder 146 5 w.heap.size f (byteCells (x.aB.take (64*k))) wr) (λc _=>n-(intOf c).toNat)
 case atStart=>exact⟨0,rfl,ϖ,r,p⟩
 case round=>
  obtain⟨k,rfl,T,l,b⟩:=hrel;clear h1 r p
  by_cases O:k<n
  .have H:=h.new l
   have a:((x.aB.drop (k*64)).take 64).length=64:=by rw[ac8,ϐ3];omega
   have o:((byteCells x.aB).toArray.toList.drop (k*64)).take 64=byteCells ((x.aB.drop (k*64)).take 64):=by
    rw[List.toList_toArray,fE,fD]
   go_wp2_with (with_reducible first|refine aA rfl ?_|refine au 148 rfl ?_|refine ai 148 rfl ?_);refine bZ rfl 148 _ rfl E (k*64) rfl dY 64 bE _ _ H.last (byteCells ((x.aB.drop (k*64)).take 64)) o (by rw[ah];exact a) ?_;have K:Hid (x.aB.take (64*(k+1))=x.aB.take (64*k)++(x.aB.drop (k*64)).take 64):=by
    show _=_;rw[show 64*(k+1)=64*k+64 by omega,List.take_add,Nat.mul_comm k 64]
   generalize (x.aB.drop (k*64)).take 64=g at*;have Q:(byteCells (x.aB.take (64*k))).length<=30000:=by rw[ah,ac8];omega
   clear o H;go_wp2_with (with_reducible first|refine aA rfl ?_|refine ai 148 rfl ?_);refine bj rfl 148 rfl fO d9 ?_;intro S v P J D;go_wp2_with (with_reducible first|refine aA rfl ?_|refine ai 148 rfl ?_);refine bQ rfl 148 _ _ rfl _ 0 rfl _ rfl 64 bE ?_ ?_ _ _ D ?_ ?_
   .simp only[ab3,ah];exact a
   .exact byteCells_one _
   .decide
   intro s C B;rw[bL _ _ (by rw[ah,a];rfl)] at B;have t:aQ [] wr s:=J.trans C (by simpa using P);have y:=l.trans t;have m:=Km b t;have I:Row s v (byteCells g).toArray 148:=B;have z:v≠f:=by
    have:f<wr.heap.size:=by
     rcases b with b|b<;>exact b.lt
    omega
   clear D B J C t l b;go_wp2_with fail;refine(Js w.heap.size f _ ⟨v,0,none⟩ 64 64 (byteCells g) s m (by rw[ah];exact a) ?_ z (byteCells_one _) ϖ y.size).mono ?_
   .intro j u R
    rw[Addr.add_mid,I.cell];simpa using R
   rintro e F ⟨rfl,i,q⟩;have A:=lT y q;have N:IsBuilder 146 5 w.heap.size f (byteCells (x.aB.take (64*(k+1)))) F:=by
    rw[K.out,byteCells_append];exact .inr i
   clear i q m I y Q;go_wp2
   go_roundw
   case rel=>exact⟨k+1,by go_num,ϖ,A,N⟩
   case measure=>simp[intOf];omega
  .obtain rfl:k=n:=ϖ
   rw[θ ϖ] at b;go_wp2_with fail;refine(Tryz.Builder_String_any w.heap.size f x.aB wr b l.size).mono ?_;rintro e F ⟨rfl,q⟩;have A:=lT l q;go_wp2;go_ret;exact⟨rfl,A⟩
def ko {P:ω}{ops:Ϙ}{Q:ϔ}{a:Act}{w:Ω}{rest:ϧ}{o:Oper}{xs:Array ab7}{b:ϫ}(_:o.op= .call {callee:= .builtin .copy,args:=xs,argTypes:=b})(h:aj (wpList P ops Q (o::rest) a w)):wpList P ops Q (o::rest) a w:=h
def nK:List Γ:=[99,111,110,99,111,114,100,49]
def jl (n:Nat):List Γ:=nK++[UInt8.ofNat (n/256),UInt8.ofNat n]++replicate 54 0
def lK (n:Nat):(jl n).length=64:=by simp[jl,nK]
def Im (n:Nat)(a:n<=400):((byteCells (splice (replicate 64 0) 0 nK)).toArray.setIfInBounds 8 (.int .u8 ((n:Int)/256))).setIfInBounds 9 (.int .u8 ((n:Int)%256))=(byteCells (jl n)).toArray:=by
 have e1:((n:Int)/256)=((UInt8.ofNat (n/256)).toNat:Nat):=by
  rw[UInt8.toNat_ofNat'];omega
 have e2:((n:Int)%256)=((UInt8.ofNat n).toNat:Nat):=by
  rw[UInt8.toNat_ofNat'];omega
 rw[e1,e2];rfl
def sR (n:Nat)(w:Ω)(B:n<=400):
  Calls prog 112 #[.int .i64 n] w λe w'=>e= .returned (.agg (byteCells (jl n)).toArray)/\aQ [] w w':=by
 go_enter func112,ntmps112;go_wp2_with (with_reducible first|refine aA rfl ?_|refine ko rfl ?_|refine au 148 rfl ?_|refine ai 148 rfl ?_|refine ai 5 rfl ?_);refine bj rfl 148 rfl fO d9 ?_;intro w1 b2 l2 k r2
 go_wp2_with (with_reducible first|refine aA rfl ?_|refine ko rfl ?_|refine au 148 rfl ?_|refine ai 148 rfl ?_|refine ai 5 rfl ?_);refine bj rfl 148 rfl fO d9 ?_;intro h a z f2 r3;have y:=f2.row r2;have s:=k.trans f2;have c:b2≠a:=by have:=r2.lt;omega
 have m:w.heap.size<=a:=by have:=k.size;omega
 have b:Row h a (byteCells (replicate 64 0)).toArray 148:=r3;clear r2 r3 k f2 z;go_wp2_with (with_reducible first|refine aA rfl ?_|refine ko rfl ?_|refine au 148 rfl ?_|refine ai 148 rfl ?_|refine ai 5 rfl ?_)
 refine cT rfl _ _ (nj _ _ _ _ 5 rfl underlying85 a 0 64 64 rfl ⟨#[99,111,110,99,111,114,100,49]⟩ rfl _ _ b (by simp only[ab3,ah,Ϸ];decide)) ?_;rw[show((⟨#[99,111,110,99,111,114,100,49]⟩:Ξ).data.toList.take 64)=nK from rfl,m6]
 have p:=b.setRow (byteCells (splice (replicate 64 0) 0 nK)).toArray;have o:aQ [a] h (h.setRow a (byteCells (splice (replicate 64 0) 0 nK)).toArray):=aQ.setRow ..;have d:=o.row y (by simpa using c);have j:=s.trans o (by simpa using m);generalize h.setRow a (byteCells (splice (replicate 64 0) 0 nK)).toArray=I at p d j
 clear y b o s;go_wp2_with (with_reducible first|refine aA rfl ?_|refine ko rfl ?_|refine au 148 rfl ?_|refine ai 148 rfl ?_|refine ai 5 rfl ?_);refine ir rfl 5 _ _ rfl a 8 rfl .u8 _ rfl _ _ p (by simp only[ab3,ah];rw[length_splice _ _ _ (by decide)];decide) ?_;intro G q t
 have f:=q.row d (by simpa using c);have u:=j.trans q (by simpa using m);clear p d j q;go_wp2_with (with_reducible first|refine aA rfl ?_|refine ko rfl ?_|refine au 148 rfl ?_|refine ai 148 rfl ?_|refine ai 5 rfl ?_)
 refine ir rfl 5 _ _ rfl a 9 rfl .u8 _ rfl _ _ t (by simp only[ϑ5,ab3,ah];rw[length_splice _ _ _ (by decide)];decide) ?_;intro H i v;have l:=i.row f (by simpa using c);have D:=u.trans i (by simpa using m);clear t f u i;rw[Im n B] at v;have g:=lK n
 generalize x:jl n=R at*;have HR:Hid (jl n=R):=x;clear x;go_wp2_with (with_reducible first|refine aA rfl ?_|refine ko rfl ?_|refine au 148 rfl ?_|refine ai 148 rfl ?_|refine ai 5 rfl ?_)
 refine bZ rfl 148 _ rfl a 0 rfl dY 64 bE _ _ v (byteCells R) (by simp only[ϲ];exact θ (by rw[ah];omega)) (by rw[ah];exact g) ?_;go_wp2_with (with_reducible first|refine aA rfl ?_|refine ko rfl ?_|refine au 148 rfl ?_|refine ai 148 rfl ?_|refine ai 5 rfl ?_)
 refine bQ rfl 148 _ _ rfl _ 0 rfl _ rfl 64 bE ?_ ?_ _ _ l ?_ ?_
 .simp only[ab3,ah];exact g
 .exact byteCells_one _
 .decide
 intro A F r;rw[bL _ _ (by rw[ah,g];rfl)] at r;have E:=D.trans F (by simp;exact l2);have C:Row A b2 (byteCells R).toArray 148:=r;clear r;go_wp2;exact mX rfl b2 rfl rfl _ _ C dY (by rw[bE];simp[ah,g]) ⟨by rw[HR.out],E⟩
def ii (n:Nat):List Γ:=jl n++replicate ((n-1)*64) 0
def qv:∀m,repeatL [(0:Γ)] m=replicate m 0
 |0=>rfl
 |m+1=>by rw[repeatL,qv m,List.replicate_succ];rfl
def Nf (n:Nat)(w:Ω)(h1:1<=n)(m:n<=400):
  Calls prog 77 #[.int .i64 n] w λe w'=>e= .returned (.string ⟨(ii n).toArray⟩)/\aQ [] w w':=by
 go_enter func77,ntmps77;go_wp2_with fail;refine(sR n w m).mono ?_;rintro e w1 ⟨rfl,c⟩;have d:=lK n;have p:Hid (ii n=jl n++replicate ((n-1)*64) 0):=rfl;generalize jl n=R at*;go_wp2_with (with_reducible first|refine aA rfl ?_|refine ai 148 rfl ?_);refine bj rfl 148 rfl fO d9 ?_;intro t g l f2 r3
 go_wp2_with (with_reducible first|refine aA rfl ?_|refine ai 148 rfl ?_);refine bQ rfl 148 _ _ rfl _ 0 rfl _ rfl 64 bE ?_ ?_ _ _ r3 ?_ ?_
 .simp only[ab3,ah];exact d
 .exact byteCells_one _
 .decide
 intro r i h;rw[bL _ _ (by rw[ah,d];rfl)] at h;have b:Row r g (byteCells R).toArray 148:=h;have k:=(c.trans f2).trans i (by simp;have:=c.size;omega);clear h r3 c f2 i l;go_wp2_with fail;refine kJ ?_;simp only[Act.put];refine bP rfl (some 6) rfl (.slice (some ⟨g,0,none⟩) 64 64) (λ_ _=>by go_simp) ?_
 simp only[Act.put,co,cq,ck];refine bP rfl (some 7) rfl (.string (aD R)) (λw' a=>z8 85 9 5 _ rfl underlying85 underlying5 underlying9 g 0 64 64 rfl R _ (a.row b) R (by simp only[ϲ];exact θ ϖ) d) ?_;simp only[Act.put,co,cq,ck];refine bP rfl (some 8) rfl (.int .i64 n) (λ_ _=>rfl) ?_
 simp only[Act.put,co,cq,ck];refine bP rfl (some 9) rfl (.int .i64 (n-1:Nat)) (λ_ _=>by
   have e:((n-1:Nat):Int)=(n:Int)-1:=ϖ
   rw[e];go_simp;exact IntWalk.i64_in _ ϖ) ?_
 simp only[Act.put,co,cq,ck];refine bP rfl (some 10) rfl (.int .i64 ((n-1)*64:Nat)) (λ_ _=>by
   have e:(((n-1)*64:Nat):Int)=((n-1:Nat):Int)*64:=ϖ
   rw[e];go_simp;exact IntWalk.i64_in _ ϖ) ?_
 simp only[Act.put,co,cq,ck];refine lU rfl (some 11) rfl 113 #[.string ⟨#[0]⟩,.int .i64 ((n-1)*64:Nat)] (.string ⟨(repeatL [0] ((n-1)*64)).toArray⟩) (λ_ _=>by go_simp) (λw' a=>?_) ?_
 .refine(Tryz.strings_Repeat ⟨#[0]⟩ ((n-1)*64) w' ϖ (by show 1*((n-1)*64)<=_;omega)).mono ?_
  rintro e q ⟨rfl,f⟩;exact⟨rfl,a.trans (aQ.of_below f)⟩
 simp only[Act.put,co,cq,ck];refine bP rfl (some 12) rfl (.string ⟨(ii n).toArray⟩) (λw' _=>?_) ?_
 .refine tE _ _ _ _ _ rfl (.string (aD R)) (.string ⟨(repeatL [0] ((n-1)*64)).toArray⟩) rfl rfl _ rfl ?_
  have e:(⟨(ii n).toArray⟩:Ξ)=aD R++⟨(repeatL [0] ((n-1)*64)).toArray⟩:=by
   rw[p.out,qv]
   apply ByteArray.ext
   simp[aD,ByteArray.data_append]
  rw[e];refine run_string_add_sum (P:=prog) w' (aD R) ⟨(repeatL [0] ((n-1)*64)).toArray⟩ ?_;rw[qv];show R.toArray.size+(replicate ((n-1)*64) (0:Γ)).toArray.size<=_;simp only[ab3,Ϸ];omega
 simp only[Act.put,co,cq,ck];refine bP rfl (some 2) rfl (.string ⟨(ii n).toArray⟩) (λ_ _=>rfl) ?_;simp only[Act.put,co,cq,ck];intro s j;have o:=k.trans j;go_wp2;go_ret;exact⟨rfl,o⟩
section
variable {P:ω}(w:Ω)
def zd (d:Nat){e:η}(c:P.underlying e=some (.int .u8))(a b:Int):(Op.equalIn (d+1) e (.int .u8 a) (.int .u8 b)).run P w= .ok (a==b) w:=by
 simp[Op.equalIn,run_underlying c]
def sQ (d:Nat){e:η}(c:P.plainKey e=true)(f:P.underlying e=some (.int .u8))(xs a:ϓ):∀is:List Nat,(∀i∈is,i<xs.length/\i<a.length)->
  (Op.eqItems (d+1) e 1 (byteCells xs).toArray (byteCells a).toArray is).run P w= .ok (is.all λi=>xs[i]? ==a[i]?) w
 |[],_=>by simp[Op.eqItems]
 |i::is,h=>by
  have b:=h i ϛ;have l:=sQ d c f xs a is λj k=>h j (by simp[k])
  have m:=run_part_plain (P:=P) (w:=w) c (xs:=(byteCells xs).toArray) (off:=i*1) (v:= .int .u8 (xs[i].toNat)) (by simp[byteCells,b.1]);have g:=run_part_plain (P:=P) (w:=w) c (xs:=(byteCells a).toArray) (off:=i*1) (v:= .int .u8 (a[i].toNat)) (by simp[byteCells,b.2]);have e1:((xs[i].toNat:Int)==(a[i].toNat:Int))=(xs[i]? ==a[i]?):=by
   rw[ϐ2];simp only[ai7,List.getElem?_eq_getElem b.1,List.getElem?_eq_getElem b.2,af5,<-UInt8.toNat_inj];exact Int.ofNat_inj
  simp only[Op.eqItems,run_bind,m,g,zd w d f,Result.andThen_ok,e1,ϒ8];cases n:(xs[i]? ==a[i]?)
  .simp
  .simpa using l
def NJ (xs a:ϓ)(n:Nat)(d:xs.length=n)(c:a.length=n):((range n).all λi=>xs[i]? ==a[i]?)=(xs==a):=by
 rw[ϐ2];simp only[ad6,ae2,ai7];constructor
 .intro h
  apply ϒ5
  intro i;rcases ϐ5 i n with b|b
  .exact h i b
  .rw[ai5 ϖ,ai5 ϖ]
 .rintro rfl i _;rfl
def Ab (d:Nat){t e:η}(n:Nat)(c:P.underlying t=some (.array n e))(i:TypeInfo)(k:P.info? e=some i)(h:P.cellsOf e=1)(m:P.plainKey e=true)(f:P.underlying e=some (.int .u8))(xs a:ϓ)(l:xs.length=n)(b:a.length=n):
  (Op.equalIn (d+2) t (.agg (byteCells xs).toArray) (.agg (byteCells a).toArray)).run P w= .ok (xs==a) w:=by
 rw[run_equalIn_array w (d+1) _ _ c k,h,sQ w d m f xs a _ (by intro j g;rw[ae2] at g;omega),NJ xs a n l b]
end
def zy:prog.plainKey 5=true:=ϰ
def As:prog.cellsOf 5=1:=ϰ
def Gi (c:BinOp)(x y:ab7)(a b:ϐ)(w:Ω):(eqGuard c 148 x y (.agg a) (.agg b)).run prog w= .ok () w:=by
 cases c<;>kernel_rfl
def DQ (c:BinOp)(x y:ab7)(a b:ϐ)(w:Ω):(eqGuard c 138 x y (.agg a) (.agg b)).run prog w= .ok () w:=by
 cases c<;>kernel_rfl
def BW:∃i,prog.info? 5=some i:=by
 have:=wj;cases a:prog.info? 5 with
 |none=>simp[a] at this
 |some i=>exact⟨i,rfl⟩
def Nb (xs a:ϓ)(d:xs.length=64)(b:a.length=64)(w:Ω):(binOp .eql 148 (.agg (byteCells xs).toArray) (.agg (byteCells a).toArray)).run prog w= .ok (.bool (xs==a)) w:=by
 have⟨i,c⟩:=BW;rw[run_eql_struct,Ab w 9998 64 sY i c As zy underlying5 xs a d b];rfl
def Iy (xs a:ϓ)(d:xs.length=128)(b:a.length=128)(w:Ω):(binOp .neq 138 (.agg (byteCells xs).toArray) (.agg (byteCells a).toArray)).run prog w= .ok (.bool (!(xs==a))) w:=by
 have⟨i,c⟩:=BW;rw[run_neq_struct,Ab w 9998 128 underlying138 i c As zy underlying5 xs a d b];rfl
def d8 (r:ϓ)(l:ϑ):List Γ:=l.foldl (λr i=>r.set (10+i) 1) r
def v6 (l:ϑ):∀r,(d8 r l).length=r.length:=by
 induction l with
 |nil=>intro r;rfl
 |cons i l a=>intro r;show(d8 (r.set (10+i) 1) l).length=_;rw[a,List.length_set]
def zI (r:ϓ)(l:ϑ)(k:Nat)(a:k<l.length):d8 r (l.take (k+1))=(d8 r (l.take k)).set (10+l[k]) 1:=by
 unfold d8;rw[ac4 a,ϕ3];rfl
def DS.vO (x:DS)(n:Nat):Bool:=d8 (jl n) (taken x n)==x.read 0
def AZ (d z n:Nat)(y:Φ)(x:DS)(w:Ω)(h:bG w d z n y x):
  Calls prog 145 #[.pointer (some ⟨d,0,none⟩)] w λe w'=>e= .returned (.bool (x.vO n))/\aQ [] w w':=by
 have wm:=h.hi;go_enter func145,ntmps145;go_wp2_with fail;refine(mV d z n y x w h).mono ?_;rintro e w0 ⟨rfl,rfl⟩;go_wp2_with fail;refine(sR n w0 wm).mono ?_;rintro e w1 ⟨rfl,A⟩;have HO:Hid (x.vO n=(d8 (jl n) (taken x n)==x.read 0)):=rfl;have N:=lK n;have t:Hid (∀l,(d8 (jl n) l).length=64):=λl=>by rw[v6,N]
 have HS:Hid (∀k,(D:k<(taken x n).length)->d8 (jl n) ((taken x n).take (k+1))=(d8 (jl n) ((taken x n).take k)).set (10+(taken x n)[k]) 1):=λk D=>zI _ _ k D
 go_wp2_with (with_reducible first|refine aA rfl ?_|refine ai 148 rfl ?_);refine bj rfl 148 rfl fO d9 ?_;intro w2 o Z f2 r3;go_wp2_with (with_reducible first|refine aA rfl ?_|refine ai 148 rfl ?_);refine bQ rfl 148 _ _ rfl _ 0 rfl _ rfl 64 bE ?_ ?_ _ _ r3 ?_ ?_
 .simp only[ab3,ah];exact N
 .exact byteCells_one _
 .decide
 intro Y X p;rw[bL _ _ (by rw[ah,N];rfl)] at p;have q:Row Y o (byteCells (d8 (jl n) ((taken x n).take 0))).toArray 148:=p;have G:=(A.trans f2).trans X (by simp;have:=A.size;omega);have V:=h.new G;have H:w0.heap.size<=o:=by have:=A.size;omega
 clear p r3 A f2 X Z;generalize d8 (jl n)=M at*;go_wp2_with fail;refine(jQ d z n y x Y V).mono ?_;rintro e w4 ⟨v,rfl,hv,E⟩;have q4:=E.row q;have yv:=G.trans E;have s:v.ownBlock≠some o:=λe=>by have:=(hv.lt o e).1;have:=q.lt;omega
 have ab:=fy x n;have⟨ad,cap,I⟩:=ce hv;subst I;clear V G E q;go_wp2_with fail;have HA:Hid (∀i∈taken x n,i<aK n):=λi K=>nT x n i K
 have ak:aK n<=54:=by unfold aK;omega
 generalize b:taken x n=a at*;have HT:Hid (taken x n=a):=b;clear b
 go_loopw [12] (λc wr=>∃k:Nat,c= .int .i64 k/\k<=a.length/\aQ [o] w4 wr/\Row wr o (byteCells (M (a.take k))).toArray 148) (λc _=>a.length-(intOf c).toNat)
 case atStart=>exact⟨0,rfl,ϖ,aQ.refl ..,q4⟩
 case round=>
  obtain⟨k,rfl,D,B,p⟩:=hrel;have u:=B.owns hv (by simpa using s)
  by_cases r:k<a.length
  .obtain⟨g,J,rfl,hg,aa,_,F,b⟩:=eT u
   have K:a[k]<aK n:=HA.out _ (ai2 r);have U:wr.cell? ⟨g,k,none⟩=some (.int .i64 (a[k]:Nat)):=by
    rw[hg.cell,<-al1];have:(J.toList.take (a.length*1))[k]? =(gS a)[k]? :=by rw[b]
    rw[List.getElem?_take_of_lt ϖ] at this;rw[this];simp[gS,r]
   have Q:Hid (M (a.take (k+1))=(M (a.take k)).set (10+a[k]) 1):=HS.out k r;have j:Hid ((M (a.take k)).length=64):=t.out _;generalize C:a[k]=i at K U Q;clear C;clear F b;have ag:i<54:=ϖ
   go_wp2_with (with_reducible refine ai 5 rfl ?_);refine ir rfl 5 _ _ rfl o (10+i) rfl .u8 1 rfl _ _ p (by simp only[ab3,ah];rw[j.out];omega) ?_;intro w6 W T;have S:(byteCells (M (a.take k))).toArray.setIfInBounds (10+i) (.int .u8 1)=(byteCells (M (a.take (k+1)))).toArray:=by
    rw[Q.out,iw];rfl
   rw[S] at T;have L:=B.trans W;clear S W p U hg u B hv s;go_wp2
   go_roundw
   case rel=>exact⟨k+1,by go_num,ϖ,L,T⟩
   case measure=>simp[intOf];omega
  .obtain rfl:k=a.length:=ϖ
   rw[List.take_length] at p;have j:Hid ((M a).length=64):=t.out _;generalize M a=R at*;have P:=yv.trans B (by simp;exact H);have hd:=h.new P;have O:Hid ((x.read 0).length=64):=by
    show _=_;exact bD _ _ (by rw[h.len];simp;have:=h.lo;omega) _ h.eY
   have ae:=h.lo;go_wp2_with fail;refine kJ ?_;simp only[Act.put]
   refine bP rfl (some 20) rfl (.agg (byteCells R).toArray) (λw' m=>j4 148 _ rfl o 0 rfl dY 64 bE _ _ (m.row p) (byteCells R) (by simp only[ϲ];exact θ (by rw[ah];exact ai8 j.out)) (by rw[ah];exact j.out)) ?_;simp only[Act.put,co,cq,ck]
   refine bP rfl (some 21) rfl (.pointer (some ⟨d,0,none⟩)) (λ_ _=>rfl) ?_;simp only[Act.put,co,cq,ck];refine lU rfl (some 22) rfl 114 #[.pointer (some ⟨d,0,none⟩),.int .i64 0] (.agg (byteCells (x.read 0)).toArray) (λ_ _=>by go_simp) (λw' m=>?_) ?_
   .refine(um d z n y x 0 w' (hd.new m) ϖ ϖ).mono ?_
    rintro e ac ⟨rfl,f⟩;exact⟨rfl,m.trans f⟩
   simp only[Act.put,co,cq,ck];refine bP rfl (some 23) rfl (.bool (R==x.read 0)) (λw' _=>?_) ?_
   .exact tE _ _ _ _ _ rfl _ _ rfl rfl _ (Gi ..) (Nb _ _ j.out O.out _)
   simp only[Act.put,co,cq,ck];refine bP rfl (some 2) rfl (.bool (R==x.read 0)) (λ_ _=>rfl) ?_;simp only[Act.put,co,cq,ck];intro w5 f5;have qM:=P.trans f5;go_wp2;go_ret;exact⟨by rw[HO.out];rfl,qM⟩
def xh (r:ϓ):Bool:=cI (fQ r) (dm r) (bJ r)==r
def DS.oZ (x:DS)(n:Nat):Bool:=(taken x n).all λi=>xh (cO x i)
def vS (r:ϓ):fQ r<256:=sa r 0
def xg (r:ϓ):(dm r).length<=8:=by unfold dm;rw[ac8];omega
def qC (r:ϓ):(bJ r).length<=96:=by unfold bJ;rw[ac8];omega
def fg (l:ϓ):(aD l).size=l.length:=rfl
def RE (l:ϑ)(f:Nat->Bool)(k:Nat)(a:k<l.length):(l.drop k).all f=(f l[k]&&(l.drop (k+1)).all f):=by
 rw[ae5 a,ϒ8]
def vI (d C n:Nat)(B:Φ)(x:DS)(w:Ω)(h:bG w d C n B x):
  Calls prog 146 #[.pointer (some ⟨d,0,none⟩)] w λe w'=>e= .returned (.bool (x.oZ n))/\aQ [] w w':=by
 go_enter func146,ntmps146;go_wp2_with fail;refine(jQ d C n B x w h).mono ?_;rintro e W ⟨v,rfl,hv,f2⟩;have h2:=h.new f2;have aa:=fy x n;have⟨ad,cap,H⟩:=ce hv;subst H;go_wp2_with fail;have T:Hid (∀i∈taken x n,i<aK n):=λi u=>nT x n i u
 have Q:Hid (x.oZ n=(taken x n).all λi=>xh (cO x i)):=rfl;generalize j:taken x n=b at*;clear j
 go_loopw [9] (λc wr=>∃k:Nat,c= .int .i64 k/\k<=b.length/\aQ [] W wr/\Hid (x.oZ n=(b.drop k).all λi=>xh (cO x i))) (λc _=>b.length-(intOf c).toNat)
 case atStart=>exact⟨0,rfl,ϖ,aQ.refl ..,Q⟩
 case round=>
  obtain⟨k,rfl,hk,t,y⟩:=hrel;clear Q;have hd:=h2.new t;have q:=t.owns hv
  by_cases o:k<b.length
  .obtain⟨g,I,rfl,hg,Y,_,A,j⟩:=eT q
   have u:b[k]<aK n:=T.out _ (ai2 o);have N:wr.cell? ⟨g,k,none⟩=some (.int .i64 (b[k]:Nat)):=by
    rw[hg.cell,<-al1];have:(I.toList.take (b.length*1))[k]? =(gS b)[k]? :=by rw[j]
    rw[List.getElem?_take_of_lt ϖ] at this;rw[this];simp[gS,o]
   have p:=o6 hd b[k] u;have s:Hid (x.oZ n=(xh (cO x b[k])&&(b.drop (k+1)).all λi=>xh (cO x i))):=by
    have:=y.out;rw[RE b _ k o] at this;exact this
   generalize G:b[k]=i at u N p s;clear G;clear A j;go_wp2_with fail;refine(mh d C n B x i wr hd u).mono ?_;rintro e w3 ⟨rfl,P⟩;have K:=t.trans P;generalize cO x i=r at*;have m:Hid (r.length=128):=p;clear p;go_wp2_with (with_reducible first|refine aA rfl ?_|refine ai 138 rfl ?_)
   refine bj rfl 138 rfl oG kV ?_;intro w4 D V R r5;go_wp2_with (with_reducible first|refine aA rfl ?_|refine ai 138 rfl ?_);refine bQ rfl 138 _ _ rfl _ 0 rfl _ rfl 128 gy ?_ ?_ _ _ r5 ?_ ?_
   .simp only[ab3,ah];exact m.out
   .exact byteCells_one _
   .decide
   intro E M F;rw[bL _ _ (by rw[ah,m.out];rfl)] at F;have L:Row E D (byteCells r).toArray 138:=F;have U:=(K.trans R).trans M (by simp;have:=K.size;omega);clear F r5 M R P K t V N hg q;go_wp2_with fail;have X:∀w',aQ [] E w'->_:=λw' (a:aQ [] E w')=>a.row L
   refine kJ ?_
   try simp only[Act.put]
   refine bP rfl (some 16) rfl (.agg (byteCells r).toArray) (λw' a=>j4 138 _ rfl D 0 rfl kz 128 gy _ _ (a.row L) (byteCells r) (by simp only[ϲ];exact θ (by rw[ah];exact ai8 m.out)) (by rw[ah];exact m.out)) ?_;simp only[Act.put,co,cq,ck]
   refine lU rfl (some 17) rfl 81 #[.agg (byteCells r).toArray] (.agg (cg (fQ r) (dm r) (bJ r)).toArray) (λ_ _=>by go_simp) (λw' a=>?_) ?_
   .refine(pz r w' m.out).mono ?_
    rintro e J ⟨rfl,f⟩;exact⟨rfl,a.trans f⟩
   simp only[Act.put,co,cq,ck];have z:Hid ((cI (fQ r) (dm r) (bJ r)).length=128):=nN ..;refine lU rfl (some 18) rfl 110 #[.agg (cg (fQ r) (dm r) (bJ r)).toArray] (.agg (byteCells (cI (fQ r) (dm r) (bJ r))).toArray) (λ_ _=>by go_simp) (λw' a=>?_) ?_
   .refine(Ac (fQ r) (aD (dm r)) (aD (bJ r)) w' (vS r) (by rw[fg];have:=xg r;omega) (by rw[fg];have:=qC r;omega)).mono ?_
    rintro e J ⟨rfl,f⟩;exact⟨rfl,a.trans f⟩
   simp only[Act.put,co,cq,ck];refine bP rfl (some 19) rfl (.agg (byteCells r).toArray) (λw' a=>j4 138 _ rfl D 0 rfl kz 128 gy _ _ (a.row L) (byteCells r) (by simp only[ϲ];exact θ (by rw[ah];exact ai8 m.out)) (by rw[ah];exact m.out)) ?_;simp only[Act.put,co,cq,ck]
   refine bP rfl (some 20) rfl (.bool (!(xh r))) (λw' _=>?_) ?_
   .exact tE _ _ _ _ _ rfl _ _ rfl rfl _ (DQ ..) (Iy _ _ z.out m.out _)
   simp only[Act.put,co,cq,ck];intro w6 f6;have O:=U.trans f6;have Z:=f2.trans O;cases l:xh r with
   |true=>
    rw[l] at s;clear l hd hv h2 y;go_wp2
    go_roundw
    case rel=>exact⟨k+1,by go_num,ϖ,O,by show _=_;rw[s.out];rfl⟩
    case measure=>simp[intOf];omega
   |false=>
    rw[l] at s;clear l hd hv h2 y;go_wp2;go_ret;exact⟨by rw[s.out];rfl,Z⟩
  .have S:=f2.trans t
   have HE:Hid (x.oZ n=true):=by
    have:=y.out;rw[ϑ2 ϖ] at this;exact this
   go_wp2;go_ret;exact⟨by rw[HE.out];rfl,S⟩
def jo (b:Γ):Bool:=97<=b.toNat&&b.toNat<=122
def cL (l:ϓ):Bool:=1<=l.length&&l.length<=8&&l.all jo
def yG {P:ω}{ops:Ϙ}{Q:ϔ}{a:Act}{w:Ω}{rest:ϧ}{o:Oper}(hg:o.guard=none)(src c e:η)(x:ab7)(i:o.op= .convert src c x)(l:P.underlying src=some .string)(hd:P.underlying c=some (.slice e))(m:P.underlying e=some (.int .u8))(s:Ξ)(k:a.eval x= .string s)(h:∀(w1:Ω)(b cap:Nat),w.heap.size<=b->aQ [] w w1->(∀j,(g:j<s.data.toList.length)->w1.cell? ⟨b,j,none⟩=some (.int .u8 (s.data.toList[j].toNat:Int)))->wpList P ops Q rest (a.put o.dst (.slice (some ⟨b,0,none⟩) s.size cap)) w1):wpList P ops Q (o::rest) a w:=by
 have hr:=run_bytes_of_string (P:=P) w src c e s l hd m;have d:(w.drew.alloc (.cells (bytesRow s (grownCap w s.size 0 e)) e ((bytesRow s (grownCap w s.size 0 e)).size,(bytesRow s (grownCap w s.size 0 e)).size+1))).heap[w.heap.size]? =some (.cells (bytesRow s (grownCap w s.size 0 e)) e ((bytesRow s (grownCap w s.size 0 e)).size,(bytesRow s (grownCap w s.size 0 e)).size+1)):=by
  show(w.heap.push _)[w.heap.size]? =_;simp
 have f:aQ [] w (w.drew.alloc (.cells (bytesRow s (grownCap w s.size 0 e)) e ((bytesRow s (grownCap w s.size 0 e)).size,(bytesRow s (grownCap w s.size 0 e)).size+1))):=(aQ.drew [] w).trans (aQ.alloc [] _ _);generalize w.drew.alloc (.cells (bytesRow s (grownCap w s.size 0 e)) e ((bytesRow s (grownCap w s.size 0 e)).size,(bytesRow s (grownCap w s.size 0 e)).size+1))=w1 at hr d f
 refine cT hg (.slice (some ⟨w.heap.size,0,none⟩) s.size (grownCap w s.size 0 e)) w1 ?_ (h w1 _ _ (ι _) f λj g=>?_)
 .simp only[execOp,i,k,run_bind]
  rw[hr];rfl
 .rw[Lib.cell_of_heap d,bytesRow_at s _ j (by simpa using g)]
  simp
def mz (s:Ξ)(w:Ω)(D:s.size<=9223372036854775807):
  Calls prog 49 #[.string s] w λe w'=>e= .returned (.bool (cL s.data.toList))/\aQ [] w w':=by
 have d:Hid (s.data.toList.length=s.size):=by show _=_;rw[af9];rfl
 go_enter func49,ntmps49
 by_cases h1:(s.size:Int)<1
 .have q:Hid (cL s.data.toList=false):=by
   show _=_;unfold cL;have:s.data.toList.length=0:=by rw[d.out];omega
   rw[this];rfl
  go_wp2;go_ret;exact⟨by rw[q.out];rfl,aQ.refl ..⟩
 .by_cases A:(s.size:Int)>8
  .have q:Hid (cL s.data.toList=false):=by
    show _=_;unfold cL;rw[d.out];have:decide (s.size<=8)=false:=by simp;omega
    rw[this];simp
   go_wp2;go_ret;exact⟨by rw[q.out];rfl,aQ.refl ..⟩
  .have n:Hid (cL s.data.toList=(s.data.toList.drop 0).all jo):=by
    show _=_;unfold cL;rw[d.out,ϲ];have e1:decide (1<=s.size)=true:=by simp;omega
    have e2:decide (s.size<=8)=true:=by simp;omega
    rw[e1,e2];rfl
   go_wp2_with (with_reducible refine ia rfl ?_);refine yG rfl 9 85 5 _ rfl underlying9 underlying85 underlying5 s rfl ?_;intro w1 b cap lb m a;generalize h:s.data.toList=l at*;have g:Hid (s.data.toList=l):=h;clear h;have p:Hid (∀j,(B:j<l.length)->w1.cell? ⟨b,j,none⟩=some (.int .u8 (l[j].toNat:Int))):=a;clear a
   go_wp2_with fail;have v:l.length=s.size:=d.out
   go_loopw [16] (λc wr=>∃k:Nat,c= .int .i64 k/\k<=s.size/\wr=w1/\Hid (cL l=(l.drop k).all jo)) (λc _=>s.size-(intOf c).toNat)
   case atStart=>exact⟨0,rfl,ϖ,rfl,n⟩
   case round=>
    obtain⟨k,rfl,C,rfl,t⟩:=hrel
    by_cases x:k<s.size
    .have i:k<l.length:=ϖ
     have z:=p.out k i;have o:Hid (cL l=(jo l[k]&&(l.drop (k+1)).all jo)):=by
      have:=t.out;rw[ae5 i,ϒ8] at this;exact this
     have u:(l[k].toNat:Int)<=255:=by have:=l[k].toNat_lt;omega
     have r:Hid (jo l[k]=(decide (97<=l[k].toNat)&&decide (l[k].toNat<=122))):=rfl;generalize l[k]=c at*
     by_cases E:(c.toNat:Int)<97
     .have f:Hid (cL l=false):=by
       show _=_;rw[o.out,r.out];have:decide (97<=c.toNat)=false:=by simp;omega
       rw[this];rfl
      go_wp2;go_ret;exact⟨by rw[g.out,f.out];rfl,m⟩
     .by_cases y:(c.toNat:Int)>122
      .have f:Hid (cL l=false):=by
        show _=_;rw[o.out,r.out];have:decide (c.toNat<=122)=false:=by simp;omega
        rw[this];simp
       go_wp2;go_ret;exact⟨by rw[g.out,f.out];rfl,m⟩
      .have f:Hid (cL l=(l.drop (k+1)).all jo):=by
        show _=_;rw[o.out,r.out];have e1:decide (97<=c.toNat)=true:=by simp;omega
        have e2:decide (c.toNat<=122)=true:=by simp;omega
        rw[e1,e2];rfl
       go_wp2
       go_roundw
       case rel=>exact⟨k+1,by go_num,ϖ,trivial,f⟩
       case measure=>simp[intOf];omega
    .have f:Hid (cL l=true):=by
      have:=t.out;rw[ϑ2 ϖ] at this;exact this
     go_wp2;go_ret;exact⟨by rw[g.out,f.out];rfl,m⟩
def eD (s:Int)(p:ϓ):Bool:=if s=0\/s=1\/s=2 then cL p else(if s=3 then p==[] else false)
def IM (s:Nat)(p:Ξ)(w:Ω)(h:p.size<=9223372036854775807)(l:s<256):
  Calls prog 185 #[.agg (dH s p)] w λe w'=>e= .returned (.bool (eD s p.data.toList))/\aQ [] w w':=by
 have d:Hid (eD s p.data.toList=if(s:Int)=0\/(s:Int)=1\/(s:Int)=2 then cL p.data.toList else(if(s:Int)=3 then p.data.toList==[] else false)):=rfl;go_enter func185,ntmps185;go_wp2_with (with_reducible refine bA rfl ?_);refine eQ rfl 103 _ rfl (.agg (dH s p)) rfl ?_;intro w1 b1 l1 c r1
 have c0:w1.cell? ⟨b1,0,none⟩=some (.int .i64 s):=by rw[r1.cell];rfl
 have c1:w1.cell? ⟨b1,1,none⟩=some (.string p):=by rw[r1.cell];rfl
 by_cases a:(s:Int)=0\/(s:Int)=1\/(s:Int)=2
 .have b:Hid (eD s p.data.toList=cL p.data.toList):=by show _=_;rw[d.out,φ a]
  rcases(by omega:s=0\/s=1\/s=2) with rfl|rfl|rfl
  all_goals
   clear a;go_wp2_with fail;refine(mz p w1 h).mono ?_;rintro e j ⟨rfl,f2⟩;have g:=c.trans f2;go_wp2;go_ret;exact⟨by rw[b.out];rfl,g⟩
 .by_cases f:(s:Int)=3
  .have b:Hid (eD s p.data.toList=p.toList.isEmpty):=by show _=_;rw[d.out,ζ a,φ f,ϔ3 p];cases p.data.toList<;>rfl
   obtain rfl:s=3:=ϖ
   clear a f;go_wp2;go_ret;refine⟨?_,c⟩;rw[b.out];rfl
  .have b:Hid (eD s p.data.toList=false):=by show _=_;rw[d.out,ζ a,ζ f]
   have n0:((s:Int)==0)=false:=by rw[ac3];omega
   have n1:((s:Int)==1)=false:=by rw[ac3];omega
   have i:((s:Int)==2)=false:=by rw[ac3];omega
   have k:((s:Int)==3)=false:=by rw[ac3];omega
   go_wp2;go_ret;exact⟨by rw[b.out];rfl,c⟩
abbrev pU:=Nat×List Γ
def gq (t:pU):List Φ:=[.int .i64 t.1,.string (aD t.2)]
def m9 (l:List pU):List Φ:=l.flatMap gq
def DA (a b:List pU):m9 (a++b)=m9 a++m9 b:=by simp[m9]
def Pz (l:List pU)(k:Nat)(a:k<l.length):((m9 l).drop (k*2)).take 2=gq l[k]:=by
 have h:∀(l:List pU)(k:Nat),(m9 l).drop (k*2)=m9 (l.drop k):=by
  intro l
  induction l with
  |nil=>intro k;simp[m9]
  |cons f r b=>
   intro k;cases k with
   |zero=>simp
   |succ k=>
    have:=b k;simp only[m9,ϕ2,List.drop_succ_cons] at this⊢;rw[List.drop_append,ϑ2 (by simp[gq];omega),ϓ8,<-this]
    congr 1
    simp[gq];omega
 rw[h,ae5 a];show List.take 2 (gq l[k]++m9 (l.drop (k+1)))=_;rfl
def vo (a b:ϓ):(aD a==aD b)=(a==b):=by
 have e:(aD a==aD b)=((aD a).toList==(aD b).toList):=beq_toListBytes ..;rw[e,ϔ3,ϔ3];rfl
def MC (base:Nat)(v:Φ)(l:List pU)(t:pU)(w:Ω)(hv:w.ownsRow base 103 2 v l.length (m9 l))(K:l.length<=1000):
  Calls prog 209 #[v,.agg (dH t.1 (aD t.2))] w λe w'=>(∃r:Int,e= .returned (.int .i64 r)/\decide (0<=r)=l.contains t)/\aQ [] w w':=by
 have⟨ad,cap,q⟩:=ce hv;subst q;go_enter func209,ntmps209;go_wp2_with (with_reducible refine bA rfl ?_);refine eQ rfl 103 _ rfl (.agg (dH t.1 (aD t.2))) rfl ?_;intro w1 E H p r3;have m:=p.owns hv;have z:Hid (l.contains t=(l.drop 0).contains t):=rfl;go_wp2_with fail;clear hv
 go_loopw [8] (λc wr=>∃k:Nat,c= .int .i64 k/\k<=l.length/\aQ [] w1 wr/\Hid (l.contains t=(l.drop k).contains t)) (λc _=>l.length-(intOf c).toNat)
 case atStart=>exact⟨0,rfl,ϖ,aQ.refl ..,z⟩
 case round=>
  obtain⟨k,rfl,N,n,y⟩:=hrel;clear z;have f:=n.owns m;have A:=n.row r3
  by_cases h:k<l.length
  .obtain⟨g,s,rfl,hg,F,_,o,j⟩:=eT f
   have b:((s.toList.drop (k*2)).take 2)=gq l[k]:=by
    rw[cx j _ _,Pz l k h]
   have i:Hid (l.contains t=(t==l[k]||(l.drop (k+1)).contains t)):=by
    have:=y.out;rw[ae5 h,List.contains_cons] at this;exact this
   generalize l[k]=u at b i;clear o j;go_wp2_with fail;refine kJ ?_
   try simp only[Act.put,co,cq,ck]
   refine bP rfl (some 11) rfl (.agg (gq t).toArray) (λw' a=>j4 103 _ rfl E 0 rfl fl 2 dN _ _ (a.row A) (gq t) rfl rfl) ?_;simp only[Act.put,co,cq,ck];refine bP rfl (some 12) rfl (.slice (some ⟨g,0,none⟩) l.length cap) (λ_ _=>rfl) ?_;refine bP rfl (some 13) rfl (.int .i64 k) (λ_ _=>rfl) ?_
   simp only[Act.put,co,cq,ck];refine bP rfl (some 14) rfl (.pointer (some ⟨g,k*2,none⟩)) (λ_ _=>by go_simp) ?_;simp only[Act.put,co,cq,ck];refine bP rfl (some 15) rfl (.agg (gq u).toArray) (λw' a=>j4 103 _ rfl g (k*2) rfl fl 2 dN _ _ (a.row hg) (gq u) b rfl) ?_;simp only[Act.put,co,cq,ck]
   refine bP rfl (some 16) rfl (.bool (t==u)) (λw' _=>?_) ?_
   .have e:(t==u)=(((t.1:Nat):Int)==((u.1:Nat):Int)&&aD t.2==aD u.2):=by
     rw[vo];have⟨M,t2⟩:=t;have⟨L,I⟩:=u;rw[ϐ2];simp;intro _;exact Int.ofNat_inj.symm
    rw[e];exact tE _ _ _ _ _ rfl _ _ rfl rfl _ (zY ..) (Gv ..)
   simp only[Act.put,co,cq,ck];intro J C;have x:=n.trans C;have D:=p.trans x;clear b;cases d:(t==u) with
   |true=>
    rw[d] at i;go_wp2;go_ret;exact⟨⟨_,rfl,by rw[i.out];simp⟩,D⟩
   |false=>
    rw[d] at i;clear d m f hg A r3;go_wp2
    go_roundw
    case rel=>exact⟨k+1,by go_num,ϖ,x,by show _=_;rw[i.out];rfl⟩
    case measure=>simp[intOf];omega
  .have B:=p.trans n
   have G:Hid (l.contains t=false):=by
    have:=y.out;rw[ϑ2 ϖ] at this;exact this
   go_wp2;go_ret;exact⟨⟨_,rfl,by rw[G.out];rfl⟩,B⟩
def D5 (base:Nat)(v:Φ)(l:List pU)(t:pU)(w:Ω)(hv:w.ownsRow base 103 2 v l.length (m9 l))(d:l.length<=1000):
  Calls prog 186 #[v,.agg (dH t.1 (aD t.2))] w λe w'=>e= .returned (.bool (l.contains t))/\aQ [] w w':=by
 go_enter func186,ntmps186;go_wp2_with (with_reducible first|refine bA rfl ?_|refine au 103 rfl ?_);refine eQ rfl 103 _ rfl (.agg (dH t.1 (aD t.2))) rfl ?_;intro w1 f g b r3;have a:=b.owns hv;go_wp2_with (with_reducible first|refine bA rfl ?_|refine au 103 rfl ?_)
 refine bZ rfl 103 _ rfl f 0 rfl fl 2 dN _ _ r3 (gq t) rfl rfl ?_;go_wp2_with fail;refine(MC base v l t w1 a d).mono ?_;rintro e h ⟨⟨r,rfl,hr⟩,f2⟩;have c:=b.trans f2;have HR:Hid (decide (0<=r)=l.contains t):=hr;clear hr;go_wp2;go_ret;refine⟨?_,c⟩;rw[<-HR.out];rfl
def Si {P:ω}{ops:Ϙ}{Q:ϔ}{a:Act}{w:Ω}{rest:ϧ}{o:Oper}(hg:wanted o (yielded ops a.tmps)=true)(v:Φ)(w1:Ω)(hr:(execOp a.eval o).run P w= .ok (.value v) w1)(h:wpList P ops Q rest (a.put o.dst v) w1):wpList P ops Q (o::rest) a w:=
 wpList_step λK b=>by
  rw[φ hg];unfold Oper.wp;rw[hr];exact b _ _ h
def nameOf (f:dl):pU:=(f.set,f.path)
def eX:List pU->List dl->Bool
 |_,[]=>true
 |seen,f::r=>eD f.set f.path&&(!(seen.contains (nameOf f))&&eX (seen++[nameOf f]) r)
def DS.eX (x:DS)(n:Nat):Bool:=Go.Proofs.YtchcmhodnkgojaaGreat.eX [] (aO x n)
def CF:Elem prog 268 103 2 24:=⟨underlying268,ϰ,ϖ⟩
def uT (l:List dl)(k:Nat)(a:k<l.length):((jp l).drop (k*3)).take 3=cg l[k].set l[k].path l[k].content:=by
 have h:∀(l:List dl)(k:Nat),(jp l).drop (k*3)=jp (l.drop k):=by
  intro l
  induction l with
  |nil=>intro k;simp[jp]
  |cons f r b=>
   intro k;cases k with
   |zero=>simp
   |succ k=>
    have:=b k;simp only[jp,ϕ2,List.drop_succ_cons] at this⊢;rw[List.drop_append,ϑ2 (by simp[cg];omega),ϓ8,<-this]
    congr 1
    simp[cg];omega
 rw[h,ae5 a];show List.take 3 (cg l[k].set l[k].path l[k].content++jp (l.drop (k+1)))=_;rfl
def Iz (fs:List dl)(k:Nat)(a:k<fs.length):eX ((fs.take k).map nameOf) (fs.drop k)=(eD fs[k].set fs[k].path&&(!(((fs.take k).map nameOf).contains (nameOf fs[k]))&&eX ((fs.take (k+1)).map nameOf) (fs.drop (k+1)))):=by
 rw[ae5 a,eX,ac4 a,Ϙ6];rfl
def yU (d Z n:Nat)(Y:Φ)(x:DS)(w:Ω)(h:bG w d Z n Y x):
  Calls prog 147 #[.pointer (some ⟨d,0,none⟩)] w λe w'=>e= .returned (.bool (x.eX n))/\aQ [] w w':=by
 have ab:(aO x n).length<=54:=by unfold aO;rw[ah1];exact fy x n
 have W:Hid (∀f∈aO x n,f.set<256/\f.path.length<=8):=λf P=>by
  unfold aO at P;rw[ad1] at P;obtain⟨i,_,rfl⟩:=P;exact⟨vS _,xg _⟩
 go_enter func147,ntmps147;go_wp2_with fail;refine(vq d Z n Y x w h).mono ?_;rintro e A ⟨v,rfl,hv,f2⟩;have HO:Hid (x.eX n=eX (((aO x n).take 0).map nameOf) ((aO x n).drop 0)):=rfl;generalize aO x n=fs at*;have⟨ad,cap,Q⟩:=ce hv;subst Q;go_wp2_with fail
 go_loopw [3,9] (λu c wr=>∃k:Nat,c= .int .i64 k/\k<=fs.length/\aQ [] A wr/\wr.ownsRow A.heap.size 103 2 u k (m9 ((fs.take k).map nameOf))/\Hid (x.eX n=eX ((fs.take k).map nameOf) (fs.drop k))) (λ_ c _=>fs.length-(intOf c).toNat)
 case atStart=>exact⟨0,rfl,ϖ,aQ.refl ..,World.ownsRow_nil ..,HO⟩
 case round=>
  obtain⟨k,rfl,hk,G,ho,S⟩:=hrel;clear HO;have C:=G.owns hv
  by_cases m:k<fs.length
  .obtain⟨g,R,rfl,hg,aa,_,L,t⟩:=eT C
   have p:((R.toList.drop (k*3)).take 3)=cg fs[k].set fs[k].path fs[k].content:=by
    rw[cx t _ _,uT fs k m]
   have O:x.eX n=_:=S.out.trans (Iz fs k m);have I:(fs.take (k+1)).map nameOf=(fs.take k).map nameOf++[nameOf fs[k]]:=by rw[ac4 m,Ϙ6];rfl
   have r:=W.out fs[k] (ai2 m);generalize fs[k]=f at p O I r;have o:Hid (x.eX n=(eD f.set f.path&&(!(((fs.take k).map nameOf).contains (nameOf f))&&eX ((fs.take (k+1)).map nameOf) (fs.drop (k+1))))):=O;have HT:Hid ((fs.take (k+1)).map nameOf=(fs.take k).map nameOf++[nameOf f]):=I
   have y:((fs.take k).map nameOf).length=k:=by rw[ah1,ac8];omega
   generalize (fs.take k).map nameOf=seen at*;have z:Hid (f.set<256/\f.path.length<=8):=r;clear O I L t S r;go_wp2_with (with_reducible first|refine au 107 rfl ?_|refine aA rfl ?_|refine ai 107 rfl ?_);refine bZ rfl 107 _ rfl g (k*3) rfl kZ 3 eZ _ _ hg (cg f.set f.path f.content) p rfl ?_;clear p hg
   go_wp2_with (with_reducible first|refine aA rfl ?_|refine ai 107 rfl ?_);refine bj rfl 107 rfl yE lP ?_;intro w4 D l5 f4 r5;go_wp2_with (with_reducible first|refine aA rfl ?_|refine ai 107 rfl ?_);refine bQ rfl 107 _ _ rfl _ 0 rfl _ rfl 3 eZ ?_ ?_ _ _ r5 ?_ ?_
   .rfl
   .simp[cg,Value.oneCell']
   .decide
   intro w5 f5 V;rw[bL _ _ (by rfl)] at V;have J:Row w5 D (cg f.set f.path f.content).toArray 107:=V;have q:=f4.trans f5 (by simpa using l5);have lj:=G.trans q;have Be:=q.owns ho;clear V r5 f4 f5 q G ho l5 C;go_wp2_with (with_reducible refine au 103 rfl ?_)
   refine bZ rfl 103 _ rfl D 0 rfl fl 2 dN _ _ J (gq (nameOf f)) rfl rfl ?_;go_wp2_with fail;refine(IM f.set (aD f.path) w5 (by rw[fg];have:=z.out.2;omega) z.out.1).mono ?_;rintro e w6 ⟨rfl,F⟩;have a:=F.owns Be;have T:=lj.trans F;have K:=F.row J;have eb:(aD f.path).data.toList=f.path:=rfl
   rw[eb];clear Be lj J F;cases M:eD f.set f.path with
   |false=>
    rw[M] at o;have s:=f2.trans T;go_wp2_with (with_reducible refine au 103 rfl ?_);go_ret;exact⟨by rw[o.out];rfl,s⟩
   |true=>
    rw[M] at o;clear M;go_wp2_with (with_reducible refine au 103 rfl ?_);refine Si rfl _ _ (j4 103 _ rfl D 0 rfl fl 2 dN _ _ K (gq (nameOf f)) rfl rfl) ?_;go_wp2_with fail;rw[<-y] at a;refine(D5 A.heap.size u3 seen (nameOf f) w6 a ϖ).mono ?_;rintro e w7 ⟨rfl,H⟩;rw[y] at a;have B:=H.owns a
    have l:=T.trans H;have q7:=H.row K;clear a T K H;cases N:seen.contains (nameOf f) with
    |true=>
     rw[N] at o;have s:=f2.trans l;go_wp2;go_ret;exact⟨by rw[o.out];rfl,s⟩
    |false=>
     rw[N] at o;clear N;go_wp2_with (with_reducible first|refine au 103 rfl ?_|refine bV rfl ?_|refine bW rfl ?_);refine bZ rfl 103 _ rfl D 0 rfl fl 2 dN _ _ q7 (gq (nameOf f)) rfl rfl ?_;go_wp2_with (with_reducible first|refine bV rfl ?_|refine bW rfl ?_)
     refine iu rfl 268 103 2 24 CF _ rfl (.agg (gq (nameOf f)).toArray) rfl rfl ?_;intro w8 b8 l8 E r8;go_wp2_with (with_reducible first|refine bV rfl ?_|refine bW rfl ?_);have U:=E.owns B;have b:A.heap.size<=w8.heap.size:=by have:=l.size;have:=E.size;omega
     refine ja rfl 268 103 2 24 CF _ _ rfl A.heap.size u3 _ _ rfl U b8 1 1 (gq (nameOf f)) rfl _ _ r8 rfl rfl (by simp[gq,Value.oneCell']) ϖ ϖ ϖ b ?_;intro g' X w9 IS f9 _;have Qp:=(l.trans E).trans f9 (by intro j hj;right;simp at hj;exact(U.lt j hj).1);clear B U q7 r8 E f9 l8 l b;go_wp2
     go_roundw
     case rel=>
      refine⟨k+1,by go_num,ϖ,Qp,?_,by show _=_;rw[o.out];rfl⟩;rw[HT.out,DA];simpa [m9] using IS
     case measure=>simp[intOf];omega
  .have s:=f2.trans G
   have HE:Hid (x.eX n=true):=by
    have:=S.out;rw[ϑ2 ϖ] at this;exact this
   go_wp2;go_ret;exact⟨by rw[HE.out];rfl,s⟩
def DS.sound (x:DS)(n:Nat):Bool:=x.vO n&&(x.oZ n&&x.eX n)
end
section
open Go.Conc
open Go.ConcN (sumTo)
open Go.ConcM (OsLater)
namespace aI
section
variable {Δ:Type}{X:Cx Δ}{P:ω}{Post:Gh Δ->Θ->Ω->Prop}{S0:Nat->Prop}{C:Cf Δ}{gs:Array Θ}{w w':Ω}{t:Trace}{sl:Option (Nat×Nat)}{r:bB}{x x':Θ}{es:Array Event}
def VI {e c:bB->Nat}{r:bB}(h:∀d,d≠r->c d=e d)(f:c r<e r):awS c<awS e:=by
 unfold awS;cases r with
 |m=>have h1:=h .a ϛ;have h2:=h .b ϛ;omega
 |a=>have h1:=h .m ϛ;have h2:=h .b ϛ;omega
 |b=>have h1:=h .m ϛ;have h2:=h .a ϛ;omega
def stepBlock (c:Core X P Post S0 C gs w t)(hr:born C.L r)(v:gs[gid C.n0 r]? =some x)(l:(C.L r).pc≠.quit)(m:C.ds r=iW (C.L r).pc)(u:C.aw r=1)(q:∀w₁,RX X (C.γ r).ro (C.γ r).own w w₁->eK (AtR X P Post (C.k r) r) (C.L r) (C.γ r) (C.γ r).own x w₁)(k:(C.L r).sleeps C.s=true)(y:stepG P (x6 r) x w= .go {x with status:= .blocked} w #[]):
  ∃a ops j,runT P (crowd gs w sl) (gid C.n0 r)=(.next a,ops)/\WZ j (C.ms gs.size)/\Ee X P Post S0 C.n0 j a (t++ops):=by
 have f:=runT_crowd_go (P:=P) (sl:=sl) (i:=gid C.n0 r) v (by rw[DK c.uz];exact y);have p:∀o,woken P x {x with status:= .blocked} w o=o:=λo=>by unfold woken;simp
 have d:((gs.map (woken P x {x with status:= .blocked} w)).setIfInBounds (gid C.n0 r) {x with status:= .blocked}).size=gs.size:=ϛ
 have b:∀i,i≠gid C.n0 r->((gs.map (woken P x {x with status:= .blocked} w)).setIfInBounds (gid C.n0 r) {x with status:= .blocked})[i]? =gs[i]? :=λi z=>by
  rw[ConcN.get_map_set _ _ _ _ (Ne.symm z)];cases gs[i]? with
  |none=>rfl
  |some g=>simp[p]
 refine⟨_,_,({C with aw:=upd C.aw r 0}:Cf Δ).ms gs.size,f,.right _ (.right _ (.right _ (VI (r:=r) (λs h=>upd_ne _ _ h) (by show upd C.aw r 0 r<C.aw r;rw[upd_same,u];omega)))),{C with aw:=upd C.aw r 0},_,w,sl,rfl,rfl,?_,by rw[d]⟩;rw[ofEvents_none,ϐ8]
 refine⟨c.uz,by rw[d];exact c.size,c.tab,c.fuel,c.sh,λs n=>?_,c.V3,λi g h0 h1 hg=>?_,by rw[d];exact c.above,c.deaf,c.data,c.Jc,c.fin,c.rel,c.lay,c.ti⟩
 .by_cases e:s=r
  .subst e
   refine⟨_,ConcN.get_map_set_same _ _ _ (DR c hr),.inr (.inl ⟨l,m,upd_same ..,k,x,rfl,q⟩)⟩
  .have⟨g,h1,h2⟩:=c.sit s n
   refine⟨g,by rw[b _ (λh=>e (lL c.uz h))];exact h1,?_⟩;simp only[upd_ne _ _ e];exact h2
 .rw[b _ (Ne.symm (yu c.uz h0 h1 r))] at hg
  exact c.old i g h0 h1 hg
def IB {e:Event}(h:e.mute=true):e.loc= .mark .disable\/e.loc= .mark .enable:=by
 have⟨l,a,b⟩:=e;cases l with
 |mark m=>cases m<;>simp[Event.mute] at h<;>simp
 |_=>simp[Event.mute] at h
def Sz {n i m:Nat}{q:Ϛ}(a:i<n)(b:q i=m+1):sumTo n (λj=>if j=i then m else q j)<sumTo n q:=by
 have h:=ConcN.sumTo_upd q m id a;have c:sumTo n (λj=>if j=i then m else q j)+q i=sumTo n q+m:=h;omega
def BQ (c:Core X P Post S0 C gs w t){i:Nat}(u:i≠0)(Y:gs[i]? =some x)(O:x.status= .running)(o:i<C.n0\/∃r,born C.L r/\r≠.m/\i=gid C.n0 r/\(C.L r).pc= .quit)(N:QuitsD P (C.q i) (Deaf t i) x):
  ∃s ops L,runT P (crowd gs w sl) i=(.next s,ops)/\WZ L (C.ms gs.size)/\Ee X P Post S0 C.n0 L s (t++ops):=by
 have B:i<gs.size:=(Ψ.1 Y).1;have S:(i==0)=false:=by simpa using u
 cases A:C.q i with
 |zero=>rw[A] at N;rw[N.1] at O;cases O
 |succ k=>
  rw[A] at N;rcases N with⟨hf,_⟩|⟨_,g',es,hmute,hstep,hq'⟩
  .rw[hf] at O;cases O
  have K:=runT_crowd_go (P:=P) (sl:=sl) (i:=i) Y (by rw[S];exact hstep w);have aa:g'.status= .running\/g'.status= .finished:=hq'.status
  let J:Nat->Nat:=λj=>if j=i then k else C.q j
  have f:∀l∈ofEvents i x.frame.fn x.frame.place es,l.g=i/\l.act.touch? =none/\l.act.low w.heap.size/\l.act≠.mark (.release (mA X))/\l.act≠.mark (.release (wA X)):=λl R=>by
   obtain⟨e,V,rfl⟩:=Go.Conc.mem_ofEvents R;have hm:=hmute e V;refine⟨rfl,touch_mute hm,low_mute hm _,?_,?_⟩<;>(rcases IB hm with h|h<;>simp[ed h])
  have D:((gs.map (woken P x g' w)).setIfInBounds i g').size=gs.size:=ϛ
  have G:∀d,∃a,born C.L d->i≠gid C.n0 d->∃g,((gs.map (woken P x g' w)).setIfInBounds i g')[gid C.n0 d]? =some g/\Sit X P Post (C.k d) d (C.L d) (C.γ d) (C.ρ d) a (C.ds d) (C.q (gid C.n0 d)) C.s g w:=λd=>by
   by_cases h:born C.L d/\i≠gid C.n0 d
   .have⟨h1,h2⟩:=h
    have⟨g,hg,hs⟩:=c.sit d h1;have⟨k',hk⟩:=c.kpos h1;rw[hk] at hs⊢;have⟨a,ha⟩:=hs.other (x:=x) (x':=g') (s':=C.s) (RX.refl X _ _ w) (λz=> .inl z);exact⟨a,λ_ _=>⟨_,by rw[ConcN.get_map_set _ _ _ _ h2,hg];rfl,ha⟩⟩
   .exact⟨0,λh1 h2=>absurd ⟨h1,h2⟩ h⟩
  let T:bB->Nat:=λd=>(G d).choose
  let n:bB->Nat:=λd=>if i=gid C.n0 d then deafBehind (C.ds d) es else C.ds d
  let E:Cf Δ:={C with aw:=λd=>if i=gid C.n0 d then 0 else T d,ds:=n,q:=J}
  have v:∀d,born C.L d->Deaf (t++ofEvents i x.frame.fn x.frame.place es) (gid C.n0 d)=n d:=λd h=>by
   by_cases e:i=gid C.n0 d
   .simp only[n,φ e]
    rw[<-e,Deaf_own,e,c.deaf d h]
   .simp only[n,ζ e]
    rw[Deaf_other t (g':=i) e _ (λl F=>(f l F).1)];exact c.deaf d h
  refine⟨_,_,E.ms gs.size,K,.right _ (.right _ (.left _ _ (Sz B A))),E,_,w,sl,rfl,rfl,?_,by rw[D]⟩;refine⟨c.uz,by rw[D];exact c.size,c.tab,c.fuel,c.sh,λd I=>?_,c.V3,λj g h0 h1 hg=>?_,λj W=>?_,v,c.data,c.Jc,c.fin,λd h=>?_,c.lay,?_⟩
  .by_cases e:i=gid C.n0 d
   ·
    have Q:(C.L d).pc= .quit:=by
     rcases o with h|⟨M,_,_,U,h4⟩
     .cases d with
      |m=>exact absurd e u
      |a=>simp[gid] at e;omega
      |b=>simp[gid] at e;omega
     .rw[<-lL c.uz (U.symm.trans e)];exact h4
    refine⟨g',by rw[<-e];exact ConcN.get_map_set_same _ _ _ B,.inr (.inr ⟨Q,by simp[E,e],?_⟩)⟩;simp only[E,J,n,<-e,if_true];rw[e,c.deaf d I] at hq';simpa [e] using hq'
   .have⟨g,h1,h2⟩:=(G d).choose_spec I e
    refine⟨g,h1,?_⟩;simp only[E,J,n,ζ e,ζ (Ne.symm e)];exact h2
  .by_cases e:i=j
   .subst e
    rw[ConcN.get_map_set_same _ _ _ B] at hg;obtain rfl:=ac2 hg;simp only[E,J,if_true];rw[Deaf_own];exact hq'
   .rw[ConcN.get_map_set _ _ _ _ e] at hg
    obtain⟨y,hy,rfl⟩:=χ.1 hg;have H:=c.old j y h0 h1 hy;simp only[E,J,ζ (Ne.symm e)];rw[woken_quitsD H,Deaf_other t e _ (λl F=>(f l F).1)];exact H
  .rw[D] at W
   rw[Deaf_other t (g':=i) ϖ _ (λl F=>(f l F).1)];exact c.above j W
  .have⟨p,Z⟩:=c.rel d h
   by_cases e:i=gid C.n0 d
   .subst e
    exact⟨p,ConcN.RelBy.appOwn Z _ _ _ λj e V=> .inl (touch_mute (hmute e (ϵ V)))⟩
   .exact⟨p,ConcN.RelBy.appOther Z (λl F=>(f l F).1) e⟩
  .refine TI.mute c.ti u ?_ f
   rcases o with h|⟨M,h1,h2,U,_⟩
   .exact .inl h
   .exact .inr ⟨M,h2,h1,U⟩
def UA (T:Lo)(h:(hd T).pc≠.bad):iW (hd T).pc=1:=by rcases Gg T with e|e|e<;>first|(rw[e];rfl)|exact absurd e h
def TV {T:Lo}{s:Sh}{q:Lo×Sh}(h:q∈mv T s)(i:q.1.pc≠.bad)(c:EvStop X T q.1 es):deafBehind (iW T.pc) es=iW q.1.pc:=by
 have one:∀(d:Nat)(m:Mark),deafBehind d #[sK m]=match m with|.disable=>d+1|.enable=>d-1|_=>d:=λd m=>by cases m<;>rfl
 have g:=KJ T;have e:∀{a b:Nat},a=1->b=1->ConcM.BookOK X.Fd X.Wg 1 1 es->deafBehind a es=b:=λh1 h2 h=>by rw[h1,h2];exact h.2.1
 have f:=UA;have⟨k,j,t,l,o,it,n⟩:=T;have⟨r,ms,u,p⟩:=s;cases k<;>simp only[mv] at h<;>(repeat' split at h)<;>simp only[ac1,al7,or_false] at h<;>(first|contradiction|(obtain rfl:=h)|(rcases h with rfl|rfl))<;>
  (first
   |exact absurd rfl i
   |exact e rfl (f _ i) c.1
   |exact e rfl (by rw[g];rfl) c.1
   |exact e rfl (by rfl) c.1
   |(simp only[EvStop,kb] at c;simp only[c,one];rfl)
   |(simp[EvStop,kb] at c;simp only[c,one];rfl)
   |(refine e rfl ?_ c.1;simp only;split<;>rfl))
def Mf {n0:Nat}{RO:bB->Loc->Prop}{own:bB->Nat->Prop}{B:Nat}(c:Lay X S0 C.γ C.L B){T T':Lo}(f:EvStop X T T' es)(w:ou T.pc=false->r≠.m->True)(k:T.pc= .p1\/T.pc= .p2\/T.pc= .pw->r= .m){fn:ac0}{pos:String}:
  ∀o∈ofEvents (gid n0 r) fn pos es,OkOp n0 (AQ X S0) RO own (mA X) (wA X) B B r o/\∀z,o.act.touch? =some z->(AQ X S0 z.loc/\z.kind= .atomic)\/r= .m:=by
 intro o n;obtain⟨e,d,rfl⟩:=Go.Conc.mem_ofEvents n;have mark:∀(m:Mark),es=#[sK m]->(MemAct.mark m).touch? =none->m≠.release (mA X)->m≠.release (wA X)->(MemAct.mark m).low B->
   OkOp n0 (AQ X S0) RO own (mA X) (wA X) B B r {g:=gid n0 r,fn,pos,act:= .ofEvent e}/\∀z,(MemAct.ofEvent e).touch? =some z->(AQ X S0 z.loc/\z.kind= .atomic)\/r= .m:=λm h1 h2 s p q=>by
  rw[h1] at d;simp at d;subst d;have i:MemAct.ofEvent (sK m)= .mark m:=rfl;refine⟨⟨rfl,?_,?_,?_,λz b=>?_⟩,λz b=>?_⟩<;>simp only[i] at*
  .simpa using s
  .simpa using p
  .exact q
  .rw[h2] at b;cases b
  .rw[h2] at b;cases b
 have j:∀(m:Mark)(wr:Bool),es=#[sK m]->(MemAct.mark m).touch? =some ⟨.cell (NP X),wr,.said⟩->m≠.release (mA X)->m≠.release (wA X)->(MemAct.mark m).low B->r= .m->
   OkOp n0 (AQ X S0) RO own (mA X) (wA X) B B r {g:=gid n0 r,fn,pos,act:= .ofEvent e}/\∀z,(MemAct.ofEvent e).touch? =some z->(AQ X S0 z.loc/\z.kind= .atomic)\/r= .m:=λm wr h1 h2 s p q v=>by
  rw[h1] at d;simp at d;subst d;have i:MemAct.ofEvent (sK m)= .mark m:=rfl;refine⟨⟨rfl,?_,?_,?_,λz b=>?_⟩,λz b=> .inr v⟩<;>simp only[i] at*
  .simpa using s
  .simpa using p
  .exact q
  .rw[h2] at b
   obtain rfl:=ac2 b;exact .inl ⟨⟨_,rfl,.inr (.inl rfl)⟩,.inr ⟨rfl,v⟩⟩
 unfold EvStop at f;cases t:kb T T'<;>rw[t] at f<;>simp only at f
 .exact mark _ f rfl ϛ ϛ trivial
 .exact mark _ f rfl ϛ ϛ trivial
 .exact mark _ f rfl ϛ ϛ c.x5
 .exact mark _ f rfl ϛ ϛ c.x5
 .exact mark _ f rfl ϛ ϛ c.vZ
 .exact mark _ f rfl ϛ ϛ c.vZ
 .have:T.pc= .p1\/T.pc= .p2\/T.pc= .pw:=by
   revert t;unfold kb;cases T.pc<;>simp;split<;>simp
  exact j _ false f rfl ϛ ϛ c.vZ (k this)
 .have:T.pc= .p1\/T.pc= .p2\/T.pc= .pw:=by
   revert t;unfold kb;cases T.pc<;>simp;split<;>simp
  exact j _ true f rfl ϛ ϛ c.vZ (k this)
 .rcases f.1.1 e d with h1|h1|⟨a,z,rfl,ha⟩
  .have i:=ed h1
   refine⟨⟨rfl,?_,?_,?_,λz b=>?_⟩,λz b=>?_⟩<;>simp only[i] at*
   .simp
   .simp
   .trivial
   .cases b
   .cases b
  .have i:=ed h1
   refine⟨⟨rfl,?_,?_,?_,λz b=>?_⟩,λz b=>?_⟩<;>simp only[i] at*
   .simp
   .simp
   .trivial
   .cases b
   .cases b
  .have i:MemAct.ofEvent (⟨.cell a,z,true⟩:Event)= .access ⟨.cell a,z,true⟩:=by cases z<;>rfl
   have u:AQ X S0 (.cell a):=⟨a,rfl,ha.elim (λh=> .inr (.inr ⟨h,f.2 _ d a rfl h⟩)) λh=> .inr (.inl h)⟩
   refine⟨⟨rfl,?_,?_,?_,λy l=>?_⟩,λy l=>?_⟩<;>simp only[i] at*
   .simp
   .simp
   .show a.block<B
    rcases ha with h|h<;>rw[h]
    .exact c.x5
    .exact c.vZ
   .simp only[MemAct.touch?,af5] at l
    subst l;exact .inl ⟨u,.inl rfl⟩
   .simp only[MemAct.touch?,af5] at l
    subst l;exact .inl ⟨u,rfl⟩
end
def PG {T:Lo}{s:Sh}{q:Lo×Sh}(h:q∈mv T s):(q.1.pc= .ur↔T.pc= .la)/\(T.pc= .ur->q.1.pc= .ud)/\(past q.1.pc=true->past T.pc=true\/(T.pc= .out/\q.1.pc= .wk))/\(T.pc= .out->q.1.pc= .wk\/q.1.pc= .l0)/\q.1.pc≠.un/\(T.pc= .d4->q.1.pc= .quit)/\(q.1.pc= .quit->T.pc= .d1\/T.pc= .d4):=by
 have j:=Gg;have g:=KJ T;have f:∀{p e:Pc},e= .c2\/e= .sq\/e= .bad->p≠.la->p≠.ur->p≠.out->p≠.d4->(e= .ur↔p= .la)/\(p= .ur->e= .ud)/\(past e=true->past p=true\/(p= .out/\e= .wk))/\(p= .out->e= .wk\/e= .l0)/\e≠.un/\(p= .d4->e= .quit)/\(e= .quit->p= .d1\/p= .d4):=fun {p e} h a b c d=>by rcases h with rfl|rfl|rfl<;>simp[past,a,b,c,d]
 have⟨k,i,r,u,l,it,n⟩:=T;have⟨o,ms,t,m⟩:=s;cases k<;>simp only[mv] at h<;>(repeat' split at h)<;>simp only[ac1,al7,or_false] at h<;>(first|contradiction|(obtain rfl:=h)|(rcases h with rfl|rfl))<;>
  first
   |exact f (j _) ϛ ϛ ϛ ϛ
   |(simp[g,past];done)
   |(simp[past];done)
   |(simp only;split<;>simp[past])
def mv_nil {T:Lo}{s:Sh}(e:ou T.pc=true\/j3 T.pc=true)(h1:¬(T.pc= .g1\/T.pc= .g2))(h2:T.pc≠.aq)(b:T.pc≠.un)(a:T.pc≠.quit)(h:mv T s=[]):T.sleeps s=true:=by
 have⟨d,c,j,g,i,it,n⟩:=T;have⟨l,ms,k,f⟩:=s;cases d<;>simp[ou,j3] at e h1 h2 b a<;>simp only[mv] at h<;>(repeat' split at h)<;>first|(simp at h;done)|(simp[Lo.sleeps];assumption)
section
variable {L:bB->Lo}{s:Sh}{r1 r2:Nat}{q:Lo×Sh}
def yc.wake (h:yc L s r1 r2){r g:bB}(d:q∈mv (L r) s)(G:(L r).pc≠.un)(i:g≠r)(l:(L g).sleeps s=true):(L g).sleeps q.2=true\/(L r).pc= .us\/(L r).pc= .d4:=by
 have D:=h.inM.facts;have C:=h.Uq.facts;simp only[Lo.sleeps,Ϲ,ε,ai7] at l⊢
 have y:iz (L r).pc=true->q.2.ws=s.ws:=λj=>(yo j d).2.2
 have w:kR (L r).pc=true->q.2.ms=s.ms:=λj=>(yn j d).2.2.1
 have E:lH (L r).pc=true->q.2.ms=s.ms:=λj=>(Kg j d).2.2.1
 have A:lY (L r).pc=true->q.2=s:=λj=>(uB j d).1
 have p:(L r).pc= .out->q.2=s:=λF=>by
  simp only[mv,F] at d;rcases ac1.1 d with rfl|d
  .rfl
  .split at d
   .simp only[ae1] at d;subst d;rfl
   .simp at d
 have z:lY (L r).pc=true\/iz (L r).pc=true\/kR (L r).pc=true\/lH (L r).pc=true\/(L r).pc= .out:=by
  cases t:(L r).pc<;>simp[lY,iz,kR,lH]<;>(simp[mv,t] at d)
 rcases l with⟨h1,h2⟩|⟨h1,h2⟩
 ·
  have o:g≠.m:=λe=>by subst e;have:=h.st;rw[h1] at this;cases this
  have v:pm (L g)={L g with n:=0}:=by simp[pm,h1]
  have B:(pm (L g)).waits s.ms=true:=by rw[v];simp[Lo.waits,h1,h2]
  rcases z with c|c|c|c|c
  .rw[A c];exact .inl (.inl ⟨h1,h2⟩)
  .have m1:=(yo c d).1
   have x:r≠.m:=λe=>by subst e;have:=h.st;revert this c;cases (L .m).pc<;>simp[iz,ou]
   have k:(pm (L g)).waits q.2.ms=true\/(pm (L r)).pc= .us:=by
    cases r with
    |m=>exact absurd rfl x
    |a=>cases g with
     |m=>exact absurd rfl o
     |a=>exact absurd rfl i
     |b=>exact D.Ob _ m1 B
    |b=>cases g with
     |m=>exact absurd rfl o
     |a=>exact D.Oa _ m1 B
     |b=>exact absurd rfl i
   rcases k with f|f
   .rw[v] at f
    simp[Lo.waits,h1] at f;exact .inl (.inl ⟨h1,f⟩)
   .refine .inr (.inl ?_)
    revert f c
    cases t:(L r).pc<;>simp[iz,pm,t]
  .rw[w c];exact .inl (.inl ⟨h1,h2⟩)
  .rw[E c];exact .inl (.inl ⟨h1,h2⟩)
  .rw[p c];exact .inl (.inl ⟨h1,h2⟩)
 ·
  have hm:g= .m:=by
   cases g with
   |m=>rfl
   |a=>have:=h.wa;rw[h1] at this;cases this
   |b=>have:=h.wb;rw[h1] at this;cases this
  subst hm;have u:(p0 (L .m)).pc= .w3:=by simp[p0,h1]
  rcases z with c|c|c|c|c
  .rw[A c];exact .inl (.inr ⟨h1,h2⟩)
  .rw[y c];exact .inl (.inr ⟨h1,h2⟩)
  .have m1:=(yn c d).1
   have k:q.2.ws=0\/(pw (L r)).pc= .d4:=by
    cases r with
    |m=>exact absurd rfl i
    |a=>exact C.Ob u h2 _ m1
    |b=>exact C.Oa u h2 _ m1
   rcases k with f|f
   .exact .inl (.inr ⟨h1,f⟩)
   .refine .inr (.inr ?_)
    revert f c
    cases t:(L r).pc<;>simp[kR,pw,t]
  .exfalso
   cases r with
   |m=>exact i rfl
   |a=>have:=h.wa;revert this c;cases (L .a).pc<;>simp[lH,j3]
   |b=>have:=h.wb;revert this c;cases (L .b).pc<;>simp[lH,j3]
  .rw[p c];exact .inl (.inr ⟨h1,h2⟩)
end
section
variable {Δ:Type}{X:Cx Δ}{P:ω}{Post:Gh Δ->Θ->Ω->Prop}{S0:Nat->Prop}{C:Cf Δ}{gs:Array Θ}{w w':Ω}{t:Trace}{sl:Option (Nat×Nat)}{r:bB}{x x':Θ}{es:Array Event}
def sJ {a:Pc}{own:ϒ}{c:Nat}(h:jZ X a own c):own c\/(a= .la/\c=X.M):=by
 cases a<;>first|exact .inl h|exact .inl h.1|exact h.imp id λz=>⟨rfl,z⟩
def Lay.next (d:Lay X S0 C.γ C.L w.heap.size)(t:yc C.L C.s C.r1 C.r2)(hr:born C.L r){q:Lo×Sh}(I:q∈mv (C.L r) C.s)(v:¬((upd C.L r q.1 .a).pc= .ur/\(upd C.L r q.1 .b).pc= .ur)){i:Gh Δ}(h1:i.ro=(C.γ r).ro)(h2:i.own=jZ X (C.L r).pc (C.γ r).own)(u:(C.L r).pc= .la->r≠.m):Lay X S0 (upd C.γ r i) (upd C.L r q.1) w.heap.size:=by
 have⟨G,Q,_,_,M,_⟩:=PG I;have g:∀f c,(upd C.γ r i f).ro c->(C.γ f).ro c:=λf c h=>by
  by_cases e:f=r
  .subst e;rw[upd_same,h1] at h;exact h
  .rw[upd_ne _ _ e] at h;exact h
 have own':∀f c,(upd C.γ r i f).own c->(C.γ f).own c\/(f=r/\(C.L r).pc= .la/\c=X.M):=λf c h=>by
  by_cases e:f=r
  .subst e;rw[upd_same,h2] at h;exact(sJ h).imp id λz=>⟨rfl,z⟩
  .rw[upd_ne _ _ e] at h;exact .inl h
 have x:X.M≠X.Fd/\X.M≠X.Wg/\¬S0 X.M/\X.M<w.heap.size:=⟨d.fm.symm,d.mw,λe=>(d.s0 _ e).2.2.1 rfl,d.DC⟩
 have o:(C.L r).pc= .la->∀f,¬(C.γ f).own X.M:=λj f P=>by
  have l:=(d.xX f).1 P;have F:f≠r:=λe=>by subst e;rw[j] at l;cases l
  have n:f≠.m:=λe=>by subst e;exact ku t rfl l
  have k:=G.2 j
  apply v
  cases r with
  |m=>exact absurd rfl (u j)
  |a=>cases f with
   |m=>exact absurd rfl n
   |a=>exact absurd rfl F
   |b=>exact⟨by rw[upd_same];exact k,by rw[upd_ne _ _ ϛ];exact l⟩
  |b=>cases f with
   |m=>exact absurd rfl n
   |a=>exact⟨by rw[upd_ne _ _ ϛ];exact l,by rw[upd_same];exact k⟩
   |b=>exact absurd rfl F
 refine⟨λf c h=>?_,λf h=>d.roM f (g _ _ h),λf=>?_,λf A c h s=>?_,λf A c h s=>?_,λf c h=>?_,d.fm,d.fw,d.mw,d.s0,d.x5,d.DC,d.vZ⟩
 .rcases h with h|h
  .rcases own' _ _ h with h|⟨_,_,rfl⟩
   .exact d.sp f c (.inl h)
   .exact x
  .exact d.sp f c (.inr (g _ _ h))
 .by_cases e:f=r
  .subst e
   rw[upd_same,upd_same,h2,G];constructor
   .intro h
    cases H:(C.L f).pc<;>rw[H] at h<;>first|rfl|(have:=(d.xX f).1 h;rw[H] at this;cases this)|exact absurd rfl h.2
   .intro h;rw[h];exact .inr rfl
  .rw[upd_ne _ _ e,upd_ne _ _ e];exact d.xX f
 .rcases own' _ _ h with p|⟨B,D,y⟩<;>rcases own' _ _ s with E|⟨N,O,L⟩
  .exact d.apart _ _ c p E
  .subst L;exact absurd p (o O _)
  .subst y;exact absurd E (o D _)
  .rw[B,N]
 .rcases own' _ _ h with p|⟨B,D,y⟩
  .exact d.Ch _ _ c p (g _ _ s)
  .subst y;exact d.roM _ (g _ _ s)
 .have J:born (upd C.L r q.1) f:=by
   by_cases e:f=r
   .subst e;show(upd C.L f q.1 f).pc≠.un;rw[upd_same];exact M
   .show(upd C.L r q.1 f).pc≠.un
    rw[upd_ne _ _ e];rcases h with h|h
    .rcases own' _ _ h with h|⟨K,_⟩
     .exact d.lv f c (.inl h)
     .exact absurd K e
    .exact d.lv f c (.inr (g _ _ h))
  exact J
def stepMove (c:Core X P Post S0 C gs w t)(hr:born C.L r)(hx:gs[gid C.n0 r]? =some x)(ar:(C.L r).pc≠.quit)(J:C.ds r=iW (C.L r).pc){q:Lo×Sh}(hq:q∈mv (C.L r) C.s){k':Nat}(hk:C.k r=k'+1){cm:Δ}(aL:(C.L r).pc≠.ur->cm=(C.γ r).mine)(a5:(C.L r).pc= .ur->∃o,w.heap[X.M]? =some o/\Ef X r cm (C.γ r).other o)(Z:(C.L r).pc= .us\/(C.L r).pc= .d4->mayWake P x=true)(aB:q.1.pc= .wk->cm=X.fin r)(hs:stepG P (x6 r) x w= .go x' w' es)(ae:ShAt X w' q.2)(M:ConcM.Eff X.Fd X.Wg w w')(u:EvStop X (C.L r) q.1 es){d:Δ}(hd:(C.L r).pc= .la->d=(C.γ (Pt r)).mine)(O:After X P (AtR X P Post k' r) r q.1 {(C.γ r) with own:=jZ X (C.L r).pc (C.γ r).own,mine:=cm,other:=if(C.L r).pc= .la then d else(C.γ r).other} x' w'):
  ∃V ops aR,runT P (crowd gs w sl) (gid C.n0 r)=(.next V,ops)/\WZ aR (C.ms gs.size)/\Ee X P Post S0 C.n0 aR V (t++ops):=by
 have av:=runT_crowd_go (P:=P) (sl:=sl) (i:=gid C.n0 r) hx (by rw[DK c.uz];exact hs);have⟨bf,aq,ao,U,pX⟩:=c.tab.move hq hr;have⟨u1,u2,u3,u4,u5,u6,u7⟩:=PG hq;have bo:=c.fuel r hr;obtain⟨am,a8⟩:∃am,k'=am+1:=⟨k'-1,ϖ⟩
 generalize S:({(C.γ r) with own:=jZ X (C.L r).pc (C.γ r).own,mine:=cm,other:=if(C.L r).pc= .la then d else(C.γ r).other}:Gh Δ)=γ' at O;have g1:γ'.ro=(C.γ r).ro:=by rw[<-S]
 have g2:γ'.own=jZ X (C.L r).pc (C.γ r).own:=by rw[<-S]
 have g3:γ'.mine=cm:=by rw[<-S]
 have g4:γ'.other=if(C.L r).pc= .la then d else(C.γ r).other:=by rw[<-S]
 have P3:(C.L r).pc= .us\/(C.L r).pc= .d4->x'.status= .running:=λH=>by
  unfold After at O;split at O
  .have⟨qq,G⟩:=O
   exact ConcM.quitsD_running G
  .have⟨F,hl⟩:=O
   rw[a8] at hl;exact j0 hl
 have⟨a6,a7⟩:=c.others (x:=x) (x':=x') hr (λf _=>LX c.lay M ae f) (s':=q.2) λf a4 bd=>(c.tab.wake hq hr a4 bd).imp id λh=>⟨Z h,P3 h⟩
 have ac:((gs.map (woken P x x' w')).setIfInBounds (gid C.n0 r) x').size=gs.size:=ϛ
 have a9:ou (C.L r).pc=true->r= .m:=λh=>by
  cases r with
  |m=>rfl
  |a=>have:=c.tab.wa;revert this h;cases (C.L .a).pc<;>simp[ou,j3]
  |b=>have:=c.tab.wb;revert this h;cases (C.L .b).pc<;>simp[ou,j3]
 have MF:j3 (C.L r).pc=true->r≠.m:=λh e=>by subst e;have:=c.tab.st;revert this h;cases (C.L .m).pc<;>simp[ou,j3]
 have ag:=Mf (n0:=C.n0) (RO:=RK X C.γ C.L) (own:=λr=>(C.γ r).own) (r:=r) c.lay u (λ_ _=>trivial) (λh=>a9 (by rcases h with h|h|h<;>rw[h]<;>rfl)) (fn:=x.frame.fn) (pos:=x.frame.place);have ab:Deaf (t++ofEvents (gid C.n0 r) x.frame.fn x.frame.place es) (gid C.n0 r)=iW q.1.pc:=by
  rw[Deaf_own,c.deaf r hr,J];exact TV hq bf u
 have bb:=TI.app c.uz c.ap c.ti hr (ι _) (λop ho=>(ag op ho).1) (λB i z hi hz hm=> .inr (by
  rcases cE hz with⟨h,_⟩|⟨_,op,hop,_,hox⟩
  .omega
  .exact((ag op hop).2 z hox).resolve_right B))
 have ak:=ni U;have a0:=Lay.next c.lay c.tab hr hq ak g1 g2 (λh=>MF (by rw[h];rfl));have ad:w'.heap.size=w.heap.size:=M.size;have hM:w'.heap[X.M]? =w.heap[X.M]? :=M.block _ c.lay.fm.symm c.lay.mw;have n:∀f,born (upd C.L r q.1) f↔born C.L f:=λf=>by
  by_cases e:f=r
  .subst e;show(upd C.L f q.1 f).pc≠.un↔_;rw[upd_same];exact⟨λ_=>hr,λ_=>u5⟩
  .show(upd C.L r q.1 f).pc≠.un↔_;rw[upd_ne _ _ e];exact Iff.rfl
 have bc:nb (upd C.L r q.1)=nb C.L:=by
  have ha:=n .a;have I:=n .b;unfold nb;have e1:((upd C.L r q.1 .a).pc= .un)=((C.L .a).pc= .un):=propext ⟨λh=>ac9 λY=>ha.2 Y h,λh=>ac9 λY=>ha.1 Y h⟩;have e2:((upd C.L r q.1 .b).pc= .un)=((C.L .b).pc= .un):=propext ⟨λh=>ac9 λY=>I.2 Y h,λh=>ac9 λY=>I.1 Y h⟩
  simp only[e1,e2]
 have YX:∀f l,RK X (upd C.γ r γ') (upd C.L r q.1) f l->RK X C.γ C.L f l:=λf l h=>by
  refine⟨(n f).1 h.1,?_⟩;have h2:=h.2
  by_cases e:f=r
  .subst e;rw[upd_same,g1] at h2;exact h2
  .rw[upd_ne _ _ e] at h2;exact h2
 have a2:TI C.n0 (AQ X S0) (RK X (upd C.γ r γ') (upd C.L r q.1)) (born (upd C.L r q.1)) (λf=>(upd C.γ r γ' f).own) X.M (hold (upd C.L r q.1)) (mA X) (wA X) w'.heap.size (t++ofEvents (gid C.n0 r) x.frame.fn x.frame.place es):=by
  rw[ad];have bs:∀f b,grow (λr=>(C.γ r).own) w.heap.size w.heap.size r f b->(C.γ f).own b:=λf b h=>h.elim id λz=>ϖ
  have IQ:=TI.mono bb (RO':=RK X C.γ C.L) (lv':=born C.L) (own':=λr=>(C.γ r).own) (λ_ _ h=>h) (λ_=>Iff.rfl) (λf b h=> .inl h)
  by_cases A:(C.L r).pc= .la
  ·
   have B:=MF (by rw[A];rfl);have D:=u1.2 A;have R:es=#[sK (.acquire (mA X))]:=by simpa [EvStop,kb,A] using u
   have PC:∀f,(C.L f).pc≠.ur:=λf h=>by
    have hn:f≠r:=λe=>by subst e;rw[A] at h;cases h
    have an:f≠.m:=λe=>by subst e;exact ku c.tab rfl h
    apply ak
    cases r with
    |m=>exact absurd rfl B
    |a=>cases f with
     |m=>exact absurd rfl an
     |a=>exact absurd rfl hn
     |b=>exact⟨by rw[upd_same];exact D,by rw[upd_ne _ _ ϛ];exact h⟩
    |b=>cases f with
     |m=>exact absurd rfl an
     |a=>exact⟨by rw[upd_ne _ _ ϛ];exact h,by rw[upd_same];exact D⟩
     |b=>exact absurd rfl hn
   have hh:hold C.L=none:=by unfold hold;rw[ζ (PC .a),ζ (PC .b)]
   have K:hold (upd C.L r q.1)=some r:=by
    unfold hold;cases r with
    |m=>exact absurd rfl B
    |a=>rw[φ (by rw[upd_same];exact D)]
    |b=>rw[ζ (by rw[upd_ne _ _ ϛ];exact PC .a),φ (by rw[upd_same];exact D)]
   have e1:ofEvents (gid C.n0 r) x.frame.fn x.frame.place es=#[{g:=gid C.n0 r,fn:=x.frame.fn,pos:=x.frame.place,act:= .mark (.acquire (mA X))}]:=by rw[R,ofEvents_eq];simp[sK,MemAct.ofEvent]
   have N:=c.ti;rw[hh] at N IQ;rw[e1] at IQ⊢;have:=TI.acquire N hr (z:={g:=gid C.n0 r,fn:=x.frame.fn,pos:=x.frame.place,act:= .mark (.acquire (mA X))}) rfl rfl (by rw[c.deaf r hr,J,A];rfl) IQ;rw[K];refine TI.mono this YX n (λf b h=>?_)
   by_cases e:f=r
   .subst e
    simp only[upd_same,g2,A] at h;exact h.imp id λz=>⟨rfl,z⟩
   .simp only[upd_ne _ _ e] at h;exact .inl h
  by_cases v:(C.L r).pc= .ur
  ·
   have B:=MF (by rw[v];rfl);have R:es=#[sK (.releaseMerge (mA X))]:=by simpa [EvStop,kb,v] using u
   have hh:hold C.L=some r:=by
    unfold hold;cases r with
    |m=>exact absurd rfl B
    |a=>rw[φ v]
    |b=>rw[ζ λe=>ni c.tab ⟨e,v⟩,φ v]
   have K:hold (upd C.L r q.1)=none:=by
    unfold hold;have D:=u2 v;cases r with
    |m=>exact absurd rfl B
    |a=>rw[ζ (by rw[upd_same,D];simp),ζ (by rw[upd_ne _ _ ϛ];exactλe=>ni c.tab ⟨v,e⟩)]
    |b=>rw[ζ (by rw[upd_ne _ _ ϛ];exactλe=>ni c.tab ⟨e,v⟩),ζ (by rw[upd_same,D];simp)]
   have e1:ofEvents (gid C.n0 r) x.frame.fn x.frame.place es=#[{g:=gid C.n0 r,fn:=x.frame.fn,pos:=x.frame.place,act:= .mark (.releaseMerge (mA X))}]:=by rw[R,ofEvents_eq];simp[sK,MemAct.ofEvent]
   have N:=c.ti;rw[hh] at N IQ;rw[e1] at IQ⊢;have:=TI.release ((c.lay.xX r).2 v) N (y:={g:=gid C.n0 r,fn:=x.frame.fn,pos:=x.frame.place,act:= .mark (.releaseMerge (mA X))}) rfl rfl (by rw[c.deaf r hr,J,v];rfl) IQ;rw[K];refine TI.mono this YX n (λf b h=>?_)
   by_cases e:f=r
   .subst e
    simp only[upd_same,g2,v] at h;exact h
   .simp only[upd_ne _ _ e] at h
    exact⟨h,λI=>by subst I;exact e (c.lay.apart _ _ _ h ((c.lay.xX r).2 v))⟩
  .have K:hold (upd C.L r q.1)=hold C.L:=by
    have e1:∀f,((upd C.L r q.1 f).pc= .ur)=((C.L f).pc= .ur):=λf=>by
     by_cases e:f=r
     .subst e;rw[upd_same];exact propext ⟨λh=>absurd (u1.1 h) A,λh=>absurd h v⟩
     .rw[upd_ne _ _ e]
    unfold hold;simp only[e1]
   rw[K];refine TI.mono IQ YX n (λf b h=>?_)
   by_cases e:f=r
   .subst e
    simp only[upd_same,g2] at h;exact(sJ h).resolve_right λz=>A z.1
   .simp only[upd_ne _ _ e] at h;exact h
 have P2:∃F Q qq,Q<=1/\Sit X P Post k' r q.1 γ' F Q (iW q.1.pc) qq q.2 x' w'/\(q.1.pc≠.quit->True):=by
  unfold After at O;split at O
  .rename_i G
   have⟨qq,h⟩:=O;exact⟨.zero,0,qq,ϖ,.inr (.inr ⟨G,rfl,by rw[G];exact h⟩),λ_=>trivial⟩
  .rename_i G
   have⟨F,h⟩:=O;exact⟨F,1,0,ϖ,.inl ⟨G,rfl,rfl,h⟩,λ_=>trivial⟩
 have⟨F,Q,qq,_,P2,_⟩:=P2
 let T:Cf Δ:={C with L:=upd C.L r q.1,γ:=upd C.γ r γ',k:=upd C.k r k',ρ:=upd C.ρ r F,aw:=upd a6 r Q,ds:=upd C.ds r (iW q.1.pc),q:=λj=>if j=gid C.n0 r then qq else C.q j,s:=q.2,r1:=aq,r2:=ao}
 refine⟨_,_,T.ms gs.size,av,.left _ _ pX,T,_,w',sl,rfl,rfl,?_,by rw[ac]⟩;have P8:∀f,(C.L r).pc≠.ur->(upd C.γ r γ' f).mine=(C.γ f).mine:=λf h=>by
  by_cases e:f=r
  .subst e;rw[upd_same,g3];exact aL h
  .rw[upd_ne _ _ e]
 have bl:∀{f:bB},f≠.m->r≠.m->f≠r->Pt r=f:=fun {f} h1 h2 h3=>by cases r<;>cases f<;>simp_all [Pt]
 refine⟨c.uz,by rw[ac];show gs.size=C.n0+nb (upd C.L r q.1);rw[bc];exact c.size,U,λf E=>?_,ae,λf E=>?_,λf E=>?_,λi g h0 h1 hg=>?_,Ag c hr ac,λf E=>?_,λh1 h2=>?_,λf h=>?_,λf h=>?_,λf h=>?_,by rw[ad];exact a0,a2⟩
 .have I:=(n f).1 E
  show pY (upd C.L r q.1) aq ao<upd C.k r k' f
  by_cases e:f=r
  .subst e;rw[upd_same];omega
  .rw[upd_ne _ _ e];have:=c.fuel f I;omega
 .have I:=(n f).1 E
  by_cases e:f=r
  .subst e
   refine⟨x',ConcN.get_map_set_same _ _ _ (DR c hr),?_⟩;simp only[T,upd_same,if_true];exact P2
  .have⟨g,h1,h2⟩:=a7 f e I
   refine⟨g,h1,?_⟩;have e':gid C.n0 f≠gid C.n0 r:=λh=>e (lL c.uz h)
   simp only[T,upd_ne _ _ e,ζ e'];exact h2
 .have I:¬born C.L f:=λh=>E ((n f).2 h)
  have e:f≠r:=λe=>I (e▸hr)
  simp only[T,upd_ne _ _ e];exact c.V3 f I
 .have e:i≠gid C.n0 r:=Ne.symm (yu c.uz h0 h1 r)
  have:=c.olds (r:=r) (x:=x) (x':=x') (w':=w') (fn:=x.frame.fn) (pos:=x.frame.place) (es:=es) i g h0 h1 hg;simp only[T,ζ e];exact this
 .by_cases e:f=r
  .subst e;simp only[T,upd_same];exact ab
  .simp only[T,upd_ne _ _ e]
   exact xH c e ((n f).1 E)
 ·
  show ∃o,w'.heap[X.M]? =some o/\X.Dat (upd C.γ r γ' .a).mine (upd C.γ r γ' .b).mine o;rw[hM]
  by_cases v:(C.L r).pc= .ur
  .have B:=MF (by rw[v];rfl)
   have⟨o,h3,h4⟩:=a5 v;refine⟨o,h3,?_⟩;have h5:=c.Jc r v;rw[h5] at h4;cases r with
   |m=>exact absurd rfl B
   |a=>rw[upd_same,upd_ne _ _ ϛ,g3];exact h4
   |b=>rw[upd_same,upd_ne _ _ ϛ,g3];exact h4
  .have⟨o,h3,h4⟩:=c.data (λe=>by
    by_cases er:r= .a
    .exact v (er▸e)
    .exact h1 (by show(upd C.L r q.1 .a).pc= .ur;rw[upd_ne _ _ (Ne.symm er)];exact e)) (λe=>by
    by_cases er:r= .b
    .exact v (er▸e)
    .exact h2 (by show(upd C.L r q.1 .b).pc= .ur;rw[upd_ne _ _ (Ne.symm er)];exact e))
   exact⟨o,h3,by rw[P8 .a v,P8 .b v];exact h4⟩
 ·
  have h:(upd C.L r q.1 f).pc= .ur:=h;show(upd C.γ r γ' f).other=(upd C.γ r γ' (Pt f)).mine
  by_cases e:f=r
  .subst e
   rw[upd_same] at h;have A:=u1.1 h;have B:=MF (by rw[A];rfl);have ho:Pt f≠f:=by cases f<;>simp[Pt] at B⊢
   rw[upd_same,upd_ne _ _ ho,g4,φ A];exact hd A
  .rw[upd_ne _ _ e] at h⊢
   have be:(C.L r).pc≠.ur:=λv=>by
    have n1:f≠.m:=λz=>by subst z;exact ku c.tab rfl h
    have n2:=MF (by rw[v];rfl);cases r<;>cases f<;>simp_all [ni c.tab]
    .exact ni c.tab ⟨v,h⟩
    .exact ni c.tab ⟨h,v⟩
   rw[P8 _ be];exact c.Jc f h
 .have h:past (upd C.L r q.1 f).pc=true:=h
  show(upd C.γ r γ' f).mine=X.fin f
  by_cases e:f=r
  .subst e
   rw[upd_same] at h;rw[upd_same,g3];rcases u3 h with H|⟨_,H⟩
   .rw[aL (λv=>by rw[v] at H;cases H)];exact c.fin f H
   .exact aB H
  .rw[upd_ne _ _ e] at h⊢;exact c.fin f h
 .have h:past (upd C.L r q.1 f).pc=true:=h
  show ∃p,ConcN.RelBy (wA X) (t++ofEvents (gid C.n0 r) x.frame.fn x.frame.place es) (gid C.n0 f) p
  by_cases e:f=r
  .subst e
   rw[upd_same] at h;rcases u3 h with H|⟨ho,D⟩
   .have⟨p,a1⟩:=c.rel f H
    refine⟨p,ConcN.RelBy.appOwn a1 _ _ _ λj e R=>?_⟩;unfold EvStop at u;have aa:kb (C.L f) q.1= .dis\/kb (C.L f) q.1= .book:=by
     revert H ar
     cases W:(C.L f).pc<;>simp[past]<;>simp[kb,W]
    rcases aa with N|N
    .rw[N] at u
     simp only at u;subst u;have:=ϵ R;simp at this;subst this;exact .inl rfl
    .rw[N] at u
     simp only at u;have a3:Deaf t (gid C.n0 f)=1:=by
      rw[c.deaf f hr,J]
      revert H ar N
      cases W:(C.L f).pc<;>simp[past]<;>simp[kb,W,iW]
     rw[a3];rcases u.1.2.2 j e R with h5|h5
     .exact .inl h5
     .rcases u.1.1 e (ϵ R) with h6|h6|⟨a,z,rfl,_⟩
      .exact .inl (by rw[ed h6];rfl)
      .exact .inl (by rw[ed h6];rfl)
      .exact .inr ⟨⟨a,z,rfl⟩,h5⟩
   .have R:es=#[ConcR.mk (.releaseMerge (wA X))]:=by
     have:es=#[sK (.releaseMerge (wA X))]:=by simpa [EvStop,kb,ho,D] using u
     exact this
    subst R;exact⟨t.size,ConcN.RelBy.new (by rw[c.deaf f hr,J,ho];rfl) _ _⟩
  .rw[upd_ne _ _ e] at h
   have⟨p,H⟩:=c.rel f h;exact⟨p,zo c e H⟩
end
section
variable {L:bB->Lo}{s:Sh}{r1 r2:Nat}
def n9 {T:Lo}:(pw T).pc= .un↔T.pc= .un:=by cases a:T.pc<;>simp[pw,a]
def Dp {T:Lo}:(pw T).pc= .quit↔T.pc= .quit:=by cases a:T.pc<;>simp[pw,a]
def yc.WT (h:yc L s r1 r2):((L .a).pc= .un/\(L .b).pc= .un)\/((L .a).pc≠.un/\(L .b).pc= .un)\/((L .a).pc≠.un/\(L .b).pc≠.un):=by
 have a:=h.Uq.facts
 by_cases c1:(p0 (L .m)).pc= .x1\/(p0 (L .m)).pc= .g1
 .exact .inl ⟨n9.1 (a.un1 c1).1,n9.1 (a.un1 c1).2⟩
 by_cases c2:(p0 (L .m)).pc= .x2\/(p0 (L .m)).pc= .g2
 .exact .inr (.inl ⟨λe=>(a.un2 c2).1 (n9.2 e),n9.1 (a.un2 c2).2⟩)
 .have:=a.on (by rintro(x|x|x|x);exact c1 (.inl x);exact c1 (.inr x);exact c2 (.inl x);exact c2 (.inr x))
  exact .inr (.inr ⟨λe=>this.1 (n9.2 e),λe=>this.2 (n9.2 e)⟩)
end
section
variable {Δ:Type}{X:Cx Δ}{P:ω}{Post:Gh Δ->Θ->Ω->Prop}{S0:Nat->Prop}{C:Cf Δ}{gs:Array Θ}{w w':Ω}{t:Trace}{sl:Option (Nat×Nat)}{r:bB}{x x' child:Θ}{es:Array Event}
def Core.at (c:Core X P Post S0 C gs w t)(d:Nat):Core X P Post S0 C gs (w.at d) t:=
 ⟨c.uz,c.size,c.tab,c.fuel,c.sh,λr hr=>by
  have⟨g,h1,h2⟩:=c.sit r hr;have⟨k',a⟩:=c.kpos hr;rw[a] at h2⊢;exact⟨g,h1,h2.rely (RX.at X _ _ w d)⟩,c.V3,c.old,c.above,c.deaf,c.data,c.Jc,c.fin,c.rel,c.lay,c.ti⟩
def Core.who (c:Core X P Post S0 C gs w t){i:Nat}(a:i<gs.size):(∃r,born C.L r/\i=gid C.n0 r)\/(0<i/\i<C.n0):=by
 rcases Ϙ5 i with h0|h0
 .exact .inl ⟨.m,c.qY,h0⟩
 rcases ϐ5 i C.n0 with h1|h1
 .exact .inr ⟨h0,h1⟩
 rw[c.size] at a;unfold nb at a;rcases c.tab.WT with⟨ha,hb⟩|⟨ha,hb⟩|⟨ha,hb⟩
 .rw[φ ha,φ hb] at a;omega
 .rw[ζ ha,φ hb] at a
  exact .inl ⟨.a,ha,by simp only[gid];omega⟩
 .rw[ζ ha,ζ hb] at a
  rcases Nat.eq_or_lt_of_le h1 with h|h
  .exact .inl ⟨.a,ha,h.symm⟩
  .exact .inl ⟨.b,hb,by simp only[gid];omega⟩
def Core.awake (c:Core X P Post S0 C gs w t):∀g∈gs,awake g:=by
 intro g hg;obtain⟨i,a,rfl⟩:=ϑ6.1 hg;rcases c.who a with⟨r,hr,rfl⟩|⟨h0,h1⟩
 .have⟨g,h2,b⟩:=c.sit r hr
  have⟨k',d⟩:=c.kpos hr;rw[d] at b;have:gs[gid C.n0 r]=g:=by simpa [τ a] using h2
  rw[this];exact awake_of b.status
 .exact awake_of ((c.old i _ h0 h1 (τ a)).status.elim .inl λx=> .inr (.inr x))
def Core.SI (c:Core X P Post S0 C gs w t):∃(i:Nat)(g:Θ),gs[i]? =some g/\g.status= .running:=by
 have x:=c.tab.inM.facts;have A:=c.tab.Uq.facts
 have one:∀r,born C.L r->(C.L r).pc≠.quit->(∃(i:Nat)(g:Θ),gs[i]? =some g/\g.status= .running)\/(C.L r).sleeps C.s=true:=λr hr o=>by
  have⟨g,h1,h2⟩:=c.sit r hr;have⟨k',B⟩:=c.kpos hr;rw[B] at h2;rcases h2 with⟨_,_,_,h⟩|⟨_,_,_,h,_⟩|⟨h,_⟩
  .exact .inl ⟨_,g,h1,j0 h⟩
  .exact .inr h
  .exact absurd h o
 have j:∀r,r≠.m->(C.L r).sleeps C.s=true->(pm (C.L r)).waits C.s.ms=true:=λr s h=>by
  simp only[Lo.sleeps,Ϲ,ε,ai7] at h;rcases h with⟨h1,h2⟩|⟨h1,_⟩
  .simp[Lo.waits,pm,h1,h2]
  .exfalso
   cases r with
   |m=>exact s rfl
   |a=>have:=c.tab.wa;rw[h1] at this;cases this
   |b=>have:=c.tab.wb;rw[h1] at this;cases this
 have l:∀r d,r≠.m->d≠.m->born C.L r->(C.L r).pc≠.quit->((pm (C.L r)).waits C.s.ms=true->(pm (C.L d)).waits C.s.ms=false/\(pm (C.L d)).pc≠.out)->∃(i:Nat)(g:Θ),gs[i]? =some g/\g.status= .running:=λr d h1 u h2 n k=>by
  rcases one r h2 n with h|h
  .exact h
  .have⟨f,y⟩:=k (j r h1 h)
   have z:born C.L d:=λe=>y (by simp[pm,e])
   have o:(C.L d).pc≠.quit:=λe=>y (by simp[pm,e])
   rcases one d z o with p|p
   .exact p
   .rw[j d u p] at f;cases f
 have q:(C.L .m).pc≠.quit:=ku c.tab rfl;rcases one .m c.qY q with h|h
 .exact h
 simp only[Lo.sleeps,Ϲ,ε,ai7] at h;rcases h with⟨h1,_⟩|⟨h1,h2⟩
 .exact absurd h1 (ku c.tab rfl)
 .have v:∀T:Lo,live (pw T)=true->T.pc≠.un/\T.pc≠.quit:=λT h=>by
   simp only[live,ε,bne_iff_ne,ne_eq] at h;exact⟨λe=>h.1 (n9.2 e),λe=>h.2 (Dp.2 e)⟩
  rcases A.sleep (by simp[p0,h1]) h2 with n|n
  .have⟨k,f⟩:=v _ n
   exact l .a .b ϛ ϛ k f x.Xt
  .have⟨k,f⟩:=v _ n
   exact l .b .a ϛ ϛ k f x.Xs
def Xo (c:Core X P Post S0 C gs w t)(hx:gs[0]? =some x)(hg:(C.L .m).pc= .g1\/(C.L .m).pc= .g2){k':Nat}(hk:C.k .m=k'+1){cm:Δ}(a4:cm=(C.γ .m).mine)(hl:RL X P (BE X P Post k') (C.L .m) {(C.γ .m) with mine:=cm} x w)(ae:C.ds .m=0):
  ∃Q ops an,runT P (crowd gs w sl) 0=(.next Q,ops)/\WZ an (C.ms gs.size)/\Ee X P Post S0 C.n0 an Q (t++ops):=by
 subst a4;have⟨_,_,g',child,hs,M,U⟩:=hl;have R:=runT_crowd_spawn (P:=P) (sl:=sl) (i:=0) hx hs;have⟨K,B,ac,pX⟩:=c.tab.go (N:=X.N (gB (C.L .m).pc)) hg (c.V3 _ (by
  intro H;have:=c.tab.WT;rcases hg with h|h
  .have FG:=c.tab.Uq.facts
   have:=(FG.un1 (.inr (by simp[p0,h]))).1;rw[h] at H;exact H (n9.1 this)
  .have FG:=c.tab.Uq.facts
   have:=(FG.un2 (.inr (by simp[p0,h]))).2;rw[h] at H;exact H (n9.1 this))).2
 have FG:=c.tab.Uq.facts
 have MH:gid C.n0 (gB (C.L .m).pc)=gs.size:=by
  rw[c.size];unfold nb;rcases hg with h|h
  .have h1:=FG.un1 (.inr (by simp[p0,h]))
   rw[φ (n9.1 h1.1),φ (n9.1 h1.2),h];rfl
  .have h1:=FG.un2 (.inr (by simp[p0,h]))
   rw[ζ (λe=>h1.1 (n9.2 e)),φ (n9.1 h1.2),h];rfl
 have A:gB (C.L .m).pc≠.m:=by rcases hg with h|h<;>rw[h]<;>simp[gB]
 have T:(ju (C.L .m).pc).pc= .k2\/(ju (C.L .m).pc).pc= .kw:=by rcases hg with h|h<;>rw[h]<;>simp[ju]
 generalize bc:gB (C.L .m).pc=n at*;generalize bd:ju (C.L .m).pc=S at*;have Y:fS S.pc=false:=by rcases T with h|h<;>rw[h]<;>rfl
 have a9:iW S.pc=0:=by rcases T with h|h<;>rw[h]<;>rfl
 have Qd:S.pc≠.ur/\S.pc≠.un/\S.pc≠.quit/\past S.pc=false:=by rcases T with h|h<;>rw[h]<;>simp[past]
 have MM:0<gs.size:=(Ψ.1 hx).1
 let L':bB->Lo:=upd (upd C.L .m S) n (at_ .out (X.N n))
 let J:Gh Δ:=given (C.γ .m)
 let q:bB->Gh Δ:=upd (upd C.γ .m J) n {J with mine:=X.c0 n}
 have Lm:L' .m=S:=by simp only[L'];rw[upd_ne _ _ (Ne.symm A),upd_same]
 have W:L' n=at_ .out (X.N n):=upd_same ..;have O:∀d,d≠.m->d≠n->L' d=C.L d:=λd h1 h2=>by simp only[L'];rw[upd_ne _ _ h2,upd_ne _ _ h1]
 have Gm:q .m=J:=by simp only[q];rw[upd_ne _ _ (Ne.symm A),upd_same]
 have Gc:q n={J with mine:=X.c0 n}:=upd_same ..;have E:∀d,d≠.m->d≠n->q d=C.γ d:=λd h1 h2=>by simp only[q];rw[upd_ne _ _ h2,upd_ne _ _ h1]
 have aa:¬born C.L n:=λh=>h K
 have s:∀d,born L' d↔born C.L d\/d=n:=λd=>by
  by_cases e2:d=n
  .subst e2
   refine⟨λ_=> .inr rfl,λ_=>?_⟩;show(L' d).pc≠.un;rw[W];simp
  .by_cases e1:d= .m
   .subst e1
    refine⟨λ_=> .inl c.qY,λ_=>?_⟩;show(L' .m).pc≠.un;rw[Lm];exact Qd.2.1
   .show(L' d).pc≠.un↔_
    rw[O d e1 e2];exact⟨.inl,λh=>h.resolve_right e2⟩
 have a3:nb L'=nb C.L+1:=by
  unfold nb;cases n with
  |m=>exact absurd rfl A
  |a=>
   have e:(at_ .out (X.N .a)).pc≠.un:=ϛ
   simp only[W,O .b ϛ ϛ,φ K,ζ e]<;>omega
  |b=>
   have e:(at_ .out (X.N .b)).pc≠.un:=ϛ
   simp only[W,O .a ϛ ϛ,φ K,ζ e]<;>omega
 have pP:∀d,(q d).mine=(C.γ d).mine:=λd=>by
  by_cases e2:d=n
  .subst e2;rw[Gc];exact(c.V3 d aa).1.symm
  .by_cases e1:d= .m
   .subst e1;rw[Gm];rfl
   .rw[E d e1 e2]
 have a6:¬(C.γ .m).own X.M:=λh=>ku c.tab rfl ((c.lay.xX .m).1 h)
 have own':∀d b,(q d).own b->(C.γ d).own b/\d≠.m/\d≠n:=λd b h=>by
  by_cases e2:d=n
  .subst e2;rw[Gc] at h;exact h.elim
  .by_cases e1:d= .m
   .subst e1;rw[Gm] at h;exact h.elim
   .rw[E d e1 e2] at h;exact⟨h,e1,e2⟩
 have G:∀d b,(q d).ro b->((d= .m\/d=n)/\((C.γ .m).ro b\/(C.γ .m).own b))\/(d≠.m/\d≠n/\(C.γ d).ro b):=λd b h=>by
  by_cases e2:d=n
  .subst e2;rw[Gc] at h;exact .inl ⟨.inr rfl,h⟩
  .by_cases e1:d= .m
   .subst e1;rw[Gm] at h;exact .inl ⟨.inl rfl,h⟩
   .rw[E d e1 e2] at h;exact .inr ⟨e1,e2,h⟩
 have MG:∀d,(L' d).pc= .ur↔(C.L d).pc= .ur/\d≠.m/\d≠n:=λd=>by
  by_cases e2:d=n
  .subst e2;rw[W];simp
  .by_cases e1:d= .m
   .subst e1;rw[Lm];exact⟨λh=>absurd h Qd.1,λh=>absurd rfl h.2.1⟩
   .rw[O d e1 e2];exact⟨λh=>⟨h,e1,e2⟩,λh=>h.1⟩
 have Z:∀d,(C.L d).pc= .ur->d≠.m/\d≠n:=λd h=>⟨λe=>by subst e;exact ku c.tab rfl h,λe=>by subst e;rw[K] at h;cases h⟩
 have V:hold L'=hold C.L:=by
  have e1:∀d,((L' d).pc= .ur)=((C.L d).pc= .ur):=λd=>propext ⟨λh=>((MG d).1 h).1,λh=>(MG d).2 ⟨h,Z d h⟩⟩
  unfold hold;simp only[e1]
 have ar:Lay X S0 q L' w.heap.size:=by
  refine⟨λd b h=>?_,λd h=>?_,λd=>?_,λd aB b h h'=>c.lay.apart _ _ b (own' _ _ h).1 (own' _ _ h').1,λd aB b h h'=>?_,λd b h=>?_,c.lay.fm,c.lay.fw,c.lay.mw,c.lay.s0,c.lay.x5,c.lay.DC,c.lay.vZ⟩
  .rcases h with h|h
   .exact c.lay.sp d b (.inl (own' _ _ h).1)
   .rcases G _ _ h with⟨_,h|h⟩|⟨_,_,h⟩
    .exact c.lay.sp .m b (.inr h)
    .exact c.lay.sp .m b (.inl h)
    .exact c.lay.sp d b (.inr h)
  .rcases G _ _ h with⟨_,h|h⟩|⟨_,_,h⟩
   .exact c.lay.roM _ h
   .exact a6 h
   .exact c.lay.roM _ h
  .rw[MG]
   constructor
   .intro h;exact⟨(c.lay.xX d).1 (own' _ _ h).1,(own' _ _ h).2⟩
   .intro⟨h,h1,h2⟩;rw[E d h1 h2];exact(c.lay.xX d).2 h
  .have⟨h1,h2,h3⟩:=own' _ _ h
   rcases G _ _ h' with⟨_,h4|h4⟩|⟨_,_,h4⟩
   .exact c.lay.Ch _ _ b h1 h4
   .exact h2 (c.lay.apart _ _ b h1 h4)
   .exact c.lay.Ch _ _ b h1 h4
  .refine(s d).2 ?_
   rcases h with h|h
   .exact .inl (c.lay.lv d b (.inl (own' _ _ h).1))
   .rcases G _ _ h with⟨e,_⟩|⟨_,_,h⟩
    .rcases e with e|e
     .exact .inl (e▸c.qY)
     .exact .inr e
    .exact .inl (c.lay.lv d b (.inr h))
 have ad:((ofEvents 0 x.frame.fn x.frame.place #[]).push {g:=0,fn:=x.frame.fn,pos:=x.frame.place,act:= .go gs.size}).push {g:=gs.size,fn:=child.frame.fn,pos:=x.frame.place,act:= .start}=
   #[({g:=0,fn:=x.frame.fn,pos:=x.frame.place,act:= .go gs.size}:MemOp),{g:=gs.size,fn:=child.frame.fn,pos:=x.frame.place,act:= .start}]:=by rw[ofEvents_none];rfl
 rw[ad] at R;have F:∀op∈(#[({g:=0,fn:=x.frame.fn,pos:=x.frame.place,act:= .go gs.size}:MemOp),{g:=gs.size,fn:=child.frame.fn,pos:=x.frame.place,act:= .start}]:Trace),op.act≠.mark .disable/\op.act≠.mark .enable:=by
  intro op ho;simp at ho;rcases ho with rfl|rfl<;>simp
 have aL:=TI.fork c.qY A c.ti (x:={g:=0,fn:=x.frame.fn,pos:=x.frame.place,act:= .go gs.size}) (y:={g:=gs.size,fn:=child.frame.fn,pos:=x.frame.place,act:= .start}) ⟨rfl,by rw[MH]⟩ ⟨MH.symm,rfl⟩
  (by have:=c.deaf .m c.qY;rw[ae] at this;exact this) (by rw[MH];exact c.above _ (ι _)) c.uz (λi g I e=>by
   subst e;have a1:C.n0<=gid C.n0 n:=by cases n<;>simp[gid] at A⊢
   have⟨d,h1,h2,h3⟩:=c.ti.ids i _ I a1;exact aa (lL c.uz h3▸h2))
 have⟨ao,a8⟩:=M (pY L' C.r1 B+1);have⟨aR,a5⟩:=U;have bb:=c.fuel .m c.qY
 let C':Cf Δ:={C with L:=L',γ:=q,k:=upd (upd C.k .m k') n (pY L' C.r1 B+1),ρ:=upd (upd C.ρ .m aR) n ao,aw:=upd (upd C.aw .m 1) n 1,ds:=upd C.ds n 0,r2:=B}
 have am:((gs.setIfInBounds 0 g').push child).size=gs.size+1:=ϛ
 have ab:∀{α:Type}(f:bB->α)(u v:α)(d:bB),d≠.m->d≠n->upd (upd f .m u) n v d=f d:=λf u v d h1 h2=>by rw[upd_ne _ _ h2,upd_ne _ _ h1]
 have V2:∀{α:Type}(f:bB->α)(u v:α),upd (upd f .m u) n v .m=u:=λf u v=>by rw[upd_ne _ _ (Ne.symm A),upd_same]
 have a0:((gs.setIfInBounds 0 g').push child)[0]? =some g':=by rw[ac5 (by simpa using MM)];simp[MM]
 have a2:((gs.setIfInBounds 0 g').push child)[gs.size]? =some child:=by
  have:gs.size=(gs.setIfInBounds 0 g').size:=ϛ
  rw[this];exact Array.getElem?_push_size
 have ag:∀i,i≠0->i≠gs.size->((gs.setIfInBounds 0 g').push child)[i]? =gs[i]? :=λi h1 h2=>by
  rw[Array.getElem?_push];rw[ζ (by simpa using h2),ab1 (Ne.symm h1)]
 have a7:pY L' C.r1 B<pY C.L C.r1 C.r2:=pX;refine⟨_,_,C'.ms (gs.size+1),R,.left _ _ a7,C',_,w,sl,rfl,rfl,?_,by rw[am]⟩;refine⟨c.uz,by rw[am,c.size];show C.n0+nb C.L+1=C.n0+nb L';rw[a3];omega,ac,λd D=>?_,c.sh,λd D=>?_,λd D=>?_,λi g h0 h1 I=>?_,λj hj=>?_,λd D=>?_,λh1 h2=>?_,λd h=>?_,λd h=>?_,λd h=>?_,ar,?_⟩
 .show pY L' C.r1 B<upd (upd C.k .m k') n (pY L' C.r1 B+1) d
  by_cases e2:d=n
  .subst e2;rw[upd_same];omega
  .by_cases e1:d= .m
   .subst e1;rw[V2];omega
   .rw[ab _ _ _ _ e1 e2]
    have:=c.fuel d (((s d).1 D).resolve_right e2);omega
 .by_cases e2:d=n
  .subst e2
   refine⟨child,by show _[gid C.n0 d]? =_;rw[MH];exact a2,.inl ?_⟩;simp only[C',upd_same,W,Gc];refine⟨ϛ,rfl,trivial,?_⟩;have aq:AtR X P Post (pY L' C.r1 B+1) d=KX X P (pY L' C.r1 B+1) d:=by cases d<;>first|rfl|exact absurd rfl A
   have hM:x6 d=false:=by cases d<;>first|rfl|exact absurd rfl A
   rw[aq,hM];exact a8
  .by_cases e1:d= .m
   .subst e1
    refine⟨g',a0,.inl ?_⟩;simp only[C',V2,Lm,Gm,upd_ne _ _ (Ne.symm A)];refine⟨Qd.2.2.1,by rw[a9];exact ae,trivial,?_⟩;rw[Y];exact a5
   .have⟨g,h1,h2⟩:=c.sit d (((s d).1 D).resolve_right e2)
    have ak:gid C.n0 d≠0:=Ky c.uz e1;have av:gid C.n0 d≠gs.size:=λh=>e2 (lL c.uz (h.trans MH.symm))
    refine⟨g,by rw[ag _ ak av];exact h1,?_⟩;simp only[C',ab _ _ _ _ e1 e2,O d e1 e2,E d e1 e2,upd_ne _ _ e2];exact h2
 .have H:¬born C.L d:=λh=>D ((s d).2 (.inl h))
  have e2:d≠n:=λe=>D ((s d).2 (.inr e))
  have e1:d≠.m:=λe=>H (e▸c.qY)
  simp only[C',O d e1 e2,E d e1 e2];exact c.V3 d H
 .have be:i<gs.size:=by rw[c.size];have:i<C.n0:=h1;omega
  rw[ag i ϖ ϖ] at I;rw[ConcN.Deaf_still _ _ _ F];exact c.old i g h0 h1 I
 .rw[ConcN.Deaf_still _ _ _ F]
  exact c.above j ϖ
 .rw[ConcN.Deaf_still _ _ _ F]
  show Deaf t (gid C.n0 d)=upd C.ds n 0 d
  by_cases e2:d=n
  .subst e2;rw[upd_same,MH];exact c.above _ (ι _)
  .rw[upd_ne _ _ e2];exact c.deaf d (((s d).1 D).resolve_right e2)
 .show ∃o,w.heap[X.M]? =some o/\X.Dat (q .a).mine (q .b).mine o
  rw[pP,pP];exact c.data (λh=>h1 ((MG .a).2 ⟨h,Z _ h⟩)) (λh=>h2 ((MG .b).2 ⟨h,Z _ h⟩))
 .have⟨h1,h2,h3⟩:=(MG d).1 h
  show(q d).other=(q (Pt d)).mine;rw[pP,E d h2 h3];exact c.Jc d h1
 .have h:past (L' d).pc=true:=h
  have e2:d≠n:=λe=>by rw[e,W] at h;cases h
  have e1:d≠.m:=λe=>by rw[e,Lm,Qd.2.2.2] at h;cases h
  rw[O d e1 e2] at h;show(q d).mine=_;rw[pP];exact c.fin d h
 .have h:past (L' d).pc=true:=h
  have e2:d≠n:=λe=>by rw[e,W] at h;cases h
  have e1:d≠.m:=λe=>by rw[e,Lm,Qd.2.2.2] at h;cases h
  rw[O d e1 e2] at h;have⟨p,hp⟩:=c.rel d h;refine⟨p,hp.app λi hi I hc=>?_⟩;have⟨z,hz,_⟩:=hc;rcases cE hz with⟨h5,_⟩|⟨_,op,hop,_,hox⟩
  .omega
  .simp at hop
   rcases hop with rfl|rfl<;>cases hox
 .show TI C.n0 (AQ X S0) (RK X q L') (born L') (λr=>(q r).own) X.M (hold L') (mA X) (wA X) w.heap.size _
  rw[V];refine TI.mono aL (λd l h=>?_) s own'
  by_cases e:d= .m\/d=n
  .rw[φ e]
   rcases h.2 with⟨b,H,hin⟩|hcell
   .rcases G _ _ H with⟨_,h5|h5⟩|⟨h6,h7,_⟩
    .exact .inl ⟨c.qY,.inl ⟨b,h5,hin⟩⟩
    .exact .inr ⟨b,h5,hin⟩
    .exact absurd e (λz=>z.elim h6 h7)
   .exact .inl ⟨c.qY,.inr hcell⟩
  .rw[ζ e]
   refine⟨((s d).1 h.1).resolve_right λz=>e (.inr z),?_⟩;rcases h.2 with⟨b,H,hin⟩|hcell
   .rcases G _ _ H with⟨h5,_⟩|⟨_,_,h5⟩
    .exact absurd h5 e
    .exact .inl ⟨b,h5,hin⟩
   .exact .inr hcell
structure Joined (X:Cx Δ)(P:ω)(Post:Gh Δ->Θ->Ω->Prop)(S0:Nat->Prop)(n0:Nat)(gs:Array Θ)(w:Ω)(t:Trace):Prop where
 size:gs.size=n0+2
 post:∃g γ,gs[0]? =some g/\Post γ g w
 ak0:∃q,Leavers P t gs q
 past:Past (AQ X S0) w.heap.size t
 ids:∀op∈t,op.g<n0+2
def Xp (c:Core X P Post S0 C gs w t)(J:gs[0]? =some x)(hg:(C.L .m).pc= .aq)(z:C.ds .m=0){γ:Gh Δ}(v:W2 X P Post γ x w):
  ∃l ops,runT P (crowd gs w sl) 0=(.next (crowd l w sl),ops)/\Joined X P Post S0 C.n0 l w (t++ops):=by
 have K:=c.tab.Uq.facts;have F:=K.fin (by simp[p0,hg]);have ha:=Dp.1 F.1;have p:=Dp.1 F.2;have⟨o,h1,h2⟩:=c.data (by rw[ha];simp) (by rw[p];simp);rw[c.fin .a (by rw[ha];rfl),c.fin .b (by rw[p];rfl)] at h2;have⟨_,_,v⟩:=v;have⟨g',L,b⟩:=v o h1 h2;have k:=runT_crowd_go (P:=P) (sl:=sl) (i:=0) J (by simpa using L)
 have N:0<gs.size:=(Ψ.1 J).1;have n:∀r,r≠.m->born C.L r->(C.L r).pc= .quit/\r≠.m:=λr h _=>by cases r<;>first|exact absurd rfl h|exact⟨ha,h⟩|exact⟨p,h⟩
 have e1:ofEvents 0 x.frame.fn x.frame.place #[sK (.acquire (wA X))]=#[{g:=0,fn:=x.frame.fn,pos:=x.frame.place,act:= .mark (.acquire (wA X))}]:=by rw[ofEvents_eq];simp[sK,MemAct.ofEvent]
 have f:((gs.map (woken P x g' w)).setIfInBounds 0 g').size=gs.size:=ϛ
 have E:Deaf t 0=0:=by have:=c.deaf .m c.qY;rw[z] at this;exact this
 refine⟨_,_,k,⟨?_,⟨g',γ,by simp[N],b⟩,⟨C.q,λi g q m=>?_,λj I=>?_⟩,?_,λu a=>?_⟩⟩
 .rw[f,c.size]
  unfold nb;rw[ζ (by rw[ha];simp),ζ (by rw[p];simp)]
 .rw[ConcN.get_map_set _ _ _ _ ϖ] at m
  obtain⟨y,B,rfl⟩:=χ.1 m;have s:i<gs.size:=(Ψ.1 B).1;have G:QuitsD P (C.q i) (Deaf t i) y:=by
   rcases c.who s with⟨r,hr,rfl⟩|⟨h3,h4⟩
   .have A:r≠.m:=λe=>by subst e;exact absurd rfl (Nat.ne_of_gt q)
    have⟨g,H,O⟩:=c.sit r hr;rw[B] at H;obtain rfl:=ac2 H;have d:=(n r A hr).1;rw[c.deaf r hr];rcases O with⟨h7,_⟩|⟨h7,_⟩|⟨_,_,h7⟩
    .exact absurd d h7
    .exact absurd d h7
    .exact h7
   .exact c.old i y h3 h4 B
  rw[woken_quitsD G,Deaf_other t (g':=0) ϖ _ xp];exact G
 .rw[f] at I
  rw[Deaf_other t (g':=0) ϖ _ xp];exact c.above j I
 .rw[e1]
  exact TI.join c.uz c.ti rfl rfl E c.lay.vZ λr hr D=>c.rel r (by rw[(n r hr D).1];rfl)
 .have Q:=c.uz
  rcases ai4.1 a with a|a
  .rcases ϐ5 u.g C.n0 with h|h
   .omega
   .have⟨i,M⟩:=Array.mem_iff_getElem?.1 a
    have⟨r,_,_,e⟩:=c.ti.ids i u.g (by simp[Trace.g?,M]) h;rw[e];cases r<;>simp[gid]
  .have:=xp u a
   omega
def Ou (c:Core X P Post S0 C gs w t):
  (∃N ops x,stepT P (crowd gs w sl)=(.next N,ops)/\WZ x (C.ms gs.size)/\Ee X P Post S0 C.n0 x N (t++ops))\/
  ∃l w' u ops,stepT P (crowd gs w sl)=(.next (crowd l w' u),ops)/\Joined X P Post S0 C.n0 l w' (t++ops):=by
 have⟨i,g,d,u,y,hg,Z⟩:=crowd_pick (P:=P) (w:=w) (sl:=sl) c.awake c.SI;rw[Z];have c:=c.at d;generalize w.at d=w at c;have W:i<gs.size:=(Ψ.1 y).1;rcases c.who W with⟨r,hr,rfl⟩|⟨h0,h1⟩
 .have⟨g',L,hs⟩:=c.sit r hr
  rw[y] at L;obtain rfl:=ac2 L;have⟨k',Y⟩:=c.kpos hr
  have Rx:C.aw r=1->(C.L r).pc≠.quit->C.ds r=iW (C.L r).pc->(∀w₁,RX X (C.γ r).ro (C.γ r).own w w₁->eK (AtR X P Post (C.k r) r) (C.L r) (C.γ r) (C.γ r).own g w₁)->
    (∃N ops x,runT P (crowd gs w u) (gid C.n0 r)=(.next N,ops)/\WZ x (C.ms gs.size)/\Ee X P Post S0 C.n0 x N (t++ops))\/
    ∃l w' K ops,runT P (crowd gs w u) (gid C.n0 r)=(.next (crowd l w' K),ops)/\Joined X P Post S0 C.n0 l w' (t++ops):=λab E z v=>by
   have⟨cm,H,A⟩:=v w (RX.refl X _ _ w);rw[Y] at A;have R:ou (C.L r).pc=true->r= .m:=λh=>by
    cases r with
    |m=>rfl
    |a=>have:=c.tab.wa;revert this h;cases (C.L .a).pc<;>simp[ou,j3]
    |b=>have:=c.tab.wb;revert this h;cases (C.L .b).pc<;>simp[ou,j3]
   by_cases k:(C.L r).pc= .g1\/(C.L r).pc= .g2
   .obtain rfl:=R (by rcases k with h|h<;>rw[h]<;>rfl)
    have j:BE X P Post (k'+1) (C.L .m) _ g w:=A;unfold BE at j;rw[φ k] at j;exact .inl (Xo c y k Y (H (by rcases k with h|h<;>rw[h]<;>simp)) j (by rw[z];rcases k with h|h<;>rw[h]<;>rfl))
   by_cases p:(C.L r).pc= .aq
   .obtain rfl:=R (by rw[p];rfl)
    have j:BE X P Post (k'+1) (C.L .m) _ g w:=A;unfold BE at j;rw[ζ k,φ p] at j;have⟨l,ops,e1,e2⟩:=Xp (sl:=u) c y p (by rw[z,p];rfl) j;exact .inr ⟨l,w,u,ops,e1,e2⟩
   have⟨l1,l2,l3,l4,l5⟩:=A.law k p;have⟨l6,l7⟩:=l5 C.s c.sh c.tab.fits;have U:ou (C.L r).pc=true\/j3 (C.L r).pc=true:=by
    cases r with
    |m=>exact .inl c.tab.st
    |a=>exact .inr c.tab.wa
    |b=>exact .inr c.tab.wb
   by_cases F:mv (C.L r) C.s=[]
   .exact .inl (stepBlock c hr y E z ab v (mv_nil U k p hr E F) (l6 F))
   .have n:(C.L r).pc= .la->∃o,w.heap[X.M]? =some o/\Ef X r cm (C.γ (Pt r)).mine o:=λn=>by
     have s:r≠.m:=λe=>by subst e;exact ku c.tab rfl n
     have hp:(pm (C.L r)).pc= .u0:=by simp[pm,n]
     have M:∀J,(C.L J).pc≠.ur:=λJ I=>by
      have hn:J≠r:=λe=>by subst e;rw[n] at I;cases I
      have V:J≠.m:=λe=>by subst e;exact ku c.tab rfl I
      have O:(pm (C.L J)).pc= .u0:=by simp[pm,I]
      have FM:=c.tab.inM.facts;cases r<;>cases J<;>simp at s hn V
      .exact FM.excl ⟨hp,O⟩
      .exact FM.excl ⟨O,hp⟩
     have⟨o,h1,h2⟩:=c.data (M .a) (M .b);have e:=H (by rw[n];simp);refine⟨o,h1,?_⟩;rw[e];cases r with
     |m=>exact absurd rfl s
     |a=>exact h2
     |b=>exact h2
    have⟨q,S,G⟩:=l7 (C.γ (Pt r)).mine n F;have aa:=(c.tab.move S hr).1;have⟨Q,x',w',es,m1,m2,T,m4,m5⟩:=G aa;exact .inl (stepMove c hr y E z S Y H (λI=>l4 I) l3 Q m1 m2 T m4 (d:=(C.γ (Pt r)).mine) (λ_=>rfl) m5)
  rcases hs with⟨h1,h2,h3,B⟩|⟨_,_,_,_,g₀,e,_⟩|⟨h1,h2,S⟩
  .cases D:C.ρ r with
   |zero=>
    rw[D] at B;exact Rx h3 h1 h2 B
   |mk f=>
    rw[D] at B;rcases B with B|⟨_,B⟩
    .exact Rx h3 h1 h2 B
    .have⟨x',w',es,m1,m2,T⟩:=B w (RX.refl X _ _ w)
     exact .inl (Ov c hr y D h1 h2 m1 m2 T)
  .subst e;cases hg
  .by_cases s:r= .m
   .subst s;exact absurd h1 (ku c.tab rfl)
   .refine .inl (BQ c (Ky c.uz s) y hg (.inr ⟨r,hr,s,rfl,h1⟩) ?_)
    rw[c.deaf r hr];exact S
 .exact .inl (BQ c ϖ y hg (.inl h1) (c.old i g h0 h1 y))
def Lh {n0:Nat}:∀c m t,Ee X P Post S0 n0 c m t->∃N a w' b t',runNT P N m t=(.next (crowd a w' b),t')/\Joined X P Post S0 n0 a w' t':=by
 intro c
 induction c using ZL.induction with
 |_ c g=>
  rintro m t ⟨C,gs,w,sl,rfl,rfl,e,rfl⟩;rcases Ou (sl:=sl) e with⟨m',ops,μ',h1,h2,h3⟩|⟨a,w',b,ops,h1,h2⟩
  .have⟨N,a,w',b,t',d,f⟩:=g μ' h2 m' _ h3
   exact⟨N+1,a,w',b,t',by simp only[runNT,h1];exact d,f⟩
  .exact⟨1,a,w',b,_,by simp only[runNT,h1],h2⟩
end
end aI
end
section
open Go.Conc
open Go.ConcM (OsLater)
namespace aI
section
variable {Δ:Type}{X:Cx Δ}{P:ω}{r:bB}{k:Nat}{T T':Lo}{γ:Gh Δ}{own:Nat->Prop}{g g':Θ}{w w':Ω}{es:Array Event}
def k7 (a:Bool)(ro:ϒ):Idle (gX X a ro):=λown w=>
 ⟨⟨rfl,rfl,ι _,.refl _,λ_ _ _=>rfl,ϛ,λ_=>rfl⟩,by funext b;show(own b\/(w.heap.size<=b/\b<w.heap.size))=own b;exact propext ⟨λh=>h.elim id λz=>ϖ,.inl⟩⟩
def aF {a:Bool}{ro:ϒ}{Stop:(Nat->Prop)->Θ->Ω->Prop}{main:Bool}(h:az P main g g')(k:aG P main (gX X a ro) Stop own g' w):aG P main (gX X a ro) Stop own g w:=ls (k7 a ro) h k
def bk {x:ac0×Array Φ}(h:aJ g=some x):g.status= .running/\g.offers=none:=by
 have⟨f,args⟩:=x;obtain⟨b,a,ops,i,rest,e,cs,o,d,c,rfl,_⟩:=du h;exact⟨rfl,rfl⟩
def dy {v:lE}(h:aY g=some v):g.status= .running/\g.offers=none:=by
 obtain⟨b,a,ops,i,rest,c,cs,o,rfl,_⟩:=oH h;exact⟨rfl,rfl⟩
def qT {x:ac0×Array Φ}(h:jx g=some x):g.status= .running/\g.offers=none:=by
 have⟨f,args⟩:=x;obtain⟨b,a,todo,c,cs,rfl,_⟩:=ve h;exact⟨rfl,rfl⟩
def PT {main a:Bool}{Nx:Nat->Lo->Gh Δ->Θ->Ω->Prop}(h0:∀T γ g w,Nx 0 T γ g w)(h:∀k' w₁,k=k'+1->RX X γ.ro own w w₁->Nx (k'+1) T {γ with own:=own} g w₁):
  aG P main (gX X a γ.ro) (eK (Nx k) T γ) own g w:=by
 cases k with
 |zero=>exact aG.stop λw₁ hr=>⟨γ.mine,λ_=>rfl,h0 ..⟩
 |succ k=>exact aG.stop λw₁ hr=>⟨γ.mine,λ_=>rfl,h k w₁ rfl hr⟩
def ShAt.cMu {s:Sh}(h:ShAt X w s):w.cell? (mA X)=some (.int .i32 s.mu):=by simp[World.cell?,mA,h.1]
def ShAt.cMs {s:Sh}(h:ShAt X w s):w.cell? (msA X)=some (.int .u32 s.ms):=by simp[World.cell?,msA,h.1]
def ShAt.Nv {s:Sh}(h:ShAt X w s):w.cell? (wA X)=some (.int .u64 s.wg):=by simp[World.cell?,wA,h.2]
def ShAt.cWs {s:Sh}(h:ShAt X w s):w.cell? (NP X)=some (.int .u32 s.ws):=by simp[World.cell?,NP,h.2]
def ShAt.thF {s:Sh}(h:ShAt X w s)(o:Nat):w.frozen? ⟨X.Fd,o,none⟩=false:=by simp[World.frozen?,h.1]
def ShAt.RY {s:Sh}(h:ShAt X w s)(o:Nat):w.frozen? ⟨X.Wg,o,none⟩=false:=by simp[World.frozen?,h.2]
def ShAt.setMu {s:Sh}(a:X.Fd≠X.Wg)(h:ShAt X w s)(v:Int):ShAt X (w.setCell (mA X) (.int .i32 v)) {s with mu:=v}:=
 ⟨by rw[mA,setCell_eq_setRow w X.Fd 0 _ X.tF (0,0) _ h.1,setRow_heap w X.Fd _ _ X.tF _ h.1];simp,((aside_setCell w (mA X) _).block X.Wg a.symm).trans h.2⟩
def ShAt.setMs {s:Sh}(a:X.Fd≠X.Wg)(h:ShAt X w s)(v:Int):ShAt X (w.setCell (msA X) (.int .u32 v)) {s with ms:=v}:=
 ⟨by rw[msA,setCell_eq_setRow w X.Fd 1 _ X.tF (0,0) _ h.1,setRow_heap w X.Fd _ _ X.tF _ h.1];simp,((aside_setCell w (msA X) _).block X.Wg a.symm).trans h.2⟩
def ShAt.setWg {s:Sh}(a:X.Fd≠X.Wg)(h:ShAt X w s)(v:Int):ShAt X (w.setCell (wA X) (.int .u64 v)) {s with wg:=v}:=
 ⟨((aside_setCell w (wA X) _).block X.Fd a).trans h.1,by rw[wA,setCell_eq_setRow w X.Wg 0 _ X.tW (0,0) _ h.2,setRow_heap w X.Wg _ _ X.tW _ h.2];simp⟩
def ShAt.setWs {s:Sh}(a:X.Fd≠X.Wg)(h:ShAt X w s)(v:Int):ShAt X (w.setCell (NP X) (.int .u32 v)) {s with ws:=v}:=
 ⟨((aside_setCell w (NP X) _).block X.Fd a).trans h.1,by rw[NP,setCell_eq_setRow w X.Wg 1 _ X.tW (0,0) _ h.2,setRow_heap w X.Wg _ _ X.tW _ h.2];simp⟩
def nQ (X:Cx Δ)(a:Addr):Prop:=(a.block=X.Fd/\a.off≠2)\/(a.block=X.Wg/\X.Wg≠X.Fd)
def yA {a:Addr}(ha:nQ X a)(d:ConcM.BookOK X.Fd X.Wg 1 1 es)(c:∀e∈es,∀b:Addr,e.loc= .cell b->b=a)(g:kb T T'= .book):EvStop X T T' es:=by
 unfold EvStop;rw[g];exact⟨d,λe f b h1 h2=>by
  obtain rfl:=c e f b h1;rcases ha with ha|ha
  .exact ha.2
  .exact absurd (ha.1.symm.trans h2) ha.2⟩
def rZ {a:Addr}(ha:nQ X a):a.block=X.Fd\/a.block=X.Wg:=ha.imp (·.1) (·.1)
def Aa (a:kb T T'= .book):EvStop X T T' #[]:=by unfold EvStop;rw[a];exact⟨ConcM.book_nil 1,ϛ⟩
def qQ {a:Addr}(ha:nQ X a)(f:kb T T'= .book):EvStop X T T' #[⟨.cell a,false,true⟩,⟨.cell a,true,true⟩]:=
 yA ha (ConcM.book_rw 0 a (rZ ha)) (λe c b d=>by simp at c;rcases c with rfl|rfl<;>cases d<;>rfl) f
def Gu {a:Addr}(ha:nQ X a)(f:kb T T'= .book):EvStop X T T' #[⟨.cell a,false,true⟩]:=
 yA ha (ConcM.book_one 0 a false (rZ ha)) (λe c b d=>by simp at c;subst c;cases d;rfl) f
def amv {a:Addr}(ha:nQ X a)(f:kb T T'= .book):EvStop X T T' #[⟨.cell a,true,true⟩]:=
 yA ha (ConcM.book_one 0 a true (rZ ha)) (λe c b d=>by simp at c;subst c;cases d;rfl) f
def DZ {a:Addr}(ha:nQ X a)(f:kb T T'= .book):EvStop X T T' (semEvents a):=
 yA ha (ConcM.book_sem 0 a (rZ ha)) (λe c b d=>by simp[semEvents] at c;rcases c with rfl|rfl|rfl|rfl<;>cases d<;>rfl) f
def okM:nQ X (mA X):= .inl ⟨rfl,by simp[mA]⟩
def afm:nQ X (msA X):= .inl ⟨rfl,by simp[msA]⟩
def okW (h:X.Fd≠X.Wg):nQ X (wA X):= .inr ⟨rfl,h.symm⟩
def afl (h:X.Fd≠X.Wg):nQ X (NP X):= .inr ⟨rfl,h.symm⟩
def Kl {Nx:Lo->Gh Δ->Θ->Ω->Prop}(a:g.status= .running/\g.offers=none)(b:∀s,mv T s=[(T',s)])(h1:T.pc≠.la)(h2:T.pc≠.ur)(m:T'.pc≠.wk)(i:T'.pc≠.quit)(k:T.pc≠.us)(o:T.pc≠.d4)(n:∀s,ShAt X w s->∃es w',stepG P (x6 r) g w= .go g' w' es/\ShAt X w' s/\ConcM.Eff X.Fd X.Wg w w'/\EvStop X T T' es/\aG P (x6 r) (gX X (fS T'.pc) γ.ro) (eK Nx T' γ) γ.own g' w'):Law X P Nx r T γ g w:=by
 refine⟨a.1,a.2,λh=>h.elim (absurd · k) (absurd · o),λh=>absurd h h2,λs c _=>⟨λh=>(by rw[b] at h;cases h),λd hd _=>?_⟩⟩;have⟨es,w',e1,e2,f,j,l⟩:=n s c;refine⟨(T',s),by rw[b];simp,λ_=>⟨λh=>absurd h m,g',w',es,e1,e2,f,j,?_⟩⟩;unfold After;rw[ζ i];have e:jZ X T.pc γ.own=γ.own:=by
  revert h1 h2
  cases T.pc<;>simp[jZ]
 simp only[e,ζ h1];exact l
def dM {Nx:Lo->Gh Δ->Θ->Ω->Prop}(a:g.status= .running/\g.offers=none)(h1:T.pc≠.la)(h2:T.pc≠.ur)(l:T.pc≠.out)(u:T.pc= .us\/T.pc= .d4->mayWake P g=true)(o:∀s,ShAt X w s->s.fits->mv T s=[]->stepG P (x6 r) g w= .go {g with status:= .blocked} w #[])(y:∀s,ShAt X w s->s.fits->mv T s≠[]->∃q∈mv T s,q.1.pc≠.bad->∃g' w' es,stepG P (x6 r) g w= .go g' w' es/\ShAt X w' q.2/\ConcM.Eff X.Fd X.Wg w w'/\EvStop X T q.1 es/\
   (if q.1.pc= .quit then ∃n,QuitsD P n 1 g' else aG P (x6 r) (gX X (fS q.1.pc) γ.ro) (eK Nx q.1 γ) γ.own g' w')):Law X P Nx r T γ g w:=by
 refine⟨a.1,a.2,u,λh=>absurd h h2,λs f k=>⟨o s f k,λd hd j=>?_⟩⟩;have⟨q,i,b⟩:=y s f k j;refine⟨q,i,λc=>⟨λh=>?_,?_⟩⟩
 .exfalso
  rcases(PG i).2.2.1 (by rw[h];rfl) with hp|⟨hp,_⟩
  .revert hp i l
   have⟨x,p,B,C,z,it,n⟩:=T;have⟨q1,A⟩:=q;simp only at h;cases x<;>simp[past]<;>simp only[mv]<;>(repeat' split)<;>simp<;>intros<;>simp_all
  .exact l hp
 .have⟨g',w',es,e1,e2,m,t,v⟩:=b c
  refine⟨g',w',es,e1,e2,m,t,?_⟩;unfold After;have e:jZ X T.pc γ.own=γ.own:=by
   revert h1 h2
   cases T.pc<;>simp[jZ]
  simp only[e,ζ h1];exact v
end
abbrev PP:ω:=Tryz.prog
abbrev U:Φ:= .tuple #[]
def pt (F:Nat):Φ:= .pointer (some ⟨F,0,none⟩)
def sD (F:Nat):Φ:= .pointer (some ⟨F,1,none⟩)
def O (g:Θ):Θ:=Dw PP false 200 g
def On (n:Nat)(g:Θ):Θ:=Dw PP false n g
def tK (f:ac0):Code:=((PP.funcs[f]?).bind (·.body)).getD .skip
def Qk (f:ac0)(args:ϐ)(n:Nat)(fr:κ)(cs:ϙ):Θ:=G ((base f).at ⟨args++Array.replicate n ϗ,[]⟩ [.code (tK f)]) (fr::cs)
def da (fr:κ)(cs:ϙ)(v:Φ):Θ:={frame:=fr.finish v,callers:=cs,status:= .running,dying:=none}
def K3:Ext PP 168 Tryz.f168:=⟨func168,ϰ,ϰ,ϰ⟩
def MS:Extern.find Tryz.f168=some (λ_=>do mark .disable;pure Extern.Race.none_):=ϰ
def xEn:Ext PP 170 Tryz.f170:=⟨func170,ϰ,ϰ,ϰ⟩
def fEn:Extern.find Tryz.f170=some (λ_=>do mark .enable;pure Extern.Race.none_):=ϰ
def adt:Ext PP 171 Tryz.f171:=⟨func171,ϰ,ϰ,ϰ⟩
def ahE:Extern.find Tryz.f171=some (Extern.Race.marked .acquire):=ϰ
def xRm:Ext PP 193 Tryz.f193:=⟨func193,ϰ,ϰ,ϰ⟩
def fRm:Extern.find Tryz.f193=some (Extern.Race.marked .releaseMerge):=ϰ
def ads:Ext PP 217 Tryz.f217:=⟨func217,ϰ,ϰ,ϰ⟩
def ahD:Extern.find Tryz.f217=some (Extern.Atomic.casT (.int .i32)):=ϰ
def ajR:Ext PP 219 Tryz.f219:=⟨func219,ϰ,ϰ,ϰ⟩
def amu:Extern.find Tryz.f219=some (Extern.Atomic.update (Op.intArith .add) .i32 true):=ϰ
def VX:Ext PP 221 Tryz.f221:=⟨func221,ϰ,ϰ,ϰ⟩
def WG:Extern.find Tryz.f221=some Extern.Sync.canSpin:=ϰ
def xDo:Ext PP 222 Tryz.f222:=⟨func222,ϰ,ϰ,ϰ⟩
def fDo:Extern.find Tryz.f222=some (λ_=>pure (.tuple #[])):=ϰ
def V0:Ext PP 224 Tryz.f224:=⟨func224,ϰ,ϰ,ϰ⟩
def WI:Extern.find Tryz.f224=some Extern.OsHooks.nano:=ϰ
def Wh:Tryz.f224.norace=true:=ϰ
def adq:Ext PP 225 Tryz.f225:=⟨func225,ϰ,ϰ,ϰ⟩
def ahx:Extern.find Tryz.f225=some Extern.Sync.semacquire:=ϰ
def adr:Ext PP 227 Tryz.f227:=⟨func227,ϰ,ϰ,ϰ⟩
def amq:Extern.find Tryz.f227=some Extern.Sync.semrelease:=ϰ
section
variable (F:Nat)(fr:κ)(cs:List κ)
def gL0:Θ:=Qk 201 #[pt F] 5 fr cs
def gD1:Θ:=O (gL0 F fr cs)
def WE:Θ:=O (resume (gD1 F fr cs) U)
def gE1:Θ:=O (resume (WE F fr cs) (.bool true))
def Qh:Θ:=O (resume (gE1 F fr cs) U)
def gA1:Θ:=O (resume (Qh F fr cs) (pt F))
def UL:Θ:=O (resume (WE F fr cs) (.bool false))
def cS:List κ:=(UL F fr cs).callers
end
def adW:List Item:=(On 5 (resume (UL 0 default []) (.int .i32 0))).frame.todo
def gH (F:Nat)(fr:κ)(cs:ϙ)(a:ϐ):Θ:=G ((base 218).at ⟨a,[]⟩ adW) (cS F fr cs)
def tm0 (a:Int):Array Φ:=#[pt 0,U,.int .i64 0,.bool false,.bool false,.int .i64 0,.int .i32 a]++Array.replicate 132 U
def adS:List Item:=(On 11 (resume (O (gH 0 default [] (tm0 0))) (.bool true))).frame.todo
def gR (F:Nat)(fr:κ)(cs:ϙ)(a:ϐ):Θ:=G ((base 218).at ⟨a,[]⟩ adS) (cS F fr cs)
def gq1:Θ:=O (resume (O (resume (O (gH 0 default [] (tm0 1))) (.bool false))) (.bool true))
def gq2:Θ:=O (resume gq1 (.int .i64 1))
def gq3:Θ:=O (resume gq2 U)
def adT:List Item:=(On 1 (resume gq2 U)).frame.todo
def gQ (F:Nat)(fr:κ)(cs:ϙ)(a:ϐ):Θ:=G ((base 218).at ⟨a,[]⟩ adT) (cS F fr cs)
def adU:List Item:=(On 6 (resume gq3 (.int .i64 1))).frame.todo
def gN (F:Nat)(fr:κ)(cs:ϙ)(a:ϐ):Θ:=G ((base 218).at ⟨a,[]⟩ adU) (cS F fr cs)
def Bp (g:Θ):η:=match aY g with|some (.conv s ..)=>s|_=>0
def CK (g:Θ):η:=match aY g with|some (.conv _ d _)=>d|_=>0
def CJ (g:Θ):η:=match PP.underlying (Bp g) with|some (.pointer t)=>t|_=>0
section
variable {Δ:Type}{X:Cx Δ}{r:bB}{k n:Nat}{T T':Lo}{γ:Gh Δ}{own:Nat->Prop}{g g':Θ}{w w':Ω}{es:Array Event}
def gl (n:Nat)(h:∀b:Nat->Ω,AO PP false n g b=some (Dw PP false n g,(range (cj PP false n g)).map b)){a:Bool}{ro:ϒ}{Stop:(Nat->Prop)->Θ->Ω->Prop}(k:aG PP false (gX X a ro) Stop own (Dw PP false n g) w):aG PP false (gX X a ro) Stop own g w:=aF (az.of n h) k
def tn {b:Bool}{ro:ϒ}{Stop:(Nat->Prop)->Θ->Ω->Prop}{s d t:η}{a:Addr}(h:aY g=some (.conv s d (.pointer (some a))))(h1:PP.underlying s=some (.pointer t))(h2:PP.underlying d=some .unsafePointer)(c:(PP.info? t).map (λi=>decide (i.size=0))=some false)(j:∀w₁,RX X ro own w w₁->∃v,w₁.cell? a=some v)(k:aG PP false (gX X b ro) Stop own (resume g (.pointer (some a))) w):aG PP false (gX X b ro) Stop own g w:=by
 refine aG.step (dy h).1 λw₁ hr=>?_
 have⟨v,hv⟩:=j w₁ hr;have⟨es,e1,e2⟩:=oJ (P:=PP) (main:=false) (w:=w₁) (w':=w₁) (x:= .pointer (some a)) h (by simp only[lE.sem,run_bind,run_convert_to_unsafe h1 h2 c hv];rfl);have f:es=#[]:=Array.eq_empty_iff_forall_not_mem.2 λe l=>by
  have:=e2 e l;simp only[lE.sem,Sem.events_bind,run_convert_to_unsafe h1 h2 c hv,events_convert_to_unsafe h1 h2 c hv] at this;simp at this
 subst f;refine⟨_,w₁,#[],e1,(k7 b ro own w₁).1,?_⟩;have:=(k7 (X:=X) b ro own w₁).2;rw[this];exact k.rely hr
end
def Wp {P:ω}{main:Bool}{g:Θ}{w:Ω}{t:η}{ad:Addr}{k:IntKind}{v:Int}(h:aY g=some (.load t (.pointer (some ad))))(c:w.cell? ad=some (.int k v))(e:∀w,(Instr.loadAt t (.pointer (some ad))).run P w=(match w.cell? ad with|some x=> .ok x w|none=>(Instr.loadAt t (.pointer (some ad))).run P w))(q:∀w x,w.cell? ad=some x->(Instr.loadAt t (.pointer (some ad))).events P w #[]=#[⟨.cell ad,false,false⟩])(j:(P.funcs[g.frame.fn]?).any (·.norace)=true):
  stepG P main g w= .go (resume g (.int k v)) w #[]:=by
 obtain⟨b,a,ops,i,rest,p,cs,o,rfl,h2,n,m,r,f,l⟩:=oH h;have hr:(execOp a.eval o).run P w= .ok (.value (.int k v)) w:=by
  rw[f];simp only[lE.sem,run_bind,e w,c];rfl
 have d:(execOp a.eval o).events P w #[]=#[⟨.cell ad,false,false⟩]:=by
  rw[f];simp only[lE.sem,Sem.events_bind,e w,c,q w _ c];simp
 rw[l,stepG_value h2 n m hr];have:listed P b.fn a o w=#[]:=by
  unfold listed;rw[d,seen_def,(show b.fn=(G (b.at a (.inRegion ops (i::rest)::p)) cs).frame.fn from rfl),j];simp[seenStep]
 rw[this]
section
variable {Δ:Type}{X:Cx Δ}{r:bB}{k:Nat}{T T':Lo}{γ:Gh Δ}{g g':Θ}{w w':Ω}
structure Room (X:Cx Δ)(γ:Gh Δ):Prop where
 ne:X.Fd≠X.Wg
 off:∀b,γ.own b\/γ.ro b->b≠X.Fd/\b≠X.Wg
abbrev RR (X:Cx Δ)(γ:Gh Δ)(w w':Ω):Prop:=RX X γ.ro γ.own w w'
def Room.rx (h:Room X γ){s:Sh}(e:ConcM.Eff X.Fd X.Wg w w')(c:ShAt X w' s):RR X γ w w':=
 ⟨e.tape,e.output,ai8 e.size.symm,e.os,λb _ a=>e.block b (h.off b a).1 (h.off b a).2,λ_=>⟨s,c⟩⟩
abbrev LW (X:Cx Δ)(r:bB)(γ:Gh Δ)(k:Nat)(T:Lo)(g:Θ)(w:Ω):Prop:=aG PP false (gX X (fS T.pc) γ.ro) (eK (KX X PP k r) T γ) γ.own g w
def jH (h:∀k' w₁,k'<k->RR X γ w w₁->Law X PP (KX X PP k' r) r T γ g w₁):LW X r γ k T g w:=by
 refine PT (Nx:=λk=>KX X PP k r) (λT γ g w=>trivial) λk' w₁ e hr=>?_
 exact h k' w₁ ϖ hr
variable (hm:x6 r=false)(R:Room X γ)
include hm R
theorem D9 {T1 T2:Lo}(d:T.pc= .c2\/T.pc= .l0\/T.pc= .uc){c l:Int}(m:aJ g=some (217,#[pt X.Fd,.int .i32 c,.int .i32 l]))(h1:∀s,s.mu=c->(T1,{s with mu:=l})∈mv T s)(h2:∀s,s.fits->s.mu≠c->∃q∈mv T s,q.1.pc= .bad\/q=(T2,s))(e1:kb T T1= .book)(q1:T1.pc≠.quit)(e2:kb T T2= .book)(x:T2.pc≠.quit)(o:∀k' w',k'<k->RR X γ w w'->LW X r γ k' T1 (resume g (.bool true)) w')(i:T2.pc≠.bad->∀k' w',k'<k->RR X γ w w'->LW X r γ k' T2 (resume g (.bool false)) w'):LW X r γ k T g w:=by
 refine jH λk' w₁ u hr=>dM (bk m) ?_ ?_ ?_ ?_ ?_ ?_
 .rcases d with h|h|h<;>rw[h]<;>simp
 .rcases d with h|h|h<;>rw[h]<;>simp
 .rcases d with h|h|h<;>rw[h]<;>simp
 .rcases d with h|h|h<;>rw[h]<;>simp
 .intro s _ n t
  exfalso
  by_cases a:s.mu=c
  .have:=h1 s a;rw[t] at this;cases this
  .have⟨q,j,_⟩:=h2 s n a;rw[t] at j;cases j
 .intro s b n _
  rw[hm]
  by_cases a:s.mu=c
  .have e:=b.setMu R.ne l
   have p:=ConcM.Eff.set (w:=w₁) (Mu:=X.Fd) (Wg:=X.Wg) (mA X) (.int .i32 l) (.inl rfl);refine⟨_,h1 s a,λ_=>⟨_,_,_,oK ads .i32 ahD m (by rw[<-a];exact b.cMu) (b.thF 0),e,p,qQ okM e1,?_⟩⟩;rw[ζ q1];exact o k' _ u (hr.trans X (R.rx p e))
  .have⟨q,j,v⟩:=h2 s n a
   refine⟨q,j,λf=>?_⟩;obtain rfl:=v.resolve_left f;refine⟨_,_,_,nz ads .i32 ahD m b.cMu (b.thF 0) a,b,.refl _,Gu okM e2,?_⟩;rw[ζ x];exact i f k' _ u hr
theorem Rw {d:Int}(a:T.pc= .a1\/T.pc= .u0)(l:aJ g=some (219,#[pt X.Fd,.int .i32 d]))(h1:∀s,s.fits->∃q∈mv T s,q.1.pc= .bad\/(q.2={s with mu:=IntKind.i32.wrap (s.mu+d)}/\kb T q.1= .book/\q.1.pc≠.quit/\∀k' w',k'<k->RR X γ w w'->LW X r γ k' q.1 (resume g (.int .i32 (IntKind.i32.wrap (s.mu+d)))) w')):LW X r γ k T g w:=by
 refine jH λk' w₁ t hr=>dM (bk l) ?_ ?_ ?_ ?_ ?_ ?_
 .rcases a with h|h<;>rw[h]<;>simp
 .rcases a with h|h<;>rw[h]<;>simp
 .rcases a with h|h<;>rw[h]<;>simp
 .rcases a with h|h<;>rw[h]<;>simp
 .intro s _ f p
  have⟨q,e,_⟩:=h1 s f;rw[p] at e;cases e
 .intro s c f _
  rw[hm];have⟨q,e,n⟩:=h1 s f;refine⟨q,e,λi=>?_⟩;have⟨e1,e2,m,o⟩:=n.resolve_left i;have b:=c.setMu R.ne (IntKind.i32.wrap (s.mu+d));have j:=ConcM.Eff.set (w:=w₁) (Mu:=X.Fd) (Wg:=X.Wg) (mA X) (.int .i32 (IntKind.i32.wrap (s.mu+d))) (.inl rfl);refine⟨_,_,_,tU ajR .i32 amu l c.cMu (c.thF 0),by rw[e1];exact b,j,qQ okM e2,?_⟩;rw[ζ m]
  exact o k' _ t (hr.trans X (R.rx j b))
theorem D8 (a:T.pc= .r0\/T.pc= .r1\/T.pc= .r2\/T.pc= .r3)(hv:aY g=some (.load 21 (pt X.Fd)))(c:(PP.funcs[g.frame.fn]?).any (·.norace)=true)(h1:∀s,s.fits->∃q∈mv T s,q.1.pc= .bad\/(q.2=s/\kb T q.1= .book/\q.1.pc≠.quit/\∀k' w',k'<k->RR X γ w w'->LW X r γ k' q.1 (resume g (.int .i32 s.mu)) w')):LW X r γ k T g w:=by
 refine jH λk' w₁ p hr=>dM (dy hv) ?_ ?_ ?_ ?_ ?_ ?_
 .rcases a with h|h|h|h<;>rw[h]<;>simp
 .rcases a with h|h|h|h<;>rw[h]<;>simp
 .rcases a with h|h|h|h<;>rw[h]<;>simp
 .rcases a with h|h|h|h<;>rw[h]<;>simp
 .intro s _ d n
  have⟨q,c,_⟩:=h1 s d;rw[n] at c;cases c
 .intro s b d _
  rw[hm];have⟨q,e,l⟩:=h1 s d;refine⟨q,e,λf=>?_⟩;have⟨e1,e2,j,m⟩:=l.resolve_left f;refine⟨_,_,_,Wp hv b.cMu ?_ ?_ c,by rw[e1];exact b,.refl _,Aa e2,?_⟩
  .intro w
   cases i:w.cell? ⟨X.Fd,0,none⟩ with
   |none=>simp[mA]
   |some x=>simp[go_sem,i,mA,pt]
  .intro w x o
   simp[go_sem,o,mA,pt]
  rw[ζ j];exact m k' _ p hr
theorem acs {T1:Lo}{u v:Φ}(a:T.pc= .s1)(e:aJ g=some (225,#[sD X.Fd,u,v]))(l:T1={T with pc:=if T.sv then .r2 else .t2})(go:∀k' w',k'<k->RR X γ w w'->LW X r γ k' T1 (resume g U) w'):LW X r γ k T g w:=by
 have e1:kb T T1= .book:=by unfold kb;rw[a]
 have q1:T1.pc≠.quit:=by rw[l];dsimp only;split<;>simp
 refine jH λk' w₁ m hr=>dM (bk e) ?_ ?_ ?_ ?_ ?_ ?_
 .rw[a];simp
 .rw[a];simp
 .rw[a];simp
 .rw[a];simp
 .intro s b _ f
  rw[hm];have:s.ms=0:=by
   unfold mv at f;rw[a] at f
   by_cases h:s.ms=0
   .exact h
   .simp[h] at f
  exact Lj adq ahx e (by rw[<-this];exact b.cMs)
 .intro s b n i
  rw[hm];have h0:s.ms≠0:=by
   intro h
   apply i
   unfold mv;rw[a];simp[h]
  have d:(T1,({s with ms:=s.ms-1}:Sh))∈mv T s:=by
   rw[l];unfold mv;rw[a];simp[h0]
  have c:=b.setMs R.ne (s.ms-1);have j:=ConcM.Eff.set (w:=w₁) (Mu:=X.Fd) (Wg:=X.Wg) (msA X) (.int .u32 (s.ms-1)) (.inl rfl);refine⟨_,d,λ_=>⟨_,_,_,Oq adq ahx e b.cMs h0 (b.thF 1),c,j,DZ afm e1,?_⟩⟩;rw[ζ q1];exact go k' _ m (hr.trans X (R.rx j c))
theorem Rt {T1:Lo}{u v:Φ}(a:T.pc= .us)(e:aJ g=some (227,#[sD X.Fd,u,v]))(j:T1=at_ .ue T.n)(go:∀k' w',k'<k->RR X γ w w'->LW X r γ k' T1 (resume g U) w'):LW X r γ k T g w:=by
 have e1:kb T T1= .book:=by unfold kb;rw[a]
 have q1:T1.pc≠.quit:=by rw[j];simp
 refine jH λk' w₁ n hr=>dM (bk e) ?_ ?_ ?_ ?_ ?_ ?_
 .rw[a];simp
 .rw[a];simp
 .rw[a];simp
 .exact λ_=>Er adr e
 .intro s b _ f
  unfold mv at f;rw[a] at f;simp at f
 .intro s b l _
  rw[hm];have m:IntKind.u32.wrap (s.ms+1)=s.ms+1:=by
   have:=l.2.1;rcases this with h|h<;>rw[h]<;>decide
  have d:(T1,({s with ms:=s.ms+1}:Sh))∈mv T s:=by
   rw[j];unfold mv;rw[a];simp
  have c:=b.setMs R.ne (s.ms+1);have i:=ConcM.Eff.set (w:=w₁) (Mu:=X.Fd) (Wg:=X.Wg) (msA X) (.int .u32 (s.ms+1)) (.inl rfl);refine⟨_,d,λ_=>⟨resume g U,w₁.setCell (msA X) (.int .u32 (s.ms+1)),_,by have:=EH (P:=PP) (main:=false) (w:=w₁) adr amq e b.cMs (b.thF 1);rw[m] at this;exact this,c,i,DZ afm e1,?_⟩⟩;rw[ζ q1];exact go k' _ n (hr.trans X (R.rx i c))
theorem D7 {T2:Lo}(a:T.pc= .sq){it:Int}(m:T.it=it)(j:aJ g=some (221,#[.int .i64 it]))(e:∀k' w',k'<k->RR X γ w w'->LW X r γ k' (cl T) (resume g (.bool false)) w')(o:T2={T with pc:= .r1,old:=0,nw:=0})(f:∀k' w',k'<k->RR X γ w w'->LW X r γ k' T2 (resume g (.bool true)) w'):LW X r γ k T g w:=by
 have e1:kb T (cl T)= .book:=by unfold kb;rw[a]
 have e2:kb T T2= .book:=by unfold kb;rw[a]
 have q1:(cl T).pc≠.quit:=by rw[KJ];simp
 have q:T2.pc≠.quit:=by rw[o];simp
 have m1:∀s,(cl T,s)∈mv T s:=λs=>by unfold mv;rw[a];simp
 refine jH λk' w₁ l hr=>dM (bk j) ?_ ?_ ?_ ?_ ?_ ?_
 .rw[a];simp
 .rw[a];simp
 .rw[a];simp
 .rw[a];simp
 .intro s _ _ p
  have:=m1 s;rw[p] at this;cases this
 .intro s d t _
  rw[hm]
  by_cases n:it<4
  .have i:=ConcM.Eff.asked (Mu:=X.Fd) (Wg:=X.Wg) w₁
   have b:ShAt X w₁.asked s:=⟨d.1,d.2⟩
   have c:=Li (P:=PP) (main:=false) (w:=w₁) VX WG j n;cases h:w₁.spins with
   |false=>
    rw[h] at c;refine⟨_,m1 s,λ_=>⟨_,_,_,c,b,i,Aa e1,?_⟩⟩;rw[ζ q1];exact e k' _ l (hr.trans X (R.rx i b))
   |true=>
    rw[h] at c;have m2:(T2,s)∈mv T s:=by rw[o];unfold mv;rw[a];simp[m,n]
    refine⟨_,m2,λ_=>⟨_,_,_,c,b,i,Aa e2,?_⟩⟩;rw[ζ q];exact f k' _ l (hr.trans X (R.rx i b))
  .refine⟨_,m1 s,λ_=>⟨_,_,_,C0 VX WG j ϖ,d,.refl _,Aa e1,?_⟩⟩
   rw[ζ q1];exact e k' _ l hr
theorem Rv {args:ϐ}(a:T.pc= .t2)(f:aJ g=some (224,args))(next:Nat->Bool)(go:∀k' w' m,k'<k->RR X γ w w'->LW X r γ k' {T with pc:= .r2,sv:=if next m then true else T.sv} (resume g (.int .i64 (m:Int))) w'):LW X r γ k T g w:=by
 refine jH λk' w₁ h hr=>dM (bk f) ?_ ?_ ?_ ?_ ?_ ?_
 .rw[a];simp
 .rw[a];simp
 .rw[a];simp
 .rw[a];simp
 .intro s _ _ d
  unfold mv at d;rw[a] at d;simp at d
 .intro s c i _
  rw[hm];have e:=ConcM.Eff.later (Mu:=X.Fd) (Wg:=X.Wg) w₁;have b:ShAt X w₁.later s:=⟨c.1,c.2⟩
  refine⟨({T with pc:= .r2,sv:=if next (w₁.os.mono+w₁.tick) then true else T.sv},s),?_,λ_=>⟨_,_,_,BP (P:=PP) (main:=false) (w:=w₁) V0 WI Wh f,b,e,Aa (by unfold kb;rw[a]),?_⟩⟩
  .unfold mv
   rw[a];cases next (w₁.os.mono+w₁.tick)<;>simp
  .rw[ζ ϛ]
   exact go k' _ _ h (hr.trans X (R.rx e b))
theorem yB {f:ac0}{fn:Func}{m:Mark}(n:Ext PP f fn)(c:∀g,m≠.extern g)(o:Extern.find fn=some (λ_=>do mark m;pure Extern.Race.none_))(e:aJ g=some (f,#[]))(d:∀s,mv T s=[(T',s)])(a:EvStop X T T' #[sK m])(h1:T.pc≠.la)(h2:T.pc≠.ur)(j:T'.pc≠.wk)(h:T'.pc≠.quit)(i:T.pc≠.us)(p:T.pc≠.d4)(go:∀k' w',k'<k->RR X γ w w'->LW X r γ k' T' (resume g U) w'):LW X r γ k T g w:=by
 refine jH λk' w₁ l hr=>Kl (g':=resume g U) (bk e) d h1 h2 j h i p λs b=>?_
 rw[hm];exact⟨_,_,kq n m (hm:=c) o e,b,.refl _,a,go k' _ l hr⟩
abbrev Taken (X:Cx Δ)(r:bB)(γ:Gh Δ)(n:Nat)(fr:κ)(cs:List κ)(w:Ω):Prop:=
 ∀k w' d o,RR X γ w w'->w'.heap[X.M]? =some o->Ef X r γ.mine d o->aG PP false (gX X false γ.ro) (eK (KX X PP k r) (at_ .ur n) {γ with own:=λb=>γ.own b\/b=X.M,other:=d}) (λb=>γ.own b\/b=X.M) (da fr cs U) w'
theorem VJ {n:Nat}{fr:κ}{cs:ϙ}(a:aJ g=some (171,#[pt X.Fd]))(hg:az PP false (resume g U) (da fr cs U))(go:Taken X r γ n fr cs w):LW X r γ k (at_ .la n) g w:=by
 refine jH λk' w₁ f hr=>?_
 refine⟨(bk a).1,(bk a).2,ϛ,ϛ,λs b h=>⟨by simp[mv],λd hd _=>?_⟩⟩;have⟨o,e,c⟩:=hd rfl;refine⟨(at_ .ur n,s),by simp[mv],λ_=>⟨ϛ,resume g U,w₁,#[sK (.acquire (mA X))],?_,b,.refl _,by simp[EvStop,kb],?_⟩⟩
 .rw[hm]
  exact iJ adt .acquire ahE a
 .unfold After
  rw[ζ ϛ,hm];have:=go k' w₁ d o hr e c;exact aF hg this
theorem G5 {n:Nat}{fr:κ}{cs:ϙ}{j b:Θ}(q:aJ g=some (170,#[]))(a:az PP false (resume g U) j){s d t:η}(hv:aY j=some (.conv s d (pt X.Fd)))(h:PP.underlying s=some (.pointer t))(hd:PP.underlying d=some .unsafePointer)(u:(PP.info? t).map (λi=>decide (i.size=0))=some false)(p:az PP false (resume j (pt X.Fd)) b)(e:aJ b=some (171,#[pt X.Fd]))(f:az PP false (resume b U) (da fr cs U))(live:∃s,ShAt X w s)(go:Taken X r γ n fr cs w):LW X r γ k (at_ .le n) g w:=by
 refine yB hm R (T':=at_ .la n) (m:= .enable) xEn ϛ fEn q (by simp[mv]) (by simp[EvStop,kb]) ϛ ϛ ϛ ϛ ϛ ϛ λk' w' v hr=>?_
 refine aF a (tn hv h hd u (λw₁ c=>?_) (aF p ?_))
 .have⟨s,h⟩:=(hr.trans X c).live live
  exact⟨_,h.cMu⟩
 .exact VJ hm R e f λk w1 d o l=>go k w1 d o (hr.trans X l)
end
section
variable (F:Nat)(fr:κ)(cs:List κ)
def lD1:aJ (gD1 F fr cs)=some (168,#[]):=ϰ
def lL0 (a:Ϭ):AO PP false 200 (gL0 F fr cs) a=some (gD1 F fr cs,(range (cj PP false 200 (gL0 F fr cs))).map a):=ϰ
def ak8 (a:Ϭ):AO PP false 200 (resume (gD1 F fr cs) U) a=some (WE F fr cs,(range (cj PP false 200 (resume (gD1 F fr cs) U))).map a):=ϰ
def lC1:aJ (WE F fr cs)=some (217,#[pt F,.int .i32 0,.int .i32 1]):=ϰ
def alb (a:Ϭ):AO PP false 200 (resume (WE F fr cs) (.bool true)) a=some (gE1 F fr cs,(range (cj PP false 200 (resume (WE F fr cs) (.bool true)))).map a):=ϰ
def lE1:aJ (gE1 F fr cs)=some (170,#[]):=ϰ
def ak7 (a:Ϭ):AO PP false 200 (resume (gE1 F fr cs) U) a=some (Qh F fr cs,(range (cj PP false 200 (resume (gE1 F fr cs) U))).map a):=ϰ
def lV1:aY (Qh F fr cs)=some (.conv (Bp (Qh 0 default [])) (CK (Qh 0 default [])) (pt F)):=ϰ
def ak3:PP.underlying (Bp (Qh 0 default []))=some (.pointer (CJ (Qh 0 default []))):=ϰ
def ak4:PP.underlying (CK (Qh 0 default []))=some .unsafePointer:=ϰ
def ak2:(PP.info? (CJ (Qh 0 default []))).map (λi=>decide (i.size=0))=some false:=ϰ
def ak5 (a:Ϭ):AO PP false 200 (resume (Qh F fr cs) (pt F)) a=some (gA1 F fr cs,(range (cj PP false 200 (resume (Qh F fr cs) (pt F)))).map a):=ϰ
def lA1:aJ (gA1 F fr cs)=some (171,#[pt F]):=ϰ
def alc (a:Ϭ):AO PP false 6 (resume (gA1 F fr cs) U) a=some (da fr cs U,(range (cj PP false 6 (resume (gA1 F fr cs) U))).map a):=ϰ
def ala (a:Ϭ):AO PP false 200 (resume (WE F fr cs) (.bool false)) a=some (UL F fr cs,(range (cj PP false 200 (resume (WE F fr cs) (.bool false)))).map a):=ϰ
def lS0:aY (UL F fr cs)=some (.load 21 (pt F)):=ϰ
def ak6:(PP.funcs[(UL F fr cs).frame.fn]?).any (·.norace)=true:=ϰ
end
def Sv (F aR:Nat)(b c:Bool)(it a:Int)(y:Ϟ):Array Φ:=#[pt F,y 1,.int .i64 (aR:Int),.bool b,.bool c,.int .i64 it,.int .i32 a,y 7,y 8,y 9,y 10,y 11,y 12,y 13,y 14,y 15,y 16,y 17,y 18,y 19,y 20,y 21,y 22,y 23,y 24,y 25,y 26,y 27,y 28,y 29,y 30,y 31,y 32,y 33,y 34,y 35,y 36,y 37,y 38,y 39,y 40,y 41,y 42,y 43,y 44,y 45,y 46,y 47,y 48,y 49,y 50,y 51,y 52,y 53,y 54,y 55,y 56,y 57,y 58,y 59,y 60,y 61,y 62,y 63,y 64,y 65,y 66,y 67,y 68,y 69,y 70,y 71,y 72,y 73,y 74,y 75,y 76,y 77,y 78,y 79,y 80,y 81,y 82,y 83,y 84,y 85,y 86,y 87,y 88,y 89,y 90,y 91,y 92,y 93,y 94,y 95,y 96,y 97,y 98,y 99,y 100,y 101,y 102,y 103,y 104,y 105,y 106,y 107,y 108,y 109,y 110,y 111,y 112,y 113,y 114,y 115,y 116,y 117,y 118,y 119,y 120,y 121,y 122,y 123,y 124,y 125,y 126,y 127,y 128,y 129,y 130,y 131,y 132,y 133,y 134,y 135,y 136,y 137,y 138]
def RW (F aR:Nat)(a:Bool)(y:Ϟ):Array Φ:=#[pt F,y 1,.int .i64 (aR:Int),.bool a,y 4,y 5,y 6,y 7,y 8,y 9,y 10,y 11,y 12,y 13,y 14,y 15,y 16,y 17,y 18,y 19,y 20,y 21,y 22,y 23,y 24,y 25,y 26,y 27,y 28,y 29,y 30,y 31,y 32,y 33,y 34,y 35,y 36,y 37,y 38,y 39,y 40,y 41,y 42,y 43,y 44,y 45,y 46,y 47,y 48,y 49,y 50,y 51,y 52,y 53,y 54,y 55,y 56,y 57,y 58,y 59,y 60,y 61,y 62,y 63,y 64,y 65,y 66,y 67,y 68,y 69,y 70,y 71,y 72,y 73,y 74,y 75,y 76,y 77,y 78,y 79,y 80,y 81,y 82,y 83,y 84,y 85,y 86,y 87,y 88,y 89,y 90,y 91,y 92,y 93,y 94,y 95,y 96,y 97,y 98,y 99,y 100,y 101,y 102,y 103,y 104,y 105,y 106,y 107,y 108,y 109,y 110,y 111,y 112,y 113,y 114,y 115,y 116,y 117,y 118,y 119,y 120,y 121,y 122,y 123,y 124,y 125,y 126,y 127,y 128,y 129,y 130,y 131,y 132,y 133,y 134,y 135,y 136,y 137,y 138]
def V6 (F:Nat)(y:Ϟ):Array Φ:=#[pt F,y 1,y 2,y 3,y 4,y 5,y 6,y 7,y 8,y 9,y 10,y 11,y 12,y 13,y 14,y 15,y 16,y 17,y 18,y 19,y 20,y 21,y 22,y 23,y 24,y 25,y 26,y 27,y 28,y 29,y 30,y 31,y 32,y 33,y 34,y 35,y 36,y 37,y 38,y 39,y 40,y 41,y 42,y 43,y 44,y 45,y 46,y 47,y 48,y 49,y 50,y 51,y 52,y 53,y 54,y 55,y 56,y 57,y 58,y 59,y 60,y 61,y 62,y 63,y 64,y 65,y 66,y 67,y 68,y 69,y 70,y 71,y 72,y 73,y 74,y 75,y 76,y 77,y 78,y 79,y 80,y 81,y 82,y 83,y 84,y 85,y 86,y 87,y 88,y 89,y 90,y 91,y 92,y 93,y 94,y 95,y 96,y 97,y 98,y 99,y 100,y 101,y 102,y 103,y 104,y 105,y 106,y 107,y 108,y 109,y 110,y 111,y 112,y 113,y 114,y 115,y 116,y 117,y 118,y 119,y 120,y 121,y 122,y 123,y 124,y 125,y 126,y 127,y 128,y 129,y 130,y 131,y 132,y 133,y 134,y 135,y 136,y 137,y 138]
structure HH (F aR:Nat)(sv aw:Bool)(it old:Int)(tm:Array Φ):Prop where
 size:tm.size=139
 s0:tm[0]? =some (pt F)
 s2:tm[2]? =some (.int .i64 (aR:Int))
 s3:tm[3]? =some (.bool sv)
 s4:tm[4]? =some (.bool aw)
 s5:tm[5]? =some (.int .i64 it)
 s6:tm[6]? =some (.int .i32 old)
structure HQ (F aR:Nat)(sv:Bool)(tm:Array Φ):Prop where
 size:tm.size=139
 s0:tm[0]? =some (pt F)
 s2:tm[2]? =some (.int .i64 (aR:Int))
 s3:tm[3]? =some (.bool sv)
structure HR (F:Nat)(tm:Array Φ):Prop where
 size:tm.size=139
 s0:tm[0]? =some (pt F)
def cJ {a:ϐ}{i:Nat}{v:Φ}(h:a[i]? =some v):a.getD i ϗ=v:=by simp[ac6,h]
def slots (a:ϐ)(h:a.size=139):a=#[a.getD 0 ϗ,a.getD 1 ϗ,a.getD 2 ϗ,a.getD 3 ϗ,a.getD 4 ϗ,a.getD 5 ϗ,a.getD 6 ϗ,a.getD 7 ϗ,a.getD 8 ϗ,a.getD 9 ϗ,a.getD 10 ϗ,a.getD 11 ϗ,a.getD 12 ϗ,a.getD 13 ϗ,a.getD 14 ϗ,a.getD 15 ϗ,a.getD 16 ϗ,a.getD 17 ϗ,a.getD 18 ϗ,a.getD 19 ϗ,a.getD 20 ϗ,a.getD 21 ϗ,a.getD 22 ϗ,a.getD 23 ϗ,a.getD 24 ϗ,a.getD 25 ϗ,a.getD 26 ϗ,a.getD 27 ϗ,a.getD 28 ϗ,a.getD 29 ϗ,a.getD 30 ϗ,a.getD 31 ϗ,a.getD 32 ϗ,a.getD 33 ϗ,a.getD 34 ϗ,a.getD 35 ϗ,a.getD 36 ϗ,a.getD 37 ϗ,a.getD 38 ϗ,a.getD 39 ϗ,a.getD 40 ϗ,a.getD 41 ϗ,a.getD 42 ϗ,a.getD 43 ϗ,a.getD 44 ϗ,a.getD 45 ϗ,a.getD 46 ϗ,a.getD 47 ϗ,a.getD 48 ϗ,a.getD 49 ϗ,a.getD 50 ϗ,a.getD 51 ϗ,a.getD 52 ϗ,a.getD 53 ϗ,a.getD 54 ϗ,a.getD 55 ϗ,a.getD 56 ϗ,a.getD 57 ϗ,a.getD 58 ϗ,a.getD 59 ϗ,a.getD 60 ϗ,a.getD 61 ϗ,a.getD 62 ϗ,a.getD 63 ϗ,a.getD 64 ϗ,a.getD 65 ϗ,a.getD 66 ϗ,a.getD 67 ϗ,a.getD 68 ϗ,a.getD 69 ϗ,a.getD 70 ϗ,a.getD 71 ϗ,a.getD 72 ϗ,a.getD 73 ϗ,a.getD 74 ϗ,a.getD 75 ϗ,a.getD 76 ϗ,a.getD 77 ϗ,a.getD 78 ϗ,a.getD 79 ϗ,a.getD 80 ϗ,a.getD 81 ϗ,a.getD 82 ϗ,a.getD 83 ϗ,a.getD 84 ϗ,a.getD 85 ϗ,a.getD 86 ϗ,a.getD 87 ϗ,a.getD 88 ϗ,a.getD 89 ϗ,a.getD 90 ϗ,a.getD 91 ϗ,a.getD 92 ϗ,a.getD 93 ϗ,a.getD 94 ϗ,a.getD 95 ϗ,a.getD 96 ϗ,a.getD 97 ϗ,a.getD 98 ϗ,a.getD 99 ϗ,a.getD 100 ϗ,a.getD 101 ϗ,a.getD 102 ϗ,a.getD 103 ϗ,a.getD 104 ϗ,a.getD 105 ϗ,a.getD 106 ϗ,a.getD 107 ϗ,a.getD 108 ϗ,a.getD 109 ϗ,a.getD 110 ϗ,a.getD 111 ϗ,a.getD 112 ϗ,a.getD 113 ϗ,a.getD 114 ϗ,a.getD 115 ϗ,a.getD 116 ϗ,a.getD 117 ϗ,a.getD 118 ϗ,a.getD 119 ϗ,a.getD 120 ϗ,a.getD 121 ϗ,a.getD 122 ϗ,a.getD 123 ϗ,a.getD 124 ϗ,a.getD 125 ϗ,a.getD 126 ϗ,a.getD 127 ϗ,a.getD 128 ϗ,a.getD 129 ϗ,a.getD 130 ϗ,a.getD 131 ϗ,a.getD 132 ϗ,a.getD 133 ϗ,a.getD 134 ϗ,a.getD 135 ϗ,a.getD 136 ϗ,a.getD 137 ϗ,a.getD 138 ϗ]:=by
 have e:a=((range 139).map λi=>a.getD i ϗ).toArray:=by
  apply Array.ext
  .simp[h]
  .intro i h1 h2
   simp[ac6,h1]
 exact e.trans ϰ
def HH.eq {F aR:Nat}{c d:Bool}{it a:Int}{b:ϐ}(h:HH F aR c d it a b):b=Sv F aR c d it a λi=>b.getD i ϗ:=by
 have h1:=slots b h.size;rw[cJ h.s0,cJ h.s2,cJ h.s3,cJ h.s4,cJ h.s5,cJ h.s6] at h1;exact h1
def HQ.eq {F aR:Nat}{b:Bool}{a:ϐ}(h:HQ F aR b a):a=RW F aR b λi=>a.getD i ϗ:=by
 have h1:=slots a h.size;rw[cJ h.s0,cJ h.s2,cJ h.s3] at h1;exact h1
def HR.eq {F:Nat}{a:ϐ}(h:HR F a):a=V6 F λi=>a.getD i ϗ:=by
 have h1:=slots a h.size;rw[cJ h.s0] at h1;exact h1
def aS {g g':Θ}(n m:Nat)(h:∀a:Nat->Ω,AO PP false n g a=some (g',(range m).map a)):az PP false g g':=⟨n,m,h⟩
def aP {g:Θ}(h:∀a:Nat->Ω,AO PP false 200 g a=some (O g,(range (cj PP false 200 g)).map a)):az PP false g (O g):=⟨200,_,h⟩
section
variable (F:Nat)(fr:κ)(cs:List κ)(aR:Nat)(it v:Int)(y:Nat->Φ)
def aeT:∃a,HH F 0 false false 0 v a/\az PP false (resume (UL F fr cs) (.int .i32 v)) (gH F fr cs a):=
 ⟨(On 5 (resume (UL F fr cs) (.int .i32 v))).frame.tmps,⟨ϰ,ϰ,ϰ,ϰ,ϰ,ϰ,ϰ⟩,aS 5 (cj PP false 5 (resume (UL F fr cs) (.int .i32 v))) λb=>ϰ⟩
end
section
variable (F:Nat)(fr:κ)(cs:List κ)(aR:Nat)(it v:Int)(y:Nat->Φ)
def h0:Θ:=gH F fr cs (Sv F aR false false it 0 y)
def b0:Θ:=O (h0 F fr cs aR it y)
def ag3:az PP false (h0 F fr cs aR it y) (b0 F fr cs aR it y):=aP λa=>ϰ
abbrev c0:Θ:=b0 F fr cs aR it y
def aco:aJ (c0 F fr cs aR it y)=some (217,#[pt F,.int .i32 0,.int .i32 1]):=ϰ
def m0:Θ:=O (resume (c0 F fr cs aR it y) (.bool false))
def VD:az PP false (resume (c0 F fr cs aR it y) (.bool false)) (m0 F fr cs aR it y):=aP λa=>ϰ
def afG:aY (m0 F fr cs aR it y)=some (.load 21 (pt F)):=ϰ
def ZK:(PP.funcs[(m0 F fr cs aR it y).frame.fn]?).any (·.norace)=true:=ϰ
def afH:∃a,HH F aR false false it v a/\az PP false (resume (m0 F fr cs aR it y) (.int .i32 v)) (gH F fr cs a):=
 ⟨(On 4 (resume (m0 F fr cs aR it y) (.int .i32 v))).frame.tmps,⟨ϰ,ϰ,ϰ,ϰ,ϰ,ϰ,ϰ⟩,aS 4 (cj PP false 4 (resume (m0 F fr cs aR it y) (.int .i32 v))) λb=>ϰ⟩
def acn:∃a,HR F a/\az PP false (resume (c0 F fr cs aR it y) (.bool true)) (gR F fr cs a):=
 ⟨(On 11 (resume (c0 F fr cs aR it y) (.bool true))).frame.tmps,⟨ϰ,ϰ⟩,aS 11 (cj PP false 11 (resume (c0 F fr cs aR it y) (.bool true))) λb=>ϰ⟩
end
end aI
end
end
end Go.Proofs.YtchcmhodnkgojaaGreat
