/- A part. -/
import Derived.Test.YtchcmhodnkgojaaGreatPart6
import Derived.Laws.MakeOwn
import Derived.Test.YtchcmhodnkgojaaGreatShelf
import Derived.OwnWalk
import Derived.DeepKeys
import Derived.Test.YtchcmhodnkgojaaGreatProg
import Derived.Laws.LoneSync
import Derived.Conc.SmallLaws
set_option linter.all false
set_option maxRecDepth 100000
set_option maxHeartbeats 8000000
open Go.Proofs.Tryz
namespace Go.Proofs.YtchcmhodnkgojaaGreat
open Region (wanted)
open Region (ready)
open MemOp (ofEvents)
open Sem (run_bind)
open List (range)
open List (replicate)
noncomputable section
variable {w:Φ}{F l:List Nat}{d e t:θ}{B aW i m n:Nat}{x:ac5×Array Θ}{old s:Int}{r:List η}{o oi:Oper}{a:Act}{u v:Θ}{P:aa1}{ops:Array Oper}{Q:Exit->Act->Φ->Prop}{rest:List Oper}{ps:Array (Nat×ac4)}{bs:List Θ}{xs:Array ac4}{ts:Array θ}{q:Nat->Nat}{fn:ac5}{own ro:Nat->Prop}{deaf main:Bool}{Stop:(Nat->Prop)->Ω->Φ->Prop}{g:Ω}{args tm:Array Θ}{fr:φ}{cs:List φ}
section
open Go.RowKit Go.Lib
def ik(a:ϑ)(i:Int)(b:η):List η:=if i=-1 then a else a.set (10+i.toNat) b
def bu(c:ϑ)(b a:Int):List η:=ik (ik c b 1) a 0
def DS.mark(x:DS)(b a:Int):DS:=
 if x.bL then(x.write 0 (bu (x.read 0) b a)).flush else x.write 0 (bu (x.read 0) b a)
def DS.kr(x:DS)(b a:Int):Bool:=x.bL&&(x.write 0 (bu (x.read 0) b a)).bL
def eh(a:ϑ)(i:Int)(b:η):(ik a i b).length=a.length:=by unfold ik;split<;>simp
def ia(l:ϑ)(i:Nat)(b:η):(byteCells (l.set i b)).toArray=(byteCells l).toArray.setIfInBounds i (.int .u8 b.toNat):=by
 simp[byteCells,List.map_set]
def Fr{d:Nat}{x:DS}(h:ce w F d n x):(x.read 0).length=64:=by
 have⟨b,a,h,_⟩:=h;exact bH _ _ (by rw[h.len];have:=h.lo;simp;omega) _ h.eO
def ce.size{d:Nat}{x:DS}(h:ce w F d n x):16<=n/\n<=400:=by
 have⟨b,a,h,_⟩:=h;exact⟨h.lo,h.hi⟩
def Fq(F:ϓ)(d n:Nat)(x:DS)(s:Int)(w:Φ)(h:ce w F d n x)(hs:0<=s)(c:s<n):
  Calls prog 114 #[.pointer (some ⟨d,0,none⟩),.int .i64 s] w λe w'=>e=.returned (.agg (byteCells (x.read s)).toArray)/\aG [] w w':=by
 have⟨b,a,h,_⟩:=h;exact uF d b n a x s w h hs c
def DS.j9{x:DS}{l:ϑ}{r:Nat}(h:x.Fit (r+1))(a:x.bL=true):(x.write s l).Fit r:=by
 have h1:=h.mZ;have h2:=h.mY;have b:=h.mM;have c:=h.mL;unfold DS.write;rw[κ a];unfold DS.bL at a;refine⟨by simp[DS.lG];omega,by simp[DS.lG];omega,?_,?_⟩;simp only[DS.lG];split;rename_i hg;simp[hg]at a;have:=a.2;omega;exact b;simp only[DS.lG];split<;>omega
section
variable {P:aa1}{ops:Array Oper}{Q:Exit->Act->Φ->Prop}{a:Act}{w:Φ}{rest:List Oper}{o:Oper}
def hY(hg:o.guard=none)(t:θ)(x y:ac4)(m:o.op=.store t x y)(b off:Nat)(l:a.eval x=.pointer (some ⟨b,off,none⟩))(k:IntKind)(v:Int)(n:a.eval y=.int k v)(c:ϐ)(u:θ)(hr:Row w b c u)(d:off<c.size)(h:∀w1:Φ,aG [b] w w1->Row w1 b (c.setIfInBounds off (.int k v)) u->wpList P ops Q rest (a.put o.dst ϗ) w1)(g:(P.info? t).map (·.size)=some 1:=by kernel_rfl):wpList P ops Q (o::rest) a w:=by
 refine Cw hg (w.setCell ⟨b,off,none⟩ (.int k v)) ?_ (h _ (aG.setCell ..) (hr.setCell ..));have j:=hr.cell off;have hf:=hr.thaw off;have hs:c[off]?=some c[off]:=by simp[d]
 rw[hs]at j;have e:(store ((⟨b,off,none⟩:Addr).add 0) (.int k v)).run P w=.ok () (w.setCell ⟨b,off,none⟩ (.int k v)):=by rw[Addr.add_mid,ϔ9,run_store P w _ _ _ rfl,j];simp[hf]
 cases f:P.info? t with
 |none=>simp[f]at g
 |some i=>
  have h1:i.size=1:=by simpa[f] using g
  simp[execOp,m,l,n,Instr.storeAt,Instr.sureAddr,storeVar,sizeOf,typeInfo,f,h1,Value.cells,storeCells,e]
end
def BV(F:ϓ)(d n:Nat)(x:DS)(b a:Int)(w:Φ)(h:ce w F d n x)(j:x.Fit 2)(V:x.waiting.length<60)(ao:-1<=b)(ac:b<54)(an:-1<=a)(ag:a<54):
  Calls prog 111 #[.pointer (some ⟨d,0,none⟩),.int .i64 b,.int .i64 a] w λe w'=>e=.returned (du (x.kr b a))/\∃F',ce w' F' d n (x.mark b a)/\aG F w w'/\dw F F' w:=by
 have am:=h.size;have Y:=Fr h;go_enter func111,ntmps111;go_wp2_with fail;refine(Fq F d n x 0 w h ϖ ϖ).mono ?_;rintro e w1⟨rfl,f1⟩;go_wp2_with (with_reducible refine au rfl ?_);refine br rfl 148 rfl fI ed ?_;intro w2 t l7 f2 r7;go_wp2_with (with_reducible refine ah 148 rfl ?_);refine cu rfl 148 _ _ rfl _ 0 rfl _ rfl 64 bI ?_ ?_ _ _ r7 ?_ ?_;simp only[ab9,ae];exact Y;exact byteCells_one _;decide;intro X f3 T;rw[bV _ _ (by rw[ae,Y];rfl)]at T;have s:aG [] w X:=(f1.trans f2).trans f3 (by simp;have:=f1.size;omega);have I:w.heap.size<=t:=by have:=f1.size;omega
 have HR:Hid ((x.read 0).length=64):=Y;clear r7 f1 f2 f3 Y;have q:Hid (∀r:List η,r.length=64->∀i:Int,0<=i->i<54->(10+i).toNat<(byteCells r).toArray.size/\(byteCells r).toArray.setIfInBounds (10+i).toNat (.int .u8 1)=(byteCells (ik r i 1)).toArray/\(byteCells r).toArray.setIfInBounds (10+i).toNat (.int .u8 0)=(byteCells (ik r i 0)).toArray):=by intro r hr i h0 al;have e:(10+i).toNat=10+i.toNat:=ϖ;have S:i≠-1:=ϖ;refine⟨by simp[ae,hr];omega,?_,?_⟩;rw[ik,Γ S,ia,e];rfl;rw[ik,Γ S,ia,e];rfl
 by_cases h1:b=-1
 .subst h1;by_cases h2:a=-1
  .subst h2;go_wp2_with (with_reducible first|refine ax 148 rfl ?_|refine ah 5 rfl ?_);have c:Hid ((bu (x.read 0) (-1) (-1)).length=64):=by show _=_;unfold bu;rw[eh,eh];exact HR.out
   have z:Row X t (byteCells (bu (x.read 0) (-1) (-1))).toArray 148:=T;have u:=h.new s;refine bT rfl 148 _ rfl t 0 rfl dX 64 bI _ _ z (byteCells (bu (x.read 0) (-1) (-1))) ?_ ?_ ?_;simp only[ϳ];exact ν (by rw[ae];exact al2 c.out);rw[ae];exact c.out;go_wp2_with fail;refine(mi F d n x 0 (bu (x.read 0) (-1) (-1)) X u ⟨j.mZ,by have:=j.mY;omega,j.mM,j.mL⟩ c.out V).mono ?_;rintro e D⟨rfl,o,H,E,A⟩;have p:aG F w D:=(s.mono ϛ:aG F w X).trans E λi m=>.inl m;have l:dw F o w:=λk hk=>(A k hk).imp id (λZ=>by have:=s.size;omega)
   have P:=p.size;have v:Hid (x.mark (-1) (-1)=if x.bL then(x.write 0 (bu (x.read 0) (-1) (-1))).flush else x.write 0 (bu (x.read 0) (-1) (-1))):=rfl;have G:Hid (x.kr (-1) (-1)=(x.bL&&(x.write 0 (bu (x.read 0) (-1) (-1))).bL)):=rfl;have g:Hid (x.bL=true->(x.write 0 (bu (x.read 0) (-1) (-1))).Fit 1):=λf=>DS.j9 j f
   have M:∀R:Θ×DS,R=R:=λ_=>rfl
   clear M z u E A;generalize x.write 0 (bu (x.read 0) (-1) (-1))=y at*;cases f:x.bL with|true=>simp only[du,if_true];go_wp2_with fail;refine(mV o d n y D H (g.out f)).mono ?_;rintro e w9⟨rfl,N,L,O,Q⟩;go_wp2;go_ret;refine⟨?_,N,?_,p.trans O λi m=>l i m,l.trans Q P⟩;rw[G.out,f];simp;rw[v.out,f];simpa using L|false=>simp only[du];go_wp2;go_ret;refine⟨?_,o,?_,p,l⟩;rw[G.out,f];rfl;rw[v.out,f];simpa using H
  .have aa:(a==-1)=false:=by simpa using h2
   go_wp2_with (with_reducible first|refine ax 148 rfl ?_|refine ah 5 rfl ?_);have B:=q.out (x.read 0) (by exact HR.out) a ϖ ϖ;refine hY rfl 5 _ _ rfl t (10+a).toNat rfl .u8 0 rfl _ _ T B.1 ?_;intro C U K;rw[B.2.2]at K;have J:aG [] w C:=s.trans U (by simpa using I);clear B;go_wp2_with (with_reducible first|refine ax 148 rfl ?_|refine ah 5 rfl ?_);have c:Hid ((bu (x.read 0) (-1) a).length=64):=by show _=_;unfold bu;rw[eh,eh];exact HR.out
   have z:Row C t (byteCells (bu (x.read 0) (-1) a)).toArray 148:=K;have u:=h.new J;refine bT rfl 148 _ rfl t 0 rfl dX 64 bI _ _ z (byteCells (bu (x.read 0) (-1) a)) ?_ ?_ ?_;simp only[ϳ];exact ν (by rw[ae];exact al2 c.out);rw[ae];exact c.out;go_wp2_with fail;refine(mi F d n x 0 (bu (x.read 0) (-1) a) C u ⟨j.mZ,by have:=j.mY;omega,j.mM,j.mL⟩ c.out V).mono ?_;rintro e D⟨rfl,o,H,E,A⟩;have p:aG F w D:=(J.mono ϛ:aG F w C).trans E λi m=>.inl m;have l:dw F o w:=λk hk=>(A k hk).imp id (λZ=>by have:=J.size;omega)
   have P:=p.size;have v:Hid (x.mark (-1) a=if x.bL then(x.write 0 (bu (x.read 0) (-1) a)).flush else x.write 0 (bu (x.read 0) (-1) a)):=rfl;have G:Hid (x.kr (-1) a=(x.bL&&(x.write 0 (bu (x.read 0) (-1) a)).bL)):=rfl;have g:Hid (x.bL=true->(x.write 0 (bu (x.read 0) (-1) a)).Fit 1):=λf=>DS.j9 j f
   have M:∀R:Θ×DS,R=R:=λ_=>rfl
   clear M z u E A;generalize x.write 0 (bu (x.read 0) (-1) a)=y at*;cases f:x.bL with|true=>simp only[du,if_true];go_wp2_with fail;refine(mV o d n y D H (g.out f)).mono ?_;rintro e w9⟨rfl,N,L,O,Q⟩;go_wp2;go_ret;refine⟨?_,N,?_,p.trans O λi m=>l i m,l.trans Q P⟩;rw[G.out,f];simp;rw[v.out,f];simpa using L|false=>simp only[du];go_wp2;go_ret;refine⟨?_,o,?_,p,l⟩;rw[G.out,f];rfl;rw[v.out,f];simpa using H
 .have aq:(b==-1)=false:=by simpa using h1
  by_cases h2:a=-1
  .subst h2;go_wp2_with (with_reducible first|refine ax 148 rfl ?_|refine ah 5 rfl ?_);have B:=q.out (x.read 0) (by exact HR.out) b ϖ ϖ;refine hY rfl 5 _ _ rfl t (10+b).toNat rfl .u8 1 rfl _ _ T B.1 ?_;intro C U K;rw[B.2.1]at K;have J:aG [] w C:=s.trans U (by simpa using I);clear B;go_wp2_with (with_reducible first|refine ax 148 rfl ?_|refine ah 5 rfl ?_);have c:Hid ((bu (x.read 0) b (-1)).length=64):=by show _=_;unfold bu;rw[eh,eh];exact HR.out
   have z:Row C t (byteCells (bu (x.read 0) b (-1))).toArray 148:=K;have u:=h.new J;refine bT rfl 148 _ rfl t 0 rfl dX 64 bI _ _ z (byteCells (bu (x.read 0) b (-1))) ?_ ?_ ?_;simp only[ϳ];exact ν (by rw[ae];exact al2 c.out);rw[ae];exact c.out;go_wp2_with fail;refine(mi F d n x 0 (bu (x.read 0) b (-1)) C u ⟨j.mZ,by have:=j.mY;omega,j.mM,j.mL⟩ c.out V).mono ?_;rintro e D⟨rfl,o,H,E,A⟩;have p:aG F w D:=(J.mono ϛ:aG F w C).trans E λi m=>.inl m;have l:dw F o w:=λk hk=>(A k hk).imp id (λZ=>by have:=J.size;omega)
   have P:=p.size;have v:Hid (x.mark b (-1)=if x.bL then(x.write 0 (bu (x.read 0) b (-1))).flush else x.write 0 (bu (x.read 0) b (-1))):=rfl;have G:Hid (x.kr b (-1)=(x.bL&&(x.write 0 (bu (x.read 0) b (-1))).bL)):=rfl;have g:Hid (x.bL=true->(x.write 0 (bu (x.read 0) b (-1))).Fit 1):=λf=>DS.j9 j f
   have M:∀R:Θ×DS,R=R:=λ_=>rfl
   clear M z u E A;generalize x.write 0 (bu (x.read 0) b (-1))=y at*;cases f:x.bL with|true=>simp only[du,if_true];go_wp2_with fail;refine(mV o d n y D H (g.out f)).mono ?_;rintro e w9⟨rfl,N,L,O,Q⟩;go_wp2;go_ret;refine⟨?_,N,?_,p.trans O λi m=>l i m,l.trans Q P⟩;rw[G.out,f];simp;rw[v.out,f];simpa using L|false=>simp only[du];go_wp2;go_ret;refine⟨?_,o,?_,p,l⟩;rw[G.out,f];rfl;rw[v.out,f];simpa using H
  .have aa:(a==-1)=false:=by simpa using h2
   go_wp2_with (with_reducible first|refine ax 148 rfl ?_|refine ah 5 rfl ?_);have B:=q.out (x.read 0) (by exact HR.out) b ϖ ϖ;refine hY rfl 5 _ _ rfl t (10+b).toNat rfl .u8 1 rfl _ _ T B.1 ?_;intro C U K;rw[B.2.1]at K;have J:aG [] w C:=s.trans U (by simpa using I);clear B;go_wp2_with (with_reducible first|refine ax 148 rfl ?_|refine ah 5 rfl ?_);have zb:=q.out (ik (x.read 0) b 1) (by rw[eh];exact HR.out) a ϖ ϖ;refine hY rfl 5 _ _ rfl t (10+a).toNat rfl .u8 0 rfl _ _ K zb.1 ?_;intro W fb rb;rw[zb.2.2]at rb;have gb:aG [] w W:=J.trans fb (by simpa using I);clear zb;go_wp2_with (with_reducible first|refine ax 148 rfl ?_|refine ah 5 rfl ?_);have c:Hid ((bu (x.read 0) b a).length=64):=by show _=_;unfold bu;rw[eh,eh];exact HR.out
   have z:Row W t (byteCells (bu (x.read 0) b a)).toArray 148:=rb;have u:=h.new gb;refine bT rfl 148 _ rfl t 0 rfl dX 64 bI _ _ z (byteCells (bu (x.read 0) b a)) ?_ ?_ ?_;simp only[ϳ];exact ν (by rw[ae];exact al2 c.out);rw[ae];exact c.out;go_wp2_with fail;refine(mi F d n x 0 (bu (x.read 0) b a) W u ⟨j.mZ,by have:=j.mY;omega,j.mM,j.mL⟩ c.out V).mono ?_;rintro e D⟨rfl,o,H,E,A⟩;have p:aG F w D:=(gb.mono ϛ:aG F w W).trans E λi m=>.inl m;have l:dw F o w:=λk hk=>(A k hk).imp id (λZ=>by have:=gb.size;omega)
   have P:=p.size;have v:Hid (x.mark b a=if x.bL then(x.write 0 (bu (x.read 0) b a)).flush else x.write 0 (bu (x.read 0) b a)):=rfl;have G:Hid (x.kr b a=(x.bL&&(x.write 0 (bu (x.read 0) b a)).bL)):=rfl;have g:Hid (x.bL=true->(x.write 0 (bu (x.read 0) b a)).Fit 1):=λf=>DS.j9 j f
   have M:∀R:Θ×DS,R=R:=λ_=>rfl
   clear M z u E A;generalize x.write 0 (bu (x.read 0) b a)=y at*;cases f:x.bL with|true=>simp only[du,if_true];go_wp2_with fail;refine(mV o d n y D H (g.out f)).mono ?_;rintro e w9⟨rfl,N,L,O,Q⟩;go_wp2;go_ret;refine⟨?_,N,?_,p.trans O λi m=>l i m,l.trans Q P⟩;rw[G.out,f];simp;rw[v.out,f];simpa using L|false=>simp only[du];go_wp2;go_ret;refine⟨?_,o,?_,p,l⟩;rw[G.out,f];rfl;rw[v.out,f];simpa using H
def eP(a:ϑ)(m:Nat):Nat->Nat->Int
 |0,_=>-1
 |f+1,k=>if k<m then(if dP a k==0 then k else eP a m f (k+1))else -1
def eF(x:DS)(n:Nat):Int:=eP (x.read 0) (aH n) (aH n) 0
def FK(a:ϑ)(i:Nat):(((dP a i).toNat:Int)==0)=(dP a i==0):=by
 rw[am4];simp[<-UInt8.toNat_inj]
def mT(a:ϑ)(m:Nat):∀(f k:Nat),eP a m f k=-1\/∃i:Nat,i<m/\eP a m f k=i/\dP a i=0
 |0,_=>.inl rfl
 |f+1,k=>by unfold eP;by_cases h:k<m;rw[κ h];by_cases h2:(dP a k==0)=true;exact .inr ⟨k,h,by simp[h2],by simpa using h2⟩;rw[Γ h2];exact mT a m f (k+1);rw[Γ h];exact .inl rfl
def DN(F:ϓ)(d n:Nat)(x:DS)(w:Φ)(h:ce w F d n x):
  Calls prog 108 #[.pointer (some ⟨d,0,none⟩)] w λe w'=>e=.returned (.int .i64 (eF x n))/\aG [] w w':=by
 have g:=h.size;have j:=Fr h;go_enter func108,ntmps108;go_wp2_with fail;refine(Fq F d n x 0 w h ϖ ϖ).mono ?_;rintro e w1⟨rfl,f1⟩;go_wp2_with (with_reducible refine au rfl ?_);refine br rfl 148 rfl fI ed ?_;intro H s E f2 r4;go_wp2_with (with_reducible refine ah 148 rfl ?_);refine cu rfl 148 _ _ rfl _ 0 rfl _ rfl 64 bI ?_ ?_ _ _ r4 ?_ ?_;simp only[ab9,ae];exact j;exact byteCells_one _;decide;intro u t r;rw[bV _ _ (by rw[ae,j];rfl)]at r;have f:aG [] w u:=(f1.trans f2).trans t (by simp;have:=f1.size;omega);have A:=h.new f;clear r4 t f2;have⟨y,z,m,_⟩:=A;go_wp2_with fail;refine(nz d y n z x u m).mono ?_;rintro e v⟨rfl,rfl⟩;go_wp2_with fail;refine(nZ n g.1 g.2 _).mono ?_;rintro e v⟨rfl,rfl⟩;go_wp2_with fail;have D:aH n<=54:=by unfold aH;omega
 have B:w.heap.size<=s:=by have:=f1.size;omega
 have l:Hid (eF x n=eP (x.read 0) (aH n) (aH n) 0):=rfl
 go_loopw [10] (λi wr=>∃k:Nat,i=.int .i64 k/\k<=aH n/\wr=v/\Hid (eF x n=eP (x.read 0) (aH n) (aH n-k) k)) λi _=>aH n-(intOf i).toNat
 case atStart=>exact⟨0,rfl,ϖ,rfl,l⟩
 case round=>
  obtain⟨k,rfl,hk,rfl,o⟩:=hrel;by_cases q:k<aH n
  .have G:wr.cell? ⟨s,10+k,none⟩=some (.int .u8 (dP (x.read 0) k).toNat):=by
    rw[r.cell];simp[byteCells,dP,al8];rw[al3 ϖ];exact⟨_,rfl,rfl⟩
   have HR:Hid ((x.read 0).length=64):=j;clear j;have b:=FK (x.read 0) k;have a:Hid (eP (x.read 0) (aH n) (aH n-k) k=if dP (x.read 0) k==0 then(k:Int)else eP (x.read 0) (aH n) (aH n-(k+1)) (k+1)):=by show _=_;rw[show aH n-k=(aH n-(k+1))+1 by omega,eP,κ q]
   by_cases hm:(dP (x.read 0) k==0)=true
   .have C:(((dP (x.read 0) k).toNat:Int)==0)=true:=by rw[b];exact hm
    have p:Hid ((dP (x.read 0) k==0)=true):=hm;clear hm b;go_wp2;go_ret;refine⟨rS ?_,f⟩;rw[o.out,a.out,κ p.out]
   .have c:(dP (x.read 0) k==0)=false:=by simpa using hm
    have C:(((dP (x.read 0) k).toNat:Int)==0)=false:=by rw[b];exact c
    have p:Hid ((dP (x.read 0) k==0)=false):=c;clear hm c b;go_wp2
    go_roundw
    case rel=>
     refine⟨k+1,by go_num,ϖ,trivial,?_⟩;show _=_;rw[o.out,a.out,Γ (by rw[p.out];simp)]
    case measure=>simp[intOf];omega
  .have HK:Hid (k=aH n):=(by omega:k=aH n)
   go_wp2;go_ret;refine⟨rS ?_,f⟩;rw[o.out,HK.out,Nat.sub_self];rfl
def splice(l:ϑ)(o:Nat)(v:ϑ):List η:=l.take o++v++l.drop (o+v.length)
def nD(l:ϑ)(o:Nat)(v:ϑ):over (byteCells l).toArray o (byteCells v)=(byteCells (splice l o v)).toArray:=by
 simp[over,splice,byteCells_append,fA,fB,ae]
def length_splice(l:ϑ)(o:Nat)(v:ϑ)(h:o+v.length<=l.length):(splice l o v).length=l.length:=by
 simp[splice];omega
def eL(s p c:Nat):List η:=(((replicate 128 (0:η)).set 0 (UInt8.ofNat s)).set 1 (UInt8.ofNat p)).set 2 (UInt8.ofNat c)
def dc(s:Nat)(p c:ϑ):List η:=splice (splice (eL s p.length c.length) 3 (p.take 8)) 11 (c.take 117)
def fx(s p c:Nat):(eL s p c).length=128:=by simp[eL]
def ou(s:Nat)(p c:ϑ):(dc s p c).length=128:=by
 unfold dc;rw[length_splice _ _ _ (by rw[length_splice _ _ _ (by rw[fx,ac8];omega),fx,ac8];omega),length_splice _ _ _ (by rw[fx,ac8];omega),fx]
def IR(s p c:Nat)(hs:s<256)(b:p<256)(a:c<256):(((byteCells (replicate 128 0)).toArray.setIfInBounds 0 (.int .u8 s)).setIfInBounds 1 (.int .u8 p)).setIfInBounds 2 (.int .u8 c)=(byteCells (eL s p c)).toArray:=by
 unfold eL;rw[ia,ia,ia];simp[hs,b,a,Nat.mod_eq_of_lt]
def Aa(s:Nat)(p c:Ξ)(w:Φ)(hs:s<256)(hp:p.size<256)(hc:c.size<256):
  Calls prog 110 #[.agg #[.int .i64 s,.string p,.string c]] w λe w'=>e=.returned (.agg (byteCells (dc s p.data.toList c.data.toList)).toArray)/\aG [] w w':=by
 have V:Hid (p.data.toList.length=p.size):=by show _=_;rw[aj6];rfl
 have Q:Hid (c.data.toList.length=c.size):=by show _=_;rw[aj6];rfl
 go_enter func110,ntmps110;go_wp2_with (with_reducible refine bv rfl ?_);refine eZ rfl 107 _ rfl (.agg #[.int .i64 s,.string p,.string c]) rfl ?_;intro w1 b1 l1 f1 r1;go_wp2_with (with_reducible refine au rfl ?_);refine br rfl 138 rfl oX kO ?_;intro w2 b2 l2 f2 r2;go_wp2_with (with_reducible refine au rfl ?_);refine br rfl 138 rfl oX kO ?_;intro w3 a l3 H r3;have q1:Row w3 b1 #[.int .i64 s,.string p,.string c] 107:=H.row (f2.row r1 ϛ);have k:=H.row r2;have x:=(f1.trans f2).trans H;have O:w.heap.size<=b2:=by have:=f1.size;omega
 have j:w.heap.size<=a:=by have:=f1.size;have:=f2.size;omega
 have n12:b1≠b2:=by have:=r1.lt;omega
 have m:b1≠a:=by have:=r1.lt;have:=f2.size;omega
 have i:b2≠a:=by have:=r2.lt;omega
 have C:Row w3 a (byteCells (replicate 128 0)).toArray 138:=r3;clear r1 r2 r3 f1 f2 H l1 l2 l3;have c0:=q1.val 0 (.int .i64 s);go_wp2_with (with_reducible refine ah 5 rfl ?_);refine hY rfl 5 _ _ rfl a 0 rfl .u8 s rfl _ _ C (by simp only[ab9,ae,ak6];omega) ?_;intro w4 L r4;have t:=L.row q1 (by simpa using m);have E:=L.row k (by simpa using i);have c1:=t.val 1 (.string p);clear c0;go_wp2_with (with_reducible refine ah 5 rfl ?_);refine hY rfl 5 _ _ rfl a 1 rfl .u8 p.size rfl _ _ r4 (by simp only[an1,ab9,ae,ak6];omega) ?_;intro w5 G r5;have r:=G.row t (by simpa using m);have y:=G.row E (by simpa using i);have c2:=r.val 2 (.string c);clear c1;go_wp2_with (with_reducible refine ah 5 rfl ?_);refine hY rfl 5 _ _ rfl a 2 rfl .u8 c.size rfl _ _ r5 (by simp only[an1,ab9,ae,ak6];omega) ?_;intro I J M;have A:=J.row r (by simpa using m);have D:=J.row y (by simpa using i);rw[IR s p.size c.size hs hp hc]at M;have fw:aG [] w I:=((x.trans L (by simpa using j)).trans G (by simpa using j)).trans J (by simpa using j);clear c2 L G J r4 r5 t r E y q1 k C x;go_wp2_with (with_reducible first|refine bv rfl ?_|refine au rfl ?_|refine ax 138 rfl ?_|refine ah 138 rfl ?_|refine ah 5 rfl ?_);refine ej 5 rfl ?_;have g:aG [] I I.drew:=aG.drew ..;have q1:=g.row A;have k:=g.row D;have l:=g.row M;have P:=fw.trans g;generalize I.drew=Z at q1 k l P;clear A D M fw g;have T:Lets (λw':Φ=>Row w' b1 #[.int .i64 s,.string p,.string c] 107):=⟨λw o h=>(aG.alloc [] w o).row h,λw h=>h⟩
 refine cE 0 (some 20) rfl rfl (λ_ _ _ h=>h) rfl (v:=.slice (some ⟨a,3,none⟩) 8 125) (λ_=>lE 138 5 128 _ _ _ rfl underlying138 ϰ a 0 rfl 3 11 rfl rfl ϖ ϖ ϖ ϖ _ _ _ ϖ ϖ ϖ) ?_;refine cE 1 (some 21) rfl rfl (λ_ _ _ h=>h) rfl (v:=.pointer (some ⟨b1,0,none⟩)) (λ_=>by go_simp) ?_;simp only[puts];refine cE 2 (some 22) rfl rfl (λ_ _ _ h=>h) rfl (v:=.pointer (some ⟨b1,1,none⟩)) (λ_=>by go_simp) ?_;refine nO 3 _ T q1 (some 23) rfl rfl (λ_ _ _ h=>h) rfl (v:=.string p) (λw' q=>by have:=q.cell 1;go_simp) ?_;simp only[puts];refine tV 4 (some 24) rfl rfl rfl _ _ (nN _ _ _ _ 5 rfl underlying85 a 3 8 125 rfl p rfl _ _ l ?_) ?_;simp only[ab9,ae,fx];have:Nat.min p.size 8<=8:=Nat.min_le_right ..;omega;rw[nD];refine nQ ?_;have d:=l.setRow (byteCells (splice (eL s p.size c.size) 3 (p.data.toList.take 8))).toArray;have K:aG [a] Z (Z.setRow a (byteCells (splice (eL s p.size c.size) 3 (p.data.toList.take 8))).toArray):=aG.setRow ..;have u:=K.row q1 (by simpa using m);have f:=K.row k (by simpa using i);have X:aG [] w _:=P.trans K (by simpa using j);generalize Z.setRow a (byteCells (splice (eL s p.size c.size) 3 (p.data.toList.take 8))).toArray=W at u f d X;clear q1 k l K P;simp only[puts];go_wp2_with (with_reducible first|refine bv rfl ?_|refine au rfl ?_|refine ax 138 rfl ?_|refine ah 138 rfl ?_|refine ah 5 rfl ?_);refine ej 4 rfl ?_;have g:aG [] W W.drew:=aG.drew ..;have q1:=g.row u;have k:=g.row f;have l:=g.row d;have N:=X.trans g;generalize W.drew=U at q1 k l N;clear u f d X g;refine cE 0 (some 25) rfl rfl (λ_ _ _ h=>h) rfl (v:=.slice (some ⟨a,11,none⟩) 117 117) (λ_=>oy 138 5 128 _ _ rfl underlying138 ϰ a 0 rfl 11 rfl ϖ ϖ _ _ ϖ ϖ) ?_;refine cE 1 (some 26) rfl rfl (λ_ _ _ h=>h) rfl (v:=.pointer (some ⟨b1,2,none⟩)) (λ_=>by go_simp) ?_;refine nO 2 _ T q1 (some 27) rfl rfl (λ_ _ _ h=>h) rfl (v:=.string c) (λw' q=>by have:=q.cell 2;go_simp) ?_;simp only[puts];have F:(splice (eL s p.size c.size) 3 (p.data.toList.take 8)).length=128:=by rw[length_splice _ _ _ (by rw[fx,ac8];omega),fx]
 refine tV 3 (some 28) rfl rfl rfl _ _ (nN _ _ _ _ 5 rfl underlying85 a 11 117 117 rfl c rfl _ _ l ?_) ?_;simp only[ab9,ae,F];have:Nat.min c.size 117<=117:=Nat.min_le_right ..;omega;rw[nD];refine nQ ?_;have er:splice (splice (eL s p.size c.size) 3 (p.data.toList.take 8)) 11 (c.data.toList.take 117)=dc s p.data.toList c.data.toList:=by unfold dc;rw[V.out,Q.out]
 rw[er];have d:=l.setRow (byteCells (dc s p.data.toList c.data.toList)).toArray;have n:aG [a] U (U.setRow a (byteCells (dc s p.data.toList c.data.toList)).toArray):=aG.setRow ..;have f:=n.row k (by simpa using i);have B:aG [] w _:=N.trans n (by simpa using j);generalize U.setRow a (byteCells (dc s p.data.toList c.data.toList)).toArray=aa at f d B;have b:Hid ((dc s p.data.toList c.data.toList).length=128):=ou ..;clear q1 k l n N er F T;simp only[puts];go_wp2_with (with_reducible refine ax 138 rfl ?_);refine bT rfl 138 _ rfl a 0 rfl ko 128 fV _ _ d (byteCells (dc s p.data.toList c.data.toList)) ?_ ?_ ?_;simp only[ϳ];exact ν (by rw[ae];exact al2 b.out);rw[ae];exact b.out;go_wp2_with (with_reducible refine ah 138 rfl ?_);refine cu rfl 138 _ _ rfl _ 0 rfl _ rfl 128 fV ?_ ?_ _ _ f ?_ ?_;simp only[ab9,ae];exact b.out;exact byteCells_one _;decide;intro S R z;rw[bV _ _ (by simp only[ae];rw[b.out];rfl)]at z;have Y:aG [] w S:=B.trans R (by simpa using O);go_wp2_with (with_reducible first|refine bv rfl ?_|refine au rfl ?_|refine ax 138 rfl ?_|refine ah 138 rfl ?_|refine ah 5 rfl ?_);exact nB rfl b2 rfl rfl _ _ z ko (by simp only[ab9,ae];rw[b.out];exact fV) ⟨rfl,Y⟩
def V4(t:θ)(a b c:Int)(w:Φ)(h:a+b=c)(h0:0<=c)(h1:c<=9223372036854775807):(binOp .add t (.int .i64 a) (.int .i64 b)).run prog w=.ok (.int .i64 c) w:=by
 subst h;have:=IntWalk.i64_in (a+b) ϖ;go_simp
def DS.wr(x:DS)(i:Nat)(r:ϑ):Nat->DS
 |0=>x
 |k+1=>(x.wr i r k).write (1+2*i+k:Nat) ((r.drop (k*64)).take 64)
def DS.qa(x:DS)(i:Nat)(r:ϑ):DS:=if x.bL then(if(x.wr i r 1).bL then(x.wr i r 2).flush else x.wr i r 2)else x.wr i r 1
def DS.lu(x:DS)(i:Nat)(r:ϑ):Bool:=x.bL&&(x.wr i r 1).bL&&(x.wr i r 2).bL
def DS.KQ{x:DS}{l:ϑ}(h:x.waiting.length<=m):(x.write s l).waiting.length<=m+1:=by
 unfold DS.write DS.stopped DS.fall;split;simp;omega;split;omega;simp
def DS.NT{x:DS}{i:Nat}{r:ϑ}{m:Nat}(h:x.waiting.length<=m):∀k,(x.wr i r k).waiting.length<=m+k
 |0=>h
 |k+1=>DS.KQ (DS.NT h k)
def DS.G9{x:DS}{i:Nat}{r:ϑ}{m:Nat}:∀k,x.Fit (m+k)->(∀j,j<k->(x.wr i r j).bL=true)->(x.wr i r k).Fit m
 |0,h,_=>h
 |k+1,h,hc=>DS.j9 (DS.G9 (m:=m+1) k (by rw[show m+1+k=m+(k+1) by omega];exact h) λj a=>hc j ϖ) (hc k ϖ)
section
variable {P:aa1}{ops:Array Oper}{Q:Exit->Act->Φ->Prop}
def G0(k:Nat)(hk:k<n)(b:Ϟ)(d:ops[k]?=some oi)(hd:oi.dst=b)(hr:ready .any ops (upto n k)=[k])(hg:oi.guard=none)(f:ac5)(args:ϐ)(c:(execOp a.eval oi).run P w=.ok (.enter f args) w)(R:Ϭ)(g:Calls P f args w R)(h:∀e w',R e w'->∃v,e=.returned v/\At P ops Q n (k+1) (a.put b v) w'):At P ops Q n k a w:=
 at_one k hk d hr hg λK i=>by unfold Oper.wp;rw[c];simp only[Oper.upon];refine g.mono ?_;intro e w' j;obtain⟨v,rfl,hv⟩:=h e w' j;rw[hd];exact i _ _ hv
end
def vH(F:ϓ)(d n:Nat)(x:DS)(i:Nat)(r:ϑ)(w:Φ)(h:ce w F d n x)(hx:x.Fit 3)(fX:x.waiting.length<55)(hi:i<aH n)(hr:r.length=128):
  Calls prog 109 #[.pointer (some ⟨d,0,none⟩),.int .i64 i,.agg (byteCells r).toArray] w λe w'=>e=.returned (du (x.lu i r))/\∃q,ce w' q d n (x.qa i r)/\aG F w w'/\dw F q w:=by
 have av:=h.size;have ar:i<54:=by unfold aH at hi;omega
 have aq:2*i+2<n:=by unfold aH at hi;omega
 go_enter func109,ntmps109;go_wp2_with (with_reducible first|refine bv rfl ?_|refine au rfl ?_|refine ax 138 rfl ?_);refine eZ rfl 138 _ rfl (.agg (byteCells r).toArray) rfl ?_;intro w1 u l5 f1 r5;have h1:=h.new f1;have n5:u∉F:=λM=>by have:=h.lt _ M;omega
 have HR:Hid (r.length=128):=hr;clear hr;go_wp2_with (with_reducible first|refine bv rfl ?_|refine au rfl ?_|refine ax 138 rfl ?_);have HW:Hid (∀k,k<2->x.wr i r (k+1)=(x.wr i r k).write (1+2*i+k:Nat) ((r.drop (k*64)).take 64)):=λk _=>rfl
 have W:Hid (∀k,k<=2->(∀j,j<k->(x.wr i r j).bL=true)->(x.wr i r k).Fit 1):=λk hk P=>DS.G9 k ⟨hx.mZ,by have:=hx.mY;omega,hx.mM,hx.mL⟩ P
 have am:Hid (∀k,k<=2->(x.wr i r k).waiting.length<60):=λk hk=>by have:=DS.NT (x:=x) (i:=i) (r:=r) (ε _) k;omega
 have H0:Hid (x.wr i r 0=x):=rfl;have N:Hid (x.qa i r=if x.bL then(if(x.wr i r 1).bL then(x.wr i r 2).flush else x.wr i r 2)else x.wr i r 1):=rfl;have J:Hid (x.lu i r=(x.bL&&(x.wr i r 1).bL&&(x.wr i r 2).bL)):=rfl;have X:ce w1 F d n (x.wr i r 0):=h1;generalize x.wr i r=y at*
 go_loopw [10] (λc wr=>∃k:Nat,c=.int .i64 k/\k<=2/\Hid (∀j,j<k->(y j).bL=true)/\∃q,ce wr q d n (y k)/\aG F w wr/\Hid (dw F q w)/\Row wr u (byteCells r).toArray 138/\Hid (u∉q)) λc _=>2-(intOf c).toNat
 case atStart=>exact⟨0,rfl,ϖ,λj C=>ϖ,F,X,f1.mono,dw.refl _ _,r5,n5⟩
 case round=>
  obtain⟨k,rfl,hk,D,q,A,p,Y,B,K⟩:=hrel;clear h1 X f1 r5;by_cases ao:k<2
  .go_wp2_with (with_reducible first|refine bv rfl ?_|refine au rfl ?_|refine ax 138 rfl ?_);refine br rfl 148 rfl fI ed ?_;intro w2 l l8 f2 r8;have V:=f2.row B;have T:=A.new f2;have R:=p.trans f2;have ag:u≠l:=by have:=B.lt;omega
   have n8:l∉q:=λM=>by have:=A.lt _ M;omega
   have aw:w.heap.size<=l:=by have:=p.size;omega
   clear B A p f2 l8;go_wp2_with fail;refine ej 5 rfl ?_;have f:aG [] w2 w2.drew:=aG.drew _ _;have s:=f.row V;have t:Row w2.drew l fI.cells 148:=f.row r8;have I:=T.new f;have O:=R.trans f;generalize w2.drew=w3 at s t I O;clear V r8 T R f;refine cE 0 (some 13) rfl rfl (λ_ _ _ h=>h) rfl (v:=.slice (some ⟨l,0,none⟩) 64 64) (λ_=>by go_simp) ?_;refine cE 1 (some 14) rfl rfl (λ_ _ _ h=>h) rfl (v:=.int .i64 k) (λ_=>rfl) ?_;refine cE 2 (some 15) rfl rfl (λ_ _ _ h=>h) rfl (v:=.int .i64 (k*64)) (λ_=>by go_simp;exact IntWalk.i64_in _ ϖ) ?_;simp only[puts];refine cE 3 (some 16) rfl rfl (λ_ _ _ h=>h) rfl (v:=.slice (some ⟨u,k*64,none⟩) (128-k*64) (128-k*64)) (λ_=>oy 138 5 128 _ _ rfl underlying138 ϰ u 0 rfl (k*64) rfl ϖ ϖ _ _ ϖ ϖ) ?_;simp only[puts];have g:Nat.min (128-k*64) 64=64:=Nat.min_eq_right ϖ;have a:((r.drop (k*64)).take 64).length=64:=by rw[ac8,am1,HR.out];omega
   refine tV 4 (some 17) rfl rfl rfl _ _ (Kv _ _ _ _ 5 rfl underlying85 ϰ l 0 _ _ rfl u (k*64) _ _ rfl _ _ t _ _ s (byteCells ((r.drop (k*64)).take 64)) ?_ ?_ ?_ (byteCells_one _)) ?_;rw[g];rw[fB,fA];rw[g,ae,a];rw[ae,a];decide;rw[bV _ _ (by rw[ae,a];rfl)];refine nQ ?_;have G:=t.setRow (byteCells ((r.drop (k*64)).take 64)).toArray;have f3:aG [l] w3 (w3.setRow l (byteCells ((r.drop (k*64)).take 64)).toArray):=aG.setRow _ _ _ _;have L:=f3.row s (by simpa using ag);have H:=I.ky f3 (by simpa using n8);have E:=O.trans f3 (by simp;omega);have V7:Hid (((r.drop (k*64)).take 64).length=64):=a;generalize Q:(r.drop (k*64)).take 64=b at*;have U:Hid ((r.drop (k*64)).take 64=b):=Q;generalize w3.setRow l (byteCells b).toArray=w4 at G L H E;clear t s I O f3 g a Q;simp only[puts];go_wp2_with fail;refine ej 8 rfl ?_;have f:aG [] w4 w4.drew:=aG.drew _ _;have B:=f.row L;have q8:=f.row G;have A:=H.new f;have p:=E.trans f;generalize w4.drew=w5 at B q8 A p;clear L G H E f;have hC:Lets (λw':Φ=>Row w' l (byteCells b).toArray 148):=⟨λw o h=>(aG.alloc [] w o).row h,λw h=>h⟩
   refine cE 0 (some 18) rfl rfl (λ_ _ _ h=>h) rfl (v:=.pointer (some ⟨d,0,none⟩)) (λ_=>rfl) ?_;refine cE 1 (some 19) rfl rfl (λ_ _ _ h=>h) rfl (v:=.int .i64 i) (λ_=>rfl) ?_;simp only[puts];refine V1 2 _ hC q8 ϖ (some 20) rfl rfl ϰ ϰ ϰ rfl ϰ 115 #[.int .i64 i] (.int .i64 (1+2*i:Nat)) (λ_ _ _ h=>h) (λ_=>by go_simp) (λw' _=>p7 i ϖ w') ?_;refine cE 3 (some 21) rfl rfl (λ_ _ _ h=>h) rfl (v:=.int .i64 k) (λ_=>rfl) ?_;simp only[puts];have al:((1+2*i:Nat):Int)<=400:=ϖ;refine cE 4 (some 22) rfl rfl (λ_ _ _ h=>h) rfl (v:=.int .i64 (1+2*i+k:Nat)) (λ_=>wu _ _ _ _ _ rfl (.int .i64 (1+2*i:Nat)) (.int .i64 k) rfl rfl _ rfl (V4 _ _ _ _ _ ϖ ϖ ϖ)) ?_;simp only[puts];refine tV 5 (some 23) rfl rfl rfl _ w5 (jV 148 _ rfl l 0 rfl dX 64 bI _ _ q8 (byteCells b) ?_ (by rw[ae];exact V7.out)) ?_;simp only[ϳ];exact ν (by rw[ae];exact al2 V7.out);refine G0 6 ϖ (some 24) rfl rfl ϰ rfl 148 #[.pointer (some ⟨d,0,none⟩),.int .i64 (1+2*i+k:Nat),.agg (byteCells b).toArray] (by go_simp) _ (mi q d n (y k) (1+2*i+k:Nat) b w5 A (W.out k hk D.out) V7.out (am.out k hk)) ?_;rintro e w6⟨rfl,F6,h6,f6,g6⟩;refine⟨_,rfl,?_⟩;refine cE 7 (some 9) rfl rfl (λ_ _ _ h=>h) rfl (v:=du (y k).bL) (λ_=>rfl) ?_;simp only[puts];refine nQ ?_;have hy:(y k).write (1+2*i+k:Nat) b=y (k+1):=by rw[HW.out k ao,U.out]
   rw[hy]at h6;have aa:=f6.row B λM=>K.out M;have sb:aG F w w6:=p.trans f6 λj C=>Y.out j C;have Z:Hid (dw F F6 w):=λj C=>(g6 j C).elim (λh=>Y.out j h) λh=>.inr (by have:=p.size;omega)
   have ac:Hid (u∉F6):=λM=>(g6 _ M).elim K.out (λh=>by have:=B.lt;omega)
   clear hC B q8 A p hy f6 g6 Y K U V7 al;cases P:(y k).bL with
   |true=>
    have m:Hid ((y k).bL=true):=P;simp only[du,if_true];clear P;go_wp2
    go_roundw
    case rel=>
     refine⟨k+1,by go_num,ϖ,λj C=>?_,F6,h6,sb,Z,aa,ac⟩;obtain h|h:=am0 j k;exact D.out j h;obtain rfl:j=k:=ϖ;exact m.out
    case measure=>simp[intOf];omega
   |false=>
    have m:Hid ((y k).bL=false):=P;simp only[du];clear P;have z:x.lu i r=false/\x.qa i r=y (k+1):=by
     have an:k=0\/k=1:=ϖ;obtain rfl|rfl:=an;have h0:x.bL=false:=by rw[<-H0.out];exact m.out
     exact⟨by rw[J.out,h0];rfl,by rw[N.out,h0];rfl⟩;have h0:x.bL=true:=by rw[<-H0.out];exact D.out 0 ϖ
     exact⟨by rw[J.out,h0,m.out];rfl,by rw[N.out,h0,m.out];rfl⟩
    have S:Hid (x.lu i r=false/\x.qa i r=y (k+1)):=z;clear z;go_wp2;go_ret;exact⟨by rw[S.out.1];rfl,F6,by rw[S.out.2];exact h6,sb,Z.out⟩
  .obtain rfl:k=2:=ϖ;have h0:x.bL=true:=by rw[<-H0.out];exact D.out 0 ϖ
   have S:Hid (x.lu i r=(y 2).bL/\x.qa i r=(y 2).flush):=by constructor;rw[J.out,h0,D.out 1 ϖ];rfl;rw[N.out,h0,D.out 1 ϖ];rfl
   clear h0;go_wp2_with fail;refine(mV q d n (y 2) wr A (W.out 2 ϖ D.out)).mono ?_;rintro e w9⟨rfl,F9,h9,f9,g9⟩;go_wp2;go_ret;exact⟨by rw[S.out.1];rfl,F9,by rw[S.out.2];exact h9,p.trans f9 λj C=>Y.out j C,Y.out.trans g9 p.size⟩
def DS.Ce{x:DS}{r:Nat}(h:x.Fit (r+1))(a:x.bL=true):x.flush.Fit r:=by
 have h2:=DS.j9 (s:=0) (l:=[]) h a;unfold DS.write at h2;unfold DS.flush;rw[κ a]at h2⊢;exact⟨h2.mZ,h2.mY,h2.mM,h2.mL⟩
def DS.Sr{x:DS}(h:x.lu i r=true):x.qa i r=(x.wr i r 2).flush/\x.bL=true/\(x.wr i r 1).bL=true/\(x.wr i r 2).bL=true:=by
 unfold DS.lu at h;simp only[χ]at h;unfold DS.qa;rw[κ h.1.1,κ h.1.2];exact⟨rfl,h.1.1,h.1.2,h.2⟩
def DS.Ek{x:DS}(a:x.Fit (m+3))(h:x.lu i r=true):(x.qa i r).Fit m/\(x.qa i r).waiting=[]:=by
 have⟨e,h0,h1,h2⟩:=DS.Sr h;rw[e];refine⟨DS.Ce (DS.G9 (m:=m+1) 2 (by rw[show m+1+2=m+3 by omega];exact a) λj b=>?_) h2,?_⟩;obtain h|h:=am0 j 1;obtain rfl:j=0:=ϖ;exact h0;obtain rfl:j=1:=ϖ;exact h1;unfold DS.flush;rw[κ h2]
def DS.put(x:DS)(n s:Nat)(p:Ξ)(c:Ξ):DS×Θ:=
 if eF x n=-1 then(x,.int .i64 7)
 else if x.lu (eF x n).toNat (dc s p.data.toList c.data.toList)then
  ((
    x.qa (eF x n).toNat (dc s p.data.toList c.data.toList)).mark (eF x n) (dl x s p (taken x n)),
    du ((x.qa (eF x n).toNat (dc s p.data.toList c.data.toList)).kr (eF x n) (dl x s p (taken x n))))
 else(x.qa (eF x n).toNat (dc s p.data.toList c.data.toList),.int .i64 3)
def DS.remove(x:DS)(n s:Nat)(p:Ξ):DS×Θ:=
 if dl x s p (taken x n)=-1 then(x,.int .i64 5)
 else(x.mark (-1) (dl x s p (taken x n)),du (x.kr (-1) (dl x s p (taken x n))))
def uj(n:Nat)(x:DS)(s:Int)(p:Ξ):-1<=dl x s p (taken x n)/\dl x s p (taken x n)<aH n:=by
 obtain hs|⟨i,a,hs,_⟩:=pj x s p (taken x n);rw[hs];omega;rw[hs];have:=oE x n i a;omega
def qM(F:ϓ)(d n:Nat)(x:DS)(s:Nat)(p:Ξ)(w:Φ)(h:ce w F d n x)(l:x.Fit 2)(z:x.waiting.length<60):
  Calls prog 78 #[.pointer (some ⟨d,0,none⟩),.agg (dJ s p)] w λe w'=>e=.returned (x.remove n s p).2/\∃i,ce w' i d n (x.remove n s p).1/\aG F w w'/\dw F i w:=by
 have C:aH n<=54:=by unfold aH;omega
 go_enter func78,ntmps78;go_wp2_with (with_reducible first|refine bv rfl ?_|refine ax 103 rfl ?_);refine eZ rfl 103 _ rfl (.agg (dJ s p)) rfl ?_;intro w1 y E f1 r3;have h1:=h.new f1;go_wp2_with (with_reducible first|refine bv rfl ?_|refine ax 103 rfl ?_);refine bT rfl 103 _ rfl y 0 rfl eW 2 dN _ _ r3 [.int .i64 s,.string p] rfl rfl ?_;go_wp2_with fail;have⟨m,q,a,v⟩:=id h1;refine(tA d m n q x s p w1 a).mono ?_;rintro e f⟨rfl,f2⟩;have hr:=uj n x s p;have h2:=h1.new f2;have g:=f1.trans f2;have b:Hid (x.remove n s p=if dl x s p (taken x n)=-1 then(x,.int .i64 5)else(x.mark (-1) (dl x s p (taken x n)),du (x.kr (-1) (dl x s p (taken x n))))):=rfl;generalize dl x s p (taken x n)=k at*;clear a f1 f2 r3 v h1;have c:aG F w f:=g.mono;obtain hk|hk:=Int.lt_or_le k 0
 .obtain rfl:k=-1:=ϖ
  go_wp2;go_ret;rw[b.out];exact⟨rfl,F,h2,c,dw.refl _ _⟩
 .have u:(k==-1)=false:=by rw[ae9];omega
  go_wp2_with fail;refine(BV F d n x (-1) k f h2 l z ϖ ϖ ϖ ϖ).mono ?_;rintro e D⟨rfl,A,r,o,B⟩;go_wp2;go_ret;rw[b.out,Γ ϖ];exact⟨rfl,A,r,c.trans o λj t=>.inl t,(dw.refl F w).trans B g.size⟩
def zl(F:ϓ)(d n:Nat)(x:DS)(s:Nat)(p c:Ξ)(w:Φ)(h:ce w F d n x)(o:x.Fit 5)(W:x.waiting.length<55)(hs:s<256)(Z:p.size<256)(Q:c.size<256):
  Calls prog 76 #[.pointer (some ⟨d,0,none⟩),.agg #[.int .i64 s,.string p,.string c]] w λe w'=>e=.returned (x.put n s p c).2/\∃E,ce w' E d n (x.put n s p c).1/\aG F w w'/\dw F E w:=by
 have hn:aH n<=54:=by unfold aH;omega
 go_enter func76,ntmps76;go_wp2_with (with_reducible first|refine bv rfl ?_|refine ax 103 rfl ?_|refine ax 107 rfl ?_);refine eZ rfl 107 _ rfl (.agg #[.int .i64 s,.string p,.string c]) rfl ?_;intro w1 D l3 f1 r3;have h1:=h.new f1;go_wp2_with (with_reducible first|refine bv rfl ?_|refine ax 103 rfl ?_|refine ax 107 rfl ?_);refine(DN F d n x w1 h1).mono ?_;rintro e S⟨rfl,f2⟩;have h2:=h1.new f2;have g:=f2.row r3;have v:=f1.trans f2;clear h1 f1 f2 r3;have l:Hid (x.put n s p c=if eF x n=-1 then(x,.int .i64 7)
 else if x.lu (eF x n).toNat (dc s p.data.toList c.data.toList)then
  ((
    x.qa (eF x n).toNat (dc s p.data.toList c.data.toList)).mark (eF x n) (dl x s p (taken x n)),
    du ((x.qa (eF x n).toNat (dc s p.data.toList c.data.toList)).kr (eF x n) (dl x s p (taken x n))))
 else(x.qa (eF x n).toNat (dc s p.data.toList c.data.toList),.int .i64 3)):=rfl
 have hf:eF x n=-1\/∃i:Nat,i<aH n/\eF x n=i:=by obtain hf|⟨i,t,hf,_⟩:=mT (x.read 0) (aH n) (aH n) 0;exact .inl hf;exact .inr ⟨i,t,hf⟩
 generalize eF x n=fs at*;obtain rfl|⟨i,t,rfl⟩:=hf
 .go_wp2
  go_ret;rw[l.out];exact⟨rfl,F,h2,v.mono,dw.refl _ _⟩
 .have P:((i:Int)==-1)=false:=by rw[ae9];omega
  simp only[an3]at l;go_wp2_with (with_reducible first|refine ax 103 rfl ?_|refine ax 107 rfl ?_);refine bT rfl 103 _ rfl D 0 rfl eW 2 dN _ _ g [.int .i64 s,.string p] rfl rfl ?_;go_wp2_with (with_reducible first|refine ax 103 rfl ?_|refine ax 107 rfl ?_);have⟨K,L,q,U⟩:=id h2;refine(tA d K n L x s p S q).mono ?_;rintro e w3⟨rfl,r⟩;have hr:=uj n x s p;have M:=h2.new r;have z:=r.row g;have yh:=v.trans r;generalize dl x s p (taken x n)=k at*;clear q U h2 g v r;go_wp2_with (with_reducible first|refine ax 103 rfl ?_|refine ax 107 rfl ?_);refine bT rfl 107 _ rfl D 0 rfl kV 3 eS _ _ z [.int .i64 s,.string p,.string c] rfl rfl ?_;go_wp2_with fail;refine(Aa s p c w3 hs Z Q).mono ?_;rintro e w4⟨rfl,I⟩;have h4:=M.new I;have H:=(yh.trans I).mono (T:=F) ϛ;generalize G:dc s p.data.toList c.data.toList=R at*
  have u:R.length=128:=by rw[<-G];exact ou _ _ _
  clear G;go_wp2_with fail;refine(vH F d n x i R w4 h4 ⟨o.mZ,by have:=o.mY;omega,o.mM,o.mL⟩ W t u).mono ?_;rintro e O⟨rfl,B,C,J,X⟩;have A:=H.trans J λj N=>.inl N;have f:=(dw.refl F w).trans X H.size;cases a:x.lu i R with|true=>rw[a]at l;have b:=DS.Ek (m:=2) o a;generalize x.qa i R=y at*;clear a;simp only[du,if_true];go_wp2_with fail;refine(BV B d n y i k O C b.1 (by rw[b.2];decide) ϖ ϖ ϖ ϖ).mono ?_;rintro e w6⟨rfl,Y,h6,V,g6⟩;go_wp2;go_ret;rw[l.out,Γ ϖ];exact⟨rfl,Y,h6,A.trans V f,f.trans g6 A.size⟩|false=>rw[a]at l;generalize x.qa i R=y at*;clear a;simp only[du];go_wp2;go_ret;rw[l.out,Γ ϖ];exact⟨rfl,B,C,A,f⟩
def marks(n:Nat)(l:ϓ):Array Bool:=((range n).map λj=>l.contains j).toArray
def v7(n k:Nat)(l:ϓ)(h:k<n):(marks n l).setIfInBounds k true=marks n (k::l):=by
 apply an5;intro i;simp only[marks,Array.getElem?_setIfInBounds,ab9,af2,ϐ7,List.getElem?_toArray,List.getElem?_map];by_cases a:k=i;subst a;simp[h];simp only[a,if_false];by_cases b:i<n;simp[List.getElem?_range b,Ne.symm a];rw[ai7 (by simp;omega)];rfl
def yt(P:aa1)(ops:Ϝ)(Q:ϔ)(n m:Nat)(l:ϓ)(a:Act)(w:Φ):Prop:=wpAny P .any ops Q m (marks n l) a w
section
variable {P:aa1}{ops:Array Oper}{Q:Exit->Act->Φ->Prop}
def jg(h:yt P ops Q n n [] a w):At P ops Q n 0 a w:=by
 unfold At;have e:upto n 0=marks n []:=by simp[upto,marks]
 rw[e];exact h
def bh(k:Nat)(b:Ϟ)(e:ops[k]?=some oi)(hd:oi.dst=b)(f:∀c a w,Q (.panic c) (a.put oi.dst v) w->Q (.panic c) a w)(hg:oi.guard=none)(d:∀w,(execOp a.eval oi).run P w=.ok (.value v) w)(h:yt P ops Q n m (k::l) (a.put b v) w)(hk:k<n:=by omega)(hs:Region.noSelect ops=true:=by kernel_rfl)(hf:Region.free .any ops (marks n l) k=true:=by kernel_rfl)(hr:(ready .any ops (marks n l)).contains k=true:=by kernel_rfl):yt P ops Q n (m+1) l a w:=
 Av e hs hf hr f hg d (by rw[v7 n k l hk,hd];exact h)
def RQ(k:Nat)(hk:k<n)(c:Ϟ)(d:ops[k]?=some oi)(hd:oi.dst=c)(hr:ready .any ops (marks n l)=[k])(hg:oi.guard=none)(v:Θ)(w1:Φ)(b:(execOp a.eval oi).run P w=.ok (.value v) w1)(h:yt P ops Q n m (k::l) (a.put c v) w1):yt P ops Q n (m+1) l a w:=
 D9 hr d hg v w1 b (by rw[v7 n k l hk,hd];exact h)
def j3(hr:ready .any ops (marks n l)=[])(h:Q .normal a w):yt P ops Q n m l a w:=wpAny_done hr h _
end
def PI(v:Θ)(c m:Nat)(d:0<c):madeCells (replicate c v).toArray m=(replicate m v).toArray:=by
 apply an5;intro i;have b:∀j,j<c->((replicate c v).toArray)[j]! =v:=λj a=>by rw[al9 _ j (by simpa using a)];simp
 by_cases h:i<m;simp only[madeCells,ag8,Array.getElem?_range,h,if_true,ι,ab9,ak6,List.getElem?_toArray,List.getElem?_replicate];rw[b _ (Nat.mod_lt _ d)];simp[madeCells,h]
def L9(m:Nat):madeCells fI.cells m=(byteCells (replicate m 0)).toArray:=by
 have e:fI.cells=(replicate 64 (Value.int .u8 ((0:η).toNat))).toArray:=by show(byteCells (replicate 64 0)).toArray=_;unfold byteCells;rw[List.map_replicate]
 rw[e,PI _ _ _ (by decide)];unfold byteCells;rw[List.map_replicate]
def DS.fresh(l:ϑ):DS:=⟨l,[],0,false,0,0,false⟩
def laid(l:ϑ)(n k:Nat):List η:=l.take (k*64)++replicate ((n-k)*64) 0
def FR(l:ϑ)(n k:Nat)(a:l.length=64*n)(hk:k<=n):(laid l n k).length=64*n:=by
 simp[laid];omega
def ED(l:ϑ)(n k:Nat)(a:l.length=64*n)(hk:k<n):splice (laid l n k) (k*64) ((l.drop (k*64)).take 64)=laid l n (k+1):=by
 unfold splice laid;have h1:(l.take (k*64)).length=k*64:=by rw[ac8];omega
 have h2:((l.drop (k*64)).take 64).length=64:=by rw[ac8,am1];omega
 rw[ϵ ϖ,ν (al2 h1),h2,ϔ6,aj9 (show(l.take (k*64)).length<=k*64+64 by omega),h1,List.drop_replicate,show(k+1)*64=k*64+64 by omega,List.take_add];simp only[ϸ,List.append_assoc];rw[show(n-k)*64-(k*64+64-k*64)=(n-(k+1))*64 by omega]
def FZ:(prog.info? 148).map (λi=>(i.size,i.bytes,i.zero))=some (64,64,some fI):=ϰ
def Jm(a n:Nat):prog.built 134 [(0,.slice (some ⟨a,0,none⟩) n n)]=some (jt a n (.slice none 0 0) (DS.fresh [])):=ϰ
def vJ:prog.underlying 129=some (.slice 148):=ϰ
def bC(t:θ)(_:o.op=.build t ps)(h:af (wpList P ops Q (o::rest) a w)):wpList P ops Q (o::rest) a w:=h
def By(t:θ){x y:ac4}(_:o.op=.makeSlice t x y)(h:af (wpList P ops Q (o::rest) a w)):wpList P ops Q (o::rest) a w:=h
def Sv{P:aa1}{ops:Ϝ}{Q:ϔ}{a:Act}{w:Φ}{rest:Ϩ}{o:Oper}(hg:o.guard=none)(t e:θ)(x y:ac4)(k:o.op=.makeSlice t x y)(p:P.underlying t=some (.slice e))(g d:Nat)(z:Θ)(f:(P.info? e).map (λi=>(i.size,i.bytes,i.zero))=some (g,d,some z))(n:Nat)(j:a.eval x=.int .i64 n)(m:a.eval y=.int .i64 n)(r:d*n<=281474976710656)(q:n<=9223372036854775807)(h:∀(w1:Φ)(b:Nat),w.heap.size<=b->aG [] w w1->Row w1 b (madeCells z.cells (n*g)) e->wpList P ops Q rest (a.put o.dst (.slice (some ⟨b,0,none⟩) n n)) w1):wpList P ops Q (o::rest) a w:=by
 refine bX hg _ (w.alloc (.cells (madeCells z.cells (n*g)) e)) ?_ (h _ _ (ε _) (aG.alloc ..) (Row.new ..));cases c:P.info? e with|none=>simp[c]at f|some i=>simp only[c,ι,ag0,ai6]at f;have⟨h1,h2,l⟩:=f;subst h1;subst h2;have:=run_make (P:=P) w t e i z p c l .i64 .i64 n n ϖ (Int.le_refl _) (by rw[<-Int.natCast_mul];omega) ϖ;simp only[an3]at this;simp[execOp,k,j,m,this]
def Ga(s:Ξ)(n:Nat)(w:Φ)(hs:s.size=64*n)(y:16<=n)(K:n<=400):
  Calls prog 104 #[.string s] w λe w'=>∃d F,e=.returned (.pointer (some ⟨d,0,none⟩))/\ce w' F d n (DS.fresh s.data.toList)/\aG [] w w'/\dw [] F w:=by
 have b:Hid (s.data.toList.length=64*n):=by show _=_;rw[aj6];exact hs
 have M:(s.size:Int).tdiv 64=n:=by rw[hs];push_cast;exact Int.mul_tdiv_cancel_left _ (by decide)
 go_enter func104,ntmps104;go_wp2_with (with_reducible refine By 129 rfl ?_);refine Sv rfl 129 148 _ _ rfl vJ 64 64 fI FZ n rfl rfl ϖ ϖ ?_;intro w1 a l1 f1 r1;rw[L9]at r1;have x:Hid (laid s.data.toList n 0=replicate (n*64) 0):=by show _=_;simp[laid]
 rw[<-x.out]at r1;go_wp2_with (with_reducible refine bC 134 rfl ?_);refine bX rfl (.agg (jt a n (.slice none 0 0) (DS.fresh []))) w1 (jd _ _ rfl _ (Jm a n)) ?_;go_wp2_with (with_reducible refine bv rfl ?_);refine eZ rfl 134 _ rfl (.agg (jt a n (.slice none 0 0) (DS.fresh []))) rfl ?_;intro I d l2 f2 r2;have z:Row I d (jt a n (.slice none 0 0) (DS.fresh [])) 134:=r2;have q1:=f2.row r1;have H:=f1.trans f2;have o:d≠a:=by have:=r1.lt;omega
 have B:w.heap.size<=d:=by have:=f1.size;omega
 clear r1 r2 f1 f2 l2;have c0:=(jX z).1;go_wp2_with fail;clear c0
 go_loopw [16] (λc wr=>∃k:Nat,c=.int .i64 k/\k<=n/\aG [] w wr/\Row wr d (jt a n (.slice none 0 0) (DS.fresh [])) 134/\Row wr a (byteCells (laid s.data.toList n k)).toArray 148) λc _=>n-(intOf c).toNat
 case atStart=>exact⟨0,rfl,ϖ,H,z,q1⟩
 case round=>
  obtain⟨k,rfl,hk,f,A,r⟩:=hrel;clear q1 z H;by_cases D:k<n
  .go_wp2_with fail;refine ej 12 rfl ?_;have t:aG [] wr wr.drew:=aG.drew ..;have q:=t.row A;have p:=t.row r;have f:=f.trans t;generalize wr.drew=l at q p f;clear A r t;refine jg ?_;refine bh 0 (some 19) rfl rfl (λ_ _ _ h=>h) rfl (v:=.pointer (some ⟨d,0,none⟩)) (λ_=>rfl) ?_;refine bh 1 (some 20) rfl rfl (λ_ _ _ h=>h) rfl (v:=.pointer (some ⟨d,0,none⟩)) (λ_=>by go_simp) ?_;refine bh 2 (some 21) rfl rfl (λ_ _ _ h=>h) rfl (v:=.pointer (some ⟨d,0,none⟩)) (λ_=>by go_simp) ?_;refine bh 4 (some 23) rfl rfl (λ_ _ _ h=>h) rfl (v:=.int .i64 k) (λ_=>rfl) ?_;refine bh 7 (some 26) rfl rfl (λ_ _ _ h=>h) rfl (v:=.string s) (λ_=>rfl) ?_;refine bh 8 (some 27) rfl rfl (λ_ _ _ h=>h) rfl (v:=.int .i64 k) (λ_=>rfl) ?_;simp only[puts];refine bh 9 (some 28) rfl rfl (λ_ _ _ h=>h) rfl (v:=.int .i64 (k*64)) (λ_=>by go_simp;exact IntWalk.i64_in _ ϖ) ?_;simp only[puts];refine bh 10 (some 29) rfl rfl (λ_ _ _ h=>h) rfl (v:=.string (s.extract (k*64) s.size)) (λ_=>?_) ?_
   .have e:((k:Int)*64).toNat=k*64:=ϖ;go_simp;intro h;exact absurd (h ϖ) ϖ
   simp only[puts];have c0:=(jX q).1;refine RQ 3 ϖ (some 22) rfl rfl ϰ rfl (.slice (some ⟨a,0,none⟩) n n) l (by go_simp) ?_;clear c0;refine bh 5 (some 24) rfl rfl (λ_ _ _ h=>h) rfl (v:=.pointer (some ⟨a,k*64,none⟩)) (λ_=>by go_simp) ?_;refine bh 6 (some 25) rfl rfl (λ_ _ _ h=>h) rfl (v:=.slice (some ⟨a,k*64,none⟩) 64 64) (λ_=>by go_simp) ?_;simp only[puts];have g:=FR s.data.toList n k b.out hk;refine RQ 11 ϖ (some 30) rfl rfl ϰ rfl _ _ (nN _ _ _ _ 5 rfl underlying85 a (k*64) 64 64 rfl (s.extract (k*64) s.size) rfl _ _ p ?_) ?_;simp only[ab9,ae,g];have:Nat.min (s.extract (k*64) s.size).size 64<=64:=Nat.min_le_right ..;omega;have j:(s.extract (k*64) s.size).data.toList.take 64=(s.data.toList.drop (k*64)).take 64:=by
    have C:s.data.toList.length=s.size:=by rw[aj6];rfl
    rw[ByteArray.data_extract,Array.toList_extract,List.extract_eq_take_drop,ϕ7,<-C,<-am1];rw[List.take_eq_take_iff];omega
   rw[j,nD,ED _ _ _ b.out D];refine j3 ϰ ?_;have m:=p.setRow (byteCells (laid s.data.toList n (k+1))).toArray;have u:aG [a] l (l.setRow a (byteCells (laid s.data.toList n (k+1))).toArray):=aG.setRow ..;have G:=u.row q (by simpa using o);have E:aG [] w (l.setRow a (byteCells (laid s.data.toList n (k+1))).toArray):=f.trans u (by simp;exact l1);generalize l.setRow a (byteCells (laid s.data.toList n (k+1))).toArray=L at m G E;clear p q f u j g;simp only[puts];go_wp2
   go_roundw
   case rel=>exact⟨k+1,by go_num,ϖ,E,G,m⟩
   case measure=>simp[intOf];omega
  .obtain rfl:k=n:=ϖ
   go_wp2;go_ret;have J:laid s.data.toList k k=s.data.toList:=by unfold laid;rw[ν (by rw[b.out];omega)];simp
   rw[J]at r;refine⟨d,[d,a],rfl,⟨a,.slice none 0 0,{row:=A,last:=r,len:=b.out,own:=World.ownsRow_nil ..,eO:=by simp[DS.fresh],within:=by simp[DS.fresh],lo:=y,hi:=K,few:=by simp[DS.fresh],ne:=o,ne1:=by simp[Value.ownBlock],Dv:=by simp[Value.ownBlock],nil:=λ_=>rfl},by simp[Value.ownBlock]⟩,f,λi hi=>?_⟩;simp only[ac2,aj8,or_false]at hi;obtain rfl|rfl:=hi;exact .inr B;exact .inr l1
def wm:(prog.info? 5).map (λi=>(i.size,i.bytes,i.zero))=some (1,1,some (.int .u8 0)):=ϰ
def rL:prog.underlying 85=some (.slice 5):=underlying85
def uk:(prog.info? 146).map (·.size)=some 2:=ϰ
def Dz:liesAt prog prog.depth 146 (2/prog.cellsOf 146) 0 146 1=true:=ϰ
def NK(b:Nat)(w:Φ)(h0:w.cell? ⟨b,0,none⟩=some (.pointer (some ⟨b,0,none⟩))):
  Calls prog 129 #[.pointer (some ⟨b,0,none⟩)] w λe w'=>e=.returned (.tuple #[])/\w'=w:=by
 have⟨j,a,_⟩:=ψ.1 uk;go_enter func129,ntmps129;go_wp2_with fail;rw[Lib.run_neq_ptr_same w _ underlying144 a];go_wp2_with fail
 go_end0
 exact⟨rfl,rfl⟩
def p8(b:Nat)(w:Φ)(h0:w.cell? ⟨b,0,none⟩=some (.pointer none))(a:w.shape? b=some (146,2))(f:w.frozen? ⟨b,0,none⟩=false):
  Calls prog 129 #[.pointer (some ⟨b,0,none⟩)] w λe w'=>e=.returned (.tuple #[])/\w'=w.setCell ⟨b,0,none⟩ (.pointer (some ⟨b,0,none⟩)):=by
 have⟨j,d,c⟩:=ψ.1 uk;go_enter func129,ntmps129;go_wp2_with fail;rw[Lib.run_to_unsafe w ⟨b,0,none⟩ underlying144 underlying247 d (by rw[c];decide) a (Nat.zero_lt_succ 1)];simp only[Result.andThen];rw[Oper.upon_value];go_wp2_with fail;rw[run_callFunc_extern func161 ϰ ϰ ϰ (e:=Extern.AbiNoEscape.same) ϰ];rw[Lib.run_noEscape];simp only[Result.andThen];rw[Oper.upon_value];go_wp2_with fail;rw[Lib.run_from_unsafe w ⟨b,0,none⟩ underlying247 underlying144 d a Dz];simp only[Result.andThen];rw[Oper.upon_value];go_wp2_with fail
 go_end0
 exact⟨rfl,rfl⟩
def Jj(B b:Nat)(bs:ϝ)(ad:Addr)(m c:Nat)(a:ϝ)(w:Φ)(h:IsBuilder 146 5 B b bs w)(K:a.length=m)(t:∀j u,a[j]?=some u->w.cell? (ad.add j)=some u)(z:ad.block≠b)(h1:∀u∈a,u.oneCell'=true)(J:bs.length+m<=1000000)(L:B<=w.heap.size):
  Calls prog 86 #[.pointer (some ⟨b,0,none⟩),.slice (some ad) m c] w λe w'=>e=.returned (.tuple #[.int .i64 m,.nilIface])/\BuilderAt 146 5 B b (.pointer (some ⟨b,0,none⟩)) (bs++a) w'/\Below B w w':=by
 obtain⟨N,x,C⟩:∃i,prog.info? 5=some i/\i.size=1/\i.bytes=1/\i.zero=some (.int .u8 0):=by
  have:=wm;cases x:prog.info? 5 with|none=>simp[x]at this|some i=>simp only[x,ι,ag0,ai6]at this;exact⟨i,rfl,this⟩
 have Q:Calls prog 129 #[.pointer (some ⟨b,0,none⟩)] w λe w'=>e=.returned (.tuple #[])/\BuilderAt 146 5 B b (.pointer (some ⟨b,0,none⟩)) bs w'/\Below B w w'/\∀p:Addr,p.block≠b->w'.cell? p=w.cell? p:=by obtain h|h:=h;refine(p8 b w h.cell0 h.shape h.frozen0).mono ?_;rintro e w'⟨rfl,rfl⟩;exact⟨rfl,h.used _,(Below.refl B w).setCell (p:=⟨b,0,none⟩) h.1 _,λp P=>World.cell?_setCell_other _ _ _ _ λe=>P (by rw[<-e])⟩;refine(NK b w h.cell0).mono ?_;rintro e w'⟨rfl,rfl⟩;exact⟨rfl,h,Below.refl B _,λ_ _=>rfl⟩
 go_enter func86,ntmps86;go_wp2_with fail;refine Q.mono ?_;rintro e w1⟨rfl,A,s,r⟩;have⟨G,v,l,q,D⟩:=A;have c0:w1.cell? ⟨b,0,none⟩=some (.pointer (some ⟨b,0,none⟩)):=by rw[Lib.cell_of_heap l];rfl
 have c1:w1.cell? ⟨b,1,none⟩=some v:=by rw[Lib.cell_of_heap l];rfl
 have n:∀j u,a[j]?=some u->w1.cell? (ad.add j)=some u:=λj u O=>by rw[r (ad.add j) (by unfold Addr.add;split<;>exact z)];exact t j u O
 go_wp2_with (at_builtin;refine wpList_append_own _ rfl _ _ 85 rfl B 5 N (.int .u8 0) 1 1 rL x C.2.2 C.1 C.2.1 rfl (by decide) _ _ _ rfl q ad m c a rfl ϖ n h1 ?c3 ?c4 ?c5 ?_)
 case c3=>unfold maxLen;omega
 case c4=>omega
 case c5=>have:=s.size;omega
 intro M y f d _;have F:b<w1.heap.size:=by obtain E|E:=am0 b w1.heap.size;exact E;simp[Array.getElem?_eq_none E]at l
 have o:y.heap[b]?=some (.cells #[.pointer (some ⟨b,0,none⟩),v] 146 (0,0)):=by rw[d.block b F λe=>D e.symm];exact l
 have R:y.cell? ⟨b,0,none⟩=some (.pointer (some ⟨b,0,none⟩)):=by rw[Lib.cell_of_heap o];rfl
 have d1:y.cell? ⟨b,1,none⟩=some v:=by rw[Lib.cell_of_heap o];rfl
 have f1:y.frozen? ⟨b,1,none⟩=false:=Lib.frozen_of_heap o 1;obtain⟨H,I,cap,rfl⟩:∃H I cap,M=.slice H I cap:=by obtain⟨hv,_⟩|⟨g,cap,cur,hv,_⟩:=f.2;exact⟨_,_,_,hv⟩;exact⟨_,_,_,hv⟩
 go_wp2
 go_ret2
 refine⟨rfl,?_,?_⟩;exact Lib.BuilderAt.put (T:=146) (e:=5) G o (bs':=bs++a) (by simpa[K] using f) (by decide);exact(s.grown d (by have:=s.size;omega) λk hk=>(q.lt k hk).1).setCell (p:=⟨b,1,none⟩) G _
def Kc{T:θ}{b:Nat}{w':Φ}(h:IsBuilder T e B b bs w)(f:aG [] w w'):IsBuilder T e B b bs w':=by
 have g:∀p,BuilderAt T e B b p bs w->BuilderAt T e B b p bs w':=λp c=>by have a:=c.lt;have⟨k,v,i,d,j⟩:=c;exact⟨k,v,by rw[f.block b a ϛ];exact i,f.owns d,j⟩
 exact h.imp (g _) (g _)
def mc{w1 a:Φ}(f:aG [] w w1)(h:Below w.heap.size w1 a):aG [] w a:=
 ⟨h.os.trans f.os,h.tape.trans f.tape,h.output.trans f.output,ac3 f.size h.size,λk hk _=>(h.block k hk).trans (f.block k hk ϛ)⟩
def t8:(prog.info? 146).map (·.zero)=some (some (.agg #[.pointer none,.slice none 0 0])):=ϰ
def Nj(d D n:Nat)(L:Θ)(x:DS)(w:Φ)(h:bM w d D n L x):
  Calls prog 53 #[.pointer (some ⟨d,0,none⟩)] w λe w'=>e=.returned (.string ⟨x.bg.toArray⟩)/\aG [] w w':=by
 have G:=h.len;have R:=h.hi;go_enter func53,ntmps53;go_wp2_with (with_reducible refine au rfl ?_);refine br rfl 146 rfl _ t8 ?_;intro w1 f K f1 r3;have h1:=h.new f1;have c0:=(jX h1.row).1;have l:IsBuilder 146 5 w.heap.size f (byteCells (x.bg.take (64*0))) w1:=
  .inl ⟨K,.slice none 0 0,r3,by simpa[byteCells] using World.ownsRow_nil _ _ _ _,by simp[Value.ownBlock]⟩
 go_wp2_with fail;clear c0 r3
 go_loopw [11] (λc wr=>∃k:Nat,c=.int .i64 k/\k<=n/\aG [] w wr/\IsBuilder 146 5 w.heap.size f (byteCells (x.bg.take (64*k))) wr) λc _=>n-(intOf c).toNat
 case atStart=>exact⟨0,rfl,ϖ,f1,l⟩
 case round=>
  obtain⟨k,rfl,hk,i,b⟩:=hrel;clear h1 f1 l;by_cases Q:k<n
  .have H:=h.new i;have a:((x.bg.drop (k*64)).take 64).length=64:=by rw[ac8,am1];omega
   have o:((byteCells x.bg).toArray.toList.drop (k*64)).take 64=byteCells ((x.bg.drop (k*64)).take 64):=by rw[List.toList_toArray,fB,fA]
   go_wp2_with (with_reducible refine ax 148 rfl ?_);refine bT rfl 148 _ rfl D (k*64) rfl dX 64 bI _ _ H.last (byteCells ((x.bg.drop (k*64)).take 64)) o (by rw[ae];exact a) ?_;have J:Hid (x.bg.take (64*(k+1))=x.bg.take (64*k)++(x.bg.drop (k*64)).take 64):=by show _=_;rw[show 64*(k+1)=64*k+64 by omega,List.take_add,Nat.mul_comm k 64]
   generalize (x.bg.drop (k*64)).take 64=m at*;have O:(byteCells (x.bg.take (64*k))).length<=30000:=by rw[ae,ac8];omega
   clear o H;go_wp2_with (with_reducible refine au rfl ?_);refine br rfl 148 rfl fI ed ?_;intro S v N I F;go_wp2_with (with_reducible refine ah 148 rfl ?_);refine cu rfl 148 _ _ rfl _ 0 rfl _ rfl 64 bI ?_ ?_ _ _ F ?_ ?_;simp only[ab9,ae];exact a;exact byteCells_one _;decide;intro s C z;rw[bV _ _ (by rw[ae,a];rfl)]at z;have y:aG [] wr s:=I.trans C (by simpa using N);have A:=i.trans y;have g:=Kc b y;have B:Row s v (byteCells m).toArray 148:=z;have t:v≠f:=by
    have:f<wr.heap.size:=by obtain b|b:=b<;>exact b.lt
    omega
   clear F z I C y i b;go_wp2_with fail;refine(Jj w.heap.size f _ ⟨v,0,none⟩ 64 64 (byteCells m) s g (by rw[ae];exact a) ?_ t (byteCells_one _) ϖ A.size).mono ?_;intro j u M;rw[Addr.add_mid,B.cell];simpa using M;rintro e E⟨rfl,p,q⟩;have r:=mc A q;have P:IsBuilder 146 5 w.heap.size f (byteCells (x.bg.take (64*(k+1)))) E:=by rw[J.out,byteCells_append];exact .inr p
   clear p q g B A O;go_wp2
   go_roundw
   case rel=>exact⟨k+1,by go_num,ϖ,r,P⟩
   case measure=>simp[intOf];omega
  .obtain rfl:k=n:=ϖ;rw[ν ϖ]at b;go_wp2_with fail;refine(Tryz.Builder_String_any w.heap.size f x.bg wr b i.size).mono ?_;rintro e E⟨rfl,q⟩;have r:=mc i q;go_wp2;go_ret;exact⟨rfl,r⟩
def ka(_:o.op=.call {callee:=.builtin .copy,args:=xs,argTypes:=ts})(h:af (wpList P ops Q (o::rest) a w)):wpList P ops Q (o::rest) a w:=h
def oo:List η:=[99,111,110,99,111,114,100,49]
def i9(n:Nat):List η:=oo++[UInt8.ofNat (n/256),UInt8.ofNat n]++replicate 54 0
def lR(n:Nat):(i9 n).length=64:=by simp[i9,oo]
def Ie(n:Nat)(a:n<=400):((byteCells (splice (replicate 64 0) 0 oo)).toArray.setIfInBounds 8 (.int .u8 ((n:Int)/256))).setIfInBounds 9 (.int .u8 ((n:Int)%256))=(byteCells (i9 n)).toArray:=by
 have e1:((n:Int)/256)=((UInt8.ofNat (n/256)).toNat:Nat):=by rw[UInt8.toNat_ofNat'];omega
 have e2:((n:Int)%256)=((UInt8.ofNat n).toNat:Nat):=by rw[UInt8.toNat_ofNat'];omega
 rw[e1,e2];rfl
def tc(n:Nat)(w:Φ)(z:n<=400):
  Calls prog 112 #[.int .i64 n] w λe w'=>e=.returned (.agg (byteCells (i9 n)).toArray)/\aG [] w w':=by
 go_enter func112,ntmps112;go_wp2_with (with_reducible refine au rfl ?_);refine br rfl 148 rfl fI ed ?_;intro w1 b2 l2 f1 r2;go_wp2_with (with_reducible refine au rfl ?_);refine br rfl 148 rfl fI ed ?_;intro h a E f2 r3;have s:=f2.row r2;have t:=f1.trans f2;have c:b2≠a:=by have:=r2.lt;omega
 have l:w.heap.size<=a:=by have:=f1.size;omega
 have b:Row h a (byteCells (replicate 64 0)).toArray 148:=r3;clear r2 r3 f1 f2 E;go_wp2_with (with_reducible first|refine au rfl ?_|refine ka rfl ?_|refine ax 148 rfl ?_|refine ah 148 rfl ?_|refine ah 5 rfl ?_);refine bX rfl _ _ (nN _ _ _ _ 5 rfl underlying85 a 0 64 64 rfl ⟨#[99,111,110,99,111,114,100,49]⟩ rfl _ _ b (by simp only[ab9,ae,ak6];decide)) ?_;rw[show((⟨#[99,111,110,99,111,114,100,49]⟩:Ξ).data.toList.take 64)=oo from rfl,nD];have i:=b.setRow (byteCells (splice (replicate 64 0) 0 oo)).toArray;have k:aG [a] h (h.setRow a (byteCells (splice (replicate 64 0) 0 oo)).toArray):=aG.setRow ..;have d:=k.row s (by simpa using c);have o:=t.trans k (by simpa using l);generalize h.setRow a (byteCells (splice (replicate 64 0) 0 oo)).toArray=G at i d o;clear s b k t;go_wp2_with (with_reducible refine ah 5 rfl ?_);refine hY rfl 5 _ _ rfl a 8 rfl .u8 _ rfl _ _ i (by simp only[ab9,ae];rw[length_splice _ _ _ (by decide)];decide) ?_;intro H q r;have f:=q.row d (by simpa using c);have x:=o.trans q (by simpa using l);clear i d o q;go_wp2_with (with_reducible refine ah 5 rfl ?_);refine hY rfl 5 _ _ rfl a 9 rfl .u8 _ rfl _ _ r (by simp only[an1,ab9,ae];rw[length_splice _ _ _ (by decide)];decide) ?_;intro F j u;have m:=j.row f (by simpa using c);have D:=x.trans j (by simpa using l);clear r f x j;rw[Ie n z]at u;have g:=lR n;generalize v:i9 n=R at*;have HR:Hid (i9 n=R):=v;clear v;go_wp2_with (with_reducible refine ax 148 rfl ?_);refine bT rfl 148 _ rfl a 0 rfl dX 64 bI _ _ u (byteCells R) (by simp only[ϳ];exact ν (by rw[ae];omega)) (by rw[ae];exact g) ?_;go_wp2_with (with_reducible refine ah 148 rfl ?_);refine cu rfl 148 _ _ rfl _ 0 rfl _ rfl 64 bI ?_ ?_ _ _ m ?_ ?_;simp only[ab9,ae];exact g;exact byteCells_one _;decide;intro A B p;rw[bV _ _ (by rw[ae,g];rfl)]at p;have y:=D.trans B (by simp;exact l2);have C:Row A b2 (byteCells R).toArray 148:=p;clear p;go_wp2;exact nB rfl b2 rfl rfl _ _ C dX (by rw[bI];simp[ae,g]) ⟨by rw[HR.out],y⟩
def iF(n:Nat):List η:=i9 n++replicate ((n-1)*64) 0
def qI:∀m,repeatL [(0:η)] m=replicate m 0
 |0=>rfl
 |m+1=>by rw[repeatL,qI m,List.replicate_succ];rfl
def MR(n:Nat)(w:Φ)(h1:1<=n)(k:n<=400):
  Calls prog 77 #[.int .i64 n] w λe w'=>e=.returned (.string ⟨(iF n).toArray⟩)/\aG [] w w':=by
 go_enter func77,ntmps77;go_wp2_with fail;refine(tc n w k).mono ?_;rintro e w1⟨rfl,f1⟩;have c:=lR n;have i:Hid (iF n=i9 n++replicate ((n-1)*64) 0):=rfl;generalize i9 n=R at*;go_wp2_with (with_reducible refine au rfl ?_);refine br rfl 148 rfl fI ed ?_;intro s g q f2 r3;go_wp2_with (with_reducible refine ah 148 rfl ?_);refine cu rfl 148 _ _ rfl _ 0 rfl _ rfl 64 bI ?_ ?_ _ _ r3 ?_ ?_;simp only[ab9,ae];exact c;exact byteCells_one _;decide;intro m h b;rw[bV _ _ (by rw[ae,c];rfl)]at b;have d:Row m g (byteCells R).toArray 148:=b;have o:=(f1.trans f2).trans h (by simp;have:=f1.size;omega);clear b r3 f1 f2 h q;go_wp2_with fail;refine kF ?_;simp only[Act.put];refine bW rfl (some 6) rfl (.slice (some ⟨g,0,none⟩) 64 64) (λ_ _=>by go_simp) ?_;simp only[puts];refine bW rfl (some 7) rfl (.string (aj R)) (λw' a=>z7 85 9 5 _ rfl underlying85 underlying5 underlying9 g 0 64 64 rfl R _ (a.row d) R (by simp only[ϳ];exact ν ϖ) c) ?_;simp only[puts];refine bW rfl (some 8) rfl (.int .i64 n) (λ_ _=>rfl) ?_;simp only[puts];refine bW rfl (some 9) rfl (.int .i64 (n-1:Nat)) (λ_ _=>by have e:((n-1:Nat):Int)=(n:Int)-1:=ϖ;rw[e];go_simp;exact IntWalk.i64_in _ ϖ) ?_
 simp only[puts];refine bW rfl (some 10) rfl (.int .i64 ((n-1)*64:Nat)) (λ_ _=>by have e:(((n-1)*64:Nat):Int)=((n-1:Nat):Int)*64:=ϖ;rw[e];go_simp;exact IntWalk.i64_in _ ϖ) ?_
 simp only[puts];refine mg rfl (some 11) rfl 113 #[.string ⟨#[0]⟩,.int .i64 ((n-1)*64:Nat)] (.string ⟨(repeatL [0] ((n-1)*64)).toArray⟩) (λ_ _=>by go_simp) (λw' a=>?_) ?_;refine(Tryz.strings_Repeat ⟨#[0]⟩ ((n-1)*64) w' ϖ (by show 1*((n-1)*64)<=_;omega)).mono ?_;rintro e l⟨rfl,f⟩;exact⟨rfl,a.trans (aG.of_below f)⟩;simp only[puts];refine bW rfl (some 12) rfl (.string ⟨(iF n).toArray⟩) (λw' _=>?_) ?_;refine wu _ _ _ _ _ rfl (.string (aj R)) (.string ⟨(repeatL [0] ((n-1)*64)).toArray⟩) rfl rfl _ rfl ?_;have e:(⟨(iF n).toArray⟩:Ξ)=aj R++⟨(repeatL [0] ((n-1)*64)).toArray⟩:=by rw[i.out,qI];apply ByteArray.ext;simp[aj,ByteArray.data_append]
 rw[e];refine run_string_add_sum (P:=prog) w' (aj R) ⟨(repeatL [0] ((n-1)*64)).toArray⟩ ?_;rw[qI];show R.toArray.size+(replicate ((n-1)*64) (0:η)).toArray.size<=_;simp only[ab9,ak6];omega;simp only[puts];refine bW rfl (some 2) rfl (.string ⟨(iF n).toArray⟩) (λ_ _=>rfl) ?_;simp only[puts];intro r j;have p:=o.trans j;go_wp2;go_ret;exact⟨rfl,p⟩
section
variable {P:aa1}(w:Φ)
def yX(d:Nat)(c:P.underlying e=some (.int .u8))(a b:Int):(Op.equalIn (d+1) e (.int .u8 a) (.int .u8 b)).run P w=.ok (a==b) w:=by
 simp[Op.equalIn,run_underlying c]
def tb(d:Nat){e:θ}(b:P.plainKey e=true)(c:P.underlying e=some (.int .u8))(xs ys:ϑ):∀is:List Nat,(∀i∈is,i<xs.length/\i<ys.length)->
  (Op.eqItems (d+1) e 1 (byteCells xs).toArray (byteCells ys).toArray is).run P w=.ok (is.all λi=>xs[i]?==ys[i]?) w
 |[],_=>by simp[Op.eqItems]
 |i::is,h=>by
  have a:=h i ϛ;have l:=tb d b c xs ys is λj f=>h j (by simp[f])
  have k:=run_part_plain (P:=P) (w:=w) b (xs:=(byteCells xs).toArray) (off:=i*1) (v:=.int .u8 (xs[i].toNat)) (by simp[byteCells,a.1]);have g:=run_part_plain (P:=P) (w:=w) b (xs:=(byteCells ys).toArray) (off:=i*1) (v:=.int .u8 (ys[i].toNat)) (by simp[byteCells,a.2]);have e1:((xs[i].toNat:Int)==(ys[i].toNat:Int))=(xs[i]?==ys[i]?):=by rw[am4];simp only[ai5,al3 a.1,al3 a.2,ag0,<-UInt8.toNat_inj];exact Int.ofNat_inj
  simp only[Op.eqItems,run_bind,k,g,yX w d c,Result.andThen_ok,e1,ϒ9];cases m:(xs[i]?==ys[i]?);simp;simpa using l
def Nt(xs ys:ϑ)(n:Nat)(b:xs.length=n)(c:ys.length=n):((range n).all λi=>xs[i]?==ys[i]?)=(xs==ys):=by
 rw[am4];simp only[ae7,ah9,ai5];constructor;intro h;apply an2;intro i;obtain a|a:=am0 i n;exact h i a;rw[ai7 ϖ,ai7 ϖ];rintro rfl i _;rfl
def z9(d:Nat)(n:Nat)(k:P.underlying t=some (.array n e))(i:TypeInfo)(l:P.info? e=some i)(g:P.cellsOf e=1)(h:P.plainKey e=true)(b:P.underlying e=some (.int .u8))(xs ys:ϑ)(c:xs.length=n)(f:ys.length=n):
  (Op.equalIn (d+2) t (.agg (byteCells xs).toArray) (.agg (byteCells ys).toArray)).run P w=.ok (xs==ys) w:=by
 rw[run_equalIn_array w (d+1) _ _ k l,g,tb w d h b xs ys _ (by intro j a;rw[ah9]at a;omega),Nt xs ys n c f]
end
def zq:prog.plainKey 5=true:=ϰ
def Aj:prog.cellsOf 5=1:=ϰ
def Gk(c:BinOp)(x y:ac4)(a b:ϐ)(w:Φ):(eqGuard c 148 x y (.agg a) (.agg b)).run prog w=.ok () w:=by
 cases c<;>kernel_rfl
def DJ(c:BinOp)(x y:ac4)(a b:ϐ)(w:Φ):(eqGuard c 138 x y (.agg a) (.agg b)).run prog w=.ok () w:=by
 cases c<;>kernel_rfl
def BF:∃i,prog.info? 5=some i:=by
 have:=wm;cases a:prog.info? 5 with|none=>simp[a]at this|some i=>exact⟨i,rfl⟩
def MO(xs ys:ϑ)(a:xs.length=64)(b:ys.length=64)(w:Φ):(binOp .eql 148 (.agg (byteCells xs).toArray) (.agg (byteCells ys).toArray)).run prog w=.ok (.bool (xs==ys)) w:=by
 have⟨i,c⟩:=BF;rw[run_eql_struct,z9 w 9998 64 tn i c Aj zq underlying5 xs ys a b];rfl
def Is(xs ys:ϑ)(a:xs.length=128)(b:ys.length=128)(w:Φ):(binOp .neq 138 (.agg (byteCells xs).toArray) (.agg (byteCells ys).toArray)).run prog w=.ok (.bool (!(xs==ys))) w:=by
 have⟨i,c⟩:=BF;rw[run_neq_struct,z9 w 9998 128 underlying138 i c Aj zq underlying5 xs ys a b];rfl
def dZ(r:ϑ)(l:ϓ):List η:=l.foldl (λr i=>r.set (10+i) 1) r
def wj(l:ϓ):∀r,(dZ r l).length=r.length:=by
 induction l with|nil=>intro r;rfl|cons i l a=>intro r;show(dZ (r.set (10+i) 1) l).length=_;rw[a,List.length_set]
def zA(r:ϑ)(l:ϓ)(k:Nat)(hk:k<l.length):dZ r (l.take (k+1))=(dZ r (l.take k)).set (10+l[k]) 1:=by
 unfold dZ;rw[ac0 hk,ϑ9];rfl
def DS.vR(x:DS)(n:Nat):Bool:=dZ (i9 n) (taken x n)==x.read 0
def AQ(d y n:Nat)(z:Θ)(x:DS)(w:Φ)(h:bM w d y n z x):
  Calls prog 145 #[.pointer (some ⟨d,0,none⟩)] w λe w'=>e=.returned (.bool (x.vR n))/\aG [] w w':=by
 have zS:=h.hi;go_enter func145,ntmps145;go_wp2_with fail;refine(nz d y n z x w h).mono ?_;rintro e w0⟨rfl,rfl⟩;go_wp2_with fail;refine(tc n w0 zS).mono ?_;rintro e w1⟨rfl,f1⟩;have HO:Hid (x.vR n=(dZ (i9 n) (taken x n)==x.read 0)):=rfl;have I:=lR n;have s:Hid (∀l,(dZ (i9 n) l).length=64):=λl=>by rw[wj,I]
 have HS:Hid (∀k,(hk:k<(taken x n).length)->dZ (i9 n) ((taken x n).take (k+1))=(dZ (i9 n) ((taken x n).take k)).set (10+(taken x n)[k]) 1):=λk hk=>zA _ _ k hk
 go_wp2_with (with_reducible refine au rfl ?_);refine br rfl 148 rfl fI ed ?_;intro w2 p l3 f2 r3;go_wp2_with (with_reducible refine ah 148 rfl ?_);refine cu rfl 148 _ _ rfl _ 0 rfl _ rfl 64 bI ?_ ?_ _ _ r3 ?_ ?_;simp only[ab9,ae];exact I;exact byteCells_one _;decide;intro U S o;rw[bV _ _ (by rw[ae,I];rfl)]at o;have q:Row U p (byteCells (dZ (i9 n) ((taken x n).take 0))).toArray 148:=o;have G:=(f1.trans f2).trans S (by simp;have:=f1.size;omega);have N:=h.new G;have F:w0.heap.size<=p:=by have:=f1.size;omega
 clear o r3 f1 f2 S l3;generalize dZ (i9 n)=M at*;go_wp2_with fail;refine(jG d y n z x U N).mono ?_;rintro e w4⟨v,rfl,hv,L⟩;have Y:=L.row q;have zW:=G.trans L;have t:v.ownBlock≠some p:=λe=>by have:=(hv.lt p e).1;have:=q.lt;omega
 have ag:=fM x n;have⟨ad,cap,C⟩:=aY hv;subst C;clear N G L q;go_wp2_with fail;have Z:Hid (∀i∈taken x n,i<aH n):=λi E=>oE x n i E
 have aa:aH n<=54:=by unfold aH;omega
 generalize b:taken x n=a at*;have HT:Hid (taken x n=a):=b;clear b
 go_loopw [12] (λc wr=>∃k:Nat,c=.int .i64 k/\k<=a.length/\aG [p] w4 wr/\Row wr p (byteCells (M (a.take k))).toArray 148) λc _=>a.length-(intOf c).toNat
 case atStart=>exact⟨0,rfl,ϖ,aG.refl ..,Y⟩
 case round=>
  obtain⟨k,rfl,hk,A,o⟩:=hrel;have u:=A.owns hv (by simpa using t);by_cases r:k<a.length
  .obtain⟨g,K,rfl,hg,al,_,D,b⟩:=cO u;have E:a[k]<aH n:=Z.out _ (ag5 r);have T:wr.cell? ⟨g,k,none⟩=some (.int .i64 (a[k]:Nat)):=by
    rw[hg.cell,<-ai8];have:(K.toList.take (a.length*1))[k]?=(gh a)[k]?:=by rw[b]
    rw[ak2 ϖ]at this;rw[this];simp[gh,r]
   have O:Hid (M (a.take (k+1))=(M (a.take k)).set (10+a[k]) 1):=HS.out k r;have j:Hid ((M (a.take k)).length=64):=s.out _;generalize B:a[k]=i at E T O;clear B;clear D b;have ac:i<54:=ϖ;go_wp2_with (with_reducible refine ah 5 rfl ?_);refine hY rfl 5 _ _ rfl p (10+i) rfl .u8 1 rfl _ _ o (by simp only[ab9,ae];rw[j.out];omega) ?_;intro w6 V Q;have W:(byteCells (M (a.take k))).toArray.setIfInBounds (10+i) (.int .u8 1)=(byteCells (M (a.take (k+1)))).toArray:=by rw[O.out,ia];rfl
   rw[W]at Q;have H:=A.trans V;clear W V o T hg u A hv t;go_wp2
   go_roundw
   case rel=>exact⟨k+1,by go_num,ϖ,H,Q⟩
   case measure=>simp[intOf];omega
  .obtain rfl:k=a.length:=ϖ;rw[ϓ2]at o;have j:Hid ((M a).length=64):=s.out _;generalize M a=R at*;have P:=zW.trans A (by simp;exact F);have hd:=h.new P;have J:Hid ((x.read 0).length=64):=by
    show _=_;exact bH _ _ (by rw[h.len];simp;have:=h.lo;omega) _ h.eO
   have X:=h.lo;go_wp2_with fail;refine kF ?_;simp only[Act.put];refine bW rfl (some 20) rfl (.agg (byteCells R).toArray) (λw' m=>jV 148 _ rfl p 0 rfl dX 64 bI _ _ (m.row o) (byteCells R) (by simp only[ϳ];exact ν (by rw[ae];exact al2 j.out)) (by rw[ae];exact j.out)) ?_;simp only[puts];refine bW rfl (some 21) rfl (.pointer (some ⟨d,0,none⟩)) (λ_ _=>rfl) ?_;simp only[puts];refine mg rfl (some 22) rfl 114 #[.pointer (some ⟨d,0,none⟩),.int .i64 0] (.agg (byteCells (x.read 0)).toArray) (λ_ _=>by go_simp) (λw' m=>?_) ?_;refine(uF d y n z x 0 w' (hd.new m) ϖ ϖ).mono ?_;rintro e am⟨rfl,f⟩;exact⟨rfl,m.trans f⟩;simp only[puts];refine bW rfl (some 23) rfl (.bool (R==x.read 0)) (λw' _=>?_) ?_;exact wu _ _ _ _ _ rfl _ _ rfl rfl _ (Gk ..) (MO _ _ j.out J.out _);simp only[puts];refine bW rfl (some 2) rfl (.bool (R==x.read 0)) (λ_ _=>rfl) ?_;simp only[puts];intro w5 f5;have xR:=P.trans f5;go_wp2;go_ret;exact⟨by rw[HO.out];rfl,xR⟩
def xa(r:ϑ):Bool:=dc (fJ r) (dA r) (bQ r)==r
def DS.pu(x:DS)(n:Nat):Bool:=(taken x n).all λi=>xa (cN x i)
def vU(r:ϑ):fJ r<256:=sw r 0
def wZ(r:ϑ):(dA r).length<=8:=by unfold dA;rw[ac8];omega
def zh(r:ϑ):(bQ r).length<=96:=by unfold bQ;rw[ac8];omega
def da(l:ϑ):(aj l).size=l.length:=rfl
def RP(l:ϓ)(f:Nat->Bool)(k:Nat)(hk:k<l.length):(l.drop k).all f=(f l[k]&&(l.drop (k+1)).all f):=by
 rw[ac7 hk,ϒ9]
def vK(d z n:Nat)(C:Θ)(x:DS)(w:Φ)(h:bM w d z n C x):
  Calls prog 146 #[.pointer (some ⟨d,0,none⟩)] w λe w'=>e=.returned (.bool (x.pu n))/\aG [] w w':=by
 go_enter func146,ntmps146;go_wp2_with fail;refine(jG d z n C x w h).mono ?_;rintro e W⟨v,rfl,hv,f2⟩;have h2:=h.new f2;have V:=fM x n;have⟨ad,cap,H⟩:=aY hv;subst H;go_wp2_with fail;have HA:Hid (∀i∈taken x n,i<aH n):=λi s=>oE x n i s
 have Q:Hid (x.pu n=(taken x n).all λi=>xa (cN x i)):=rfl;generalize j:taken x n=b at*;clear j
 go_loopw [9] (λc wr=>∃k:Nat,c=.int .i64 k/\k<=b.length/\aG [] W wr/\Hid (x.pu n=(b.drop k).all λi=>xa (cN x i))) λc _=>b.length-(intOf c).toNat
 case atStart=>exact⟨0,rfl,ϖ,aG.refl ..,Q⟩
 case round=>
  obtain⟨k,rfl,hk,t,y⟩:=hrel;clear Q;have hd:=h2.new t;have q:=t.owns hv;by_cases p:k<b.length
  .obtain⟨g,J,rfl,hg,Z,_,L,j⟩:=cO q;have s:b[k]<aH n:=HA.out _ (ag5 p);have O:wr.cell? ⟨g,k,none⟩=some (.int .i64 (b[k]:Nat)):=by
    rw[hg.cell,<-ai8];have:(J.toList.take (b.length*1))[k]?=(gh b)[k]?:=by rw[j]
    rw[ak2 ϖ]at this;rw[this];simp[gh,p]
   have o:=pC hd b[k] s;have u:Hid (x.pu n=(xa (cN x b[k])&&(b.drop (k+1)).all λi=>xa (cN x i))):=by have:=y.out;rw[RP b _ k p]at this;exact this
   generalize E:b[k]=i at s O o u;clear E;clear L j;go_wp2_with fail;refine(mC d z n C x i wr hd s).mono ?_;rintro e w3⟨rfl,N⟩;have F:=t.trans N;generalize cN x i=r at*;have m:Hid (r.length=128):=o;clear o;go_wp2_with (with_reducible refine au rfl ?_);refine br rfl 138 rfl oX kO ?_;intro w4 A l5 R r5;go_wp2_with (with_reducible refine ah 138 rfl ?_);refine cu rfl 138 _ _ rfl _ 0 rfl _ rfl 128 fV ?_ ?_ _ _ r5 ?_ ?_;simp only[ab9,ae];exact m.out;exact byteCells_one _;decide;intro D M K;rw[bV _ _ (by rw[ae,m.out];rfl)]at K;have G:Row D A (byteCells r).toArray 138:=K;have X:=(F.trans R).trans M (by simp;have:=F.size;omega);clear K r5 M R N F t l5 O hg q;go_wp2_with fail;have U:∀w',aG [] D w'->_:=λw' (a:aG [] D w')=>a.row G
   refine kF ?_
   try simp only[Act.put]
   refine bW rfl (some 16) rfl (.agg (byteCells r).toArray) (λw' a=>jV 138 _ rfl A 0 rfl ko 128 fV _ _ (a.row G) (byteCells r) (by simp only[ϳ];exact ν (by rw[ae];exact al2 m.out)) (by rw[ae];exact m.out)) ?_;simp only[puts];refine mg rfl (some 17) rfl 81 #[.agg (byteCells r).toArray] (.agg (cA (fJ r) (dA r) (bQ r)).toArray) (λ_ _=>by go_simp) (λw' a=>?_) ?_;refine(pM r w' m.out).mono ?_;rintro e B⟨rfl,f⟩;exact⟨rfl,a.trans f⟩;simp only[puts];have I:Hid ((dc (fJ r) (dA r) (bQ r)).length=128):=ou ..;refine mg rfl (some 18) rfl 110 #[.agg (cA (fJ r) (dA r) (bQ r)).toArray] (.agg (byteCells (dc (fJ r) (dA r) (bQ r))).toArray) (λ_ _=>by go_simp) (λw' a=>?_) ?_;refine(Aa (fJ r) (aj (dA r)) (aj (bQ r)) w' (vU r) (by rw[da];have:=wZ r;omega) (by rw[da];have:=zh r;omega)).mono ?_;rintro e B⟨rfl,f⟩;exact⟨rfl,a.trans f⟩;simp only[puts];refine bW rfl (some 19) rfl (.agg (byteCells r).toArray) (λw' a=>jV 138 _ rfl A 0 rfl ko 128 fV _ _ (a.row G) (byteCells r) (by simp only[ϳ];exact ν (by rw[ae];exact al2 m.out)) (by rw[ae];exact m.out)) ?_;simp only[puts];refine bW rfl (some 20) rfl (.bool (!(xa r))) (λw' _=>?_) ?_;exact wu _ _ _ _ _ rfl _ _ rfl rfl _ (DJ ..) (Is _ _ I.out m.out _);simp only[puts];intro w6 Y;have P:=X.trans Y;have T:=f2.trans P;cases l:xa r with
   |true=>
    rw[l]at u;clear l hd hv h2 y;go_wp2
    go_roundw
    case rel=>exact⟨k+1,by go_num,ϖ,P,by show _=_;rw[u.out];rfl⟩
    case measure=>simp[intOf];omega
   |false=>rw[l]at u;clear l hd hv h2 y;go_wp2;go_ret;exact⟨by rw[u.out];rfl,T⟩
  .have fw:=f2.trans t;have S:Hid (x.pu n=true):=by
    have:=y.out;rw[aj9 ϖ]at this;exact this
   go_wp2;go_ret;exact⟨by rw[S.out];rfl,fw⟩
def eY(b:η):Bool:=97<=b.toNat&&b.toNat<=122
def aX(l:ϑ):Bool:=1<=l.length&&l.length<=8&&l.all eY
def yA(hg:o.guard=none)(src c e:θ)(x:ac4)(i:o.op=.convert src c x)(hs:P.underlying src=some .string)(hd:P.underlying c=some (.slice e))(k:P.underlying e=some (.int .u8))(s:Ξ)(g:a.eval x=.string s)(h:∀(w1:Φ)(b cap:Nat),w.heap.size<=b->aG [] w w1->(∀j,(d:j<s.data.toList.length)->w1.cell? ⟨b,j,none⟩=some (.int .u8 (s.data.toList[j].toNat:Int)))->wpList P ops Q rest (a.put o.dst (.slice (some ⟨b,0,none⟩) s.size cap)) w1):wpList P ops Q (o::rest) a w:=by
 have hr:=run_bytes_of_string (P:=P) w src c e s hs hd k;have f:(w.drew.alloc (.cells (bytesRow s (grownCap w s.size 0 e)) e ((bytesRow s (grownCap w s.size 0 e)).size,(bytesRow s (grownCap w s.size 0 e)).size+1))).heap[w.heap.size]?=some (.cells (bytesRow s (grownCap w s.size 0 e)) e ((bytesRow s (grownCap w s.size 0 e)).size,(bytesRow s (grownCap w s.size 0 e)).size+1)):=by show(w.heap.push _)[w.heap.size]?=_;simp
 have hf:aG [] w (w.drew.alloc (.cells (bytesRow s (grownCap w s.size 0 e)) e ((bytesRow s (grownCap w s.size 0 e)).size,(bytesRow s (grownCap w s.size 0 e)).size+1))):=(aG.drew [] w).trans (aG.alloc [] _ _);generalize w.drew.alloc (.cells (bytesRow s (grownCap w s.size 0 e)) e ((bytesRow s (grownCap w s.size 0 e)).size,(bytesRow s (grownCap w s.size 0 e)).size+1))=w1 at hr f hf;refine bX hg (.slice (some ⟨w.heap.size,0,none⟩) s.size (grownCap w s.size 0 e)) w1 ?_ (h w1 _ _ (ε _) hf λj d=>?_);simp only[execOp,i,g,run_bind];rw[hr];rfl;rw[Lib.cell_of_heap f,bytesRow_at s _ j (by simpa using d)];simp
def iE(s:Ξ)(w:Φ)(hs:s.size<=9223372036854775807):
  Calls prog 49 #[.string s] w λe w'=>e=.returned (.bool (aX s.data.toList))/\aG [] w w':=by
 have d:Hid (s.data.toList.length=s.size):=by show _=_;rw[aj6];rfl
 go_enter func49,ntmps49;by_cases h1:(s.size:Int)<1
 .have m:Hid (aX s.data.toList=false):=by
   show _=_;unfold aX;have:s.data.toList.length=0:=by rw[d.out];omega
   rw[this];rfl
  go_wp2;go_ret;exact⟨by rw[m.out];rfl,aG.refl ..⟩
 .by_cases z:(s.size:Int)>8
  .have m:Hid (aX s.data.toList=false):=by
    show _=_;unfold aX;rw[d.out];have:decide (s.size<=8)=false:=by simp;omega
    rw[this];simp
   go_wp2;go_ret;exact⟨by rw[m.out];rfl,aG.refl ..⟩
  .have o:Hid (aX s.data.toList=(s.data.toList.drop 0).all eY):=by
    show _=_;unfold aX;rw[d.out,ϳ];have e1:decide (1<=s.size)=true:=by simp;omega
    have e2:decide (s.size<=8)=true:=by simp;omega
    rw[e1,e2];rfl
   go_wp2_with (with_reducible refine gP rfl ?_);refine yA rfl 9 85 5 _ rfl underlying9 underlying85 underlying5 s rfl ?_;intro w1 b cap lb f1 a;generalize h:s.data.toList=l at*;have f:Hid (s.data.toList=l):=h;clear h;have p:Hid (∀j,(x:j<l.length)->w1.cell? ⟨b,j,none⟩=some (.int .u8 (l[j].toNat:Int))):=a;clear a;go_wp2_with fail;have v:l.length=s.size:=d.out
   go_loopw [16] (λc wr=>∃k:Nat,c=.int .i64 k/\k<=s.size/\wr=w1/\Hid (aX l=(l.drop k).all eY)) λc _=>s.size-(intOf c).toNat
   case atStart=>exact⟨0,rfl,ϖ,rfl,o⟩
   case round=>
    obtain⟨k,rfl,hk,rfl,r⟩:=hrel;by_cases u:k<s.size
    .have i:k<l.length:=ϖ;have y:=p.out k i;have q:Hid (aX l=(eY l[k]&&(l.drop (k+1)).all eY)):=by
      have:=r.out;rw[ac7 i,ϒ9]at this;exact this
     have t:(l[k].toNat:Int)<=255:=by have:=l[k].toNat_lt;omega
     have n:Hid (eY l[k]=(decide (97<=l[k].toNat)&&decide (l[k].toNat<=122))):=rfl;generalize l[k]=c at*
     by_cases B:(c.toNat:Int)<97
     .have g:Hid (aX l=false):=by
       show _=_;rw[q.out,n.out];have:decide (97<=c.toNat)=false:=by simp;omega
       rw[this];rfl
      go_wp2;go_ret;exact⟨by rw[f.out,g.out];rfl,f1⟩
     .by_cases A:(c.toNat:Int)>122
      .have g:Hid (aX l=false):=by
        show _=_;rw[q.out,n.out];have:decide (c.toNat<=122)=false:=by simp;omega
        rw[this];simp
       go_wp2;go_ret;exact⟨by rw[f.out,g.out];rfl,f1⟩
      .have g:Hid (aX l=(l.drop (k+1)).all eY):=by
        show _=_;rw[q.out,n.out];have e1:decide (97<=c.toNat)=true:=by simp;omega
        have e2:decide (c.toNat<=122)=true:=by simp;omega
        rw[e1,e2];rfl
       go_wp2
       go_roundw
       case rel=>exact⟨k+1,by go_num,ϖ,trivial,g⟩
       case measure=>simp[intOf];omega
    .have g:Hid (aX l=true):=by
      have:=r.out;rw[aj9 ϖ]at this;exact this
     go_wp2;go_ret;exact⟨by rw[f.out,g.out];rfl,f1⟩
def eR(s:Int)(p:ϑ):Bool:=if s=0\/s=1\/s=2 then aX p else(if s=3 then p==[]else false)
def IJ(s:Nat)(p:Ξ)(w:Φ)(g:p.size<=9223372036854775807)(hs:s<256):
  Calls prog 185 #[.agg (dJ s p)] w λe w'=>e=.returned (.bool (eR s p.data.toList))/\aG [] w w':=by
 have c:Hid (eR s p.data.toList=if(s:Int)=0\/(s:Int)=1\/(s:Int)=2 then aX p.data.toList else(if(s:Int)=3 then p.data.toList==[]else false)):=rfl;go_enter func185,ntmps185;go_wp2_with (with_reducible refine bv rfl ?_);refine eZ rfl 103 _ rfl (.agg (dJ s p)) rfl ?_;intro w1 b1 l1 f1 r1;have c0:=r1.val 0 (.int .i64 s);have c1:=r1.val 1 (.string p);by_cases b:(s:Int)=0\/(s:Int)=1\/(s:Int)=2
 .have a:Hid (eR s p.data.toList=aX p.data.toList):=by show _=_;rw[c.out,κ b]
  rcases(by omega:s=0\/s=1\/s=2)with rfl|rfl|rfl
  all_goals
   clear b;go_wp2_with fail;refine(iE p w1 g).mono ?_;rintro e j⟨rfl,f2⟩;have f:=f1.trans f2;go_wp2;go_ret;exact⟨by rw[a.out];rfl,f⟩
 .by_cases d:(s:Int)=3
  .have a:Hid (eR s p.data.toList=p.toList.isEmpty):=by show _=_;rw[c.out,Γ b,κ d,ϔ8 p];cases p.data.toList<;>rfl
   obtain rfl:s=3:=ϖ;clear b d;go_wp2;go_ret;refine⟨?_,f1⟩;rw[a.out];rfl
  .have a:Hid (eR s p.data.toList=false):=by show _=_;rw[c.out,Γ b,Γ d]
   have n0:((s:Int)==0)=false:=by rw[ae9];omega
   have n1:((s:Int)==1)=false:=by rw[ae9];omega
   have i:((s:Int)==2)=false:=by rw[ae9];omega
   have h:((s:Int)==3)=false:=by rw[ae9];omega
   go_wp2;go_ret;exact⟨by rw[a.out];rfl,f1⟩
abbrev jD:=Nat×List η
def fU(t:jD):List Θ:=[.int .i64 t.1,.string (aj t.2)]
def nE(l:List jD):List Θ:=l.flatMap fU
def Dt(a b:List jD):nE (a++b)=nE a++nE b:=by simp[nE]
def Pv(l:List jD)(k:Nat)(hk:k<l.length):((nE l).drop (k*2)).take 2=fU l[k]:=by
 have h:∀(l:List jD)(k:Nat),(nE l).drop (k*2)=nE (l.drop k):=by
  intro l;induction l with
  |nil=>intro k;simp[nE]
  |cons f r a=>
   intro k;cases k with|zero=>simp|succ k=>have:=a k;simp only[nE,ϐ6,List.drop_succ_cons]at this⊢;rw[ϔ6,aj9 (by simp[fU];omega),ϸ,<-this];congr 1;simp[fU];omega
 rw[h,ac7 hk];show List.take 2 (fU l[k]++nE (l.drop (k+1)))=_;rfl
def vD(a b:ϑ):(aj a==aj b)=(a==b):=by
 have e:(aj a==aj b)=((aj a).toList==(aj b).toList):=beq_toListBytes ..;rw[e,ϔ8,ϔ8];rfl
def Mq(base:Nat)(v:Θ)(l:List jD)(t:jD)(w:Φ)(hv:w.ownsRow base 103 2 v l.length (nE l))(G:l.length<=1000):
  Calls prog 209 #[v,.agg (dJ t.1 (aj t.2))] w λe w'=>(∃r:Int,e=.returned (.int .i64 r)/\decide (0<=r)=l.contains t)/\aG [] w w':=by
 have⟨ad,cap,o⟩:=aY hv;subst o;go_enter func209,ntmps209;go_wp2_with (with_reducible refine bv rfl ?_);refine eZ rfl 103 _ rfl (.agg (dJ t.1 (aj t.2))) rfl ?_;intro w1 C L f1 r3;have f:=f1.owns hv;have z:Hid (l.contains t=(l.drop 0).contains t):=rfl;go_wp2_with fail;clear hv
 go_loopw [8] (λc wr=>∃k:Nat,c=.int .i64 k/\k<=l.length/\aG [] w1 wr/\Hid (l.contains t=(l.drop k).contains t)) λc _=>l.length-(intOf c).toNat
 case atStart=>exact⟨0,rfl,ϖ,aG.refl ..,z⟩
 case round=>
  obtain⟨k,rfl,hk,n,x⟩:=hrel;clear z;have h:=n.owns f;have s:=n.row r3;by_cases m:k<l.length
  .obtain⟨g,p,rfl,hg,D,_,q,i⟩:=cO h;have b:((p.toList.drop (k*2)).take 2)=fU l[k]:=by
    rw[pA i _ _,Pv l k m]
   have j:Hid (l.contains t=(t==l[k]||(l.drop (k+1)).contains t)):=by have:=x.out;rw[ac7 m,List.contains_cons]at this;exact this
   generalize l[k]=u at b j;clear q i;go_wp2_with fail;refine kF ?_
   try simp only[puts]
   refine bW rfl (some 11) rfl (.agg (fU t).toArray) (λw' a=>jV 103 _ rfl C 0 rfl eW 2 dN _ _ (a.row s) (fU t) rfl rfl) ?_;simp only[puts];refine bW rfl (some 12) rfl (.slice (some ⟨g,0,none⟩) l.length cap) (λ_ _=>rfl) ?_;refine bW rfl (some 13) rfl (.int .i64 k) (λ_ _=>rfl) ?_;simp only[puts];refine bW rfl (some 14) rfl (.pointer (some ⟨g,k*2,none⟩)) (λ_ _=>by go_simp) ?_;simp only[puts];refine bW rfl (some 15) rfl (.agg (fU u).toArray) (λw' a=>jV 103 _ rfl g (k*2) rfl eW 2 dN _ _ (a.row hg) (fU u) b rfl) ?_;simp only[puts];refine bW rfl (some 16) rfl (.bool (t==u)) (λw' _=>?_) ?_;have e:(t==u)=(((t.1:Nat):Int)==((u.1:Nat):Int)&&aj t.2==aj u.2):=by rw[vD];have⟨K,t2⟩:=t;have⟨I,J⟩:=u;rw[am4];simp;intro _;exact Int.ofNat_inj.symm
   rw[e];exact wu _ _ _ _ _ rfl _ _ rfl rfl _ (zT ..) (Gx ..);simp only[puts];intro H B;have y:=n.trans B;have F:=f1.trans y;clear b;cases d:(t==u)with
   |true=>rw[d]at j;go_wp2;go_ret;exact⟨⟨_,rfl,by rw[j.out];simp⟩,F⟩
   |false=>
    rw[d]at j;clear d f h hg s r3;go_wp2
    go_roundw
    case rel=>exact⟨k+1,by go_num,ϖ,y,by show _=_;rw[j.out];rfl⟩
    case measure=>simp[intOf];omega
  .have E:=f1.trans n;have A:Hid (l.contains t=false):=by
    have:=x.out;rw[aj9 ϖ]at this;exact this
   go_wp2;go_ret;exact⟨⟨_,rfl,by rw[A.out];rfl⟩,E⟩
def DU(base:Nat)(v:Θ)(l:List jD)(t:jD)(w:Φ)(hv:w.ownsRow base 103 2 v l.length (nE l))(b:l.length<=1000):
  Calls prog 186 #[v,.agg (dJ t.1 (aj t.2))] w λe w'=>e=.returned (.bool (l.contains t))/\aG [] w w':=by
 go_enter func186,ntmps186;go_wp2_with (with_reducible refine bv rfl ?_);refine eZ rfl 103 _ rfl (.agg (dJ t.1 (aj t.2))) rfl ?_;intro w1 c g f1 r3;have a:=f1.owns hv;go_wp2_with (with_reducible refine ax 103 rfl ?_);refine bT rfl 103 _ rfl c 0 rfl eW 2 dN _ _ r3 (fU t) rfl rfl ?_;go_wp2_with fail;refine(Mq base v l t w1 a b).mono ?_;rintro e f ⟨⟨r,rfl,hr⟩,f2⟩;have d:=f1.trans f2;have HR:Hid (decide (0<=r)=l.contains t):=hr;clear hr;go_wp2;go_ret;refine⟨?_,d⟩;rw[<-HR.out];rfl
def St(hg:wanted o (yielded ops a.tmps)=true)(v:Θ)(w1:Φ)(hr:(execOp a.eval o).run P w=.ok (.value v) w1)(h:wpList P ops Q rest (a.put o.dst v) w1):wpList P ops Q (o::rest) a w:=
 wpList_step λK b=>by rw[κ hg];unfold Oper.wp;rw[hr];exact b _ _ h
def nameOf(f:dk):jD:=(f.set,f.path)
def eQ:List jD->List dk->Bool
 |_,[]=>true
 |seen,f::r=>eR f.set f.path&&(!(seen.contains (nameOf f))&&eQ (seen++[nameOf f]) r)
def DS.eQ(x:DS)(n:Nat):Bool:=Go.Proofs.YtchcmhodnkgojaaGreat.eQ [] (aS x n)
def Cj:Elem prog 268 103 2 24:=⟨underlying268,ϰ,ϖ⟩
def vh(l:List dk)(k:Nat)(hk:k<l.length):((jc l).drop (k*3)).take 3=cA l[k].set l[k].path l[k].content:=by
 have h:∀(l:List dk)(k:Nat),(jc l).drop (k*3)=jc (l.drop k):=by
  intro l;induction l with
  |nil=>intro k;simp[jc]
  |cons f r a=>
   intro k;cases k with|zero=>simp|succ k=>have:=a k;simp only[jc,ϐ6,List.drop_succ_cons]at this⊢;rw[ϔ6,aj9 (by simp[cA];omega),ϸ,<-this];congr 1;simp[cA];omega
 rw[h,ac7 hk];show List.take 3 (cA l[k].set l[k].path l[k].content++jc (l.drop (k+1)))=_;rfl
def It(fs:List dk)(k:Nat)(hk:k<fs.length):eQ ((fs.take k).map nameOf) (fs.drop k)=(eR fs[k].set fs[k].path&&(!(((fs.take k).map nameOf).contains (nameOf fs[k]))&&eQ ((fs.take (k+1)).map nameOf) (fs.drop (k+1)))):=by
 rw[ac7 hk,eQ,ac0 hk,ϒ2];rfl
def yL(d V n:Nat)(Z:Θ)(x:DS)(w:Φ)(h:bM w d V n Z x):
  Calls prog 147 #[.pointer (some ⟨d,0,none⟩)] w λe w'=>e=.returned (.bool (x.eQ n))/\aG [] w w':=by
 have ac:(aS x n).length<=54:=by unfold aS;rw[af2];exact fM x n
 have R:Hid (∀f∈aS x n,f.set<256/\f.path.length<=8):=λf hf=>by unfold aS at hf;rw[ac9]at hf;obtain⟨i,_,rfl⟩:=hf;exact⟨vU _,wZ _⟩
 go_enter func147,ntmps147;go_wp2_with fail;refine(yq d V n Z x w h).mono ?_;rintro e B⟨v,rfl,hv,f2⟩;have HO:Hid (x.eQ n=eQ (((aS x n).take 0).map nameOf) ((aS x n).drop 0)):=rfl;generalize aS x n=fs at*;have⟨ad,cap,K⟩:=aY hv;subst K;go_wp2_with fail
 go_loopw [3,9] (λu c wr=>∃k:Nat,c=.int .i64 k/\k<=fs.length/\aG [] B wr/\wr.ownsRow B.heap.size 103 2 u k (nE ((fs.take k).map nameOf))/\Hid (x.eQ n=eQ ((fs.take k).map nameOf) (fs.drop k))) λ_ c _=>fs.length-(intOf c).toNat
 case atStart=>exact⟨0,rfl,ϖ,aG.refl ..,World.ownsRow_nil ..,HO⟩
 case round=>
  obtain⟨k,rfl,hk,F,ho,T⟩:=hrel;clear HO;have A:=F.owns hv;by_cases l:k<fs.length
  .obtain⟨g,U,rfl,hg,aa,_,L,r⟩:=cO A;have q:((U.toList.drop (k*3)).take 3)=cA fs[k].set fs[k].path fs[k].content:=by
    rw[pA r _ _,vh fs k l]
   have M:x.eQ n=_:=T.out.trans (It fs k l);have I:(fs.take (k+1)).map nameOf=(fs.take k).map nameOf++[nameOf fs[k]]:=by rw[ac0 l,ϒ2];rfl
   have p:=R.out fs[k] (ag5 l);generalize fs[k]=f at q M I p;have m:Hid (x.eQ n=(eR f.set f.path&&(!(((fs.take k).map nameOf).contains (nameOf f))&&eQ ((fs.take (k+1)).map nameOf) (fs.drop (k+1))))):=M;have HT:Hid ((fs.take (k+1)).map nameOf=(fs.take k).map nameOf++[nameOf f]):=I;have z:((fs.take k).map nameOf).length=k:=by rw[af2,ac8];omega
   generalize (fs.take k).map nameOf=seen at*;have y:Hid (f.set<256/\f.path.length<=8):=p;clear M I L r T p;go_wp2_with (with_reducible refine ax 107 rfl ?_);refine bT rfl 107 _ rfl g (k*3) rfl kV 3 eS _ _ hg (cA f.set f.path f.content) q rfl ?_;clear q hg;go_wp2_with (with_reducible first|refine au rfl ?_|refine ah 107 rfl ?_);refine aas 107 lY _ eS (h1:=by simp[cA,Value.oneCell']) λw5 D l5 f4 q5=>?_;have J:Row w5 D (cA f.set f.path f.content).toArray 107:=q5;have o:=f4;have ll:=F.trans o;have A8:=o.owns ho;clear q5 f4 o F ho l5 A
   go_wp2_with (with_reducible refine ax 103 rfl ?_);refine bT rfl 103 _ rfl D 0 rfl eW 2 dN _ _ J (fU (nameOf f)) rfl rfl ?_;go_wp2_with fail;refine(IJ f.set (aj f.path) w5 (by rw[da];have:=y.out.2;omega) y.out.1).mono ?_;rintro e w6⟨rfl,G⟩;have C:=G.owns A8;have O:=ll.trans G;have P:=G.row J;have eb:(aj f.path).data.toList=f.path:=rfl;rw[eb];clear A8 ll J G;cases N:eR f.set f.path with
   |false=>rw[N]at m;have s:=f2.trans O;go_wp2_with (with_reducible refine ax 103 rfl ?_);go_ret;exact⟨by rw[m.out];rfl,s⟩
   |true=>
    rw[N]at m;clear N;go_wp2_with (with_reducible refine ax 103 rfl ?_);refine St rfl _ _ (jV 103 _ rfl D 0 rfl eW 2 dN _ _ P (fU (nameOf f)) rfl rfl) ?_;go_wp2_with fail;rw[<-z]at C;refine(DU B.heap.size u3 seen (nameOf f) w6 C ϖ).mono ?_;rintro e w7⟨rfl,E⟩;rw[z]at C;have t:=E.owns C;have b:=O.trans E;have q7:=E.row P;clear C O P E;cases Q:seen.contains (nameOf f)with
    |true=>rw[Q]at m;have s:=f2.trans b;go_wp2;go_ret;exact⟨by rw[m.out];rfl,s⟩
    |false=>
     rw[Q]at m;clear Q;go_wp2_with (with_reducible refine ax 103 rfl ?_);refine bT rfl 103 _ rfl D 0 rfl eW 2 dN _ _ q7 (fU (nameOf f)) rfl rfl ?_;go_wp2_with (with_reducible refine aQ rfl ?_);refine dj rfl 268 103 2 24 Cj _ rfl (.agg (fU (nameOf f)).toArray) rfl rfl ?_;intro w8 b8 l8 H Y;go_wp2_with (with_reducible first|refine aQ rfl ?_|refine aM rfl ?_);have S:=H.owns t;have a:B.heap.size<=w8.heap.size:=by have:=b.size;have:=H.size;omega
     refine dG rfl 268 103 2 24 Cj _ _ rfl B.heap.size u3 _ _ rfl S b8 1 1 (fU (nameOf f)) rfl _ _ Y rfl rfl (by simp[fU,Value.oneCell']) ϖ ϖ ϖ a ?_;intro g' X w9 nK f9 _;have Qu:=(b.trans H).trans f9 (by intro j W;right;simp at W;exact(S.lt j W).1);clear t S q7 Y H f9 l8 b a;go_wp2
     go_roundw
     case rel=>
      refine⟨k+1,by go_num,ϖ,Qu,?_,by show _=_;rw[m.out];rfl⟩;rw[HT.out,Dt];simpa[nE] using nK
     case measure=>simp[intOf];omega
  .have s:=f2.trans F;have HE:Hid (x.eQ n=true):=by
    have:=T.out;rw[aj9 ϖ]at this;exact this
   go_wp2;go_ret;exact⟨by rw[HE.out];rfl,s⟩
def DS.sound(x:DS)(n:Nat):Bool:=x.vR n&&(x.pu n&&x.eQ n)
end
section
open Go.Conc
open Go.ConcN (sumTo)
open Go.ConcM (OsLater)
namespace gz
section
variable {Δ:Type}{X:Cx Δ}{P:aa1}{Post:Gh Δ->Ω->Φ->Prop}{S0:Nat->Prop}{C:Cf Δ}{gs:Array Ω}{w w':Φ}{t:Trace}{sl:Option (Nat×Nat)}{r:bE}{x x':Ω}{es:Array Event}
def VZ{e c:bE->Nat}{r:bE}(h:∀d,d≠r->c d=e d)(f:c r<e r):awS c<awS e:=by
 unfold awS;cases r with|m=>have h1:=h .a ϛ;have h2:=h .b ϛ;omega|a=>have h1:=h .m ϛ;have h2:=h .b ϛ;omega|b=>have h1:=h .m ϛ;have h2:=h .a ϛ;omega
def stepBlock(c:Core X P Post S0 C gs w t)(hr:born C.L r)(v:gs[gid C.n0 r]?=some x)(l:(C.L r).pc≠.quit)(u:C.ds r=iH (C.L r).pc)(s:C.aw r=1)(n:∀w₁,RX X (C.γ r).ro (C.γ r).own w w₁->eG (AtR X P Post (C.k r) r) (C.L r) (C.γ r) (C.γ r).own x w₁)(p:(C.L r).sleeps C.s=true)(hs:stepG P (xQ r) x w=.go {x with status:=.blocked} w #[]):
  ∃b ops f,runT P (crowd gs w sl) (gid C.n0 r)=(.next b,ops)/\Xu f (C.ms gs.size)/\Eb X P Post S0 C.n0 f b (t++ops):=by
 have j:=runT_crowd_go (P:=P) (sl:=sl) (i:=gid C.n0 r) v (by rw[DE c.uU];exact hs);have k:∀o,woken P x {x with status:=.blocked} w o=o:=λo=>by unfold woken;simp
 have d:((gs.map (woken P x {x with status:=.blocked} w)).setIfInBounds (gid C.n0 r) {x with status:=.blocked}).size=gs.size:=ϛ;have a:∀i,i≠gid C.n0 r->((gs.map (woken P x {x with status:=.blocked} w)).setIfInBounds (gid C.n0 r) {x with status:=.blocked})[i]?=gs[i]?:=λi y=>by
  rw[ConcN.get_map_set _ _ _ _ (Ne.symm y)];cases gs[i]? with|none=>rfl|some g=>simp[k]
 refine⟨_,_,({C with aw:=upd C.aw r 0}:Cf Δ).ms gs.size,j,.right _ (.right _ (.right _ (VZ (r:=r) (λq h=>upd_ne _ _ h) (by show upd C.aw r 0 r<C.aw r;rw[upd_same,s];omega)))),{C with aw:=upd C.aw r 0},_,w,sl,rfl,rfl,?_,by rw[d]⟩;rw[ofEvents_none,am5];refine⟨c.uU,by rw[d];exact c.size,c.tab,c.fuel,c.sh,λq m=>?_,c.Wk,λi g h0 h1 hg=>?_,by rw[d];exact c.above,c.deaf,c.data,c.I9,c.fin,c.rel,c.lay,c.ti⟩;by_cases e:q=r;subst e;refine⟨_,ConcN.get_map_set_same _ _ _ (DK c hr),.inr (.inl ⟨l,u,upd_same ..,p,x,rfl,n⟩)⟩;have⟨g,h1,h2⟩:=c.sit q m;refine⟨g,by rw[a _ λh=>e (lT c.uU h)];exact h1,?_⟩;simp only[upd_ne _ _ e];exact h2;rw[a _ (Ne.symm (yg c.uU h0 h1 r))]at hg;exact c.old i g h0 h1 hg
def Iv{e:Event}(h:e.mute=true):e.loc=.mark .disable\/e.loc=.mark .enable:=by
 have⟨l,a,b⟩:=e;cases l with
 |mark m=>cases m<;>simp[Event.mute]at h<;>simp
 |_=>simp[Event.mute]at h
def SF(a:i<n)(c:q i=m+1):sumTo n (λj=>if j=i then m else q j)<sumTo n q:=by
 have h:=ConcN.sumTo_upd q m id a;have b:sumTo n (λj=>if j=i then m else q j)+q i=sumTo n q+m:=h;omega
def BE(c:Core X P Post S0 C gs w t){i:Nat}(A:i≠0)(V:gs[i]?=some x)(N:x.status=.running)(o:i<C.n0\/∃r,born C.L r/\r≠.m/\i=gid C.n0 r/\(C.L r).pc=.quit)(M:QuitsD P (C.q i) (Deaf t i) x):
  ∃s ops J,runT P (crowd gs w sl) i=(.next s,ops)/\Xu J (C.ms gs.size)/\Eb X P Post S0 C.n0 J s (t++ops):=by
 have F:i<gs.size:=(Ψ.1 V).1;have Q:(i==0)=false:=by simpa using A
 cases D:C.q i with
 |zero=>rw[D]at M;rw[M.1]at N;cases N
 |succ k=>
  rw[D]at M;obtain⟨hf,_⟩|⟨_,g',es,hmute,hstep,hq'⟩:=M;rw[hf]at N;cases N;have L:=runT_crowd_go (P:=P) (sl:=sl) (i:=i) V (by rw[Q];exact hstep w);have Z:g'.status=.running\/g'.status=.finished:=hq'.status;let K:Nat->Nat:=λj=>if j=i then k else C.q j
  have f:∀l∈ofEvents i x.frame.fn x.frame.place es,l.g=i/\l.act.touch?=none/\l.act.low w.heap.size/\l.act≠.mark (.release (mA X))/\l.act≠.mark (.release (wA X)):=λl S=>by obtain⟨e,T,rfl⟩:=Go.Conc.mem_ofEvents S;have hm:=hmute e T;refine⟨rfl,touch_mute hm,low_mute hm _,?_,?_⟩<;>(obtain h|h:=Iv hm<;>simp[eg h])
  have B:((gs.map (woken P x g' w)).setIfInBounds i g').size=gs.size:=ϛ;have key:∀d,∃a,born C.L d->i≠gid C.n0 d->∃g,((gs.map (woken P x g' w)).setIfInBounds i g')[gid C.n0 d]?=some g/\Sit X P Post (C.k d) d (C.L d) (C.γ d) (C.ρ d) a (C.ds d) (C.q (gid C.n0 d)) C.s g w:=λd=>by by_cases h:born C.L d/\i≠gid C.n0 d;have⟨h1,h2⟩:=h;have⟨g,hg,hs⟩:=c.sit d h1;have⟨k',hk⟩:=c.kpos h1;rw[hk]at hs⊢;have⟨a,ha⟩:=hs.other (x:=x) (x':=g') (s':=C.s) (RX.refl X _ _ w) λz=>.inl z;exact⟨a,λ_ _=>⟨_,by rw[ConcN.get_map_set _ _ _ _ h2,hg];rfl,ha⟩⟩;exact⟨0,λh1 h2=>absurd ⟨h1,h2⟩ h⟩
  let U:bE->Nat:=λd=>(key d).choose
  let n:bE->Nat:=λd=>if i=gid C.n0 d then deafBehind (C.ds d) es else C.ds d
  let E:Cf Δ:={C with aw:=λd=>if i=gid C.n0 d then 0 else U d,ds:=n,q:=K}
  have v:∀d,born C.L d->Deaf (t++ofEvents i x.frame.fn x.frame.place es) (gid C.n0 d)=n d:=λd h=>by by_cases e:i=gid C.n0 d;simp only[n,κ e];rw[<-e,Deaf_own,e,c.deaf d h];simp only[n,Γ e];rw[Deaf_other t (g':=i) e _ λl u=>(f l u).1];exact c.deaf d h
  refine⟨_,_,E.ms gs.size,L,.right _ (.right _ (.left _ _ (SF F D))),E,_,w,sl,rfl,rfl,?_,by rw[B]⟩;refine⟨c.uU,by rw[B];exact c.size,c.tab,c.fuel,c.sh,λd I=>?_,c.Wk,λj g h0 h1 hg=>?_,λj W=>?_,v,c.data,c.I9,c.fin,λd h=>?_,c.lay,?_⟩;by_cases e:i=gid C.n0 d;have O:(C.L d).pc=.quit:=by
   obtain h|⟨H,_,_,R,h4⟩:=o
   .cases d with|m=>exact absurd e A|a=>simp[gid]at e;omega|b=>simp[gid]at e;omega
   rw[<-lT c.uU (R.symm.trans e)];exact h4
  refine⟨g',by rw[<-e];exact ConcN.get_map_set_same _ _ _ F,.inr (.inr ⟨O,by simp[E,e],?_⟩)⟩;simp only[E,K,n,<-e,if_true];rw[e,c.deaf d I]at hq';simpa[e] using hq';have⟨g,h1,h2⟩:=(key d).choose_spec I e;refine⟨g,h1,?_⟩;simp only[E,K,n,Γ e,Γ (Ne.symm e)];exact h2;by_cases e:i=j;subst e;rw[ConcN.get_map_set_same _ _ _ F]at hg;obtain rfl:=ag2 hg;simp only[E,K,if_true];rw[Deaf_own];exact hq';rw[ConcN.get_map_set _ _ _ _ e]at hg;obtain⟨y,hy,rfl⟩:=ψ.1 hg;have G:=c.old j y h0 h1 hy;simp only[E,K,Γ (Ne.symm e)];rw[woken_quitsD G,Deaf_other t e _ λl u=>(f l u).1];exact G;rw[B]at W;rw[Deaf_other t (g':=i) ϖ _ λl u=>(f l u).1];exact c.above j W;have⟨p,Y⟩:=c.rel d h;by_cases e:i=gid C.n0 d;subst e;exact⟨p,ConcN.RelBy.appOwn Y _ _ _ λj e T=>.inl (touch_mute (hmute e (al4 T)))⟩;exact⟨p,ConcN.RelBy.appOther Y (λl u=>(f l u).1) e⟩;refine TI.mute c.ti A ?_ f;obtain h|⟨H,h1,h2,R,_⟩:=o;exact .inl h;exact .inr ⟨H,h2,h1,R⟩
def UM(T:Lo)(h:(hd T).pc≠.bad):iH (hd T).pc=1:=by obtain e|e|e:=Ge T<;>first|(rw[e];rfl)|exact absurd e h
def Ub{T:Lo}{s:Sh}{q:Lo×Sh}(h:q∈mv T s)(i:q.1.pc≠.bad)(c:EvStop X T q.1 es):deafBehind (iH T.pc) es=iH q.1.pc:=by
 have one:∀(d:Nat)(m:Mark),deafBehind d #[sW m]=match m with|.disable=>d+1|.enable=>d-1|_=>d:=λd m=>by cases m<;>rfl
 have f:=Ky T;have e:∀{a b:Nat},a=1->b=1->ConcM.BookOK X.Fd X.Wg 1 1 es->deafBehind a es=b:=λh1 h2 h=>by rw[h1,h2];exact h.2.1
 have g:=UM;have⟨pc,old,p,l,sv,it,n⟩:=T;have⟨o,ms,k,j⟩:=s;cases pc<;>simp only[mv]at h<;>(repeat' split at h)<;>simp only[ac2,aj8,or_false]at h<;>(first|contradiction|(obtain rfl:=h)|(obtain rfl|rfl:=h))<;>
  (first
   |exact absurd rfl i
   |exact e rfl (g _ i) c.1
   |exact e rfl (by rw[f];rfl) c.1
   |exact e rfl (by rfl) c.1
   |(simp only[EvStop,j5]at c;simp only[c,one];rfl)
   |(simp[EvStop,j5]at c;simp only[c,one];rfl)
   |(refine e rfl ?_ c.1;simp only;split<;>rfl))
def L0{n0:Nat}{RO:bE->Loc->Prop}{own:bE->Nat->Prop}(c:Lay X S0 C.γ C.L B){T T':Lo}(f:EvStop X T T' es)(u:oS T.pc=false->r≠.m->True)(k:T.pc=.p1\/T.pc=.p2\/T.pc=.pw->r=.m){pos:String}:
  ∀s∈ofEvents (gid n0 r) fn pos es,OkOp n0 (AH X S0) RO own (mA X) (wA X) B B r s/\∀z,s.act.touch?=some z->(AH X S0 z.loc/\z.kind=.atomic)\/r=.m:=by
 intro s p;obtain⟨e,d,rfl⟩:=Go.Conc.mem_ofEvents p;have mark:∀(m:Mark),es=#[sW m]->(MemAct.mark m).touch?=none->m≠.release (mA X)->m≠.release (wA X)->(MemAct.mark m).low B->
   OkOp n0 (AH X S0) RO own (mA X) (wA X) B B r {g:=gid n0 r,fn,pos,act:=.ofEvent e}/\∀z,(MemAct.ofEvent e).touch?=some z->(AH X S0 z.loc/\z.kind=.atomic)\/r=.m:=λm h1 h2 n q o=>by
  rw[h1]at d;simp at d;subst d;have i:MemAct.ofEvent (sW m)=.mark m:=rfl;refine⟨⟨rfl,?_,?_,?_,λz b=>?_⟩,λz b=>?_⟩<;>simp only[i]at*
  simpa using n;simpa using q;exact o;rw[h2]at b;cases b;rw[h2]at b;cases b
 have j:∀(m:Mark)(wr:Bool),es=#[sW m]->(MemAct.mark m).touch?=some ⟨.cell (ND X),wr,.said⟩->m≠.release (mA X)->m≠.release (wA X)->(MemAct.mark m).low B->r=.m->
   OkOp n0 (AH X S0) RO own (mA X) (wA X) B B r {g:=gid n0 r,fn,pos,act:=.ofEvent e}/\∀z,(MemAct.ofEvent e).touch?=some z->(AH X S0 z.loc/\z.kind=.atomic)\/r=.m:=λm wr h1 h2 n q o t=>by
  rw[h1]at d;simp at d;subst d;have i:MemAct.ofEvent (sW m)=.mark m:=rfl;refine⟨⟨rfl,?_,?_,?_,λz b=>?_⟩,λz b=>.inr t⟩<;>simp only[i]at*
  simpa using n;simpa using q;exact o;rw[h2]at b;obtain rfl:=ag2 b;exact .inl ⟨⟨_,rfl,.inr (.inl rfl)⟩,.inr ⟨rfl,t⟩⟩
 unfold EvStop at f;cases hk:j5 T T'<;>rw[hk]at f<;>simp only at f
 exact mark _ f rfl ϛ ϛ trivial;exact mark _ f rfl ϛ ϛ trivial;exact mark _ f rfl ϛ ϛ c.xP;exact mark _ f rfl ϛ ϛ c.xP;exact mark _ f rfl ϛ ϛ c.wi;exact mark _ f rfl ϛ ϛ c.wi;have:T.pc=.p1\/T.pc=.p2\/T.pc=.pw:=by revert hk;unfold j5;cases T.pc<;>simp;split<;>simp
 exact j _ false f rfl ϛ ϛ c.wi (k this);have:T.pc=.p1\/T.pc=.p2\/T.pc=.pw:=by revert hk;unfold j5;cases T.pc<;>simp;split<;>simp
 exact j _ true f rfl ϛ ϛ c.wi (k this);obtain h1|h1|⟨a,z,rfl,ha⟩:=f.1.1 e d;have i:=eg h1;refine⟨⟨rfl,?_,?_,?_,λz b=>?_⟩,λz b=>?_⟩<;>simp only[i]at*
 simp;simp;trivial;cases b;cases b;have i:=eg h1;refine⟨⟨rfl,?_,?_,?_,λz b=>?_⟩,λz b=>?_⟩<;>simp only[i]at*
 simp;simp;trivial;cases b;cases b;have i:MemAct.ofEvent (⟨.cell a,z,true⟩:Event)=.access ⟨.cell a,z,true⟩:=by cases z<;>rfl
 have hs:AH X S0 (.cell a):=⟨a,rfl,ha.elim (λh=>.inr (.inr ⟨h,f.2 _ d a rfl h⟩)) λh=>.inr (.inl h)⟩
 refine⟨⟨rfl,?_,?_,?_,λy l=>?_⟩,λy l=>?_⟩<;>simp only[i]at*
 simp;simp;show a.block<B;obtain h|h:=ha<;>rw[h]
 exact c.xP;exact c.wi;simp only[MemAct.touch?,ag0]at l;subst l;exact .inl ⟨hs,.inl rfl⟩;simp only[MemAct.touch?,ag0]at l;subst l;exact .inl ⟨hs,rfl⟩
end
def PF{T:Lo}{s:Sh}{q:Lo×Sh}(h:q∈mv T s):(q.1.pc=.ur↔T.pc=.la)/\(T.pc=.ur->q.1.pc=.ud)/\(past q.1.pc=true->past T.pc=true\/(T.pc=.out/\q.1.pc=.wk))/\(T.pc=.out->q.1.pc=.wk\/q.1.pc=.l0)/\q.1.pc≠.un/\(T.pc=.d4->q.1.pc=.quit)/\(q.1.pc=.quit->T.pc=.d1\/T.pc=.d4):=by
 have g:=Ge;have f:=Ky T;have key:∀{p e:Pc},e=.c2\/e=.sq\/e=.bad->p≠.la->p≠.ur->p≠.out->p≠.d4->(e=.ur↔p=.la)/\(p=.ur->e=.ud)/\(past e=true->past p=true\/(p=.out/\e=.wk))/\(p=.out->e=.wk\/e=.l0)/\e≠.un/\(p=.d4->e=.quit)/\(e=.quit->p=.d1\/p=.d4):=fun {p e} h a b c d=>by obtain rfl|rfl|rfl:=h<;>simp[past,a,b,c,d]
 have⟨pc,old,m,k,sv,it,n⟩:=T;have⟨l,ms,j,i⟩:=s;cases pc<;>simp only[mv]at h<;>(repeat' split at h)<;>simp only[ac2,aj8,or_false]at h<;>(first|contradiction|(obtain rfl:=h)|(obtain rfl|rfl:=h))<;>
  first
   |exact key (g _) ϛ ϛ ϛ ϛ
   |(simp[f,past];done)
   |(simp[past];done)
   |(simp only;split<;>simp[past])
def mv_nil{T:Lo}{s:Sh}(a:oS T.pc=true\/jT T.pc=true)(h1:¬(T.pc=.g1\/T.pc=.g2))(h2:T.pc≠.aq)(b:T.pc≠.un)(c:T.pc≠.quit)(h:mv T s=[]):T.sleeps s=true:=by
 have⟨pc,old,d,e,sv,it,n⟩:=T;have⟨g,ms,i,f⟩:=s;cases pc<;>simp[oS,jT]at a h1 h2 b c<;>simp only[mv]at h<;>(repeat' split at h)<;>first|(simp at h;done)|(simp[Lo.sleeps];assumption)
section
variable {L:bE->Lo}{s:Sh}{r1 r2:Nat}{q:Lo×Sh}
def xV.wake(h:xV L s r1 r2){r g:bE}(d:q∈mv (L r) s)(G:(L r).pc≠.un)(i:g≠r)(t:(L g).sleeps s=true):(L g).sleeps q.2=true\/(L r).pc=.us\/(L r).pc=.d4:=by
 have B:=h.inM.facts;have D:=h.Uz.facts;simp only[Lo.sleeps,ak7,χ,ai5]at t⊢;have w:ib (L r).pc=true->q.2.ws=s.ws:=λj=>(ya j d).2.2
 have x:kK (L r).pc=true->q.2.ms=s.ms:=λj=>(x9 j d).2.2.1
 have F:lJ (L r).pc=true->q.2.ms=s.ms:=λj=>(J0 j d).2.2.1
 have A:mj (L r).pc=true->q.2=s:=λj=>(uW j d).1
 have l:(L r).pc=.out->q.2=s:=λE=>by simp only[mv,E]at d;obtain rfl|d:=ac2.1 d;rfl;split at d;simp only[ξ]at d;subst d;rfl;simp at d
 have z:mj (L r).pc=true\/ib (L r).pc=true\/kK (L r).pc=true\/lJ (L r).pc=true\/(L r).pc=.out:=by cases p:(L r).pc<;>simp[mj,ib,kK,lJ]<;>(simp[mv,p]at d)
 obtain⟨h1,h2⟩|⟨h1,h2⟩:=t;have u:g≠.m:=λe=>by subst e;have:=h.st;rw[h1]at this;cases this
 have v:pm (L g)={L g with n:=0}:=by simp[pm,h1]
 have C:(pm (L g)).waits s.ms=true:=by rw[v];simp[Lo.waits,h1,h2]
 obtain c|c|c|c|c:=z;rw[A c];exact .inl (.inl ⟨h1,h2⟩);have m1:=(ya c d).1;have y:r≠.m:=λe=>by subst e;have:=h.st;revert this c;cases (L .m).pc<;>simp[ib,oS]
 have k:(pm (L g)).waits q.2.ms=true\/(pm (L r)).pc=.us:=by
  cases r with
  |m=>exact absurd rfl y
  |a=>cases g with
   |m=>exact absurd rfl u
   |a=>exact absurd rfl i
   |b=>exact B.NX _ m1 C
  |b=>cases g with
   |m=>exact absurd rfl u
   |a=>exact B.NW _ m1 C
   |b=>exact absurd rfl i
 obtain f|f:=k;rw[v]at f;simp[Lo.waits,h1]at f;exact .inl (.inl ⟨h1,f⟩);refine .inr (.inl ?_);revert f c;cases p:(L r).pc<;>simp[ib,pm,p]
 rw[x c];exact .inl (.inl ⟨h1,h2⟩);rw[F c];exact .inl (.inl ⟨h1,h2⟩);rw[l c];exact .inl (.inl ⟨h1,h2⟩);have hm:g=.m:=by
  cases g with
  |m=>rfl
  |a=>have:=h.wa;rw[h1]at this;cases this
  |b=>have:=h.wb;rw[h1]at this;cases this
 subst hm;have o:(p0 (L .m)).pc=.w3:=by simp[p0,h1]
 obtain c|c|c|c|c:=z;rw[A c];exact .inl (.inr ⟨h1,h2⟩);rw[w c];exact .inl (.inr ⟨h1,h2⟩);have m1:=(x9 c d).1;have k:q.2.ws=0\/(pw (L r)).pc=.d4:=by
  cases r with|m=>exact absurd rfl i|a=>exact D.NX o h2 _ m1|b=>exact D.NW o h2 _ m1
 obtain f|f:=k;exact .inl (.inr ⟨h1,f⟩);refine .inr (.inr ?_);revert f c;cases p:(L r).pc<;>simp[kK,pw,p]
 exfalso;cases r with
 |m=>exact i rfl
 |a=>have:=h.wa;revert this c;cases (L .a).pc<;>simp[lJ,jT]
 |b=>have:=h.wb;revert this c;cases (L .b).pc<;>simp[lJ,jT]
 rw[l c];exact .inl (.inr ⟨h1,h2⟩)
end
section
variable {Δ:Type}{X:Cx Δ}{P:aa1}{Post:Gh Δ->Ω->Φ->Prop}{S0:Nat->Prop}{C:Cf Δ}{gs:Array Ω}{w w':Φ}{t:Trace}{sl:Option (Nat×Nat)}{r:bE}{x x':Ω}{es:Array Event}
def sV{pc:Pc}{c:Nat}(h:jQ X pc own c):own c\/(pc=.la/\c=X.M):=by
 cases pc<;>first|exact .inl h|exact .inl h.1|exact h.imp id λz=>⟨rfl,z⟩
def Lay.next(d:Lay X S0 C.γ C.L w.heap.size)(A:xV C.L C.s C.r1 C.r2)(hr:born C.L r){q:Lo×Sh}(O:q∈mv (C.L r) C.s)(x:¬((upd C.L r q.1 .a).pc=.ur/\(upd C.L r q.1 .b).pc=.ur)){i:Gh Δ}(h1:i.ro=(C.γ r).ro)(h2:i.own=jQ X (C.L r).pc (C.γ r).own)(y:(C.L r).pc=.la->r≠.m):Lay X S0 (upd C.γ r i) (upd C.L r q.1) w.heap.size:=by
 have⟨E,Q,_,_,M,_⟩:=PF O;have g:∀f c,(upd C.γ r i f).ro c->(C.γ f).ro c:=λf c h=>by by_cases e:f=r;subst e;rw[upd_same,h1]at h;exact h;rw[upd_ne _ _ e]at h;exact h
 have own':∀f c,(upd C.γ r i f).own c->(C.γ f).own c\/(f=r/\(C.L r).pc=.la/\c=X.M):=λf c h=>by
  by_cases e:f=r;subst e;rw[upd_same,h2]at h;exact(sV h).imp id λz=>⟨rfl,z⟩
  rw[upd_ne _ _ e]at h;exact .inl h
 have u:X.M≠X.Fd/\X.M≠X.Wg/\¬S0 X.M/\X.M<w.heap.size:=⟨d.fm.symm,d.mw,λe=>(d.s0 _ e).2.2.1 rfl,d.Dx⟩
 have n:(C.L r).pc=.la->∀f,¬(C.γ f).own X.M:=λj f I=>by
  have l:=(d.xL f).1 I;have B:f≠r:=λe=>by subst e;rw[j]at l;cases l
  have o:f≠.m:=λe=>by subst e;exact kf A rfl l
  have k:=E.2 j;apply x;cases r with
  |m=>exact absurd rfl (y j)
  |a=>cases f with
   |m=>exact absurd rfl o
   |a=>exact absurd rfl B
   |b=>exact⟨by rw[upd_same];exact k,by rw[upd_ne _ _ ϛ];exact l⟩
  |b=>cases f with
   |m=>exact absurd rfl o
   |a=>exact⟨by rw[upd_ne _ _ ϛ];exact l,by rw[upd_same];exact k⟩
   |b=>exact absurd rfl B
 refine⟨λf c h=>?_,λf h=>d.roM f (g _ _ h),λf=>?_,λf v c h s=>?_,λf v c h s=>?_,λf c h=>?_,d.fm,d.fw,d.mw,d.s0,d.xP,d.Dx,d.wi⟩;obtain h|h:=h;obtain h|⟨_,_,rfl⟩:=own' _ _ h;exact d.sp f c (.inl h);exact u;exact d.sp f c (.inr (g _ _ h));by_cases e:f=r;subst e;rw[upd_same,upd_same,h2,E];constructor;intro h;cases F:(C.L f).pc<;>rw[F]at h<;>first|rfl|(have:=(d.xL f).1 h;rw[F]at this;cases this)|exact absurd rfl h.2
 intro h;rw[h];exact .inr rfl;rw[upd_ne _ _ e,upd_ne _ _ e];exact d.xL f;obtain p|⟨D,H,t⟩:=own' _ _ h<;>rcases own' _ _ s with G|⟨L,K,P⟩
 exact d.apart _ _ c p G;subst P;exact absurd p (n K _);subst t;exact absurd G (n H _);rw[D,L];obtain p|⟨D,H,t⟩:=own' _ _ h;exact d.BR _ _ c p (g _ _ s);subst t;exact d.roM _ (g _ _ s);have N:born (upd C.L r q.1) f:=by by_cases e:f=r;subst e;show(upd C.L f q.1 f).pc≠.un;rw[upd_same];exact M;show(upd C.L r q.1 f).pc≠.un;rw[upd_ne _ _ e];obtain h|h:=h;obtain h|⟨J,_⟩:=own' _ _ h;exact d.lv f c (.inl h);exact absurd J e;exact d.lv f c (.inr (g _ _ h))
 exact N
def stepMove(c:Core X P Post S0 C gs w t)(hr:born C.L r)(hx:gs[gid C.n0 r]?=some x)(ar:(C.L r).pc≠.quit)(M:C.ds r=iH (C.L r).pc){q:Lo×Sh}(hq:q∈mv (C.L r) C.s){k':Nat}(hk:C.k r=k'+1){cm:Δ}(a2:(C.L r).pc≠.ur->cm=(C.γ r).mine)(a4:(C.L r).pc=.ur->∃o,w.heap[X.M]?=some o/\Ec X r cm (C.γ r).other o)(aa:(C.L r).pc=.us\/(C.L r).pc=.d4->mayWake P x=true)(av:q.1.pc=.wk->cm=X.fin r)(hs:stepG P (xQ r) x w=.go x' w' es)(aL:ShAt X w' q.2)(J:ConcM.Eff X.Fd X.Wg w w')(v:EvStop X (C.L r) q.1 es){d:Δ}(hd:(C.L r).pc=.la->d=(C.γ (Pm r)).mine)(O:After X P (AtR X P Post k' r) r q.1 {(C.γ r)with own:=jQ X (C.L r).pc (C.γ r).own,mine:=cm,other:=if(C.L r).pc=.la then d else(C.γ r).other} x' w'):
  ∃T ops a1,runT P (crowd gs w sl) (gid C.n0 r)=(.next T,ops)/\Xu a1 (C.ms gs.size)/\Eb X P Post S0 C.n0 a1 T (t++ops):=by
 have am:=runT_crowd_go (P:=P) (sl:=sl) (i:=gid C.n0 r) hx (by rw[DE c.uU];exact hs);have⟨bg,ag,a0,V,qg⟩:=c.tab.move hq hr;have⟨u1,u2,u3,u4,u5,u6,u7⟩:=PF hq;have bs:=c.fuel r hr;obtain⟨an,a5⟩:∃an,k'=an+1:=⟨k'-1,ϖ⟩
 generalize R:({(C.γ r)with own:=jQ X (C.L r).pc (C.γ r).own,mine:=cm,other:=if(C.L r).pc=.la then d else(C.γ r).other}:Gh Δ)=γ' at O;have g1:γ'.ro=(C.γ r).ro:=by rw[<-R]
 have g2:γ'.own=jQ X (C.L r).pc (C.γ r).own:=by rw[<-R]
 have g3:γ'.mine=cm:=by rw[<-R]
 have g4:γ'.other=if(C.L r).pc=.la then d else(C.γ r).other:=by rw[<-R]
 have P3:(C.L r).pc=.us\/(C.L r).pc=.d4->x'.status=.running:=λH=>by unfold After at O;split at O;have⟨qq,F⟩:=O;exact ConcM.quitsD_running F;have⟨G,hl⟩:=O;rw[a5]at hl;exact jS hl
 have⟨be,bd⟩:=c.others (x:=x) (x':=x') hr (λf _=>LI c.lay J aL f) (s':=q.2) λf a6 bc=>(c.tab.wake hq hr a6 bc).imp id λh=>⟨aa h,P3 h⟩
 have Z:((gs.map (woken P x x' w')).setIfInBounds (gid C.n0 r) x').size=gs.size:=ϛ;have bf:oS (C.L r).pc=true->r=.m:=λh=>by
  cases r with
  |m=>rfl
  |a=>have:=c.tab.wa;revert this h;cases (C.L .a).pc<;>simp[oS,jT]
  |b=>have:=c.tab.wb;revert this h;cases (C.L .b).pc<;>simp[oS,jT]
 have Mv:jT (C.L r).pc=true->r≠.m:=λh e=>by subst e;have:=c.tab.st;revert this h;cases (C.L .m).pc<;>simp[oS,jT]
 have ao:=L0 (n0:=C.n0) (RO:=R0 X C.γ C.L) (own:=λr=>(C.γ r).own) (r:=r) c.lay v (λ_ _=>trivial) (λh=>bf (by obtain h|h|h:=h<;>rw[h]<;>rfl)) (fn:=x.frame.fn) (pos:=x.frame.place);have W:Deaf (t++ofEvents (gid C.n0 r) x.frame.fn x.frame.place es) (gid C.n0 r)=iH q.1.pc:=by rw[Deaf_own,c.deaf r hr,M];exact Ub hq bg v
 have a7:=TI.app c.uU c.ap c.ti hr (ε _) (λop ho=>(ao op ho).1) λB i z hi hz hm=>.inr (by obtain⟨h,_⟩|⟨_,op,hop,_,hox⟩:=cF hz;omega;exact((ao op hop).2 z hox).resolve_right B)
 have al:=nL V;have bl:=Lay.next c.lay c.tab hr hq al g1 g2 λh=>Mv (by rw[h];rfl);have aq:w'.heap.size=w.heap.size:=J.size;have hM:w'.heap[X.M]?=w.heap[X.M]?:=J.block _ c.lay.fm.symm c.lay.mw;have n:∀f,born (upd C.L r q.1) f↔born C.L f:=λf=>by by_cases e:f=r;subst e;show(upd C.L f q.1 f).pc≠.un↔_;rw[upd_same];exact⟨λ_=>hr,λ_=>u5⟩;show(upd C.L r q.1 f).pc≠.un↔_;rw[upd_ne _ _ e];exact Iff.rfl
 have ba:nb (upd C.L r q.1)=nb C.L:=by have ha:=n .a;have I:=n .b;unfold nb;have e1:((upd C.L r q.1 .a).pc=.un)=((C.L .a).pc=.un):=propext ⟨λh=>ad2 λh'=>ha.2 h' h,λh=>ad2 λh'=>ha.1 h' h⟩;have e2:((upd C.L r q.1 .b).pc=.un)=((C.L .b).pc=.un):=propext ⟨λh=>ad2 λh'=>I.2 h' h,λh=>ad2 λh'=>I.1 h' h⟩;simp only[e1,e2]
 have Zr:∀f l,R0 X (upd C.γ r γ') (upd C.L r q.1) f l->R0 X C.γ C.L f l:=λf l h=>by refine⟨(n f).1 h.1,?_⟩;have h2:=h.2;by_cases e:f=r;subst e;rw[upd_same,g1]at h2;exact h2;rw[upd_ne _ _ e]at h2;exact h2
 have a8:TI C.n0 (AH X S0) (R0 X (upd C.γ r γ') (upd C.L r q.1)) (born (upd C.L r q.1)) (λf=>(upd C.γ r γ' f).own) X.M (hold (upd C.L r q.1)) (mA X) (wA X) w'.heap.size (t++ofEvents (gid C.n0 r) x.frame.fn x.frame.place es):=by
  rw[aq];have bt:∀f b,grow (λr=>(C.γ r).own) w.heap.size w.heap.size r f b->(C.γ f).own b:=λf b h=>h.elim id λz=>ϖ
  have IL:=TI.mono a7 (RO':=R0 X C.γ C.L) (lv':=born C.L) (own':=λr=>(C.γ r).own) (λ_ _ h=>h) (λ_=>Iff.rfl) λf b h=>.inl h;by_cases A:(C.L r).pc=.la;have B:=Mv (by rw[A];rfl);have D:=u1.2 A;have Q:es=#[sW (.acquire (mA X))]:=by simpa[EvStop,j5,A] using v
  have Pz:∀f,(C.L f).pc≠.ur:=λf h=>by
   have hn:f≠r:=λe=>by subst e;rw[A]at h;cases h
   have aW:f≠.m:=λe=>by subst e;exact kf c.tab rfl h
   apply al;cases r with
   |m=>exact absurd rfl B
   |a=>cases f with
    |m=>exact absurd rfl aW
    |a=>exact absurd rfl hn
    |b=>exact⟨by rw[upd_same];exact D,by rw[upd_ne _ _ ϛ];exact h⟩
   |b=>cases f with
    |m=>exact absurd rfl aW
    |a=>exact⟨by rw[upd_ne _ _ ϛ];exact h,by rw[upd_same];exact D⟩
    |b=>exact absurd rfl hn
  have hh:hold C.L=none:=by unfold hold;rw[Γ (Pz .a),Γ (Pz .b)]
  have K:hold (upd C.L r q.1)=some r:=by
   unfold hold;cases r with|m=>exact absurd rfl B|a=>rw[κ (by rw[upd_same];exact D)]|b=>rw[Γ (by rw[upd_ne _ _ ϛ];exact Pz .a),κ (by rw[upd_same];exact D)]
  have e1:ofEvents (gid C.n0 r) x.frame.fn x.frame.place es=#[{g:=gid C.n0 r,fn:=x.frame.fn,pos:=x.frame.place,act:=.mark (.acquire (mA X))}]:=by rw[Q,ofEvents_eq];simp[sW,MemAct.ofEvent]
  have N:=c.ti;rw[hh]at N IL;rw[e1]at IL⊢;have:=TI.acquire N hr (z:={g:=gid C.n0 r,fn:=x.frame.fn,pos:=x.frame.place,act:=.mark (.acquire (mA X))}) rfl rfl (by rw[c.deaf r hr,M,A];rfl) IL;rw[K];refine TI.mono this Zr n λf b h=>?_;by_cases e:f=r;subst e;simp only[upd_same,g2,A]at h;exact h.imp id λz=>⟨rfl,z⟩
  simp only[upd_ne _ _ e]at h;exact .inl h;by_cases u:(C.L r).pc=.ur;have B:=Mv (by rw[u];rfl);have Q:es=#[sW (.releaseMerge (mA X))]:=by simpa[EvStop,j5,u] using v
  have hh:hold C.L=some r:=by
   unfold hold;cases r with|m=>exact absurd rfl B|a=>rw[κ u]|b=>rw[Γ λe=>nL c.tab ⟨e,u⟩,κ u]
  have K:hold (upd C.L r q.1)=none:=by
   unfold hold;have D:=u2 u;cases r with|m=>exact absurd rfl B|a=>rw[Γ (by rw[upd_same,D];simp),Γ (by rw[upd_ne _ _ ϛ];exactλe=>nL c.tab ⟨u,e⟩)]|b=>rw[Γ (by rw[upd_ne _ _ ϛ];exactλe=>nL c.tab ⟨e,u⟩),Γ (by rw[upd_same,D];simp)]
  have e1:ofEvents (gid C.n0 r) x.frame.fn x.frame.place es=#[{g:=gid C.n0 r,fn:=x.frame.fn,pos:=x.frame.place,act:=.mark (.releaseMerge (mA X))}]:=by rw[Q,ofEvents_eq];simp[sW,MemAct.ofEvent]
  have N:=c.ti;rw[hh]at N IL;rw[e1]at IL⊢;have:=TI.release ((c.lay.xL r).2 u) N (y:={g:=gid C.n0 r,fn:=x.frame.fn,pos:=x.frame.place,act:=.mark (.releaseMerge (mA X))}) rfl rfl (by rw[c.deaf r hr,M,u];rfl) IL;rw[K];refine TI.mono this Zr n λf b h=>?_;by_cases e:f=r;subst e;simp only[upd_same,g2,u]at h;exact h;simp only[upd_ne _ _ e]at h;exact⟨h,λI=>by subst I;exact e (c.lay.apart _ _ _ h ((c.lay.xL r).2 u))⟩;have K:hold (upd C.L r q.1)=hold C.L:=by
   have e1:∀f,((upd C.L r q.1 f).pc=.ur)=((C.L f).pc=.ur):=λf=>by by_cases e:f=r;subst e;rw[upd_same];exact propext ⟨λh=>absurd (u1.1 h) A,λh=>absurd h u⟩;rw[upd_ne _ _ e]
   unfold hold;simp only[e1]
  rw[K];refine TI.mono IL Zr n λf b h=>?_;by_cases e:f=r;subst e;simp only[upd_same,g2]at h;exact(sV h).resolve_right λz=>A z.1
  simp only[upd_ne _ _ e]at h;exact h
 have P2:∃G S qq,S<=1/\Sit X P Post k' r q.1 γ' G S (iH q.1.pc) qq q.2 x' w'/\(q.1.pc≠.quit->True):=by unfold After at O;split at O;rename_i F;have⟨qq,h⟩:=O;exact⟨.zero,0,qq,ϖ,.inr (.inr ⟨F,rfl,by rw[F];exact h⟩),λ_=>trivial⟩;rename_i F;have⟨G,h⟩:=O;exact⟨G,1,0,ϖ,.inl ⟨F,rfl,rfl,h⟩,λ_=>trivial⟩
 have⟨G,S,qq,_,P2,_⟩:=P2;let U:Cf Δ:={C with L:=upd C.L r q.1,γ:=upd C.γ r γ',k:=upd C.k r k',ρ:=upd C.ρ r G,aw:=upd be r S,ds:=upd C.ds r (iH q.1.pc),q:=λj=>if j=gid C.n0 r then qq else C.q j,s:=q.2,r1:=ag,r2:=a0}
 refine⟨_,_,U.ms gs.size,am,.left _ _ qg,U,_,w',sl,rfl,rfl,?_,by rw[Z]⟩;have P6:∀f,(C.L r).pc≠.ur->(upd C.γ r γ' f).mine=(C.γ f).mine:=λf h=>by by_cases e:f=r;subst e;rw[upd_same,g3];exact a2 h;rw[upd_ne _ _ e]
 have bo:∀{f:bE},f≠.m->r≠.m->f≠r->Pm r=f:=fun {f} h1 h2 h3=>by cases r<;>cases f<;>simp_all [Pm]
 refine⟨c.uU,by rw[Z];show gs.size=C.n0+nb (upd C.L r q.1);rw[ba];exact c.size,V,λf E=>?_,aL,λf E=>?_,λf E=>?_,λi g h0 h1 hg=>?_,Ad c hr Z,λf E=>?_,λh1 h2=>?_,λf h=>?_,λf h=>?_,λf h=>?_,by rw[aq];exact bl,a8⟩;have I:=(n f).1 E;show qh (upd C.L r q.1) ag a0<upd C.k r k' f;by_cases e:f=r;subst e;rw[upd_same];omega;rw[upd_ne _ _ e];have:=c.fuel f I;omega;have I:=(n f).1 E;by_cases e:f=r;subst e;refine⟨x',ConcN.get_map_set_same _ _ _ (DK c hr),?_⟩;simp only[U,upd_same,if_true];exact P2;have⟨g,h1,h2⟩:=bd f e I;refine⟨g,h1,?_⟩;have e':gid C.n0 f≠gid C.n0 r:=λh=>e (lT c.uU h)
 simp only[U,upd_ne _ _ e,Γ e'];exact h2;have I:¬born C.L f:=λh=>E ((n f).2 h)
 have e:f≠r:=λe=>I (e▸hr)
 simp only[U,upd_ne _ _ e];exact c.Wk f I;have e:i≠gid C.n0 r:=Ne.symm (yg c.uU h0 h1 r);have:=c.olds (r:=r) (x:=x) (x':=x') (w':=w') (fn:=x.frame.fn) (pos:=x.frame.place) (es:=es) i g h0 h1 hg;simp only[U,Γ e];exact this;by_cases e:f=r;subst e;simp only[U,upd_same];exact W;simp only[U,upd_ne _ _ e];exact xw c e ((n f).1 E);show ∃o,w'.heap[X.M]?=some o/\X.Dat (upd C.γ r γ' .a).mine (upd C.γ r γ' .b).mine o;rw[hM];by_cases u:(C.L r).pc=.ur;have B:=Mv (by rw[u];rfl);have⟨o,h3,h4⟩:=a4 u;refine⟨o,h3,?_⟩;have h5:=c.I9 r u;rw[h5]at h4;cases r with|m=>exact absurd rfl B|a=>rw[upd_same,upd_ne _ _ ϛ,g3];exact h4|b=>rw[upd_same,upd_ne _ _ ϛ,g3];exact h4
 have⟨o,h3,h4⟩:=c.data (λe=>by
  by_cases er:r=.a;exact u (er▸e);exact h1 (by show(upd C.L r q.1 .a).pc=.ur;rw[upd_ne _ _ (Ne.symm er)];exact e)) (λe=>by
  by_cases er:r=.b;exact u (er▸e);exact h2 (by show(upd C.L r q.1 .b).pc=.ur;rw[upd_ne _ _ (Ne.symm er)];exact e))
 exact⟨o,h3,by rw[P6 .a u,P6 .b u];exact h4⟩;have h:(upd C.L r q.1 f).pc=.ur:=h;show(upd C.γ r γ' f).other=(upd C.γ r γ' (Pm f)).mine;by_cases e:f=r;subst e;rw[upd_same]at h;have A:=u1.1 h;have B:=Mv (by rw[A];rfl);have ho:Pm f≠f:=by cases f<;>simp[Pm]at B⊢
 rw[upd_same,upd_ne _ _ ho,g4,κ A];exact hd A;rw[upd_ne _ _ e]at h⊢;have bb:(C.L r).pc≠.ur:=λu=>by
  have n1:f≠.m:=λz=>by subst z;exact kf c.tab rfl h
  have n2:=Mv (by rw[u];rfl);cases r<;>cases f<;>simp_all [nL c.tab]
  exact nL c.tab ⟨u,h⟩;exact nL c.tab ⟨h,u⟩
 rw[P6 _ bb];exact c.I9 f h;have h:past (upd C.L r q.1 f).pc=true:=h;show(upd C.γ r γ' f).mine=X.fin f;by_cases e:f=r;subst e;rw[upd_same]at h;rw[upd_same,g3];obtain H|⟨_,H⟩:=u3 h;rw[a2 λu=>by rw[u]at H;cases H];exact c.fin f H;exact av H;rw[upd_ne _ _ e]at h⊢;exact c.fin f h;have h:past (upd C.L r q.1 f).pc=true:=h;show ∃p,ConcN.RelBy (wA X) (t++ofEvents (gid C.n0 r) x.frame.fn x.frame.place es) (gid C.n0 f) p;by_cases e:f=r;subst e;rw[upd_same]at h;obtain H|⟨ho,D⟩:=u3 h;have⟨p,a9⟩:=c.rel f H;refine⟨p,ConcN.RelBy.appOwn a9 _ _ _ λj e Q=>?_⟩;unfold EvStop at v;have Y:j5 (C.L f) q.1=.dis\/j5 (C.L f) q.1=.book:=by revert H ar;cases ac:(C.L f).pc<;>simp[past]<;>simp[j5,ac]
 obtain N|N:=Y;rw[N]at v;simp only at v;subst v;have:=al4 Q;simp at this;subst this;exact .inl rfl;rw[N]at v;simp only at v;have a3:Deaf t (gid C.n0 f)=1:=by rw[c.deaf f hr,M];revert H ar N;cases ac:(C.L f).pc<;>simp[past]<;>simp[j5,ac,iH]
 rw[a3];obtain h5|h5:=v.1.2.2 j e Q;exact .inl h5;obtain h6|h6|⟨a,z,rfl,_⟩:=v.1.1 e (al4 Q);exact .inl (by rw[eg h6];rfl);exact .inl (by rw[eg h6];rfl);exact .inr ⟨⟨a,z,rfl⟩,h5⟩;have Q:es=#[ConcR.mk (.releaseMerge (wA X))]:=by
  have:es=#[sW (.releaseMerge (wA X))]:=by simpa[EvStop,j5,ho,D] using v
  exact this
 subst Q;exact⟨t.size,ConcN.RelBy.new (by rw[c.deaf f hr,M,ho];rfl) _ _⟩;rw[upd_ne _ _ e]at h;have⟨p,H⟩:=c.rel f h;exact⟨p,zg c e H⟩
end
section
variable {L:bE->Lo}{s:Sh}{r1 r2:Nat}
def oL{T:Lo}:(pw T).pc=.un↔T.pc=.un:=by cases a:T.pc<;>simp[pw,a]
def Dg{T:Lo}:(pw T).pc=.quit↔T.pc=.quit:=by cases a:T.pc<;>simp[pw,a]
def xV.Xp(h:xV L s r1 r2):((L .a).pc=.un/\(L .b).pc=.un)\/((L .a).pc≠.un/\(L .b).pc=.un)\/((L .a).pc≠.un/\(L .b).pc≠.un):=by
 have a:=h.Uz.facts;by_cases c1:(p0 (L .m)).pc=.x1\/(p0 (L .m)).pc=.g1;exact .inl ⟨oL.1 (a.un1 c1).1,oL.1 (a.un1 c1).2⟩;by_cases c2:(p0 (L .m)).pc=.x2\/(p0 (L .m)).pc=.g2;exact .inr (.inl ⟨λe=>(a.un2 c2).1 (oL.2 e),oL.1 (a.un2 c2).2⟩);have:=a.on (by rintro(x|x|x|x);exact c1 (.inl x);exact c1 (.inr x);exact c2 (.inl x);exact c2 (.inr x));exact .inr (.inr ⟨λe=>this.1 (oL.2 e),λe=>this.2 (oL.2 e)⟩)
end
section
variable {Δ:Type}{X:Cx Δ}{P:aa1}{Post:Gh Δ->Ω->Φ->Prop}{S0:Nat->Prop}{C:Cf Δ}{gs:Array Ω}{w w':Φ}{t:Trace}{sl:Option (Nat×Nat)}{r:bE}{x x' child:Ω}{es:Array Event}
def Core.at(c:Core X P Post S0 C gs w t)(d:Nat):Core X P Post S0 C gs (w.at d) t:=
 ⟨c.uU,c.size,c.tab,c.fuel,c.sh,λr hr=>by have⟨g,h1,h2⟩:=c.sit r hr;have⟨k',hk⟩:=c.kpos hr;rw[hk]at h2⊢;exact⟨g,h1,h2.rely (RX.at X _ _ w d)⟩,c.Wk,c.old,c.above,c.deaf,c.data,c.I9,c.fin,c.rel,c.lay,c.ti⟩
def Core.who(c:Core X P Post S0 C gs w t)(a:i<gs.size):(∃r,born C.L r/\i=gid C.n0 r)\/(0<i/\i<C.n0):=by
 obtain h0|h0:=ϕ3 i;exact .inl ⟨.m,c.rF,h0⟩;obtain h1|h1:=am0 i C.n0;exact .inr ⟨h0,h1⟩;rw[c.size]at a;unfold nb at a;obtain⟨ha,hb⟩|⟨ha,hb⟩|⟨ha,hb⟩:=c.tab.Xp;rw[κ ha,κ hb]at a;omega;rw[Γ ha,κ hb]at a;exact .inl ⟨.a,ha,by simp only[gid];omega⟩;rw[Γ ha,Γ hb]at a;obtain h|h:=Nat.eq_or_lt_of_le h1;exact .inl ⟨.a,ha,h.symm⟩;exact .inl ⟨.b,hb,by simp only[gid];omega⟩
def Core.awake(c:Core X P Post S0 C gs w t):∀g∈gs,awake g:=by
 intro g hg;obtain⟨i,a,rfl⟩:=am9.1 hg;obtain⟨r,hr,rfl⟩|⟨h0,h1⟩:=c.who a;have⟨g,h2,b⟩:=c.sit r hr;have⟨k',hk⟩:=c.kpos hr;rw[hk]at b;have:gs[gid C.n0 r]=g:=by simpa[τ a] using h2
 rw[this];exact awake_of b.status;exact awake_of ((c.old i _ h0 h1 (τ a)).status.elim .inl λx=>.inr (.inr x))
def Core.SN(c:Core X P Post S0 C gs w t):∃(i:Nat)(g:Ω),gs[i]?=some g/\g.status=.running:=by
 have v:=c.tab.inM.facts;have A:=c.tab.Uz.facts;have one:∀r,born C.L r->(C.L r).pc≠.quit->(∃(i:Nat)(g:Ω),gs[i]?=some g/\g.status=.running)\/(C.L r).sleeps C.s=true:=λr hr s=>by have⟨g,h1,h2⟩:=c.sit r hr;have⟨k',hk⟩:=c.kpos hr;rw[hk]at h2;obtain⟨_,_,_,h⟩|⟨_,_,_,h,_⟩|⟨h,_⟩:=h2;exact .inl ⟨_,g,h1,jS h⟩;exact .inr h;exact absurd h s
 have l:∀r,r≠.m->(C.L r).sleeps C.s=true->(pm (C.L r)).waits C.s.ms=true:=λr q h=>by
  simp only[Lo.sleeps,ak7,χ,ai5]at h;obtain⟨h1,h2⟩|⟨h1,_⟩:=h;simp[Lo.waits,pm,h1,h2];exfalso;cases r with
  |m=>exact q rfl
  |a=>have:=c.tab.wa;rw[h1]at this;cases this
  |b=>have:=c.tab.wb;rw[h1]at this;cases this
 have k:∀r d,r≠.m->d≠.m->born C.L r->(C.L r).pc≠.quit->((pm (C.L r)).waits C.s.ms=true->(pm (C.L d)).waits C.s.ms=false/\(pm (C.L d)).pc≠.out)->∃(i:Nat)(g:Ω),gs[i]?=some g/\g.status=.running:=λr d h1 o h2 j n=>by
  obtain h|h:=one r h2 j;exact h;have⟨f,y⟩:=n (l r h1 h);have z:born C.L d:=λe=>y (by simp[pm,e])
  have s:(C.L d).pc≠.quit:=λe=>y (by simp[pm,e])
  obtain p|p:=one d z s;exact p;rw[l d o p]at f;cases f
 have u:(C.L .m).pc≠.quit:=kf c.tab rfl;obtain h|h:=one .m c.rF u;exact h;simp only[Lo.sleeps,ak7,χ,ai5]at h;obtain⟨h1,_⟩|⟨h1,h2⟩:=h;exact absurd h1 (kf c.tab rfl);have x:∀T:Lo,live (pw T)=true->T.pc≠.un/\T.pc≠.quit:=λT h=>by simp only[live,χ,bne_iff_ne,ne_eq]at h;exact⟨λe=>h.1 (oL.2 e),λe=>h.2 (Dg.2 e)⟩
 obtain j|j:=A.sleep (by simp[p0,h1]) h2;have⟨n,f⟩:=x _ j;exact k .a .b ϛ ϛ n f v.XY;have⟨n,f⟩:=x _ j;exact k .b .a ϛ ϛ n f v.XX
def XT(c:Core X P Post S0 C gs w t)(hx:gs[0]?=some x)(hg:(C.L .m).pc=.g1\/(C.L .m).pc=.g2){k':Nat}(hk:C.k .m=k'+1){cm:Δ}(be:cm=(C.γ .m).mine)(hl:R4 X P (Bq X P Post k') (C.L .m) {(C.γ .m)with mine:=cm} x w)(av:C.ds .m=0):
  ∃R ops ar,runT P (crowd gs w sl) 0=(.next R,ops)/\Xu ar (C.ms gs.size)/\Eb X P Post S0 C.n0 ar R (t++ops):=by
 subst be;have⟨_,_,g',child,hs,K,Y⟩:=hl;have Q:=runT_crowd_spawn (P:=P) (sl:=sl) (i:=0) hx hs;have⟨M,E,ao,qg⟩:=c.tab.go (N:=X.N (fY (C.L .m).pc)) hg (c.Wk _ (by intro J;have:=c.tab.Xp;obtain h|h:=hg;have FG:=c.tab.Uz.facts;have:=(FG.un1 (.inr (by simp[p0,h]))).1;rw[h]at J;exact J (oL.1 this);have FG:=c.tab.Uz.facts;have:=(FG.un2 (.inr (by simp[p0,h]))).2;rw[h]at J;exact J (oL.1 this))).2
 have FG:=c.tab.Uz.facts;have Mx:gid C.n0 (fY (C.L .m).pc)=gs.size:=by rw[c.size];unfold nb;obtain h|h:=hg;have h1:=FG.un1 (.inr (by simp[p0,h]));rw[κ (oL.1 h1.1),κ (oL.1 h1.2),h];rfl;have h1:=FG.un2 (.inr (by simp[p0,h]));rw[Γ λe=>h1.1 (oL.2 e),κ (oL.1 h1.2),h];rfl
 have B:fY (C.L .m).pc≠.m:=by obtain h|h:=hg<;>rw[h]<;>simp[fY]
 have aa:(jf (C.L .m).pc).pc=.k2\/(jf (C.L .m).pc).pc=.kw:=by obtain h|h:=hg<;>rw[h]<;>simp[jf]
 generalize bo:fY (C.L .m).pc=n at*;generalize bf:jf (C.L .m).pc=T at*;have V:fK T.pc=false:=by obtain h|h:=aa<;>rw[h]<;>rfl
 have a0:iH T.pc=0:=by obtain h|h:=aa<;>rw[h]<;>rfl
 have Qc:T.pc≠.ur/\T.pc≠.un/\T.pc≠.quit/\past T.pc=false:=by obtain h|h:=aa<;>rw[h]<;>simp[past]
 have ME:0<gs.size:=(Ψ.1 hx).1;let A:bE->Lo:=upd (upd C.L .m T) n (at_ .out (X.N n));let O:Gh Δ:=given (C.γ .m);let s:bE->Gh Δ:=upd (upd C.γ .m O) n {O with mine:=X.c0 n};have Lm:A .m=T:=by simp only[A];rw[upd_ne _ _ (Ne.symm B),upd_same]
 have Z:A n=at_ .out (X.N n):=upd_same ..;have S:∀d,d≠.m->d≠n->A d=C.L d:=λd h1 h2=>by simp only[A];rw[upd_ne _ _ h2,upd_ne _ _ h1]
 have Gm:s .m=O:=by simp only[s];rw[upd_ne _ _ (Ne.symm B),upd_same]
 have Gc:s n={O with mine:=X.c0 n}:=upd_same ..;have F:∀d,d≠.m->d≠n->s d=C.γ d:=λd h1 h2=>by simp only[s];rw[upd_ne _ _ h2,upd_ne _ _ h1]
 have ag:¬born C.L n:=λh=>h M
 have q:∀d,born A d↔born C.L d\/d=n:=λd=>by by_cases e2:d=n;subst e2;refine⟨λ_=>.inr rfl,λ_=>?_⟩;show(A d).pc≠.un;rw[Z];simp;by_cases e1:d=.m;subst e1;refine⟨λ_=>.inl c.rF,λ_=>?_⟩;show(A .m).pc≠.un;rw[Lm];exact Qc.2.1;show(A d).pc≠.un↔_;rw[S d e1 e2];exact⟨.inl,λh=>h.resolve_right e2⟩
 have a9:nb A=nb C.L+1:=by
  unfold nb;cases n with|m=>exact absurd rfl B|a=>have e:(at_ .out (X.N .a)).pc≠.un:=ϛ;simp only[Z,S .b ϛ ϛ,κ M,Γ e]<;>omega|b=>have e:(at_ .out (X.N .b)).pc≠.un:=ϛ;simp only[Z,S .a ϛ ϛ,κ M,Γ e]<;>omega
 have pZ:∀d,(s d).mine=(C.γ d).mine:=λd=>by by_cases e2:d=n;subst e2;rw[Gc];exact(c.Wk d ag).1.symm;by_cases e1:d=.m;subst e1;rw[Gm];rfl;rw[F d e1 e2]
 have a2:¬(C.γ .m).own X.M:=λh=>kf c.tab rfl ((c.lay.xL .m).1 h)
 have own':∀d b,(s d).own b->(C.γ d).own b/\d≠.m/\d≠n:=λd b h=>by by_cases e2:d=n;subst e2;rw[Gc]at h;exact h.elim;by_cases e1:d=.m;subst e1;rw[Gm]at h;exact h.elim;rw[F d e1 e2]at h;exact⟨h,e1,e2⟩
 have H:∀d b,(s d).ro b->((d=.m\/d=n)/\((C.γ .m).ro b\/(C.γ .m).own b))\/(d≠.m/\d≠n/\(C.γ d).ro b):=λd b h=>by by_cases e2:d=n;subst e2;rw[Gc]at h;exact .inl ⟨.inr rfl,h⟩;by_cases e1:d=.m;subst e1;rw[Gm]at h;exact .inl ⟨.inl rfl,h⟩;rw[F d e1 e2]at h;exact .inr ⟨e1,e2,h⟩
 have Mw:∀d,(A d).pc=.ur↔(C.L d).pc=.ur/\d≠.m/\d≠n:=λd=>by by_cases e2:d=n;subst e2;rw[Z];simp;by_cases e1:d=.m;subst e1;rw[Lm];exact⟨λh=>absurd h Qc.1,λh=>absurd rfl h.2.1⟩;rw[S d e1 e2];exact⟨λh=>⟨h,e1,e2⟩,λh=>h.1⟩
 have U:∀d,(C.L d).pc=.ur->d≠.m/\d≠n:=λd h=>⟨λe=>by subst e;exact kf c.tab rfl h,λe=>by subst e;rw[M]at h;cases h⟩
 have W:hold A=hold C.L:=by
  have e1:∀d,((A d).pc=.ur)=((C.L d).pc=.ur):=λd=>propext ⟨λh=>((Mw d).1 h).1,λh=>(Mw d).2 ⟨h,U d h⟩⟩
  unfold hold;simp only[e1]
 have bd:Lay X S0 s A w.heap.size:=by refine⟨λd b h=>?_,λd h=>?_,λd=>?_,λd aL b h h'=>c.lay.apart _ _ b (own' _ _ h).1 (own' _ _ h').1,λd aL b h h'=>?_,λd b h=>?_,c.lay.fm,c.lay.fw,c.lay.mw,c.lay.s0,c.lay.xP,c.lay.Dx,c.lay.wi⟩;obtain h|h:=h;exact c.lay.sp d b (.inl (own' _ _ h).1);obtain⟨_,h|h⟩|⟨_,_,h⟩:=H _ _ h;exact c.lay.sp .m b (.inr h);exact c.lay.sp .m b (.inl h);exact c.lay.sp d b (.inr h);obtain⟨_,h|h⟩|⟨_,_,h⟩:=H _ _ h;exact c.lay.roM _ h;exact a2 h;exact c.lay.roM _ h;rw[Mw];constructor;intro h;exact⟨(c.lay.xL d).1 (own' _ _ h).1,(own' _ _ h).2⟩;intro⟨h,h1,h2⟩;rw[F d h1 h2];exact(c.lay.xL d).2 h;have⟨h1,h2,h3⟩:=own' _ _ h;obtain⟨_,h4|h4⟩|⟨_,_,h4⟩:=H _ _ h';exact c.lay.BR _ _ b h1 h4;exact h2 (c.lay.apart _ _ b h1 h4);exact c.lay.BR _ _ b h1 h4;refine(q d).2 ?_;obtain h|h:=h;exact .inl (c.lay.lv d b (.inl (own' _ _ h).1));obtain⟨e,_⟩|⟨_,_,h⟩:=H _ _ h;obtain e|e:=e;exact .inl (e▸c.rF);exact .inr e;exact .inl (c.lay.lv d b (.inr h))
 have an:((ofEvents 0 x.frame.fn x.frame.place #[]).push {g:=0,fn:=x.frame.fn,pos:=x.frame.place,act:=.go gs.size}).push {g:=gs.size,fn:=child.frame.fn,pos:=x.frame.place,act:=.start}=
   #[({g:=0,fn:=x.frame.fn,pos:=x.frame.place,act:=.go gs.size}:MemOp),{g:=gs.size,fn:=child.frame.fn,pos:=x.frame.place,act:=.start}]:=by rw[ofEvents_none];rfl
 rw[an]at Q;have G:∀op∈(#[({g:=0,fn:=x.frame.fn,pos:=x.frame.place,act:=.go gs.size}:MemOp),{g:=gs.size,fn:=child.frame.fn,pos:=x.frame.place,act:=.start}]:Trace),op.act≠.mark .disable/\op.act≠.mark .enable:=by intro op ho;simp at ho;obtain rfl|rfl:=ho<;>simp
 have a5:=TI.fork c.rF B c.ti (x:={g:=0,fn:=x.frame.fn,pos:=x.frame.place,act:=.go gs.size}) (y:={g:=gs.size,fn:=child.frame.fn,pos:=x.frame.place,act:=.start}) ⟨rfl,by rw[Mx]⟩ ⟨Mx.symm,rfl⟩
  (by have:=c.deaf .m c.rF;rw[av]at this;exact this) (by rw[Mx];exact c.above _ (ε _)) c.uU (λi g I e=>by
   subst e;have a4:C.n0<=gid C.n0 n:=by cases n<;>simp[gid]at B⊢
   have⟨d,h1,h2,h3⟩:=c.ti.ids i _ I a4;exact ag (lT c.uU h3▸h2))
 have⟨a6,a3⟩:=K (qh A C.r1 E+1);have⟨aW,a7⟩:=Y;have bg:=c.fuel .m c.rF;let C':Cf Δ:={C with L:=A,γ:=s,k:=upd (upd C.k .m k') n (qh A C.r1 E+1),ρ:=upd (upd C.ρ .m aW) n a6,aw:=upd (upd C.aw .m 1) n 1,ds:=upd C.ds n 0,r2:=E}
 have am:((gs.setIfInBounds 0 g').push child).size=gs.size+1:=ϛ;have ac:∀{α:Type}(f:bE->α)(u v:α)(d:bE),d≠.m->d≠n->upd (upd f .m u) n v d=f d:=λf u v d h1 h2=>by rw[upd_ne _ _ h2,upd_ne _ _ h1]
 have Wj:∀{α:Type}(f:bE->α)(u v:α),upd (upd f .m u) n v .m=u:=λf u v=>by rw[upd_ne _ _ (Ne.symm B),upd_same]
 have bb:((gs.setIfInBounds 0 g').push child)[0]?=some g':=by rw[ac6 (by simpa using ME)];simp[ME]
 have ba:((gs.setIfInBounds 0 g').push child)[gs.size]?=some child:=by have:gs.size=(gs.setIfInBounds 0 g').size:=ϛ;rw[this];exact Array.getElem?_push_size
 have al:∀i,i≠0->i≠gs.size->((gs.setIfInBounds 0 g').push child)[i]?=gs[i]?:=λi h1 h2=>by rw[am3];rw[Γ (by simpa using h2),ζ (Ne.symm h1)]
 have a8:qh A C.r1 E<qh C.L C.r1 C.r2:=qg;refine⟨_,_,C'.ms (gs.size+1),Q,.left _ _ a8,C',_,w,sl,rfl,rfl,?_,by rw[am]⟩;refine⟨c.uU,by rw[am,c.size];show C.n0+nb C.L+1=C.n0+nb A;rw[a9];omega,ao,λd D=>?_,c.sh,λd D=>?_,λd D=>?_,λi g h0 h1 I=>?_,λj hj=>?_,λd D=>?_,λh1 h2=>?_,λd h=>?_,λd h=>?_,λd h=>?_,bd,?_⟩;show qh A C.r1 E<upd (upd C.k .m k') n (qh A C.r1 E+1) d;by_cases e2:d=n;subst e2;rw[upd_same];omega;by_cases e1:d=.m;subst e1;rw[Wj];omega;rw[ac _ _ _ _ e1 e2];have:=c.fuel d (((q d).1 D).resolve_right e2);omega;by_cases e2:d=n;subst e2;refine⟨child,by show _[gid C.n0 d]?=_;rw[Mx];exact ba,.inl ?_⟩;simp only[C',upd_same,Z,Gc];refine⟨ϛ,rfl,trivial,?_⟩;have a1:AtR X P Post (qh A C.r1 E+1) d=KJ X P (qh A C.r1 E+1) d:=by cases d<;>first|rfl|exact absurd rfl B
 have hM:xQ d=false:=by cases d<;>first|rfl|exact absurd rfl B
 rw[a1,hM];exact a3;by_cases e1:d=.m;subst e1;refine⟨g',bb,.inl ?_⟩;simp only[C',Wj,Lm,Gm,upd_ne _ _ (Ne.symm B)];refine⟨Qc.2.2.1,by rw[a0];exact av,trivial,?_⟩;rw[V];exact a7;have⟨g,h1,h2⟩:=c.sit d (((q d).1 D).resolve_right e2);have aq:gid C.n0 d≠0:=Ko c.uU e1;have bc:gid C.n0 d≠gs.size:=λh=>e2 (lT c.uU (h.trans Mx.symm))
 refine⟨g,by rw[al _ aq bc];exact h1,?_⟩;simp only[C',ac _ _ _ _ e1 e2,S d e1 e2,F d e1 e2,upd_ne _ _ e2];exact h2;have J:¬born C.L d:=λh=>D ((q d).2 (.inl h))
 have e2:d≠n:=λe=>D ((q d).2 (.inr e))
 have e1:d≠.m:=λe=>J (e▸c.rF)
 simp only[C',S d e1 e2,F d e1 e2];exact c.Wk d J;have bl:i<gs.size:=by rw[c.size];have:i<C.n0:=h1;omega
 rw[al i ϖ ϖ]at I;rw[ConcN.Deaf_still _ _ _ G];exact c.old i g h0 h1 I;rw[ConcN.Deaf_still _ _ _ G];exact c.above j ϖ;rw[ConcN.Deaf_still _ _ _ G];show Deaf t (gid C.n0 d)=upd C.ds n 0 d;by_cases e2:d=n;subst e2;rw[upd_same,Mx];exact c.above _ (ε _);rw[upd_ne _ _ e2];exact c.deaf d (((q d).1 D).resolve_right e2);show ∃o,w.heap[X.M]?=some o/\X.Dat (s .a).mine (s .b).mine o;rw[pZ,pZ];exact c.data (λh=>h1 ((Mw .a).2 ⟨h,U _ h⟩)) λh=>h2 ((Mw .b).2 ⟨h,U _ h⟩);have⟨h1,h2,h3⟩:=(Mw d).1 h;show(s d).other=(s (Pm d)).mine;rw[pZ,F d h2 h3];exact c.I9 d h1;have h:past (A d).pc=true:=h;have e2:d≠n:=λe=>by rw[e,Z]at h;cases h
 have e1:d≠.m:=λe=>by rw[e,Lm,Qc.2.2.2]at h;cases h
 rw[S d e1 e2]at h;show(s d).mine=_;rw[pZ];exact c.fin d h;have h:past (A d).pc=true:=h;have e2:d≠n:=λe=>by rw[e,Z]at h;cases h
 have e1:d≠.m:=λe=>by rw[e,Lm,Qc.2.2.2]at h;cases h
 rw[S d e1 e2]at h;have⟨p,hp⟩:=c.rel d h;refine⟨p,hp.app λi hi I hc=>?_⟩;have⟨z,hz,_⟩:=hc;obtain⟨h5,_⟩|⟨_,op,hop,_,hox⟩:=cF hz;omega;simp at hop;obtain rfl|rfl:=hop<;>cases hox
 show TI C.n0 (AH X S0) (R0 X s A) (born A) (λr=>(s r).own) X.M (hold A) (mA X) (wA X) w.heap.size _;rw[W];refine TI.mono a5 (λd l h=>?_) q own';by_cases e:d=.m\/d=n;rw[κ e];obtain⟨b,J,hin⟩|hcell:=h.2;obtain⟨_,h5|h5⟩|⟨h6,h7,_⟩:=H _ _ J;exact .inl ⟨c.rF,.inl ⟨b,h5,hin⟩⟩;exact .inr ⟨b,h5,hin⟩;exact absurd e λz=>z.elim h6 h7;exact .inl ⟨c.rF,.inr hcell⟩;rw[Γ e];refine⟨((q d).1 h.1).resolve_right λz=>e (.inr z),?_⟩;obtain⟨b,J,hin⟩|hcell:=h.2;obtain⟨h5,_⟩|⟨_,_,h5⟩:=H _ _ J;exact absurd h5 e;exact .inl ⟨b,h5,hin⟩;exact .inr hcell
structure Joined (X:Cx Δ)(P:aa1)(Post:Gh Δ->Ω->Φ->Prop)(S0:Nat->Prop)(n0:Nat)(gs:Array Ω)(w:Φ)(t:Trace):Prop where
 size:gs.size=n0+2
 post:∃g γ,gs[0]?=some g/\Post γ g w
 akT:∃q,Leavers P t gs q
 past:Past (AH X S0) w.heap.size t
 ids:∀op∈t,op.g<n0+2
def XU(c:Core X P Post S0 C gs w t)(F:gs[0]?=some x)(hg:(C.L .m).pc=.aq)(E:C.ds .m=0){γ:Gh Δ}(q:Xx X P Post γ x w):
  ∃f ops,runT P (crowd gs w sl) 0=(.next (crowd f w sl),ops)/\Joined X P Post S0 C.n0 f w (t++ops):=by
 have N:=c.tab.Uz.facts;have J:=N.fin (by simp[p0,hg]);have ha:=Dg.1 J.1;have p:=Dg.1 J.2;have⟨o,h1,h2⟩:=c.data (by rw[ha];simp) (by rw[p];simp);rw[c.fin .a (by rw[ha];rfl),c.fin .b (by rw[p];rfl)]at h2;have⟨_,_,q⟩:=q;have⟨g',hs,b⟩:=q o h1 h2;have l:=runT_crowd_go (P:=P) (sl:=sl) (i:=0) F (by simpa using hs);have L:0<gs.size:=(Ψ.1 F).1;have n:∀r,r≠.m->born C.L r->(C.L r).pc=.quit/\r≠.m:=λr h _=>by cases r<;>first|exact absurd rfl h|exact⟨ha,h⟩|exact⟨p,h⟩
 have e1:ofEvents 0 x.frame.fn x.frame.place #[sW (.acquire (wA X))]=#[{g:=0,fn:=x.frame.fn,pos:=x.frame.place,act:=.mark (.acquire (wA X))}]:=by rw[ofEvents_eq];simp[sW,MemAct.ofEvent]
 have k:((gs.map (woken P x g' w)).setIfInBounds 0 g').size=gs.size:=ϛ;have B:Deaf t 0=0:=by have:=c.deaf .m c.rF;rw[E]at this;exact this
 refine⟨_,_,l,⟨?_,⟨g',γ,by simp[L],b⟩,⟨C.q,λi g u m=>?_,λj H=>?_⟩,?_,λD a=>?_⟩⟩;rw[k,c.size];unfold nb;rw[Γ (by rw[ha];simp),Γ (by rw[p];simp)];rw[ConcN.get_map_set _ _ _ _ ϖ]at m;obtain⟨y,z,rfl⟩:=ψ.1 m;have A:i<gs.size:=(Ψ.1 z).1;have G:QuitsD P (C.q i) (Deaf t i) y:=by
  obtain⟨r,hr,rfl⟩|⟨h3,h4⟩:=c.who A;have v:r≠.m:=λe=>by subst e;exact absurd rfl (Nat.ne_of_gt u)
  have⟨g,I,M⟩:=c.sit r hr;rw[z]at I;obtain rfl:=ag2 I;have d:=(n r v hr).1;rw[c.deaf r hr];obtain⟨h7,_⟩|⟨h7,_⟩|⟨_,_,h7⟩:=M;exact absurd d h7;exact absurd d h7;exact h7;exact c.old i y h3 h4 z
 rw[woken_quitsD G,Deaf_other t (g':=0) ϖ _ xh];exact G;rw[k]at H;rw[Deaf_other t (g':=0) ϖ _ xh];exact c.above j H;rw[e1];exact TI.join c.uU c.ti rfl rfl B c.lay.wi λr hr s=>c.rel r (by rw[(n r hr s).1];rfl)
 have O:=c.uU;obtain a|a:=ai1.1 a;obtain h|h:=am0 D.g C.n0;omega;have⟨i,K⟩:=Array.mem_iff_getElem?.1 a;have⟨r,_,_,e⟩:=c.ti.ids i D.g (by simp[Trace.g?,K]) h;rw[e];cases r<;>simp[gid]
 have:=xh D a;omega
def Oe(c:Core X P Post S0 C gs w t):
  (∃K ops x,stepT P (crowd gs w sl)=(.next K,ops)/\Xu x (C.ms gs.size)/\Eb X P Post S0 C.n0 x K (t++ops))\/
  ∃l w' p ops,stepT P (crowd gs w sl)=(.next (crowd l w' p),ops)/\Joined X P Post S0 C.n0 l w' (t++ops):=by
 have⟨i,g,d,p,y,hg,U⟩:=crowd_pick (P:=P) (w:=w) (sl:=sl) c.awake c.SN;rw[U];have c:=c.at d;generalize w.at d=w at c;have aa:i<gs.size:=(Ψ.1 y).1;obtain⟨r,hr,rfl⟩|⟨h0,h1⟩:=c.who aa;have⟨g',L,hs⟩:=c.sit r hr;rw[y]at L;obtain rfl:=ag2 L;have⟨k',hk⟩:=c.kpos hr;have RK:C.aw r=1->(C.L r).pc≠.quit->C.ds r=iH (C.L r).pc->(∀w₁,RX X (C.γ r).ro (C.γ r).own w w₁->eG (AtR X P Post (C.k r) r) (C.L r) (C.γ r) (C.γ r).own g w₁)->
   (∃K ops x,runT P (crowd gs w p) (gid C.n0 r)=(.next K,ops)/\Xu x (C.ms gs.size)/\Eb X P Post S0 C.n0 x K (t++ops))\/
   ∃l w' N ops,runT P (crowd gs w p) (gid C.n0 r)=(.next (crowd l w' N),ops)/\Joined X P Post S0 C.n0 l w' (t++ops):=λY G z v=>by
  have⟨cm,H,A⟩:=v w (RX.refl X _ _ w);rw[hk]at A;have O:oS (C.L r).pc=true->r=.m:=λh=>by
   cases r with
   |m=>rfl
   |a=>have:=c.tab.wa;revert this h;cases (C.L .a).pc<;>simp[oS,jT]
   |b=>have:=c.tab.wb;revert this h;cases (C.L .b).pc<;>simp[oS,jT]
  by_cases k:(C.L r).pc=.g1\/(C.L r).pc=.g2;obtain rfl:=O (by obtain h|h:=k<;>rw[h]<;>rfl);have j:Bq X P Post (k'+1) (C.L .m) _ g w:=A;unfold Bq at j;rw[κ k]at j;exact .inl (XT c y k hk (H (by obtain h|h:=k<;>rw[h]<;>simp)) j (by rw[z];obtain h|h:=k<;>rw[h]<;>rfl));by_cases n:(C.L r).pc=.aq;obtain rfl:=O (by rw[n];rfl);have j:Bq X P Post (k'+1) (C.L .m) _ g w:=A;unfold Bq at j;rw[Γ k,κ n]at j;have⟨l,ops,e1,e2⟩:=XU (sl:=p) c y n (by rw[z,n];rfl) j;exact .inr ⟨l,w,p,ops,e1,e2⟩;have⟨l1,l2,l3,l4,l5⟩:=A.law k n;have⟨l6,l7⟩:=l5 C.s c.sh c.tab.fits;have W:oS (C.L r).pc=true\/jT (C.L r).pc=true:=by
   cases r with|m=>exact .inl c.tab.st|a=>exact .inr c.tab.wa|b=>exact .inr c.tab.wb
  by_cases D:mv (C.L r) C.s=[];exact .inl (stepBlock c hr y G z Y v (mv_nil W k n hr G D) (l6 D));have u:(C.L r).pc=.la->∃o,w.heap[X.M]?=some o/\Ec X r cm (C.γ (Pm r)).mine o:=λu=>by
   have s:r≠.m:=λe=>by subst e;exact kf c.tab rfl u
   have hp:(pm (C.L r)).pc=.u0:=by simp[pm,u]
   have R:∀J,(C.L J).pc≠.ur:=λJ I=>by
    have hn:J≠r:=λe=>by subst e;rw[u]at I;cases I
    have Z:J≠.m:=λe=>by subst e;exact kf c.tab rfl I
    have M:(pm (C.L J)).pc=.u0:=by simp[pm,I]
    have FM:=c.tab.inM.facts;cases r<;>cases J<;>simp at s hn Z
    exact FM.excl ⟨hp,M⟩;exact FM.excl ⟨M,hp⟩
   have⟨o,h1,h2⟩:=c.data (R .a) (R .b);have e:=H (by rw[u];simp);refine⟨o,h1,?_⟩;rw[e];cases r with|m=>exact absurd rfl s|a=>exact h2|b=>exact h2
  have⟨q,S,F⟩:=l7 (C.γ (Pm r)).mine u D;have V:=(c.tab.move S hr).1;have⟨Q,x',w',es,m1,m2,T,m4,m5⟩:=F V;exact .inl (stepMove c hr y G z S hk H (λI=>l4 I) l3 Q m1 m2 T m4 (d:=(C.γ (Pm r)).mine) (λ_=>rfl) m5)
 obtain⟨h1,h2,h3,B⟩|⟨_,_,_,_,g₀,e,_⟩|⟨h1,h2,S⟩:=hs
 .cases E:C.ρ r with
  |zero=>rw[E]at B;exact RK h3 h1 h2 B
  |mk f=>rw[E]at B;obtain B|⟨_,B⟩:=B;exact RK h3 h1 h2 B;have⟨x',w',es,m1,m2,T⟩:=B w (RX.refl X _ _ w);exact .inl (Of c hr y E h1 h2 m1 m2 T)
 subst e;cases hg;by_cases s:r=.m;subst s;exact absurd h1 (kf c.tab rfl);refine .inl (BE c (Ko c.uU s) y hg (.inr ⟨r,hr,s,rfl,h1⟩) ?_);rw[c.deaf r hr];exact S;exact .inl (BE c ϖ y hg (.inl h1) (c.old i g h0 h1 y))
def KY{n0:Nat}:∀c m t,Eb X P Post S0 n0 c m t->∃N a w' b t',runNT P N m t=(.next (crowd a w' b),t')/\Joined X P Post S0 n0 a w' t':=by
 intro c;induction c using aad.induction with
 |_ c f=>rintro m t⟨C,gs,w,sl,rfl,rfl,e,rfl⟩;obtain⟨m',ops,μ',h1,h2,h3⟩|⟨a,w',b,ops,h1,h2⟩:=Oe (sl:=sl) e;have⟨N,a,w',b,t',g,d⟩:=f μ' h2 m' _ h3;exact⟨N+1,a,w',b,t',by simp only[runNT,h1];exact g,d⟩;exact⟨1,a,w',b,_,by simp only[runNT,h1],h2⟩
end
end gz
end
section
open Go.Conc
open Go.ConcM (OsLater)
namespace gz
section
variable {Δ:Type}{X:Cx Δ}{P:aa1}{r:bE}{k:Nat}{T T':Lo}{γ:Gh Δ}{own:Nat->Prop}{g g':Ω}{w w':Φ}{es:Array Event}
def kY(deaf:Bool)(ro:ϒ):Idle (gG X deaf ro):=λown w=>
 ⟨⟨rfl,rfl,ε _,.refl _,λ_ _ _=>rfl,ϛ,λ_=>rfl⟩,by funext b;show(own b\/(w.heap.size<=b/\b<w.heap.size))=own b;exact propext ⟨λh=>h.elim id λz=>ϖ,.inl⟩⟩
def aI(h:ay P main g g')(k:aJ P main (gG X deaf ro) Stop own g' w):aJ P main (gG X deaf ro) Stop own g w:=lC (kY deaf ro) h k
def bp(h:aN g=some x):g.status=.running/\g.offers=none:=by
 have⟨f,args⟩:=x;obtain⟨b,a,ops,i,rest,e,cs,o,d,c,rfl,_⟩:=dC h;exact⟨rfl,rfl⟩
def dH{v:m6}(h:bm g=some v):g.status=.running/\g.offers=none:=by
 obtain⟨b,a,ops,i,rest,c,cs,o,rfl,_⟩:=oZ h;exact⟨rfl,rfl⟩
def rj(h:jj g=some x):g.status=.running/\g.offers=none:=by
 have⟨f,args⟩:=x;obtain⟨b,a,todo,c,cs,rfl,_⟩:=vu h;exact⟨rfl,rfl⟩
def PT{main deaf:Bool}{Nx:Nat->Lo->Gh Δ->Ω->Φ->Prop}(h0:∀T γ g w,Nx 0 T γ g w)(h:∀k' w₁,k=k'+1->RX X γ.ro own w w₁->Nx (k'+1) T {γ with own:=own} g w₁):
  aJ P main (gG X deaf γ.ro) (eG (Nx k) T γ) own g w:=by
 cases k with|zero=>exact aJ.stop λw₁ hr=>⟨γ.mine,λ_=>rfl,h0 ..⟩|succ k=>exact aJ.stop λw₁ hr=>⟨γ.mine,λ_=>rfl,h k w₁ rfl hr⟩
def ShAt.cMu{s:Sh}(h:ShAt X w s):w.cell? (mA X)=some (.int .i32 s.mu):=by simp[World.cell?,mA,h.1]
def ShAt.cMs{s:Sh}(h:ShAt X w s):w.cell? (msA X)=some (.int .u32 s.ms):=by simp[World.cell?,msA,h.1]
def ShAt.Nc{s:Sh}(h:ShAt X w s):w.cell? (wA X)=some (.int .u64 s.wg):=by simp[World.cell?,wA,h.2]
def ShAt.cWs{s:Sh}(h:ShAt X w s):w.cell? (ND X)=some (.int .u32 s.ws):=by simp[World.cell?,ND,h.2]
def ShAt.thF{s:Sh}(h:ShAt X w s)(o:Nat):w.frozen? ⟨X.Fd,o,none⟩=false:=by simp[World.frozen?,h.1]
def ShAt.Sa{s:Sh}(h:ShAt X w s)(o:Nat):w.frozen? ⟨X.Wg,o,none⟩=false:=by simp[World.frozen?,h.2]
def ShAt.setMu{s:Sh}(a:X.Fd≠X.Wg)(h:ShAt X w s)(v:Int):ShAt X (w.setCell (mA X) (.int .i32 v)) {s with mu:=v}:=
 ⟨by rw[mA,setCell_eq_setRow w X.Fd 0 _ X.tF (0,0) _ h.1,setRow_heap w X.Fd _ _ X.tF _ h.1];simp,((aside_setCell w (mA X) _).block X.Wg a.symm).trans h.2⟩
def ShAt.setMs{s:Sh}(a:X.Fd≠X.Wg)(h:ShAt X w s)(v:Int):ShAt X (w.setCell (msA X) (.int .u32 v)) {s with ms:=v}:=
 ⟨by rw[msA,setCell_eq_setRow w X.Fd 1 _ X.tF (0,0) _ h.1,setRow_heap w X.Fd _ _ X.tF _ h.1];simp,((aside_setCell w (msA X) _).block X.Wg a.symm).trans h.2⟩
def ShAt.setWg{s:Sh}(a:X.Fd≠X.Wg)(h:ShAt X w s)(v:Int):ShAt X (w.setCell (wA X) (.int .u64 v)) {s with wg:=v}:=
 ⟨((aside_setCell w (wA X) _).block X.Fd a).trans h.1,by rw[wA,setCell_eq_setRow w X.Wg 0 _ X.tW (0,0) _ h.2,setRow_heap w X.Wg _ _ X.tW _ h.2];simp⟩
def ShAt.setWs{s:Sh}(a:X.Fd≠X.Wg)(h:ShAt X w s)(v:Int):ShAt X (w.setCell (ND X) (.int .u32 v)) {s with ws:=v}:=
 ⟨((aside_setCell w (ND X) _).block X.Fd a).trans h.1,by rw[ND,setCell_eq_setRow w X.Wg 1 _ X.tW (0,0) _ h.2,setRow_heap w X.Wg _ _ X.tW _ h.2];simp⟩
def oB(X:Cx Δ)(a:Addr):Prop:=(a.block=X.Fd/\a.off≠2)\/(a.block=X.Wg/\X.Wg≠X.Fd)
def ym{a:Addr}(ha:oB X a)(g:ConcM.BookOK X.Fd X.Wg 1 1 es)(c:∀e∈es,∀b:Addr,e.loc=.cell b->b=a)(d:j5 T T'=.book):EvStop X T T' es:=by
 unfold EvStop;rw[d];exact⟨g,λe f b h1 h2=>by obtain rfl:=c e f b h1;obtain ha|ha:=ha;exact ha.2;exact absurd (ha.1.symm.trans h2) ha.2⟩
def su{a:Addr}(ha:oB X a):a.block=X.Fd\/a.block=X.Wg:=ha.imp (·.1) (·.1)
def z8(a:j5 T T'=.book):EvStop X T T' #[]:=by unfold EvStop;rw[a];exact⟨ConcM.book_nil 1,ϛ⟩
def qZ{a:Addr}(ha:oB X a)(d:j5 T T'=.book):EvStop X T T' #[⟨.cell a,false,true⟩,⟨.cell a,true,true⟩]:=
 ym ha (ConcM.book_rw 0 a (su ha)) (λe c b f=>by simp at c;obtain rfl|rfl:=c<;>cases f<;>rfl) d
def Gw{a:Addr}(ha:oB X a)(d:j5 T T'=.book):EvStop X T T' #[⟨.cell a,false,true⟩]:=
 ym ha (ConcM.book_one 0 a false (su ha)) (λe c b f=>by simp at c;subst c;cases f;rfl) d
def amn{a:Addr}(ha:oB X a)(d:j5 T T'=.book):EvStop X T T' #[⟨.cell a,true,true⟩]:=
 ym ha (ConcM.book_one 0 a true (su ha)) (λe c b f=>by simp at c;subst c;cases f;rfl) d
def DR{a:Addr}(ha:oB X a)(d:j5 T T'=.book):EvStop X T T' (semEvents a):=
 ym ha (ConcM.book_sem 0 a (su ha)) (λe c b f=>by simp[semEvents]at c;obtain rfl|rfl|rfl|rfl:=c<;>cases f<;>rfl) d
def okM:oB X (mA X):=.inl ⟨rfl,by simp[mA]⟩
def afw:oB X (msA X):=.inl ⟨rfl,by simp[msA]⟩
def okW(h:X.Fd≠X.Wg):oB X (wA X):=.inr ⟨rfl,h.symm⟩
def afv(h:X.Fd≠X.Wg):oB X (ND X):=.inr ⟨rfl,h.symm⟩
def Kb{Nx:Lo->Gh Δ->Ω->Φ->Prop}(a:g.status=.running/\g.offers=none)(b:∀s,mv T s=[(T',s)])(h1:T.pc≠.la)(h2:T.pc≠.ur)(i:T'.pc≠.wk)(m:T'.pc≠.quit)(k:T.pc≠.us)(n:T.pc≠.d4)(hs:∀s,ShAt X w s->∃es w',stepG P (xQ r) g w=.go g' w' es/\ShAt X w' s/\ConcM.Eff X.Fd X.Wg w w'/\EvStop X T T' es/\aJ P (xQ r) (gG X (fK T'.pc) γ.ro) (eG Nx T' γ) γ.own g' w'):Law X P Nx r T γ g w:=by
 refine⟨a.1,a.2,λh=>h.elim (absurd · k) (absurd · n),λh=>absurd h h2,λs c _=>⟨λh=>(by rw[b]at h;cases h),λd hd _=>?_⟩⟩;have⟨es,w',e1,e2,l,j,f⟩:=hs s c;refine⟨(T',s),by rw[b];simp,λ_=>⟨λh=>absurd h i,g',w',es,e1,e2,l,j,?_⟩⟩;unfold After;rw[Γ m];have e:jQ X T.pc γ.own=γ.own:=by revert h1 h2;cases T.pc<;>simp[jQ]
 simp only[e,Γ h1];exact f
def dM{Nx:Lo->Gh Δ->Ω->Φ->Prop}(a:g.status=.running/\g.offers=none)(h1:T.pc≠.la)(h2:T.pc≠.ur)(k:T.pc≠.out)(o:T.pc=.us\/T.pc=.d4->mayWake P g=true)(p:∀s,ShAt X w s->s.fits->mv T s=[]->stepG P (xQ r) g w=.go {g with status:=.blocked} w #[])(hs:∀s,ShAt X w s->s.fits->mv T s≠[]->∃q∈mv T s,q.1.pc≠.bad->∃g' w' es,stepG P (xQ r) g w=.go g' w' es/\ShAt X w' q.2/\ConcM.Eff X.Fd X.Wg w w'/\EvStop X T q.1 es/\
   (if q.1.pc=.quit then ∃n,QuitsD P n 1 g' else aJ P (xQ r) (gG X (fK q.1.pc) γ.ro) (eG Nx q.1 γ) γ.own g' w')):Law X P Nx r T γ g w:=by
 refine⟨a.1,a.2,o,λh=>absurd h h2,λs c hf=>⟨p s c hf,λd hd i=>?_⟩⟩;have⟨q,j,b⟩:=hs s c hf i;refine⟨q,j,λf=>⟨λh=>?_,?_⟩⟩;exfalso;rcases(PF j).2.2.1 (by rw[h];rfl)with hp|⟨hp,_⟩;revert hp j k;have⟨pc,old,x,v,sv,it,n⟩:=T;have⟨q1,u⟩:=q;simp only at h;cases pc<;>simp[past]<;>simp only[mv]<;>(repeat' split)<;>simp<;>intros<;>simp_all
 exact k hp;have⟨g',w',es,e1,e2,t,m,l⟩:=b f;refine⟨g',w',es,e1,e2,t,m,?_⟩;unfold After;have e:jQ X T.pc γ.own=γ.own:=by revert h1 h2;cases T.pc<;>simp[jQ]
 simp only[e,Γ h1];exact l
end
abbrev PP:aa1:=Tryz.prog
abbrev U:Θ:=.tuple #[]
def pt(F:Nat):Θ:=.pointer (some ⟨F,0,none⟩)
def sQ(F:Nat):Θ:=.pointer (some ⟨F,1,none⟩)
def O(g:Ω):Ω:=Dp PP false 200 g
def On(n:Nat)(g:Ω):Ω:=Dp PP false n g
def tU(f:ac5):Code:=((PP.funcs[f]?).bind (·.body)).getD .skip
def Qm(f:ac5)(args:ϐ)(n:Nat)(fr:φ)(cs:Ϙ):Ω:=G ((base f).at ⟨args++Array.replicate n ϗ,[]⟩ [.code (tU f)]) (fr::cs)
def de(fr:φ)(cs:Ϙ)(v:Θ):Ω:={frame:=fr.finish v,callers:=cs,status:=.running,dying:=none}
def KM:Ext PP 168 Tryz.f168:=⟨func168,ϰ,ϰ,ϰ⟩
def MK:Extern.find Tryz.f168=some (λ_=>do mark .disable;pure Extern.Race.none_):=ϰ
def xEn:Ext PP 170 Tryz.f170:=⟨func170,ϰ,ϰ,ϰ⟩
def fEn:Extern.find Tryz.f170=some (λ_=>do mark .enable;pure Extern.Race.none_):=ϰ
def adH:Ext PP 171 Tryz.f171:=⟨func171,ϰ,ϰ,ϰ⟩
def ahS:Extern.find Tryz.f171=some (Extern.Race.marked .acquire):=ϰ
def xRm:Ext PP 193 Tryz.f193:=⟨func193,ϰ,ϰ,ϰ⟩
def fRm:Extern.find Tryz.f193=some (Extern.Race.marked .releaseMerge):=ϰ
def adG:Ext PP 217 Tryz.f217:=⟨func217,ϰ,ϰ,ϰ⟩
def ahR:Extern.find Tryz.f217=some (Extern.Atomic.casT (.int .i32)):=ϰ
def aj4:Ext PP 219 Tryz.f219:=⟨func219,ϰ,ϰ,ϰ⟩
def amm:Extern.find Tryz.f219=some (Extern.Atomic.update (Op.intArith .add) .i32 true):=ϰ
def Wd:Ext PP 221 Tryz.f221:=⟨func221,ϰ,ϰ,ϰ⟩
def Xc:Extern.find Tryz.f221=some Extern.Sync.canSpin:=ϰ
def xDo:Ext PP 222 Tryz.f222:=⟨func222,ϰ,ϰ,ϰ⟩
def fDo:Extern.find Tryz.f222=some (λ_=>pure (.tuple #[])):=ϰ
def Wh:Ext PP 224 Tryz.f224:=⟨func224,ϰ,ϰ,ϰ⟩
def Xe:Extern.find Tryz.f224=some Extern.OsHooks.nano:=ϰ
def Wy:Tryz.f224.norace=true:=ϰ
def adE:Ext PP 225 Tryz.f225:=⟨func225,ϰ,ϰ,ϰ⟩
def ahL:Extern.find Tryz.f225=some Extern.Sync.semacquire:=ϰ
def adF:Ext PP 227 Tryz.f227:=⟨func227,ϰ,ϰ,ϰ⟩
def ami:Extern.find Tryz.f227=some Extern.Sync.semrelease:=ϰ
section
variable (F:Nat)(fr:φ)(cs:List φ)
def gL0:Ω:=Qm 201 #[pt F] 5 fr cs
def W6:Ω:=O (gL0 F fr cs)
def Xa:Ω:=O (resume (W6 F fr cs) U)
def gE1:Ω:=O (resume (Xa F fr cs) (.bool true))
def Qj:Ω:=O (resume (gE1 F fr cs) U)
def gA1:Ω:=O (resume (Qj F fr cs) (pt F))
def UZ:Ω:=O (resume (Xa F fr cs) (.bool false))
def cS:List φ:=(UZ F fr cs).callers
end
def aef:List Item:=(On 5 (resume (UZ 0 default []) (.int .i32 0))).frame.todo
def gH(F:Nat)(fr:φ)(cs:Ϙ)(tm:ϐ):Ω:=G ((base 218).at ⟨tm,[]⟩ aef) (cS F fr cs)
def tm0(old:Int):Array Θ:=#[pt 0,U,.int .i64 0,.bool false,.bool false,.int .i64 0,.int .i32 old]++Array.replicate 132 U
def aeb:List Item:=(On 11 (resume (O (gH 0 default [] (tm0 0))) (.bool true))).frame.todo
def gR(F:Nat)(fr:φ)(cs:Ϙ)(tm:ϐ):Ω:=G ((base 218).at ⟨tm,[]⟩ aeb) (cS F fr cs)
def gq1:Ω:=O (resume (O (resume (O (gH 0 default [] (tm0 1))) (.bool false))) (.bool true))
def gq2:Ω:=O (resume gq1 (.int .i64 1))
def gq3:Ω:=O (resume gq2 U)
def aec:List Item:=(On 1 (resume gq2 U)).frame.todo
def gQ(F:Nat)(fr:φ)(cs:Ϙ)(tm:ϐ):Ω:=G ((base 218).at ⟨tm,[]⟩ aec) (cS F fr cs)
def aed:List Item:=(On 6 (resume gq3 (.int .i64 1))).frame.todo
def gN(F:Nat)(fr:φ)(cs:Ϙ)(tm:ϐ):Ω:=G ((base 218).at ⟨tm,[]⟩ aed) (cS F fr cs)
def Bf(g:Ω):θ:=match bm g with|some (.conv s ..)=>s|_=>0
def Cp(g:Ω):θ:=match bm g with|some (.conv _ d _)=>d|_=>0
def Cn(g:Ω):θ:=match PP.underlying (Bf g)with|some (.pointer t)=>t|_=>0
section
variable {Δ:Type}{X:Cx Δ}{r:bE}{k n:Nat}{T T':Lo}{γ:Gh Δ}{own:Nat->Prop}{g g':Ω}{w w':Φ}{es:Array Event}
def gl(n:Nat)(h:∀a:Nat->Φ,AD PP false n g a=some (Dp PP false n g,(range (cB PP false n g)).map a))(k:aJ PP false (gG X deaf ro) Stop own (Dp PP false n g) w):aJ PP false (gG X deaf ro) Stop own g w:=aI (ay.of n h) k
def tH{s:θ}{a:Addr}(h:bm g=some (.conv s d (.pointer (some a))))(h1:PP.underlying s=some (.pointer t))(h2:PP.underlying d=some .unsafePointer)(b:(PP.info? t).map (λi=>decide (i.size=0))=some false)(c:∀w₁,RX X ro own w w₁->∃v,w₁.cell? a=some v)(k:aJ PP false (gG X deaf ro) Stop own (resume g (.pointer (some a))) w):aJ PP false (gG X deaf ro) Stop own g w:=by
 refine aJ.step (dH h).1 λw₁ hr=>?_
 have⟨v,hv⟩:=c w₁ hr;have⟨es,e1,e2⟩:=ph (P:=PP) (main:=false) (w:=w₁) (w':=w₁) (x:=.pointer (some a)) h (by simp only[m6.sem,run_bind,run_convert_to_unsafe h1 h2 b hv];rfl);have f:es=#[]:=Array.eq_empty_iff_forall_not_mem.2 λe j=>by have:=e2 e j;simp only[m6.sem,Sem.events_bind,run_convert_to_unsafe h1 h2 b hv,events_convert_to_unsafe h1 h2 b hv]at this;simp at this
 subst f;refine⟨_,w₁,#[],e1,(kY deaf ro own w₁).1,?_⟩;have:=(kY (X:=X) deaf ro own w₁).2;rw[this];exact k.rely hr
end
def WH{ad:Addr}{k:IntKind}{v:Int}(h:bm g=some (.load t (.pointer (some ad))))(d:w.cell? ad=some (.int k v))(f:∀w,(Instr.loadAt t (.pointer (some ad))).run P w=(match w.cell? ad with|some x=>.ok x w|none=>(Instr.loadAt t (.pointer (some ad))).run P w))(q:∀w x,w.cell? ad=some x->(Instr.loadAt t (.pointer (some ad))).events P w #[]=#[⟨.cell ad,false,false⟩])(p:(P.funcs[g.frame.fn]?).any (·.norace)=true):
  stepG P main g w=.go (resume g (.int k v)) w #[]:=by
 obtain⟨b,a,ops,i,rest,m,cs,o,rfl,h2,j,n,r,e,l⟩:=oZ h;have hr:(execOp a.eval o).run P w=.ok (.value (.int k v)) w:=by rw[e];simp only[m6.sem,run_bind,f w,d];rfl
 have c:(execOp a.eval o).events P w #[]=#[⟨.cell ad,false,false⟩]:=by rw[e];simp only[m6.sem,Sem.events_bind,f w,d,q w _ d];simp
 rw[l,stepG_value h2 j n hr];have:listed P b.fn a o w=#[]:=by unfold listed;rw[c,seen_def,(show b.fn=(G (b.at a (.inRegion ops (i::rest)::m)) cs).frame.fn from rfl),p];simp[seenStep]
 rw[this]
section
variable {Δ:Type}{X:Cx Δ}{r:bE}{k:Nat}{T T':Lo}{γ:Gh Δ}{g g':Ω}{w w':Φ}
structure Room (X:Cx Δ)(γ:Gh Δ):Prop where
 ne:X.Fd≠X.Wg
 off:∀b,γ.own b\/γ.ro b->b≠X.Fd/\b≠X.Wg
abbrev RR (X:Cx Δ)(γ:Gh Δ)(w w':Φ):Prop:=RX X γ.ro γ.own w w'
def Room.rx(h:Room X γ){s:Sh}(e:ConcM.Eff X.Fd X.Wg w w')(hs:ShAt X w' s):RR X γ w w':=
 ⟨e.tape,e.output,al2 e.size.symm,e.os,λb _ a=>e.block b (h.off b a).1 (h.off b a).2,λ_=>⟨s,hs⟩⟩
abbrev LW (X:Cx Δ)(r:bE)(γ:Gh Δ)(k:Nat)(T:Lo)(g:Ω)(w:Φ):Prop:=aJ PP false (gG X (fK T.pc) γ.ro) (eG (KJ X PP k r) T γ) γ.own g w
def jw(h:∀k' w₁,k'<k->RR X γ w w₁->Law X PP (KJ X PP k' r) r T γ g w₁):LW X r γ k T g w:=by
 refine PT (Nx:=λk=>KJ X PP k r) (λT γ g w=>trivial) λk' w₁ e hr=>?_
 exact h k' w₁ ϖ hr
variable (hm:xQ r=false)(R:Room X γ)
include hm R
theorem D8{T1 T2:Lo}(c:T.pc=.c2\/T.pc=.l0\/T.pc=.uc){j:Int}(l:aN g=some (217,#[pt X.Fd,.int .i32 old,.int .i32 j]))(h1:∀s,s.mu=old->(T1,{s with mu:=j})∈mv T s)(h2:∀s,s.fits->s.mu≠old->∃q∈mv T s,q.1.pc=.bad\/q=(T2,s))(e1:j5 T T1=.book)(q1:T1.pc≠.quit)(e2:j5 T T2=.book)(t:T2.pc≠.quit)(m:∀k' w',k'<k->RR X γ w w'->LW X r γ k' T1 (resume g (.bool true)) w')(f:T2.pc≠.bad->∀k' w',k'<k->RR X γ w w'->LW X r γ k' T2 (resume g (.bool false)) w'):LW X r γ k T g w:=by
 refine jw λk' w₁ hk hr=>dM (bp l) ?_ ?_ ?_ ?_ ?_ ?_
 obtain h|h|h:=c<;>rw[h]<;>simp
 obtain h|h|h:=c<;>rw[h]<;>simp
 obtain h|h|h:=c<;>rw[h]<;>simp
 obtain h|h|h:=c<;>rw[h]<;>simp
 intro s _ hf n;exfalso;by_cases a:s.mu=old;have:=h1 s a;rw[n]at this;cases this;have⟨q,i,_⟩:=h2 s hf a;rw[n]at i;cases i;intro s b hf _;rw[hm];by_cases a:s.mu=old;have d:=b.setMu R.ne j;have o:=ConcM.Eff.set (w:=w₁) (Mu:=X.Fd) (Wg:=X.Wg) (mA X) (.int .i32 j) (.inl rfl);refine⟨_,h1 s a,λ_=>⟨_,_,_,pi adG .i32 ahR l (by rw[<-a];exact b.cMu) (b.thF 0),d,o,qZ okM e1,?_⟩⟩;rw[Γ q1];exact m k' _ hk (hr.trans X (R.rx o d));have⟨q,i,p⟩:=h2 s hf a;refine⟨q,i,λe=>?_⟩;obtain rfl:=p.resolve_left e;refine⟨_,_,_,nX adG .i32 ahR l b.cMu (b.thF 0) a,b,.refl _,Gw okM e2,?_⟩;rw[Γ t];exact f e k' _ hk hr
theorem tX{d:Int}(a:T.pc=.a1\/T.pc=.u0)(j:aN g=some (219,#[pt X.Fd,.int .i32 d]))(h1:∀s,s.fits->∃q∈mv T s,q.1.pc=.bad\/(q.2={s with mu:=IntKind.i32.wrap (s.mu+d)}/\j5 T q.1=.book/\q.1.pc≠.quit/\∀k' w',k'<k->RR X γ w w'->LW X r γ k' q.1 (resume g (.int .i32 (IntKind.i32.wrap (s.mu+d)))) w')):LW X r γ k T g w:=by
 refine jw λk' w₁ hk hr=>dM (bp j) ?_ ?_ ?_ ?_ ?_ ?_
 obtain h|h:=a<;>rw[h]<;>simp
 obtain h|h:=a<;>rw[h]<;>simp
 obtain h|h:=a<;>rw[h]<;>simp
 obtain h|h:=a<;>rw[h]<;>simp
 intro s _ hf l;have⟨q,e,_⟩:=h1 s hf;rw[l]at e;cases e;intro s c hf _;rw[hm];have⟨q,e,n⟩:=h1 s hf;refine⟨q,e,λf=>?_⟩;have⟨e1,e2,o,m⟩:=n.resolve_left f;have b:=c.setMu R.ne (IntKind.i32.wrap (s.mu+d));have i:=ConcM.Eff.set (w:=w₁) (Mu:=X.Fd) (Wg:=X.Wg) (mA X) (.int .i32 (IntKind.i32.wrap (s.mu+d))) (.inl rfl);refine⟨_,_,_,ug aj4 .i32 amm j c.cMu (c.thF 0),by rw[e1];exact b,i,qZ okM e2,?_⟩;rw[Γ o];exact m k' _ hk (hr.trans X (R.rx i b))
theorem D7(a:T.pc=.r0\/T.pc=.r1\/T.pc=.r2\/T.pc=.r3)(hv:bm g=some (.load 21 (pt X.Fd)))(c:(PP.funcs[g.frame.fn]?).any (·.norace)=true)(h1:∀s,s.fits->∃q∈mv T s,q.1.pc=.bad\/(q.2=s/\j5 T q.1=.book/\q.1.pc≠.quit/\∀k' w',k'<k->RR X γ w w'->LW X r γ k' q.1 (resume g (.int .i32 s.mu)) w')):LW X r γ k T g w:=by
 refine jw λk' w₁ hk hr=>dM (dH hv) ?_ ?_ ?_ ?_ ?_ ?_
 obtain h|h|h|h:=a<;>rw[h]<;>simp
 obtain h|h|h|h:=a<;>rw[h]<;>simp
 obtain h|h|h|h:=a<;>rw[h]<;>simp
 obtain h|h|h|h:=a<;>rw[h]<;>simp
 intro s _ hf j;have⟨q,c,_⟩:=h1 s hf;rw[j]at c;cases c
 .intro s b hf _;rw[hm];have⟨q,f,m⟩:=h1 s hf;refine⟨q,f,λd=>?_⟩;have⟨e1,e2,n,l⟩:=m.resolve_left d;refine⟨_,_,_,WH hv b.cMu ?_ ?_ c,by rw[e1];exact b,.refl _,z8 e2,?_⟩
  .intro w;cases e:w.cell? ⟨X.Fd,0,none⟩with|none=>simp[mA]|some x=>simp[go_sem,e,mA,pt]
  .intro w x i;simp[go_sem,i,mA,pt]
  rw[Γ n];exact l k' _ hk hr
theorem acO{T1:Lo}(a:T.pc=.s1)(i:aN g=some (225,#[sQ X.Fd,u,v]))(j:T1={T with pc:=if T.sv then .r2 else .t2})(go:∀k' w',k'<k->RR X γ w w'->LW X r γ k' T1 (resume g U) w'):LW X r γ k T g w:=by
 have e1:j5 T T1=.book:=by unfold j5;rw[a]
 have q1:T1.pc≠.quit:=by rw[j];dsimp only;split<;>simp
 refine jw λk' w₁ hk hr=>dM (bp i) ?_ ?_ ?_ ?_ ?_ ?_
 rw[a];simp;rw[a];simp;rw[a];simp;rw[a];simp;intro s b _ e;rw[hm];have:s.ms=0:=by unfold mv at e;rw[a]at e;by_cases h:s.ms=0;exact h;simp[h]at e
 exact K1 adE ahL i (by rw[<-this];exact b.cMs);intro s b hf f;rw[hm];have h0:s.ms≠0:=by intro h;apply f;unfold mv;rw[a];simp[h]
 have d:(T1,({s with ms:=s.ms-1}:Sh))∈mv T s:=by rw[j];unfold mv;rw[a];simp[h0]
 have c:=b.setMs R.ne (s.ms-1);have l:=ConcM.Eff.set (w:=w₁) (Mu:=X.Fd) (Wg:=X.Wg) (msA X) (.int .u32 (s.ms-1)) (.inl rfl);refine⟨_,d,λ_=>⟨_,_,_,Oc adE ahL i b.cMs h0 (b.thF 1),c,l,DR afw e1,?_⟩⟩;rw[Γ q1];exact go k' _ hk (hr.trans X (R.rx l c))
theorem RH{T1:Lo}(a:T.pc=.us)(f:aN g=some (227,#[sQ X.Fd,u,v]))(i:T1=at_ .ue T.n)(go:∀k' w',k'<k->RR X γ w w'->LW X r γ k' T1 (resume g U) w'):LW X r γ k T g w:=by
 have e1:j5 T T1=.book:=by unfold j5;rw[a]
 have q1:T1.pc≠.quit:=by rw[i];simp
 refine jw λk' w₁ hk hr=>dM (bp f) ?_ ?_ ?_ ?_ ?_ ?_
 rw[a];simp;rw[a];simp;rw[a];simp;exact λ_=>Em adF f
 intro s b _ e;unfold mv at e;rw[a]at e;simp at e;intro s b hf _;rw[hm];have l:IntKind.u32.wrap (s.ms+1)=s.ms+1:=by have:=hf.2.1;obtain h|h:=this<;>rw[h]<;>decide
 have d:(T1,({s with ms:=s.ms+1}:Sh))∈mv T s:=by rw[i];unfold mv;rw[a];simp
 have c:=b.setMs R.ne (s.ms+1);have j:=ConcM.Eff.set (w:=w₁) (Mu:=X.Fd) (Wg:=X.Wg) (msA X) (.int .u32 (s.ms+1)) (.inl rfl);refine⟨_,d,λ_=>⟨resume g U,w₁.setCell (msA X) (.int .u32 (s.ms+1)),_,by have:=Ez (P:=PP) (main:=false) (w:=w₁) adF ami f b.cMs (b.thF 1);rw[l]at this;exact this,c,j,DR afw e1,?_⟩⟩;rw[Γ q1];exact go k' _ hk (hr.trans X (R.rx j c))
theorem D6{T2:Lo}(a:T.pc=.sq){it:Int}(l:T.it=it)(j:aN g=some (221,#[.int .i64 it]))(h:∀k' w',k'<k->RR X γ w w'->LW X r γ k' (cl T) (resume g (.bool false)) w')(m:T2={T with pc:=.r1,old:=0,nw:=0})(e:∀k' w',k'<k->RR X γ w w'->LW X r γ k' T2 (resume g (.bool true)) w'):LW X r γ k T g w:=by
 have e1:j5 T (cl T)=.book:=by unfold j5;rw[a]
 have e2:j5 T T2=.book:=by unfold j5;rw[a]
 have q1:(cl T).pc≠.quit:=by rw[Ky];simp
 have p:T2.pc≠.quit:=by rw[m];simp
 have m1:∀s,(cl T,s)∈mv T s:=λs=>by unfold mv;rw[a];simp
 refine jw λk' w₁ hk hr=>dM (bp j) ?_ ?_ ?_ ?_ ?_ ?_
 rw[a];simp;rw[a];simp;rw[a];simp;rw[a];simp;intro s _ _ o;have:=m1 s;rw[o]at this;cases this;intro s d hf _;rw[hm];by_cases n:it<4;have i:=ConcM.Eff.asked (Mu:=X.Fd) (Wg:=X.Wg) w₁;have b:ShAt X w₁.asked s:=⟨d.1,d.2⟩
 have c:=KZ (P:=PP) (main:=false) (w:=w₁) Wd Xc j n;cases f:w₁.spins with
 |false=>rw[f]at c;refine⟨_,m1 s,λ_=>⟨_,_,_,c,b,i,z8 e1,?_⟩⟩;rw[Γ q1];exact h k' _ hk (hr.trans X (R.rx i b))
 |true=>
  rw[f]at c;have m2:(T2,s)∈mv T s:=by rw[m];unfold mv;rw[a];simp[l,n]
  refine⟨_,m2,λ_=>⟨_,_,_,c,b,i,z8 e2,?_⟩⟩;rw[Γ p];exact e k' _ hk (hr.trans X (R.rx i b))
 refine⟨_,m1 s,λ_=>⟨_,_,_,CN Wd Xc j ϖ,d,.refl _,z8 e1,?_⟩⟩;rw[Γ q1];exact h k' _ hk hr
theorem RJ(a:T.pc=.t2)(f:aN g=some (224,args))(next:Nat->Bool)(go:∀k' w' m,k'<k->RR X γ w w'->LW X r γ k' {T with pc:=.r2,sv:=if next m then true else T.sv} (resume g (.int .i64 (m:Int))) w'):LW X r γ k T g w:=by
 refine jw λk' w₁ hk hr=>dM (bp f) ?_ ?_ ?_ ?_ ?_ ?_
 rw[a];simp;rw[a];simp;rw[a];simp;rw[a];simp;intro s _ _ d;unfold mv at d;rw[a]at d;simp at d
 .intro s c hf _;rw[hm];have e:=ConcM.Eff.later (Mu:=X.Fd) (Wg:=X.Wg) w₁;have b:ShAt X w₁.later s:=⟨c.1,c.2⟩
  refine⟨({T with pc:=.r2,sv:=if next (w₁.os.mono+w₁.tick)then true else T.sv},s),?_,λ_=>⟨_,_,_,BD (P:=PP) (main:=false) (w:=w₁) Wh Xe Wy f,b,e,z8 (by unfold j5;rw[a]),?_⟩⟩
  .unfold mv;rw[a];cases next (w₁.os.mono+w₁.tick)<;>simp
  rw[Γ ϛ];exact go k' _ _ hk (hr.trans X (R.rx e b))
theorem yn{f:ac5}{fn:Func}{m:Mark}(n:Ext PP f fn)(c:∀g,m≠.extern g)(o:Extern.find fn=some λ_=>do mark m;pure Extern.Race.none_)(e:aN g=some (f,#[]))(a:∀s,mv T s=[(T',s)])(b:EvStop X T T' #[sW m])(h1:T.pc≠.la)(h2:T.pc≠.ur)(h:T'.pc≠.wk)(j:T'.pc≠.quit)(i:T.pc≠.us)(l:T.pc≠.d4)(go:∀k' w',k'<k->RR X γ w w'->LW X r γ k' T' (resume g U) w'):LW X r γ k T g w:=by
 refine jw λk' w₁ hk hr=>Kb (g':=resume g U) (bp e) a h1 h2 h j i l λs d=>?_
 rw[hm];exact⟨_,_,kb n m (hm:=c) o e,d,.refl _,b,go k' _ hk hr⟩
abbrev Taken (X:Cx Δ)(r:bE)(γ:Gh Δ)(n:Nat)(fr:φ)(cs:List φ)(w:Φ):Prop:=
 ∀k w' d o,RR X γ w w'->w'.heap[X.M]?=some o->Ec X r γ.mine d o->aJ PP false (gG X false γ.ro) (eG (KJ X PP k r) (at_ .ur n) {γ with own:=λb=>γ.own b\/b=X.M,other:=d}) (λb=>γ.own b\/b=X.M) (de fr cs U) w'
theorem V0(b:aN g=some (171,#[pt X.Fd]))(hg:ay PP false (resume g U) (de fr cs U))(go:Taken X r γ n fr cs w):LW X r γ k (at_ .la n) g w:=by
 refine jw λk' w₁ hk hr=>?_
 refine⟨(bp b).1,(bp b).2,ϛ,ϛ,λs a hf=>⟨by simp[mv],λd hd _=>?_⟩⟩;have⟨o,e,c⟩:=hd rfl;refine⟨(at_ .ur n,s),by simp[mv],λ_=>⟨ϛ,resume g U,w₁,#[sW (.acquire (mA X))],?_,a,.refl _,by simp[EvStop,j5],?_⟩⟩;rw[hm];exact ir adH .acquire ahS b;unfold After;rw[Γ ϛ,hm];have:=go k' w₁ d o hr e c;exact aI hg this
theorem GY{l j:Ω}(p:aN g=some (170,#[]))(a:ay PP false (resume g U) l){s:θ}(hv:bm l=some (.conv s d (pt X.Fd)))(hs:PP.underlying s=some (.pointer t))(hd:PP.underlying d=some .unsafePointer)(q:(PP.info? t).map (λi=>decide (i.size=0))=some false)(c:ay PP false (resume l (pt X.Fd)) j)(e:aN j=some (171,#[pt X.Fd]))(f:ay PP false (resume j U) (de fr cs U))(live:∃s,ShAt X w s)(go:Taken X r γ n fr cs w):LW X r γ k (at_ .le n) g w:=by
 refine yn hm R (T':=at_ .la n) (m:=.enable) xEn ϛ fEn p (by simp[mv]) (by simp[EvStop,j5]) ϛ ϛ ϛ ϛ ϛ ϛ λk' w' hk hr=>?_
 refine aI a (tH hv hs hd q (λw₁ h=>?_) (aI c ?_));have⟨s,hs⟩:=(hr.trans X h).live live;exact⟨_,hs.cMu⟩;exact V0 hm R e f λk w1 d o b=>go k w1 d o (hr.trans X b)
end
section
variable (F:Nat)(fr:φ)(cs:List φ)
def lD1:aN (W6 F fr cs)=some (168,#[]):=ϰ
def lL0(a:ϭ):AD PP false 200 (gL0 F fr cs) a=some (W6 F fr cs,(range (cB PP false 200 (gL0 F fr cs))).map a):=ϰ
def ak1(a:ϭ):AD PP false 200 (resume (W6 F fr cs) U) a=some (Xa F fr cs,(range (cB PP false 200 (resume (W6 F fr cs) U))).map a):=ϰ
def lC1:aN (Xa F fr cs)=some (217,#[pt F,.int .i32 0,.int .i32 1]):=ϰ
def ak4(a:ϭ):AD PP false 200 (resume (Xa F fr cs) (.bool true)) a=some (gE1 F fr cs,(range (cB PP false 200 (resume (Xa F fr cs) (.bool true)))).map a):=ϰ
def lE1:aN (gE1 F fr cs)=some (170,#[]):=ϰ
def ak0(a:ϭ):AD PP false 200 (resume (gE1 F fr cs) U) a=some (Qj F fr cs,(range (cB PP false 200 (resume (gE1 F fr cs) U))).map a):=ϰ
def lV1:bm (Qj F fr cs)=some (.conv (Bf (Qj 0 default [])) (Cp (Qj 0 default [])) (pt F)):=ϰ
def akW:PP.underlying (Bf (Qj 0 default []))=some (.pointer (Cn (Qj 0 default []))):=ϰ
def akX:PP.underlying (Cp (Qj 0 default []))=some .unsafePointer:=ϰ
def akV:(PP.info? (Cn (Qj 0 default []))).map (λi=>decide (i.size=0))=some false:=ϰ
def akY(a:ϭ):AD PP false 200 (resume (Qj F fr cs) (pt F)) a=some (gA1 F fr cs,(range (cB PP false 200 (resume (Qj F fr cs) (pt F)))).map a):=ϰ
def lA1:aN (gA1 F fr cs)=some (171,#[pt F]):=ϰ
def ak5(a:ϭ):AD PP false 6 (resume (gA1 F fr cs) U) a=some (de fr cs U,(range (cB PP false 6 (resume (gA1 F fr cs) U))).map a):=ϰ
def ak3(a:ϭ):AD PP false 200 (resume (Xa F fr cs) (.bool false)) a=some (UZ F fr cs,(range (cB PP false 200 (resume (Xa F fr cs) (.bool false)))).map a):=ϰ
def lS0:bm (UZ F fr cs)=some (.load 21 (pt F)):=ϰ
def akZ:(PP.funcs[(UZ F fr cs).frame.fn]?).any (·.norace)=true:=ϰ
end
def SD(F aW:Nat)(sv a:Bool)(it old:Int)(y:Ϡ):Array Θ:=(pt F::y 1::.int .i64 (aW:Int)::.bool sv::.bool a::.int .i64 it::.int .i32 old::rl y 7 132 []).toArray
def R9(F aW:Nat)(sv:Bool)(y:Ϡ):Array Θ:=(pt F::y 1::.int .i64 (aW:Int)::.bool sv::rl y 4 135 []).toArray
def Wn(F:Nat)(y:Ϡ):Array Θ:=(pt F::rl y 1 138 []).toArray
structure HH (F aW:Nat)(sv aw:Bool)(it old:Int)(tm:Array Θ):Prop where
 size:tm.size=139
 s0:tm[0]?=some (pt F)
 s2:tm[2]?=some (.int .i64 (aW:Int))
 s3:tm[3]?=some (.bool sv)
 s4:tm[4]?=some (.bool aw)
 s5:tm[5]?=some (.int .i64 it)
 s6:tm[6]?=some (.int .i32 old)
structure HQ (F aW:Nat)(sv:Bool)(tm:Array Θ):Prop where
 size:tm.size=139
 s0:tm[0]?=some (pt F)
 s2:tm[2]?=some (.int .i64 (aW:Int))
 s3:tm[3]?=some (.bool sv)
structure HR (F:Nat)(tm:Array Θ):Prop where
 size:tm.size=139
 s0:tm[0]?=some (pt F)
def cI(h:tm[i]?=some v):tm.getD i ϗ=v:=by simp[ag1,h]
def HH.eq{F:Nat}{sv a:Bool}{it:Int}(h:HH F aW sv a it old tm):tm=SD F aW sv a it old λi=>tm.getD i ϗ:=by
 have h1:=slots tm h.size;simp only[rl]at h1;rw[cI h.s0,cI h.s2,cI h.s3,cI h.s4,cI h.s5,cI h.s6]at h1;exact h1
def HQ.eq{F:Nat}{sv:Bool}(h:HQ F aW sv tm):tm=R9 F aW sv λi=>tm.getD i ϗ:=by
 have h1:=slots tm h.size;simp only[rl]at h1;rw[cI h.s0,cI h.s2,cI h.s3]at h1;exact h1
def HR.eq{F:Nat}(h:HR F tm):tm=Wn F λi=>tm.getD i ϗ:=by
 have h1:=slots tm h.size;simp only[rl]at h1;rw[cI h.s0]at h1;exact h1
def aZ{g':Ω}(n m:Nat)(h:∀a:Nat->Φ,AD PP false n g a=some (g',(range m).map a)):ay PP false g g':=⟨n,m,h⟩
def aV(h:∀a:Nat->Φ,AD PP false 200 g a=some (O g,(range (cB PP false 200 g)).map a)):ay PP false g (O g):=⟨200,_,h⟩
section
variable (F:Nat)(fr:φ)(cs:List φ)(aW:Nat)(it v:Int)(y:Nat->Θ)
def ae3:∃tm,HH F 0 false false 0 v tm/\ay PP false (resume (UZ F fr cs) (.int .i32 v)) (gH F fr cs tm):=
 ⟨(On 5 (resume (UZ F fr cs) (.int .i32 v))).frame.tmps,⟨ϰ,ϰ,ϰ,ϰ,ϰ,ϰ,ϰ⟩,aZ 5 (cB PP false 5 (resume (UZ F fr cs) (.int .i32 v))) λa=>ϰ⟩
end
section
variable (F:Nat)(fr:φ)(cs:List φ)(aW:Nat)(it v:Int)(y:Nat->Θ)
def h0:Ω:=gH F fr cs (SD F aW false false it 0 y)
def b0:Ω:=O (h0 F fr cs aW it y)
def ahe:ay PP false (h0 F fr cs aW it y) (b0 F fr cs aW it y):=aV λa=>ϰ
abbrev c0:Ω:=b0 F fr cs aW it y
def acK:aN (c0 F fr cs aW it y)=some (217,#[pt F,.int .i32 0,.int .i32 1]):=ϰ
def m0:Ω:=O (resume (c0 F fr cs aW it y) (.bool false))
def VS:ay PP false (resume (c0 F fr cs aW it y) (.bool false)) (m0 F fr cs aW it y):=aV λa=>ϰ
def afR:bm (m0 F fr cs aW it y)=some (.load 21 (pt F)):=ϰ
def aac:(PP.funcs[(m0 F fr cs aW it y).frame.fn]?).any (·.norace)=true:=ϰ
def afS:∃tm,HH F aW false false it v tm/\ay PP false (resume (m0 F fr cs aW it y) (.int .i32 v)) (gH F fr cs tm):=
 ⟨(On 4 (resume (m0 F fr cs aW it y) (.int .i32 v))).frame.tmps,⟨ϰ,ϰ,ϰ,ϰ,ϰ,ϰ,ϰ⟩,aZ 4 (cB PP false 4 (resume (m0 F fr cs aW it y) (.int .i32 v))) λa=>ϰ⟩
def acJ:∃tm,HR F tm/\ay PP false (resume (c0 F fr cs aW it y) (.bool true)) (gR F fr cs tm):=
 ⟨(On 11 (resume (c0 F fr cs aW it y) (.bool true))).frame.tmps,⟨ϰ,ϰ⟩,aZ 11 (cB PP false 11 (resume (c0 F fr cs aW it y) (.bool true))) λa=>ϰ⟩
end
section
variable (F:Nat)(fr:φ)(cs:List φ)(aW:Nat)(it v:Int)(y:Nat->Θ)
def h1:Ω:=gH F fr cs (SD F aW false false it 1 y)
def b1:Ω:=O (h1 F fr cs aW it y)
def ahd:ay PP false (h1 F fr cs aW it y) (b1 F fr cs aW it y):=aV λa=>ϰ
def aie:aN (b1 F fr cs aW it y)=some (221,#[.int .i64 it]):=ϰ
def c1:Ω:=O (resume (b1 F fr cs aW it y) (.bool false))
def aif:ay PP false (resume (b1 F fr cs aW it y) (.bool false)) (c1 F fr cs aW it y):=aV λa=>ϰ
def d1:Ω:=O (resume (b1 F fr cs aW it y) (.bool true))
def acN:ay PP false (resume (b1 F fr cs aW it y) (.bool true)) (d1 F fr cs aW it y):=aV λa=>ϰ
def ah4:aN (d1 F fr cs aW it y)=some (222,#[]):=ϰ
def e1:Ω:=O (resume (d1 F fr cs aW it y) U)
def ah3:ay PP false (resume (d1 F fr cs aW it y) U) (e1 F fr cs aW it y):=aV λa=>ϰ
def ah1:bm (e1 F fr cs aW it y)=some (.load 21 (pt F)):=ϰ
def acs:(PP.funcs[(e1 F fr cs aW it y).frame.fn]?).any (·.norace)=true:=ϰ
def ah2:∃tm,HH F aW false false (IntKind.i64.wrap (it+1)) v tm/\ay PP false (resume (e1 F fr cs aW it y) (.int .i32 v)) (gH F fr cs tm):=
 ⟨(On 4 (resume (e1 F fr cs aW it y) (.int .i32 v))).frame.tmps,⟨ϰ,ϰ,ϰ,ϰ,ϰ,ϰ,ϰ⟩,aZ 4 (cB PP false 4 (resume (e1 F fr cs aW it y) (.int .i32 v))) λa=>ϰ⟩
def acI:aN (c1 F fr cs aW it y)=some (217,#[pt F,.int .i32 1,.int .i32 9]):=ϰ
def m1:Ω:=O (resume (c1 F fr cs aW it y) (.bool false))
def VO:ay PP false (resume (c1 F fr cs aW it y) (.bool false)) (m1 F fr cs aW it y):=aV λa=>ϰ
def afP:bm (m1 F fr cs aW it y)=some (.load 21 (pt F)):=ϰ
def Z9:(PP.funcs[(m1 F fr cs aW it y).frame.fn]?).any (·.norace)=true:=ϰ
def afQ:∃tm,HH F aW false false it v tm/\ay PP false (resume (m1 F fr cs aW it y) (.int .i32 v)) (gH F fr cs tm):=
 ⟨(On 4 (resume (m1 F fr cs aW it y) (.int .i32 v))).frame.tmps,⟨ϰ,ϰ,ϰ,ϰ,ϰ,ϰ,ϰ⟩,aZ 4 (cB PP false 4 (resume (m1 F fr cs aW it y) (.int .i32 v))) λa=>ϰ⟩
def n1:Ω:=O (resume (c1 F fr cs 0 it y) (.bool true))
def VQ:ay PP false (resume (c1 F fr cs 0 it y) (.bool true)) (n1 F fr cs it y):=aV λa=>ϰ
def Ua:aN (n1 F fr cs it y)=some (224,#[]):=ϰ
def p1:Ω:=O (resume (n1 F fr cs it y) (.int .i64 (aW:Int)))
def afK:ay PP false (resume (n1 F fr cs it y) (.int .i64 (aW:Int))) (p1 F fr cs aW it y):=aV λa=>ϰ
def ZK:aN (p1 F fr cs aW it y)=some (225,#[sQ F,.bool false,.int .i64 2]):=ϰ
def afe:∃tm,HQ F aW false tm/\ay PP false (resume (p1 F fr cs aW it y) U) (gQ F fr cs tm):=
 ⟨(On 1 (resume (p1 F fr cs aW it y) U)).frame.tmps,⟨ϰ,ϰ,ϰ,ϰ⟩,aZ 1 (cB PP false 1 (resume (p1 F fr cs aW it y) U)) λa=>ϰ⟩
def q1:Ω:=O (resume (c1 F fr cs (aW+1) it y) (.bool true))
def VP:ay PP false (resume (c1 F fr cs (aW+1) it y) (.bool true)) (q1 F fr cs aW it y):=aV λa=>ϰ
def ZC:aN (q1 F fr cs aW it y)=some (225,#[sQ F,.bool true,.int .i64 2]):=ϰ
def afa:∃tm,HQ F (aW+1) false tm/\ay PP false (resume (q1 F fr cs aW it y) U) (gQ F fr cs tm):=
 ⟨(On 1 (resume (q1 F fr cs aW it y) U)).frame.tmps,⟨ϰ,ϰ,ϰ,ϰ⟩,aZ 1 (cB PP false 1 (resume (q1 F fr cs aW it y) U)) λa=>ϰ⟩
end
section
variable (F:Nat)(fr:φ)(cs:List φ)(aW:Nat)(it v:Int)(y:Nat->Θ)
def h2:Ω:=gH F fr cs (SD F aW false false it 2 y)
def b2:Ω:=O (h2 F fr cs aW it y)
def ahb:ay PP false (h2 F fr cs aW it y) (b2 F fr cs aW it y):=aV λa=>ϰ
abbrev c2:Ω:=b2 F fr cs aW it y
def acH:aN (c2 F fr cs aW it y)=some (217,#[pt F,.int .i32 2,.int .i32 3]):=ϰ
def m2:Ω:=O (resume (c2 F fr cs aW it y) (.bool false))
def VN:ay PP false (resume (c2 F fr cs aW it y) (.bool false)) (m2 F fr cs aW it y):=aV λa=>ϰ
def afN:bm (m2 F fr cs aW it y)=some (.load 21 (pt F)):=ϰ
def Z8:(PP.funcs[(m2 F fr cs aW it y).frame.fn]?).any (·.norace)=true:=ϰ
def afO:∃tm,HH F aW false false it v tm/\ay PP false (resume (m2 F fr cs aW it y) (.int .i32 v)) (gH F fr cs tm):=
 ⟨(On 4 (resume (m2 F fr cs aW it y) (.int .i32 v))).frame.tmps,⟨ϰ,ϰ,ϰ,ϰ,ϰ,ϰ,ϰ⟩,aZ 4 (cB PP false 4 (resume (m2 F fr cs aW it y) (.int .i32 v))) λa=>ϰ⟩
def acG:∃tm,HR F tm/\ay PP false (resume (c2 F fr cs aW it y) (.bool true)) (gR F fr cs tm):=
 ⟨(On 11 (resume (c2 F fr cs aW it y) (.bool true))).frame.tmps,⟨ϰ,ϰ⟩,aZ 11 (cB PP false 11 (resume (c2 F fr cs aW it y) (.bool true))) λa=>ϰ⟩
end
section
variable (F:Nat)(fr:φ)(cs:List φ)(aW:Nat)(it v:Int)(y:Nat->Θ)
def h2a:Ω:=gH F fr cs (SD F aW false true it 2 y)
def b2a:Ω:=O (h2a F fr cs aW it y)
def abl:ay PP false (h2a F fr cs aW it y) (b2a F fr cs aW it y):=aV λa=>ϰ
abbrev Xo:Ω:=b2a F fr cs aW it y
def VM:aN (Xo F fr cs aW it y)=some (217,#[pt F,.int .i32 2,.int .i32 1]):=ϰ
def m2a:Ω:=O (resume (Xo F fr cs aW it y) (.bool false))
def Rx:ay PP false (resume (Xo F fr cs aW it y) (.bool false)) (m2a F fr cs aW it y):=aV λa=>ϰ
def Z6:bm (m2a F fr cs aW it y)=some (.load 21 (pt F)):=ϰ
def Uj:(PP.funcs[(m2a F fr cs aW it y).frame.fn]?).any (·.norace)=true:=ϰ
def Z7:∃tm,HH F aW false true it v tm/\ay PP false (resume (m2a F fr cs aW it y) (.int .i32 v)) (gH F fr cs tm):=
 ⟨(On 4 (resume (m2a F fr cs aW it y) (.int .i32 v))).frame.tmps,⟨ϰ,ϰ,ϰ,ϰ,ϰ,ϰ,ϰ⟩,aZ 4 (cB PP false 4 (resume (m2a F fr cs aW it y) (.int .i32 v))) λa=>ϰ⟩
def VL:∃tm,HR F tm/\ay PP false (resume (Xo F fr cs aW it y) (.bool true)) (gR F fr cs tm):=
 ⟨(On 11 (resume (Xo F fr cs aW it y) (.bool true))).frame.tmps,⟨ϰ,ϰ⟩,aZ 11 (cB PP false 11 (resume (Xo F fr cs aW it y) (.bool true))) λa=>ϰ⟩
end
end gz
end
end
end Go.Proofs.YtchcmhodnkgojaaGreat
