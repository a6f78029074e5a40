/- On the way to the last text; put together and shortened by program. -/
import Derived.Test.YtchcmhodnkgojaaGreatPart10
set_option linter.all false
set_option maxRecDepth 100000
set_option maxHeartbeats 8000000
open Go.Proofs.Tryz
namespace Go.Proofs.YtchcmhodnkgojaaGreat
noncomputable section
section
open Go.RowKit Go.Lib Go.Sort
def j9 (F:ϑ)(s d n:Nat)(x:DS)(wL:Ω)(e:Int)(w':Ω):Prop:=
 (x4 x n≠0/\e=x4 x n/\aE w' F s d n x/\cX [] wL w')\/
 (x4 x n=0/\∃a b,vv x n a/\aE w' b s d n (x.sU n (fM x n a)).1/\bC F b wL/\cX F wL w'/\(x.sU n (fM x n a)).2= .int .i64 e)
def sV.cases {F:ϑ}{s d n:Nat}{x:DS}{wL w':Ω}{v:Φ}(h:sV F s d n x wL v w'):∃(c0 c1:Φ)(e:Int),v= .tuple #[.agg #[c0,c1],.int .i64 e]/\c0.oneCell'=true/\c1.oneCell'=true/\j9 F s d n x wL e w':=by
 rcases h with⟨h1,rfl,h2,h3⟩|⟨h1,ps,F',h2,h3,h4,h5,⟨cv,h6,rfl,h7,_⟩|⟨e,h6,h7,rfl⟩⟩
 .exact⟨_,_,_,rfl,rfl,rfl,.inl ⟨h1,rfl,h2,h3⟩⟩
 .have⟨ad,cap,hv⟩:=ce h7
  subst hv;exact⟨_,_,_,rfl,rfl,rfl,.inr ⟨h1,ps,F',h2,h3,h4,h5,h6⟩⟩
 .exact⟨_,_,_,rfl,rfl,rfl,.inr ⟨h1,ps,F',h2,h3,h4,h5,h7⟩⟩
def j9.grow {F:ϑ}{s d n:Nat}{x:DS}{wA wL w w':Ω}{e:Int}(h:j9 F s d n x wL e w)(a:cX [] wA wL)(f:aQ [] w w'):j9 F s d n x wA e w':=by
 rcases h with⟨h1,h2,h3,h4⟩|⟨h1,ps,F',h2,h3,h4,h5,h6⟩
 .exact .inl ⟨h1,h2,h3.new f,(a.trans h4).trans f.blk⟩
 .exact .inr ⟨h1,ps,F',h2,h3.new f,(bC.refl F wA).trans h4 a.size,((a.mono).trans h5 (λi b=> .inl b)).trans f.blk,h6⟩
def j9.ax {F:ϑ}{s d n:Nat}{x:DS}{wL w:Ω}{e:Int}(h:j9 F s d n x wL e w)(t:Go.Proofs.YtchcmhodnkgojaaGreat.eL)(k:Nat):j9 F s d n x wL e (ax w t k):=by
 rcases h with⟨h1,h2,h3,h4⟩|⟨h1,ps,F',h2,h3,h4,h5,h6⟩
 .exact .inl ⟨h1,h2,h3.ax t k,h4.tape t k⟩
 .exact .inr ⟨h1,ps,F',h2,h3.ax t k,h4,h5.tape t k,h6⟩
def VU (F:ϑ)(s d n:Nat)(x:DS)(k b pt:Int)(a:Ξ)(wL:Ω)(v:Φ)(w':Ω):Prop:=
 (bH k 4≠3/\v=(x.act n k b pt a).2/\∃c,aE w' c s d n (x.act n k b pt a).1/\bC F c wL/\cX F wL w')\/
 (bH k 4=3/\∃e:Int,v= .int .i64 e/\j9 F s d n x wL e w')
def KT {F f:ϑ}{s d n:Nat}{x:DS}{k l pt:Int}{j:Ξ}{wL b a:Ω}{y:DS×Φ}{c:ϐ}(ha:x.act n k l pt j=y)(q:bH k 4≠3)(e:aE a f s d n y.1)(gw:bC F f b)(g:aQ F b a)(h:cX [] wL b)(o:c.getD 4 ϗ=y.2:=by rfl):∃t p,af.WN Tryz.f17 (VU F s d n x k l pt j wL) {tmps:=c,defers:=[]} (ax a t p):=
 ⟨a.tape,a.drawn,y.2,by rw[<-o];exact results_tmp rfl ..,.inl ⟨q,by rw[ha],f,by rw[ha];exact e,(bC.refl F wL).trans gw h.size,(h.mono).trans g.blk (λi m=> .inl m)⟩⟩
open aI aI.Sq in
def acf {E:af.Env}{wL:Ω}{F:ϑ}{s d n:Nat}{x:DS}(k f pt:Int)(j:Ξ)(h:aE wL F s d n x)(hG:pJ wL)(h0:0∉F)(V:x.Fit 5)(iA:x.waiting.length<55)(N:bH k 4=3->AG x n)
  (ao:-9223372036854775808<=k) (ag:k<=9223372036854775807) (O:-9223372036854775808<=f) (M:f<=9223372036854775807) (ac:-9223372036854775808<=pt) (S:pt<=9223372036854775807):
  af.CC E 17 #[.pointer (some ⟨s,0,none⟩),.agg (fJ k f pt j)] (VU F s d n x k f pt j wL) wL:=by
 have ab:=zA (bH pt 7) (mj pt 7);have ae:=Br j;have ar:=mj f 2;have HD:Hid (x.act n k f pt j=if bH k 4=2 then x.gh n (bH f 2) (d7 (bH pt 7)) else x.tb n (bH f 2) (d7 (bH pt 7)) (dR j)):=rfl;refine af.oD func17 rfl ?_;refine af.fU ?_
 refine ww {tmps:=#[.pointer (some ⟨s,0,none⟩),.agg (fJ k f pt j),ϗ,ϗ,ϗ,ϗ,ϗ,ϗ,ϗ,ϗ,ϗ,ϗ,ϗ,ϗ,ϗ,ϗ,ϗ,ϗ,ϗ,ϗ,ϗ,ϗ,ϗ,ϗ,ϗ,ϗ,ϗ,ϗ,ϗ,ϗ,ϗ,ϗ,ϗ,ϗ,ϗ,ϗ,ϗ,ϗ,ϗ],defers:=[]} ϰ ?_
 refine af.ij none ⟨_,func17⟩ (λw=>aE w F s d n x/\cX [] wL w) (λw t k h=>⟨h.1.ax t k,h.2.tape t k⟩) ⟨h,cX.refl ..⟩ λw A g=>?_
 have⟨q,p⟩:=A;go_wp2_with (with_reducible refine bA rfl ?_);refine eQ rfl 24 _ rfl (.agg (fJ k f pt j)) rfl ?_;intro w1 r l3 D r3;have X:=q.new D;have U:=p.trans D.blk;have c:Row w1 r (fJ k f pt j) 24:=r3;clear r3 q p D l3 g h;go_wp2_with fail;refine af.fU (af.fU ?_)
 refine af.ij none ⟨_,func17⟩ (λw=>aE w F s d n x/\cX [] wL w/\Row w r (fJ k f pt j) 24) (λw t k h=>⟨h.1.ax t k,h.2.1.tape t k,h.2.2⟩) ⟨X,U,c⟩ λu A g=>?_
 clear X U c g;have⟨q,p,c⟩:=A;have c0:u.cell? ⟨r,0,none⟩=some (.int .i64 k):=by rw[c.cell];rfl
 go_wp2_with fail;refine(od k 4 u ao ag).mono ?_;rintro e w3 ⟨rfl,rfl⟩;clear c0;go_wp2_with fail;refine af.Rc (af.fU ?_)
 by_cases h2:bH k 4=2
 .have J:bH k 4≠3:=ϖ
  have HA:Hid (x.act n k f pt j=x.gh n (bH f 2) (d7 (bH pt 7))):=by show _=_;rw[HD.out,φ h2]
  rw[h2];clear HD;refine af.ij none ⟨_,func17⟩ (λw=>aE w F s d n x/\cX [] wL w/\Row w r (fJ k f pt j) 24) (λw t k h=>⟨h.1.ax t k,h.2.1.tape t k,h.2.2⟩) ⟨q,p,c⟩ λw4 A g=>?_
  clear q p c g;have⟨q,p,c⟩:=A;go_wp2_with fail;refine af.yz (b:=true) rfl ?_;rw[φ rfl];refine af.ij none ⟨_,func17⟩ (λw=>aE w F s d n x/\cX [] wL w/\Row w r (fJ k f pt j) 24) (λw t k h=>⟨h.1.ax t k,h.2.1.tape t k,h.2.2⟩) ⟨q,p,c⟩ λu A g=>?_
  clear q p c g;have⟨h1,p,c⟩:=A;have D:aQ [] u u:=aQ.refl ..;go_wp2_with fail;refine iq 9 rfl ?_;have G:aQ [] u u.drew:=aQ.drew ..;have L:=h1.new G;have r5:=G.row c;have K:=D.trans G;generalize u.drew=o at L r5 K;have c1:o.cell? ⟨r,1,none⟩=some (.int .i64 f):=by rw[r5.cell];rfl
  have c2:o.cell? ⟨r,2,none⟩=some (.int .i64 pt):=by rw[r5.cell];rfl
  have c3:o.cell? ⟨r,3,none⟩=some (.string j):=by rw[r5.cell];rfl
  clear G h1 c D r5 h2;refine vu ?_;refine fh 0 (some 12) rfl rfl (λ_ _ _ h=>h) rfl (v:=(.pointer (some ⟨s,0,none⟩))) (λ_=>rfl) ?_;refine fh 1 (some 13) rfl rfl (λ_ _ _ h=>h) rfl (v:=(.pointer (some ⟨r,1,none⟩))) (λ_=>by go_simp) ?_
  refine fh 4 (some 16) rfl rfl (λ_ _ _ h=>h) rfl (v:=(.pointer (some ⟨r,2,none⟩))) (λ_=>by go_simp) ?_;simp only[Act.put,co,cq,ck]
  refine Eb (m:=2) (Y:=Unit) [6,5,4,3,2,1,0] (λ_=>True) (λ_ a=>((((a.put (some 14) (.int .i64 f)).put (some 17) (.int .i64 pt)).put (some 15) (.int .i64 (bH f 2:Nat))).put (some 18) (.string (d7 (bH pt 7))))) (λ_=>o) ?_ ?_
  .intro _ _
   simp only[Act.put,co,cq,ck];refine eE 7 (nV 7 rfl rfl (some 19) rfl 42 #[.pointer (some ⟨s,0,none⟩),.int .i64 (bH f 2:Nat),.string (d7 (bH pt 7))] (by go_simp) _ (tX F s d n x (bH f 2) (d7 (bH pt 7)) o L ⟨V.lD,by have:=V.lC;omega,V.lB,V.lA⟩ ϖ ϖ ab.1 ϖ) ?_)
   rintro e R ⟨rfl,⟨Fe,H,Z⟩,P⟩;refine⟨_,rfl,?_⟩;have I:aQ F u R:=(K.mono (T:=F) ϛ).trans P (λi hi=> .inl hi);have gw:=(bC.refl F u).trans Z K.size;clear c1 c2 c3 L P Z;generalize B:x.gh n (bH f 2) (d7 (bH pt 7))=y at*;have ak:Hid (x.gh n (bH f 2) (d7 (bH pt 7))=y):=B;clear B;simp only[Act.put,co,cq,ck]
   refine eE 8 (il 8 rfl rfl (some 4) rfl y.2 R rfl ?_);refine vr ?_;simp only[Act.put,co,cq,ck];go_wp2;exact KT HA.out J H gw I p
  intro Q;have z:=λl hl=>Q () l hl trivial
  simp only[Act.put,co,cq,ck] at z;clear Q
  repeat' first
   |((
     first
     |refine ly 2 5 (by decide+kernel) ?_ ?_
     |refine ly 3 5 (by decide+kernel) ?_ ?_
     |refine eE 2 (hr:=(by decide+kernel)) ?_
     |refine eE 3 (hr:=(by decide+kernel)) ?_
     |refine eE 5 (hr:=(by decide+kernel)) ?_
     |refine eE 6 (hr:=(by decide+kernel)) ?_)<;>first
     |(show Step _ _ _ _ _ _ 2 _ _;refine il 2 rfl rfl (some 14) rfl (.int .i64 f) o (by go_simp) ?_;simp only[Act.put,co,cq,ck])
     |(show Step _ _ _ _ _ _ 3 _ _;refine p8 3 rfl rfl (some 15) rfl 19 #[.int .i64 f,.int .i64 2] (by go_simp) (od f 2 o O M) ?_;simp only[Act.put,co,cq,ck])
     |(show Step _ _ _ _ _ _ 5 _ _;refine il 5 rfl rfl (some 17) rfl (.int .i64 pt) o (by go_simp) ?_;simp only[Act.put,co,cq,ck])
     |(show Step _ _ _ _ _ _ 6 _ _;refine p8 6 rfl rfl (some 18) rfl 41 #[.int .i64 pt] (by go_simp) (zz pt o ac S) ?_;simp only[Act.put,co,cq,ck]))
   |exact z _ ϰ
 .have an:(((bH k 4:Nat):Int)==2)=false:=by rw[ac3];omega
  refine af.ij none ⟨_,func17⟩ (λw=>aE w F s d n x/\cX [] wL w/\Row w r (fJ k f pt j) 24) (λw t k h=>⟨h.1.ax t k,h.2.1.tape t k,h.2.2⟩) ⟨q,p,c⟩ λw4 A g=>?_
  clear q p c g;have⟨q,p,c⟩:=A;go_wp2_with fail;refine af.yz (b:=false) rfl ?_;rw[ζ ϛ];refine af.fU ?_
  by_cases J:bH k 4=3
  .rw[J]
   refine af.ij none ⟨_,func17⟩ (λw=>aE w F s d n x/\cX [] wL w) (λw t k h=>⟨h.1.ax t k,h.2.tape t k⟩) ⟨q,p⟩ λo A g=>?_
   clear q p c g;have⟨q,p⟩:=A;go_wp2_with fail;refine af.yz (b:=true) rfl ?_;rw[φ rfl];refine af.fU (af.e9 (gZ _ rfl (.inr rfl) rfl ?_))
   refine mJ (f2:=31) #[.tmp 23] #[.pointer (some ⟨s,0,none⟩)] (R2:=sV F s d n x o) rfl rfl ϰ (λb w=>ϰ) ϰ (vn q (hG.blk p ϛ) h0 (N J)) λv w6 hR _=>?_
   obtain⟨W,q1,e,rfl,o0,o1,hE⟩:=hR.cases;refine gZ _ rfl (.inr rfl) rfl (pC (w1:=w6) (.agg #[W,q1]) rfl rfl (λt d=>ϰ) (pC (w1:=w6) (.int .i64 e) rfl rfl (λt d=>ϰ) ?_))
   refine ww {tmps:=#[.pointer (some ⟨s,0,none⟩),.agg (fJ k f pt j),ϗ,.pointer (some ⟨r,0,none⟩),.int .i64 0,ϗ,ϗ,.pointer (some ⟨r,0,none⟩),.int .i64 k,.int .i64 (3:Nat),.bool false,.bool false,ϗ,ϗ,ϗ,ϗ,ϗ,ϗ,ϗ,ϗ,.bool true,.bool true,.tuple #[.agg #[W,q1],.int .i64 e],.pointer (some ⟨s,0,none⟩),.tuple #[.agg #[W,q1],.int .i64 e],.agg #[W,q1],.int .i64 e,ϗ,ϗ,ϗ,ϗ,ϗ,ϗ,ϗ,ϗ,ϗ,ϗ,ϗ,ϗ],defers:=[]} ϰ ?_
   refine Vn 5 rfl ⟨_,func17⟩ ϰ (λw=>j9 F s d n x o e w) (λw t k h=>h.ax t k) hE λw7 C _=>?_
   clear hE q;show wpList _ _ _ [_,_,_] _ _;refine aA rfl ?_;refine bj rfl 58 rfl _ mQ ?_;intro w8 b8 l8 f8 r8;go_wp2_with (with_reducible refine ai 58 rfl ?_);refine fX rfl 58 _ _ rfl b8 rfl #[W,q1] rfl gv (by simp[o0,o1]) _ _ r8 rfl ?_;intro w9 f9 r9;have aa:aQ [] w7 w9:=f8.trans f9 (by simpa using l8)
   have am:=C.grow p aa;clear f8 f9 r8 r9 l8 C aa;go_wp2_with fail;refine af.ij none ⟨_,func17⟩ (λw=>j9 F s d n x wL e w) (λw t k h=>h.ax t k) am λw7 C _=>?_
   go_wp2;exact⟨w7.tape,w7.drawn,.int .i64 e,ϰ,.inr ⟨J,e,rfl,C⟩⟩
  .have ad:(((bH k 4:Nat):Int)==3)=false:=by rw[ac3];omega
   have HA:Hid (x.act n k f pt j=x.tb n (bH f 2) (d7 (bH pt 7)) (dR j)):=by show _=_;rw[HD.out,ζ h2]
   have H3:Hid (bH k 4≠3):=J;have aq:∃mk,bH k 4=mk:=⟨_,rfl⟩
   clear HD N;refine af.ij none ⟨_,func17⟩ (λw=>aE w F s d n x/\cX [] wL w/\Row w r (fJ k f pt j) 24) (λw t k h=>⟨h.1.ax t k,h.2.1.tape t k,h.2.2⟩) ⟨q,p,c⟩ λo A g=>?_
   clear q p c g;have⟨q,p,c⟩:=A;go_wp2_with fail;refine af.yz (b:=false) rfl ?_;rw[ζ ϛ];refine af.Vo (af.Jk ?_);refine af.ij none ⟨_,func17⟩ (λw=>aE w F s d n x/\cX [] wL w/\Row w r (fJ k f pt j) 24) (λw t k h=>⟨h.1.ax t k,h.2.1.tape t k,h.2.2⟩) ⟨q,p,c⟩ λu A g=>?_
   clear q p c g an ad h2;have⟨h1,p,c⟩:=A;have D:aQ [] u u:=aQ.refl ..;have h2:True:=trivial;go_wp2_with fail;refine iq 12 rfl ?_;have G:aQ [] u u.drew:=aQ.drew ..;have L:=h1.new G;have r5:=G.row c;have K:=D.trans G;generalize u.drew=o at L r5 K;have c1:o.cell? ⟨r,1,none⟩=some (.int .i64 f):=by rw[r5.cell];rfl
   have c2:o.cell? ⟨r,2,none⟩=some (.int .i64 pt):=by rw[r5.cell];rfl
   have c3:o.cell? ⟨r,3,none⟩=some (.string j):=by rw[r5.cell];rfl
   clear G h1 c D r5 h2;refine vu ?_;refine fh 0 (some 28) rfl rfl (λ_ _ _ h=>h) rfl (v:=(.pointer (some ⟨s,0,none⟩))) (λ_=>rfl) ?_;refine fh 1 (some 29) rfl rfl (λ_ _ _ h=>h) rfl (v:=(.pointer (some ⟨r,1,none⟩))) (λ_=>by go_simp) ?_
   refine fh 4 (some 32) rfl rfl (λ_ _ _ h=>h) rfl (v:=(.pointer (some ⟨r,2,none⟩))) (λ_=>by go_simp) ?_;refine fh 7 (some 35) rfl rfl (λ_ _ _ h=>h) rfl (v:=(.pointer (some ⟨r,3,none⟩))) (λ_=>by go_simp) ?_;simp only[Act.put,co,cq,ck]
   refine Eb (m:=2) (Y:=Unit) [9,8,7,6,5,4,3,2,1,0] (λ_=>True) (λ_ a=>((((((a.put (some 30) (.int .i64 f)).put (some 33) (.int .i64 pt)).put (some 36) (.string j)).put (some 31) (.int .i64 (bH f 2:Nat))).put (some 34) (.string (d7 (bH pt 7)))).put (some 37) (.string (dR j)))) (λ_=>o) ?_ ?_
   .intro _ _
    simp only[Act.put,co,cq,ck];refine eE 10 (nV 10 rfl rfl (some 38) rfl 39 #[.pointer (some ⟨s,0,none⟩),.int .i64 (bH f 2:Nat),.string (d7 (bH pt 7)),.string (dR j)] (by go_simp) _ (BR F s d n x (bH f 2) (d7 (bH pt 7)) (dR j) o L V iA ϖ ab.1 ϖ ae) ?_);rintro e R ⟨rfl,⟨Fe,H,Z⟩,P⟩
    refine⟨_,rfl,?_⟩;have I:aQ F u R:=(K.mono (T:=F) ϛ).trans P (λi hi=> .inl hi);have gw:=(bC.refl F u).trans Z K.size;clear c1 c2 c3 L P Z;generalize B:x.tb n (bH f 2) (d7 (bH pt 7)) (dR j)=y at*;have ak:Hid (x.tb n (bH f 2) (d7 (bH pt 7)) (dR j)=y):=B;clear B;simp only[Act.put,co,cq,ck]
    refine eE 11 (il 11 rfl rfl (some 4) rfl y.2 R rfl ?_);refine vr ?_;simp only[Act.put,co,cq,ck];go_wp2;exact KT HA.out J H gw I p
   intro Q;have z:=λl hl=>Q () l hl trivial
   simp only[Act.put,co,cq,ck] at z;clear Q
   repeat' first
    |((
      first
      |refine Hc 2 5 8 (by decide+kernel) ϖ ϖ ϖ ?_ ?_ ?_
      |refine Hc 3 5 8 (by decide+kernel) ϖ ϖ ϖ ?_ ?_ ?_
      |refine ly 5 8 (by decide+kernel) ?_ ?_
      |refine ly 6 8 (by decide+kernel) ?_ ?_
      |refine ly 3 8 (by decide+kernel) ?_ ?_
      |refine ly 3 5 (by decide+kernel) ?_ ?_
      |refine ly 2 8 (by decide+kernel) ?_ ?_
      |refine ly 2 5 (by decide+kernel) ?_ ?_
      |refine eE 2 (hr:=(by decide+kernel)) ?_
      |refine eE 3 (hr:=(by decide+kernel)) ?_
      |refine eE 5 (hr:=(by decide+kernel)) ?_
      |refine eE 6 (hr:=(by decide+kernel)) ?_
      |refine eE 8 (hr:=(by decide+kernel)) ?_
      |refine eE 9 (hr:=(by decide+kernel)) ?_)<;>first
      |(show Step _ _ _ _ _ _ 2 _ _;refine il 2 rfl rfl (some 30) rfl (.int .i64 f) o (by go_simp) ?_;simp only[Act.put,co,cq,ck])
      |(show Step _ _ _ _ _ _ 3 _ _;refine p8 3 rfl rfl (some 31) rfl 19 #[.int .i64 f,.int .i64 2] (by go_simp) (od f 2 o O M) ?_;simp only[Act.put,co,cq,ck])
      |(show Step _ _ _ _ _ _ 5 _ _;refine il 5 rfl rfl (some 33) rfl (.int .i64 pt) o (by go_simp) ?_;simp only[Act.put,co,cq,ck])
      |(show Step _ _ _ _ _ _ 6 _ _;refine p8 6 rfl rfl (some 34) rfl 41 #[.int .i64 pt] (by go_simp) (zz pt o ac S) ?_;simp only[Act.put,co,cq,ck])
      |(show Step _ _ _ _ _ _ 8 _ _;refine il 8 rfl rfl (some 36) rfl (.string j) o (by go_simp) ?_;simp only[Act.put,co,cq,ck])
      |(show Step _ _ _ _ _ _ 9 _ _;refine p8 9 rfl rfl (some 37) rfl 43 #[.string j] (by go_simp) (GN j o) ?_;simp only[Act.put,co,cq,ck]))
    |exact z _ ϰ
end
end
end Go.Proofs.YtchcmhodnkgojaaGreat
