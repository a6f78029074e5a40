/- On the way to the last text; put together and shortened by program. -/
import Derived.Test.YtchcmhodnkgojaaGreatPart10
set_option linter.all false
set_option maxRecDepth 100000
set_option maxHeartbeats 8000000
namespace Go.Proofs.YtchcmhodnkgojaaGreat
noncomputable section
section
open Go.RowKit Go.Lib Go.Sort
def iZ (F:List Nat)(s d n:Nat)(x:DS)(wL:Θ)(e:Int)(w':Θ):Prop:=
 (yX x n≠0/\e=yX x n/\aP w' F s d n x/\dN [] wL w')\/
 (yX x n=0/\∃ps F',sZ x n ps/\aP w' F' s d n (x.xX n (eL x n ps)).1/\bZ F F' wL/\dN F wL w'/\(x.xX n (eL x n ps)).2= .int .i64 e)
theorem yq.cases {F:List Nat}{s d n:Nat}{x:DS}{wL w':Θ}{v:Φ}(h:yq F s d n x wL v w'):∃(c0 c1:Φ) (e:Int),v= .tuple #[.agg #[c0,c1],.int .i64 e]/\c0.oneCell'=true/\c1.oneCell'=true/\iZ F s d n x wL e w':=by
 rcases h with⟨h1,rfl,h2,h3⟩|⟨h1,ps,F',h2,h3,h4,h5,⟨cv,h6,rfl,h7,_⟩|⟨e,h6,h7,rfl⟩⟩
 .exact⟨_,_,_,rfl,rfl,rfl,.inl ⟨h1,rfl,h2,h3⟩⟩
 .obtain⟨ad,cap,hv⟩:=bM h7
  subst hv;exact⟨_,_,_,rfl,rfl,rfl,.inr ⟨h1,ps,F',h2,h3,h4,h5,h6⟩⟩
 .exact⟨_,_,_,rfl,rfl,rfl,.inr ⟨h1,ps,F',h2,h3,h4,h5,h7⟩⟩
theorem iZ.grow {F:List Nat}{s d n:Nat}{x:DS}{wA wL w w':Θ}{e:Int}(h:iZ F s d n x wL e w)(hA:dN [] wA wL)(f:aO [] w w'):iZ F s d n x wA e w':=by
 rcases h with⟨h1,h2,h3,h4⟩|⟨h1,ps,F',h2,h3,h4,h5,h6⟩
 .exact .inl ⟨h1,h2,h3.new f,(hA.trans h4).trans f.blk⟩
 .exact .inr ⟨h1,ps,F',h2,h3.new f,(bZ.refl F wA).trans h4 hA.size,((hA.mono).trans h5 (λi hi=> .inl hi)).trans f.blk,h6⟩
theorem iZ.az {F:List Nat}{s d n:Nat}{x:DS}{wL w:Θ}{e:Int}(h:iZ F s d n x wL e w)(t:Go.Proofs.YtchcmhodnkgojaaGreat.dZ)(k:Nat):iZ F s d n x wL e (az w t k):=by
 rcases h with⟨h1,h2,h3,h4⟩|⟨h1,ps,F',h2,h3,h4,h5,h6⟩
 .exact .inl ⟨h1,h2,h3.az t k,h4.tape t k⟩
 .exact .inr ⟨h1,ps,F',h2,h3.az t k,h4,h5.tape t k,h6⟩
def SL (F:List Nat)(s d n:Nat)(x:DS)(k sd pt:Int)(ct:Ξ)(wL:Θ)(v:Φ)(w':Θ):Prop:=
 (bD k 4≠3/\v=(x.act n k sd pt ct).2/\∃F',aP w' F' s d n (x.act n k sd pt ct).1/\bZ F F' wL/\dN F wL w')\/
 (bD k 4=3/\∃e:Int,v= .int .i64 e/\iZ F s d n x wL e w')
theorem Ik {F Fe:List Nat}{s d n:Nat}{x:DS}{k sd pt:Int}{ct:Ξ}{wL w2 we:Θ}{y:DS×Φ}{c:Array Φ}(ha:x.act n k sd pt ct=y)(h3:bD k 4≠3)(hse:aP we Fe s d n y.1)(gw:bZ F Fe w2)(Y6:aO F w2 we)(hB:dN [] wL w2)
  (hc:c.getD 4 undef=y.2:=by rfl):∃t d',av.TQ Tryz.f17 (SL F s d n x k sd pt ct wL) {tmps:=c,defers:=[]} (az we t d'):=
 ⟨we.tape,we.drawn,y.2,by rw[<-hc];exact results_tmp rfl _ _ _,.inl ⟨h3,by rw[ha],Fe,by rw[ha];exact hse,(bZ.refl F wL).trans gw hB.size,(hB.mono).trans Y6.blk (λi hi=> .inl hi)⟩⟩
open aG aG.Sq in
theorem Zi {E:av.Env}{wL:Θ}{F:List Nat}{s d n:Nat}{x:DS}(k sd pt:Int)(ct:Ξ)(h:aP wL F s d n x)(hG:pH wL)(h0:0∉F)(hx:x.Fit 5)(eZ:x.waiting.length<55)(hok:bD k 4=3->yt x n)
  (hk0:-9223372036854775808<=k) (hk1:k<=9223372036854775807) (hs0:-9223372036854775808<=sd) (hs1:sd<=9223372036854775807) (hp0:-9223372036854775808<=pt) (hp1:pt<=9223372036854775807):
  av.CC E 17 #[.pointer (some ⟨s,0,none⟩),.agg (eJ k sd pt ct)] (SL F s d n x k sd pt ct wL) wL:=by
 have hpo:=De (bD pt 7) (mL pt 7);have hco:=zj ct;have hsd:=mL sd 2;have HD:Hid (x.act n k sd pt ct=if bD k 4=2 then x.gB n (bD sd 2) (ie (bD pt 7)) else x.mF n (bD sd 2) (ie (bD pt 7)) (dj ct)):=rfl;refine av.lq Tryz.func17 rfl ?_;refine av.ep ?_
 refine rl {tmps:=#[.pointer (some ⟨s,0,none⟩),.agg (eJ k sd pt ct),undef,undef,undef,undef,undef,undef,undef,undef,undef,undef,undef,undef,undef,undef,undef,undef,undef,undef,undef,undef,undef,undef,undef,undef,undef,undef,undef,undef,undef,undef,undef,undef,undef,undef,undef,undef,undef],defers:=[]} (by kernel_rfl) ?_
 refine av.eX none ⟨_,Tryz.func17⟩ (λw=>aP w F s d n x/\dN [] wL w) (λw t k h=>⟨h.1.az t k,h.2.tape t k⟩) ⟨h,dN.refl _ _⟩ λw hI hsz=>?_
 obtain⟨hS,hB⟩:=hI;go_wp2_with (with_reducible first|refine bC rfl ?_);refine ai.go (fN rfl 24 _ rfl (.agg (eJ k sd pt ct)) rfl ?_);intro w1 b3 l3 f1 r3;have hS1:=hS.new f1;have hB1:=hB.trans f1.blk;have r3':Row w1 b3 (eJ k sd pt ct) 24:=r3;clear r3 hS hB f1 l3 hsz h;go_wp2_with fail;refine av.ep (av.ep ?_)
 refine av.eX none ⟨_,Tryz.func17⟩ (λw=>aP w F s d n x/\dN [] wL w/\Row w b3 (eJ k sd pt ct) 24) (λw t k h=>⟨h.1.az t k,h.2.1.tape t k,h.2.2⟩) ⟨hS1,hB1,r3'⟩ λw2 hI hsz=>?_
 clear hS1 hB1 r3' hsz;obtain⟨hS,hB,r3'⟩:=hI;have c0:w2.cell? ⟨b3,0,none⟩=some (.int .i64 k):=by rw[r3'.cell];rfl
 go_wp2_with fail;refine(oZ k 4 w2 hk0 hk1).mono ?_;rintro e w3 ⟨rfl,rfl⟩;clear c0;go_wp2_with fail;refine av.Ob (av.ep ?_)
 by_cases h2:bD k 4=2
 .have h3:bD k 4≠3:=by omega
  have HA:Hid (x.act n k sd pt ct=x.gB n (bD sd 2) (ie (bD pt 7))):=by show _=_;rw[HD.out,χ h2]
  rw[h2];clear HD;refine av.eX none ⟨_,Tryz.func17⟩ (λw=>aP w F s d n x/\dN [] wL w/\Row w b3 (eJ k sd pt ct) 24) (λw t k h=>⟨h.1.az t k,h.2.1.tape t k,h.2.2⟩) ⟨hS,hB,r3'⟩ λw4 hI hsz=>?_
  clear hS hB r3' hsz;obtain⟨hS,hB,r3'⟩:=hI;go_wp2_with fail;refine av.vP (b:=true) rfl ?_;rw[χ rfl];refine av.eX none ⟨_,Tryz.func17⟩ (λw=>aP w F s d n x/\dN [] wL w/\Row w b3 (eJ k sd pt ct) 24) (λw t k h=>⟨h.1.az t k,h.2.1.tape t k,h.2.2⟩) ⟨hS,hB,r3'⟩ λw2 hI hsz=>?_
  clear hS hB r3' hsz;obtain⟨h1,hB,r3'⟩:=hI;have f1:aO [] w2 w2:=aO.refl _ _;go_wp2_with fail;refine fI 9 rfl ?_;have fd:aO [] w2 w2.drew:=aO.drew _ _;have h5:=h1.new fd;have r5:=fd.row r3';have po:=f1.trans fd;generalize w2.drew=w5 at h5 r5 po;have c1:w5.cell? ⟨b3,1,none⟩=some (.int .i64 sd):=by rw[r5.cell];rfl
  have c2:w5.cell? ⟨b3,2,none⟩=some (.int .i64 pt):=by rw[r5.cell];rfl
  have c3:w5.cell? ⟨b3,3,none⟩=some (.string ct):=by rw[r5.cell];rfl
  clear fd h1 r3' f1 r5 h2;refine sY ?_;refine ec 0 (some 12) rfl rfl (λ_ _ _ h=>h) rfl (v:=(.pointer (some ⟨s,0,none⟩))) (λ_=>rfl) ?_;refine ec 1 (some 13) rfl rfl (λ_ _ _ h=>h) rfl (v:=(.pointer (some ⟨b3,1,none⟩))) (λ_=>by go_simp) ?_
  refine ec 4 (some 16) rfl rfl (λ_ _ _ h=>h) rfl (v:=(.pointer (some ⟨b3,2,none⟩))) (λ_=>by go_simp) ?_;simp only[Act.put,bm,bn,bk]
  refine BE (m:=2) (Y:=Unit) [6,5,4,3,2,1,0] (λ_=>True) (λ_ a=>((((a.put (some 14) (.int .i64 sd)).put (some 17) (.int .i64 pt)).put (some 15) (.int .i64 (bD sd 2:Nat))).put (some 18) (.string (ie (bD pt 7))))) (λ_=>w5) ?_ ?_
  .intro _ _
   simp only[Act.put,bm,bn,bk];refine dJ 7 (mE 7 rfl rfl (some 19) rfl 42 #[.pointer (some ⟨s,0,none⟩),.int .i64 (bD sd 2:Nat),.string (ie (bD pt 7))] (by go_simp) _ (AA F s d n x (bD sd 2) (ie (bD pt 7)) w5 h5 ⟨hx.kb,by have:=hx.ka;omega,hx.j9,hx.j8⟩ (by omega) (by omega) hpo.1 (by omega)) ?_)
   rintro e we ⟨rfl,⟨Fe,hse,ge⟩,fe⟩;refine⟨_,rfl,?_⟩;have Y6:aO F w2 we:=(po.mono (T:=F) (by simp)).trans fe (λi hi=> .inl hi);have gw:=(bZ.refl F w2).trans ge po.size;clear c1 c2 c3 h5 fe ge;generalize hpx:x.gB n (bD sd 2) (ie (bD pt 7))=y at*;have HPX:Hid (x.gB n (bD sd 2) (ie (bD pt 7))=y):=hpx;clear hpx;simp only[Act.put,bm,bn,bk]
   refine dJ 8 (fH 8 rfl rfl (some 4) rfl y.2 we rfl ?_);refine sX ?_;simp only[Act.put,bm,bn,bk];go_wp2_with fail;exact Ik HA.out h3 hse gw Y6 hB
  intro t8;have tail:=λl hl=>t8 () l hl trivial
  simp only[Act.put,bm,bn,bk] at tail;clear t8
  repeat' first
   |((
     first
     |refine j0 2 5 (by decide+kernel) ?_ ?_
     |refine j0 3 5 (by decide+kernel) ?_ ?_
     |refine dJ 2 (hr:=(by decide+kernel)) ?_
     |refine dJ 3 (hr:=(by decide+kernel)) ?_
     |refine dJ 5 (hr:=(by decide+kernel)) ?_
     |refine dJ 6 (hr:=(by decide+kernel)) ?_)<;>first
     |(show Step _ _ _ _ _ _ 2 _ _;refine fH 2 rfl rfl (some 14) rfl (.int .i64 sd) w5 (by go_simp) ?_;simp only[Act.put,bm,bn,bk])
     |(show Step _ _ _ _ _ _ 3 _ _;refine oy 3 rfl rfl (some 15) rfl 19 #[.int .i64 sd,.int .i64 2] (by go_simp) (oZ sd 2 w5 hs0 hs1) ?_;simp only[Act.put,bm,bn,bk])
     |(show Step _ _ _ _ _ _ 5 _ _;refine fH 5 rfl rfl (some 17) rfl (.int .i64 pt) w5 (by go_simp) ?_;simp only[Act.put,bm,bn,bk])
     |(show Step _ _ _ _ _ _ 6 _ _;refine oy 6 rfl rfl (some 18) rfl 41 #[.int .i64 pt] (by go_simp) (Dd pt w5 hp0 hp1) ?_;simp only[Act.put,bm,bn,bk]))
   |exact tail _ (by kernel_rfl)
 .have hm2:(((bD k 4:Nat):Int)==2)=false:=by rw[ae8];omega
  refine av.eX none ⟨_,Tryz.func17⟩ (λw=>aP w F s d n x/\dN [] wL w/\Row w b3 (eJ k sd pt ct) 24) (λw t k h=>⟨h.1.az t k,h.2.1.tape t k,h.2.2⟩) ⟨hS,hB,r3'⟩ λw4 hI hsz=>?_
  clear hS hB r3' hsz;obtain⟨hS,hB,r3'⟩:=hI;go_wp2_with fail;refine av.vP (b:=false) rfl ?_;rw[ζ (by simp)];refine av.ep ?_
  by_cases h3:bD k 4=3
  .rw[h3]
   refine av.eX none ⟨_,Tryz.func17⟩ (λw=>aP w F s d n x/\dN [] wL w) (λw t k h=>⟨h.1.az t k,h.2.tape t k⟩) ⟨hS,hB⟩ λw5 hI hsz=>?_
   clear hS hB r3' hsz;obtain⟨hS,hB⟩:=hI;go_wp2_with fail;refine av.vP (b:=true) rfl ?_;rw[χ rfl];refine av.ep (av.d9 (fu _ rfl (.inr rfl) rfl ?_))
   refine lp (f2:=31) #[.tmp 23] #[.pointer (some ⟨s,0,none⟩)] (R2:=yq F s d n x w5) rfl rfl (by kernel_rfl) (λb w=>by kernel_rfl) (by kernel_rfl) (Bz hS (hG.blk hB (by simp)) h0 (hok h3)) λv w6 hR _=>?_
   obtain⟨q0,q1,e,rfl,o0,o1,hE⟩:=hR.cases;refine fu _ rfl (.inr rfl) rfl (nK (w1:=w6) (.agg #[q0,q1]) rfl rfl (λt d=>by kernel_rfl) (nK (w1:=w6) (.int .i64 e) rfl rfl (λt d=>by kernel_rfl) ?_))
   refine rl {tmps:=#[.pointer (some ⟨s,0,none⟩),.agg (eJ k sd pt ct),undef,.pointer (some ⟨b3,0,none⟩),.int .i64 0,undef,undef,.pointer (some ⟨b3,0,none⟩),.int .i64 k,.int .i64 (3:Nat),.bool false,.bool false,undef,undef,undef,undef,undef,undef,undef,undef,.bool true,.bool true,.tuple #[.agg #[q0,q1],.int .i64 e],.pointer (some ⟨s,0,none⟩),.tuple #[.agg #[q0,q1],.int .i64 e],.agg #[q0,q1],.int .i64 e,undef,undef,undef,undef,undef,undef,undef,undef,undef,undef,undef,undef],defers:=[]} (by kernel_rfl) ?_
   refine Sb 5 rfl ⟨_,Tryz.func17⟩ (by kernel_rfl) (λw=>iZ F s d n x w5 e w) (λw t k h=>h.az t k) hE λw7 hE7 _=>?_
   clear hE hS;show wpList _ _ _ [_,_,_] _ _;refine ay rfl ?_;refine ai.go (bh rfl 58 rfl _ lA ?_);intro w8 b8 l8 f8 r8;go_wp2_with (with_reducible first|refine ah 58 rfl ?_);refine ai.go (kz rfl 58 _ _ rfl b8 rfl #[q0,q1] rfl ez (by simp[o0,o1]) _ _ r8 rfl ?_);intro w9 f9 r9;have f79:aO [] w7 w9:=f8.trans f9 (by simpa using l8)
   have hE9:=hE7.grow hB f79;clear f8 f9 r8 r9 l8 hE7 f79;go_wp2_with fail;refine av.eX none ⟨_,Tryz.func17⟩ (λw=>iZ F s d n x wL e w) (λw t k h=>h.az t k) hE9 λw7 hE7 _=>?_
   go_wp2_with fail;exact⟨w7.tape,w7.drawn,.int .i64 e,by kernel_rfl,.inr ⟨h3,e,rfl,hE7⟩⟩
  .have hm3:(((bD k 4:Nat):Int)==3)=false:=by rw[ae8];omega
   have HA:Hid (x.act n k sd pt ct=x.mF n (bD sd 2) (ie (bD pt 7)) (dj ct)):=by show _=_;rw[HD.out,ζ h2]
   have H3:Hid (bD k 4≠3):=h3;have hmk:∃mk,bD k 4=mk:=⟨_,rfl⟩
   clear HD hok;refine av.eX none ⟨_,Tryz.func17⟩ (λw=>aP w F s d n x/\dN [] wL w/\Row w b3 (eJ k sd pt ct) 24) (λw t k h=>⟨h.1.az t k,h.2.1.tape t k,h.2.2⟩) ⟨hS,hB,r3'⟩ λw5 hI hsz=>?_
   clear hS hB r3' hsz;obtain⟨hS,hB,r3'⟩:=hI;go_wp2_with fail;refine av.vP (b:=false) rfl ?_;rw[ζ (by simp)];refine av.Sc (av.Gg ?_);refine av.eX none ⟨_,Tryz.func17⟩ (λw=>aP w F s d n x/\dN [] wL w/\Row w b3 (eJ k sd pt ct) 24) (λw t k h=>⟨h.1.az t k,h.2.1.tape t k,h.2.2⟩) ⟨hS,hB,r3'⟩ λw2 hI hsz=>?_
   clear hS hB r3' hsz hm2 hm3 h2;obtain⟨h1,hB,r3'⟩:=hI;have f1:aO [] w2 w2:=aO.refl _ _;have h2:True:=trivial;go_wp2_with fail;refine fI 12 rfl ?_;have fd:aO [] w2 w2.drew:=aO.drew _ _;have h5:=h1.new fd;have r5:=fd.row r3';have po:=f1.trans fd;generalize w2.drew=w5 at h5 r5 po;have c1:w5.cell? ⟨b3,1,none⟩=some (.int .i64 sd):=by rw[r5.cell];rfl
   have c2:w5.cell? ⟨b3,2,none⟩=some (.int .i64 pt):=by rw[r5.cell];rfl
   have c3:w5.cell? ⟨b3,3,none⟩=some (.string ct):=by rw[r5.cell];rfl
   clear fd h1 r3' f1 r5 h2;refine sY ?_;refine ec 0 (some 28) rfl rfl (λ_ _ _ h=>h) rfl (v:=(.pointer (some ⟨s,0,none⟩))) (λ_=>rfl) ?_;refine ec 1 (some 29) rfl rfl (λ_ _ _ h=>h) rfl (v:=(.pointer (some ⟨b3,1,none⟩))) (λ_=>by go_simp) ?_
   refine ec 4 (some 32) rfl rfl (λ_ _ _ h=>h) rfl (v:=(.pointer (some ⟨b3,2,none⟩))) (λ_=>by go_simp) ?_;refine ec 7 (some 35) rfl rfl (λ_ _ _ h=>h) rfl (v:=(.pointer (some ⟨b3,3,none⟩))) (λ_=>by go_simp) ?_;simp only[Act.put,bm,bn,bk]
   refine BE (m:=2) (Y:=Unit) [9,8,7,6,5,4,3,2,1,0] (λ_=>True) (λ_ a=>((((((a.put (some 30) (.int .i64 sd)).put (some 33) (.int .i64 pt)).put (some 36) (.string ct)).put (some 31) (.int .i64 (bD sd 2:Nat))).put (some 34) (.string (ie (bD pt 7)))).put (some 37) (.string (dj ct)))) (λ_=>w5) ?_ ?_
   .intro _ _
    simp only[Act.put,bm,bn,bk];refine dJ 10 (mE 10 rfl rfl (some 38) rfl 39 #[.pointer (some ⟨s,0,none⟩),.int .i64 (bD sd 2:Nat),.string (ie (bD pt 7)),.string (dj ct)] (by go_simp) _ (tg F s d n x (bD sd 2) (ie (bD pt 7)) (dj ct) w5 h5 hx eZ (by omega) hpo.1 (by omega) hco) ?_);rintro e we ⟨rfl,⟨Fe,hse,ge⟩,fe⟩
    refine⟨_,rfl,?_⟩;have Y6:aO F w2 we:=(po.mono (T:=F) (by simp)).trans fe (λi hi=> .inl hi);have gw:=(bZ.refl F w2).trans ge po.size;clear c1 c2 c3 h5 fe ge;generalize hpx:x.mF n (bD sd 2) (ie (bD pt 7)) (dj ct)=y at*;have HPX:Hid (x.mF n (bD sd 2) (ie (bD pt 7)) (dj ct)=y):=hpx;clear hpx;simp only[Act.put,bm,bn,bk]
    refine dJ 11 (fH 11 rfl rfl (some 4) rfl y.2 we rfl ?_);refine sX ?_;simp only[Act.put,bm,bn,bk];go_wp2_with fail;exact Ik HA.out h3 hse gw Y6 hB
   intro t8;have tail:=λl hl=>t8 () l hl trivial
   simp only[Act.put,bm,bn,bk] at tail;clear t8
   repeat' first
    |((
      first
      |refine Ey 2 5 8 (by decide+kernel) (by omega) (by omega) (by omega) ?_ ?_ ?_
      |refine Ey 3 5 8 (by decide+kernel) (by omega) (by omega) (by omega) ?_ ?_ ?_
      |refine j0 5 8 (by decide+kernel) ?_ ?_
      |refine j0 6 8 (by decide+kernel) ?_ ?_
      |refine j0 3 8 (by decide+kernel) ?_ ?_
      |refine j0 3 5 (by decide+kernel) ?_ ?_
      |refine j0 2 8 (by decide+kernel) ?_ ?_
      |refine j0 2 5 (by decide+kernel) ?_ ?_
      |refine dJ 2 (hr:=(by decide+kernel)) ?_
      |refine dJ 3 (hr:=(by decide+kernel)) ?_
      |refine dJ 5 (hr:=(by decide+kernel)) ?_
      |refine dJ 6 (hr:=(by decide+kernel)) ?_
      |refine dJ 8 (hr:=(by decide+kernel)) ?_
      |refine dJ 9 (hr:=(by decide+kernel)) ?_)<;>first
      |(show Step _ _ _ _ _ _ 2 _ _;refine fH 2 rfl rfl (some 30) rfl (.int .i64 sd) w5 (by go_simp) ?_;simp only[Act.put,bm,bn,bk])
      |(show Step _ _ _ _ _ _ 3 _ _;refine oy 3 rfl rfl (some 31) rfl 19 #[.int .i64 sd,.int .i64 2] (by go_simp) (oZ sd 2 w5 hs0 hs1) ?_;simp only[Act.put,bm,bn,bk])
      |(show Step _ _ _ _ _ _ 5 _ _;refine fH 5 rfl rfl (some 33) rfl (.int .i64 pt) w5 (by go_simp) ?_;simp only[Act.put,bm,bn,bk])
      |(show Step _ _ _ _ _ _ 6 _ _;refine oy 6 rfl rfl (some 34) rfl 41 #[.int .i64 pt] (by go_simp) (Dd pt w5 hp0 hp1) ?_;simp only[Act.put,bm,bn,bk])
      |(show Step _ _ _ _ _ _ 8 _ _;refine fH 8 rfl rfl (some 36) rfl (.string ct) w5 (by go_simp) ?_;simp only[Act.put,bm,bn,bk])
      |(show Step _ _ _ _ _ _ 9 _ _;refine oy 9 rfl rfl (some 37) rfl 43 #[.string ct] (by go_simp) (Eb ct w5) ?_;simp only[Act.put,bm,bn,bk]))
    |exact tail _ (by kernel_rfl)
end
end
end Go.Proofs.YtchcmhodnkgojaaGreat
