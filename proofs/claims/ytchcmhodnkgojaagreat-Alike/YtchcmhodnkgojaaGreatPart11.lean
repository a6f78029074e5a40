/- On the way to the last text; put together and shortened by program. -/
import Derived.Test.YtchcmhodnkgojaaGreatPart10
set_option linter.all false
set_option maxRecDepth 100000
set_option maxHeartbeats 8000000
namespace Go.Proofs.YtchcmhodnkgojaaGreat
noncomputable section
section
open Go.RowKit Go.Lib Go.Sort
def iV (F:List Nat)(s d n:Nat)(x:DS)(wL:World)(e:Int)(w':World):Prop:=
 (ye x n≠0/\e=ye x n/\aS w' F s d n x/\eF [] wL w')\/
 (ye x n=0/\∃ps F',sa x n ps/\aS w' F' s d n (x.xg n (eD x n ps)).1/\bP F F' wL/\eF F wL w'/\(x.xg n (eD x n ps)).2= .int .i64 e)
theorem zz.cases {F:List Nat}{s d n:Nat}{x:DS}{wL w':World}{v:Value}(h:zz F s d n x wL v w'):∃(c0 c1:Value) (e:Int),v= .tuple #[.agg #[c0,c1],.int .i64 e]/\c0.oneCell'=true/\c1.oneCell'=true/\iV F s d n x wL e w':=by
 rcases h with⟨h1,rfl,h2,h3⟩|⟨h1,ps,F',h2,h3,h4,h5,⟨cv,h6,rfl,h7,_⟩|⟨e,h6,h7,rfl⟩⟩
 .exact⟨_,_,_,rfl,rfl,rfl,.inl ⟨h1,rfl,h2,h3⟩⟩
 .obtain⟨ad,cap,hv⟩:=cy h7
  subst hv;exact⟨_,_,_,rfl,rfl,rfl,.inr ⟨h1,ps,F',h2,h3,h4,h5,h6⟩⟩
 .exact⟨_,_,_,rfl,rfl,rfl,.inr ⟨h1,ps,F',h2,h3,h4,h5,h7⟩⟩
theorem iV.grow {F:List Nat}{s d n:Nat}{x:DS}{wA wL w w':World}{e:Int}(h:iV F s d n x wL e w)(hA:eF [] wA wL)(f:aR [] w w'):iV F s d n x wA e w':=by
 rcases h with⟨h1,h2,h3,h4⟩|⟨h1,ps,F',h2,h3,h4,h5,h6⟩
 .exact .inl ⟨h1,h2,h3.new f,(hA.trans h4).trans f.blk⟩
 .exact .inr ⟨h1,ps,F',h2,h3.new f,(bP.refl F wA).trans h4 hA.size,((hA.mono).trans h5 (fun i hi=> .inl hi)).trans f.blk,h6⟩
theorem iV.ay {F:List Nat}{s d n:Nat}{x:DS}{wL w:World}{e:Int}(h:iV F s d n x wL e w)(t:Go.Proofs.YtchcmhodnkgojaaGreat.dU)(k:Nat):iV F s d n x wL e (ay w t k):=by
 rcases h with⟨h1,h2,h3,h4⟩|⟨h1,ps,F',h2,h3,h4,h5,h6⟩
 .exact .inl ⟨h1,h2,h3.ay t k,h4.tape t k⟩
 .exact .inr ⟨h1,ps,F',h2,h3.ay t k,h4,h5.tape t k,h6⟩
def Jk (F:List Nat)(s d n:Nat)(x:DS)(k sd pt:Int)(ct:ByteArray)(wL:World)(v:Value)(w':World):Prop:=
 (bC k 4≠3/\v=(x.act n k sd pt ct).2/\∃F',aS w' F' s d n (x.act n k sd pt ct).1/\bP F F' wL/\eF F wL w')\/
 (bC k 4=3/\∃e:Int,v= .int .i64 e/\iV F s d n x wL e w')
theorem GA {F Fe:List Nat}{s d n:Nat}{x:DS}{k sd pt:Int}{ct:ByteArray}{wL w2 we:World}{y:DS×Value}{c:Array Value}(ha:x.act n k sd pt ct=y)(h3:bC k 4≠3)(hse:aS we Fe s d n y.1)(gw:bP F Fe w2)(Xx:aR F w2 we)(hB:eF [] wL w2)
  (hc:c.getD 4 undef=y.2:=by rfl):∃t d',aj.R9 Tryz.f17 (Jk F s d n x k sd pt ct wL) {tmps:=c,defers:=[]} (ay we t d'):=
 ⟨we.tape,we.drawn,y.2,by rw[<-hc];exact results_tmp rfl _ _ _,.inl ⟨h3,by rw[ha],Fe,by rw[ha];exact hse,(bP.refl F wL).trans gw hB.size,(hB.mono).trans Xx.blk (fun i hi=> .inl hi)⟩⟩
open aI aI.Sq in
theorem E2 {E:aj.Env}{wL:World}{F:List Nat}{s d n:Nat}{x:DS}(k sd pt:Int)(ct:ByteArray)(h:aS wL F s d n x)(hG:pr wL)(h0:0∉F)(hx:x.Fit 5)(gS:x.waiting.length<55)(hok:bC k 4=3->AR x n)
  (hk0:-9223372036854775808<=k) (hk1:k<=9223372036854775807) (hs0:-9223372036854775808<=sd) (hs1:sd<=9223372036854775807) (hp0:-9223372036854775808<=pt) (hp1:pt<=9223372036854775807):
  aj.CC E 17 #[.pointer (some ⟨s,0,none⟩),.agg (dS k sd pt ct)] (Jk F s d n x k sd pt ct wL) wL:=by
 have hpo:=Ch (bC pt 7) (n3 pt 7);have hco:=yw ct;have hsd:=n3 sd 2;have HD:Hid (x.act n k sd pt ct=if bC k 4=2 then x.fQ n (bC sd 2) (gO (bC pt 7)) else x.pY n (bC sd 2) (gO (bC pt 7)) (de ct)):=rfl;refine aj.l9 Tryz.func17 rfl ?_;refine aj.eI ?_
 refine ta {tmps:=#[.pointer (some ⟨s,0,none⟩),.agg (dS k sd pt ct),undef,undef,undef,undef,undef,undef,undef,undef,undef,undef,undef,undef,undef,undef,undef,undef,undef,undef,undef,undef,undef,undef,undef,undef,undef,undef,undef,undef,undef,undef,undef,undef,undef,undef,undef,undef,undef],defers:=[]} (by kernel_rfl) ?_
 refine aj.eZ none ⟨_,Tryz.func17⟩ (by kernel_rfl) (by simp) (fun w=>aS w F s d n x/\eF [] wL w) (fun w t k h=>⟨h.1.ay t k,h.2.tape t k⟩) ⟨h,eF.refl _ _⟩ fun w hI hsz=>?_
 obtain⟨hS,hB⟩:=hI;go_wp2_with (with_reducible first|refine bL rfl ?_);refine ax.go (ii rfl 24 _ rfl (.agg (dS k sd pt ct)) rfl ?_);intro w1 b3 l3 f1 r3;have hS1:=hS.new f1;have hB1:=hB.trans f1.blk;have r3':Row w1 b3 (dS k sd pt ct) 24:=r3;clear r3 hS hB f1 l3 hsz h;go_wp2_with fail;refine aj.eI (aj.eI ?_)
 refine aj.eZ none ⟨_,Tryz.func17⟩ (by kernel_rfl) (by simp) (fun w=>aS w F s d n x/\eF [] wL w/\Row w b3 (dS k sd pt ct) 24) (fun w t k h=>⟨h.1.ay t k,h.2.1.tape t k,h.2.2⟩) ⟨hS1,hB1,r3'⟩ fun w2 hI hsz=>?_
 clear hS1 hB1 r3' hsz;obtain⟨hS,hB,r3'⟩:=hI;have c0:w2.cell? ⟨b3,0,none⟩=some (.int .i64 k):=by rw[r3'.cell];rfl
 go_wp2_with fail;refine(d7 k 4 w2 hk0 hk1).mono ?_;rintro e w3 ⟨rfl,rfl⟩;clear c0;go_wp2_with fail;refine aj.MD (aj.eI ?_)
 by_cases h2:bC k 4=2
 .have h3:bC k 4≠3:=by omega
  have HA:Hid (x.act n k sd pt ct=x.fQ n (bC sd 2) (gO (bC pt 7))):=by show _=_;rw[HD.out,if_pos h2]
  rw[h2];clear HD;refine aj.eZ none ⟨_,Tryz.func17⟩ (by kernel_rfl) (by simp) (fun w=>aS w F s d n x/\eF [] wL w/\Row w b3 (dS k sd pt ct) 24) (fun w t k h=>⟨h.1.ay t k,h.2.1.tape t k,h.2.2⟩) ⟨hS,hB,r3'⟩ fun w4 hI hsz=>?_
  clear hS hB r3' hsz;obtain⟨hS,hB,r3'⟩:=hI;go_wp2_with fail;refine aj.vb (b:=true) rfl ?_;rw[if_pos rfl];refine aj.eZ none ⟨_,Tryz.func17⟩ (by kernel_rfl) (by simp) (fun w=>aS w F s d n x/\eF [] wL w/\Row w b3 (dS k sd pt ct) 24) (fun w t k h=>⟨h.1.ay t k,h.2.1.tape t k,h.2.2⟩) ⟨hS,hB,r3'⟩ fun w2 hI hsz=>?_
  clear hS hB r3' hsz;obtain⟨h1,hB,r3'⟩:=hI;have f1:aR [] w2 w2:=aR.refl _ _;go_wp2_with fail;refine fg 9 rfl ?_;have fd:aR [] w2 w2.drew:=aR.drew _ _;have h5:=h1.new fd;have r5:=fd.row r3';have rz:=f1.trans fd;generalize w2.drew=w5 at h5 r5 rz;have c1:w5.cell? ⟨b3,1,none⟩=some (.int .i64 sd):=by rw[r5.cell];rfl
  have c2:w5.cell? ⟨b3,2,none⟩=some (.int .i64 pt):=by rw[r5.cell];rfl
  have c3:w5.cell? ⟨b3,3,none⟩=some (.string ct):=by rw[r5.cell];rfl
  clear fd h1 r3' f1 r5 h2;refine rY ?_;refine dX 0 (some 12) rfl rfl (fun _ _ _ h=>h) rfl (v:=(.pointer (some ⟨s,0,none⟩))) (fun _=>rfl) ?_;refine dX 1 (some 13) rfl rfl (fun _ _ _ h=>h) rfl (v:=(.pointer (some ⟨b3,1,none⟩))) (fun _=>by go_simp) ?_
  refine dX 4 (some 16) rfl rfl (fun _ _ _ h=>h) rfl (v:=(.pointer (some ⟨b3,2,none⟩))) (fun _=>by go_simp) ?_;simp only[Act.put,aX,aY,aW]
  refine AP (m:=2) (Y:=Unit) [6,5,4,3,2,1,0] (fun _=>True) (fun _ a=>((((a.put (some 14) (.int .i64 sd)).put (some 17) (.int .i64 pt)).put (some 15) (.int .i64 (bC sd 2:Nat))).put (some 18) (.string (gO (bC pt 7))))) (fun _=>w5) ?_ ?_
  .intro _ _
   simp only[Act.put,aX,aY,aW];refine ba 7 (lO 7 rfl rfl (some 19) rfl 42 #[.pointer (some ⟨s,0,none⟩),.int .i64 (bC sd 2:Nat),.string (gO (bC pt 7))] (by go_simp) _ (zO F s d n x (bC sd 2) (gO (bC pt 7)) w5 h5 ⟨hx.jT,by have:=hx.jS;omega,hx.jR,hx.jQ⟩ (by omega) (by omega) hpo.1 (by omega)) ?_)
   rintro e we ⟨rfl,⟨Fe,hse,ge⟩,fe⟩;refine⟨_,rfl,?_⟩;have Xx:aR F w2 we:=(rz.mono (T:=F) (by simp)).trans fe (fun i hi=> .inl hi);have gw:=(bP.refl F w2).trans ge rz.size;clear c1 c2 c3 h5 fe ge;generalize hpx:x.fQ n (bC sd 2) (gO (bC pt 7))=y at*;have HPX:Hid (x.fQ n (bC sd 2) (gO (bC pt 7))=y):=hpx;clear hpx;simp only[Act.put,aX,aY,aW]
   refine ba 8 (bA 8 rfl rfl (some 4) rfl y.2 we rfl ?_);refine rX ?_;simp only[Act.put,aX,aY,aW];go_wp2_with fail;exact GA HA.out h3 hse gw Xx hB
  intro tz;have tail:=fun l hl=>tz () l hl trivial
  simp only[Act.put,aX,aY,aW] at tail;clear tz;refine gp 2 5 ?_ ?_
  .skip
   refine bA 2 rfl rfl (some 14) rfl (.int .i64 sd) w5 (by go_simp) ?_;simp only[Act.put,aX,aY,aW];refine gp 3 5 ?_ ?_
   .skip
    refine bj 3 rfl rfl (some 15) rfl 19 #[.int .i64 sd,.int .i64 2] (by go_simp) (d7 sd 2 w5 hs0 hs1) ?_;simp only[Act.put,aX,aY,aW];refine ba 5 (bA 5 rfl rfl (some 17) rfl (.int .i64 pt) w5 (by go_simp) ?_);simp only[Act.put,aX,aY,aW]
    refine ba 6 (bj 6 rfl rfl (some 18) rfl 41 #[.int .i64 pt] (by go_simp) (dD pt w5 hp0 hp1) ?_);simp only[Act.put,aX,aY,aW];exact tail _ (by kernel_rfl)
   .skip
    refine bA 5 rfl rfl (some 17) rfl (.int .i64 pt) w5 (by go_simp) ?_;simp only[Act.put,aX,aY,aW];refine ba 3 (bj 3 rfl rfl (some 15) rfl 19 #[.int .i64 sd,.int .i64 2] (by go_simp) (d7 sd 2 w5 hs0 hs1) ?_);simp only[Act.put,aX,aY,aW]
    refine ba 6 (bj 6 rfl rfl (some 18) rfl 41 #[.int .i64 pt] (by go_simp) (dD pt w5 hp0 hp1) ?_);simp only[Act.put,aX,aY,aW];exact tail _ (by kernel_rfl)
  .skip
   refine bA 5 rfl rfl (some 17) rfl (.int .i64 pt) w5 (by go_simp) ?_;simp only[Act.put,aX,aY,aW];refine ba 2 (bA 2 rfl rfl (some 14) rfl (.int .i64 sd) w5 (by go_simp) ?_);simp only[Act.put,aX,aY,aW]
   refine ba 3 (bj 3 rfl rfl (some 15) rfl 19 #[.int .i64 sd,.int .i64 2] (by go_simp) (d7 sd 2 w5 hs0 hs1) ?_);simp only[Act.put,aX,aY,aW];refine ba 6 (bj 6 rfl rfl (some 18) rfl 41 #[.int .i64 pt] (by go_simp) (dD pt w5 hp0 hp1) ?_);simp only[Act.put,aX,aY,aW]
   exact tail _ (by kernel_rfl)
 .have hm2:(((bC k 4:Nat):Int)==2)=false:=by rw[beq_eq_false_iff_ne];omega
  refine aj.eZ none ⟨_,Tryz.func17⟩ (by kernel_rfl) (by simp) (fun w=>aS w F s d n x/\eF [] wL w/\Row w b3 (dS k sd pt ct) 24) (fun w t k h=>⟨h.1.ay t k,h.2.1.tape t k,h.2.2⟩) ⟨hS,hB,r3'⟩ fun w4 hI hsz=>?_
  clear hS hB r3' hsz;obtain⟨hS,hB,r3'⟩:=hI;go_wp2_with fail;refine aj.vb (b:=false) rfl ?_;rw[if_neg (by simp)];refine aj.eI ?_
  by_cases h3:bC k 4=3
  .rw[h3]
   refine aj.eZ none ⟨_,Tryz.func17⟩ (by kernel_rfl) (by simp) (fun w=>aS w F s d n x/\eF [] wL w) (fun w t k h=>⟨h.1.ay t k,h.2.tape t k⟩) ⟨hS,hB⟩ fun w5 hI hsz=>?_
   clear hS hB r3' hsz;obtain⟨hS,hB⟩:=hI;go_wp2_with fail;refine aj.vb (b:=true) rfl ?_;rw[if_pos rfl];refine aj.eI (aj.dW (eU _ rfl (.inr rfl) rfl ?_))
   refine kH (f2:=31) #[.tmp 23] #[.pointer (some ⟨s,0,none⟩)] (R2:=zz F s d n x w5) rfl rfl (by kernel_rfl) (fun b w=>by kernel_rfl) (by kernel_rfl) (Gw hS (hG.blk hB (by simp)) h0 (hok h3)) fun v w6 hR _=>?_
   obtain⟨q0,q1,e,rfl,o0,o1,hE⟩:=hR.cases;refine eU _ rfl (.inr rfl) rfl (mM (w1:=w6) (.agg #[q0,q1]) rfl rfl (fun t d=>by kernel_rfl) (mM (w1:=w6) (.int .i64 e) rfl rfl (fun t d=>by kernel_rfl) ?_))
   refine ta {tmps:=#[.pointer (some ⟨s,0,none⟩),.agg (dS k sd pt ct),undef,.pointer (some ⟨b3,0,none⟩),.int .i64 0,undef,undef,.pointer (some ⟨b3,0,none⟩),.int .i64 k,.int .i64 (3:Nat),.bool false,.bool false,undef,undef,undef,undef,undef,undef,undef,undef,.bool true,.bool true,.tuple #[.agg #[q0,q1],.int .i64 e],.pointer (some ⟨s,0,none⟩),.tuple #[.agg #[q0,q1],.int .i64 e],.agg #[q0,q1],.int .i64 e,undef,undef,undef,undef,undef,undef,undef,undef,undef,undef,undef,undef],defers:=[]} (by kernel_rfl) ?_
   refine Qx 5 rfl ⟨_,Tryz.func17⟩ (by kernel_rfl) (fun w=>iV F s d n x w5 e w) (fun w t k h=>h.ay t k) hE fun w7 hE7 _=>?_
   clear hE hS;show wpList _ _ _ [_,_,_] _ _;refine aA rfl ?_;refine ax.go (bv rfl 58 rfl _ nq ?_);intro w8 b8 l8 f8 r8;go_wp2_with (with_reducible first|refine ah 58 rfl ?_);refine ax.go (lL rfl 58 _ _ rfl b8 rfl #[q0,q1] rfl eT (by simp[o0,o1]) _ _ r8 rfl ?_);intro w9 f9 r9;have f79:aR [] w7 w9:=f8.trans f9 (by simpa using l8)
   have hE9:=hE7.grow hB f79;clear f8 f9 r8 r9 l8 hE7 f79;go_wp2_with fail;refine aj.eZ none ⟨_,Tryz.func17⟩ (by kernel_rfl) (by simp) (fun w=>iV F s d n x wL e w) (fun w t k h=>h.ay t k) hE9 fun w7 hE7 _=>?_
   go_wp2_with fail;exact⟨w7.tape,w7.drawn,.int .i64 e,by kernel_rfl,.inr ⟨h3,e,rfl,hE7⟩⟩
  .have hm3:(((bC k 4:Nat):Int)==3)=false:=by rw[beq_eq_false_iff_ne];omega
   have HA:Hid (x.act n k sd pt ct=x.pY n (bC sd 2) (gO (bC pt 7)) (de ct)):=by show _=_;rw[HD.out,if_neg h2]
   have H3:Hid (bC k 4≠3):=h3;have hmk:∃mk,bC k 4=mk:=⟨_,rfl⟩
   clear HD hok;refine aj.eZ none ⟨_,Tryz.func17⟩ (by kernel_rfl) (by simp) (fun w=>aS w F s d n x/\eF [] wL w/\Row w b3 (dS k sd pt ct) 24) (fun w t k h=>⟨h.1.ay t k,h.2.1.tape t k,h.2.2⟩) ⟨hS,hB,r3'⟩ fun w5 hI hsz=>?_
   clear hS hB r3' hsz;obtain⟨hS,hB,r3'⟩:=hI;go_wp2_with fail;refine aj.vb (b:=false) rfl ?_;rw[if_neg (by simp)];refine aj.Qy (aj.EW ?_);refine aj.eZ none ⟨_,Tryz.func17⟩ (by kernel_rfl) (by simp) (fun w=>aS w F s d n x/\eF [] wL w/\Row w b3 (dS k sd pt ct) 24) (fun w t k h=>⟨h.1.ay t k,h.2.1.tape t k,h.2.2⟩) ⟨hS,hB,r3'⟩ fun w2 hI hsz=>?_
   clear hS hB r3' hsz hm2 hm3 h2;obtain⟨h1,hB,r3'⟩:=hI;have f1:aR [] w2 w2:=aR.refl _ _;have h2:True:=trivial;go_wp2_with fail;refine fg 12 rfl ?_;have fd:aR [] w2 w2.drew:=aR.drew _ _;have h5:=h1.new fd;have r5:=fd.row r3';have rz:=f1.trans fd;generalize w2.drew=w5 at h5 r5 rz;have c1:w5.cell? ⟨b3,1,none⟩=some (.int .i64 sd):=by rw[r5.cell];rfl
   have c2:w5.cell? ⟨b3,2,none⟩=some (.int .i64 pt):=by rw[r5.cell];rfl
   have c3:w5.cell? ⟨b3,3,none⟩=some (.string ct):=by rw[r5.cell];rfl
   clear fd h1 r3' f1 r5 h2;refine rY ?_;refine dX 0 (some 28) rfl rfl (fun _ _ _ h=>h) rfl (v:=(.pointer (some ⟨s,0,none⟩))) (fun _=>rfl) ?_;refine dX 1 (some 29) rfl rfl (fun _ _ _ h=>h) rfl (v:=(.pointer (some ⟨b3,1,none⟩))) (fun _=>by go_simp) ?_
   refine dX 4 (some 32) rfl rfl (fun _ _ _ h=>h) rfl (v:=(.pointer (some ⟨b3,2,none⟩))) (fun _=>by go_simp) ?_;refine dX 7 (some 35) rfl rfl (fun _ _ _ h=>h) rfl (v:=(.pointer (some ⟨b3,3,none⟩))) (fun _=>by go_simp) ?_;simp only[Act.put,aX,aY,aW]
   refine AP (m:=2) (Y:=Unit) [9,8,7,6,5,4,3,2,1,0] (fun _=>True) (fun _ a=>((((((a.put (some 30) (.int .i64 sd)).put (some 33) (.int .i64 pt)).put (some 36) (.string ct)).put (some 31) (.int .i64 (bC sd 2:Nat))).put (some 34) (.string (gO (bC pt 7)))).put (some 37) (.string (de ct)))) (fun _=>w5) ?_ ?_
   .intro _ _
    simp only[Act.put,aX,aY,aW];refine ba 10 (lO 10 rfl rfl (some 38) rfl 39 #[.pointer (some ⟨s,0,none⟩),.int .i64 (bC sd 2:Nat),.string (gO (bC pt 7)),.string (de ct)] (by go_simp) _ (yS F s d n x (bC sd 2) (gO (bC pt 7)) (de ct) w5 h5 hx gS (by omega) hpo.1 (by omega) hco) ?_);rintro e we ⟨rfl,⟨Fe,hse,ge⟩,fe⟩
    refine⟨_,rfl,?_⟩;have Xx:aR F w2 we:=(rz.mono (T:=F) (by simp)).trans fe (fun i hi=> .inl hi);have gw:=(bP.refl F w2).trans ge rz.size;clear c1 c2 c3 h5 fe ge;generalize hpx:x.pY n (bC sd 2) (gO (bC pt 7)) (de ct)=y at*;have HPX:Hid (x.pY n (bC sd 2) (gO (bC pt 7)) (de ct)=y):=hpx;clear hpx;simp only[Act.put,aX,aY,aW]
    refine ba 11 (bA 11 rfl rfl (some 4) rfl y.2 we rfl ?_);refine rX ?_;simp only[Act.put,aX,aY,aW];go_wp2_with fail;exact GA HA.out h3 hse gw Xx hB
   intro tz;have tail:=fun l hl=>tz () l hl trivial
   simp only[Act.put,aX,aY,aW] at tail;clear tz;refine Dp 2 5 8 (by kernel_rfl) (by omega) (by omega) (by omega) ?_ ?_ ?_
   .skip
    refine bA 2 rfl rfl (some 30) rfl (.int .i64 sd) w5 (by go_simp) ?_;simp only[Act.put,aX,aY,aW];refine Dp 3 5 8 (by kernel_rfl) (by omega) (by omega) (by omega) ?_ ?_ ?_
    .skip
     refine bj 3 rfl rfl (some 31) rfl 19 #[.int .i64 sd,.int .i64 2] (by go_simp) (d7 sd 2 w5 hs0 hs1) ?_;simp only[Act.put,aX,aY,aW];refine gp 5 8 ?_ ?_
     .skip
      refine bA 5 rfl rfl (some 33) rfl (.int .i64 pt) w5 (by go_simp) ?_;simp only[Act.put,aX,aY,aW];refine gp 6 8 ?_ ?_
      .skip
       refine bj 6 rfl rfl (some 34) rfl 41 #[.int .i64 pt] (by go_simp) (dD pt w5 hp0 hp1) ?_;simp only[Act.put,aX,aY,aW];refine ba 8 (bA 8 rfl rfl (some 36) rfl (.string ct) w5 (by go_simp) ?_);simp only[Act.put,aX,aY,aW]
       refine ba 9 (bj 9 rfl rfl (some 37) rfl 43 #[.string ct] (by go_simp) (cT ct w5) ?_);simp only[Act.put,aX,aY,aW];exact tail _ (by kernel_rfl)
      .skip
       refine bA 8 rfl rfl (some 36) rfl (.string ct) w5 (by go_simp) ?_;simp only[Act.put,aX,aY,aW];refine ba 6 (bj 6 rfl rfl (some 34) rfl 41 #[.int .i64 pt] (by go_simp) (dD pt w5 hp0 hp1) ?_);simp only[Act.put,aX,aY,aW]
       refine ba 9 (bj 9 rfl rfl (some 37) rfl 43 #[.string ct] (by go_simp) (cT ct w5) ?_);simp only[Act.put,aX,aY,aW];exact tail _ (by kernel_rfl)
     .skip
      refine bA 8 rfl rfl (some 36) rfl (.string ct) w5 (by go_simp) ?_;simp only[Act.put,aX,aY,aW];refine ba 5 (bA 5 rfl rfl (some 33) rfl (.int .i64 pt) w5 (by go_simp) ?_);simp only[Act.put,aX,aY,aW];refine ba 6 (bj 6 rfl rfl (some 34) rfl 41 #[.int .i64 pt] (by go_simp) (dD pt w5 hp0 hp1) ?_)
      simp only[Act.put,aX,aY,aW];refine ba 9 (bj 9 rfl rfl (some 37) rfl 43 #[.string ct] (by go_simp) (cT ct w5) ?_);simp only[Act.put,aX,aY,aW];exact tail _ (by kernel_rfl)
    .skip
     refine bA 5 rfl rfl (some 33) rfl (.int .i64 pt) w5 (by go_simp) ?_;simp only[Act.put,aX,aY,aW];refine gp 3 8 ?_ ?_
     .skip
      refine bj 3 rfl rfl (some 31) rfl 19 #[.int .i64 sd,.int .i64 2] (by go_simp) (d7 sd 2 w5 hs0 hs1) ?_;simp only[Act.put,aX,aY,aW];refine gp 6 8 ?_ ?_
      .skip
       refine bj 6 rfl rfl (some 34) rfl 41 #[.int .i64 pt] (by go_simp) (dD pt w5 hp0 hp1) ?_;simp only[Act.put,aX,aY,aW];refine ba 8 (bA 8 rfl rfl (some 36) rfl (.string ct) w5 (by go_simp) ?_);simp only[Act.put,aX,aY,aW]
       refine ba 9 (bj 9 rfl rfl (some 37) rfl 43 #[.string ct] (by go_simp) (cT ct w5) ?_);simp only[Act.put,aX,aY,aW];exact tail _ (by kernel_rfl)
      .skip
       refine bA 8 rfl rfl (some 36) rfl (.string ct) w5 (by go_simp) ?_;simp only[Act.put,aX,aY,aW];refine ba 6 (bj 6 rfl rfl (some 34) rfl 41 #[.int .i64 pt] (by go_simp) (dD pt w5 hp0 hp1) ?_);simp only[Act.put,aX,aY,aW]
       refine ba 9 (bj 9 rfl rfl (some 37) rfl 43 #[.string ct] (by go_simp) (cT ct w5) ?_);simp only[Act.put,aX,aY,aW];exact tail _ (by kernel_rfl)
     .skip
      refine bA 8 rfl rfl (some 36) rfl (.string ct) w5 (by go_simp) ?_;simp only[Act.put,aX,aY,aW];refine ba 3 (bj 3 rfl rfl (some 31) rfl 19 #[.int .i64 sd,.int .i64 2] (by go_simp) (d7 sd 2 w5 hs0 hs1) ?_);simp only[Act.put,aX,aY,aW]
      refine ba 6 (bj 6 rfl rfl (some 34) rfl 41 #[.int .i64 pt] (by go_simp) (dD pt w5 hp0 hp1) ?_);simp only[Act.put,aX,aY,aW];refine ba 9 (bj 9 rfl rfl (some 37) rfl 43 #[.string ct] (by go_simp) (cT ct w5) ?_);simp only[Act.put,aX,aY,aW];exact tail _ (by kernel_rfl)
    .skip
     refine bA 8 rfl rfl (some 36) rfl (.string ct) w5 (by go_simp) ?_;simp only[Act.put,aX,aY,aW];refine gp 3 5 ?_ ?_
     .skip
      refine bj 3 rfl rfl (some 31) rfl 19 #[.int .i64 sd,.int .i64 2] (by go_simp) (d7 sd 2 w5 hs0 hs1) ?_;simp only[Act.put,aX,aY,aW];refine ba 5 (bA 5 rfl rfl (some 33) rfl (.int .i64 pt) w5 (by go_simp) ?_);simp only[Act.put,aX,aY,aW]
      refine ba 6 (bj 6 rfl rfl (some 34) rfl 41 #[.int .i64 pt] (by go_simp) (dD pt w5 hp0 hp1) ?_);simp only[Act.put,aX,aY,aW];refine ba 9 (bj 9 rfl rfl (some 37) rfl 43 #[.string ct] (by go_simp) (cT ct w5) ?_);simp only[Act.put,aX,aY,aW];exact tail _ (by kernel_rfl)
     .skip
      refine bA 5 rfl rfl (some 33) rfl (.int .i64 pt) w5 (by go_simp) ?_;simp only[Act.put,aX,aY,aW];refine ba 3 (bj 3 rfl rfl (some 31) rfl 19 #[.int .i64 sd,.int .i64 2] (by go_simp) (d7 sd 2 w5 hs0 hs1) ?_);simp only[Act.put,aX,aY,aW]
      refine ba 6 (bj 6 rfl rfl (some 34) rfl 41 #[.int .i64 pt] (by go_simp) (dD pt w5 hp0 hp1) ?_);simp only[Act.put,aX,aY,aW];refine ba 9 (bj 9 rfl rfl (some 37) rfl 43 #[.string ct] (by go_simp) (cT ct w5) ?_);simp only[Act.put,aX,aY,aW];exact tail _ (by kernel_rfl)
   .skip
    refine bA 5 rfl rfl (some 33) rfl (.int .i64 pt) w5 (by go_simp) ?_;simp only[Act.put,aX,aY,aW];refine gp 2 8 ?_ ?_
    .skip
     refine bA 2 rfl rfl (some 30) rfl (.int .i64 sd) w5 (by go_simp) ?_;simp only[Act.put,aX,aY,aW];refine gp 3 8 ?_ ?_
     .skip
      refine bj 3 rfl rfl (some 31) rfl 19 #[.int .i64 sd,.int .i64 2] (by go_simp) (d7 sd 2 w5 hs0 hs1) ?_;simp only[Act.put,aX,aY,aW];refine gp 6 8 ?_ ?_
      .skip
       refine bj 6 rfl rfl (some 34) rfl 41 #[.int .i64 pt] (by go_simp) (dD pt w5 hp0 hp1) ?_;simp only[Act.put,aX,aY,aW];refine ba 8 (bA 8 rfl rfl (some 36) rfl (.string ct) w5 (by go_simp) ?_);simp only[Act.put,aX,aY,aW]
       refine ba 9 (bj 9 rfl rfl (some 37) rfl 43 #[.string ct] (by go_simp) (cT ct w5) ?_);simp only[Act.put,aX,aY,aW];exact tail _ (by kernel_rfl)
      .skip
       refine bA 8 rfl rfl (some 36) rfl (.string ct) w5 (by go_simp) ?_;simp only[Act.put,aX,aY,aW];refine ba 6 (bj 6 rfl rfl (some 34) rfl 41 #[.int .i64 pt] (by go_simp) (dD pt w5 hp0 hp1) ?_);simp only[Act.put,aX,aY,aW]
       refine ba 9 (bj 9 rfl rfl (some 37) rfl 43 #[.string ct] (by go_simp) (cT ct w5) ?_);simp only[Act.put,aX,aY,aW];exact tail _ (by kernel_rfl)
     .skip
      refine bA 8 rfl rfl (some 36) rfl (.string ct) w5 (by go_simp) ?_;simp only[Act.put,aX,aY,aW];refine ba 3 (bj 3 rfl rfl (some 31) rfl 19 #[.int .i64 sd,.int .i64 2] (by go_simp) (d7 sd 2 w5 hs0 hs1) ?_);simp only[Act.put,aX,aY,aW]
      refine ba 6 (bj 6 rfl rfl (some 34) rfl 41 #[.int .i64 pt] (by go_simp) (dD pt w5 hp0 hp1) ?_);simp only[Act.put,aX,aY,aW];refine ba 9 (bj 9 rfl rfl (some 37) rfl 43 #[.string ct] (by go_simp) (cT ct w5) ?_);simp only[Act.put,aX,aY,aW];exact tail _ (by kernel_rfl)
    .skip
     refine bA 8 rfl rfl (some 36) rfl (.string ct) w5 (by go_simp) ?_;simp only[Act.put,aX,aY,aW];refine ba 2 (bA 2 rfl rfl (some 30) rfl (.int .i64 sd) w5 (by go_simp) ?_);simp only[Act.put,aX,aY,aW]
     refine ba 3 (bj 3 rfl rfl (some 31) rfl 19 #[.int .i64 sd,.int .i64 2] (by go_simp) (d7 sd 2 w5 hs0 hs1) ?_);simp only[Act.put,aX,aY,aW];refine ba 6 (bj 6 rfl rfl (some 34) rfl 41 #[.int .i64 pt] (by go_simp) (dD pt w5 hp0 hp1) ?_);simp only[Act.put,aX,aY,aW]
     refine ba 9 (bj 9 rfl rfl (some 37) rfl 43 #[.string ct] (by go_simp) (cT ct w5) ?_);simp only[Act.put,aX,aY,aW];exact tail _ (by kernel_rfl)
   .skip
    refine bA 8 rfl rfl (some 36) rfl (.string ct) w5 (by go_simp) ?_;simp only[Act.put,aX,aY,aW];refine gp 2 5 ?_ ?_
    .skip
     refine bA 2 rfl rfl (some 30) rfl (.int .i64 sd) w5 (by go_simp) ?_;simp only[Act.put,aX,aY,aW];refine gp 3 5 ?_ ?_
     .skip
      refine bj 3 rfl rfl (some 31) rfl 19 #[.int .i64 sd,.int .i64 2] (by go_simp) (d7 sd 2 w5 hs0 hs1) ?_;simp only[Act.put,aX,aY,aW];refine ba 5 (bA 5 rfl rfl (some 33) rfl (.int .i64 pt) w5 (by go_simp) ?_);simp only[Act.put,aX,aY,aW]
      refine ba 6 (bj 6 rfl rfl (some 34) rfl 41 #[.int .i64 pt] (by go_simp) (dD pt w5 hp0 hp1) ?_);simp only[Act.put,aX,aY,aW];refine ba 9 (bj 9 rfl rfl (some 37) rfl 43 #[.string ct] (by go_simp) (cT ct w5) ?_);simp only[Act.put,aX,aY,aW];exact tail _ (by kernel_rfl)
     .skip
      refine bA 5 rfl rfl (some 33) rfl (.int .i64 pt) w5 (by go_simp) ?_;simp only[Act.put,aX,aY,aW];refine ba 3 (bj 3 rfl rfl (some 31) rfl 19 #[.int .i64 sd,.int .i64 2] (by go_simp) (d7 sd 2 w5 hs0 hs1) ?_);simp only[Act.put,aX,aY,aW]
      refine ba 6 (bj 6 rfl rfl (some 34) rfl 41 #[.int .i64 pt] (by go_simp) (dD pt w5 hp0 hp1) ?_);simp only[Act.put,aX,aY,aW];refine ba 9 (bj 9 rfl rfl (some 37) rfl 43 #[.string ct] (by go_simp) (cT ct w5) ?_);simp only[Act.put,aX,aY,aW];exact tail _ (by kernel_rfl)
    .skip
     refine bA 5 rfl rfl (some 33) rfl (.int .i64 pt) w5 (by go_simp) ?_;simp only[Act.put,aX,aY,aW];refine ba 2 (bA 2 rfl rfl (some 30) rfl (.int .i64 sd) w5 (by go_simp) ?_);simp only[Act.put,aX,aY,aW]
     refine ba 3 (bj 3 rfl rfl (some 31) rfl 19 #[.int .i64 sd,.int .i64 2] (by go_simp) (d7 sd 2 w5 hs0 hs1) ?_);simp only[Act.put,aX,aY,aW];refine ba 6 (bj 6 rfl rfl (some 34) rfl 41 #[.int .i64 pt] (by go_simp) (dD pt w5 hp0 hp1) ?_);simp only[Act.put,aX,aY,aW]
     refine ba 9 (bj 9 rfl rfl (some 37) rfl 43 #[.string ct] (by go_simp) (cT ct w5) ?_);simp only[Act.put,aX,aY,aW];exact tail _ (by kernel_rfl)
end
end
end Go.Proofs.YtchcmhodnkgojaaGreat
