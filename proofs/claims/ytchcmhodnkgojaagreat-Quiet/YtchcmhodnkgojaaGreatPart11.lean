/- On the way to the last text; put together and shortened by program. -/
import Derived.Test.YtchcmhodnkgojaaGreatPart10
set_option linter.all false
set_option maxRecDepth 100000
set_option maxHeartbeats 8000000
namespace Go.Proofs.YtchcmhodnkgojaaGreat
noncomputable section
section
open Go.RowKit Go.Lib Go.Sort
def jd (F:List Nat)(s d n:Nat)(x:DS)(wL:World)(e:Int)(w':World):Prop:=
 (yB x n≠0/\e=yB x n/\aP w' F s d n x/\eO [] wL w')\/
 (yB x n=0/\∃ps F',sC x n ps/\aP w' F' s d n (x.xE n (eG x n ps)).1/\ci F F' wL/\eO F wL w'/\(x.xE n (eG x n ps)).2= .int .i64 e)
theorem uz.cases {F:List Nat}{s d n:Nat}{x:DS}{wL w':World}{v:Value}(h:uz F s d n x wL v w'):∃(c0 c1:Value) (e:Int),v= .tuple #[.agg #[c0,c1],.int .i64 e]/\c0.oneCell'=true/\c1.oneCell'=true/\jd F s d n x wL e w':=by
 rcases h with⟨h1,rfl,h2,h3⟩|⟨h1,ps,F',h2,h3,h4,h5,⟨cv,h6,rfl,h7,_⟩|⟨e,h6,h7,rfl⟩⟩
 .exact⟨_,_,_,rfl,rfl,rfl,.inl ⟨h1,rfl,h2,h3⟩⟩
 .obtain⟨ad,cap,hv⟩:=ce h7
  subst hv;exact⟨_,_,_,rfl,rfl,rfl,.inr ⟨h1,ps,F',h2,h3,h4,h5,h6⟩⟩
 .exact⟨_,_,_,rfl,rfl,rfl,.inr ⟨h1,ps,F',h2,h3,h4,h5,h7⟩⟩
theorem jd.grow {F:List Nat}{s d n:Nat}{x:DS}{wA wL w w':World}{e:Int}(h:jd F s d n x wL e w)(hA:eO [] wA wL)(f:aO [] w w'):jd F s d n x wA e w':=by
 rcases h with⟨h1,h2,h3,h4⟩|⟨h1,ps,F',h2,h3,h4,h5,h6⟩
 .exact .inl ⟨h1,h2,h3.new f,(hA.trans h4).trans f.blk⟩
 .exact .inr ⟨h1,ps,F',h2,h3.new f,(ci.refl F wA).trans h4 hA.size,((hA.mono).trans h5 (fun i hi=> .inl hi)).trans f.blk,h6⟩
theorem jd.ay {F:List Nat}{s d n:Nat}{x:DS}{wL w:World}{e:Int}(h:jd F s d n x wL e w)(t:Go.Proofs.YtchcmhodnkgojaaGreat.d7)(k:Nat):jd F s d n x wL e (ay w t k):=by
 rcases h with⟨h1,h2,h3,h4⟩|⟨h1,ps,F',h2,h3,h4,h5,h6⟩
 .exact .inl ⟨h1,h2,h3.ay t k,h4.tape t k⟩
 .exact .inr ⟨h1,ps,F',h2,h3.ay t k,h4,h5.tape t k,h6⟩
def Sc (F:List Nat)(s d n:Nat)(x:DS)(k sd pt:Int)(ct:ByteArray)(wL:World)(v:Value)(w':World):Prop:=
 (br k 4≠3/\v=(x.act n k sd pt ct).2/\∃F',aP w' F' s d n (x.act n k sd pt ct).1/\ci F F' wL/\eO F wL w')\/
 (br k 4=3/\∃e:Int,v= .int .i64 e/\jd F s d n x wL e w')
theorem Hg {F Fe:List Nat}{s d n:Nat}{x:DS}{k sd pt:Int}{ct:ByteArray}{wL w2 we:World}{y:DS×Value}{c:Array Value}(ha:x.act n k sd pt ct=y)(h3:br k 4≠3)(hse:aP we Fe s d n y.1)(gw:ci F Fe w2)(Yp:aO F w2 we)(hB:eO [] wL w2)
  (hc:c.getD 4 undef=y.2:=by rfl):∃t d',az.Tb Tryz.f17 (Sc F s d n x k sd pt ct wL) {tmps:=c,defers:=[]} (ay we t d'):=
 ⟨we.tape,we.drawn,y.2,by rw[<-hc];exact results_tmp rfl _ _ _,.inl ⟨h3,by rw[ha],Fe,by rw[ha];exact hse,(ci.refl F wL).trans gw hB.size,(hB.mono).trans Yp.blk (fun i hi=> .inl hi)⟩⟩
open aH aH.Sq in
theorem YB {E:az.Env}{wL:World}{F:List Nat}{s d n:Nat}{x:DS}(k sd pt:Int)(ct:ByteArray)(h:aP wL F s d n x)(hG:pJ wL)(h0:0∉F)(hx:x.Fit 5)(iJ:x.waiting.length<55)(hok:br k 4=3->Bl x n)
  (hk0:-9223372036854775808<=k) (hk1:k<=9223372036854775807) (hs0:-9223372036854775808<=sd) (hs1:sd<=9223372036854775807) (hp0:-9223372036854775808<=pt) (hp1:pt<=9223372036854775807):
  az.CC E 17 #[.pointer (some ⟨s,0,none⟩),.agg (eE k sd pt ct)] (Sc F s d n x k sd pt ct wL) wL:=by
 have hpo:=wN (br pt 7) (oA pt 7);have hco:=yP ct;have hsd:=oA sd 2;have HD:Hid (x.act n k sd pt ct=if br k 4=2 then x.gj n (br sd 2) (dN (br pt 7)) else x.ql n (br sd 2) (dN (br pt 7)) (dg ct)):=rfl;refine az.mz Tryz.func17 rfl ?_;refine az.eK ?_
 refine tj {tmps:=#[.pointer (some ⟨s,0,none⟩),.agg (eE k sd pt ct),undef,undef,undef,undef,undef,undef,undef,undef,undef,undef,undef,undef,undef,undef,undef,undef,undef,undef,undef,undef,undef,undef,undef,undef,undef,undef,undef,undef,undef,undef,undef,undef,undef,undef,undef,undef,undef],defers:=[]} (by kernel_rfl) ?_
 refine az.fo none ⟨_,Tryz.func17⟩ (by kernel_rfl) (by simp) (fun w=>aP w F s d n x/\eO [] wL w) (fun w t k h=>⟨h.1.ay t k,h.2.tape t k⟩) ⟨h,eO.refl _ _⟩ fun w hI hsz=>?_
 obtain⟨hS,hB⟩:=hI;go_wp2_with (with_reducible first|refine bE rfl ?_);refine aj.go (fH rfl 24 _ rfl (.agg (eE k sd pt ct)) rfl ?_);intro w1 b3 l3 f1 r3;have hS1:=hS.new f1;have hB1:=hB.trans f1.blk;have r3':Row w1 b3 (eE k sd pt ct) 24:=r3;clear r3 hS hB f1 l3 hsz h;go_wp2_with fail;refine az.eK (az.eK ?_)
 refine az.fo none ⟨_,Tryz.func17⟩ (by kernel_rfl) (by simp) (fun w=>aP w F s d n x/\eO [] wL w/\Row w b3 (eE k sd pt ct) 24) (fun w t k h=>⟨h.1.ay t k,h.2.1.tape t k,h.2.2⟩) ⟨hS1,hB1,r3'⟩ fun w2 hI hsz=>?_
 clear hS1 hB1 r3' hsz;obtain⟨hS,hB,r3'⟩:=hI;have c0:w2.cell? ⟨b3,0,none⟩=some (.int .i64 k):=by rw[r3'.cell];rfl
 go_wp2_with fail;refine(ed k 4 w2 hk0 hk1).mono ?_;rintro e w3 ⟨rfl,rfl⟩;clear c0;go_wp2_with fail;refine az.NK (az.eK ?_)
 by_cases h2:br k 4=2
 .have h3:br k 4≠3:=by omega
  have HA:Hid (x.act n k sd pt ct=x.gj n (br sd 2) (dN (br pt 7))):=by show _=_;rw[HD.out,if_pos h2]
  rw[h2];clear HD;refine az.fo none ⟨_,Tryz.func17⟩ (by kernel_rfl) (by simp) (fun w=>aP w F s d n x/\eO [] wL w/\Row w b3 (eE k sd pt ct) 24) (fun w t k h=>⟨h.1.ay t k,h.2.1.tape t k,h.2.2⟩) ⟨hS,hB,r3'⟩ fun w4 hI hsz=>?_
  clear hS hB r3' hsz;obtain⟨hS,hB,r3'⟩:=hI;go_wp2_with fail;refine az.vu (b:=true) rfl ?_;rw[if_pos rfl];refine az.fo none ⟨_,Tryz.func17⟩ (by kernel_rfl) (by simp) (fun w=>aP w F s d n x/\eO [] wL w/\Row w b3 (eE k sd pt ct) 24) (fun w t k h=>⟨h.1.ay t k,h.2.1.tape t k,h.2.2⟩) ⟨hS,hB,r3'⟩ fun w2 hI hsz=>?_
  clear hS hB r3' hsz;obtain⟨h1,hB,r3'⟩:=hI;have f1:aO [] w2 w2:=aO.refl _ _;go_wp2_with fail;refine fu 9 rfl ?_;have fd:aO [] w2 w2.drew:=aO.drew _ _;have h5:=h1.new fd;have r5:=fd.row r3';have uT:=f1.trans fd;generalize w2.drew=w5 at h5 r5 uT;have c1:w5.cell? ⟨b3,1,none⟩=some (.int .i64 sd):=by rw[r5.cell];rfl
  have c2:w5.cell? ⟨b3,2,none⟩=some (.int .i64 pt):=by rw[r5.cell];rfl
  have c3:w5.cell? ⟨b3,3,none⟩=some (.string ct):=by rw[r5.cell];rfl
  clear fd h1 r3' f1 r5 h2;refine sy ?_;refine d6 0 (some 12) rfl rfl (fun _ _ _ h=>h) rfl (v:=(.pointer (some ⟨s,0,none⟩))) (fun _=>rfl) ?_;refine d6 1 (some 13) rfl rfl (fun _ _ _ h=>h) rfl (v:=(.pointer (some ⟨b3,1,none⟩))) (fun _=>by go_simp) ?_
  refine d6 4 (some 16) rfl rfl (fun _ _ _ h=>h) rfl (v:=(.pointer (some ⟨b3,2,none⟩))) (fun _=>by go_simp) ?_;simp only[Act.put,aX,aY,aW]
  refine Bi (m:=2) (Y:=Unit) [6,5,4,3,2,1,0] (fun _=>True) (fun _ a=>((((a.put (some 14) (.int .i64 sd)).put (some 17) (.int .i64 pt)).put (some 15) (.int .i64 (br sd 2:Nat))).put (some 18) (.string (dN (br pt 7))))) (fun _=>w5) ?_ ?_
  .intro _ _
   simp only[Act.put,aX,aY,aW];refine ba 7 (mc 7 rfl rfl (some 19) rfl 42 #[.pointer (some ⟨s,0,none⟩),.int .i64 (br sd 2:Nat),.string (dN (br pt 7))] (by go_simp) _ (Ag F s d n x (br sd 2) (dN (br pt 7)) w5 h5 ⟨hx.j7,by have:=hx.j6;omega,hx.j5,hx.j4⟩ (by omega) (by omega) hpo.1 (by omega)) ?_)
   rintro e we ⟨rfl,⟨Fe,hse,ge⟩,fe⟩;refine⟨_,rfl,?_⟩;have Yp:aO F w2 we:=(uT.mono (T:=F) (by simp)).trans fe (fun i hi=> .inl hi);have gw:=(ci.refl F w2).trans ge uT.size;clear c1 c2 c3 h5 fe ge;generalize hpx:x.gj n (br sd 2) (dN (br pt 7))=y at*;have HPX:Hid (x.gj n (br sd 2) (dN (br pt 7))=y):=hpx;clear hpx;simp only[Act.put,aX,aY,aW]
   refine ba 8 (bv 8 rfl rfl (some 4) rfl y.2 we rfl ?_);refine sx ?_;simp only[Act.put,aX,aY,aW];go_wp2_with fail;exact Hg HA.out h3 hse gw Yp hB
  intro tE;have tail:=fun l hl=>tE () l hl trivial
  simp only[Act.put,aX,aY,aW] at tail;clear tE;refine gP 2 5 ?_ ?_
  .skip
   refine bv 2 rfl rfl (some 14) rfl (.int .i64 sd) w5 (by go_simp) ?_;simp only[Act.put,aX,aY,aW];refine gP 3 5 ?_ ?_
   .skip
    refine bi 3 rfl rfl (some 15) rfl 19 #[.int .i64 sd,.int .i64 2] (by go_simp) (ed sd 2 w5 hs0 hs1) ?_;simp only[Act.put,aX,aY,aW];refine ba 5 (bv 5 rfl rfl (some 17) rfl (.int .i64 pt) w5 (by go_simp) ?_);simp only[Act.put,aX,aY,aW]
    refine ba 6 (bi 6 rfl rfl (some 18) rfl 41 #[.int .i64 pt] (by go_simp) (dy pt w5 hp0 hp1) ?_);simp only[Act.put,aX,aY,aW];exact tail _ (by kernel_rfl)
   .skip
    refine bv 5 rfl rfl (some 17) rfl (.int .i64 pt) w5 (by go_simp) ?_;simp only[Act.put,aX,aY,aW];refine ba 3 (bi 3 rfl rfl (some 15) rfl 19 #[.int .i64 sd,.int .i64 2] (by go_simp) (ed sd 2 w5 hs0 hs1) ?_);simp only[Act.put,aX,aY,aW]
    refine ba 6 (bi 6 rfl rfl (some 18) rfl 41 #[.int .i64 pt] (by go_simp) (dy pt w5 hp0 hp1) ?_);simp only[Act.put,aX,aY,aW];exact tail _ (by kernel_rfl)
  .skip
   refine bv 5 rfl rfl (some 17) rfl (.int .i64 pt) w5 (by go_simp) ?_;simp only[Act.put,aX,aY,aW];refine ba 2 (bv 2 rfl rfl (some 14) rfl (.int .i64 sd) w5 (by go_simp) ?_);simp only[Act.put,aX,aY,aW]
   refine ba 3 (bi 3 rfl rfl (some 15) rfl 19 #[.int .i64 sd,.int .i64 2] (by go_simp) (ed sd 2 w5 hs0 hs1) ?_);simp only[Act.put,aX,aY,aW];refine ba 6 (bi 6 rfl rfl (some 18) rfl 41 #[.int .i64 pt] (by go_simp) (dy pt w5 hp0 hp1) ?_);simp only[Act.put,aX,aY,aW]
   exact tail _ (by kernel_rfl)
 .have hm2:(((br k 4:Nat):Int)==2)=false:=by rw[beq_eq_false_iff_ne];omega
  refine az.fo none ⟨_,Tryz.func17⟩ (by kernel_rfl) (by simp) (fun w=>aP w F s d n x/\eO [] wL w/\Row w b3 (eE k sd pt ct) 24) (fun w t k h=>⟨h.1.ay t k,h.2.1.tape t k,h.2.2⟩) ⟨hS,hB,r3'⟩ fun w4 hI hsz=>?_
  clear hS hB r3' hsz;obtain⟨hS,hB,r3'⟩:=hI;go_wp2_with fail;refine az.vu (b:=false) rfl ?_;rw[if_neg (by simp)];refine az.eK ?_
  by_cases h3:br k 4=3
  .rw[h3]
   refine az.fo none ⟨_,Tryz.func17⟩ (by kernel_rfl) (by simp) (fun w=>aP w F s d n x/\eO [] wL w) (fun w t k h=>⟨h.1.ay t k,h.2.tape t k⟩) ⟨hS,hB⟩ fun w5 hI hsz=>?_
   clear hS hB r3' hsz;obtain⟨hS,hB⟩:=hI;go_wp2_with fail;refine az.vu (b:=true) rfl ?_;rw[if_pos rfl];refine az.eK (az.dZ (eZ _ rfl (.inr rfl) rfl ?_))
   refine kV (f2:=31) #[.tmp 23] #[.pointer (some ⟨s,0,none⟩)] (R2:=uz F s d n x w5) rfl rfl (by kernel_rfl) (fun b w=>by kernel_rfl) (by kernel_rfl) (vv hS (hG.blk hB (by simp)) h0 (hok h3)) fun v w6 hR _=>?_
   obtain⟨q0,q1,e,rfl,o0,o1,hE⟩:=hR.cases;refine eZ _ rfl (.inr rfl) rfl (ng (w1:=w6) (.agg #[q0,q1]) rfl rfl (fun t d=>by kernel_rfl) (ng (w1:=w6) (.int .i64 e) rfl rfl (fun t d=>by kernel_rfl) ?_))
   refine tj {tmps:=#[.pointer (some ⟨s,0,none⟩),.agg (eE k sd pt ct),undef,.pointer (some ⟨b3,0,none⟩),.int .i64 0,undef,undef,.pointer (some ⟨b3,0,none⟩),.int .i64 k,.int .i64 (3:Nat),.bool false,.bool false,undef,undef,undef,undef,undef,undef,undef,undef,.bool true,.bool true,.tuple #[.agg #[q0,q1],.int .i64 e],.pointer (some ⟨s,0,none⟩),.tuple #[.agg #[q0,q1],.int .i64 e],.agg #[q0,q1],.int .i64 e,undef,undef,undef,undef,undef,undef,undef,undef,undef,undef,undef,undef],defers:=[]} (by kernel_rfl) ?_
   refine Rx 5 rfl ⟨_,Tryz.func17⟩ (by kernel_rfl) (fun w=>jd F s d n x w5 e w) (fun w t k h=>h.ay t k) hE fun w7 hE7 _=>?_
   clear hE hS;show wpList _ _ _ [_,_,_] _ _;refine ax rfl ?_;refine aj.go (bm rfl 58 rfl _ jI ?_);intro w8 b8 l8 f8 r8;go_wp2_with (with_reducible first|refine af 58 rfl ?_);refine aj.go (fY rfl 58 _ _ rfl b8 rfl #[q0,q1] rfl ew (by simp[o0,o1]) _ _ r8 rfl ?_);intro w9 f9 r9;have f79:aO [] w7 w9:=f8.trans f9 (by simpa using l8)
   have hE9:=hE7.grow hB f79;clear f8 f9 r8 r9 l8 hE7 f79;go_wp2_with fail;refine az.fo none ⟨_,Tryz.func17⟩ (by kernel_rfl) (by simp) (fun w=>jd F s d n x wL e w) (fun w t k h=>h.ay t k) hE9 fun w7 hE7 _=>?_
   go_wp2_with fail;exact⟨w7.tape,w7.drawn,.int .i64 e,by kernel_rfl,.inr ⟨h3,e,rfl,hE7⟩⟩
  .have hm3:(((br k 4:Nat):Int)==3)=false:=by rw[beq_eq_false_iff_ne];omega
   have HA:Hid (x.act n k sd pt ct=x.ql n (br sd 2) (dN (br pt 7)) (dg ct)):=by show _=_;rw[HD.out,if_neg h2]
   have H3:Hid (br k 4≠3):=h3;have hmk:∃mk,br k 4=mk:=⟨_,rfl⟩
   clear HD hok;refine az.fo none ⟨_,Tryz.func17⟩ (by kernel_rfl) (by simp) (fun w=>aP w F s d n x/\eO [] wL w/\Row w b3 (eE k sd pt ct) 24) (fun w t k h=>⟨h.1.ay t k,h.2.1.tape t k,h.2.2⟩) ⟨hS,hB,r3'⟩ fun w5 hI hsz=>?_
   clear hS hB r3' hsz;obtain⟨hS,hB,r3'⟩:=hI;go_wp2_with fail;refine az.vu (b:=false) rfl ?_;rw[if_neg (by simp)];refine az.Ry (az.FF ?_);refine az.fo none ⟨_,Tryz.func17⟩ (by kernel_rfl) (by simp) (fun w=>aP w F s d n x/\eO [] wL w/\Row w b3 (eE k sd pt ct) 24) (fun w t k h=>⟨h.1.ay t k,h.2.1.tape t k,h.2.2⟩) ⟨hS,hB,r3'⟩ fun w2 hI hsz=>?_
   clear hS hB r3' hsz hm2 hm3 h2;obtain⟨h1,hB,r3'⟩:=hI;have f1:aO [] w2 w2:=aO.refl _ _;have h2:True:=trivial;go_wp2_with fail;refine fu 12 rfl ?_;have fd:aO [] w2 w2.drew:=aO.drew _ _;have h5:=h1.new fd;have r5:=fd.row r3';have uT:=f1.trans fd;generalize w2.drew=w5 at h5 r5 uT;have c1:w5.cell? ⟨b3,1,none⟩=some (.int .i64 sd):=by rw[r5.cell];rfl
   have c2:w5.cell? ⟨b3,2,none⟩=some (.int .i64 pt):=by rw[r5.cell];rfl
   have c3:w5.cell? ⟨b3,3,none⟩=some (.string ct):=by rw[r5.cell];rfl
   clear fd h1 r3' f1 r5 h2;refine sy ?_;refine d6 0 (some 28) rfl rfl (fun _ _ _ h=>h) rfl (v:=(.pointer (some ⟨s,0,none⟩))) (fun _=>rfl) ?_;refine d6 1 (some 29) rfl rfl (fun _ _ _ h=>h) rfl (v:=(.pointer (some ⟨b3,1,none⟩))) (fun _=>by go_simp) ?_
   refine d6 4 (some 32) rfl rfl (fun _ _ _ h=>h) rfl (v:=(.pointer (some ⟨b3,2,none⟩))) (fun _=>by go_simp) ?_;refine d6 7 (some 35) rfl rfl (fun _ _ _ h=>h) rfl (v:=(.pointer (some ⟨b3,3,none⟩))) (fun _=>by go_simp) ?_;simp only[Act.put,aX,aY,aW]
   refine Bi (m:=2) (Y:=Unit) [9,8,7,6,5,4,3,2,1,0] (fun _=>True) (fun _ a=>((((((a.put (some 30) (.int .i64 sd)).put (some 33) (.int .i64 pt)).put (some 36) (.string ct)).put (some 31) (.int .i64 (br sd 2:Nat))).put (some 34) (.string (dN (br pt 7)))).put (some 37) (.string (dg ct)))) (fun _=>w5) ?_ ?_
   .intro _ _
    simp only[Act.put,aX,aY,aW];refine ba 10 (mc 10 rfl rfl (some 38) rfl 39 #[.pointer (some ⟨s,0,none⟩),.int .i64 (br sd 2:Nat),.string (dN (br pt 7)),.string (dg ct)] (by go_simp) _ (zk F s d n x (br sd 2) (dN (br pt 7)) (dg ct) w5 h5 hx iJ (by omega) hpo.1 (by omega) hco) ?_);rintro e we ⟨rfl,⟨Fe,hse,ge⟩,fe⟩
    refine⟨_,rfl,?_⟩;have Yp:aO F w2 we:=(uT.mono (T:=F) (by simp)).trans fe (fun i hi=> .inl hi);have gw:=(ci.refl F w2).trans ge uT.size;clear c1 c2 c3 h5 fe ge;generalize hpx:x.ql n (br sd 2) (dN (br pt 7)) (dg ct)=y at*;have HPX:Hid (x.ql n (br sd 2) (dN (br pt 7)) (dg ct)=y):=hpx;clear hpx;simp only[Act.put,aX,aY,aW]
    refine ba 11 (bv 11 rfl rfl (some 4) rfl y.2 we rfl ?_);refine sx ?_;simp only[Act.put,aX,aY,aW];go_wp2_with fail;exact Hg HA.out h3 hse gw Yp hB
   intro tE;have tail:=fun l hl=>tE () l hl trivial
   simp only[Act.put,aX,aY,aW] at tail;clear tE;refine D6 2 5 8 (by kernel_rfl) (by omega) (by omega) (by omega) ?_ ?_ ?_
   .skip
    refine bv 2 rfl rfl (some 30) rfl (.int .i64 sd) w5 (by go_simp) ?_;simp only[Act.put,aX,aY,aW];refine D6 3 5 8 (by kernel_rfl) (by omega) (by omega) (by omega) ?_ ?_ ?_
    .skip
     refine bi 3 rfl rfl (some 31) rfl 19 #[.int .i64 sd,.int .i64 2] (by go_simp) (ed sd 2 w5 hs0 hs1) ?_;simp only[Act.put,aX,aY,aW];refine gP 5 8 ?_ ?_
     .skip
      refine bv 5 rfl rfl (some 33) rfl (.int .i64 pt) w5 (by go_simp) ?_;simp only[Act.put,aX,aY,aW];refine gP 6 8 ?_ ?_
      .skip
       refine bi 6 rfl rfl (some 34) rfl 41 #[.int .i64 pt] (by go_simp) (dy pt w5 hp0 hp1) ?_;simp only[Act.put,aX,aY,aW];refine ba 8 (bv 8 rfl rfl (some 36) rfl (.string ct) w5 (by go_simp) ?_);simp only[Act.put,aX,aY,aW]
       refine ba 9 (bi 9 rfl rfl (some 37) rfl 43 #[.string ct] (by go_simp) (cT ct w5) ?_);simp only[Act.put,aX,aY,aW];exact tail _ (by kernel_rfl)
      .skip
       refine bv 8 rfl rfl (some 36) rfl (.string ct) w5 (by go_simp) ?_;simp only[Act.put,aX,aY,aW];refine ba 6 (bi 6 rfl rfl (some 34) rfl 41 #[.int .i64 pt] (by go_simp) (dy pt w5 hp0 hp1) ?_);simp only[Act.put,aX,aY,aW]
       refine ba 9 (bi 9 rfl rfl (some 37) rfl 43 #[.string ct] (by go_simp) (cT ct w5) ?_);simp only[Act.put,aX,aY,aW];exact tail _ (by kernel_rfl)
     .skip
      refine bv 8 rfl rfl (some 36) rfl (.string ct) w5 (by go_simp) ?_;simp only[Act.put,aX,aY,aW];refine ba 5 (bv 5 rfl rfl (some 33) rfl (.int .i64 pt) w5 (by go_simp) ?_);simp only[Act.put,aX,aY,aW];refine ba 6 (bi 6 rfl rfl (some 34) rfl 41 #[.int .i64 pt] (by go_simp) (dy pt w5 hp0 hp1) ?_)
      simp only[Act.put,aX,aY,aW];refine ba 9 (bi 9 rfl rfl (some 37) rfl 43 #[.string ct] (by go_simp) (cT ct w5) ?_);simp only[Act.put,aX,aY,aW];exact tail _ (by kernel_rfl)
    .skip
     refine bv 5 rfl rfl (some 33) rfl (.int .i64 pt) w5 (by go_simp) ?_;simp only[Act.put,aX,aY,aW];refine gP 3 8 ?_ ?_
     .skip
      refine bi 3 rfl rfl (some 31) rfl 19 #[.int .i64 sd,.int .i64 2] (by go_simp) (ed sd 2 w5 hs0 hs1) ?_;simp only[Act.put,aX,aY,aW];refine gP 6 8 ?_ ?_
      .skip
       refine bi 6 rfl rfl (some 34) rfl 41 #[.int .i64 pt] (by go_simp) (dy pt w5 hp0 hp1) ?_;simp only[Act.put,aX,aY,aW];refine ba 8 (bv 8 rfl rfl (some 36) rfl (.string ct) w5 (by go_simp) ?_);simp only[Act.put,aX,aY,aW]
       refine ba 9 (bi 9 rfl rfl (some 37) rfl 43 #[.string ct] (by go_simp) (cT ct w5) ?_);simp only[Act.put,aX,aY,aW];exact tail _ (by kernel_rfl)
      .skip
       refine bv 8 rfl rfl (some 36) rfl (.string ct) w5 (by go_simp) ?_;simp only[Act.put,aX,aY,aW];refine ba 6 (bi 6 rfl rfl (some 34) rfl 41 #[.int .i64 pt] (by go_simp) (dy pt w5 hp0 hp1) ?_);simp only[Act.put,aX,aY,aW]
       refine ba 9 (bi 9 rfl rfl (some 37) rfl 43 #[.string ct] (by go_simp) (cT ct w5) ?_);simp only[Act.put,aX,aY,aW];exact tail _ (by kernel_rfl)
     .skip
      refine bv 8 rfl rfl (some 36) rfl (.string ct) w5 (by go_simp) ?_;simp only[Act.put,aX,aY,aW];refine ba 3 (bi 3 rfl rfl (some 31) rfl 19 #[.int .i64 sd,.int .i64 2] (by go_simp) (ed sd 2 w5 hs0 hs1) ?_);simp only[Act.put,aX,aY,aW]
      refine ba 6 (bi 6 rfl rfl (some 34) rfl 41 #[.int .i64 pt] (by go_simp) (dy pt w5 hp0 hp1) ?_);simp only[Act.put,aX,aY,aW];refine ba 9 (bi 9 rfl rfl (some 37) rfl 43 #[.string ct] (by go_simp) (cT ct w5) ?_);simp only[Act.put,aX,aY,aW];exact tail _ (by kernel_rfl)
    .skip
     refine bv 8 rfl rfl (some 36) rfl (.string ct) w5 (by go_simp) ?_;simp only[Act.put,aX,aY,aW];refine gP 3 5 ?_ ?_
     .skip
      refine bi 3 rfl rfl (some 31) rfl 19 #[.int .i64 sd,.int .i64 2] (by go_simp) (ed sd 2 w5 hs0 hs1) ?_;simp only[Act.put,aX,aY,aW];refine ba 5 (bv 5 rfl rfl (some 33) rfl (.int .i64 pt) w5 (by go_simp) ?_);simp only[Act.put,aX,aY,aW]
      refine ba 6 (bi 6 rfl rfl (some 34) rfl 41 #[.int .i64 pt] (by go_simp) (dy pt w5 hp0 hp1) ?_);simp only[Act.put,aX,aY,aW];refine ba 9 (bi 9 rfl rfl (some 37) rfl 43 #[.string ct] (by go_simp) (cT ct w5) ?_);simp only[Act.put,aX,aY,aW];exact tail _ (by kernel_rfl)
     .skip
      refine bv 5 rfl rfl (some 33) rfl (.int .i64 pt) w5 (by go_simp) ?_;simp only[Act.put,aX,aY,aW];refine ba 3 (bi 3 rfl rfl (some 31) rfl 19 #[.int .i64 sd,.int .i64 2] (by go_simp) (ed sd 2 w5 hs0 hs1) ?_);simp only[Act.put,aX,aY,aW]
      refine ba 6 (bi 6 rfl rfl (some 34) rfl 41 #[.int .i64 pt] (by go_simp) (dy pt w5 hp0 hp1) ?_);simp only[Act.put,aX,aY,aW];refine ba 9 (bi 9 rfl rfl (some 37) rfl 43 #[.string ct] (by go_simp) (cT ct w5) ?_);simp only[Act.put,aX,aY,aW];exact tail _ (by kernel_rfl)
   .skip
    refine bv 5 rfl rfl (some 33) rfl (.int .i64 pt) w5 (by go_simp) ?_;simp only[Act.put,aX,aY,aW];refine gP 2 8 ?_ ?_
    .skip
     refine bv 2 rfl rfl (some 30) rfl (.int .i64 sd) w5 (by go_simp) ?_;simp only[Act.put,aX,aY,aW];refine gP 3 8 ?_ ?_
     .skip
      refine bi 3 rfl rfl (some 31) rfl 19 #[.int .i64 sd,.int .i64 2] (by go_simp) (ed sd 2 w5 hs0 hs1) ?_;simp only[Act.put,aX,aY,aW];refine gP 6 8 ?_ ?_
      .skip
       refine bi 6 rfl rfl (some 34) rfl 41 #[.int .i64 pt] (by go_simp) (dy pt w5 hp0 hp1) ?_;simp only[Act.put,aX,aY,aW];refine ba 8 (bv 8 rfl rfl (some 36) rfl (.string ct) w5 (by go_simp) ?_);simp only[Act.put,aX,aY,aW]
       refine ba 9 (bi 9 rfl rfl (some 37) rfl 43 #[.string ct] (by go_simp) (cT ct w5) ?_);simp only[Act.put,aX,aY,aW];exact tail _ (by kernel_rfl)
      .skip
       refine bv 8 rfl rfl (some 36) rfl (.string ct) w5 (by go_simp) ?_;simp only[Act.put,aX,aY,aW];refine ba 6 (bi 6 rfl rfl (some 34) rfl 41 #[.int .i64 pt] (by go_simp) (dy pt w5 hp0 hp1) ?_);simp only[Act.put,aX,aY,aW]
       refine ba 9 (bi 9 rfl rfl (some 37) rfl 43 #[.string ct] (by go_simp) (cT ct w5) ?_);simp only[Act.put,aX,aY,aW];exact tail _ (by kernel_rfl)
     .skip
      refine bv 8 rfl rfl (some 36) rfl (.string ct) w5 (by go_simp) ?_;simp only[Act.put,aX,aY,aW];refine ba 3 (bi 3 rfl rfl (some 31) rfl 19 #[.int .i64 sd,.int .i64 2] (by go_simp) (ed sd 2 w5 hs0 hs1) ?_);simp only[Act.put,aX,aY,aW]
      refine ba 6 (bi 6 rfl rfl (some 34) rfl 41 #[.int .i64 pt] (by go_simp) (dy pt w5 hp0 hp1) ?_);simp only[Act.put,aX,aY,aW];refine ba 9 (bi 9 rfl rfl (some 37) rfl 43 #[.string ct] (by go_simp) (cT ct w5) ?_);simp only[Act.put,aX,aY,aW];exact tail _ (by kernel_rfl)
    .skip
     refine bv 8 rfl rfl (some 36) rfl (.string ct) w5 (by go_simp) ?_;simp only[Act.put,aX,aY,aW];refine ba 2 (bv 2 rfl rfl (some 30) rfl (.int .i64 sd) w5 (by go_simp) ?_);simp only[Act.put,aX,aY,aW]
     refine ba 3 (bi 3 rfl rfl (some 31) rfl 19 #[.int .i64 sd,.int .i64 2] (by go_simp) (ed sd 2 w5 hs0 hs1) ?_);simp only[Act.put,aX,aY,aW];refine ba 6 (bi 6 rfl rfl (some 34) rfl 41 #[.int .i64 pt] (by go_simp) (dy pt w5 hp0 hp1) ?_);simp only[Act.put,aX,aY,aW]
     refine ba 9 (bi 9 rfl rfl (some 37) rfl 43 #[.string ct] (by go_simp) (cT ct w5) ?_);simp only[Act.put,aX,aY,aW];exact tail _ (by kernel_rfl)
   .skip
    refine bv 8 rfl rfl (some 36) rfl (.string ct) w5 (by go_simp) ?_;simp only[Act.put,aX,aY,aW];refine gP 2 5 ?_ ?_
    .skip
     refine bv 2 rfl rfl (some 30) rfl (.int .i64 sd) w5 (by go_simp) ?_;simp only[Act.put,aX,aY,aW];refine gP 3 5 ?_ ?_
     .skip
      refine bi 3 rfl rfl (some 31) rfl 19 #[.int .i64 sd,.int .i64 2] (by go_simp) (ed sd 2 w5 hs0 hs1) ?_;simp only[Act.put,aX,aY,aW];refine ba 5 (bv 5 rfl rfl (some 33) rfl (.int .i64 pt) w5 (by go_simp) ?_);simp only[Act.put,aX,aY,aW]
      refine ba 6 (bi 6 rfl rfl (some 34) rfl 41 #[.int .i64 pt] (by go_simp) (dy pt w5 hp0 hp1) ?_);simp only[Act.put,aX,aY,aW];refine ba 9 (bi 9 rfl rfl (some 37) rfl 43 #[.string ct] (by go_simp) (cT ct w5) ?_);simp only[Act.put,aX,aY,aW];exact tail _ (by kernel_rfl)
     .skip
      refine bv 5 rfl rfl (some 33) rfl (.int .i64 pt) w5 (by go_simp) ?_;simp only[Act.put,aX,aY,aW];refine ba 3 (bi 3 rfl rfl (some 31) rfl 19 #[.int .i64 sd,.int .i64 2] (by go_simp) (ed sd 2 w5 hs0 hs1) ?_);simp only[Act.put,aX,aY,aW]
      refine ba 6 (bi 6 rfl rfl (some 34) rfl 41 #[.int .i64 pt] (by go_simp) (dy pt w5 hp0 hp1) ?_);simp only[Act.put,aX,aY,aW];refine ba 9 (bi 9 rfl rfl (some 37) rfl 43 #[.string ct] (by go_simp) (cT ct w5) ?_);simp only[Act.put,aX,aY,aW];exact tail _ (by kernel_rfl)
    .skip
     refine bv 5 rfl rfl (some 33) rfl (.int .i64 pt) w5 (by go_simp) ?_;simp only[Act.put,aX,aY,aW];refine ba 2 (bv 2 rfl rfl (some 30) rfl (.int .i64 sd) w5 (by go_simp) ?_);simp only[Act.put,aX,aY,aW]
     refine ba 3 (bi 3 rfl rfl (some 31) rfl 19 #[.int .i64 sd,.int .i64 2] (by go_simp) (ed sd 2 w5 hs0 hs1) ?_);simp only[Act.put,aX,aY,aW];refine ba 6 (bi 6 rfl rfl (some 34) rfl 41 #[.int .i64 pt] (by go_simp) (dy pt w5 hp0 hp1) ?_);simp only[Act.put,aX,aY,aW]
     refine ba 9 (bi 9 rfl rfl (some 37) rfl 43 #[.string ct] (by go_simp) (cT ct w5) ?_);simp only[Act.put,aX,aY,aW];exact tail _ (by kernel_rfl)
end
end
end Go.Proofs.YtchcmhodnkgojaaGreat
