/- On the way to the last text; put together and shortened by program. -/
import Derived.Test.YtchcmhodnkgojaaGreatPart8
set_option linter.all false
set_option maxRecDepth 100000
set_option maxHeartbeats 8000000
namespace Go.Proofs.YtchcmhodnkgojaaGreat
noncomputable section
section
open Go.Conc
open Go.ConcM (OsLater)
namespace aH
section
variable {Δ:Type}{X:Cx Δ}{Post:Gh Δ->Goroutine->World->Prop}{γ:Gh Δ}{w:World}{fr:Frame}{cs:List Frame}{k:Nat}
theorem Nn {T T':Lo}{g acu:Goroutine}(R:Room X γ)(hT:(T=at_ .e1 0/\T'=at_ .g1 0)\/(T=at_ .e2 0/\T'=at_ .g2 0))(hen:ie g=some (170,#[]))(hg:au PP true (cX g) acu)
  (go:∀k' w',RR X γ w w'->LS X Post γ k' T' acu w'):LS X Post γ k T g w:=by
 rcases hT with⟨rfl,rfl⟩|⟨rfl,rfl⟩
 .exact j7 R (T':=at_ .g1 0) (g':=cX g) (by simp) (by simp) (oy hen) (fun w=>jh Ys .enable (by simp) YX hen) (by simp[mv]) (by simp[EvStop,ja,pJ]) (by simp) (by simp) (by simp) (by simp) (by simp) (by simp) fun k' w' _ hr=>aC hg (go k' w' hr)
 .exact j7 R (T':=at_ .g2 0) (g':=cX g) (by simp) (by simp) (oy hen) (fun w=>jh Ys .enable (by simp) YX hen) (by simp[mv]) (by simp[EvStop,ja,pJ]) (by simp) (by simp) (by simp) (by simp) (by simp) (by simp) fun k' w' _ hr=>aC hg (go k' w' hr)
theorem add1 (R:Room X γ)(live:∃s,ShAt X w s)(go:∀k' w',RR X γ w w'->LS X Post γ k' (at_ .g1 0) (cC fr cs U) w'):LS X Post γ k (at_ .k1 0) (UT X.Wg fr cs) w:=by
 refine aC (Kx _ _ _) (j7 R (T':=at_ .x1 0) (g':=resume (Yz X.Wg fr cs) U) (by simp) (by simp) (aU (uC _ _ _)) (fun w=>jg GR .disable IX (uC _ _ _)) (by simp[mv]) (by simp[EvStop,ja,pJ]) (by simp) (by simp) (by simp) (by simp) (by simp) (by simp) fun k1 w1 hk1 hr1=>?_)
 refine aC (Kw _ _ _) (tI ST XP (FL _ _ _) (aC (Kv _ _ _) ?_));refine lx (T:=at_ .x1 0) fun k2 w2 hk2 hr2=>cZ (aU (uB _ _ _)) (by simp) (by simp) (by simp) (by simp) (fun s _ hf hn=>?_) (fun s hsh hf _=>?_)
 .exfalso
  by_cases h:s.wg=0<;>simp[mv,h] at hn
 by_cases h:¬s.wg=0
 .exact⟨(at_ .bad 0,s),by simp[mv,h],fun q=>absurd rfl q⟩
 have h:s.wg=0:=Decidable.not_not.1 h;have st:=qz (P:=PP) (main:=true) (w:=w2) (ad:=wA X) JK .u64 Mv (uB X.Wg fr cs) hsh.Jj (hsh.NL 0);have hsh':=hsh.setWg R.ne 4294967296;have ef:=ConcM.Eff.set (w:=w2) (Mu:=X.Fd) (Wg:=X.Wg) (wA X) (.int .u64 4294967296) (.inr rfl);have e:IntKind.u64.wrap (s.wg+4294967296)=4294967296:=by rw[h];decide
 rw[e] at st;refine⟨(at_ .p1 0,{s with wg:=KKi}),by simp[mv,h],fun _=>⟨_,_,_,st,hsh',ef,ot (okW R.ne) rfl,?_⟩⟩;rw[if_neg (by simp)];have H2:=(hr1.trans X hr2).trans X (R.rx ef hsh');refine aC (Ku _ _ _) (lh (Kt _ _ _) RP RQ RM (fun w3 h3=>?_) (aC (Ks _ _ _) ?_))
 .obtain⟨s,hs⟩:=(H2.trans X h3).live live
  exact⟨_,hs.Y1⟩
 refine j7 R (T':=at_ .e1 0) (g':=resume (Yx X.Wg fr cs) U) (by simp) (by simp) (aU (z5 _ _ _)) (fun w=>fA xRd .read fRd (z5 _ _ _)) (by simp[mv]) (by simp[EvStop,ja];rfl) (by simp) (by simp) (by simp) (by simp) (by simp) (by simp) fun k4 w4 hk4 hr4=>?_
 exact aC (Kr _ _ _) (Nn R (.inl ⟨rfl,rfl⟩) (Kq _ _ _) (FK _ _ _) fun k5 w5 hr5=>go k5 w5 ((H2.trans X hr4).trans X hr5))
theorem ahr (R:Room X γ)(live:∃s,ShAt X w s)(go:∀k' w',RR X γ w w'->LS X Post γ k' (at_ .g2 0) (cC fr cs U) w'):LS X Post γ k (at_ .k2 0) (UT X.Wg fr cs) w:=by
 refine aC (Kx _ _ _) (j7 R (T':=at_ .x2 0) (g':=resume (Yz X.Wg fr cs) U) (by simp) (by simp) (aU (uC _ _ _)) (fun w=>jg GR .disable IX (uC _ _ _)) (by simp[mv]) (by simp[EvStop,ja,pJ]) (by simp) (by simp) (by simp) (by simp) (by simp) (by simp) fun k1 w1 hk1 hr1=>?_)
 refine aC (Kw _ _ _) (tI ST XP (FL _ _ _) (aC (Kv _ _ _) ?_));refine lx (T:=at_ .x2 0) fun k2 w2 hk2 hr2=>cZ (aU (uB _ _ _)) (by simp) (by simp) (by simp) (by simp) (fun s _ hf hn=>?_) (fun s hsh hf _=>?_)
 .exfalso
  rcases hf.2.2.1 with h|h|h|h|h|h<;>simp[mv,h,KKi] at hn
 have st:=qz (P:=PP) (main:=true) (w:=w2) (ad:=wA X) JK .u64 Mv (uB X.Wg fr cs) hsh.Jj (hsh.NL 0)
 by_cases h:s.wg=0
 .have hsh':=hsh.setWg R.ne 4294967296
  have ef:=ConcM.Eff.set (w:=w2) (Mu:=X.Fd) (Wg:=X.Wg) (wA X) (.int .u64 4294967296) (.inr rfl);have e:IntKind.u64.wrap (s.wg+4294967296)=4294967296:=by rw[h];decide
  rw[e] at st;refine⟨(at_ .p2 0,{s with wg:=KKi}),by simp[mv,h],fun _=>⟨_,_,_,st,hsh',ef,ot (okW R.ne) rfl,?_⟩⟩;rw[if_neg (by simp)];have H2:=(hr1.trans X hr2).trans X (R.rx ef hsh');refine aC (Ku _ _ _) (lh (Kt _ _ _) RP RQ RM (fun w3 h3=>?_) (aC (Ks _ _ _) ?_))
  .obtain⟨s,hs⟩:=(H2.trans X h3).live live
   exact⟨_,hs.Y1⟩
  refine j7 R (T':=at_ .e2 0) (g':=resume (Yx X.Wg fr cs) U) (by simp) (by simp) (aU (z5 _ _ _)) (fun w=>fA xRd .read fRd (z5 _ _ _)) (by simp[mv]) (by simp[EvStop,ja];rfl) (by simp) (by simp) (by simp) (by simp) (by simp) (by simp) fun k4 w4 hk4 hr4=>?_
  exact aC (Kr _ _ _) (Nn R (.inr ⟨rfl,rfl⟩) (Kq _ _ _) (FK _ _ _) fun k5 w5 hr5=>go k5 w5 ((H2.trans X hr4).trans X hr5))
 .by_cases h1:¬s.wg=KKi
  .exact⟨(at_ .bad 0,s),by simp[mv,h,h1],fun q=>absurd rfl q⟩
  have h1:s.wg=KKi:=Decidable.not_not.1 h1;have hsh':=hsh.setWg R.ne 8589934592;have ef:=ConcM.Eff.set (w:=w2) (Mu:=X.Fd) (Wg:=X.Wg) (wA X) (.int .u64 8589934592) (.inr rfl);have e:IntKind.u64.wrap (s.wg+4294967296)=8589934592:=by rw[h1];decide
  rw[e] at st;refine⟨(at_ .e2 0,{s with wg:=2*KKi}),by simp[mv,h1,KKi],fun _=>⟨_,_,_,st,hsh',ef,ot (okW R.ne) rfl,?_⟩⟩;rw[if_neg (by simp)];have H2:=(hr1.trans X hr2).trans X (R.rx ef hsh');exact aC (US _ _ _) (Nn R (.inr ⟨rfl,rfl⟩) (UR _ _ _) (OV _ _ _) fun k5 w5 hr5=>go k5 w5 (H2.trans X hr5))
theorem adg {T:Lo}{g:Goroutine}(hT:T.pc= .g1\/T.pc= .g2)(h:∀k' w₁,RR X γ w w₁->NE X PP (yB X PP Post k') T γ g w₁):LS X Post γ k T g w:=by
 cases k with
 |zero=>exact aD.stop fun w₁ hr=>⟨γ.mine,fun _=>rfl,trivial⟩
 |succ k=>
  refine aD.stop fun w₁ hr=>⟨γ.mine,fun _=>rfl,?_⟩
  unfold yB;rw[if_pos hT];exact h k w₁ hr
def Yk (X:Cx Δ)(Post:Gh Δ->Goroutine->World->Prop)(Tg:Lo)(γ:Gh Δ)(w:World)(f:Value)(fr:Frame)(cs:List Frame):Prop:=
 ∀k' w' bw bf (own':Nat->Prop),(∀b,γ.own b->own' b)->(∀b,own' b->γ.own b\/w.heap.size<=b)->(∀b,own' b->b<w'.heap.size)->RR X γ w w'->own' bw->own' bf->w'.cell? ⟨bw,0,none⟩=some (pb X.Wg)->w'.cell? ⟨bf,0,none⟩=some f->
  (∀K,aD PP false (eT X false (given {γ with own:=own'}).ro) (dH (GP X PP K (eK Tg.pc)) (at_ .out (X.N (eK Tg.pc))) {given {γ with own:=own'} with mine:=X.c0 (eK Tg.pc)}) (fun _=>False) (YQ bw bf) w')/\
  aD PP true (eT X false (given {γ with own:=own'}).ro) (dH (yB X PP Post k') (gZ Tg.pc) (given {γ with own:=own'})) (fun _=>False) (cC fr cs U) w'
theorem Gp {Tk Tg:Lo}{f:Value}(hTk:eD Tk.pc=false)(hTg:Tg.pc= .g1\/Tg.pc= .g2)(R:Room X γ)(hlow:∀b,γ.own b\/γ.ro b->b<w.heap.size)(live:∃s,ShAt X w s)(hf:∃x,kS x=true/\f=x)
  (hadd:∀(γ':Gh Δ) (k:Nat) (w:World) (fr:Frame) (cs:List Frame),Room X γ'->(∃s,ShAt X w s)->(∀k' w',RR X γ' w w'->LS X Post γ' k' Tg (cC fr cs U) w')->LS X Post γ' k Tk (UT X.Wg fr cs) w)
  (hcells:f.cells=#[f]) (hS:Yk X Post Tg γ w f fr cs):LS X Post γ k Tk (Yv X.Wg f fr cs) w:=by
 obtain⟨s0,hs0⟩:=live;have lf:=lt_of_some hs0.1;have lw:=lt_of_some hs0.2;show aD PP true (eT X (eD Tk.pc) γ.ro) (dH (yB X PP Post k) Tk γ) γ.own (Yv X.Wg f fr cs) w;rw[hTk];refine aC (Ux _ _ _ _) (fX (f:=fun b=>pb b) (Uw _ _ _ _) (fun w1 h1=>⟨#[],vJ _ _,by simp⟩) fun w1 bw h1 hbw wbw=>?_)
 refine aC (Uv _ bw _ _ _) (fX (f:=fun b=>pb b) (Uu _ _ _ _ _) (fun w2 h2=>⟨#[],vJ _ _,by simp⟩) fun w2 bf h2 hbf wbf=>?_);have Zb:=aV h2 (.inl (.inr rfl)) wbw;have cbw:w2.cell? ⟨bw,0,none⟩=some (pb X.Wg):=by simp[World.cell?,Zb,pb,Value.cells]
 refine aC (Ut _ _ bf _ _ _) (CB (Ur _ _ _ _ _ _) (by kernel_rfl) (.inl (.inl (.inr rfl))) cbw fun w3 h3=>?_);have H3:RX X γ.ro γ.own w w3:=h1.trans X ((h2.sub fun b e=> .inl e).trans X (h3.sub fun b e=> .inl (.inl e)));have ae5:=aV h3 (.inl (.inl (.inr rfl))) Zb;have ae7:=aV h3 (.inl (.inr rfl)) wbf
 have R3:Room X {γ with own:=fun b=>(γ.own b\/b=bw)\/b=bf}:=⟨R.ne,fun b hb=>by
  have:=h1.size;have:=h2.size;rcases hb with((hb|rfl)|rfl)|hb
  .exact R.off b (.inl hb)
  .exact⟨by omega,by omega⟩
  .exact⟨by omega,by omega⟩
  .exact R.off b (.inr hb)⟩
 refine aC (Us _ _ _ _ _ _) ?_;have key:LS X Post {γ with own:=fun b=>(γ.own b\/b=bw)\/b=bf} k Tk (UT X.Wg (fG X.Wg bw bf f fr cs) (fr::cs)) w3:=by
  refine hadd _ _ _ _ _ R3 (H3.live ⟨s0,hs0⟩) fun k' w4 h4=>aC (Up _ _ _ _ _ _) (adg hTg fun k5 w5 h5=>?_)
  have h45:=h4.trans X h5;have Za:=aV h45 (.inl (.inl (.inr rfl))) ae5;have Zc:=aV h45 (.inl (.inr rfl)) ae7;have cbf:w5.cell? ⟨bf,0,none⟩=some f:=by simp[World.cell?,Zc,hcells]
  have ahl:w5.cell? ⟨bw,0,none⟩=some (pb X.Wg):=by simp[World.cell?,Za,pb,Value.cells]
  have lbw:=lt_of_some Za;have lbf:=lt_of_some Zc;obtain⟨c1,c2⟩:=hS k5 w5 bw bf (fun b=>(γ.own b\/b=bw)\/b=bf) (fun b h=> .inl (.inl h)) (fun b h=>by
   rcases h with(h|rfl)|rfl
   .exact .inl h
   .exact .inr hbw
   .exact .inr (Nat.le_trans h1.size hbf)) (fun b h=>by
   have:=(H3.trans X (h45.sub fun b e=> .inl (.inl e))).size;rcases h with(h|rfl)|rfl
   .have:=hlow b (.inl h);omega
   .exact lbw
   .exact lbf) (H3.trans X (h45.sub fun b e=> .inl (.inl e))) (.inl (.inr rfl)) (.inr rfl) ahl cbf
  refine⟨(FJ _ _ _ _ _ _).1,(FJ _ _ _ _ _ _).2,_,_,Uo _ _ _ _ _ _ _,c1,aC (OS _ _ _ _ _ _) c2⟩
 have:=key;unfold LS at this;rw[hTk] at this;exact this
end
structure Base (X:Cx iI)(γ:Gh iI)(w:World):Prop where
 dat:X.Dat=E2
 room:Room X γ
 om:¬γ.own X.M
 rm:¬γ.ro X.M
 mf:X.M≠X.Fd
 mw:X.M≠X.Wg
 low:∀b,γ.own b\/γ.ro b->b<w.heap.size
 ml:X.M<w.heap.size
 live:∃s,ShAt X w s
section
variable {X:Cx iI}{γ:Gh iI}{w w':World}
theorem Base.rely (h:Base X γ w)(hr:RR X γ w w'):Base X γ w':=⟨h.dat,h.room,h.om,h.rm,h.mf,h.mw,fun b hb=>Nat.lt_of_lt_of_le (h.low b hb) hr.size,Nat.lt_of_lt_of_le h.ml hr.size,hr.live h.live⟩
theorem Base.grow (h:Base X γ w)(hr:RR X γ w w'){own':Nat->Prop}(h1:∀b,own' b->γ.own b\/w.heap.size<=b)(h2:∀b,own' b->b<w'.heap.size):Base X {γ with own:=own'} w':=by
 obtain⟨s,hs⟩:=h.live;have lf:=lt_of_some hs.1;have lw:=lt_of_some hs.2;have lm:=h.ml;refine⟨h.dat,⟨h.room.ne,fun b hb=>?_⟩,fun hb=>?_,h.rm,h.mf,h.mw,fun b hb=>?_,Nat.lt_of_lt_of_le h.ml hr.size,hr.live h.live⟩
 .rcases hb with hb|hb
  .rcases h1 b hb with hb|hb
   .exact h.room.off b (.inl hb)
   .exact⟨by omega,by omega⟩
  .exact h.room.off b (.inr hb)
 .rcases h1 _ hb with hb|hb
  .exact h.om hb
  .omega
 .rcases hb with hb|hb
  .exact h2 b hb
  .exact Nat.lt_of_lt_of_le (h.low b (.inr hb)) hr.size
theorem Base.given (h:Base X γ w):Base X (given γ) w:=
 ⟨h.dat,⟨h.room.ne,fun b hb=>hb.elim False.elim fun hb=>h.room.off b hb.symm⟩,id,fun hb=>hb.elim h.rm h.om,h.mf,h.mw,fun b hb=>hb.elim False.elim fun hb=>h.low b hb.symm,h.ml,h.live⟩
theorem Base.now (h:Base X γ w){r:bk}(hr:r= .a\/r= .b)(m:iI):Now X r {aH.given γ with mine:=m} w:=
 ⟨⟨h.dat,hr,⟨h.given.room.ne,h.given.room.off⟩,id,h.given.rm,h.mf,h.mw⟩,h.given.low,h.ml,h.live⟩
end
theorem Rt:(PP.info? 3).bind (·.zero)=some (.int .i64 0):=by kernel_rfl
theorem Sf:(PP.info? 3).map (·.size)=some 1:=by kernel_rfl
section
variable {X:Cx iI}{pR O0:Nat->Prop}{w0:World}{gL gR gA:ByteArray->Option ByteArray}{dv:Value}{K bd:Nat}{Rd:World->Prop}{fr:Frame}{cs:List Frame}
def t7 (X:Cx iI)(pR O0:Nat->Prop)(w0:World)(bd:Nat)(dv:Value)(fr:Frame)(cs:List Frame):Gh iI->Goroutine->World->Prop:=fun _ g w=>
 (∃bs bs',au PP true g (cC (fT3 X.Wg X.Fd bd bs bs' X.M dv fr cs) (fr::cs) U))/\(∃o,w.heap[X.M]? =some o/\E2 (X.fin .a) (X.fin .b) o)/\RX X pR O0 w0 w
structure Reads (X:Cx iI)(pR:Nat->Prop)(Rd:World->Prop)(dv:Value)(gL gR gA:ByteArray->Option ByteArray)(K:Nat):Prop where
 keep:∀ro own w w',(∀b,pR b->ro b)->Rd w->RX X ro own w w'->Rd w'
 ca:∀ro,(∀b,pR b->ro b)->Cont X .a ro Rd dv 0 gL K
 cao:∀ro,(∀b,pR b->ro b)->Cont X .a ro Rd dv 2 gA K
 cb:∀ro,(∀b,pR b->ro b)->Cont X .b ro Rd dv 1 gR K
 cbo:∀ro,(∀b,pR b->ro b)->Cont X .b ro Rd dv 2 gA K
 fa:X.fin .a=jG gL gA
 fb:X.fin .b=jG gR gA
 c0:∀r,X.c0 r=fun _=>none
 n:∀r,2*K<=X.N r
variable (hR:Reads X pR Rd dv gL gR gA K)
include hR
theorem ZO {γ:Gh iI}{w:World}{bs bs':Nat}(hB:Base X γ w)(hro:∀b,pR b->γ.ro b)(hO:∀b,O0 b\/pR b->γ.own b\/γ.ro b)(hw:Rd w)(h0:RX X pR O0 w0 w)(FW:γ.ro bd)(SE:w.cell? ⟨bd,0,none⟩=some dv)(obs:γ.own bs')(cbs:w.heap[bs']? =some (.cells #[.int .i64 1] 3 (0,0))):
  Yk X (t7 X pR O0 w0 bd dv fr cs) (at_ .g2 0) γ w (pK X.Fd bd bs') (YV X.Wg X.Fd bd bs bs' X.M dv fr cs) (fr::cs):=by
 intro k' w' bw bf own' a1 a2 a4 a3 ow of cw cf;have B':=hB.grow a3 a2 a4;have MZ:w'.cell? ⟨bd,0,none⟩=some dv:=by
  unfold World.cell? at SE⊢;rw[a3.keep bd (hB.low bd (.inr FW)) (.inr FW)];exact SE
 have X3:w'.cell? ⟨bs',0,none⟩=some (.int .i64 1):=by
  have:=aV a3 (.inl obs) cbs;simp[World.cell?,this]
 have Rw':Rd w':=hR.keep _ _ _ _ hro hw a3;have sub:∀b,pR b->(given {γ with own:=own'}).ro b:=fun b hb=> .inl (hro b hb)
 refine⟨fun Kk=>?_,?_⟩
 .have:=sY (r:= .b) (k:=Kk) (n:=X.N .b) (fun w w' own hw h=>hR.keep _ own w w' sub hw h) (hR.cb _ sub) (hR.cbo _ sub) (hR.n .b) (B'.now (.inr rfl) (X.c0 .b)) rfl Rw' (hR.c0 .b) hR.fb (bw:=bw) (bf:=bf) (bd:=bd) (bs:=bs') (.inr ow) (.inr of) (.inl FW) (.inr (a1 _ obs)) cw cf MZ X3
  exact this
 .refine aC (TK _ _ _ _ _ _ _ _ _) ?_
  have B3:=B'.given;have key:=G2 (Post:=t7 X pR O0 w0 bd dv fr cs) (fr:=fT3 X.Wg X.Fd bd bs bs' X.M dv fr cs) (cs:=fr::cs) (k:=k') B3.room B3.live (fun w'' o g h1 h2 h3 h4=>⟨⟨bs,bs',h4⟩,⟨o,h2,hB.dat▸h3⟩,?_⟩)
  .exact key
  .have h5:RX X pR O0 w w':=⟨a3.tape,a3.output,a3.size,a3.os,fun b hb ho=>a3.keep b hb (hO b ho),a3.live⟩
   have h6:RX X pR O0 w' w'':=⟨h1.tape,h1.output,h1.size,h1.os,fun b hb ho=>h1.keep b hb (.inr ((hO b ho).elim (fun z=> .inr (a1 b z)) .inl)),h1.live⟩
   exact(h0.trans X h5).trans X h6
theorem ZP {γ:Gh iI}{w:World}{bs:Nat}(hB:Base X γ w)(hro:∀b,pR b->γ.ro b)(hO:∀b,O0 b\/pR b->γ.own b\/γ.ro b)(hw:Rd w)(h0:RX X pR O0 w0 w)(FW:γ.own bd)(SE:w.cell? ⟨bd,0,none⟩=some dv)(obs:γ.own bs)(cbs:w.heap[bs]? =some (.cells #[.int .i64 0] 3 (0,0))):
  Yk X (t7 X pR O0 w0 bd dv fr cs) (at_ .g1 0) γ w (pK X.Fd bd bs) (fT1 X.Wg X.Fd bd bs X.M dv fr cs) (fr::cs):=by
 intro k' w' bw bf own' a1 a2 a4 a3 ow of cw cf;have B':=hB.grow a3 a2 a4;have MZ:w'.cell? ⟨bd,0,none⟩=some dv:=by
  unfold World.cell? at SE⊢;rw[a3.keep bd (hB.low bd (.inl FW)) (.inl FW)];exact SE
 have X3:w'.cell? ⟨bs,0,none⟩=some (.int .i64 0):=by
  have:=aV a3 (.inl obs) cbs;simp[World.cell?,this]
 have Rw':Rd w':=hR.keep _ _ _ _ hro hw a3;have sub:∀b,pR b->(given {γ with own:=own'}).ro b:=fun b hb=> .inl (hro b hb)
 refine⟨fun Kk=>?_,?_⟩
 .have:=sY (r:= .a) (k:=Kk) (n:=X.N .a) (fun w w' own hw h=>hR.keep _ own w w' sub hw h) (hR.ca _ sub) (hR.cao _ sub) (hR.n .a) (B'.now (.inl rfl) (X.c0 .a)) rfl Rw' (hR.c0 .a) hR.fa (bw:=bw) (bf:=bf) (bd:=bd) (bs:=bs) (.inr ow) (.inr of) (.inr (a1 _ FW)) (.inr (a1 _ obs)) cw cf MZ X3
  exact this
 .have B3:=B'.given
  have hO3:∀b,O0 b\/pR b->(given {γ with own:=own'}).ro b:=fun b hb=>(hO b hb).elim (fun z=> .inr (a1 b z)) .inl
  have h5:RX X pR O0 w0 w':=h0.trans X ⟨a3.tape,a3.output,a3.size,a3.os,fun b hb ho=>a3.keep b hb (hO b ho),a3.live⟩;refine aC (TQ _ _ _ _ _ _ _ _) ?_;refine fX (f:=fun b=>pb b) (TP _ _ _ _ _ _ _ _) (fun w1 h1=>⟨#[],lX Rt,by simp⟩) fun w1 bs' h1 hbs wbs=>?_
  refine aC (TO _ _ _ _ bs' _ _ _ _) ?_;obtain⟨s,hs⟩:=B3.live;have n1:bs'≠X.Fd/\bs'≠X.Wg:=⟨fun e=>by have:=lt_of_some hs.1;omega,fun e=>by have:=lt_of_some hs.2;omega⟩
  have K7:¬(given {γ with own:=own'}).ro bs':=fun e=>by have:=B3.low bs' (.inr e);omega
  have o':(fun b=>False\/b=bs') bs':= .inr rfl;refine jo (b:=bs') (A:=fun o x=>x=undef/\o= .cells #[.int .i64 1] 3 (0,0)) o' n1 (TL _ _ _ _ _ _ _ _ _) (fun w2 h2=>?_) (fun w2 o x _ Zh ha h2=>?_) K7
  .obtain⟨w',ev,r1,r2,r3⟩:=fE (t:=3) (off:=0) (v:= .int .i64 1) (aV h2 (.inl o') wbs) Sf (by simp[Value.cells]) (by simp[Value.cells,kS])
   exact⟨undef,_,w',ev,.inr ⟨r1,rfl⟩,r2,⟨rfl,rfl⟩,fun e he=>⟨bs',r3 e he,.inl o'⟩⟩
  obtain⟨rfl,rfl⟩:=ha;have h12:RX X (given {γ with own:=own'}).ro (fun _=>False) w' w2:=h1.trans X (h2.sub fun b e=>e.elim);have B2:Base X {given {γ with own:=own'} with own:=fun b=>False\/b=bs'} w2:=B3.grow h12 (fun b hb=>by
   rcases hb with hb|rfl
   .exact hb.elim
   .exact .inr hbs) (fun b hb=>by
   rcases hb with hb|rfl
   .exact hb.elim
   .exact lt_of_some Zh)
  have X4:w2.cell? ⟨bd,0,none⟩=some dv:=by
   unfold World.cell? at MZ⊢;rw[h12.keep bd (B3.low bd (.inr (.inr (a1 _ FW)))) (.inr (.inr (a1 _ FW)))];exact MZ
  refine aC (TN _ _ _ _ _ _ _ _ _) ?_;have key:=Gp (Post:=t7 X pR O0 w0 bd dv fr cs) (Tk:=at_ .k2 0) (Tg:=at_ .g2 0) (k:=k') rfl (.inr rfl) B2.room B2.low B2.live (f:=pK X.Fd bd bs') (fr:=YV X.Wg X.Fd bd bs bs' X.M dv fr cs) (cs:=fr::cs) ⟨_,rfl,rfl⟩ (fun γ' k w fr cs R live go=>ahr R live go) rfl
   (ZO hR B2 (fun b hb=>sub b hb) (fun b hb=> .inr (hO3 b hb)) (hR.keep _ _ _ _ sub Rw' h12) (h5.trans X ⟨h12.tape,h12.output,h12.size,h12.os,fun b hb ho=>h12.keep b hb (.inr (hO3 b ho)),h12.live⟩) (.inr (a1 _ FW)) X4 (.inr rfl) Zh)
  exact key
theorem zH {γ:Gh iI}{w:World}{k:Nat}(hB:Base X γ w)(hro:∀b,pR b->γ.ro b)(hO:∀b,O0 b\/pR b->γ.own b\/γ.ro b)(hw:Rd w)(h0:RX X pR O0 w0 w)(FW:γ.own bd)(SE:w.cell? ⟨bd,0,none⟩=some dv):
  LS X (t7 X pR O0 w0 bd dv fr cs) γ k (at_ .k1 0) (resume (Yu X.Fd bd X.M dv fr cs) (pb X.Wg)) w:=by
 refine aC (Tu _ _ _ _ _ _ _) ?_;refine fX (f:=fun b=>pb b) (Tt _ _ _ _ _ _ _) (fun w1 h1=>⟨#[],lX Rt,by simp⟩) fun w1 bs h1 hbs wbs=>?_
 refine aC (Ts _ _ _ bs _ _ _ _) ?_;obtain⟨s,hs⟩:=hB.live;have n1:bs≠X.Fd/\bs≠X.Wg:=⟨fun e=>by have:=lt_of_some hs.1;omega,fun e=>by have:=lt_of_some hs.2;omega⟩
 have K7:¬γ.ro bs:=fun e=>by have:=hB.low bs (.inr e);omega
 have now:∀b,γ.own b->b≠bs:=fun b hb e=>by have:=hB.low b (.inl hb);omega
 have o':(fun b=>γ.own b\/b=bs) bs:= .inr rfl;refine jo (b:=bs) (A:=fun o x=>x=undef/\o= .cells #[.int .i64 0] 3 (0,0)) o' n1 (Tq _ _ _ _ _ _ _ _) (fun w2 h2=>?_) (fun w2 o x _ Zh ha h2=>?_) K7
 .obtain⟨w',ev,r1,r2,r3⟩:=fE (t:=3) (off:=0) (v:= .int .i64 0) (aV h2 (.inl o') wbs) Sf (by simp[Value.cells]) (by simp[Value.cells,kS])
  exact⟨undef,_,w',ev,.inr ⟨r1,rfl⟩,r2,⟨rfl,rfl⟩,fun e he=>⟨bs,r3 e he,.inl o'⟩⟩
 obtain⟨rfl,rfl⟩:=ha;have h12:RX X γ.ro γ.own w w2:=h1.trans X (h2.sub fun b e=>⟨.inl e,now b e⟩);have B2:Base X {γ with own:=fun b=>γ.own b\/b=bs} w2:=hB.grow h12 (fun b hb=>by
  rcases hb with hb|rfl
  .exact .inl hb
  .exact .inr hbs) (fun b hb=>by
  rcases hb with hb|rfl
  .exact Nat.lt_of_lt_of_le (hB.low b (.inl hb)) h12.size
  .exact lt_of_some Zh)
 have X4:w2.cell? ⟨bd,0,none⟩=some dv:=by
  unfold World.cell? at SE⊢;rw[h12.keep bd (hB.low bd (.inl FW)) (.inl FW)];exact SE
 refine aC (Tr _ _ _ _ _ _ _ _) ?_;have key:=Gp (Post:=t7 X pR O0 w0 bd dv fr cs) (Tk:=at_ .k1 0) (Tg:=at_ .g1 0) (k:=k) rfl (.inl rfl) B2.room B2.low B2.live (f:=pK X.Fd bd bs) (fr:=fT1 X.Wg X.Fd bd bs X.M dv fr cs) (cs:=fr::cs) ⟨_,rfl,rfl⟩ (fun γ' k w fr cs R live go=>add1 R live go) rfl
  (ZP hR B2 hro (fun b hb=>(hO b hb).imp .inl id) (hR.keep _ _ _ _ hro hw h12) (h0.trans X ⟨h12.tape,h12.output,h12.size,h12.os,fun b hb ho=>h12.keep b hb (hO b ho),h12.live⟩) (.inl FW) X4 (.inr rfl) Zh)
 exact key
end
end aH
end
section
open Go.Conc Go.RowKit Go.Lib
open Go.ConcM (OsLater)
namespace aH
section
variable {X:Cx iI}{ro:Nat->Prop}
theorem Wz:NF (eT X false ro) (fun s=>s) ro:=
 ⟨fun s w w₁ h=>⟨h.size,h.tape,h.keep⟩,fun s w w' es h=>⟨h.tape,h.output,h.size,by rw[h.os];exact .refl _,h.keep,fun e he=>by
  rcases h.ev e he with⟨b,hb,hl⟩|⟨m,hm⟩
  .exact .inl ⟨b,hb,hl⟩
  .exact .inr (.inr ⟨m,hm⟩),by simp⟩,fun s w w' b=>Iff.rfl⟩
theorem CD {main:Bool}{Stop:(Nat->Prop)->Goroutine->World->Prop}{own:Nat->Prop}{w0:World}(hown:∀b,own b->b<w0.heap.size)(hF:X.Fd<w0.heap.size)(hW:X.Wg<w0.heap.size)(hro:∀b,ro b->b<w0.heap.size):
  ∀(r:Rk) {s:Nat->Prop} {g:Goroutine} {w:World},(∀b,s b->w0.heap.size<=b/\b<w.heap.size)->RX X ro own w0 w->gz PP main (eT X false ro) Stop r s g w->
   aD PP main (eT X false ro) (fun o g w'=>∃s',o=(fun b=>own b\/s' b)/\Stop s' g w'/\(∀b,s' b->w0.heap.size<=b/\b<w'.heap.size)/\RX X ro own w0 w') (fun b=>own b\/s b) g w:=by
 intro r;have sub:∀{s:Nat->Prop} {w w₁:World},RX X ro (fun b=>own b\/s b) w w₁->RX X ro s w w₁/\RX X ro own w w₁:=fun h=>
  ⟨⟨h.tape,h.output,h.size,h.os,fun b hb ho=>h.keep b hb (ho.imp .inr id),h.live⟩,⟨h.tape,h.output,h.size,h.os,fun b hb ho=>h.keep b hb (ho.imp .inl id),h.live⟩⟩
 induction r with
 |zero=>
  intro s g w hs h0 h;refine .stop fun w₁ hr=>?_
  have hr':RX X ro (fun b=>own b\/s b) w w₁:=hr;exact⟨s,rfl,h w₁ (sub hr').1,fun b hb=>⟨(hs b hb).1,Nat.lt_of_lt_of_le (hs b hb).2 hr'.size⟩,h0.trans X (sub hr').2⟩
 |mk f ih=>
  intro s g w hs h0 h;rcases h with h|⟨hrun,h⟩
  .refine .stop fun w₁ hr=>?_
   have hr':RX X ro (fun b=>own b\/s b) w w₁:=hr;exact⟨s,rfl,h w₁ (sub hr').1,fun b hb=>⟨(hs b hb).1,Nat.lt_of_lt_of_le (hs b hb).2 hr'.size⟩,h0.trans X (sub hr').2⟩
  .refine aD.step hrun fun w₁ hr=>?_
   have hr':RX X ro (fun b=>own b\/s b) w w₁:=hr;obtain⟨g',w',es,h1,h2,h3⟩:=h w₁ (sub hr').1;have h2':DX X false ro s w₁ w' es:=h2;have h01:=h0.trans X (sub hr').2;have old:∀b,b<w0.heap.size->w'.heap[b]? =w₁.heap[b]? :=fun b hb=>h2'.keep b (Nat.lt_of_lt_of_le hb h01.size) fun hsb=>by have:=(hs b hsb).1;omega
   have h02:RX X ro own w0 w':=by
    refine h01.trans X ⟨h2'.tape,h2'.output,h2'.size,h2'.os,fun b hb ho=>old b (ho.elim (hown b) (hro b)),fun⟨s,h1,h2⟩=>⟨s,?_,?_⟩⟩
    .rw[old _ hF];exact h1
    .rw[old _ hW];exact h2
   have hup:(eT X false ro).up (fun b=>own b\/s b) w₁ w'=fun b=>own b\/(eT X false ro).up s w₁ w' b:=funext fun b=>propext or_assoc
   refine⟨g',w',es,h1,⟨h2'.tape,h2'.output,h2'.size,h2'.os,fun b hb ho=>h2'.keep b hb fun x=>ho (.inr x),fun e he=>?_,h2'.mute⟩,?_⟩
   .rcases h2'.ev e he with⟨c,hc,hl⟩|h
    .exact .inl ⟨c,hc.imp .inr id,hl⟩
    .exact .inr h
   .rw[hup]
    refine ih w₁ (fun b hb=>?_) h02 h3;rcases hb with hb|hb
    .exact⟨(hs b hb).1,Nat.lt_of_lt_of_le (Nat.lt_of_lt_of_le (hs b hb).2 hr'.size) h2'.size⟩
    .exact⟨Nat.le_trans h01.size hb.1,hb.2⟩
end
structure fq (d bl n:Nat)(x:DS)(w:World):Prop where
 row:∃f,w.heap[d]? =some (.cells (ir bl n (.slice none 0 0) x) 134 f)
 last:∃f,w.heap[bl]? =some (.cells (byteCells x.aS).toArray 148 f)
 ye:∃c t f,w.heap[0]? =some (.cells c t f)/\∀v∈c,∀r,¬Value.Has r v
 len:x.aS.length=64*n
 lo:16<=n
 hi:n<=400
 none:x.waiting=[]
def tZ (d bl:Nat)(b:Nat):Prop:=b=0\/b=d\/b=bl
theorem fq.keep {X:Cx iI}{ro own:Nat->Prop}{d bl n:Nat}{x:DS}{w w':World}(h:fq d bl n x w)(hro:∀b,tZ d bl b->ro b)(hr:RX X ro own w w'):fq d bl n x w':=by
 have k:∀b o,tZ d bl b->w.heap[b]? =some o->w'.heap[b]? =some o:=fun b o hb ho=>by rw[hr.keep b (Array.getElem?_eq_some_iff.1 ho).1 (.inr (hro b hb))];exact ho
 obtain⟨⟨f1,h1⟩,⟨f2,h2⟩,⟨c,t,f3,h3,h4⟩,a,b,c',e⟩:=h;exact⟨⟨f1,k _ _ (.inr (.inl rfl)) h1⟩,⟨f2,k _ _ (.inr (.inr rfl)) h2⟩,⟨c,t,f3,k _ _ (.inl rfl) h3,h4⟩,a,b,c',e⟩
section
variable (w:World)(d bl:Nat)
open Classical in
def mask:World:={w with heap:=w.heap.mapIdx fun b o=>if tZ d bl b then(match o with|.cells c t _=> .cells c t (0,c.size)|o=>o) else .cells #[] 1000000 (0,0)}
theorem sC:(mask w d bl).heap.size=w.heap.size:=by simp[mask]
theorem Lg {b:Nat}{o:Obj}(hb:¬tZ d bl b)(h:(mask w d bl).heap[b]? =some o):o= .cells #[] 1000000 (0,0):=by
 simp only[mask,Array.getElem?_mapIdx,if_neg hb] at h;obtain⟨_,_,rfl⟩:=Option.map_eq_some_iff.1 h;rfl
theorem qZ {b:Nat}{c:Array Value}{t:TypeId}{f:Nat×Nat}(hb:tZ d bl b)(h:w.heap[b]? =some (.cells c t f)):(mask w d bl).heap[b]? =some (.cells c t (0,c.size)):=by
 simp only[mask,Array.getElem?_mapIdx,if_pos hb,h,Option.map_some]
end
def DA (w:World)(d bl:Nat)(b:Nat):Prop:=b<w.heap.size/\¬tZ d bl b
theorem zy {l:List UInt8}{v:Value}(h:v∈(byteCells l).toArray):∀r,¬Value.Has r v:=by
 simp only[List.mem_toArray,byteCells,List.mem_map] at h;obtain⟨b,_,rfl⟩:=h;intro r hr;cases hr
section
variable {d bl n:Nat}{x:DS}{w:World}
theorem fq.cells (h:fq d bl n x w){b:Nat}(hb:tZ d bl b):∃c t f,w.heap[b]? =some (.cells c t f)/\∀v∈c,∀r,Value.Has r v->tZ d bl r:=by
 obtain⟨⟨f1,h1⟩,⟨f2,h2⟩,⟨c,t,f3,h3,h4⟩,_⟩:=h;rcases hb with rfl|rfl|rfl
 .exact⟨c,t,f3,h3,fun v hv r hr=>absurd hr (h4 v hv r)⟩
 .refine⟨_,_,f1,h1,fun v hv r hr=>?_⟩
  simp only[ir,List.mem_toArray,List.mem_cons,List.not_mem_nil,or_false] at hv;rcases hv with rfl|rfl|rfl|rfl|rfl|rfl|rfl<;>cases hr
  rename_i e;exact .inr (.inr e.symm)
 .exact⟨_,_,f2,h2,fun v hv r hr=>absurd hr (zy hv r)⟩
theorem fq.size (h:fq d bl n x w){b:Nat}(hb:tZ d bl b):b<w.heap.size:=by
 obtain⟨c,t,f,h1,_⟩:=h.cells hb;exact(Array.getElem?_eq_some_iff.1 h1).1
theorem Is (h:fq d bl n x w){ro:Nat->Prop}(hro:∀b,tZ d bl b->ro b):Link (DA w d bl) (tZ d bl) (fun _=>False) ro id (mask w d bl) w:=by
 have hz:∀b,tZ d bl b->¬DA w d bl b:=fun b hb hh=>hh.2 hb
 have sz:=sC w d bl;have cas:∀b,b<w.heap.size->DA w d bl b\/tZ d bl b:=fun b hb=>by
  by_cases hr:tZ d bl b
  .exact .inr hr
  .exact .inl ⟨hb,hr⟩
 have lw:Go.Proofs.YtchcmhodnkgojaaGreat.LW (DA w d bl) (tZ d bl) (mask w d bl):=by
  refine⟨fun b o hb h1 h2=>?_,fun b o hb hh=>Lg w d bl hh.2 hb,fun b o hb hZ=>?_,fun b hb=>?_,hz,⟨?_,hz 0 (.inl rfl)⟩,fun b o hb hH r hr=>?_⟩
  .exact absurd (cas b (sz▸(Array.getElem?_eq_some_iff.1 hb).1)) (by simp[h1,h2])
  .obtain⟨c,t,f,h1,_⟩:=h.cells hZ
   rw[qZ w d bl hZ h1] at hb;exact⟨c,t,(Option.some.inj hb).symm⟩
  .rw[sz];exact hb.elim (·.1) h.size
  .rw[sz];exact h.size (.inl rfl)
  .have hZ:tZ d bl b:=(cas b (sz▸(Array.getElem?_eq_some_iff.1 hb).1)).resolve_left hH
   obtain⟨c,t,f,h1,h2⟩:=h.cells hZ;rw[qZ w d bl hZ h1] at hb;obtain rfl:=Option.some.inj hb;cases hr with
   |cells hv hr=>
    have:=h2 _ hv _ hr;exact⟨by rw[sz];exact h.size this,hz _ this⟩
 refine⟨fun i j e=>e,rfl,fun b hb=>by rw[<-sz];exact hb,lw,⟨fun i j e=>e,rfl,rfl,fun b hb _=>by rw[<-sz];exact hb,fun b o hb h1 h2=>?_,lw.hid,fun b o hb hZ=>?_,lw.low,fun b o hb i hi=>?_⟩,fun b hb hZ=>?_,hro⟩
 .exact absurd (cas b (sz▸(Array.getElem?_eq_some_iff.1 hb).1)) (by simp[h1,h2])
 .obtain⟨c,t,f,h1,_⟩:=h.cells hZ
  have hb':(mask w d bl).heap[b]? =some o:=hb;rw[qZ w d bl hZ h1] at hb';refine⟨c,t,f,(Option.some.inj hb').symm,?_⟩;rw[ck (f:=Value.ren id) fun v _=>eN v fun r _=>rfl];exact h1
 .exfalso
  by_cases hH:DA w d bl b
  .rw[lw.hid b o hb hH] at hi;exact hi
  .obtain⟨c,t,rfl⟩:=lw.nu b o hb ((cas b (sz▸(Array.getElem?_eq_some_iff.1 hb).1)).resolve_left hH)
   exact hi
 .exact absurd (cas b (sz▸hb.1)) (by simp[hb.2,hZ])
theorem PD (h:fq d bl n x w):ft (mask w d bl) d bl n (.slice none 0 0) x:=by
 obtain⟨⟨f1,h1⟩,⟨f2,h2⟩,_,a,b,c,e⟩:=h;exact⟨⟨_,qZ w d bl (.inr (.inl rfl)) h1⟩,⟨_,qZ w d bl (.inr (.inr rfl)) h2⟩,a,b,c,rfl,e,⟨none,0,by rw[e];rfl⟩⟩
theorem _root_.Go.Proofs.YtchcmhodnkgojaaGreat.ft.ax {w:World}{d bl n:Nat}{vw:Value}{x:DS}(h:ft w d bl n vw x)(t:dU)(k:Nat):ft (ax w t k) d bl n vw x:=⟨h.row,h.last,h.len,h.lo,h.hi,h.nil,h.none,h.vw⟩
end
def MO (set:Int)(x:DS)(n n0:Nat)(e:Exit)(a:Act)(w':World):Prop:=
 (e= .normal\/e= .ret)/\∃m es c,a.tmps.getD 4 undef= .map (some m)/\n0<=m/\w'.heap[m]? =some (.map es c)/\dh es c (tK (pO set (aP x n)))/\es.size<=54
theorem MN (set:Int)(x:DS)(n n0:Nat):QOk none (MO set x n n0):=⟨fun e a w t d=>Iff.rfl,fun e a w h=>h.1.elim .inl fun h=> .inr (.inl h)⟩
theorem QS:wh PP S1 (fun _=>false) false (qo 166)=true:=by kernel_rfl
theorem xj:Tryz.f166.results=#[.tmp 4]:=by kernel_rfl
theorem Jb {set:Int}{x:DS}{n:Nat}{w:World}{e:Exit}{a:Act}{w':World}(h:bodyPost PP Tryz.f166 (xk set x n w) e a w'):MO set x n w.heap.size e a w':=by
 have go:∀{v},(results Tryz.f166 a.tmps).run PP w'= .ok v w'->xk set x n w (.returned v) w'->∃m es c,a.tmps.getD 4 undef= .map (some m)/\w.heap.size<=m/\w'.heap[m]? =some (.map es c)/\dh es c (tK (pO set (aP x n)))/\es.size<=54:=by
  rintro v hr ⟨m,es,c,h1,h2,h3,h4,h5,_⟩;rw[results_tmp xj] at hr;cases hr;exact⟨m,es,c,Ending.returned.inj h1,h2,h3,h4,h5⟩
 cases e with
 |normal=>obtain⟨_,v,hr,hR⟩:=h;exact⟨.inl rfl,go hr hR⟩
 |ret=>obtain⟨_,v,hr,hR⟩:=h;exact⟨.inr rfl,go hr hR⟩
 |panic ch=>obtain⟨_,m,es,c,h1,_⟩:=h;cases h1
 |outgrown=>obtain⟨m,es,c,h1,_⟩:=h;cases h1
 |_=>exact h.elim
theorem P4 {es:Array MapEntry}{c:Nat}{g:ByteArray->Option ByteArray}(h:dh es c (tK g))(π:Nat->Nat):es.map (lI π)=es:=by
 have:∀e∈es,lI π e=e:=fun e he=>by
  obtain⟨s,hs⟩:=iC (h.keys e (by simpa using he));have hv:=(h.has s e.val).2 ⟨e,by simpa using he,hs,rfl⟩;unfold tK at hv;obtain⟨b,_,hb⟩:=Option.map_eq_some_iff.1 hv;obtain⟨k,v,bo⟩:=e;simp only at hs hb;subst hs;subst hb;simp[lI,aH.hv]
 conv=>rhs;rw[<-Array.map_id es]
 exact Array.map_congr_left fun e he=>this e he
theorem ph {X:Cx iI}{d bl n:Nat}{x:DS}{ro:Nat->Prop}(hro:∀b,tZ d bl b->ro b)(r:bk)(set:Int):Cont X r ro (fq d bl n x) (.pointer (some ⟨d,0,none⟩)) set (pO set (aP x n)) 54:=by
 intro γ k T w fr cs hT hN agh hw hk;subst agh;obtain⟨s0,hs0⟩:=hN.live;have hfz:=PD hw;have hbody:Tryz.f166.body=some (qo 166):=by kernel_rfl
 let act:Act:={tmps:=#[.pointer (some ⟨d,0,none⟩),.int .i64 set]++Array.replicate 28 undef,defers:=[]}
 have hwp:∀t k,WpT PP [.code (qo 166)] (MO set x n w.heap.size) act (ax (mask w d bl) t k):=fun t k=>by
  obtain⟨cd,h1,h2⟩:=yo (U1 (hfz.ax t k)) set (ax (mask w d bl) t k) (hfz.ax t k);rw[hbody] at h1;obtain rfl:=Option.some.inj h1;intro b kk css;obtain⟨e,a',w',q,hr⟩:=h2 b kk css;have q':=Jb q;have e0:(ax (mask w d bl) t k).heap.size=w.heap.size:=sC w d bl;rw[e0] at q';exact⟨e,a',w',q',hr⟩
 have ED:∀v∈act.tmps,VV (gh (DA w d bl) (mask w d bl)) v:=fun v hv=>by
  rcases Array.mem_append.1 hv with hv|hv
  .simp only[List.mem_toArray,List.mem_cons,List.not_mem_nil,or_false] at hv
   rcases hv with rfl|rfl
   .intro r hr
    cases hr with
    |ptr e=>subst e;exact⟨by rw[sC];exact hw.size (.inr (.inl rfl)),fun hh=>hh.2 (.inr (.inl rfl))⟩
   .intro r hr;cases hr
  .rw[(Array.mem_replicate.1 hv).2];exact gC
 have key:=Lp ZL (H:=DA w d bl) (Z:=tZ d bl) (by simp) (f0:=166) ⟨_,Tryz.func166⟩ (Wz (X:=X) (ro:=γ.ro)) (MN set x n w.heap.size) (B:=base 166) (D0:=[]) (CS:=fr::cs) (kT:=[]) rfl (by simp[base]) (by simp)
  (t0:=[.code (qo 166)]) (fun it hit=>by
   simp at hit;subst hit;exact QS) (a:=act) (s:=fun _=>False) (Is hw hro) ED rfl hwp (main:=false)
 obtain⟨rk,key⟩:=key;have hfresh:=CD (X:=X) (own:=γ.own) (ro:=γ.ro) (w0:=w) (fun b hb=>hN.low b (.inl hb)) (lt_of_some hs0.1) (lt_of_some hs0.2) (fun b hb=>hN.low b (.inr hb)) rk (s:=fun _=>False) (by simp) (RX.refl X _ _ w) key;have e1:(fun b=>γ.own b\/False)=γ.own:=funext fun b=>by simp
 rw[e1] at hfresh;have e2:G ((base 166).at (bg id act []) ([.code (qo 166)]++[])) (fr::cs)=gC0 (.pointer (some ⟨d,0,none⟩)) set fr cs:=by
  unfold bg;rw[ck (f:=Value.ren id) fun v _=>eN v fun r _=>rfl];rfl
 rw[e2] at hfresh;show aD PP false (eT X (eD T.pc) γ.ro) _ γ.own _ w;rw[hT];refine hfresh.bind ?_;rintro o g w' ⟨s',rfl,⟨e,a,bD,π,⟨abY,m,es,c,hm,hn0,hrow,his,hsz⟩,hl,hd,hvv,hg,hag,hsize⟩,hs',hrx⟩;have hmv:gh (DA w d bl) bD m:=⟨(Array.getElem?_eq_some_iff.1 hrow).1,fun hh=>by have:=hh.1;omega⟩
 have hmz:¬tZ d bl m:=fun hz=>by have:=hw.size hz;omega
 have hown:s' (π m):=hl.own m hmv hmz;have hrow':w'.heap[π m]? =some (.map es c):=by
  have:=(hl.wr.ok m _ hrow hmv.2 hmz).2;simp only[dw,P4 his] at this;exact this
 have cont:=hk w' (π m) es c (fun b=>γ.own b\/s' b) (fun b hb=> .inl hb) (fun b hb=>hb.imp id fun h=>(hs' b h).1) (fun b hb=>hb.elim (fun h=>Nat.lt_of_lt_of_le (hN.low b (.inl h)) hrx.size) fun h=>(hs' b h).2) hrx (.inr hown)
  (fun hb=>by have:=(hs' _ hown).1;have:=hN.low _ (.inl hb);omega) hrow' his hsz
 have cont':aD PP false (eT X false γ.ro) (dH (GP X PP k r) T γ) (fun b=>γ.own b\/s' b) (G (fr.finish (.map (some (π m)))) cs) w':=by
  have c2:aD PP false (eT X (eD T.pc) γ.ro) (dH (GP X PP k r) T γ) (fun b=>γ.own b\/s' b) (G (fr.finish (.map (some (π m)))) cs) w':=cont;rw[hT] at c2;exact c2
 have ret:∀todo,aD PP false (eT X false γ.ro) (dH (GP X PP k r) T γ) (fun b=>γ.own b\/s' b) (G {(base 166).at (bg π a []) todo with mode:= .returning} (fr::cs)) w':=fun todo=>by
  refine aD.silent rfl (fun w₁=>?_) (fun w₁ _=>(jE (X:=X) false γ.ro _ w₁).1) (fun w₁=>(jE (X:=X) false γ.ro _ w₁).2) cont';have hres:(results Tryz.f166 (bg π a []).tmps).run PP w₁= .ok (.map (some (π m))) w₁:=by
   rw[results_tmp xj];show Result.ok ((a.tmps.map (Value.ren π)).getD 4 undef) w₁=_;rw[jF,hm];simp
  have hev:(results Tryz.f166 (bg π a []).tmps).events PP w₁ #[]=#[]:=by
   have e:results Tryz.f166 (bg π a []).tmps=pure ((bg π a []).tmps.getD 4 undef):=by simp[results,xj]
   rw[e];rfl
  exact stepG_leave (b:=base 166) (a:=bg π a []) (todo:=todo) rfl rfl Tryz.func166 hres hev
 rcases abY with rfl|rfl
 .obtain rfl:g=_:=hg
  exact aD.silent rfl (fun w₁=>stepG_end) (fun w₁ _=>(jE (X:=X) false γ.ro _ w₁).1) (fun w₁=>(jE (X:=X) false γ.ro _ w₁).2) (ret _)
 .obtain⟨todo,rfl⟩:=hg
  exact ret todo
end aH
end
section
open Go.Conc Go.RowKit Go.Lib
open Go.ConcM (OsLater)
open Go.ConcN (sumTo)
namespace aH
section
variable {own:Nat->Prop}{w:World}{g g':Goroutine}{v:kP}{Stop:(Nat->Prop)->Goroutine->World->Prop}
theorem pG (own:Nat->Prop)(w:World):j8 own (fun _=>False) w w #[]:=⟨Nat.le_refl _,fun _ _ _=>rfl,rfl,rfl,rfl,by simp⟩
theorem idle0:Idle kR:=fun s w=>⟨pG s w,funext fun b=>propext ⟨fun h=>h.elim id fun h=>by omega,.inl⟩⟩
theorem d9 (h:au PP true g g')(k:aD PP true kR Stop own g' w):aD PP true kR Stop own g w:=jO idle0 h k
theorem La {o:Obj}{f:Nat->Value}(h:aR g=some v)(hr:∀w,RT v.sem w (.value (f w.heap.size)) {w with heap:=w.heap.push o} #[])
  (k:∀w',w'.heap=w.heap.push o->w'.os=w.os->w'.tape=w.tape->aD PP true kR Stop (fun b=>own b\/b=w.heap.size) (resume g (f w.heap.size)) w'):aD PP true kR Stop own g w:=by
 refine aD.step (cU h).1 fun w₁ h1=>?_
 obtain⟨d,rfl⟩:=h1;obtain⟨es,e1,e2⟩:=eX (main:=true) h (hr (w.at d));have hup:kR.up own (w.at d) {w.at d with heap:=(w.at d).heap.push o}=fun b=>own b\/b=w.heap.size:=by
  funext b
  refine propext (or_congr Iff.rfl ?_);show(w.heap.size<=b/\b<(w.heap.push o).size)↔_;simp;omega
 refine⟨_,_,es,e1,⟨by show w.heap.size<=(w.heap.push o).size;simp,fun b hb _=>?_,rfl,rfl,rfl,fun e he=>by have:=e2 e he;simp at this⟩,?_⟩
 .have hb':b<w.heap.size:=hb
  show(w.heap.push o)[b]? =w.heap[b]?;rw[Array.getElem?_push_lt hb'];exact(Array.getElem?_eq_getElem hb').symm
 .rw[hup]
  exact k _ rfl rfl rfl
theorem afb {x:Value}(h:aR g=some v)(hr:∀w,RT v.sem w (.value x) w #[])(k:aD PP true kR Stop own (resume g x) w):aD PP true kR Stop own g w:=by
 refine aD.step (cU h).1 fun w₁ h1=>?_
 obtain⟨es,e1,e2⟩:=eX (main:=true) h (hr w₁);have e0:es=#[]:=by
  apply Array.eq_empty_of_size_eq_zero
  refine Nat.eq_zero_of_not_pos fun hp=>?_
  have:=e2 es[0] (Array.getElem_mem hp);simp at this
 subst e0;refine⟨_,_,_,e1,pG _ _,?_⟩;rw[(idle0 own w₁).2];exact k.rely h1
theorem afd {b:Nat}{o:Obj}(hb:own b)(h:aR g=some v)
  (hr:∀d,∃w' ev,RT v.sem (w.at d) .skip w' ev/\yy b o (w.at d) w'/\∀e∈ev,EvB b e)
  (k:∀w',w'.heap.size=w.heap.size->w'.heap[b]? =some o->(∀c,c≠b->w'.heap[c]? =w.heap[c]?)->w'.os=w.os->w'.tape=w.tape->aD PP true kR Stop own (resume g undef) w'):aD PP true kR Stop own g w:=by
 refine aD.step (cU h).1 fun w₁ h1=>?_
 obtain⟨d,rfl⟩:=h1;obtain⟨w',ev,r,u,a5⟩:=hr d;obtain⟨es,e1,e2⟩:=Bp (main:=true) h r;have hup:kR.up own (w.at d) w'=own:=funext fun c=>propext ⟨fun x=>x.elim id fun x=>by have:=u.size;omega,.inl⟩
 refine⟨_,w',es,e1,⟨by rw[u.size];exact Nat.le_refl _,fun c _ hc=>u.rest c fun e=>hc (e▸hb),u.os,u.output,u.tape,fun e he=> .inl ⟨b,.inl hb,(a5 e (e2 e he)).2⟩⟩,?_⟩;rw[hup];exact k w' u.size u.at_ u.rest u.os u.tape
end
theorem SR:(PP.info? JG).bind (·.zero)=some (.agg #[.int .i32 0,.int .u32 0,.map none]):=by kernel_rfl
theorem SQ:(PP.info? TWg).bind (·.zero)=some (.agg #[.int .u64 0,.int .u32 0]):=by kernel_rfl
theorem Wt:(PP.info? JG).map (·.size)=some 3:=by kernel_rfl
theorem aaa (M:Nat)(w:World):RT (kP.build JG #[(1,.map (some M))]).sem w (.value (fd0 M)) w #[]:=fun es=>by
 have:(kP.build JG #[(1,.map (some M))]).sem.runT PP w es=(.ok (.value (fd0 M)) w,es):=by kernel_rfl
 rw[this,Array.append_empty]
structure Laid (d:Nat)(w w':World):Prop where
 size:w'.heap.size=w.heap.size+4
 box:w'.heap[w.heap.size]? =some (.cells #[pb d] 94 (0,0))
 map:w'.heap[w.heap.size+1]? =some (.map #[] 0)
 fd:w'.heap[w.heap.size+2]? =some (.cells #[.int .i32 0,.int .u32 0,.map (some (w.heap.size+1))] JG (0,0))
 wg:w'.heap[w.heap.size+3]? =some (.cells #[.int .u64 0,.int .u32 0] TWg (0,0))
 old:∀b,b<w.heap.size->w'.heap[b]? =w.heap[b]?
 os:w'.os=w.os
 tape:w'.tape=w.tape
theorem IB {own:Nat->Prop}{d:Nat}{w:World}{fr:Frame}{cs:List Frame}:
  aD PP true kR (fun s g w'=>s=(fun b=>own b\/(w.heap.size<=b/\b<w.heap.size+4))/\g=resume (Yu (w.heap.size+2) w.heap.size (w.heap.size+1) (pb d) fr cs) (pb (w.heap.size+3))/\Laid d w w') own (ZR (pb d) fr cs) w:=by
 refine d9 (TJ _ _ _) (La (f:=pb) (TG _ _ _) (fun w=>vJ _ _) fun w1 h1 o1 t1=>?_);refine d9 (TF _ _ _ _) (La (f:=fun b=> .map (some b)) (TE _ _ _ _) (fun w=>Ea _) fun w2 h2 o2 t2=>?_);have s1:w1.heap.size=w.heap.size+1:=by rw[h1];simp
 have s2:w2.heap.size=w.heap.size+2:=by rw[h2];simp[s1]
 rw[s1];refine d9 (TD _ _ _ _ _) (afb (TB _ _ _ _ _) (fun w=>aaa _ w) ?_);refine d9 (TA _ _ _ _ _) (La (f:=pb) (Tz _ _ _ _ _) (fun w=>lX SR) fun w3 h3 o3 t3=>?_);have s3:w3.heap.size=w.heap.size+3:=by rw[h3];simp[s2]
 rw[s2];refine d9 (Ty _ _ _ _ _ _) (afd (b:=w.heap.size+2) (o:= .cells #[.int .i32 0,.int .u32 0,.map (some (w.heap.size+1))] JG (0,0)) (.inr rfl) (Tx _ _ _ _ _ _) (fun d=>?_) fun w4 s4 r4 k4 o4 t4=>?_)
 .have h3':(w3.at d).heap[w.heap.size+2]? =some (.cells #[.int .i32 0,.int .u32 0,.map none] JG (0,0)):=by
   show w3.heap[w.heap.size+2]? =_;rw[h3,<-s2];simp[Value.cells]
  obtain⟨w',ev,r1,r2,r3⟩:=fE (t:=JG) (off:=0) (v:=fd0 (w.heap.size+1)) h3' Wt (by simp[fd0,Value.cells]) (by simp[fd0,Value.cells,kS]);exact⟨w',ev,r1,r2,r3⟩
 refine d9 (Tw _ _ _ _ _ _) (La (f:=pb) (Tv _ _ _ _ _ _) (fun w=>lX SQ) fun w5 h5 o5 t5=>?_);rw[s4,s3];refine .stop fun w₁ ⟨d,e⟩=>?_
 subst e;have Vs:∀b,b<w2.heap.size->w5.heap[b]? =w2.heap[b]? :=fun b hb=>by
  rw[h5,Array.getElem?_push_lt (by omega),<-Array.getElem?_eq_getElem,k4 b (by omega),h3,Array.getElem?_push_lt hb,<-Array.getElem?_eq_getElem]
 refine⟨funext fun b=>propext (by constructor<;>intro h<;>(by_cases ho:own b<;>simp[ho] at h⊢<;>omega)),rfl,⟨by show w5.heap.size=_;rw[h5];simp[s4,s3],?_,?_,?_,?_,fun b hb=>?_,by show w5.os=_;rw[o5,o4,o3,o2,o1],by show w5.tape=_;rw[t5,t4,t3,t2,t1]⟩⟩
 .show w5.heap[w.heap.size]? =_
  rw[Vs _ (by omega),h2,Array.getElem?_push_lt (by omega),<-Array.getElem?_eq_getElem,h1];simp[pb,Value.cells]
 .show w5.heap[w.heap.size+1]? =_
  rw[Vs _ (by omega),h2,<-s1];simp
 .show w5.heap[w.heap.size+2]? =_
  rw[h5,Array.getElem?_push_lt (by omega),<-Array.getElem?_eq_getElem];exact r4
 .show w5.heap[w.heap.size+3]? =_
  rw[h5,show w.heap.size+3=w4.heap.size by omega];simp[Value.cells]
 .show w5.heap[b]? =_
  rw[Vs _ (by omega),h2,Array.getElem?_push_lt (by omega),<-Array.getElem?_eq_getElem,h1,Array.getElem?_push_lt hb,<-Array.getElem?_eq_getElem]
abbrev no:Nat->Prop:=fun _=>False
section
variable {Δ:Type}{X:Cx Δ}{P:Program}{Post:Gh Δ->Goroutine->World->Prop}{Shun:Loc->Prop}{own:Nat->Prop}{M:Machine}{t:Trace}{g:Goroutine}{w:World}{γ:Gh Δ}
def SL (X:Cx Δ):bk->Lo
 |.m=>at_ .k1 0
 |r=>at_ .un (X.N r)
def NX (X:Cx Δ)(γ:Gh Δ):bk->Gh Δ
 |.m=>{γ with mine:=X.c0 .m}
 |r=>⟨no,no,X.c0 r,X.c0 r⟩
def Fs (Shun:Loc->Prop)(b:Nat):Prop:=∃l,Shun l/\lA b l
theorem Nk {r:bk}:born (SL X) r↔r= .m:=by cases r<;>simp[born,SL]
theorem afT (hA:Apart Shun own w)(hn:X.Fd≠X.Wg)(hfm:X.Fd≠X.M)(hmw:X.M≠X.Wg)(hoF:own X.Fd)(hoW:own X.Wg)(wJ:own X.M)
  (hin:∀b,γ.own b\/γ.ro b->own b/\b≠X.Fd/\b≠X.Wg/\b≠X.M) (hd:∀b,γ.own b->¬γ.ro b):Lay X (Fs Shun) (NX X γ) (SL X) w.heap.size:=by
 have nS:∀b,own b->¬Fs Shun b:=fun b hb ⟨l,h1,h2⟩=>hA.off b hb l h2 h1
 have gm:∀r c,(NX X γ r).own c\/(NX X γ r).ro c->r= .m/\(γ.own c\/γ.ro c):=fun r c h=>by
  cases r with
  |m=>exact⟨rfl,h⟩
  |a=>exact h.elim False.elim False.elim
  |b=>exact h.elim False.elim False.elim
 refine⟨fun r c h=>?_,fun r h=>?_,fun r=>⟨fun h=>?_,fun h=>?_⟩,fun r r' c h h'=>?_,fun r r' c h h'=>?_,fun r c h=>?_,hfm,hn,hmw,fun c hc=>?_,hA.lt _ hoF,hA.lt _ wJ,hA.lt _ hoW⟩
 .obtain⟨rfl,h⟩:=gm r c h
  obtain⟨h1,h2,h3,h4⟩:=hin c h;exact⟨h2,h3,nS c h1,hA.lt c h1⟩
 .exact(hin _ (gm r _ (.inr h)).2).2.2.2 rfl
 .exact absurd rfl (hin _ (gm r _ (.inl h)).2).2.2.2
 .cases r<;>cases h
 .rw[(gm r c (.inl h)).1,(gm r' c (.inl h')).1]
 .obtain⟨rfl,_⟩:=gm r c (.inl h)
  obtain⟨rfl,_⟩:=gm r' c (.inr h');exact hd c h h'
 .exact Nk.2 (gm r c h).1
 .have hlt:c<w.heap.size:=by obtain⟨l,h1,h2⟩:=hc;exact hA.low l c h1 h2
  exact⟨hlt,fun e=>nS _ hoF (e▸hc),fun e=>nS _ wJ (e▸hc),fun e=>nS _ hoW (e▸hc)⟩
theorem IE (hz:Zero P Shun M t g w)(hA:Apart Shun own w)(hn:X.Fd≠X.Wg)(hfm:X.Fd≠X.M)(hmw:X.M≠X.Wg)(hoF:own X.Fd)(hoW:own X.Wg)(wJ:own X.M)
  (hin:∀b,γ.own b\/γ.ro b->own b/\b≠X.Fd/\b≠X.Wg/\b≠X.M) (hd:∀b,γ.own b->¬γ.ro b) (hsh:ShAt X w ⟨0,0,0,0⟩) {o:Obj} (hM:w.heap[X.M]? =some o) (hD:X.Dat (X.c0 .a) (X.c0 .b) o)
  (Pw:NoRelease (mA X) t) (nrW:NoRelease (wA X) t) (hm:γ.mine=X.c0 .m)
  (hL:∀k,aD P true (eT X (eD .k1) γ.ro) (dH (yB X P Post k) (at_ .k1 0) γ) γ.own g w):
  ∃n0 μ,AX X P Post (Fs Shun) n0 μ M t:=by
 obtain⟨gs,sl,q,rfl,hg,hV,hI⟩:=hz.ex;have hP:=hz.past;obtain⟨ρ,hρ⟩:=hL (nr (SL X) 0 15+1);have eγ:NX X γ .m=γ:=by show({γ with mine:=X.c0 .m}:Gh Δ)=γ;rw[<-hm]
 have IT:0<gs.size:=(Array.getElem?_eq_some_iff.1 hg).1;have bl:=fun r (h:born (SL X) r)=>Nk.1 h
 let C:Cf Δ:=⟨gs.size,SL X,NX X γ,fun _=>nr (SL X) 0 15+1,fun _=>ρ,fun _=>1,fun _=>0,q,⟨0,0,0,0⟩,0,15⟩
 have kE:∀{a:Addr},lA a.block (.cell a):=fun {a}=> .inl ⟨a,rfl,rfl⟩
 have toSh:∀l,Shun l->xM X (Fs Shun) l:=fun l hl=>by
  obtain⟨a,rfl⟩:=hA.cell l hl;exact⟨a,rfl,.inl ⟨_,hl,kE⟩⟩
 have kn:∀b,own b->∀i x,touchAt t i=some x->lA b x.loc->Knows t 0 i:=fun b hb i x hx hl=>(hP.known i x hx hl.mem).elim id fun h=>absurd h.1 (hA.off b hb _ hl)
 have aci:∀r c,(NX X γ r).own c\/(NX X γ r).ro c->r= .m/\(γ.own c\/γ.ro c):=fun r c h=>by
  cases r with
  |m=>exact⟨rfl,h⟩
  |a=>exact h.elim False.elim False.elim
  |b=>exact h.elim False.elim False.elim
 refine⟨gs.size,C.ms gs.size,C,gs,w,sl,rfl,rfl,⟨IT,rfl,⟨II,by show(0:Nat)<27;omega,IJ,rfl,rfl,rfl⟩,fun r h=>Nat.lt_succ_self _,hsh,fun r h=>?_,fun r h=>?_,fun i g' h0 h1 hgi=>hV.old i g' h0 hgi,hV.above,fun r h=>?_,fun h1 h2=>⟨o,hM,hD⟩,fun r h=>?_,fun r h=>?_,fun r h=>?_,afT hA hn hfm hmw hoF hoW wJ hin hd,?_⟩,rfl⟩
 .obtain rfl:=bl r h
  refine⟨g,hg,.inl ⟨by simp[C,SL],rfl,rfl,?_⟩⟩;show gz P true (eT X (eD .k1) (NX X γ .m).ro) (dH (AtR X P Post _ .m) (at_ .k1 0) (NX X γ .m)) ρ (NX X γ .m).own g w;rw[eγ];exact hρ
 .cases r with
  |m=>exact absurd (Nk.2 rfl) h
  |a=>exact⟨rfl,rfl⟩
  |b=>exact⟨rfl,rfl⟩
 .obtain rfl:=bl r h
  exact hP.hears
 .cases r<;>cases h
 .cases r<;>cases h
 .cases r<;>cases h
 .refine⟨hP.clean,fun i x hx hs=>?_,fun r c ho i x hx hb=>?_,fun r i x hx hr hw=>?_,fun _ i x hx hb=> .inl fun r hr=>?_,fun i x hx hm=>?_,fun i x hx hm r hr h _=>absurd (bl r h) hr,fun i g' hg' h0 hc=> .inr (hP.over i g' hg' h0 hc),fun i g' hg' hge=>?_,Pw,nrW,hP.seen⟩
  .rcases hP.known i x hx (FH hs) with h|h
   .exact .inr (.inr fun r hr=>by obtain rfl:=bl r hr;exact h)
   .exact .inl h.2
  .obtain⟨rfl,h⟩:=aci r c (.inl ho)
   exact kn c (hin c h).1 i x hx hb
  .obtain⟨hb,h|⟨sp,h⟩⟩:=hr
   .obtain rfl:=bl r hb
    obtain⟨c,hc,hl⟩:=h;exact kn c (hin c (aci .m c (.inr hc)).2).1 i x hx hl
   .obtain rfl:=bl r hb
    exact kn X.Fd hoF i x hx (by rw[h];exact kE)
  .obtain rfl:=bl r hr
   exact kn X.M wJ i x hx hb
  .rcases hP.known i x hx hm with h|h
   .exact .inr (.inl h)
   .exact .inr (.inr ⟨toSh _ h.1,h.2⟩)
  .obtain⟨op,ho,e⟩:=Option.map_eq_some_iff.1 hg'
   have:=hI op (mem_of_getElem? ho);have e':gs.size<=g':=hge;omega
end
theorem Joined.zero {Δ:Type}{X:Cx Δ}{P:Program}{Post:Gh Δ->Goroutine->World->Prop}{S0:Nat->Prop}{n0:Nat}{gs:Array Goroutine}{w:World}{t:Trace}{sl:Option (Nat×Nat)}(h:Joined X P Post S0 n0 gs w t):
  ∃g γ,Zero P (xM X S0) (crowd gs w sl) t g w/\Post γ g w:=by
 obtain⟨g,γ,h0,hp⟩:=h.post;obtain⟨q,hq⟩:=h.afS;exact⟨g,γ,⟨⟨gs,sl,q,rfl,h0,hq,fun op ho=>by rw[h.size];exact h.ids op ho⟩,h.past⟩,hp⟩
abbrev NB:TypeId:=153
section
variable (W F bd bs bs' M:Nat)(dv:Value)(fr:Frame)(cs:List Frame)
def sX1:Goroutine:=OT (cC (fT3 W F bd bs bs' M dv fr cs) (fr::cs) U)
theorem Tp:au PP true (cC (fT3 W F bd bs bs' M dv fr cs) (fr::cs) U) (sX1 W F bd bs bs' M dv fr cs):=bq fun ws=>by kernel_rfl
theorem To:aR (sX1 W F bd bs bs' M dv fr cs)=some (.load NB (.pointer (some ⟨F,2,none⟩))):=by kernel_rfl
theorem OF (M':Nat):au PP true (resume (sX1 W F bd bs bs' M dv fr cs) (.map (some M'))) (cC fr cs (.map (some M'))):=bI 4 (bN PP true 4 (resume (sX1 W F bd bs bs' M dv fr cs) (.map (some M')))) fun ws=>by kernel_rfl
end
section
variable {Shun:Loc->Prop}{Stop:Unit->Goroutine->World->Prop}{g g':Goroutine}{w:World}
theorem EN (h:au PP true g g')(k:aD PP true (NY Shun) Stop () g' w):aD PP true (NY Shun) Stop () g w:=jO (abx Shun) h k
theorem abh {t:TypeId}{a:Addr}{v:Value}(h:aR g=some (.load t (.pointer (some a))))(ha:(PP.underlying t).map (fun d=>match d with|.struct _|.array _ _=>true|_=>false)=some false)(hS:¬Shun (.cell a))(hc:w.cell? a=some v)
  (k:aD PP true (NY Shun) Stop () (resume g v) w):aD PP true (NY Shun) Stop () g w:=by
 have hlt:a.block<w.heap.size:=by
  unfold World.cell? at hc;cases hh:w.heap[a.block]? with
  |none=>rw[hh] at hc;simp at hc
  |some o=>exact lt_of_some hh
 refine aD.step (cU h).1 fun w₁ h1=>?_
 obtain⟨d,rfl⟩:=h1;have hr:RT (kP.load t (.pointer (some a))).sem (w.at d) (.value v) (w.at d) #[⟨.cell a,false,false⟩]:=by
  refine RT.eC (x:=v) ?_ (.pure _);show RT (do if<-isAgg t then Pure.pure (.agg (<-loadCells a (<-Go.sizeOf t))) else load a) _ _ _ _;refine(gO (h:=ha)).aN ?_;simp only[Bool.false_eq_true,if_false];exact j4 hc
 obtain⟨es,e1,e2⟩:=eX (main:=true) h hr;refine⟨_,_,es,e1,⟨Nat.le_refl _,rfl,fun e he=>?_,fun e he a'=>?_⟩,?_⟩
 .have:=e2 e he
  simp at this;subst this;refine⟨fun x hx hs=>?_,by simp,by simp,hlt⟩;simp[MemAct.ofEvent,MemAct.touch?] at hx;subst hx;exact absurd hs hS
 .have:=e2 e he
  simp at this;subst this;simp
 .exact(k.rely (⟨d,rfl⟩:AtRel w (w.at d)))
theorem IY {X:Cx iI}{S0:Nat->Prop}{bd:Nat}{dv:Value}{fr:Frame}{cs:List Frame}{pR O0:Nat->Prop}{w0:World}{γ:Gh iI}{s:Sh}(hP:t7 X pR O0 w0 bd dv fr cs γ g w)(hF:ShAt X w s)(hn:X.Fd≠X.Wg)(h0:¬S0 X.Fd):
  aD PP true (NY (xM X S0)) (fun _ g' w'=>g'=cC fr cs (.map (some X.M))/\w'.heap=w.heap/\w'.output=w.output) () g w:=by
 obtain⟨⟨bs,bs',hg⟩,_⟩:=hP;refine EN hg (EN (Tp _ _ _ _ _ _ _ _ _) (abh (To _ _ _ _ _ _ _ _ _) (by kernel_rfl) (v:= .map (some X.M)) ?_ ?_ (EN (OF _ _ _ _ _ _ _ _ _ _) (.stop fun w₁ h1=>⟨rfl,by obtain⟨d,rfl⟩:=h1;rfl,by obtain⟨d,rfl⟩:=h1;rfl⟩))))
 .rintro⟨a,e,ha⟩
  cases e;rcases ha with ha|ha|ha
  .exact h0 ha
  .exact hn ha
  .exact ha.2 rfl
 .have:=hF.1
  simp[World.cell?,this]
end
theorem wq {H own:Nat->Prop}{π:Nat->Nat}{wL w w':World}{m:Nat}{o0:Obj}(h:Link H no own no π wL w)(hs:w.heap.size<=w'.heap.size)(hk:∀b,own b->w'.heap[b]? =w.heap[b]?)
  (hm:w.heap.size<=m) (hm':m<w'.heap.size) (hrow:w'.heap[m]? =some o0) (hok:nh o0) (noH:∀r,¬jQ r o0) (hin:∀i,¬inner o0 i):
  ∃cj,Link H no (fun b=>own b\/b=m) no cj {wL with heap:=wL.heap.push o0} w'/\(∀b,b<wL.heap.size->cj b=π b)/\cj wL.heap.size=m:=by
 let cj:Nat->Nat:=fun i=>if i<wL.heap.size then π i else if i=wL.heap.size then m else w'.heap.size+i
 have e1:∀b,b<wL.heap.size->cj b=π b:=fun b hb=>if_pos hb
 have e2:cj wL.heap.size=m:=by show(if _ then _ else _)=_;rw[if_neg (by omega),if_pos rfl]
 have lo:∀b,H b\/no b->b<wL.heap.size:=h.lw.low;have hz0:0<wL.heap.size:=h.lw.zero.1;have e3:∀i,wL.heap.size<i->cj i=w'.heap.size+i:=fun i hi=>by show(if _ then _ else _)=_;rw[if_neg (by omega),if_neg (by omega)]
 have hinj:∀i j,cj i=cj j->i=j:=fun i j hij=>by
  have hi:=h.lt i;have hj:=h.lt j;rcases Nat.lt_trichotomy i wL.heap.size with a1|rfl|a1<;>rcases Nat.lt_trichotomy j wL.heap.size with a2|a2|a2
  .rw[e1 i a1,e1 j a2] at hij;exact h.inj _ _ hij
  .subst a2;rw[e1 i a1,e2] at hij;have:=hi a1;omega
  .rw[e1 i a1,e3 j a2] at hij;have:=hi a1;omega
  .rw[e2,e1 j a2] at hij;have:=hj a2;omega
  .omega
  .rw[e2,e3 j a2] at hij;omega
  .rw[e3 i a1,e1 j a2] at hij;have:=hj a2;omega
  .subst a2;rw[e3 i a1,e2] at hij;omega
  .rw[e3 i a1,e3 j a2] at hij;omega
 have old:∀b o,(wL.heap.push o0)[b]? =some o->(b<wL.heap.size/\wL.heap[b]? =some o)\/(b=wL.heap.size/\o=o0):=fun b o hb=>by
  rw[Array.getElem?_push] at hb;split at hb
  .exact .inr ⟨by assumption,(Option.some.inj hb).symm⟩
  .exact .inl ⟨(Array.getElem?_eq_some_iff.1 hb).1,hb⟩
 have sz:(wL.heap.push o0).size=wL.heap.size+1:=by simp
 have vis:∀r,gh H wL r->gh H {wL with heap:=wL.heap.push o0} r:=fun r hr=>⟨by show r<(wL.heap.push o0).size;rw[sz];have:=hr.1;omega,hr.2⟩
 have nH:¬H wL.heap.size:=fun hh=>by have:=lo _ (.inl hh);omega
 have rn:∀b o,wL.heap[b]? =some o->¬H b->dw cj o=dw π o:=fun b o hb hH=>vL fun r hr=>e1 r (h.lw.QT b o hb hH r hr).1
 refine⟨cj,⟨hinj,by rw[e1 0 hz0];exact h.zero,fun b hb=>?_,?_,?_,fun b hb _=>?_,fun b hb=>hb.elim⟩,e1,e2⟩
 .have hb:b<(wL.heap.push o0).size:=hb
  rw[sz] at hb;rcases Nat.lt_or_ge b wL.heap.size with hl|hl
  .rw[e1 b hl];have:=h.lt b hl;omega
  .rw[show b=wL.heap.size by omega,e2];exact hm'
 .refine⟨fun b o hb h1 h2=>?_,fun b o hb h1=>?_,fun b o hb h1=>h1.elim,fun b hb=>?_,fun b hb=>hb.elim,vis 0 h.lw.zero,fun b o hb h1 r hr=>?_⟩
  .rcases old b o hb with⟨_,hb⟩|⟨_,rfl⟩
   .exact h.lw.ok b o hb h1 h2
   .exact hok
  .rcases old b o hb with⟨_,hb⟩|⟨rfl,rfl⟩
   .exact h.lw.hid b o hb h1
   .exact absurd h1 nH
  .show b<(wL.heap.push o0).size
   rw[sz];have:=lo b hb;omega
  .rcases old b o hb with⟨_,hb⟩|⟨rfl,rfl⟩
   .exact vis r (h.lw.QT b o hb h1 r hr)
   .exact absurd hr (noH r)
 .refine⟨hinj,rfl,rfl,fun b hb hH=>?_,fun b o hb h1 h2=>?_,fun b o hb h1=>?_,fun b o hb h1=>h1.elim,fun b hb=>?_,fun b o hb i hi=>?_⟩
  .have hb:b<(wL.heap.push o0).size:=hb
   rw[sz] at hb;rcases Nat.lt_or_ge b wL.heap.size with hl|hl
   .rw[e1 b hl];have:=h.lt b hl;omega
   .rw[show b=wL.heap.size by omega,e2];exact hm'
  .rcases old b o hb with⟨hl,hb⟩|⟨rfl,rfl⟩
   .obtain⟨r1,r2⟩:=h.wr.ok b o hb h1 h2
    refine⟨r1,?_⟩;rw[e1 b hl,rn b o hb h1,hk _ (h.own b ⟨hl,h1⟩ id)];exact r2
   .refine⟨hok,?_⟩
    rw[e2,nY fun r hr=>absurd hr (noH r)];exact hrow
  .rcases old b o hb with⟨_,hb⟩|⟨rfl,rfl⟩
   .exact h.lw.hid b o hb h1
   .exact absurd h1 nH
  .show b<(wL.heap.push o0).size
   rw[sz];have:=lo b hb;omega
  .rcases old b o hb with⟨_,hb⟩|⟨rfl,rfl⟩
   .have:=h.wr.xI b o hb i hi
    exact⟨by show i<(wL.heap.push o0).size;rw[sz];have h3:i<wL.heap.size:=this.1;omega,this.2⟩
   .exact absurd hi (hin i)
 .rcases Nat.lt_or_ge b wL.heap.size with hl|hl
  .rw[e1 b hl];exact .inl (h.own b ⟨hl,hb.2⟩ id)
  .have hb:b<(wL.heap.push o0).size:=hb.1
   rw[sz] at hb;rw[show b=wL.heap.size by omega,e2];exact .inr rfl
theorem Iz {H own:Nat->Prop}{π:Nat->Nat}{wL w w':World}{m:Nat}{es:Array MapEntry}{c:Nat}(h:Link H no own no π wL w)(hs:w.heap.size<=w'.heap.size)(hk:∀b,own b->w'.heap[b]? =w.heap[b]?)
  (hm:w.heap.size<=m) (hm':m<w'.heap.size) (hrow:w'.heap[m]? =some (.map es c)) (hfix:∀e∈es,∀r,¬Value.Has r e.key/\¬Value.Has r e.val):
  ∃cj,Link H no (fun b=>own b\/b=m) no cj {wL with heap:=wL.heap.push (.map es c)} w'/\(∀b,b<wL.heap.size->cj b=π b)/\cj wL.heap.size=m:=
 wq h hs hk hm hm' hrow trivial (fun r hr=>by
  cases hr with
  |key he hh=>exact(hfix _ he r).1 hh
  |val he hh=>exact(hfix _ he r).2 hh) fun i hi=>hi
theorem fq.ren {H own:Nat->Prop}{π:Nat->Nat}{wL w:World}{d bl n:Nat}{x:DS}(h:fq d bl n x wL)(hl:Link H no own no π wL w)(hd:gh H wL d):gh H wL bl/\fq (π d) (π bl) n x w:=by
 obtain⟨⟨f1,h1⟩,⟨f2,h2⟩,⟨c,t,f3,h3,h4⟩,a,b,c',e⟩:=h;have hb:gh H wL bl:=hl.lw.QT d _ h1 hd.2 bl (.cells (v:= .slice (some ⟨bl,0,Option.none⟩) n n) (by simp[ir]) (.slice rfl));refine⟨hb,⟨f1,?_⟩,⟨f2,?_⟩,⟨c,t,f3,?_,h4⟩,a,b,c',e⟩
 .rw[(hl.wr.ok d _ h1 hd.2 id).2]
  simp[dw,ir,bh]
 .rw[(hl.wr.ok bl _ h2 hb.2 id).2]
  simp only[dw];rw[ck fun v hv=>eN v fun r hr=>absurd hr (zy hv r)]
 .have:=(hl.wr.ok 0 _ h3 hl.lw.zero.2 id).2
  rw[hl.zero] at this;rw[this];simp only[dw];rw[ck fun v hv=>eN v fun r hr=>absurd hr (h4 v hv r)]
theorem C8 {a b:iI}{es:Array MapEntry}{c:Nat}(h:E2 a b (.map es c)):∀e∈es,∀r,¬Value.Has r e.key/\¬Value.Has r e.val:=by
 obtain⟨es',c',f,e0,h1,h2⟩:=h;cases e0;intro e he r;obtain⟨s,hs⟩:=iC (h1.keys e (by simpa using he));have hv:=(h1.has s e.val).2 ⟨e,by simpa using he,hs,rfl⟩;rw[h2] at hv;refine⟨fun hr=>by(rw[hs] at hr;cases hr),fun hr=>?_⟩;unfold comb at hv;split at hv
 .rw[<-Option.some.inj hv] at hr
  cases hr with
  |agg hm hr=>
   simp only[bV,List.mem_toArray,List.mem_cons,List.not_mem_nil,or_false] at hm;rcases hm with rfl|rfl|rfl|rfl|rfl|rfl<;>cases hr
 .cases hv
def adp (x:DS)(n:Nat)(wL:World)(v:Value)(w':World):Prop:=∃es c,v= .map (some wL.heap.size)/\(∃t d,w'=ax {wL with heap:=wL.heap.push (.map es c)} t d)/\
 E2 (jG (pO 0 (aP x n)) (pO 2 (aP x n))) (jG (pO 1 (aP x n)) (pO 2 (aP x n))) (.map es c)
theorem yj (v:Value)(c:Frame)(CS:List Frame):G (Frame.enter PP 88 #[v] .normal) (c::CS)=ZR v c CS:=by
 unfold ZR LV;rfl
theorem Fc {E:az.Env}{wL:World}{d bl n:Nat}{x:DS}(hd:fq d bl n x wL):az.CC E 88 #[.pointer (some ⟨d,0,none⟩)] (adp x n wL) wL:=by
 intro c CS π M tr hp ha hk;obtain⟨Shun,Vj,w,hz,hl0,YN,ho,JF⟩:=hp.ex
 let KK:Nat->Prop:=fun q=>∃o,E.K q=some o
 have kk:∀q,KK q->q<w.heap.size/\∀l,lA q l->¬Shun l:=fun q ⟨o,hq⟩=>⟨(Array.getElem?_eq_some_iff.1 (JF q o hq).2.1).1,(JF q o hq).2.2⟩
 obtain⟨own,hown⟩:∃own:Nat->Prop,own=fun b=>Vj b\/KK b:=⟨_,rfl⟩
 have hl:Link E.H az.no own az.no π wL w:=by rw[hown];exact hl0.wider fun b hb=> .inl hb
 have hA:Apart Shun own w:=by rw[hown];exact YN.union KK kk
 have KZ:∀q,KK q->own q:=fun q hq=>by rw[hown];exact .inr hq
 have hvd:gh E.H wL d:=ha (.pointer (some ⟨d,0,none⟩)) (by simp) d (.ptr rfl);obtain⟨hvb,hR1⟩:=hd.ren hl hvd;have MI:(#[Value.pointer (some ⟨d,0,none⟩)]:Array Value).map (Value.ren π)=#[pb (π d)]:=by simp[bh,pb]
 rw[MI,yj] at hz;have rdo:∀b,tZ (π d) (π bl) b->own b:=fun b hb=>by
  rcases hb with rfl|rfl|rfl
  .have:=hl.own 0 hl.lw.zero id;rwa [hl.zero] at this
  .exact hl.own d hvd id
  .exact hl.own bl hvb id
 obtain⟨N1,M1,t1,g1,w1,r1,hz1,⟨s,⟨⟨rfl,rfl,hL⟩,_,u1⟩,hA1⟩,o1,nr1⟩:=kD hz (uK (oh (fun _=>False) IB fun _ h=>h.elim) hA);have x4:∀b,own b->b<w.heap.size:=hA.lt;have ZK:∀b,own b->w1.heap[b]? =w.heap[b]? :=fun b hb=>hL.old b (x4 b hb)
 have hR2:fq (π d) (π bl) n x w1:=by
  have k:∀b o,tZ (π d) (π bl) b->w.heap[b]? =some o->w1.heap[b]? =some o:=fun b o hb hbo=>by rw[ZK b (rdo b hb)];exact hbo
  obtain⟨⟨f1,h1⟩,⟨f2,h2⟩,⟨c,t,f3,h3,h4⟩,a,b,c',e⟩:=hR1;exact⟨⟨f1,k _ _ (.inr (.inl rfl)) h1⟩,⟨f2,k _ _ (.inr (.inr rfl)) h2⟩,⟨c,t,f3,k _ _ (.inl rfl) h3,h4⟩,a,b,c',e⟩
 let X:Cx iI:={Fd:=w.heap.size+2,M:=w.heap.size+1,Wg:=w.heap.size+3,tF:=JG,tW:=TWg,Dat:=E2,fin:=fun r=>match r with|.b=>jG (pO 1 (aP x n)) (pO 2 (aP x n))|_=>jG (pO 0 (aP x n)) (pO 2 (aP x n)),c0:=fun _ _=>none,N:=fun _=>108}
 let γ:Gh iI:=⟨tZ (π d) (π bl),fun b=>(own b\/b=w.heap.size)/\¬tZ (π d) (π bl) b,fun _=>none,fun _=>none⟩
 have ol:∀b,γ.own b\/γ.ro b->own b\/b=w.heap.size:=fun b hb=>hb.elim (·.1) fun h=> .inl (rdo b h)
 have ol1:∀b,γ.own b\/γ.ro b->b<w.heap.size+1:=fun b hb=>(ol b hb).elim (fun h=>by have:=x4 b h;omega) fun h=>by omega
 have hsh:ShAt X w1 ⟨0,0,0,0⟩:=⟨hL.fd,hL.wg⟩
 have agG:Reads X (tZ (π d) (π bl)) (fq (π d) (π bl) n x) (pb (π d)) (pO 0 (aP x n)) (pO 1 (aP x n)) (pO 2 (aP x n)) 54:=
  ⟨fun ro own w w' hro h hr=>h.keep hro hr,fun ro hro=>ph hro .a 0,fun ro hro=>ph hro .a 2,fun ro hro=>ph hro .b 1,fun ro hro=>ph hro .b 2,rfl,rfl,fun _=>rfl,fun _=>Nat.le_refl _⟩
 have hB:Base X γ w1:=⟨rfl,⟨by show w.heap.size+2≠w.heap.size+3;omega,fun b hb=>by
   have:=ol1 b hb;exact⟨by show b≠w.heap.size+2;omega,by show b≠w.heap.size+3;omega⟩⟩,fun hb=>by have:=ol1 _ (.inl hb);simp[X] at this,fun hb=>by have:=ol1 _ (.inr hb);simp[X] at this,by show w.heap.size+1≠w.heap.size+2;omega,by show w.heap.size+1≠w.heap.size+3;omega,fun b hb=>by
   have:=ol1 b hb;have:=hL.size;omega,by show w.heap.size+1<_;have:=hL.size;omega,⟨_,hsh⟩⟩
 have aa5:∀a:Addr,w.heap.size<=a.block->NoRelease a t1:=fun a hlow i hi=>by
  obtain⟨op,hop,e⟩:=Option.map_eq_some_iff.1 hi;rcases nr1 op (mem_of_getElem? hop) with h|h
  .have:=hz.past.seen op h
   rw[e] at this;have:a.block<w.heap.size:=this;omega
  .exact h a e
 have s1:w1.heap.size=w.heap.size+4:=hL.size;obtain⟨n0,μ,hI⟩:=IE (X:=X) (γ:=γ) (Post:=t7 X (tZ (π d) (π bl)) γ.own w1 w.heap.size (pb (π d)) c CS) hz1 hA1 (by show w.heap.size+2≠w.heap.size+3;omega) (by show w.heap.size+2≠w.heap.size+1;omega) (by show w.heap.size+1≠w.heap.size+3;omega)
  (.inr ⟨by show w.heap.size<=w.heap.size+2;omega,by show w.heap.size+2<_;omega⟩) (.inr ⟨by show w.heap.size<=w.heap.size+3;omega,by show w.heap.size+3<_;omega⟩) (.inr ⟨by show w.heap.size<=w.heap.size+1;omega,by show w.heap.size+1<_;omega⟩)
  (fun b hb=>by
   have h1:=ol b hb;have h2:=ol1 b hb;exact⟨h1.imp id fun e=>⟨by omega,by omega⟩,by show b≠w.heap.size+2;omega,by show b≠w.heap.size+3;omega,by show b≠w.heap.size+1;omega⟩)
  (fun b hb=>hb.2) hsh hL.map ⟨#[],0,fun _=>none,rfl,.empty 0,fun _=>rfl⟩ (aa5 _ (by show w.heap.size<=w.heap.size+2;omega)) (aa5 _ (by show w.heap.size<=w.heap.size+3;omega)) rfl
  (fun k=>zH agG hB (fun b hb=>hb) (fun b hb=>hb) hR2 (.refl X _ _ w1) ⟨.inr rfl,fun hb=>by have:=x4 _ (rdo _ hb);omega⟩ (by show w1.cell? ⟨w.heap.size,0,none⟩=_;simp[World.cell?,hL.box,pb]))
 obtain⟨N2,gs2,w2,sl2,t2,r2,hJ⟩:=G6 μ M1 t1 hI;obtain⟨g2,γ2,hz2,hP⟩:=hJ.zero (sl:=sl2);have hrx:=hP.2.2;obtain⟨s2,hs2⟩:=hrx.live ⟨_,hsh⟩;obtain⟨o,wJ,hoD⟩:=hP.2.1;obtain⟨es,cl,f,rfl,hM1,hM2⟩:=hoD;have nS:∀b,own b\/(w.heap.size<=b/\b<w.heap.size+4)->¬Fs Shun b:=fun b hb ⟨l,h1,h2⟩=>hA1.off b hb l h2 h1
 obtain⟨N3,M3,t3,g3,w3,r3,hz3,⟨rfl,hw3,u3⟩,o3,_⟩:=kD hz2 (IY hP hs2 (by show w.heap.size+2≠w.heap.size+3;omega) (nS _ (.inr ⟨by show w.heap.size<=w.heap.size+2;omega,by show w.heap.size+2<_;omega⟩)));have s2':w1.heap.size<=w2.heap.size:=hrx.size
 have dF:E2 (jG (pO 0 (aP x n)) (pO 2 (aP x n))) (jG (pO 1 (aP x n)) (pO 2 (aP x n))) (.map es cl):=⟨es,cl,f,rfl,hM1,hM2⟩
 have Se:∀b,own b->w3.heap[b]? =w.heap[b]? :=(fun b hb=>by
   rw[hw3,hrx.keep b (by have:=x4 b hb;omega) (by
    by_cases hr:tZ (π d) (π bl) b
    .exact .inr hr
    .exact .inl ⟨.inl hb,hr⟩)]
   exact ZK b hb)
 obtain⟨cj,hl',ag,em⟩:=Iz (m:=w.heap.size+1) hl (w':=w3) (by rw[hw3];omega) Se (by omega) (by rw[hw3];omega) (by rw[hw3];exact wJ) (C8 dF);have fin:=hk (.map (some wL.heap.size)) {wL with heap:=wL.heap.push (.map es cl)} cj M3 t3 ⟨wL.tape,wL.drawn,es,cl,rfl,⟨wL.tape,wL.drawn,rfl⟩,dF⟩ ?_ ?_ ag (by simp)
 .exact E.back _ _ _ _ _ r1 (E.back _ _ _ _ _ r2 (E.back _ _ _ _ _ r3 fin))
 .have ED:∀b,gh E.H {wL with heap:=wL.heap.push (.map es cl)} b->¬KK (cj b):=fun b hb hq=>by
   have hb1:b<wL.heap.size+1:=by have:=hb.1;simpa using this
   have hlt:=(kk _ hq).1
   by_cases hlt2:b<wL.heap.size
   .rw[ag b hlt2] at hq
    obtain⟨o',hq⟩:=hq;exact(JF _ o' hq).1 (hl0.own b ⟨hlt2,hb.2⟩ id)
   .have:b=wL.heap.size:=by omega
    rw[this,em] at hlt;omega
  have hAp:Apart (xM X (Fs Shun)) (fun b=>own b\/b=w.heap.size+1) w3:=by
   refine⟨fun b hb l hlb hS=>?_,fun b hb=>?_,fun l b hS hlb=>?_,fun l hS=>?_⟩
   .obtain⟨a,rfl,ha⟩:=hS
    have eb:=kE hlb;have hb':own b\/(w.heap.size<=b/\b<w.heap.size+4):=hb.imp id fun e=>⟨by omega,by omega⟩
    have lt1:b<=w.heap.size+1:=hb.elim (fun h=>by have:=x4 b h;omega) fun e=>by omega
    rcases ha with ha|ha|ha
    .rw[eb] at ha;exact nS b hb' ha
    .have:a.block=w.heap.size+3:=ha;omega
    .have:a.block=w.heap.size+2:=ha.1;omega
   .rw[hw3]
    rcases hb with hb|hb
    .have:=x4 b hb;omega
    .omega
   .obtain⟨a,rfl,ha⟩:=hS
    have eb:=kE hlb;rw[hw3];rcases ha with ha|ha|ha
    .obtain⟨l',h1,h2⟩:=ha
     have:=hA.low l' _ h1 h2;omega
    .have:a.block=w.heap.size+3:=ha;omega
    .have:a.block=w.heap.size+2:=ha.1;omega
   .obtain⟨a,rfl,_⟩:=hS
    exact⟨a,rfl⟩
  refine⟨xM X (Fs Shun),_,w3,?_,hl'.less KK ED,hAp.part fun b hb=>hb.1,?_,fun q o hq=>⟨fun hb=>hb.2 ⟨o,hq⟩,(Se q (KZ q ⟨o,hq⟩)).trans (JF q o hq).2.1,fun l hl=>hAp.off q (.inl (KZ q ⟨o,hq⟩)) l hl⟩⟩
  .have e:Value.ren cj (.map (some wL.heap.size))= .map (some (w.heap.size+1)):=by simp[em]
   rw[e];exact hz3
  .refine⟨?_,u3.trans (hrx.output.trans (u1.trans ho.2))⟩
   rw[o3];have h1:OsLater E.os w1.os:=by rw[o1];exact ho.1
   exact h1.trans hrx.os
 .intro r hr
  cases hr;exact⟨by show wL.heap.size<(wL.heap.push _).size;simp,fun hh=>by have:=hl.lw.low _ (.inl hh);omega⟩
end aH
end
section
open Go.Conc
open Go.ConcM (OsLater)
namespace aH
section
variable {P:Program}{main:Bool}{b:Frame}{a:Act}{k:List Item}{cs:List Frame}{w w':World}{l:Nat}{mark:List Deferred}
theorem uG {w:World}{l:Nat}{r:Loop}(h:w.heap[l]? =some (.loop r)):RT (Instr.getLoop l) w r w #[⟨.obj l,false,false⟩]:=RT.eC (x:= .loop r) (fT h) (.pure _)
theorem KA {w:World}{l:Nat}{r:Loop}(h:w.heap[l]? =some (.loop r))(hr:r.state= .ready):RT (Instr.beginRound l) w () {w with heap:=w.heap.setIfInBounds l (.loop {r with state:= .busy})} #[⟨.obj l,false,false⟩,⟨.obj l,true,false⟩]:=by
 refine RT.bind (x:=r) (e1:=#[⟨.obj l,false,false⟩]) (e2:=#[⟨.obj l,true,false⟩]) (uG h) ?_;refine RT.eC (x:=()) (jj h) ?_;rw[hr];exact .pure _
theorem OY {w:World}{l:Nat}{r:Loop}(h:w.heap[l]? =some (.loop r)):RT (Instr.endRound l none) w (.bool true) {w with heap:=w.heap.setIfInBounds l (.loop {r with state:= .ready,pending:=none})} #[⟨.obj l,false,false⟩,⟨.obj l,true,false⟩]:=by
 refine RT.bind (x:=r) (e1:=#[⟨.obj l,false,false⟩]) (e2:=#[⟨.obj l,true,false⟩]) (uG h) ?_;exact RT.eC (x:=()) (jj h) (.pure _)
theorem OZ {w:World}{l:Nat}{r:Loop}(h:w.heap[l]? =some (.loop r))(hr:r.state= .ready):RT (Instr.endLoop l) w r.pending {w with heap:=w.heap.setIfInBounds l (.loop {r with state:= .exhausted})} #[⟨.obj l,false,false⟩,⟨.obj l,true,false⟩]:=by
 refine RT.bind (x:=r) (e1:=#[⟨.obj l,false,false⟩]) (e2:=#[⟨.obj l,true,false⟩]) (uG h) ?_;have hb:(r.state==LoopState.busy)=false:=by rw[hr];rfl
 rw[hb];exact RT.eC (x:=()) (jj h) (.pure _)
theorem OW {w:World}{D:Nat}(h:w.heap[D]? =some (.deferred (some []))):RT (Instr.takeDeferred D) w [] {w with heap:=w.heap.setIfInBounds D (.deferred none)} #[⟨.obj D,false,false⟩,⟨.obj D,true,false⟩]:=by
 refine RT.bind (x:= .deferred (some [])) (e1:=#[⟨.obj D,false,false⟩]) (e2:=#[⟨.obj D,true,false⟩]) (fT h) ?_;exact RT.eC (x:=()) (jj h) (.pure _)
theorem Ky {w:World}{l:Nat}{r:Loop}{args:Array Value}(h:w.heap[l]? =some (.loop r))(hs:args.size=r.params.size):
  RT (Instr.yield l args) w (.round l r.fn ((r.params.zip args).foldl (fun tmps (t,a)=>tmps.setIfInBounds t a) r.tmps) r.assign r.body) w #[⟨.obj l,false,false⟩]:=by
 refine RT.eC (x:=r) (uG h) ?_;rw[if_neg (by simpa using hs)];exact .pure _
theorem z7 (fn:FuncId)(tmps:Array Value)(ps:Array Tmp)(assign body:Code):
  RT (Instr.enterLoop fn tmps ps assign body none) w (w.heap.size+1,[{target:= .collected w.heap.size,args:=#[]}])
   {w with heap:=(w.heap.push (.deferred (some []))).push (.loop {state:= .ready,pending:=none,fn,tmps,params:=ps,assign,body,defers:=w.heap.size})} #[]:=by
 have h2:=nR (w:={w with heap:=w.heap.push (.deferred (some []))}) (.loop {state:= .ready,pending:=none,fn,tmps,params:=ps,assign,body,defers:=w.heap.size});have e:(w.heap.push (.deferred (some []))).size=w.heap.size+1:=by simp
 rw[e] at h2;exact RT.aN (x:=w.heap.size) (nR _) (RT.aN (x:=(w.heap.size,[({target:= .collected w.heap.size,args:=#[]}:Deferred)])) (.pure _) (RT.aN h2 (.pure _)))
theorem uM:(CallKind.normal==CallKind.early)=false:=rfl
theorem ifT {α:Type}(a b:α):(if(true=true) then a else b)=a:=if_pos rfl
section
variable {fr:Frame}{s:Sem Next}{ev:Array Event}{listen:Bool}
theorem Dv {f:FuncId}{args:Array Value}(h:RT s w (.enter f args) w' ev)(hk:fr.kind= .normal)(ht:∀d r x k,fr.todo≠.call d true r x::k):
  stepG.apply PP true fr cs none s w= .go (G (Frame.enter PP f args .normal) (fr::cs)) w' (seen PP fr.fn ev):=by
 have h1:=h #[];rw[Array.empty_append] at h1;unfold stepG.apply;simp only[ifT,h1,hk,uM];have:(match fr.todo with|.call _ true _ _::_=>CallKind.wrapped|_=> .normal)= .normal:=by
  split
  .exact absurd (by assumption) (ht _ _ _ _)
  .rfl
 simp[GStep.after,G]
theorem oE {v:Value}(h:RT s w (.value v) w' ev)(hk:fr.kind= .normal):stepG.apply PP true fr cs none s w= .go (G (fr.finish v) cs) w' (seen PP fr.fn ev):=by
 have h1:=h #[];rw[Array.empty_append] at h1;unfold stepG.apply;simp only[ifT,h1,hk,uM];simp[GStep.after,G]
theorem xA (h:RT s w .skip w' ev)(hk:fr.kind= .normal):stepG.apply PP true fr cs none s w= .go (G (fr.finish undef) cs) w' (seen PP fr.fn ev):=by
 have h1:=h #[];rw[Array.empty_append] at h1;unfold stepG.apply;simp only[ifT,h1,hk,uM];simp[GStep.after,G]
theorem Du {f:FuncId}{tm:Array Value}{uZ body:Code}(h:RT s w (.round l f tm uZ body) w' ev)(hk:fr.kind= .normal):stepG.apply PP true fr cs none s w= .go (G (Frame.round l f tm uZ body .normal) (fr::cs)) w' (seen PP fr.fn ev):=by
 have h1:=h #[];rw[Array.empty_append] at h1;unfold stepG.apply;simp only[ifT,h1,hk,uM];simp[GStep.after,G]
end
theorem xS {g:Operand}{ps:Array Tmp}{uZ body:Code}{gf:Nat}{lb:Array Value}{fn:Func}(hg:a.eval g= .func (.func gf) #[] lb)(hf:PP.funcs[gf]? =some fn)(hb:fn.body.isNone=false)(hn:(fn.name== "runtime.NumGoroutine")=false)(hk:b.kind= .normal)
  (h:RT (Instr.enterLoop b.fn a.tmps ps uZ body none) w (l,mark) w' #[]):
  stepG PP main (G (b.at a (.code (.rangeFunc g ps uZ body)::k)) cs) w= .go (G (Frame.enter PP gf (#[.func (.yield l) #[] #[]]++lb) .normal) (b.at {a with defers:=mark++a.defers} (.inRangeFunc l::k)::cs)) w' #[]:=by
 have h1:=h #[];have hev:Frame.eval {fn:=b.fn,tmps:=a.tmps,todo:= .inRangeFunc l::k,defers:=mark++a.defers,mode:= .run,kind:=b.kind} g= .func (.func gf) #[] lb:=by
  rw[<-hg];cases g<;>rfl
 have h2:RT (callFunc gf (#[.func (.yield l) #[] #[]]++lb)) w' (.enter gf (#[.func (.yield l) #[] #[]]++lb)) w' #[]:=by
  refine fH.aN ?_;rw[hf];simp only[hn,hb];exact .pure _
 have h3:RT (do let d <-resolve (Frame.eval {fn:=b.fn,tmps:=a.tmps,todo:= .inRangeFunc l::k,defers:=mark++a.defers,mode:= .run,kind:=b.kind}) {callee:= .value g,args:=#[.const (.func (.yield l) #[] #[])],argTypes:=#[]} 0;invoke d.target d.args) w' (.enter gf (#[.func (.yield l) #[] #[]]++lb)) w' #[]:=by
  refine RT.aN (x:={target:= .fn (.func gf) lb,args:=#[.func (.yield l) #[] #[]]}) ?_ (show RT (invoke (.fn (.func gf) lb) #[.func (.yield l) #[] #[]]) _ _ _ _ from h2);unfold resolve;simp only[List.map_toArray,List.map_cons,List.map_nil,hev];exact .pure _
 rw[Array.append_empty] at h1;unfold stepG stepG.exec;simp only[G,Frame.at];rw[h1];dsimp only;have h5:=Dv (cs:=cs) (fr:={fn:=b.fn,tmps:=a.tmps,todo:= .inRangeFunc l::k,defers:=mark++a.defers,mode:= .run,kind:=b.kind}) h3 hk (by simp);rw[h5];simp[seen_none,GStep.after,G]
section
variable {fr:Frame}{ev:Array Event}{c:Frame}
theorem stepG_op {ops:Array Oper}{i:Nat}{rest:List Nat}{o:Oper}(hm:fr.mode= .run)(ht:fr.todo= .inRegion ops (i::rest)::k)(ho:ops[i]? =some o)(hw:Region.wanted o (yielded ops fr.tmps)=true)(hnd:∀c,o.op≠.defer c):
  stepG PP main (G fr cs) w=stepG.apply PP true fr cs none (execOp fr.eval o) w:=by
 have h1:fr.oper? =some o:=by simp[Frame.oper?,ht,ho]
 unfold stepG stepG.exec;simp only[G,hm,ht,ho,Option.map_some,hw,Option.getD_some,if_true];unfold stepG.oper;rw[h1];dsimp only;split
 .exact absurd (by assumption) (hnd _)
 .rfl
theorem Br (hm:fr.mode= .run)(ht:fr.todo= .beginRound::k)(hr:fr.roundOf=some l)(hk:fr.kind= .normal)(h:RT (Instr.beginRound l) w () w' ev):
  stepG PP main (G fr cs) w= .go (G (fr.finish undef) cs) w' (seen PP fr.fn ev):=by
 unfold stepG stepG.exec;simp only[G,hm,ht,hr,Option.elim_some];exact xA (RT.eC h (.pure _)) hk
theorem DO (hm:fr.mode= .run)(ht:fr.todo=[])(hr:fr.roundOf=some l)(hk:fr.kind= .normal)(h:RT (Instr.endRound l none) w (.bool true) w' ev):
  stepG PP main (G fr (c::cs)) w= .go (G (c.finish (.bool true)) cs) w' (seen PP fr.fn ev):=by
 have h1:=h #[];rw[Array.empty_append] at h1;unfold stepG stepG.exec;simp only[G,hm,ht,hr,h1,doReturn,hk,GStep.after];simp
theorem DP (hm:fr.mode= .run)(ht:fr.todo= .endRangeFunc l::k)(h:RT (Instr.endLoop l) w none w' ev):
  stepG PP main (G fr cs) w= .go (G {fr with todo:=k} cs) w' (seen PP fr.fn ev):=by
 have h1:=h #[];rw[Array.empty_append] at h1;unfold stepG stepG.exec;simp only[G,hm,ht,h1,GStep.after];simp
theorem DN {D:Nat}{ar:Array Value}{ds calls:List Deferred}(hm:fr.mode= .returning)(hd:fr.defers={target:= .collected D,args:=ar}::ds)(h:RT (Instr.takeDeferred D) w calls w' ev):
  stepG PP main (G fr cs) w= .go (G {fr with defers:=calls++ds} cs) w' (seen PP fr.fn ev):=by
 have h1:=h #[];rw[Array.empty_append] at h1;unfold stepG unwind;simp only[G,hm,hd,h1,GStep.after];simp
end
end
abbrev jI:TypeId:=9
abbrev lz:TypeId:=45
theorem Bg:PP.underlying lz=some (.slice jI):=by kernel_rfl
theorem Au:(PP.info? jI).map (·.size)=some 1:=by kernel_rfl
theorem Fv:(PP.info? jI).bind (·.zero)=some (.string ⟨#[]⟩):=by kernel_rfl
def Ge:TypeInfo:=(PP.info? jI).getD default
theorem wG:PP.info? jI=some Ge:=by kernel_rfl
theorem tJ:Ge.bytes=16:=by kernel_rfl
section
variable {w:World}{k:ByteArray}
theorem BV:RT (Instr.buildSlice lz 1 #[(0,.string k)]) w (.slice (some ⟨w.heap.size,0,none⟩) 1 1) {w with heap:=w.heap.push (.cells #[.string k] jI (0,0))} #[]:=by
 unfold Instr.buildSlice;refine(fD Bg).aN ?_;dsimp only;refine(oI Au).aN ?_;simp only[Nat.reduceMul,Nat.reducePow,Nat.reduceGT,if_false,Nat.reduceEqDiff,Nat.one_ne_zero];refine(uF Fv).aN (RT.aN (x:=#[.string ⟨#[]⟩]) (.pure _) ?_)
 have h3:Instr.fill (fun i=>some (i*1,1)) ((Array.range 1).map (fun x=>(#[(.string ⟨#[]⟩:Value)]:Array Value)[x%(#[(.string ⟨#[]⟩:Value)]:Array Value).size]!)) [(0,.string k)]=some #[.string k]:=by
  have e:(Array.map (fun x=>(#[(.string ⟨#[]⟩:Value)]:Array Value)[x%(#[(.string ⟨#[]⟩:Value)]:Array Value).size]!) (Array.range 1))=#[.string ⟨#[]⟩]:=by
   rw[show Array.range 1=#[0] from Array.ext (by simp) fun i h1 h2=>by simp at h1;subst h1;simp];simp
  rw[e];simp[Instr.fill,Value.cells]
 rw[h3];exact RT.aN (x:=⟨w.heap.size,0,none⟩) (RT.aN (nR _) (.pure _)) (.pure _)
def Strs (w:World)(own:Nat->Prop)(v:Value)(ks:List ByteArray):Prop:=
 (v= .slice none 0 0/\ks=[])\/∃sk cap,v= .slice (some ⟨sk,0,none⟩) ks.length cap/\own sk/\ks.length<=cap/\w.heap[sk]? =some (.cells (ks.map Value.string++List.replicate (cap-ks.length) (Value.string ⟨#[]⟩)).toArray jI (0,0))
structure App (own:Nat->Prop)(ks:List ByteArray)(w:World)(v:Value)(w':World)(ev:Array Event):Prop where
 tape:w'.tape=w.tape
 output:w'.output=w.output
 os:w'.os=w.os
 size:w.heap.size<=w'.heap.size
 keep:∀b,b<w.heap.size->¬own b->w'.heap[b]? =w.heap[b]?
 strs:Strs w' (fun b=>own b\/(w.heap.size<=b/\b<w'.heap.size)) v ks
 ev:∀e∈ev,(∃b,own b/\EvB b e)\/∃m,e.loc= .mark m/\oe m
theorem D5 (cs:Array Value)(v:Value)(i:Nat):kr cs [v] i=cs.setIfInBounds i v:=rfl
theorem tu {b:Nat}{f:Nat×Nat}(h:w.heap[b]? =some (.cells #[.string k] jI f)):∃ev,RT (Builtin.firstCells 1 1 (.slice (some ⟨b,0,none⟩) 1 1)) w #[.string k] w ev/\∀e∈ev,EvB b e:=by
 obtain⟨ev,h1,h2⟩:=j3 h 0 1 0 #[] (by simp);refine⟨ev,?_,fun e he=>?_⟩
 .have e1:(#[]:Array Value)++(#[Value.string k]:Array Value).extract (0+0) (0+0+1)=#[.string k]:=by simp
  rw[e1] at h1;exact h1
 .obtain⟨a,rfl,ha⟩:=h2 e he
  exact iY ha
theorem BU {b n cap:Nat}{cs:Array Value}{f:Nat×Nat}(h:w.heap[b]? =some (.cells cs jI f))(hn:n<=cs.size):∃ev,RT (Builtin.firstCells 1 n (.slice (some ⟨b,0,none⟩) n cap)) w (cs.extract 0 n) w ev/\∀e∈ev,EvB b e:=by
 obtain⟨ev,h1,h2⟩:=j3 h 0 n 0 #[] (by omega);refine⟨ev,?_,fun e he=>?_⟩
 .have e1:(#[]:Array Value)++cs.extract (0+0) (0+0+n)=cs.extract 0 n:=by simp
  rw[e1] at h1;show RT (loadCells ⟨b,0,none⟩ (n*1)) _ _ _ _;rw[Nat.mul_one];exact h1
 .obtain⟨a,rfl,ha⟩:=h2 e he
  exact iY ha
theorem FQ {a:Option Addr}{n c:Nat}:RT (Builtin.lenOf (.slice a n c)) w n w #[]:= .pure _
theorem Ju {base:Option Addr}{n cap xb:Nat}{ty:TypeId}{sv:Value}{w':World}{ev:Array Event}(hc:n+1<=cap)
  (h:RT (do
    let new <-Builtin.firstCells 1 1 (.slice (some ⟨xb,0,none⟩) 1 1)
    if let some a:=base then storeCells (a.add (n*1)) new.toList
    pure (.slice base (n+1) cap)) w sv w' ev):
  RT (Builtin.append_ #[lz,lz] ty #[.slice base n cap,.slice (some ⟨xb,0,none⟩) 1 1]) w sv w' ev:=by
 unfold Builtin.append_;show RT (underlying lz>>=_) _ _ _ _;refine(fD Bg).aN ?_;dsimp only;refine(oI Au).aN ?_;show RT (underlying lz>>=_) _ _ _ _;refine(fD Bg).aN ?_;refine RT.aN (x:=false) (.pure _) ?_;simp only[Bool.false_eq_true,if_false,Bool.not_false,if_true];refine FQ.aN ?_;rw[if_pos hc];exact h
theorem Fo {base:Option Addr}{n cap xb:Nat}{ty:TypeId}{sv:Value}{w':World}{ev:Array Event}(hc:¬n+1<=cap)(hl:n<2^40)(hcap:cap<=n)
  (h:RT (do
    let newCap <-choose (.appendCap (n+1) cap jI)
    askRoom (newCap*(<-typeInfo jI).bytes)
    let old <-Builtin.firstCells 1 n (.slice base n cap)
    let new <-Builtin.firstCells 1 1 (.slice (some ⟨xb,0,none⟩) 1 1)
    let rest:=Builtin.zeroCells (<-zeroValue jI).cells (newCap-(n+1))
    pure (.slice (some (<-newRow jI (old++new++rest))) (n+1) newCap)) w sv w' ev):
  RT (Builtin.append_ #[lz,lz] ty #[.slice base n cap,.slice (some ⟨xb,0,none⟩) 1 1]) w sv w' ev:=by
 unfold Builtin.append_;show RT (underlying lz>>=_) _ _ _ _;refine(fD Bg).aN ?_;dsimp only;refine(oI Au).aN ?_;show RT (underlying lz>>=_) _ _ _ _;refine(fD Bg).aN ?_;refine RT.aN (x:=false) (.pure _) ?_;simp only[Bool.false_eq_true,if_false,Bool.not_false,if_true,false_or];refine FQ.aN ?_;rw[if_neg hc];refine(qN wG).aN ?_
 have hcap2:Builtin.nextslicecap (n+1) cap*Ge.bytes<=2^48:=by
  rw[tJ];unfold Builtin.nextslicecap;have g:∀(r c:Nat),c<=2^41->Builtin.growBy (n+1) r c<=2^42:=by
   intro r
   induction r with
   |zero=>intro c hc';unfold Builtin.growBy;omega
   |succ r ih=>
    intro c hc';unfold Builtin.growBy;split
    .omega
    .refine ih _ ?_;omega
  split
  .omega
  .split
   .omega
   .have:=g 4 cap (by omega);omega
 rw[if_neg (by rw[tJ];omega)];refine(qN wG).aN ?_;rw[if_neg (by omega)];exact h
theorem set_mid {α:Type}(A:List α)(b c:α)(B:List α):(A++b::B).set A.length c=A++c::B:=by
 induction A with
 |nil=>rfl
 |cons x A ih=>simp[ih]
theorem xO (m:Nat):Builtin.zeroCells #[.string ⟨#[]⟩] m=Array.replicate m (Value.string ⟨#[]⟩):=by
 unfold Builtin.zeroCells
 apply Array.ext
 .simp
 .intro i h1 h2
  simp[Nat.mod_one]
theorem HU {own:Nat->Prop}{s:Value}{ks:List ByteArray}{xb:Nat}{f:Nat×Nat}(ty:TypeId)(hs:Strs w own s ks)(hx:w.heap[xb]? =some (.cells #[.string k] jI f))(ox:own xb)(hl:ks.length<2^40):
  ∃v w' ev,RT (Builtin.append_ #[lz,lz] ty #[s,.slice (some ⟨xb,0,none⟩) 1 1]) w v w' ev/\App own (ks++[k]) w v w' ev:=by
 have grow:∀{base:Option Addr} {cap:Nat} {YY:Array Event},¬ks.length+1<=cap->cap<=ks.length->(∀w1,w1.heap=w.heap->∃YY,RT (Builtin.firstCells 1 ks.length (.slice base ks.length cap)) w1 (ks.map Value.string).toArray w1 YY/\∀e∈YY,∃b,own b/\EvB b e)->
   ∃v w' ev,RT (Builtin.append_ #[lz,lz] ty #[.slice base ks.length cap,.slice (some ⟨xb,0,none⟩) 1 1]) w v w' ev/\App own (ks++[k]) w v w' ev:=by
  intro base cap YY hc hcap hold;obtain⟨c0,w1,hch,t1,o1,s1,h1,hcut⟩:=oK (w:=w) (q:= .appendCap (ks.length+1) cap jI);have ab2:ks.length+1<=c0:=by
   rcases hcut with⟨hf,_⟩|⟨x,rfl⟩
   .simp[Question.forced] at hf
   .simp[Question.cut]
  obtain⟨ev1,r1,e1⟩:=hold w1 h1;obtain⟨ev2,r2,e2⟩:=tu (w:=w1) (by rw[h1];exact hx);have room:∃ev,RT (askRoom (c0*Ge.bytes)) w1 () w1 ev/\∀e∈ev,∃m,e.loc= .mark m/\oe m:=by
   unfold askRoom;split
   .exact⟨#[⟨.mark .noRoom,false,true⟩],fun es=>by show(Result.ok () w1,es.push _)=_;simp,fun e he=>by simp at he;subst he;exact⟨_,rfl,trivial⟩⟩
   .exact⟨#[],.pure _,by simp⟩
  obtain⟨ev3,r3,e3⟩:=room;have hrow:=nR (w:=w1) (.cells ((ks.map Value.string).toArray++#[.string k]++Array.replicate (c0-(ks.length+1)) (Value.string ⟨#[]⟩)) jI (0,0))
  refine⟨.slice (some ⟨w1.heap.size,0,none⟩) (ks.length+1) c0,{w1 with heap:=w1.heap.push (.cells ((ks.map Value.string).toArray++#[.string k]++Array.replicate (c0-(ks.length+1)) (Value.string ⟨#[]⟩)) jI (0,0))},ev3++(ev1++ev2),Fo hc hl hcap ?_,?_⟩
  .refine hch.aN ((qN wG).aN (r3.bind (r1.bind ?_)))
   refine RT.eC (x:=#[.string k]) r2 ?_;refine(uF Fv).aN ?_;show RT (newRow jI ((ks.map Value.string).toArray++#[.string k]++Builtin.zeroCells #[.string ⟨#[]⟩] (c0-(ks.length+1)))>>=_) _ _ _ _;rw[xO];exact RT.aN (x:=⟨w1.heap.size,0,none⟩) (RT.aN hrow (.pure _)) (.pure _)
  .refine⟨t1,o1,s1,by show w.heap.size<=(w1.heap.push _).size;rw[h1];simp,fun b hb _=>by show(w1.heap.push _)[b]? =_;rw[h1,Array.getElem?_push_lt hb];exact(Array.getElem?_eq_getElem hb).symm,.inr ⟨w1.heap.size,c0,by simp,.inr ⟨by rw[h1];exact Nat.le_refl _,by show _<(w1.heap.push _).size;simp⟩,by simpa using ab2,?_⟩,fun e he=>?_⟩
   .show(w1.heap.push _)[w1.heap.size]? =_
    simp
   .rcases Array.mem_append.1 he with he|he
    .exact .inr (e3 e he)
    .rcases Array.mem_append.1 he with he|he
     .exact .inl (e1 e he)
     .exact .inl ⟨xb,ox,e2 e he⟩
 rcases hs with⟨rfl,rfl⟩|⟨sk,cap,rfl,osk,hle,hsk⟩
 .exact grow (base:=none) (cap:=0) (YY:=#[]) (by simp) (by simp) fun w1 _=>⟨#[],.pure _,by simp⟩
 .by_cases hc:ks.length+1<=cap
  .obtain⟨ev2,r2,e2⟩:=tu hx
   obtain⟨w',ev,r3,u,e3⟩:=lH (ks.length*1) [.string k] 0 hsk (by simp;omega) (by simp[kS]);refine⟨.slice (some ⟨sk,0,none⟩) (ks.length+1) cap,w',ev2++ev,Ju hc (r2.bind ?_),?_⟩
   .show RT (storeCells (Addr.add ⟨sk,0,none⟩ (ks.length*1)) [.string k]>>=_) _ _ _ _
    rw[xD,Nat.zero_add];exact RT.eC (x:=()) r3 (.pure _)
   .refine⟨u.tape,u.output,u.os,by rw[u.size];exact Nat.le_refl _,fun b _ hb=>u.rest b fun e=>hb (e▸osk),.inr ⟨sk,cap,by simp,.inl osk,by simpa using hc,?_⟩,fun e he=>?_⟩
    .rw[u.at_,D5]
     congr 2
     apply Array.ext'
     simp only[Nat.mul_one,Nat.add_zero,List.setIfInBounds_toArray];obtain⟨m,hm⟩:∃m,cap-ks.length=m+1:=⟨cap-ks.length-1,by omega⟩
     have hm2:cap-(ks++[k]).length=m:=by simp;omega
     rw[hm,hm2,List.replicate_succ];have:=set_mid (ks.map Value.string) (Value.string ⟨#[]⟩) (Value.string k) (List.replicate m (Value.string ⟨#[]⟩));rw[List.length_map] at this;rw[this];simp
    .rcases Array.mem_append.1 he with he|he
     .exact .inl ⟨xb,ox,e2 e he⟩
     .obtain⟨a,rfl,ha⟩:=e3 e he
      exact .inl ⟨sk,osk,iY ha⟩
  .have hcap:cap=ks.length:=by omega
   refine grow (base:=some ⟨sk,0,none⟩) (cap:=cap) (YY:=#[]) hc (by omega) fun w1 hw1=>?_
   obtain⟨ev,r,e⟩:=BU (w:=w1) (n:=ks.length) (cap:=cap) (by rw[hw1];exact hsk) (by simp);refine⟨ev,?_,fun x hx=>⟨sk,osk,e x hx⟩⟩;have:((ks.map Value.string++List.replicate (cap-ks.length) (Value.string ⟨#[]⟩)).toArray).extract 0 ks.length=(ks.map Value.string).toArray:=by
    apply Array.ext'
    rw[hcap];simp[List.extract_eq_drop_take,List.take_of_length_le]
   rw[this] at r;exact r
end
namespace Sq
abbrev C0:Nat:=178
abbrev Sx:Nat:=135
def cJ (tm:Array Value)(uZ body:Code)(st:LoopState)(D:Nat):Loop:={state:=st,pending:=none,fn:=C0,tmps:=tm,params:=#[7],assign:=uZ,body:=body,defers:=D}
section
variable {tm:Array Value}{uZ body:Code}{D l:Nat}{w:World}{st:LoopState}
theorem GQ {x:Value}(h:w.heap[l]? =some (.loop (cJ tm uZ body st D))):RT (Instr.yield l #[x]) w (.round l C0 (tm.setIfInBounds 7 x) uZ body) w #[⟨.obj l,false,false⟩]:=by
 have:=Ky (args:=#[x]) h rfl;simpa [cJ] using this
theorem Jr (h:w.heap[l]? =some (.loop (cJ tm uZ body .ready D))):RT (Instr.beginRound l) w () {w with heap:=w.heap.setIfInBounds l (.loop (cJ tm uZ body .busy D))} #[⟨.obj l,false,false⟩,⟨.obj l,true,false⟩]:=KA h rfl
theorem MC (h:w.heap[l]? =some (.loop (cJ tm uZ body .busy D))):RT (Instr.endRound l none) w (.bool true) {w with heap:=w.heap.setIfInBounds l (.loop (cJ tm uZ body .ready D))} #[⟨.obj l,false,false⟩,⟨.obj l,true,false⟩]:=OY h
theorem MD (h:w.heap[l]? =some (.loop (cJ tm uZ body .ready D))):RT (Instr.endLoop l) w none {w with heap:=w.heap.setIfInBounds l (.loop (cJ tm uZ body .exhausted D))} #[⟨.obj l,false,false⟩,⟨.obj l,true,false⟩]:=OZ h rfl
theorem I1 (tm:Array Value)(uZ body:Code):RT (Instr.enterLoop C0 tm #[7] uZ body none) w (w.heap.size+1,[{target:= .collected w.heap.size,args:=#[]}]) {w with heap:=(w.heap.push (.deferred (some []))).push (.loop (cJ tm uZ body .ready w.heap.size))} #[]:=z7 C0 tm #[7] uZ body
end
def mB (bx:Nat):Value:= .func (.func Sx) #[] #[pb bx]
section
variable (bx bS M it D l:Nat)(k:ByteArray)(v:Value)(fr:Frame)(cs:List Frame)(y:Nat->Value)
def ZT:Goroutine:=LV C0 #[.slice none 0 0,mB bx] 11 fr cs
def Hy:Goroutine:=OT (ZT bx fr cs)
theorem D7:au PP true (ZT bx fr cs) (Hy bx fr cs):=bq fun ws=>by kernel_rfl
theorem TU:aR (Hy bx fr cs)=some (.box lz (.slice none 0 0)):=by kernel_rfl
def TT:Goroutine:=OT (resume (Hy bx fr cs) (pb bS))
theorem TS:au PP true (resume (Hy bx fr cs) (pb bS)) (TT bx bS fr cs):=bq fun ws=>by kernel_rfl
def Ns:Code:=match(TT 0 0 default []).frame.todo with|.code (.rangeFunc _ _ a _)::_=>a|_=> .skip
def Jq:Code:=match(TT 0 0 default []).frame.todo with|.code (.rangeFunc _ _ _ b)::_=>b|_=> .skip
def FR:List Item:=(TT 0 0 default []).frame.todo.tail
def ZB:Array Value:=(TT bx bS default []).frame.tmps
theorem TR:TT bx bS fr cs=G ((base C0).at ⟨ZB bx bS,[]⟩ (.code (.rangeFunc (.tmp 6) #[7] Ns Jq)::FR)) (fr::cs):=by kernel_rfl
theorem Ob:(⟨ZB bx bS,[]⟩:Act).eval (.tmp 6)= .func (.func Sx) #[] #[pb bx]:=by kernel_rfl
def lJ (st:LoopState)(bx bS D:Nat):Loop:=cJ (ZB bx bS) Ns Jq st D
def Gx:Frame:=(base C0).at ⟨ZB bx bS,[{target:= .collected D,args:=#[]}]⟩ (.inRangeFunc l::FR)
def ZV:Goroutine:=G (Frame.enter PP Sx #[.func (.yield l) #[] #[],pb bx] .normal) (Gx bx bS D l::fr::cs)
def ZU:Goroutine:=OT (ZV bx bS D l fr cs)
theorem Uh:au PP true (ZV bx bS D l fr cs) (ZU bx bS D l fr cs):=bq fun ws=>by kernel_rfl
theorem Ko:aR (ZU bx bS D l fr cs)=some (.load NB (pb bx)):=by kernel_rfl
def Ug:Goroutine:=OT (resume (ZU bx bS D l fr cs) (.map (some M)))
theorem Uf:au PP true (resume (ZU bx bS D l fr cs) (.map (some M))) (Ug bx bS M D l fr cs):=bq fun ws=>by kernel_rfl
theorem Kn:aR (Ug bx bS M D l fr cs)=some (.range NB (.map (some M))):=by kernel_rfl
end
def Zz:List Item:=(OT (resume (Ug 0 0 0 0 0 default []) (pb 0))).frame.todo
def gK (tm:Array Value)(F1:Frame)(cs1:List Frame):Goroutine:=G ((base Sx).at ⟨tm,[]⟩ Zz) (F1::cs1)
structure HK (l it:Nat)(tm:Array Value):Prop where
 size:tm.size=14
 s0:tm[0]? =some (.func (.yield l) #[] #[])
 s5:tm[5]? =some (pb it)
section
variable (bx bS M it D l xb:Nat)(k:ByteArray)(v sv nv:Value)(fr F1:Frame)(cs cs1:List Frame)(y:Nat->Value)
def tmK:Array Value:=#[.func (.yield l) #[] #[],y 1,y 2,y 3,y 4,pb it,y 6,y 7,y 8,y 9,y 10,y 11,y 12,y 13]
theorem Ox (tm:Array Value)(h:tm.size=14):tm=#[tm.getD 0 undef,tm.getD 1 undef,tm.getD 2 undef,tm.getD 3 undef,tm.getD 4 undef,tm.getD 5 undef,tm.getD 6 undef,tm.getD 7 undef,tm.getD 8 undef,tm.getD 9 undef,tm.getD 10 undef,tm.getD 11 undef,tm.getD 12 undef,tm.getD 13 undef]:=by
 have e:tm=((List.range 14).map fun i=>tm.getD i undef).toArray:=by
  apply Array.ext
  .simp[h]
  .intro i h1 h2
   simp[Array.getD_eq_getD_getElem?,h1]
 exact e.trans (by kernel_rfl)
theorem HK.eq {l it:Nat}{tm:Array Value}(h:HK l it tm):tm=tmK it l fun i=>tm.getD i undef:=by
 have h1:=Ox tm h.size;rw[cg h.s0,cg h.s5] at h1;exact h1
theorem Ue:∃tm,HK l it tm/\au PP true (resume (Ug bx bS M D l fr cs) (pb it)) (gK tm (Gx bx bS D l) (fr::cs)):=
 ⟨(OT (resume (Ug bx bS M D l fr cs) (pb it))).frame.tmps,⟨by kernel_rfl,by kernel_rfl,by kernel_rfl⟩,bI 200 (bN PP true 200 (resume (Ug bx bS M D l fr cs) (pb it))) fun ws=>by kernel_rfl⟩
abbrev kl:Goroutine:=gK (tmK it l y) F1 cs1
def nxK:TypeId:=match aR (kl 0 0 default [] fun _=>undef) with|some (.next _ _ t)=>t|_=>0
theorem abp:aR (kl it l F1 cs1 y)=some (.next (pb it) false nxK):=by kernel_rfl
def kA:Goroutine:=OT (resume (kl it l F1 cs1 y) (.tuple #[.bool true,.string k,v]))
theorem abt:au PP true (resume (kl it l F1 cs1 y) (.tuple #[.bool true,.string k,v])) (kA it l k v F1 cs1 y):=bq fun ws=>by kernel_rfl
theorem abr:aR (kA it l k v F1 cs1 y)=some (.entry (pb it)):=by kernel_rfl
def FB:Frame:=(OT (resume (kA it l k v default [] y) (.tuple #[.string k,v]))).frame
theorem abq:au PP true (resume (kA it l k v F1 cs1 y) (.tuple #[.string k,v])) (G (FB it l k v y) (F1::cs1)):=bI 200 (bN PP true 200 (resume (kA it l k v F1 cs1 y) (.tuple #[.string k,v]))) fun ws=>by kernel_rfl
theorem Rr:∃tm,HK l it tm/\au PP true (G ((FB it l k v y).finish (.bool true)) (F1::cs1)) (gK tm F1 cs1):=
 ⟨(OT (G ((FB it l k v y).finish (.bool true)) (F1::cs1))).frame.tmps,⟨by kernel_rfl,by kernel_rfl,by kernel_rfl⟩,bI 200 (bN PP true 200 (G ((FB it l k v y).finish (.bool true)) (F1::cs1))) fun ws=>by kernel_rfl⟩
end
section
variable (bx bS M it D l xb:Nat)(k:ByteArray)(v sv nv:Value)(fr F1:Frame)(cs cs1:List Frame)(y:Nat->Value)
theorem PV:au PP true (resume (kl it l F1 cs1 y) (.tuple #[.bool false])) (cC F1 cs1 U):=bI 7 (bN PP true 7 (resume (kl it l F1 cs1 y) (.tuple #[.bool false]))) fun ws=>by kernel_rfl
def Pj:Array Oper:=match(FB 0 0 ⟨#[]⟩ undef fun _=>undef).todo with|.inRegion ops _::_=>ops|_=>#[]
def iB:Nat:=match(FB 0 0 ⟨#[]⟩ undef fun _=>undef).todo with|.inRegion _ (i::_)::_=>i|_=>0
def rB:List Nat:=match(FB 0 0 ⟨#[]⟩ undef fun _=>undef).todo with|.inRegion _ (_::r)::_=>r|_=>[]
def kB:List Item:=(FB 0 0 ⟨#[]⟩ undef fun _=>undef).todo.tail
def oY:Oper:=(Pj[iB]?).getD default
theorem Rp:(FB it l k v y).mode= .run:=by kernel_rfl
theorem Rq:(FB it l k v y).kind= .normal:=by kernel_rfl
theorem Ro:(FB it l k v y).todo= .inRegion Pj (iB::rB)::kB:=by kernel_rfl
theorem aaZ:Pj[iB]? =some oY:=by kernel_rfl
theorem Pq:Region.wanted oY (yielded Pj (FB it l k v y).tmps)=true:=by kernel_rfl
theorem RY:oY.op= .call {callee:= .value (.tmp 10),args:=#[.tmp 11],argTypes:=#[9]}:=by kernel_rfl
theorem adz:(FB it l k v y).eval (.tmp 10)= .func (.yield l) #[] #[]:=by kernel_rfl
theorem ady:(FB it l k v y).eval (.tmp 11)= .string k:=by kernel_rfl
def RF:Array Value:=(ZB bx bS).setIfInBounds 7 (.string k)
def gR0:Goroutine:=G (Frame.round l C0 (RF bx bS k) Ns Jq .normal) (F1::cs1)
def NS:Frame:=(OT (gR0 bx bS l k default [])).frame
theorem Xf:au PP true (gR0 bx bS l k F1 cs1) (G (NS bx bS l k) (F1::cs1)):=bI 200 (bN PP true 200 (gR0 bx bS l k F1 cs1)) fun ws=>by kernel_rfl
theorem Mq:(NS bx bS l k).mode= .run:=by kernel_rfl
theorem Mr:(NS bx bS l k).kind= .normal:=by kernel_rfl
theorem Mp:(NS bx bS l k).todo= .beginRound::[.code Jq]:=by kernel_rfl
theorem IW:(NS bx bS l k).roundOf=some l:=by kernel_rfl
end
section
variable (bx bS M it D l xb:Nat)(k:ByteArray)(v sv nv:Value)(fr F1:Frame)(cs cs1:List Frame)(y:Nat->Value)
def CZ:Frame:=(OT (G ((NS bx bS l k).finish undef) (default::[]))).frame
theorem XK:au PP true (G ((NS bx bS l k).finish undef) (F1::cs1)) (G (CZ bx bS l k) (F1::cs1)):=bI 200 (bN PP true 200 (G ((NS bx bS l k).finish undef) (F1::cs1))) fun ws=>by kernel_rfl
def Po:Array Oper:=match(CZ 0 0 0 ⟨#[]⟩).todo with|.inRegion ops _::_=>ops|_=>#[]
def i2:Nat:=match(CZ 0 0 0 ⟨#[]⟩).todo with|.inRegion _ (i::_)::_=>i|_=>0
def r2:List Nat:=match(CZ 0 0 0 ⟨#[]⟩).todo with|.inRegion _ (_::r)::_=>r|_=>[]
def k2:List Item:=(CZ 0 0 0 ⟨#[]⟩).todo.tail
def o2:Oper:=(Po[i2]?).getD default
theorem Mn:(CZ bx bS l k).mode= .run:=by kernel_rfl
theorem Mo:(CZ bx bS l k).kind= .normal:=by kernel_rfl
theorem Mm:(CZ bx bS l k).todo= .inRegion Po (i2::r2)::k2:=by kernel_rfl
theorem aa3:Po[i2]? =some o2:=by kernel_rfl
theorem Pv:Region.wanted o2 (yielded Po (CZ bx bS l k).tmps)=true:=by kernel_rfl
theorem R5:o2.op= .load lz (.tmp 2):=by kernel_rfl
theorem acQ:(CZ bx bS l k).eval (.tmp 2)=pb bS:=by kernel_rfl
def A4:Frame:=(OT (G ((CZ bx bS l k).finish sv) (default::[]))).frame
theorem XJ:au PP true (G ((CZ bx bS l k).finish sv) (F1::cs1)) (G (A4 bx bS l k sv) (F1::cs1)):=bI 200 (bN PP true 200 (G ((CZ bx bS l k).finish sv) (F1::cs1))) fun ws=>by kernel_rfl
def Pn:Array Oper:=match(A4 0 0 0 ⟨#[]⟩ undef).todo with|.inRegion ops _::_=>ops|_=>#[]
def i3:Nat:=match(A4 0 0 0 ⟨#[]⟩ undef).todo with|.inRegion _ (i::_)::_=>i|_=>0
def r3:List Nat:=match(A4 0 0 0 ⟨#[]⟩ undef).todo with|.inRegion _ (_::r)::_=>r|_=>[]
def k3:List Item:=(A4 0 0 0 ⟨#[]⟩ undef).todo.tail
def o3:Oper:=(Pn[i3]?).getD default
theorem Mk:(A4 bx bS l k sv).mode= .run:=by kernel_rfl
theorem Ml:(A4 bx bS l k sv).kind= .normal:=by kernel_rfl
theorem Mj:(A4 bx bS l k sv).todo= .inRegion Pn (i3::r3)::k3:=by kernel_rfl
theorem aa2:Pn[i3]? =some o3:=by kernel_rfl
theorem Pu:Region.wanted o3 (yielded Pn (A4 bx bS l k sv).tmps)=true:=by kernel_rfl
theorem R4:o3.op= .buildSlice lz 1 #[(0,.tmp 9)]:=by kernel_rfl
theorem acP:(A4 bx bS l k sv).eval (.tmp 9)= .string k:=by kernel_rfl
def AD:Frame:=(OT (G ((A4 bx bS l k sv).finish (.slice (some ⟨xb,0,none⟩) 1 1)) (default::[]))).frame
theorem XH:au PP true (G ((A4 bx bS l k sv).finish (.slice (some ⟨xb,0,none⟩) 1 1)) (F1::cs1)) (G (AD bx bS l xb k sv) (F1::cs1)):=bI 200 (bN PP true 200 (G ((A4 bx bS l k sv).finish (.slice (some ⟨xb,0,none⟩) 1 1)) (F1::cs1))) fun ws=>by kernel_rfl
def Pm:Array Oper:=match(AD 0 0 0 0 ⟨#[]⟩ undef).todo with|.inRegion ops _::_=>ops|_=>#[]
def i4:Nat:=match(AD 0 0 0 0 ⟨#[]⟩ undef).todo with|.inRegion _ (i::_)::_=>i|_=>0
def r4:List Nat:=match(AD 0 0 0 0 ⟨#[]⟩ undef).todo with|.inRegion _ (_::r)::_=>r|_=>[]
def k4:List Item:=(AD 0 0 0 0 ⟨#[]⟩ undef).todo.tail
def o4:Oper:=(Pm[i4]?).getD default
theorem Mh:(AD bx bS l xb k sv).mode= .run:=by kernel_rfl
theorem Mi:(AD bx bS l xb k sv).kind= .normal:=by kernel_rfl
theorem Mg:(AD bx bS l xb k sv).todo= .inRegion Pm (i4::r4)::k4:=by kernel_rfl
theorem aa1:Pm[i4]? =some o4:=by kernel_rfl
theorem Pt:Region.wanted o4 (yielded Pm (AD bx bS l xb k sv).tmps)=true:=by kernel_rfl
theorem R0:o4.op= .call {callee:= .builtin .append,args:=#[.tmp 8,.tmp 10],argTypes:=#[lz,lz]}:=by kernel_rfl
theorem acO:(AD bx bS l xb k sv).eval (.tmp 8)=sv:=by kernel_rfl
theorem XI:(AD bx bS l xb k sv).eval (.tmp 10)= .slice (some ⟨xb,0,none⟩) 1 1:=by kernel_rfl
def A3:Frame:=(OT (G ((AD bx bS l xb k sv).finish nv) (default::[]))).frame
theorem XF:au PP true (G ((AD bx bS l xb k sv).finish nv) (F1::cs1)) (G (A3 bx bS l xb k sv nv) (F1::cs1)):=bI 200 (bN PP true 200 (G ((AD bx bS l xb k sv).finish nv) (F1::cs1))) fun ws=>by kernel_rfl
def Pk:Array Oper:=match(A3 0 0 0 0 ⟨#[]⟩ undef undef).todo with|.inRegion ops _::_=>ops|_=>#[]
def i5:Nat:=match(A3 0 0 0 0 ⟨#[]⟩ undef undef).todo with|.inRegion _ (i::_)::_=>i|_=>0
def r5:List Nat:=match(A3 0 0 0 0 ⟨#[]⟩ undef undef).todo with|.inRegion _ (_::r)::_=>r|_=>[]
def k5:List Item:=(A3 0 0 0 0 ⟨#[]⟩ undef undef).todo.tail
def o5:Oper:=(Pk[i5]?).getD default
theorem Me:(A3 bx bS l xb k sv nv).mode= .run:=by kernel_rfl
theorem Mf:(A3 bx bS l xb k sv nv).kind= .normal:=by kernel_rfl
theorem Md:(A3 bx bS l xb k sv nv).todo= .inRegion Pk (i5::r5)::k5:=by kernel_rfl
theorem aa0:Pk[i5]? =some o5:=by kernel_rfl
theorem Ps:Region.wanted o5 (yielded Pk (A3 bx bS l xb k sv nv).tmps)=true:=by kernel_rfl
theorem RZ:o5.op= .store lz (.tmp 2) (.tmp 11):=by kernel_rfl
theorem acN:(A3 bx bS l xb k sv nv).eval (.tmp 2)=pb bS:=by kernel_rfl
theorem XG:(A3 bx bS l xb k sv nv).eval (.tmp 11)=nv:=by kernel_rfl
def YW:Frame:=(Ag PP true 2 (G ((A3 bx bS l xb k sv nv).finish undef) (default::[]))).frame
theorem XE:au PP true (G ((A3 bx bS l xb k sv nv).finish undef) (F1::cs1)) (G (YW bx bS l xb k sv nv) (F1::cs1)):=bI 2 (bN PP true 2 (G ((A3 bx bS l xb k sv nv).finish undef) (F1::cs1))) fun ws=>by kernel_rfl
theorem Mb:(YW bx bS l xb k sv nv).mode= .run:=by kernel_rfl
theorem Mc:(YW bx bS l xb k sv nv).kind= .normal:=by kernel_rfl
theorem Ma:(YW bx bS l xb k sv nv).todo=[]:=by kernel_rfl
theorem IV:(YW bx bS l xb k sv nv).roundOf=some l:=by kernel_rfl
def fE0:Frame:={(Gx bx bS D l).finish U with todo:=FR}
theorem QF:((Gx bx bS D l).finish U).todo= .endRangeFunc l::FR:=by kernel_rfl
theorem QG:((Gx bx bS D l).finish U).mode= .run:=by kernel_rfl
def Yw:Goroutine:=OT (G (fE0 bx bS D l) (fr::cs))
theorem UG:au PP true (G (fE0 bx bS D l) (fr::cs)) (Yw bx bS D l fr cs):=bq fun ws=>by kernel_rfl
theorem Kp:aR (Yw bx bS D l fr cs)=some (.load lz (pb bS)):=by kernel_rfl
def XO:Frame:=(OT (resume (Yw bx bS D l default []) sv)).frame
theorem XN:au PP true (resume (Yw bx bS D l fr cs) sv) (G (XO bx bS D l sv) (fr::cs)):=bI 200 (bN PP true 200 (resume (Yw bx bS D l fr cs) sv)) fun ws=>by kernel_rfl
theorem Mt:(XO bx bS D l sv).mode= .returning:=by kernel_rfl
theorem EU:(XO bx bS D l sv).defers=[{target:= .collected D,args:=#[]}]:=by kernel_rfl
theorem XM:au PP true (G {XO bx bS D l sv with defers:=[]} (fr::cs)) (cC fr cs sv):=bI 1 (bN PP true 1 (G {XO bx bS D l sv with defers:=[]} (fr::cs))) fun ws=>by kernel_rfl
end
end Sq
end aH
end
section
open Go.Conc
open Go.MapKept
open Go.ConcM (OsLater)
namespace aH
namespace Sq
section
variable {own:Nat->Prop}{w:World}{g g':Goroutine}{Stop:(Nat->Prop)->Goroutine->World->Prop}
theorem tO {O:Nat->Prop}{n n' b:Nat}{e:Event}(hb:O b)(h:EvB b e):SJ O no n n' e:= .inl ⟨b,.inl hb,h.2⟩
theorem DK (hs:g.status= .running)(h:∀d,∃es,stepG PP true g (w.at d)= .go g' (w.at d) es/\∀e∈es,∃b,own b/\EvB b e)(k:aD PP true kR Stop own g' w):aD PP true kR Stop own g w:=by
 refine aD.step hs fun w₁ h1=>?_
 obtain⟨d,rfl⟩:=h1;obtain⟨es,e1,e2⟩:=h d;refine⟨_,_,es,e1,⟨Nat.le_refl _,fun _ _ _=>rfl,rfl,rfl,rfl,fun e he=>by obtain⟨b,h1,h2⟩:=e2 e he;exact tO h1 h2⟩,?_⟩;rw[(idle0 own (w.at d)).2];exact k.rely ⟨d,rfl⟩
theorem afc {b:Nat}{o:Obj}(hs:g.status= .running)(hb:own b)(h:∀d,∃w' es,stepG PP true g (w.at d)= .go g' w' es/\yy b o (w.at d) w'/\∀e∈es,∃b,own b/\EvB b e)
  (k:∀w',w'.heap.size=w.heap.size->w'.heap[b]? =some o->(∀c,c≠b->w'.heap[c]? =w.heap[c]?)->w'.os=w.os->aD PP true kR Stop own g' w'):aD PP true kR Stop own g w:=by
 refine aD.step hs fun w₁ h1=>?_
 obtain⟨d,rfl⟩:=h1;obtain⟨w',es,e1,u,e2⟩:=h d;have hup:kR.up own (w.at d) w'=own:=funext fun c=>propext ⟨fun x=>x.elim id fun x=>by have:=u.size;omega,.inl⟩
 refine⟨_,w',es,e1,⟨by rw[u.size];exact Nat.le_refl _,fun c _ hc=>u.rest c fun e=>hc (e▸hb),u.os,u.output,u.tape,fun e he=>by obtain⟨b,h1,h2⟩:=e2 e he;exact tO h1 h2⟩,?_⟩;rw[hup];exact k w' u.size u.at_ u.rest u.os
theorem new1 {os:List Obj}(hs:g.status= .running)(h:∀d,stepG PP true g (w.at d)= .go g' {w.at d with heap:=os.foldl Array.push (w.at d).heap} #[])
  (k:∀w',w'.heap=os.foldl Array.push w.heap->w'.os=w.os->aD PP true kR Stop (fun b=>own b\/(w.heap.size<=b/\b<w'.heap.size)) g' w'):aD PP true kR Stop own g w:=by
 have hsz:∀(l:List Obj) (a:Array Obj),a.size<=(l.foldl Array.push a).size:=fun l=>by
  induction l with
  |nil=>intro a;exact Nat.le_refl _
  |cons x l ih=>intro a;exact Nat.le_trans (by simp) (ih (a.push x))
 have hget:∀(l:List Obj) (a:Array Obj) (b:Nat),b<a.size->(l.foldl Array.push a)[b]? =a[b]? :=fun l=>by
  induction l with
  |nil=>intro a b _;rfl
  |cons x l ih=>intro a b hb;exact(ih (a.push x) b (by simp;omega)).trans (by rw[Array.getElem?_push_lt hb];exact(Array.getElem?_eq_getElem hb).symm)
 refine aD.step hs fun w₁ h1=>?_
 obtain⟨d,rfl⟩:=h1;refine⟨_,_,_,h d,⟨hsz os _,fun b hb _=>hget os _ b hb,rfl,rfl,rfl,by simp⟩,?_⟩;exact k _ rfl rfl
theorem app1 {mine:Nat->Prop}{ks:List ByteArray}(hs:g.status= .running)(hm:∀b,mine b->own b){gx:Value->Goroutine}(h:∀d,∃v w' es ev,stepG PP true g (w.at d)= .go (gx v) w' es/\(∀e∈es,e∈ev)/\App mine ks (w.at d) v w' ev)
  (k:∀v w',w.heap.size<=w'.heap.size->(∀b,b<w.heap.size->¬mine b->w'.heap[b]? =w.heap[b]?)->Strs w' (fun b=>mine b\/(w.heap.size<=b/\b<w'.heap.size)) v ks->w'.os=w.os->aD PP true kR Stop (fun b=>own b\/(w.heap.size<=b/\b<w'.heap.size)) (gx v) w'):aD PP true kR Stop own g w:=by
 refine aD.step hs fun w₁ h1=>?_
 obtain⟨d,rfl⟩:=h1;obtain⟨v,w',es,ev,e1,e2,a⟩:=h d;refine⟨_,w',es,e1,⟨a.size,fun b hb ho=>a.keep b hb fun x=>ho (hm b x),a.os,a.output,a.tape,fun e he=>?_⟩,k v w' a.size a.keep a.strs a.os⟩;rcases a.ev e (e2 e he) with⟨b,h1,h2⟩|h
 .exact tO (hm b h1) h2
 .exact .inr h
end
section
variable {bx bS D l it xb:Nat}{k:ByteArray}{v sv nv:Value}{F1:Frame}{cs0:List Frame}{y:Nat->Value}{w:World}{st:LoopState}
theorem Ah {b:Nat}{es:Array Event}{f:FuncId}{x y:Bool}(h:es=seen PP f #[⟨.obj b,x,false⟩,⟨.obj b,y,false⟩]):∀e∈es,EvB b e:=by
 intro e he;subst h;have:=mem_seen he;simp at this;rcases this with rfl|rfl<;>exact dL
theorem J9 (hl:w.heap[l]? =some (.loop (lJ st bx bS D))):∃es,stepG PP true (G (FB it l k v y) cs0) w= .go (G (Frame.round l C0 (RF bx bS k) Ns Jq .normal) (FB it l k v y::cs0)) w es/\∀e∈es,EvB l e:=by
 have h1:RT (execOp (FB it l k v y).eval oY) w (.round l C0 (RF bx bS k) Ns Jq) w #[⟨.obj l,false,false⟩]:=by
  have e:execOp (FB it l k v y).eval oY=(do let d <-resolve (FB it l k v y).eval {callee:= .value (.tmp 10),args:=#[.tmp 11],argTypes:=#[9]} oY.type;invoke d.target d.args):=by
   unfold execOp;rw[RY]
  rw[e];refine RT.aN (w1:=w) (x:={target:= .fn (.yield l) #[],args:=#[.string k]}) ?_ ?_
  .unfold resolve
   simp only[List.map_toArray,List.map_cons,List.map_nil,adz,ady];exact .pure _
  .unfold lJ at hl
   unfold RF;exact GQ hl
 refine⟨_,(stepG_op (Rp it l k v y) (Ro it l k v y) aaZ (Pq it l k v y) (by rw[RY];simp)).trans (Du h1 (Rq it l k v y)),fun e he=>?_⟩;have:=mem_seen he;simp at this;subst this;exact dL
theorem Kc (hl:w.heap[l]? =some (.loop (lJ .ready bx bS D))):∃w' es,stepG PP true (G (NS bx bS l k) cs0) w= .go (G ((NS bx bS l k).finish undef) cs0) w' es/\yy l (.loop (lJ .busy bx bS D)) w w'/\∀e∈es,EvB l e:=by
 unfold lJ at hl⊢;have h:=Jr hl;exact⟨_,_,Br (Mq bx bS l k) (Mp bx bS l k) (IW bx bS l k) (Mr bx bS l k) h,mm hl,Ah rfl⟩
theorem Ol (hb:w.heap[bS]? =some (.cells #[sv] lz (0,0))):∃es,stepG PP true (G (CZ bx bS l k) cs0) w= .go (G ((CZ bx bS l k).finish sv) cs0) w es/\∀e∈es,EvB bS e:=by
 have h1:RT (execOp (CZ bx bS l k).eval o2) w (.value sv) w #[⟨.cell ⟨bS,0,none⟩,false,false⟩]:=by
  have e:execOp (CZ bx bS l k).eval o2=(do pure (.value (<-Instr.loadAt lz (pb bS)))):=by
   unfold execOp;rw[R5];simp only[acQ]
  rw[e];refine RT.eC (x:=sv) ?_ (.pure _);show RT (do if<-isAgg lz then Pure.pure (.agg (<-loadCells ⟨bS,0,none⟩ (<-Go.sizeOf lz))) else load ⟨bS,0,none⟩) _ _ _ _;refine(gO (b:=false)).aN ?_;simp only[Bool.false_eq_true,if_false];exact j4 (cell_of hb rfl)
 refine⟨_,(stepG_op (Mn ..) (Mm ..) aa3 (Pv bx bS l k) (by rw[R5];simp)).trans (oE h1 (Mo ..)),fun e he=>?_⟩;have:=mem_seen he;simp at this;subst this;exact iY rfl
theorem Kb:stepG PP true (G (A4 bx bS l k sv) cs0) w= .go (G ((A4 bx bS l k sv).finish (.slice (some ⟨w.heap.size,0,none⟩) 1 1)) cs0) {w with heap:=w.heap.push (.cells #[.string k] jI (0,0))} #[]:=by
 have h1:RT (execOp (A4 bx bS l k sv).eval o3) w (.value (.slice (some ⟨w.heap.size,0,none⟩) 1 1)) {w with heap:=w.heap.push (.cells #[.string k] jI (0,0))} #[]:=by
  have e:execOp (A4 bx bS l k sv).eval o3=(do pure (.value (<-Instr.buildSlice lz 1 #[(0,.string k)]))):=by
   unfold execOp;rw[R4];simp only[List.map_toArray,List.map_cons,List.map_nil,acP]
  rw[e];exact RT.aN BV (.pure _)
 have:=(stepG_op (main:=true) (cs:=cs0) (w:=w) (Mk bx bS l k sv) (Mj bx bS l k sv) aa2 (Pu bx bS l k sv) (by rw[R4];simp)).trans (oE h1 (Ml ..));rw[seen_none] at this;exact this
theorem Hc {mine:Nat->Prop}{ks:List ByteArray}{f:Nat×Nat}(hs:Strs w mine sv ks)(hx:w.heap[xb]? =some (.cells #[.string k] jI f))(ox:mine xb)(hl:ks.length<2^40):
  ∃v w' es ev,stepG PP true (G (AD bx bS l xb k sv) cs0) w= .go (G ((AD bx bS l xb k sv).finish v) cs0) w' es/\(∀e∈es,e∈ev)/\App mine (ks++[k]) w v w' ev:=by
 obtain⟨v,w',ev,h1,h2⟩:=HU o4.type hs hx ox hl;have h3:RT (execOp (AD bx bS l xb k sv).eval o4) w (.value v) w' ev:=by
  have e:execOp (AD bx bS l xb k sv).eval o4=(do let d <-resolve (AD bx bS l xb k sv).eval {callee:= .builtin .append,args:=#[.tmp 8,.tmp 10],argTypes:=#[lz,lz]} o4.type;invoke d.target d.args):=by
   unfold execOp;rw[R0]
  rw[e];refine RT.aN (w1:=w) (x:={target:= .builtin .append #[lz,lz] o4.type #[false,false],args:=#[sv,.slice (some ⟨xb,0,none⟩) 1 1]}) ?_ ?_
  .unfold resolve
   simp only[List.map_toArray,List.map_cons,List.map_nil,acO,XI];exact .pure _
  .show RT (do Pure.pure (Next.value (<-Builtin.append_ #[lz,lz] o4.type #[sv,.slice (some ⟨xb,0,none⟩) 1 1]))) _ _ _ _
   exact RT.eC h1 (.pure _)
 exact⟨v,w',_,ev,(stepG_op (Mh ..) (Mg ..) aa1 (Pt bx bS l xb k sv) (by rw[R0];simp)).trans (oE h3 (Mi ..)),fun e he=>mem_seen he,h2⟩
theorem Wr:(PP.info? lz).map (·.size)=some 1:=by kernel_rfl
theorem Ka {ov:Value}(hb:w.heap[bS]? =some (.cells #[ov] lz (0,0)))(h1:nv.cells=#[nv])(h2:kS nv=true):∃w' es,stepG PP true (G (A3 bx bS l xb k sv nv) cs0) w= .go (G ((A3 bx bS l xb k sv nv).finish undef) cs0) w' es/\yy bS (.cells #[nv] lz (0,0)) w w'/\∀e∈es,EvB bS e:=by
 obtain⟨w',ev,r1,r2,r3⟩:=fE (t:=lz) (off:=0) (v:=nv) hb (by rw[h1];exact Wr) (by rw[h1];simp) (by rw[h1];simpa using h2);have h3:RT (execOp (A3 bx bS l xb k sv nv).eval o5) w .skip w' ev:=by
  have e:execOp (A3 bx bS l xb k sv nv).eval o5=(kP.store lz (pb bS) nv).sem:=by
   unfold execOp;rw[RZ];simp only[acN,XG];rfl
  rw[e];exact r1
 refine⟨w',_,(stepG_op (Me ..) (Md ..) aa0 (Ps bx bS l xb k sv nv) (by rw[RZ];simp)).trans (xA h3 (Mf ..)),?_,fun e he=>r3 e (mem_seen he)⟩;rw[h1] at r2;simpa [kr] using r2
theorem Om (hl:w.heap[l]? =some (.loop (lJ .busy bx bS D))){c:Frame}:∃w' es,stepG PP true (G (YW bx bS l xb k sv nv) (c::cs0)) w= .go (G (c.finish (.bool true)) cs0) w' es/\yy l (.loop (lJ .ready bx bS D)) w w'/\∀e∈es,EvB l e:=by
 unfold lJ at hl⊢;have h:=MC hl;exact⟨_,_,DO (Mb bx bS l xb k sv nv) (Ma bx bS l xb k sv nv) (IV bx bS l xb k sv nv) (Mc bx bS l xb k sv nv) h,mm hl,Ah rfl⟩
theorem Oo (hl:w.heap[l]? =some (.loop (lJ .ready bx bS D))):∃w' es,stepG PP true (G ((Gx bx bS D l).finish U) cs0) w= .go (G (fE0 bx bS D l) cs0) w' es/\yy l (.loop (lJ .exhausted bx bS D)) w w'/\∀e∈es,EvB l e:=by
 unfold lJ at hl⊢;have h:=MD hl;exact⟨_,_,DP (QG bx bS D l) (QF bx bS D l) h,mm hl,Ah rfl⟩
theorem Oj (hD:w.heap[D]? =some (.deferred (some []))):∃w' es,stepG PP true (G (XO bx bS D l sv) cs0) w= .go (G {XO bx bS D l sv with defers:=[]} cs0) w' es/\yy D (.deferred none) w w'/\∀e∈es,EvB D e:=
 ⟨_,_,DN (Mt bx bS D l sv) (EU bx bS D l sv) (OW hD),mm hD,Ah rfl⟩
theorem Wu {tm:Array Value}{uZ body:Code}{k:List Item}{cs:List Frame}(hseq:(⟨tm,[]⟩:Act).eval (.tmp 6)= .func (.func Sx) #[] #[pb bx]):
  stepG PP true (G ((base C0).at ⟨tm,[]⟩ (.code (.rangeFunc (.tmp 6) #[7] uZ body)::k)) cs) w= .go (G (Frame.enter PP Sx #[.func (.yield (w.heap.size+1)) #[] #[],pb bx] .normal) ((base C0).at ⟨tm,[{target:= .collected w.heap.size,args:=#[]}]⟩ (.inRangeFunc (w.heap.size+1)::k)::cs))
   {w with heap:=(w.heap.push (.deferred (some []))).push (.loop (cJ tm uZ body .ready w.heap.size))} #[]:=by
 have h:=I1 (w:=w) tm uZ body;have key:=xS (main:=true) (b:=base C0) (k:=k) (cs:=cs) (gf:=Sx) (lb:=#[pb bx]) hseq Tryz.func135 (by kernel_rfl) (by kernel_rfl) rfl h;have e1:(#[.func (.yield (w.heap.size+1)) #[] #[]]++#[pb bx]:Array Value)=#[.func (.yield (w.heap.size+1)) #[] #[],pb bx]:=by simp
 rw[e1] at key;exact key
theorem ZM {fr:Frame}{cs:List Frame}:stepG PP true (TT bx bS fr cs) w= .go (ZV bx bS w.heap.size (w.heap.size+1) fr cs) {w with heap:=(w.heap.push (.deferred (some []))).push (.loop (lJ .ready bx bS w.heap.size))} #[]:=by
 rw[TR];unfold lJ ZV Gx;exact Wu (Ob bx bS)
end
theorem _root_.Go.Proofs.YtchcmhodnkgojaaGreat.aH.Strs.keep {w w':World}{own own':Nat->Prop}{v:Value}{ks:List ByteArray}(h:Strs w own v ks)(hk:∀b,own b->w'.heap[b]? =w.heap[b]?)(ho:∀b,own b->own' b):Strs w' own' v ks:=by
 rcases h with h|⟨sk,cap,h1,h2,h3,h4⟩
 .exact .inl h
 .exact .inr ⟨sk,cap,h1,ho sk h2,h3,by rw[hk sk h2];exact h4⟩
theorem _root_.Go.Proofs.YtchcmhodnkgojaaGreat.aH.Strs.one {w:World}{own:Nat->Prop}{v:Value}{ks:List ByteArray}(h:Strs w own v ks):v.cells=#[v]/\kS v=true:=by
 rcases h with⟨rfl,_⟩|⟨sk,cap,rfl,_⟩<;>exact⟨rfl,rfl⟩
def iQ (O0:Nat->Prop)(n0:Nat)(w:World):Nat->Prop:=fun b=>O0 b\/(n0<=b/\b<w.heap.size)
theorem sx {O0:Nat->Prop}{n0:Nat}{w w':World}(h0:n0<=w.heap.size)(h:w.heap.size<=w'.heap.size):(fun b=>iQ O0 n0 w b\/(w.heap.size<=b/\b<w'.heap.size))=iQ O0 n0 w':=funext fun b=>propext (by
 unfold iQ;constructor
 .rintro((h|h)|h)
  .exact .inl h
  .exact .inr ⟨h.1,by omega⟩
  .exact .inr ⟨by omega,h.2⟩
 .rintro(h|h)
  .exact .inl (.inl h)
  .by_cases hb:b<w.heap.size
   .exact .inl (.inr ⟨h.1,hb⟩)
   .exact .inr ⟨by omega,h.2⟩)
theorem KW {O0:Nat->Prop}{n0:Nat}{w w':World}(h:w'.heap.size=w.heap.size):iQ O0 n0 w'=iQ O0 n0 w:=by unfold iQ;rw[h]
section
variable (O0:Nat->Prop)(w0:World)(bx M c:Nat)(f:ByteArray->Option Value)(fr:Frame)(cs:List Frame)
structure J (st:LoopState)(sv:Value)(ks:List ByteArray)(seen:Array Nat)(w:World):Prop where
 hs:w0.heap.size+4<=w.heap.size
 old:∀b,b<w0.heap.size->w.heap[b]? =w0.heap[b]?
 os:w.os=w0.os
 box:w.heap[w0.heap.size]? =some (.cells #[sv] lz (0,0))
 XW:w.heap[w0.heap.size+1]? =some (.deferred (some []))
 lop:w.heap[w0.heap.size+2]? =some (.loop (lJ st bx w0.heap.size (w0.heap.size+1)))
 Wq:w.heap[w0.heap.size+3]? =some (.mapIter (some M) c seen c)
 strs:Strs w (fun b=>w0.heap.size+4<=b/\b<w.heap.size) sv ks
def Fin (s:Nat->Prop)(g:Goroutine)(w:World):Prop:=∃sv ks,g=cC fr cs sv/\s=iQ O0 w0.heap.size w/\w0.heap.size<=w.heap.size/\(∀b,b<w0.heap.size->w.heap[b]? =w0.heap[b]?)/\w.os=w0.os/\
 Strs w (fun b=>w0.heap.size+4<=b/\b<w.heap.size) sv ks/\ks.Nodup/\∀s,s∈ks↔f s≠none
end
section
variable {O0:Nat->Prop}{w0 w w':World}{bx M c:Nat}{es:Array MapEntry}{f:ByteArray->Option Value}{fr:Frame}{cs:List Frame}{st st':LoopState}{sv nv:Value}{ks:List ByteArray}{seen:Array Nat}
theorem J.at (h:J w0 bx M c st sv ks seen w)(d:Nat):J w0 bx M c st sv ks seen (w.at d):=⟨h.hs,h.old,h.os,h.box,h.XW,h.lop,h.Wq,h.strs⟩
theorem J.loop (h:J w0 bx M c st sv ks seen w)(h1:w'.heap.size=w.heap.size)(h2:w'.heap[w0.heap.size+2]? =some (.loop (lJ st' bx w0.heap.size (w0.heap.size+1))))(h3:∀b,b≠w0.heap.size+2->w'.heap[b]? =w.heap[b]?)(h4:w'.os=w.os):J w0 bx M c st' sv ks seen w':=
 ⟨by rw[h1];exact h.hs,fun b hb=>by rw[h3 b (by omega)];exact h.old b hb,h4.trans h.os,by rw[h3 _ (by omega)];exact h.box,by rw[h3 _ (by omega)];exact h.XW,h2,by rw[h3 _ (by omega)];exact h.Wq,h.strs.keep (fun b hb=>h3 b (by omega)) fun b hb=>by rw[h1];exact hb⟩
theorem J.next {seen':Array Nat}(h:J w0 bx M c st sv ks seen w)(h1:w'.heap.size=w.heap.size)(h2:w'.heap[w0.heap.size+3]? =some (.mapIter (some M) c seen' c))(h3:∀b,b≠w0.heap.size+3->w'.heap[b]? =w.heap[b]?)(h4:w'.os=w.os):J w0 bx M c st sv ks seen' w':=
 ⟨by rw[h1];exact h.hs,fun b hb=>by rw[h3 b (by omega)];exact h.old b hb,h4.trans h.os,by rw[h3 _ (by omega)];exact h.box,by rw[h3 _ (by omega)];exact h.XW,by rw[h3 _ (by omega)];exact h.lop,h2,h.strs.keep (fun b hb=>h3 b (by omega)) fun b hb=>by rw[h1];exact hb⟩
theorem J.push {o:Obj}(h:J w0 bx M c st sv ks seen w)(h1:w'.heap=w.heap.push o)(h4:w'.os=w.os):J w0 bx M c st sv ks seen w':=by
 have hs:=h.hs;have hk:∀b,b<w.heap.size->w'.heap[b]? =w.heap[b]? :=fun b hb=>by rw[h1,Array.getElem?_push_lt hb];exact(Array.getElem?_eq_getElem hb).symm
 have sz:w'.heap.size=w.heap.size+1:=by rw[h1];simp
 exact⟨by omega,fun b hb=>by rw[hk b (by omega)];exact h.old b hb,h4.trans h.os,by rw[hk _ (by omega)];exact h.box,by rw[hk _ (by omega)];exact h.XW,by rw[hk _ (by omega)];exact h.lop,by rw[hk _ (by omega)];exact h.Wq,h.strs.keep (fun b hb=>hk b hb.2) fun b hb=>⟨hb.1,by omega⟩⟩
theorem vd {b:Nat}{o:Obj}{g g':Goroutine}{Stop:(Nat->Prop)->Goroutine->World->Prop}(hs:g.status= .running)(hb:iQ O0 w0.heap.size w b)(h:∀d,∃w' es,stepG PP true g (w.at d)= .go g' w' es/\yy b o (w.at d) w'/\∀e∈es,EvB b e)
  (k:∀w',w'.heap.size=w.heap.size->w'.heap[b]? =some o->(∀c,c≠b->w'.heap[c]? =w.heap[c]?)->w'.os=w.os->aD PP true kR Stop (iQ O0 w0.heap.size w') g' w'):aD PP true kR Stop (iQ O0 w0.heap.size w) g w:=
 afc hs hb (fun d=>by obtain⟨w',es,h1,h2,h3⟩:=h d;exact⟨w',es,h1,h2,fun e he=>⟨b,hb,h3 e he⟩⟩) fun w' h1 h2 h3 h4=>by
  have:=k w' h1 h2 h3 h4
  rwa [KW h1] at this
theorem vl {b:Nat}{g g':Goroutine}{Stop:(Nat->Prop)->Goroutine->World->Prop}(hs:g.status= .running)(hb:iQ O0 w0.heap.size w b)(h:∀d,∃es,stepG PP true g (w.at d)= .go g' (w.at d) es/\∀e∈es,EvB b e)
  (k:aD PP true kR Stop (iQ O0 w0.heap.size w) g' w):aD PP true kR Stop (iQ O0 w0.heap.size w) g w:=
 DK hs (fun d=>by obtain⟨es,h1,h2⟩:=h d;exact⟨es,h1,fun e he=>⟨b,hb,h2 e he⟩⟩) k
theorem K1 (hJ:J w0 bx M c .ready sv ks seen w)(hn:ks.Nodup)(hm:∀s,s∈ks↔f s≠none):
  aD PP true kR (Fin O0 w0 f fr cs) (iQ O0 w0.heap.size w) (cC (Gx bx w0.heap.size (w0.heap.size+1) (w0.heap.size+2)) (fr::cs) U) w:=by
 have hs:=hJ.hs;have nw:∀{w':World} {b:Nat},w0.heap.size+4<=w'.heap.size->w0.heap.size<=b->b<w0.heap.size+4->iQ O0 w0.heap.size w' b:=fun a b c=> .inr ⟨b,by omega⟩
 refine vd (o:= .loop (lJ .exhausted bx w0.heap.size (w0.heap.size+1))) rfl (nw hs (by omega) (by omega):iQ O0 w0.heap.size w (w0.heap.size+2)) (fun d=>Oo (hJ.at d).lop) fun w1 a1 a2 a3 a4=>?_
 have J1:=hJ.loop a1 a2 a3 a4;refine d9 (UG _ _ _ _ _ _) ?_;refine vl (b:=w0.heap.size) (g':=resume (Yw bx w0.heap.size (w0.heap.size+1) (w0.heap.size+2) fr cs) sv) (cU (Kp _ _ _ _ _ _)).1 (nw J1.hs (by omega) (by omega)) (fun d=>?_) ?_
 .have hr:RT (kP.load lz (pb w0.heap.size)).sem (w1.at d) (.value sv) (w1.at d) #[⟨.cell ⟨w0.heap.size,0,none⟩,false,false⟩]:=by
   refine RT.eC (x:=sv) ?_ (.pure _);show RT (do if<-isAgg lz then Pure.pure (.agg (<-loadCells ⟨w0.heap.size,0,none⟩ (<-Go.sizeOf lz))) else load ⟨w0.heap.size,0,none⟩) _ _ _ _;refine(gO (b:=false)).aN ?_;simp only[Bool.false_eq_true,if_false];exact j4 (cell_of (J1.at d).box rfl)
  obtain⟨es,e1,e2⟩:=eX (main:=true) (Kp _ _ _ _ _ _) hr;refine⟨es,e1,fun e he=>?_⟩;have:=e2 e he;simp at this;subst this;exact iY rfl
 refine d9 (XN _ _ _ _ _ _ _) ?_;refine vd (o:= .deferred none) rfl (nw J1.hs (by omega) (by omega):iQ O0 w0.heap.size w1 (w0.heap.size+1)) (fun d=>Oj (J1.at d).XW) fun w2 b1 b2 b3 b4=>?_
 refine d9 (XM _ _ _ _ _ _ _) (.stop fun w3 h3=>?_);obtain⟨d,rfl⟩:=h3;refine⟨sv,ks,rfl,rfl,by show _<=w2.heap.size;omega,fun b hb=>?_,by show w2.os=_;rw[b4];exact J1.os,?_,hn,hm⟩
 .show w2.heap[b]? =_
  rw[b3 b (by omega)];exact J1.old b hb
 .exact J1.strs.keep (fun b hb=>b3 b (by omega)) fun b hb=>⟨hb.1,by show b<w2.heap.size;omega⟩
theorem rounds (hO:∀b,O0 b->b<w0.heap.size)(oM:O0 M)(hM:w0.heap[M]? =some (.map es c))(hm:dh es c f)(hes:es.size<2^40)(L:Nat):∀(seen:Array Nat) (w:World) (tm:Array Value) (sv:Value) (ks:List ByteArray),(leftOf es seen).size=L->J w0 bx M c .ready sv ks seen w->
  ks.Nodup->(∀s,s∈ks↔AT es seen s)->ks.length+L<=es.size->HK (w0.heap.size+2) (w0.heap.size+3) tm->
  aD PP true kR (Fin O0 w0 f fr cs) (iQ O0 w0.heap.size w) (gK tm (Gx bx w0.heap.size (w0.heap.size+1) (w0.heap.size+2)) (fr::cs)) w:=by
 induction L using Nat.strongRecOn with
 |_ L ih=>
 intro seen w tm sv ks hL hJ hn hk hlen hH;have nw:∀{w':World} {b:Nat},w0.heap.size+4<=w'.heap.size->w0.heap.size<=b->b<w0.heap.size+4->iQ O0 w0.heap.size w' b:=fun a b c=> .inr ⟨b,by omega⟩
 have nM:∀{w':World},iQ O0 w0.heap.size w' M:= .inl oM;have Mlt:=hO M oM;rw[hH.eq]
 have nx:=abp (w0.heap.size+3) (w0.heap.size+2) (Gx bx w0.heap.size (w0.heap.size+1) (w0.heap.size+2)) (fr::cs) fun i=>tm.getD i undef
 refine aD.step (cU nx).1 fun w1 h1=>?_
 obtain⟨d,rfl⟩:=h1;have hMw:(w.at d).heap[M]? =some (.map es c):=(hJ.old M Mlt).trans hM;rcases FO (w:=w.at d) (ty:=nxK) (hJ.at d).Wq hMw hm with⟨hl,w',ev,rt,a1,a2,a3,a4,a5⟩|⟨e,he,w',ev,rt,u,a5⟩
 .obtain⟨es',e1,e2⟩:=eX (main:=true) nx rt
  have sz:w'.heap.size=(w.at d).heap.size:=by rw[a4]
  refine⟨_,w',es',e1,⟨by rw[sz];exact Nat.le_refl _,fun b _ _=>by rw[a4],a3,a2,a1,fun x hx=>?_⟩,?_⟩
  .rcases(a5 x (e2 x hx)).1 with q|q
   .exact tO (nw hJ.hs (by omega) (by omega)) q
   .exact tO nM q
  .have hup:kR.up (iQ O0 w0.heap.size w) (w.at d) w'=iQ O0 w0.heap.size w':=sx (w:=w) (by have:=hJ.hs;omega) (by show(w.at d).heap.size<=_;rw[sz];exact Nat.le_refl _)
   rw[hup];refine d9 (PV _ _ _ _ _) ?_;have J':J w0 bx M c .ready sv ks seen w':=⟨by rw[sz];exact hJ.hs,fun b hb=>by rw[a4];exact hJ.old b hb,a3.trans hJ.os,by rw[a4];exact hJ.box,by rw[a4];exact hJ.XW,by rw[a4];exact hJ.lop,by rw[a4];exact hJ.Wq,hJ.strs.keep (fun b _=>by rw[a4];rfl) fun b hb=>by rw[sz];exact hb⟩
   refine K1 J' hn fun s=>(hk s).trans ⟨fun⟨x,hx,h1,_⟩=>?_,fun hs=>zD hm hl hs⟩
   rw[(hm.has s x.val).2 ⟨x,hx,h1,rfl⟩];simp
 .obtain⟨es',e1,e2⟩:=eX (main:=true) nx rt
  have hmem:=wv he;obtain⟨path,hkey⟩:=iC (hm.keys e hmem);have hless:=sI he;have hV:=fun s=>vc (seen:=seen) hm hmem hkey s
  have hnew:path∉ks:=fun hin=>by
   obtain⟨x,hx,h1,h2⟩:=(hk path).1 hin;have:=hm.uniq hx hmem (by rw[h1,hkey]);subst this;have:=(Array.mem_filter.1 he).2;simp[h2] at this
  have J1:J w0 bx M c .ready sv ks (seen.push e.born) w':=(hJ.at d).next u.size u.at_ u.rest u.os;refine⟨_,w',es',e1,⟨by rw[u.size];exact Nat.le_refl _,fun b _ hb=>u.rest b fun q=>hb (q▸nw hJ.hs (by omega) (by omega)),u.os,u.output,u.tape,fun x hx=>?_⟩,?_⟩
  .rcases a5 x (e2 x hx) with q|q
   .exact tO (nw hJ.hs (by omega) (by omega)) q
   .exact tO nM q.1
  have hup:kR.up (iQ O0 w0.heap.size w) (w.at d) w'=iQ O0 w0.heap.size w':=sx (w:=w) (by have:=hJ.hs;omega) (by show(w.at d).heap.size<=_;rw[u.size];exact Nat.le_refl _);rw[hup,hkey];clear hup e1 e2 rt hMw
  refine d9 (abt _ _ _ _ _ _ _) ?_;have hMw:∀d,(w'.at d).heap[M]? =some (.map es c):=fun d=>(J1.old M Mlt).trans hM
  have en:=abr (w0.heap.size+3) (w0.heap.size+2) path e.val (Gx bx w0.heap.size (w0.heap.size+1) (w0.heap.size+2)) (fr::cs) fun i=>tm.getD i undef
  refine DK (cU en).1 (g':=resume (kA (w0.heap.size+3) (w0.heap.size+2) path e.val (Gx bx w0.heap.size (w0.heap.size+1) (w0.heap.size+2)) (fr::cs) fun i=>tm.getD i undef) (.tuple #[.string path,e.val])) (fun d=>?_) ?_
  .have hr:=vI (J1.at d).Wq (hMw d) hm hmem
   rw[hkey] at hr;obtain⟨es',e1,e2⟩:=eX (main:=true) en hr;refine⟨es',e1,fun x hx=>?_⟩;have:=e2 x hx;simp at this;rcases this with rfl|rfl
   .exact⟨_,nw J1.hs (by omega) (by omega),dL⟩
   .exact⟨M,nM,dL⟩
  refine d9 (abq _ _ _ _ _ _ _) ?_
  refine vl (b:=w0.heap.size+2) rfl (nw J1.hs (by omega) (by omega)) (fun d=>J9 (J1.at d).lop) ?_;refine d9 (Xf _ _ _ _ _ _) ?_;refine vd (o:= .loop (lJ .busy bx w0.heap.size (w0.heap.size+1))) rfl (nw J1.hs (by omega) (by omega):iQ O0 w0.heap.size w' (w0.heap.size+2)) (fun d=>Kc (J1.at d).lop) fun w2 b1 b2 b3 b4=>?_
  have J2:=J1.loop b1 b2 b3 b4;clear J1 b1 b2 b3 b4 hMw hJ u;refine d9 (XK _ _ _ _ _ _) ?_;refine vl (b:=w0.heap.size) rfl (nw J2.hs (by omega) (by omega)) (fun d=>Ol (J2.at d).box) ?_;refine d9 (XJ _ _ _ _ _ _ _) ?_
  refine new1 (g':=G ((A4 bx w0.heap.size (w0.heap.size+2) path sv).finish (.slice (some ⟨w2.heap.size,0,none⟩) 1 1)) (FB (w0.heap.size+3) (w0.heap.size+2) path e.val (fun i=>tm.getD i undef)::Gx bx w0.heap.size (w0.heap.size+1) (w0.heap.size+2)::fr::cs)) (os:=[.cells #[.string path] jI (0,0)]) rfl (fun d=>Kb (w:=w2.at d)) fun w3 a1 a2=>?_
  have J3:=J2.push a1 a2;have sz3:w3.heap.size=w2.heap.size+1:=by rw[a1];simp
  have hs2:=J2.hs;rw[sx (by omega) (by omega)];have hx:w3.heap[w2.heap.size]? =some (.cells #[.string path] jI (0,0)):=by rw[a1];simp
  refine d9 (XH _ _ _ _ _ _ _ _) ?_;refine app1 (ks:=ks++[path]) (mine:=fun b=>w0.heap.size+4<=b/\b<w3.heap.size) rfl (fun b hb=> .inr ⟨by omega,hb.2⟩) (fun d=>Hc (J3.at d).strs hx ⟨hs2,by omega⟩ (by omega)) fun nv w4 c1 c2 c3 c4=>?_
  rw[sx (by omega) c1];have J4:Strs w4 (fun b=>w0.heap.size+4<=b/\b<w4.heap.size) nv (ks++[path]):=c3.keep (fun _ _=>rfl) fun b hb=>by omega
  have k4:∀b,b<w0.heap.size+4->w4.heap[b]? =w3.heap[b]? :=fun b hb=>c2 b (by omega) fun q=>by omega
  have b4:w4.heap[w0.heap.size]? =some (.cells #[sv] lz (0,0)):=by rw[k4 _ (by omega)];exact J3.box
  refine d9 (XF _ _ _ _ _ _ _ _ _) ?_;refine vd (o:= .cells #[nv] lz (0,0)) rfl (.inr ⟨Nat.le_refl _,by omega⟩:iQ O0 w0.heap.size w4 w0.heap.size) (fun d=>Ka (w:=w4.at d) b4 J4.one.1 J4.one.2) fun w5 d1 d2 d3 d4=>?_
  have J5:J w0 bx M c .busy nv (ks++[path]) (seen.push e.born) w5:=by
   have r:∀b,b<w0.heap.size+4->b≠w0.heap.size->w5.heap[b]? =w3.heap[b]? :=fun b hb hne=>by rw[d3 b hne,k4 b hb]
   refine⟨by omega,fun b hb=>?_,by rw[d4,c4,J3.os],d2,?_,?_,?_,J4.keep (fun b hb=>d3 b (by omega)) fun b hb=>⟨hb.1,by rw[d1];exact hb.2⟩⟩
   .rw[r b (by omega) (by omega)];exact J3.old b hb
   .rw[r _ (by omega) (by omega)];exact J3.XW
   .rw[r _ (by omega) (by omega)];exact J3.lop
   .rw[r _ (by omega) (by omega)];exact J3.Wq
  clear J2 J3 J4 k4 b4 d1 d2 d3 d4 c1 c2 c3 c4 hx;refine d9 (XE _ _ _ _ _ _ _ _ _) ?_;refine vd (o:= .loop (lJ .ready bx w0.heap.size (w0.heap.size+1))) rfl (nw J5.hs (by omega) (by omega):iQ O0 w0.heap.size w5 (w0.heap.size+2)) (fun d=>Om (J5.at d).lop) fun w6 f1 f2 f3 f4=>?_
  have J6:=J5.loop f1 f2 f3 f4;obtain⟨tm',IR,hg⟩:=Rr (w0.heap.size+3) (w0.heap.size+2) path e.val (Gx bx w0.heap.size (w0.heap.size+1) (w0.heap.size+2)) (fr::cs) fun i=>tm.getD i undef
  refine d9 hg (ih _ (hL▸hless) (seen.push e.born) w6 tm' nv (ks++[path]) rfl J6 ?_ (fun s=>?_) ?_ IR)
  .rw[List.nodup_append]
   exact⟨hn,by simp,fun a ha b hb=>by simp at hb;subst hb;exact fun q=>hnew (q▸ha)⟩
  .rw[List.mem_append,hV s,hk s];simp
  .simp;omega
end
section
variable {own:Nat->Prop}{w:World}{g g':Goroutine}{Stop:(Nat->Prop)->Goroutine->World->Prop}
theorem new2 {o:Obj}(hs:g.status= .running)(h:∀d,∃es,stepG PP true g (w.at d)= .go g' {w.at d with heap:=(w.at d).heap.push o} es/\∀e∈es,∃b,own b/\EvB b e)
  (k:∀w',w'.heap=w.heap.push o->w'.os=w.os->aD PP true kR Stop (fun b=>own b\/(w.heap.size<=b/\b<w'.heap.size)) g' w'):aD PP true kR Stop own g w:=by
 refine aD.step hs fun w₁ h1=>?_
 obtain⟨d,rfl⟩:=h1;obtain⟨es,e1,e2⟩:=h d;refine⟨_,_,es,e1,⟨by show w.heap.size<=(w.heap.push o).size;simp,fun b hb _=>by show(w.heap.push o)[b]? =w.heap[b]?;rw[Array.getElem?_push_lt (show b<w.heap.size from hb)];exact(Array.getElem?_eq_getElem _).symm,rfl,rfl,rfl,fun e he=>by obtain⟨b,h1,h2⟩:=e2 e he;exact tO h1 h2⟩,?_⟩;exact k _ rfl rfl
end
section
variable {O0:Nat->Prop}{w0:World}{bx M c:Nat}{es:Array MapEntry}{f:ByteArray->Option Value}{fr:Frame}{cs:List Frame}
theorem Kh (hO:∀b,O0 b->b<w0.heap.size)(oM:O0 M)(obx:O0 bx){tt:TypeId}{ff:Nat×Nat}(hbx:w0.heap[bx]? =some (.cells #[.map (some M)] tt ff))(hM:w0.heap[M]? =some (.map es c))(hm:dh es c f)(hes:es.size<2^40):
  aD PP true kR (Fin O0 w0 f fr cs) O0 (ZT bx fr cs) w0:=by
 have lbx:=hO bx obx;have lM:=hO M oM;refine d9 (D7 _ _ _) (La (f:=pb) (TU _ _ _) (fun w=>vJ _ _) fun w1 h1 o1 t1=>?_);have s1:w1.heap.size=w0.heap.size+1:=by rw[h1];simp
 have e1:(fun b=>O0 b\/b=w0.heap.size)=iQ O0 w0.heap.size w1:=funext fun b=>propext (by
  unfold iQ;exact or_congr Iff.rfl ⟨fun h=>⟨by omega,by omega⟩,fun h=>by omega⟩)
 rw[e1];refine d9 (TS _ _ _ _) ?_;refine new1 (g':=ZV bx w0.heap.size (w0.heap.size+1) (w0.heap.size+2) fr cs) (os:=[.deferred (some []),.loop (lJ .ready bx w0.heap.size (w0.heap.size+1))]) rfl (fun d=>?_) fun w2 h2 o2=>?_
 .have:=ZM (bx:=bx) (bS:=w0.heap.size) (w:=w1.at d) (fr:=fr) (cs:=cs)
  have e:(w1.at d).heap.size=w0.heap.size+1:=s1;rw[e] at this;exact this
 have h2':w2.heap=(w1.heap.push (.deferred (some []))).push (.loop (lJ .ready bx w0.heap.size (w0.heap.size+1))):=h2;have s2:w2.heap.size=w0.heap.size+3:=by rw[h2'];simp[s1]
 rw[sx (by omega) (by omega)];have Vt:∀b,b<w0.heap.size->w2.heap[b]? =w0.heap[b]? :=fun b hb=>by
  rw[h2',Array.getElem?_push_lt (by simp;omega),<-Array.getElem?_eq_getElem,Array.getElem?_push_lt (by omega),<-Array.getElem?_eq_getElem,h1,Array.getElem?_push_lt hb,<-Array.getElem?_eq_getElem]
 have r0:w2.heap[w0.heap.size]? =some (.cells #[.slice none 0 0] lz (0,0)):=by
  rw[h2',Array.getElem?_push_lt (by simp;omega),<-Array.getElem?_eq_getElem,Array.getElem?_push_lt (by omega),<-Array.getElem?_eq_getElem,h1];simp[Value.cells]
 have r1:w2.heap[w0.heap.size+1]? =some (.deferred (some [])):=by
  rw[h2',Array.getElem?_push_lt (by simp;omega),<-Array.getElem?_eq_getElem,<-s1];simp
 have r2:w2.heap[w0.heap.size+2]? =some (.loop (lJ .ready bx w0.heap.size (w0.heap.size+1))):=by
  have e:w0.heap.size+2=(w1.heap.push (Obj.deferred (some []))).size:=by simp[s1]
  rw[h2',e];exact Array.getElem?_push_size
 refine d9 (Uh _ _ _ _ _ _) ?_;refine DK (g':=resume (ZU bx w0.heap.size (w0.heap.size+1) (w0.heap.size+2) fr cs) (.map (some M))) (cU (Ko _ _ _ _ _ _)).1 (fun d=>?_) ?_
 .have hr:RT (kP.load NB (pb bx)).sem (w2.at d) (.value (.map (some M))) (w2.at d) #[⟨.cell ⟨bx,0,none⟩,false,false⟩]:=by
   refine RT.eC (x:= .map (some M)) ?_ (.pure _);show RT (do if<-isAgg NB then Pure.pure (.agg (<-loadCells ⟨bx,0,none⟩ (<-Go.sizeOf NB))) else load ⟨bx,0,none⟩) _ _ _ _;refine(gO (b:=false)).aN ?_;simp only[Bool.false_eq_true,if_false];exact j4 (cell_of (w:=w2.at d) ((Vt bx lbx).trans hbx) rfl)
  obtain⟨es,e1,e2⟩:=eX (main:=true) (Ko _ _ _ _ _ _) hr;refine⟨es,e1,fun e he=>?_⟩;have:=e2 e he;simp at this;subst this;exact⟨bx,.inl obx,iY rfl⟩
 refine d9 (Uf _ _ _ _ _ _ _) ?_;refine new2 (o:= .mapIter (some M) c #[] c) (g':=resume (Ug bx w0.heap.size M (w0.heap.size+1) (w0.heap.size+2) fr cs) (pb (w0.heap.size+3))) (cU (Kn _ _ _ _ _ _ _)).1 (fun d=>?_) fun w3 h3 o3=>?_
 .have hr:=vG (w:=w2.at d) (t:=NB) (kt:=9) (vt:=164) (by kernel_rfl) ((Vt M lM).trans hM)
  have e:(w2.at d).heap.size=w0.heap.size+3:=s2;rw[e] at hr;obtain⟨es,e1,e2⟩:=eX (main:=true) (Kn _ _ _ _ _ _ _) hr;refine⟨es,e1,fun x hx=>?_⟩;have:=e2 x hx;simp at this;subst this;exact⟨M,.inl oM,dL⟩
 have s3:w3.heap.size=w0.heap.size+4:=by rw[h3];simp[s2]
 rw[sx (by omega) (by omega)];obtain⟨tm,hH,hg⟩:=Ue bx w0.heap.size M (w0.heap.size+3) (w0.heap.size+1) (w0.heap.size+2) fr cs;have k3:∀b,b<w0.heap.size+3->w3.heap[b]? =w2.heap[b]? :=fun b hb=>by rw[h3,Array.getElem?_push_lt (by omega)];exact(Array.getElem?_eq_getElem (by omega)).symm
 refine d9 hg (rounds hO oM hM hm hes es.size #[] w3 tm (.slice none 0 0) [] (by simp[leftOf]) ⟨by omega,fun b hb=>by rw[k3 b (by omega)];exact Vt b hb,by rw[o3,o2,o1],by rw[k3 _ (by omega)];exact r0,by rw[k3 _ (by omega)];exact r1,by rw[k3 _ (by omega)];exact r2,by rw[h3,<-s2];simp,.inl ⟨rfl,rfl⟩⟩ (by simp) (fun s=>by simp;exact zC s) (by simp) hH)
end
theorem IA {H own:Nat->Prop}{π:Nat->Nat}{wL w w':World}(h:Link H no own no π wL w)(hs:w.heap.size<=w'.heap.size)(hk:∀b,own b->w'.heap[b]? =w.heap[b]?):
  ∃cj,Link H no own no cj wL w'/\∀b,b<wL.heap.size->cj b=π b:=by
 obtain⟨cj,h1,h2,_⟩:=h.rely (w₁:={w' with tape:=w.tape}) hs rfl fun b _ hb=>hb.elim (hk b) False.elim
 exact⟨cj,⟨h1.inj,h1.zero,h1.lt,h1.lw,⟨h1.wr.inj,rfl,rfl,h1.wr.lt,h1.wr.ok,h1.wr.hid,h1.wr.nu,h1.wr.low,h1.wr.xI⟩,h1.own,h1.ro⟩,fun b hb=>(h2 b hb).symm⟩
def Jx (f:ByteArray->Option Value)(wL:World)(v:Value)(w':World):Prop:=∃ks:List ByteArray,ks.Nodup/\(∀s,s∈ks↔f s≠none)/\
 ((
   v= .slice none 0 0/\ks=[]/\∃t d,w'=ax wL t d)\/∃cap,v= .slice (some ⟨wL.heap.size,0,none⟩) ks.length cap/\ks.length<=cap/\
   ∃t d,w'=ax {wL with heap:=wL.heap.push (.cells (ks.map Value.string++List.replicate (cap-ks.length) (Value.string ⟨#[]⟩)).toArray jI (0,0))} t d)
theorem I0 (bx:Nat)(c:Frame)(CS:List Frame):G (Frame.enter PP C0 #[.slice none 0 0,mB bx] .normal) (c::CS)=ZT bx c CS:=by
 unfold ZT LV;rfl
theorem X1 {E:az.Env}{wL:World}{bx m c:Nat}{es:Array MapEntry}{f:ByteArray->Option Value}{tt:TypeId}{ff:Nat×Nat}(hbx:wL.heap[bx]? =some (.cells #[.map (some m)] tt ff))(hM:wL.heap[m]? =some (.map es c))(hm:dh es c f)
  (hfix:∀e∈es,∀r,¬Value.Has r e.key/\¬Value.Has r e.val) (hes:es.size<2^40):az.CC E C0 #[.slice none 0 0,mB bx] (Jx f wL) wL:=by
 intro fr CS π M tr hp ha hk;have vbx:gh E.H wL bx:=ha (mB bx) (by simp) bx (.Fg (x:=pb bx) (by simp) (.ptr rfl));have MI:(#[.slice none 0 0,mB bx]:Array Value).map (Value.ren π)=#[.slice none 0 0,mB (π bx)]:=by simp[mB,nZ,bh,pb]
 rw[MI,I0] at hp;obtain⟨Shun,Vj,w,hz,hl0,YN,ho,JF⟩:=hp.ex
 let KK:Nat->Prop:=fun q=>∃o,E.K q=some o
 have kk:∀q,KK q->q<w.heap.size/\∀l,lA q l->¬Shun l:=fun q ⟨o,hq⟩=>⟨(Array.getElem?_eq_some_iff.1 (JF q o hq).2.1).1,(JF q o hq).2.2⟩
 obtain⟨own,hown⟩:∃own:Nat->Prop,own=fun b=>Vj b\/KK b:=⟨_,rfl⟩
 have hl:Link E.H az.no own az.no π wL w:=by rw[hown];exact hl0.wider fun b hb=> .inl hb
 have hA:Apart Shun own w:=by rw[hown];exact YN.union KK kk
 have KZ:∀q,KK q->own q:=fun q hq=>by rw[hown];exact .inr hq
 have vm:gh E.H wL m:=hl.lw.QT bx _ hbx vbx.2 m (.cells (v:= .map (some m)) (by simp) .map);have agB:=(hl.wr.ok bx _ hbx vbx.2 id).2;have hM':=(hl.wr.ok m _ hM vm.2 id).2;rw[nY (o:= .map es c) fun r hr=>absurd hr (by
  intro hr;cases hr with
  |key he h=>exact(hfix _ he r).1 h
  |val he h=>exact(hfix _ he r).2 h)] at hM'
 have agA:w.heap[π bx]? =some (.cells #[.map (some (π m))] tt ff):=by rw[agB];simp[dw]
 obtain⟨N1,M1,t1,g1,w1,r1,hz1,⟨s,⟨⟨sv,ks,rfl,rfl,hsz,hold,hos,hstr,hn,hmem⟩,_,u1⟩,hA1⟩,o1,_⟩:=kD hz (uK (oh (fun _=>False) (Kh (f:=f) (fr:=fr) (cs:=CS) hA.lt (hl.own m vm id) (hl.own bx vbx id) agA hM' hm hes) fun _ h=>h.elim) hA);have hk1:∀b,own b->w1.heap[b]? =w.heap[b]? :=fun b hb=>hold b (hA.lt b hb)
 have aaP:∀(cj:Nat->Nat),(∀b,b<wL.heap.size->cj b=π b)->∀b,b<wL.heap.size->¬E.H b->¬KK (cj b):=fun cj ag b hb hh ⟨o,hq⟩=>by
  rw[ag b hb] at hq;exact(JF _ o hq).1 (hl0.own b ⟨hb,hh⟩ id)
 rcases hstr with⟨rfl,rfl⟩|⟨sk,cap,rfl,hsk,hle,hrow⟩
 .obtain⟨cj,hl',ag⟩:=IA hl hsz hk1
  have fin:=hk (.slice none 0 0) wL cj M1 t1 ⟨wL.tape,wL.drawn,[],hn,hmem,.inl ⟨rfl,rfl,wL.tape,wL.drawn,rfl⟩⟩ ⟨Shun,_,w1,(by
   have e:Value.ren cj (.slice none 0 0)= .slice none 0 0:=by simp
   rw[e];exact hz1),(hl'.wider (fun b hb=> .inl hb)).less KK (fun b hb=>aaP cj ag b hb.1 hb.2),hA1.part (fun b hb=>hb.1),⟨by rw[o1];exact ho.1,u1.trans ho.2⟩,fun q o hq=>⟨fun hb=>hb.2 ⟨o,hq⟩,(hk1 q (KZ q ⟨o,hq⟩)).trans (JF q o hq).2.1,(JF q o hq).2.2⟩⟩ (fun r hr=>by cases hr) ag (Nat.le_refl _)
  exact E.back _ _ _ _ _ r1 fin
 .obtain⟨cj,hl',ag,em⟩:=wq (m:=sk) hl hsz hk1 (by omega) hsk.2 hrow trivial (fun r hr=>by
   cases hr with
   |cells hv h=>
    simp only[List.mem_toArray,List.mem_append,List.mem_map,List.mem_replicate] at hv;rcases hv with⟨x,_,rfl⟩|⟨_,rfl⟩<;>cases h) (fun i hi=>hi)
  have fin:=hk (.slice (some ⟨wL.heap.size,0,none⟩) ks.length cap) _ cj M1 t1 ⟨wL.tape,wL.drawn,ks,hn,hmem,.inr ⟨cap,rfl,hle,wL.tape,wL.drawn,rfl⟩⟩ ⟨Shun,_,w1,(by
   have e:Value.ren cj (.slice (some ⟨wL.heap.size,0,none⟩) ks.length cap)= .slice (some ⟨sk,0,none⟩) ks.length cap:=by simp[bh,em]
   rw[e];exact hz1),(hl'.wider (fun b hb=>hb.elim .inl fun e=> .inr ⟨by omega,e▸hsk.2⟩)).less KK (fun b hb hq=>by
    have hb1:b<wL.heap.size+1:=by have:=hb.1;simpa using this
    have hlt:=(kk _ hq).1
    by_cases hlt2:b<wL.heap.size
    .exact aaP cj ag b hlt2 hb.2 hq
    .have:b=wL.heap.size:=by omega
     rw[this,em] at hlt;omega),hA1.part (fun b hb=>hb.1),⟨by rw[o1];exact ho.1,u1.trans ho.2⟩,fun q o hq=>⟨fun hb=>hb.2 ⟨o,hq⟩,(hk1 q (KZ q ⟨o,hq⟩)).trans (JF q o hq).2.1,(JF q o hq).2.2⟩⟩ (fun r hr=>by
    cases hr with
    |slice e=>
     have e:wL.heap.size=r:=e;subst e;exact⟨by show wL.heap.size<(wL.heap.push _).size;simp,fun hh=>by have:=hl.lw.low _ (.inl hh);omega⟩) ag (by simp)
  exact E.back _ _ _ _ _ r1 fin
theorem eU {E:az.Env}{f:FuncId}{k:List Item}{R:Act->World->Prop}{a:Act}{wL:World}{ops:Array Oper}{i:Nat}{rest:List Nat}{o:Oper}(x:Operand)(ho:ops[i]? =some o)(hop:o.op= .assign x\/o.op= .move x)(hg:o.guard=none)(h:az.CI E f (.inRegion ops rest::k) R (a.put o.dst (a.eval x)) wL)(rW:lK PP S0 E0 true o=true:=by kernel_rfl):az.CI E f (.inRegion ops (i::rest)::k) R a wL:=by
 refine az.SC ho rW hg fun t d=>?_
 have e:(execOp a.eval o).run PP (ax wL t d)= .ok (.value (a.eval x)) (ax wL t d):=by
  unfold execOp;rcases hop with hop|hop<;>rw[hop]<;>rfl
 rw[e];exact(az.mT t d).2 h
theorem kM {E:az.Env}{f:FuncId}{k:List Item}{R:Act->World->Prop}{a:Act}{wL:World}{ops:Array Oper}{i:Nat}{rest:List Nat}{o:Oper}{f2:FuncId}(xs:Array Operand)(args:Array Value){R2:Value->World->Prop}(ho:ops[i]? =some o)(hg:o.guard=none)(hxs:xs.all ng=true)
  (hrun:∀(b:Act) (w:World),(execOp b.eval o).runT PP w #[]=(.ok (.enter f2 (xs.map b.eval)) w,#[])) (ha:xs.map a.eval=args) (hcc:az.CC E f2 args R2 wL)
  (h:∀v w',R2 v w'->wL.heap.size<=w'.heap.size->az.CI E f (.inRegion ops rest::k) R (a.put o.dst v) w'):az.CI E f (.inRegion ops (i::rest)::k) R a wL:=
 az.QX ho hg hxs hrun (ha▸hcc) h
theorem Ff {E:az.Env}{wL:World}{bx:Nat}{f:ByteArray->Option Value}(h:az.CC E C0 #[.slice none 0 0,mB bx] (Jx f wL) wL):az.CC E 134 #[mB bx] (Jx f wL) wL:=by
 refine az.mg Tryz.func134 rfl ?_;refine az.eE (az.dR (eU _ rfl (.inl rfl) rfl (az.cF ?_)));refine az.eE (az.dR (eU _ rfl (.inr rfl) rfl ?_))
 refine kM (f2:=C0) #[.const (.slice none 0 0),.tmp 3] #[.slice none 0 0,mB bx] (R2:=Jx f wL) rfl rfl (by kernel_rfl) (fun e w=>by kernel_rfl) (by kernel_rfl) h fun v w' hR _=>?_
 refine eU _ rfl (.inl rfl) rfl (az.cF (az.E8 ?_));exact⟨v,by kernel_rfl,hR⟩
end Sq
end aH
end
section
open Go.RowKit Go.Lib Go.Sort
def d8 (l:List cV):List (List UInt8):=(l.filter fun f=>f.set !=3).map (·.path)
def eW (l:List (List UInt8)):List Value:=l.map encStr
def oz (l:List cV):Nat:=(compact ((d8 l).mergeSort fun x y=>decide (x<=y))).length
theorem iE:Elem Tryz.prog 45 9 1 16:=⟨Tryz.underlying45,by kernel_rfl,by omega⟩
theorem Ad (fs:List cV)(k:Nat)(hk:k<fs.length):d8 (fs.take (k+1))=if fs[k].set=3 then d8 (fs.take k) else d8 (fs.take k)++[fs[k].path]:=by
 unfold d8;rw[List.take_succ_eq_append_getElem hk,List.filter_append,List.map_append]
 by_cases h:fs[k].set=3
 .simp[h]
 .simp[h]
theorem tD (l:List cV):(d8 l).length<=l.length:=by unfold d8;rw[List.length_map];exact List.length_filter_le _ _
theorem wQ (w:World)(os:Array Obj):aO [] w (grow w os):=
 ⟨rfl,rfl,rfl,by simp[grow],fun k hk _=>by simp only[grow];rw[Array.getElem?_append_left hk]⟩
theorem oX (w:World)(n:Nat):aO [] w (Sort.ahead w n):=⟨rfl,rfl,rfl,Nat.le_refl _,fun _ _ _=>rfl⟩
theorem mO {α:Type}[Inhabited α](enc:α->Value)(w:World)(blk off:Nat)(d:Array α):aO [blk] w (putRow enc w blk off d):=
 ⟨rfl,rfl,rfl,by rw[size_putRow];exact Nat.le_refl _,fun k hk hS=>by
  simp only[putRow,mapBlock,Array.getElem?_modify];rw[if_neg (by simpa using fun e=>hS (by simp[e]))]⟩
theorem Ja (base:Nat)(v:Value)(fs:List cV)(w:World)(hv:w.ownsRow base 107 3 v fs.length (gU fs))(hl:fs.length<=1000):
  Calls Tryz.prog 75 #[v] w fun e w'=>e= .returned (.int .i64 (oz fs))/\aO [] w w':=by
 obtain⟨ad,cap,hv'⟩:=ci hv;subst hv';go_enter Tryz.func75,Tryz.ntmps75;go_wp2_with fail
 go_loopw [3,8] (fun u c wr=>∃k:Nat,c= .int .i64 k/\k<=fs.length/\aO [] w wr/\wr.ownsRow w.heap.size 9 1 u (d8 (fs.take k)).length (eW (d8 (fs.take k)))) (fun _ c _=>fs.length-(intOf c).toNat)
 case atStart=>exact⟨0,rfl,by omega,aO.refl _ _,World.ownsRow_nil _ _ _ _⟩
 case round=>
  obtain⟨k,rfl,hk,fk,ho⟩:=hrel;have hvk:=fk.owns hv
  by_cases hlt:k<fs.length
  .obtain⟨g,cur,rfl,hg,hle,_,hcs,htk⟩:=eQ hvk
   have hat:((cur.toList.drop (k*3)).take 3)=bV fs[k].set fs[k].path fs[k].content:=by
    rw[cu htk _ _,wP fs k hlt]
   have hstep:=Ad fs k hlt;have hpl:(d8 (fs.take k)).length<=1000:=by have:=tD (fs.take k);rw[List.length_take] at this;omega
   generalize fs[k]=f at hat hstep;have HST:Hid (d8 (fs.take (k+1))=if f.set=3 then d8 (fs.take k) else d8 (fs.take k)++[f.path]):=hstep;generalize d8 (fs.take k)=ps at*;clear hstep hcs htk;go_wp2_with (with_reducible first|refine av 107 rfl ?_|refine ay rfl ?_|refine af 107 rfl ?_)
   refine al.go (bX rfl 107 _ rfl g (k*3) rfl ku 3 eG _ _ hg (bV f.set f.path f.content) hat rfl ?_);clear hat hg;go_wp2_with (with_reducible first|refine ay rfl ?_|refine af 107 rfl ?_);refine al.go (bm rfl 107 rfl yE lS ?_);intro w4 b5 l5 f4 r5;go_wp2_with (with_reducible first|refine ay rfl ?_|refine af 107 rfl ?_)
   refine al.go (bQ rfl 107 _ _ rfl _ 0 rfl _ rfl 3 eG ?_ ?_ _ _ r5 ?_ ?_)
   .rfl
   .simp[bV,Value.oneCell']
   .decide
   intro w5 f5 q5;rw[bL _ _ (by rfl)] at q5;have m9:Row w5 b5 (bV f.set f.path f.content).toArray 107:=q5;have f45:=f4.trans f5 (by simpa using l5);have mh:=fk.trans f45;have A2:=f45.owns ho;have c0:w5.cell? ⟨b5,0,none⟩=some (.int .i64 f.set):=by rw[m9.cell];rfl
   have c1:w5.cell? ⟨b5,1,none⟩=some (.string (aB f.path)):=by rw[m9.cell];rfl
   clear q5 r5 f4 f5 f45 fk ho l5 hvk m9
   by_cases h3:f.set=3
   .have Ft:Hid (d8 (fs.take (k+1))=ps):=by show _=_;rw[HST.out,if_pos h3]
    have h3':((f.set:Int))=3:=by omega
    rw[h3'] at c0;clear HST;go_wp2_with fail
    go_roundw
    case rel=>exact⟨k+1,by go_num,by omega,mh,by rw[Ft.out];exact A2⟩
    case measure=>simp[intOf];omega
   .have Ft:Hid (d8 (fs.take (k+1))=ps++[f.path]):=by show _=_;rw[HST.out,if_neg h3]
    have h3':((f.set:Int)==3)=false:=by rw[beq_eq_false_iff_ne];omega
    clear HST;go_wp2_with (with_reducible first|refine bT rfl ?_|refine bU rfl ?_);refine al.go (fR rfl 45 9 1 16 iE _ rfl (.string (aB f.path)) rfl rfl ?_);intro w8 b8 l8 f8 r8;go_wp2_with (with_reducible first|refine bT rfl ?_|refine bU rfl ?_);have DB:=f8.owns A2
    have hbase:w.heap.size<=w8.heap.size:=by have:=mh.size;have:=f8.size;omega
    refine al.go (iy rfl 45 9 1 16 iE _ _ rfl w.heap.size u3 _ _ rfl DB b8 1 1 [.string (aB f.path)] rfl _ _ r8 rfl rfl (by simp[Value.oneCell']) (by omega) (by omega) (by omega) hbase ?_);intro g' cap' w9 IN f9 _;have QB:=(mh.trans f8).trans f9 (by intro j hj;right;simp at hj;exact(DB.lt j hj).1);clear A2 DB r8 f8 f9 l8 mh hbase c0 c1;go_wp2_with fail
    go_roundw
    case rel=>
     refine⟨k+1,by go_num,by omega,QB,?_⟩;rw[Ft.out];simpa [eW,aB] using IN
    case measure=>simp[intOf];omega
  .have HC:Hid (oz fs=(compact ((d8 fs).mergeSort fun x y=>decide (x<=y))).length):=rfl
   rw[List.take_of_length_le (by omega)] at ho;have hpl:=tD fs;generalize d8 fs=ps at*;have hsz:∀k,u3.ownBlock=some k->w.heap.size<=k/\k<wr.heap.size:=fun k hk=>ho.lt k hk
   rcases ho.2 with⟨rfl,h0⟩|⟨g,c,cur,rfl,hgb,hgh,hnc,_,hcs,htk⟩
   .have hp0:ps=[]:=List.length_eq_zero_iff.1 h0
    subst hp0;have HZ:Hid (oz fs=0):=by show _=_;rw[HC.out,List.mergeSort_nil];rfl
    go_wp2_with fail;refine(Tryz.slices_Sort_string_none none 0 wr).mono ?_;rintro e w6 ⟨rfl,rfl⟩;go_wp2_with fail;refine(Tryz.slices_Compact_string_empty none 0 w6).mono ?_;rintro e w7 ⟨rfl,rfl⟩;go_wp2_with fail;go_ret;exact⟨by rw[HZ.out];rfl,fk⟩
   .have hfg:w.heap.size<=g:=hgb
    have hlt2:g<wr.heap.size:=(Array.getElem?_eq_some_iff.1 hgh).1;have hH:Holds encStr wr g 0 ps.toArray:=fun j hj=>by
     have hj':j<ps.length:=by simpa using hj
     refine⟨?_,Lib.frozen_of_heap hgh _⟩;rw[Lib.cell_of_heap hgh];have h1:(cur.toList.take (ps.length*1))[j]? =(eW ps)[j]? :=by rw[htk]
     rw[List.getElem?_take_of_lt (by omega)] at h1;rw[Nat.zero_add,<-Array.getElem?_toList,h1,getElem!_pos ps.toArray j hj];simp[eW,hj']
    clear ho hsz hcs htk hgh;go_wp2_with fail;refine(Tryz.slices_Sort_string g 0 c ps wr hH hlt2 (by omega)).mono ?_;rintro e w6 ⟨rfl,m,os,NQ⟩;have hsl:(ps.mergeSort fun x y=>decide (x<=y)).length=ps.length:=List.length_mergeSort _;have hH6:Holds encStr w6 g 0 (ps.mergeSort fun x y=>decide (x<=y)).toArray:=by
     rw[NQ];exact holds_grow _ _ _ _ _ _ (by rw[size_putRow];exact hlt2) (holds_putRow _ _ _ _ _ _ (holds_ahead _ _ _ _ _ _ hH) (by simp))
    have f6:aO [g] wr w6:=by
     rw[NQ];exact(((oX wr m).mono (T:=[g]) (by simp)).trans (mO encStr _ g 0 _) (fun i hi=> .inl hi)).trans (wQ _ _)
    have um:aO [] w w6:=fk.trans f6 (by simpa using hfg);generalize (ps.mergeSort fun x y=>decide (x<=y))=qs at*;clear NQ hH f6;go_wp2_with fail;have hc:=Tryz.slices_Compact_string g 0 c qs w6 hH6 (by omega) (by omega);rw[hsl] at hc;refine hc.mono ?_;rintro e w7 ⟨rfl,q,hw7⟩;have f7:aO [g] w6 w7:=by
     rw[hw7];exact((oX w6 q).mono (T:=[g]) (by simp)).trans (mO encStr _ g 0 _) (fun i hi=> .inl hi)
    have xL:aO [] w w7:=um.trans f7 (by simpa using hfg);clear hw7 f7 hc hH6;go_wp2_with fail;go_ret;exact⟨by rw[HC.out];rfl,xL⟩
end
section
open Go.RowKit Go.Lib
theorem yu:Tryz.prog.built 103 [(0,.int .i64 3)]=some (dG 3 ⟨#[]⟩):=by kernel_rfl
def JJ:Value:= .agg (dG 0 ⟨#[]⟩)
theorem yD:(Tryz.prog.info? 103).map (·.zero)=some (some JJ):=by kernel_rfl
def DS.pending (x:DS)(n:Nat):Bool:=(x.content n 3 ⟨#[]⟩).isSome
theorem ib (w:World):Calls Tryz.prog 93 #[] w fun e w'=>e= .returned (.agg (dG 3 ⟨#[]⟩))/\aO [] w w':=by
 go_enter Tryz.func93,Tryz.ntmps93;go_wp2_with (with_reducible first|refine ay rfl ?_|refine bH 103 rfl ?_|refine af 103 rfl ?_);refine al.go (bm rfl 103 rfl JJ yD ?_);intro w1 b l1 f1 r1;go_wp2_with (with_reducible first|refine ay rfl ?_|refine bH 103 rfl ?_|refine af 103 rfl ?_)
 refine al.go (cM rfl (.agg (dG 3 ⟨#[]⟩)) w1 (gV _ _ rfl _ yu) ?_);go_wp2_with (with_reducible first|refine af 103 rfl ?_);refine al.go (bQ rfl 103 _ _ rfl _ 0 rfl _ rfl 2 eF ?_ ?_ _ _ r1 ?_ ?_)
 .rfl
 .simp[dG,Value.oneCell']
 .decide
 intro w2 f2 q2;rw[bL _ _ (by rfl)] at q2;have q2':Row w2 b (dG 3 ⟨#[]⟩) 103:=q2;have fw:=f1.trans f2 (by simp;exact l1);clear q2;go_wp2_with fail;exact k8 rfl b rfl rfl _ _ q2' gP (by exact eF) ⟨rfl,fw⟩
theorem Cm (d bl n:Nat)(vw:Value)(x:DS)(w:World)(h:bE w d bl n vw x):Calls Tryz.prog 57 #[.pointer (some ⟨d,0,none⟩)] w fun e w'=>e= .returned (.bool (x.pending n))/\aO [] w w':=by
 have HP:Hid (x.pending n=(x.content n 3 ⟨#[]⟩).isSome):=rfl;go_enter Tryz.func57,Tryz.ntmps57;go_wp2_with fail;refine(ib w).mono ?_;rintro e w1 ⟨rfl,f1⟩;have h1:=h.new f1;go_wp2_with fail;refine(rD d bl n vw x 3 ⟨#[]⟩ w1 h1).mono ?_;rintro e w2 ⟨rfl,f2⟩;have fw:=f1.trans f2;generalize x.content n 3 ⟨#[]⟩=r at*;go_wp2_with fail;go_ret
 exact⟨by rw[HP.out];rfl,fw⟩
structure aQ (w:World)(F:List Nat)(s d n:Nat)(x:DS):Prop where
 row:Row w s #[.pointer (some ⟨d,0,none⟩)] 96
 disk:bM w F d n x
 ne:s∉F
theorem aQ.new {w w':World}{F:List Nat}{s d n:Nat}{x:DS}(h:aQ w F s d n x)(f:aO [] w w'):aQ w' F s d n x:=
 ⟨f.row h.row,h.disk.new f,h.ne⟩
theorem aQ.cell {w:World}{F:List Nat}{s d n:Nat}{x:DS}(h:aQ w F s d n x):w.cell? ⟨s,0,none⟩=some (.pointer (some ⟨d,0,none⟩)):=by rw[h.row.cell];rfl
theorem aQ.xc {w:World}{F:List Nat}{s d n:Nat}{x:DS}(h:aQ w F s d n x):∃bl vw,bE w d bl n vw x:=by
 obtain⟨bl,vw,h,_⟩:=h.disk;exact⟨bl,vw,h⟩
theorem EC (n:Int)(w:World):Calls Tryz.prog 71 #[.int .i64 n] w fun e w'=>e= .returned (.bool (decide (16<=n)&&decide (n<=400)))/\w'=w:=by
 go_enter Tryz.func71,Tryz.ntmps71
 by_cases h1:16<=n<;>by_cases h2:n<=400
 all_goals
  have e1:Hid ((decide (16<=n)&&decide (n<=400))=(decide (16<=n)&&decide (n<=400))):=rfl;simp only[h1,h2,decide_true,decide_false] at e1⊢;go_wp2_with fail;go_ret;simp
theorem qa (n:Int)(w:World):Calls Tryz.prog 74 #[.int .i64 n] w fun e w'=>e= .returned (.bool (n==0||n==1))/\w'=w:=by
 go_enter Tryz.func74,Tryz.ntmps74;cases h1:(n==0)<;>cases h2:(n==1)
 all_goals
  go_wp2_with fail;go_ret;simp[h1,h2]
theorem gT (F:List Nat)(s d n:Nat)(x:DS)(w:World)(h:aQ w F s d n x):Calls Tryz.prog 44 #[.pointer (some ⟨s,0,none⟩)] w fun e w'=>e= .returned (.bool false)/\w'=w:=by
 have c0:=h.cell;go_enter Tryz.func44,Tryz.ntmps44;go_wp2_with fail;go_ret;exact⟨rfl,rfl⟩
theorem qe (F:List Nat)(s d n:Nat)(x:DS)(w:World)(h:aQ w F s d n x):Calls Tryz.prog 46 #[.pointer (some ⟨s,0,none⟩)] w fun e w'=>e= .returned (.bool x.failed)/\w'=w:=by
 have c0:=h.cell;obtain⟨bl,vw,hd⟩:=h.xc;go_enter Tryz.func46,Tryz.ntmps46;go_wp2_with fail;refine(gT F s d n x w h).mono ?_;rintro e w1 ⟨rfl,rfl⟩;go_wp2_with fail;refine(ET d bl n vw x w1 hd).mono ?_;rintro e w2 ⟨rfl,rfl⟩;go_wp2_with fail;go_ret;exact⟨rfl,rfl⟩
theorem lL (F:List Nat)(s d n:Nat)(x:DS)(w:World)(h:aQ w F s d n x):Calls Tryz.prog 54 #[.pointer (some ⟨s,0,none⟩)] w fun e w'=>e= .returned (.int .i64 (if x.failed then 3 else if x.pending n then 4 else 0))/\aO [] w w':=by
 have c0:=h.cell;obtain⟨bl,vw,hd⟩:=h.xc;go_enter Tryz.func54,Tryz.ntmps54;go_wp2_with fail;refine(qe F s d n x w h).mono ?_;rintro e w1 ⟨rfl,rfl⟩;have HO:Hid ((if x.failed then(3:Int) else if x.pending n then 4 else 0)=(if x.failed then(3:Int) else if x.pending n then 4 else 0)):=rfl;cases hf:x.failed with
 |true=>
  go_wp2_with fail;go_ret;exact⟨by simp,aO.refl _ _⟩
 |false=>
  go_wp2_with fail;refine(Cm d bl n vw x w1 hd).mono ?_;rintro e w2 ⟨rfl,f2⟩;cases hp:x.pending n with
  |true=>
   go_wp2_with fail
   all_goals
    go_ret;exact⟨by simp,f2⟩
  |false=>
   go_wp2_with fail
   all_goals
    go_ret;exact⟨by simp,f2⟩
theorem Dn (d:Nat):Tryz.prog.built 96 [(0,.pointer (some ⟨d,0,none⟩))]=some #[.pointer (some ⟨d,0,none⟩)]:=by kernel_rfl
theorem zX (b:ByteArray)(n:Nat)(w:World)(hb:b.size=64*n)(h16:16<=n)(IS:n<=400):
  Calls Tryz.prog 72 #[.string b] w fun e w'=>∃s d F,e= .returned (.pointer (some ⟨s,0,none⟩))/\aQ w' F s d n (DS.fresh b.data.toList)/\aO [] w w'/\ce [] F w/\w.heap.size<=s:=by
 go_enter Tryz.func72,Tryz.ntmps72;go_wp2_with (with_reducible first|refine bH 96 rfl ?_|refine bK rfl ?_);refine(CP b n w hb h16 IS).mono ?_;rintro e w1 ⟨d,F,rfl,hd,f1,g1⟩;go_wp2_with (with_reducible first|refine bH 96 rfl ?_|refine bK rfl ?_);refine al.go (cM rfl (.agg #[.pointer (some ⟨d,0,none⟩)]) w1 (gV _ _ rfl _ (Dn d)) ?_)
 go_wp2_with (with_reducible first|refine bK rfl ?_);refine al.go (ii rfl 96 _ rfl (.agg #[.pointer (some ⟨d,0,none⟩)]) rfl ?_);intro w2 s l2 f2 r2;have hd2:=hd.new f2;have fw:=f1.trans f2;have hs:s∉F:=fun hF=>by have:=hd.lt s hF;omega
 go_wp2_with fail;go_ret;exact⟨s,d,F,rfl,⟨r2,hd2,hs⟩,fw,g1,by have:=f1.size;omega⟩
theorem yc (n:Nat)(h:1<=n):(e9 n).length=64*n:=by
 unfold e9;rw[List.length_append,mH,List.length_replicate];omega
theorem Px (n:Nat)(w:World)(h16:16<=n)(IS:n<=400):
  Calls Tryz.prog 40 #[.int .i64 n] w fun e w'=>∃s d F,e= .returned (.tuple #[.pointer (some ⟨s,0,none⟩),.int .i64 0])/\aQ w' F s d n (DS.fresh (e9 n))/\aO [] w w'/\ce [] F w/\w.heap.size<=s:=by
 go_enter Tryz.func40,Tryz.ntmps40;go_wp2_with fail;refine(EC n w).mono ?_;rintro e w1 ⟨rfl,rfl⟩;have e1:(decide (16<=(n:Int))&&decide ((n:Int)<=400))=true:=by
  rw[decide_eq_true (by omega),decide_eq_true (by omega)];rfl
 rw[e1];go_wp2_with fail;refine(I2 n w1 (by omega) IS).mono ?_;rintro e w2 ⟨rfl,f2⟩;have hl:=yc n (by omega);go_wp2_with fail;refine(zX ⟨(e9 n).toArray⟩ n w2 (by rw[<-hl];rfl) h16 IS).mono ?_;rintro e w3 ⟨s,d,F,rfl,hs,f3,g3,l3⟩;have fw:=f2.trans f3;have hs':aQ w3 F s d n (DS.fresh (e9 n)):=hs;have hsz:=f2.size
 have gw:ce [] F w1:=fun i hi=>(g3 i hi).imp id (fun h=>by omega)
 clear hs f2 f3 g3;go_wp2_with fail
 all_goals
  go_ret2
  exact⟨s,d,F,rfl,hs',fw,gw,by omega⟩
theorem zk (n:Nat)(w:World)(hn:n<=2):Calls Tryz.prog 48 #[.int .i64 n] w fun e w'=>e= .returned (.bool true)/\w'=w:=by
 go_enter Tryz.func48,Tryz.ntmps48;rcases(by omega:n=0\/n=1\/n=2) with rfl|rfl|rfl
 all_goals
  go_wp2_with fail;refine(qa _ w).mono ?_;rintro e w1 ⟨rfl,rfl⟩;go_wp2_with fail;go_ret;exact⟨rfl,rfl⟩
def DS.get (x:DS)(n s:Nat)(p:ByteArray):Value×Int:=if x.failed then(.string ⟨#[]⟩,3) else match x.content n s p with
 |none=>(.string ⟨#[]⟩,5)
 |some c=>(.string (aB c),0)
theorem xq (s:Int)(p:ByteArray):Tryz.prog.built 103 [(0,.int .i64 s),(1,.string p)]=some (dG s p):=by kernel_rfl
theorem Gr (F:List Nat)(s d n:Nat)(x:DS)(side:Nat)(p:ByteArray)(w:World)(h:aQ w F s d n x)(hs:side<=2)(hp:cE p.data.toList=true)(hpl:p.size<=8):
  Calls Tryz.prog 22 #[.pointer (some ⟨s,0,none⟩),.int .i64 side,.string p] w fun e w'=>e= .returned (.tuple #[(x.get n side p).1,.int .i64 (x.get n side p).2])/\aO [] w w':=by
 have c0:=h.cell;obtain⟨bl,vw,hd⟩:=h.xc;have HG:Hid (x.get n side p=(if x.failed then((Value.string ⟨#[]⟩,3):Value×Int) else match x.content n side p with|none=>(Value.string ⟨#[]⟩,5)|some c=>(Value.string (aB c),0))):=rfl;go_enter Tryz.func22,Tryz.ntmps22;go_wp2_with fail;refine(gT F s d n x w h).mono ?_;rintro e w1 ⟨rfl,rfl⟩;go_wp2_with fail;refine(zk side w1 hs).mono ?_
 rintro e w2 ⟨rfl,rfl⟩;go_wp2_with fail;refine(mL p w2 (by omega)).mono ?_;rintro e w3 ⟨rfl,f3⟩;rw[hp];have h3:=h.new f3;have hd3:=hd.new f3;have c0:=h3.cell;go_wp2_with fail;refine(qe F s d n x w3 h3).mono ?_;rintro e w4 ⟨rfl,rfl⟩;cases hf:x.failed with
 |true=>
  rw[hf] at HG;go_wp2_with fail
  all_goals
   go_ret2
   rw[HG.out];exact⟨rfl,f3⟩
 |false=>
  rw[hf] at HG;go_wp2_with (with_reducible first|refine bH 103 rfl ?_);refine al.go (cM rfl (.agg (dG side p)) w4 (gV _ _ rfl _ (xq side p)) ?_);go_wp2_with fail;refine(rD d bl n vw x side p w4 hd3).mono ?_;rintro e w5 ⟨rfl,f5⟩;have fw:=f3.trans f5;generalize x.content n side p=r at*;cases r with
  |none=>
   go_wp2_with fail
   all_goals
    go_ret2
    rw[HG.out];exact⟨rfl,fw⟩
  |some c=>
   go_wp2_with fail
   all_goals
    go_ret2
    rw[HG.out];exact⟨rfl,fw⟩
def DS.fS (x:DS)(n s:Nat)(p:ByteArray):DS×Value:=
 if x.failed then(x,.int .i64 3) else if x.pending n then(x,.int .i64 4) else x.remove n s p
theorem zN (F:List Nat)(s d n:Nat)(x:DS)(side:Nat)(p:ByteArray)(w:World)(h:aQ w F s d n x)(hx:x.Fit 2)(iH:x.waiting.length<60)(hs:side<=1)(hp:cE p.data.toList=true)(hpl:p.size<=8):
  Calls Tryz.prog 42 #[.pointer (some ⟨s,0,none⟩),.int .i64 side,.string p] w fun e w'=>e= .returned (x.fS n side p).2/\(∃F',aQ w' F' s d n (x.fS n side p).1/\ce F F' w)/\aO F w w':=by
 have HG:Hid (x.fS n side p=if x.failed then(x,.int .i64 3) else if x.pending n then(x,.int .i64 4) else x.remove n side p):=rfl;have e1:((side:Int)==0||(side:Int)==1)=true:=by
  rcases(by omega:side=0\/side=1) with rfl|rfl<;>rfl
 go_enter Tryz.func42,Tryz.ntmps42;go_wp2_with fail;refine(gT F s d n x w h).mono ?_;rintro e w1 ⟨rfl,rfl⟩;go_wp2_with fail;refine(qa side w1).mono ?_;rintro e w2 ⟨rfl,rfl⟩;rw[e1];go_wp2_with fail;refine(mL p w2 (by omega)).mono ?_;rintro e w3 ⟨rfl,f3⟩;rw[hp];have h3:=h.new f3;go_wp2_with fail;refine(lL F s d n x w3 h3).mono ?_;rintro e w4 ⟨rfl,f4⟩
 have h4:=h3.new f4;have fw:=f3.trans f4;have c0:=h4.cell;cases hf:x.failed with
 |true=>
  rw[hf] at HG;have HG2:Hid (x.fS n side p=(x,.int .i64 3)):=by show _=_;rw[HG.out];rfl
  simp only[if_true];go_wp2_with fail
  all_goals
   go_ret;rw[HG2.out];exact⟨rfl,⟨F,h4,ce.refl _ _⟩,fw.mono⟩
 |false=>
  rw[hf] at HG;cases hpd:x.pending n with
  |true=>
   rw[hpd] at HG;have HG2:Hid (x.fS n side p=(x,.int .i64 4)):=by show _=_;rw[HG.out];rfl
   simp only[if_true,Bool.false_eq_true,if_false];go_wp2_with fail
   all_goals
    go_ret;rw[HG2.out];exact⟨rfl,⟨F,h4,ce.refl _ _⟩,fw.mono⟩
  |false=>
   rw[hpd] at HG;have HG2:Hid (x.fS n side p=x.remove n side p):=by show _=_;rw[HG.out];rfl
   simp only[Bool.false_eq_true,if_false];go_wp2_with (with_reducible first|refine bH 103 rfl ?_);refine al.go (cM rfl (.agg (dG side p)) w4 (gV _ _ rfl _ (xq side p)) ?_);go_wp2_with fail;refine(n4 F d n x side p w4 h4.disk hx iH).mono ?_;rintro e w5 ⟨rfl,F5,h5,f5,g5⟩;have gw:=(ce.refl F w2).trans g5 fw.size
   have hs5:aQ w5 F5 s d n (x.remove n side p).1:=⟨f5.row h4.row h4.ne,h5,fun hF=>(gw s hF).elim h.ne (fun hh=>by have:=h.row.lt;omega)⟩
   have f15:aO F w2 w5:=(fw.mono (T:=F) (by simp)).trans f5 (fun i hi=> .inl hi);go_wp2_with fail
   all_goals
    go_ret;rw[HG2.out];exact⟨rfl,⟨F5,hs5,gw⟩,f15⟩
end
section
open Go.RowKit Go.Lib Go.Sort
def bJ (l:List cV)(s:Nat):List (List UInt8):=(l.filter fun f=>f.set==s).map (·.path)
theorem BP (fs:List cV)(s k:Nat)(hk:k<fs.length):bJ (fs.take (k+1)) s=if fs[k].set=s then bJ (fs.take k) s++[fs[k].path] else bJ (fs.take k) s:=by
 unfold bJ;rw[List.take_succ_eq_append_getElem hk,List.filter_append,List.map_append]
 by_cases h:fs[k].set=s
 .simp[h]
 .simp[h]
theorem vF (l:List cV)(s:Nat):(bJ l s).length<=l.length:=by unfold bJ;rw[List.length_map];exact List.length_filter_le _ _
theorem Ln (F:List Nat)(s d n:Nat)(x:DS)(side:Nat)(w:World)(h:aQ w F s d n x)(hs:side<=2):
  Calls Tryz.prog 23 #[.pointer (some ⟨s,0,none⟩),.int .i64 side] w fun e w'=>
   (∃ad cap,e= .returned (if x.failed then .tuple #[.slice none 0 0,.int .i64 3] else .tuple #[.slice ad (bJ (aP x n) side).length cap,.int .i64 0]))/\aO [] w w':=by
 have c0:=h.cell;obtain⟨bl,vw,hd⟩:=h.xc;have hfl:(aP x n).length<=54:=by unfold aP;rw[List.length_map];exact iz x n
 go_enter Tryz.func23,Tryz.ntmps23;go_wp2_with fail;refine(gT F s d n x w h).mono ?_;rintro e w1 ⟨rfl,rfl⟩;go_wp2_with fail;refine(zk side w1 hs).mono ?_;rintro e w2 ⟨rfl,rfl⟩;go_wp2_with fail;refine(qe F s d n x w2 h).mono ?_;rintro e w3 ⟨rfl,rfl⟩;cases hf:x.failed with
 |true=>
  go_wp2_with fail
  all_goals
   go_ret2
   refine⟨?_,aO.refl _ _⟩
   first|rfl|exact⟨none,0,rfl⟩
 |false=>
  go_wp2_with fail;refine(GK d bl n vw x w3 hd).mono ?_;rintro e wa ⟨v,rfl,hv,fa⟩;generalize hfs:aP x n=fs at*;have HFS:Hid (aP x n=fs):=hfs;clear hfs;obtain⟨ad,cap,hv'⟩:=ci hv;subst hv';have hba:w3.heap.size<=wa.heap.size:=fa.size;clear h hd c0;go_wp2_with fail
  go_loopw [6,22] (fun u c wr=>∃k:Nat,c= .int .i64 k/\k<=fs.length/\aO [] wa wr/\wr.ownsRow wa.heap.size 9 1 u (bJ (fs.take k) side).length (eW (bJ (fs.take k) side))) (fun _ c _=>fs.length-(intOf c).toNat)
  case atStart=>exact⟨0,rfl,by omega,aO.refl _ _,World.ownsRow_nil _ _ _ _⟩
  case round=>
   obtain⟨k,rfl,hk,fk,ho⟩:=hrel;have hvk:=fk.owns hv
   by_cases hlt:k<fs.length
   .obtain⟨g,cur,rfl,hg,hle,_,hcs,htk⟩:=eQ hvk
    have hat:((cur.toList.drop (k*3)).take 3)=bV fs[k].set fs[k].path fs[k].content:=by
     rw[cu htk _ _,wP fs k hlt]
    have hstep:=BP fs side k hlt;have hpl:(bJ (fs.take k) side).length<=1000:=by have:=vF (fs.take k) side;rw[List.length_take] at this;omega
    generalize fs[k]=f at hat hstep;have HST:Hid (bJ (fs.take (k+1)) side=if f.set=side then bJ (fs.take k) side++[f.path] else bJ (fs.take k) side):=hstep;generalize bJ (fs.take k) side=ps at*;clear hstep hcs htk;go_wp2_with (with_reducible first|refine av 107 rfl ?_|refine ay rfl ?_|refine af 107 rfl ?_)
    refine al.go (bX rfl 107 _ rfl g (k*3) rfl ku 3 eG _ _ hg (bV f.set f.path f.content) hat rfl ?_);clear hat hg;go_wp2_with (with_reducible first|refine ay rfl ?_|refine af 107 rfl ?_);refine al.go (bm rfl 107 rfl yE lS ?_);intro w4 b5 l5 f4 r5;go_wp2_with (with_reducible first|refine ay rfl ?_|refine af 107 rfl ?_)
    refine al.go (bQ rfl 107 _ _ rfl _ 0 rfl _ rfl 3 eG ?_ ?_ _ _ r5 ?_ ?_)
    .rfl
    .simp[bV,Value.oneCell']
    .decide
    intro w5 f5 q5;rw[bL _ _ (by rfl)] at q5;have m9:Row w5 b5 (bV f.set f.path f.content).toArray 107:=q5;have f45:=f4.trans f5 (by simpa using l5);have mh:=fk.trans f45;have A2:=f45.owns ho;have c0:w5.cell? ⟨b5,0,none⟩=some (.int .i64 f.set):=by rw[m9.cell];rfl
    have c1:w5.cell? ⟨b5,1,none⟩=some (.string (aB f.path)):=by rw[m9.cell];rfl
    clear q5 r5 f4 f5 f45 fk ho l5 hvk m9
    by_cases h3:f.set=side
    .have Ft:Hid (bJ (fs.take (k+1)) side=ps++[f.path]):=by show _=_;rw[HST.out,if_pos h3]
     rw[h3] at c0;clear HST h3;go_wp2_with (with_reducible first|refine bT rfl ?_|refine bU rfl ?_);refine al.go (fR rfl 45 9 1 16 iE _ rfl (.string (aB f.path)) rfl rfl ?_);intro w8 b8 l8 f8 r8;go_wp2_with (with_reducible first|refine bT rfl ?_|refine bU rfl ?_);have DB:=f8.owns A2
     have hbase:wa.heap.size<=w8.heap.size:=by have:=mh.size;have:=f8.size;omega
     refine al.go (iy rfl 45 9 1 16 iE _ _ rfl wa.heap.size u6 _ _ rfl DB b8 1 1 [.string (aB f.path)] rfl _ _ r8 rfl rfl (by simp[Value.oneCell']) (by omega) (by omega) (by omega) hbase ?_);intro g' cap' w9 IN f9 _;have QB:=(mh.trans f8).trans f9 (by intro j hj;right;simp at hj;exact(DB.lt j hj).1);clear A2 DB r8 f8 f9 l8 mh hbase c0 c1;go_wp2_with fail
     go_roundw
     case rel=>
      refine⟨k+1,by go_num,by omega,QB,?_⟩;rw[Ft.out];simpa [eW,aB] using IN
     case measure=>simp[intOf];omega
    .have Ft:Hid (bJ (fs.take (k+1)) side=ps):=by show _=_;rw[HST.out,if_neg h3]
     have h3':((f.set:Int)==(side:Int))=false:=by rw[beq_eq_false_iff_ne];omega
     clear HST;go_wp2_with fail
     go_roundw
     case rel=>exact⟨k+1,by go_num,by omega,mh,by rw[Ft.out];exact A2⟩
     case measure=>simp[intOf];omega
   .rw[List.take_of_length_le (by omega)] at ho
    have hpl:=vF fs side;have fw:aO [] w3 wr:=fa.trans fk;generalize hps:bJ fs side=ps at*;have HPS:Hid (bJ fs side=ps):=hps;clear hps;rcases ho.2 with⟨rfl,h0⟩|⟨g,c,cur,rfl,hgb,hgh,hnc,_,hcs,htk⟩
    .have hp0:ps=[]:=List.length_eq_zero_iff.1 h0
     subst hp0;go_wp2_with fail;refine(Tryz.slices_Sort_string_none none 0 wr).mono ?_;rintro e w6 ⟨rfl,rfl⟩;go_wp2_with fail
     all_goals
      go_ret2
      exact⟨⟨none,0,by rw[HFS.out,HPS.out];rfl⟩,fw⟩
    .have hlt2:g<wr.heap.size:=(Array.getElem?_eq_some_iff.1 hgh).1
     have hH:Holds encStr wr g 0 ps.toArray:=fun j hj=>by
      have hj':j<ps.length:=by simpa using hj
      refine⟨?_,Lib.frozen_of_heap hgh _⟩;rw[Lib.cell_of_heap hgh];have h1:(cur.toList.take (ps.length*1))[j]? =(eW ps)[j]? :=by rw[htk]
      rw[List.getElem?_take_of_lt (by omega)] at h1;rw[Nat.zero_add,<-Array.getElem?_toList,h1,getElem!_pos ps.toArray j hj];simp[eW,hj']
     clear ho hcs htk hgh;go_wp2_with fail;refine(Tryz.slices_Sort_string g 0 c ps wr hH hlt2 (by omega)).mono ?_;rintro e w6 ⟨rfl,m,os,NQ⟩;have f6:aO [g] wr w6:=by
      rw[NQ];exact(((oX wr m).mono (T:=[g]) (by simp)).trans (mO encStr _ g 0 _) (fun i hi=> .inl hi)).trans (wQ _ _)
     have um:aO [] w3 w6:=fw.trans f6 (by simp;omega);clear NQ hH f6;go_wp2_with fail
     all_goals
      go_ret2
      exact⟨⟨some ⟨g,0,none⟩,c,by rw[HFS.out,HPS.out];rfl⟩,um⟩
end
section
open Go.RowKit Go.Lib
structure Step (P:Program)(ops:Array Oper)(Q:Exit->Act->World->Prop)(n m:Nat)(l:List Nat)(i:Nat)(a:Act)(w:World):Prop where
 ex:∃oi,ops[i]? =some oi/\oi.guard=none/\∀K:Act->World->Prop,(∀a w,xG P ops Q n m (i::l) a w->K a w)->oi.wp P a w K Q
section
variable {P:Program}{ops:Array Oper}{Q:Exit->Act->World->Prop}{n m:Nat}{l:List Nat}{a:Act}{w:World}
theorem bu (i:Nat){oi:Oper}(hi:ops[i]? =some oi)(hg:oi.guard=none)(dst:Option Tmp)(hd:oi.dst=dst)(v:Value)(w1:World)(hr:(execOp a.eval oi).run P w= .ok (.value v) w1)(h:xG P ops Q n m (i::l) (a.put dst v) w1):Step P ops Q n m l i a w:=
 ⟨oi,hi,hg,fun K hK=>by
  subst hd;unfold Oper.wp;rw[hr];exact hK _ _ h⟩
theorem J0 (i:Nat){oi:Oper}(hi:ops[i]? =some oi)(hg:oi.guard=none)(dst:Option Tmp)(hd:oi.dst=dst)(v:Value)(hr:(execOp a.eval oi).run P w= .ok (.value v) w)(h:xG P ops Q n m (i::l) (a.put dst v) w):Step P ops Q n m l i a w:=bu i hi hg dst hd v w hr h
theorem lU (i:Nat){oi:Oper}(hi:ops[i]? =some oi)(hg:oi.guard=none)(dst:Option Tmp)(hd:oi.dst=dst)(f:FuncId)(args:Array Value)(hr:(execOp a.eval oi).run P w= .ok (.enter f args) w)(R:Ending->World->Prop)(hc:Calls P f args w R)
  (h:∀e w',R e w'->∃v,e= .returned v/\xG P ops Q n m (i::l) (a.put dst v) w'):Step P ops Q n m l i a w:=
 ⟨oi,hi,hg,fun K hK=>by
  subst hd;unfold Oper.wp;rw[hr];simp only[Oper.upon];refine hc.mono ?_;intro e w' he;obtain⟨v,rfl,hv⟩:=h e w' he;exact hK _ _ hv⟩
theorem bi (i:Nat){oi:Oper}(hi:ops[i]? =some oi)(hg:oi.guard=none)(dst:Option Tmp)(hd:oi.dst=dst)(f:FuncId)(args:Array Value)(hr:(execOp a.eval oi).run P w= .ok (.enter f args) w){v:Value}(hc:Calls P f args w fun e w'=>e= .returned v/\w'=w)
  (h:xG P ops Q n m (i::l) (a.put dst v) w):Step P ops Q n m l i a w:=
 lU i hi hg dst hd f args hr _ hc (by rintro e w' ⟨rfl,rfl⟩;exact⟨_,rfl,h⟩)
theorem Oh (i:Nat){oi:Oper}(hi:ops[i]? =some oi)(hg:oi.guard=none)(h:∀K:Act->World->Prop,(∀a w,xG P ops Q n m (i::l) a w->K a w)->oi.wp P a w K Q):Step P ops Q n m l i a w:=⟨oi,hi,hg,h⟩
theorem Fq (is:List Nat)(hne:is≠[])(hr:Region.ready .any ops (marks n l)=is)(hlt:∀i∈is,i<n)(h:∀i∈is,Step P ops Q n m l i a w):xG P ops Q n (m+1) l a w:=
 wpAny_all hr (by simpa using hne) fun i hi=>by
  obtain⟨oi,h1,h2,h3⟩:=h i hi;unfold wpOp;simp only[h1];rw[if_pos (by simp[Region.wanted,h2])];exact .inl (h3 _ fun a w x=>by rw[sD n i l (hlt i hi)];exact x)
theorem ba (i:Nat)(h:Step P ops Q n m l i a w)(hr:Region.ready .any ops (marks n l)=[i]:=by kernel_rfl)(hlt:i<n:=by omega):xG P ops Q n (m+1) l a w:=
 Fq [i] (by simp) hr (by simpa using hlt) (by simpa using h)
theorem gq (i j:Nat)(h1:Step P ops Q n m l i a w)(h2:Step P ops Q n m l j a w)(hr:Region.ready .any ops (marks n l)=[i,j]:=by kernel_rfl)(hi:i<n:=by omega)(hj:j<n:=by omega):xG P ops Q n (m+1) l a w:=
 Fq [i,j] (by simp) hr (by simp[hi,hj]) (by simp[h1,h2])
end
theorem XR {P:Program}{ρ:Operand->Value}{w:World}{o:Oper}(t e:TypeId)(size bytes:Nat)(E:Elem P t e size bytes)(x:Operand)(ho:o.op= .buildSlice t 1 #[(0,x)])(h24:size<=1000)(v:Value)(hx:ρ x=v)(hv:v.cells.size=size):
  (execOp ρ o).run P w= .ok (.value (.slice (some ⟨w.heap.size,0,none⟩) 1 1)) (w.alloc (.cells v.cells e)):=by
 obtain⟨i,z,h1,h2,h3,h4,h5⟩:=E.open;exact sL t e x ho E.slice i z v h1 h2 (by have:=E.pos;omega) (by omega) hx (by omega)
theorem JY {P:Program}{ops:Array Oper}{Q:Exit->Act->World->Prop}{n m:Nat}{l:List Nat}{a:Act}{w:World}(i:Nat){oi:Oper}(hi:ops[i]? =some oi)(hg:oi.guard=none)(dst:Option Tmp)(hd:oi.dst=dst)(t e:TypeId)(size bytes:Nat)(E:Elem P t e size bytes)(x:Operand)(ho:oi.op= .buildSlice t 1 #[(0,x)])(h24:size<=1000)(v:Value)(hx:a.eval x=v)(hv:v.cells.size=size)
  (h:∀b w',aO [] w w'->Row w' b v.cells e->xG P ops Q n m (i::l) (a.put dst (.slice (some ⟨b,0,none⟩) 1 1)) w'):Step P ops Q n m l i a w:=
 bu i hi hg dst hd _ _ (XR t e size bytes E x ho h24 v hx hv) (h _ _ (aO.alloc _ _ _) (Row.new _ _ _))
theorem AR {P:Program}{ops:Array Oper}{Q:Exit->Act->World->Prop}{n m k:Nat}{l0:List Nat}{a:Act}{w:World}{Y:Type}(l:List Nat)(C:Y->Prop)(A:Y->Act->Act)(W:Y->World)
  (h:∀y,C y->xG P ops Q n m l (A y a) (W y)) (t:(∀y l',marks n l'=marks n l->C y->xG P ops Q n m l' (A y a) (W y))->xG P ops Q n k l0 a w):xG P ops Q n k l0 a w:=
 t fun y l' hl hy=>by have:=h y hy;unfold xG at this⊢;rw[hl];exact this
theorem KY {w:World}{b b':Nat}{e:TypeId}{size:Nat}{v:Value}{n:Nat}{xs:List Value}(h:w.ownsRow b e size v n xs)(hb:b'<=b):w.ownsRow b' e size v n xs:=by
 obtain⟨h1,h2⟩:=h;refine⟨h1,?_⟩;rcases h2 with h2|⟨g,cap,cur,e1,e2,e3⟩
 .exact .inl h2
 .exact .inr ⟨g,cap,cur,e1,by omega,e3⟩
theorem Nj (s:Int)(p c:ByteArray):Tryz.prog.built 107 [(0,.agg (dG s p)),(1,.string c)]=some #[.int .i64 s,.string p,.string c]:=by kernel_rfl
def DS.pX (x:DS)(n s:Nat)(p c:ByteArray):DS×Value:=
 if x.failed then(x,.int .i64 3) else if x.pending n then(x,.int .i64 4)
 else if 7<oz (aP x n++[⟨s,p.data.toList,c.data.toList⟩]) then(x,.int .i64 6) else x.put n s p c
theorem yO (F:List Nat)(s d n:Nat)(x:DS)(side:Nat)(p c:ByteArray)(w:World)(h:aQ w F s d n x)(hx:x.Fit 5)(iH:x.waiting.length<55)(hs:side<=1)(hp:cE p.data.toList=true)(hpl:p.size<=8)(hcl:c.size<=96):
  Calls Tryz.prog 39 #[.pointer (some ⟨s,0,none⟩),.int .i64 side,.string p,.string c] w fun e w'=>e= .returned (x.pX n side p c).2/\(∃F',aQ w' F' s d n (x.pX n side p c).1/\ce F F' w)/\aO F w w':=by
 have HG:Hid (x.pX n side p c=if x.failed then(x,.int .i64 3) else if x.pending n then(x,.int .i64 4) else if 7<oz (aP x n++[⟨side,p.data.toList,c.data.toList⟩]) then(x,.int .i64 6) else x.put n side p c):=rfl;have e1:((side:Int)==0||(side:Int)==1)=true:=by
  rcases(by omega:side=0\/side=1) with rfl|rfl<;>rfl
 go_enter Tryz.func39,Tryz.ntmps39;go_wp2_with fail;refine(gT F s d n x w h).mono ?_;rintro e w1 ⟨rfl,rfl⟩;go_wp2_with fail;refine(qa side w1).mono ?_;rintro e w2 ⟨rfl,rfl⟩;rw[e1];go_wp2_with fail;refine(mL p w2 (by omega)).mono ?_;rintro e w3 ⟨rfl,f3⟩;rw[hp];have h3:=h.new f3;have hc96:¬(c.size:Int)>96:=by omega
 go_wp2_with fail;refine(lL F s d n x w3 h3).mono ?_;rintro e w4 ⟨rfl,f4⟩;have h4:=h3.new f4;have fw:=f3.trans f4;cases hf:x.failed with
 |true=>
  rw[hf] at HG;have HG2:Hid (x.pX n side p c=(x,.int .i64 3)):=by show _=_;rw[HG.out];rfl
  simp only[if_true];go_wp2_with fail
  all_goals
   go_ret;rw[HG2.out];exact⟨rfl,⟨F,h4,ce.refl _ _⟩,fw.mono⟩
 |false=>
  rw[hf] at HG;cases hpd:x.pending n with
  |true=>
   rw[hpd] at HG;have HG2:Hid (x.pX n side p c=(x,.int .i64 4)):=by show _=_;rw[HG.out];rfl
   simp only[if_true,Bool.false_eq_true,if_false];go_wp2_with fail
   all_goals
    go_ret;rw[HG2.out];exact⟨rfl,⟨F,h4,ce.refl _ _⟩,fw.mono⟩
  |false=>
   rw[hpd] at HG;simp only[Bool.false_eq_true,if_false];go_wp2_with (with_reducible first|refine bH 103 rfl ?_|refine bH 107 rfl ?_|refine ay rfl ?_|refine af 107 rfl ?_);refine al.go (cM rfl (.agg (dG side p)) w4 (gV _ _ rfl _ (xq side p)) ?_)
   go_wp2_with (with_reducible first|refine bH 107 rfl ?_|refine ay rfl ?_|refine af 107 rfl ?_);refine al.go (cM rfl (.agg #[.int .i64 side,.string p,.string c]) w4 (gV _ _ rfl _ (Nj side p c)) ?_);go_wp2_with (with_reducible first|refine ay rfl ?_|refine af 107 rfl ?_);refine al.go (bm rfl 107 rfl yE lS ?_)
   intro w5 b10 l5 f5 r5;go_wp2_with (with_reducible first|refine ay rfl ?_|refine af 107 rfl ?_);refine al.go (bQ rfl 107 _ _ rfl _ 0 rfl _ rfl 3 eG ?_ ?_ _ _ r5 ?_ ?_)
   .rfl
   .simp[Value.oneCell']
   .decide
   intro w6 f6 q6;rw[bL _ _ (by rfl)] at q6;have U8:Row w6 b10 #[.int .i64 side,.string p,.string c] 107:=q6;have f46:=f5.trans f6 (by simpa using l5);have h6:=h4.new f46;have um:=fw.trans f46;clear q6 r5 f5 f6 f46 h4 h3 l5;go_wp2_with fail;refine fj 10 rfl ?_;refine rT ?_;have fd:aO [] w6 w6.drew:=aO.drew _ _;have h7:=h6.new fd
   have q7:=fd.row U8;have xL:=um.trans fd;generalize w6.drew=w7 at h7 q7 xL;clear fd h6 U8 um fw f3 f4;have fb:=xL;replace xL:aO [] w7 w7:=aO.refl _ _;refine dS 0 (some 36) rfl rfl (fun _ _ _ h=>h) rfl (v:= .pointer (some ⟨s,0,none⟩)) (fun _=>rfl) ?_
   refine dS 1 (some 37) rfl rfl (fun _ _ _ h=>h) rfl (v:= .pointer (some ⟨s,0,none⟩)) (fun _=>by go_simp) ?_;refine dS 2 (some 38) rfl rfl (fun _ _ _ h=>h) rfl (v:= .pointer (some ⟨s,0,none⟩)) (fun _=>by go_simp) ?_;simp only[Act.put,aX,aY,aW]
   refine AR (m:=3) [6,5,4,3,2,1,0] (fun(y:Value×Nat×World)=>aQ y.2.2 F s d n x/\Row y.2.2 b10 #[.int .i64 side,.string p,.string c] 107/\aO [] w7 y.2.2/\y.2.2.ownsRow w7.heap.size 107 3 y.1 (aP x n).length (gU (aP x n))/\Row y.2.2 y.2.1 #[.int .i64 side,.string p,.string c] 107) (fun y a=>((((a.put (some 39) (.pointer (some ⟨d,0,none⟩))).put (some 40) y.1).put (some 41) (.agg #[.int .i64 side,.string p,.string c])).put (some 42) (.slice (some ⟨y.2.1,0,none⟩) 1 1))) (fun y=>y.2.2) ?_ ?_
   .rintro⟨v,bz,w8⟩ ⟨h8,q8,qt,o8,r8⟩
    simp only at h8 q8 qt o8 r8;simp only[Act.put,aX,aY,aW];have hfl:(aP x n).length<=54:=by unfold aP;rw[List.length_map];exact iz x n
    have HF:Hid (gU (aP x n++[⟨side,p.data.toList,c.data.toList⟩])=gU (aP x n)++[.int .i64 side,.string p,.string c]):=by
     show _=_;rw[ry];rfl
    have hv8:∀k,v.ownBlock=some k->w7.heap.size<=k:=fun k hk=>(o8.lt k hk).1
    have hs7:=h7.row.lt;have hF7:=fun k hk=>h7.disk.lt k hk
    have hb7:=q7.lt;clear h7 q7;refine ba 7 (Oh 7 rfl rfl fun K hK=>yF 104 107 3 40 pg _ _ rfl w7.heap.size v _ _ rfl o8 bz 1 1 [.int .i64 side,.string p,.string c] rfl _ _ r8 rfl rfl (by simp[Value.oneCell']) (by omega) (by omega) (by omega) qt.size fun g cap w9 o9 f9 _=>hK _ _ ?_)
    have q9:=f9.row q8 (by intro hk;have:=hv8 b10 (by simpa using hk);omega);have h9:aQ w9 F s d n x:=⟨f9.row h8.row (by intro hk;have:=hv8 s (by simpa using hk);omega),h8.disk.uP f9 (fun k hk hF=>by have:=hv8 k (by simpa using hk);have:=hF7 k hF;omega),h8.ne⟩
    have YU:aO [] w7 w9:=qt.trans f9 (fun k hk=> .inr (hv8 k (by simpa using hk)));have fx9:aO [] w2 w9:=fb.trans YU;clear h8 q8 qt o8 r8 f9 hv8 hs7 hF7 hb7 fb xL YU
    change xG _ _ _ _ _ _ (Act.put _ (some 43) _) _
    simp only[Act.put,aX,aY,aW];have hlen:(aP x n++[(⟨side,p.data.toList,c.data.toList⟩:cV)]).length=(aP x n).length+1:=by simp
    have hcount:=Ja w7.heap.size (.slice (some ⟨g,0,none⟩) ((aP x n).length+1) cap) (aP x n++[⟨side,p.data.toList,c.data.toList⟩]) w9 (by rw[hlen,HF.out];exact o9) (by omega);clear o9 HF hlen hfl;generalize (aP x n).length+1=ln at*;refine ba 8 (lU 8 rfl rfl (some 44) rfl 75 #[.slice (some ⟨g,0,none⟩) ln cap] (by go_simp) _ hcount ?_)
    rintro e wc ⟨rfl,fc⟩;refine⟨_,rfl,?_⟩;have hc:=h9.new fc;have qc:=fc.row q9;have fxc:=fx9.trans fc;clear hcount h9 q9 fx9 fc;generalize oz (aP x n++[⟨side,p.data.toList,c.data.toList⟩])=m at*;simp only[Act.put,aX,aY,aW]
    by_cases hm:7<m
    .have HG2:Hid (x.pX n side p c=(x,.int .i64 6)):=by show _=_;rw[HG.out];simp[hm]
     refine ba 9 (bu 9 rfl rfl (some 45) rfl (.bool true) wc (by go_simp;omega) ?_);refine rS ?_;simp only[Act.put,aX,aY,aW];go_wp2_with fail
     all_goals
      go_ret;rw[HG2.out];exact⟨rfl,⟨F,hc,ce.refl _ _⟩,fxc.mono⟩
    .have HG2:Hid (x.pX n side p c=x.put n side p c):=by show _=_;rw[HG.out];simp[hm]
     refine ba 9 (bu 9 rfl rfl (some 45) rfl (.bool false) wc (by go_simp;omega) ?_);refine rS ?_;simp only[Act.put,aX,aY,aW];clear hm;go_wp2_with fail;refine fj 7 rfl ?_;have fdd:aO [] wc wc.drew:=aO.drew _ _;have hd:=hc.new fdd;have qd:=fdd.row qc;have fxd:=fxc.trans fdd
     generalize wc.drew=wd at hd qd fxd;clear fdd hc qc fxc HG hK;have hL1:Lets (fun w':World=>Row w' s #[.pointer (some ⟨d,0,none⟩)] 96):=⟨fun w o h=>(aO.alloc [] w o).row h,fun w h=>h⟩
     have hL2:Lets (fun w':World=>Row w' b10 #[.int .i64 side,.string p,.string c] 107):=⟨fun w o h=>(aO.alloc [] w o).row h,fun w h=>h⟩
     refine bP 0 (some 46) rfl rfl (fun _ _ _ h=>h) rfl (v:= .pointer (some ⟨s,0,none⟩)) (fun _=>rfl) ?_;refine bP 1 (some 47) rfl rfl (fun _ _ _ h=>h) rfl (v:= .pointer (some ⟨s,0,none⟩)) (fun _=>by go_simp) ?_
     refine bP 2 (some 48) rfl rfl (fun _ _ _ h=>h) rfl (v:= .pointer (some ⟨s,0,none⟩)) (fun _=>by go_simp) ?_;simp only[Act.put,aX,aY,aW]
     refine lu 3 _ hL1 hd.row (some 49) rfl rfl (fun _ _ _ h=>h) rfl (v:= .pointer (some ⟨d,0,none⟩)) (fun w' hw'=>by have:=hw'.cell 0;go_simp) ?_;simp only[Act.put,aX,aY,aW]
     refine lu 4 _ hL2 qd (some 50) rfl rfl (fun _ _ _ h=>h) rfl (v:= .agg #[.int .i64 side,.string p,.string c]) (fun w' hw'=>rH 107 _ rfl b10 0 rfl ku 3 eG _ _ hw' [.int .i64 side,.string p,.string c] rfl rfl) ?_;simp only[Act.put,aX,aY,aW]
     refine Dt 5 (by omega) (some 51) rfl rfl (by kernel_rfl) rfl 76 #[.pointer (some ⟨d,0,none⟩),.agg #[.int .i64 side,.string p,.string c]] (by go_simp) _ (vU F d n x side p c wd hd.disk hx iH (by omega) (by omega) (by omega)) ?_;rintro e we ⟨rfl,Fe,he,fe,ge⟩;refine⟨_,rfl,?_⟩;have gw:=(ce.refl F w2).trans ge fxd.size
     have hse:aQ we Fe s d n (x.put n side p c).1:=⟨fe.row hd.row hd.ne,he,fun hF=>(gw s hF).elim h.ne (fun hh=>by have:=h.row.lt;omega)⟩
     have XQ:aO F w2 we:=(fxd.mono (T:=F) (by simp)).trans fe (fun i hi=> .inl hi);clear hL1 hL2 hd qd fxd he fe ge;refine bP 6 (some 8) rfl rfl (fun _ _ _ h=>h) rfl (v:=(x.put n side p c).2) (fun _=>rfl) ?_;simp only[Act.put,aX,aY,aW];refine ly ?_;generalize hpx:x.put n side p c=y at*
     have HPX:Hid (x.put n side p c=y):=hpx;clear hpx;go_wp2_with fail
     all_goals
      go_ret;rw[HG2.out];exact⟨rfl,⟨Fe,hse,gw⟩,XQ⟩
   intro sZ;have tail:∀v bz l,marks 10 l=marks 10 [6,5,4,3,2,1,0]->∀wk,aQ wk F s d n x->Row wk b10 #[.int .i64 side,.string p,.string c] 107->aO [] w7 wk->wk.ownsRow w7.heap.size 107 3 v (aP x n).length (gU (aP x n))->Row wk bz #[.int .i64 side,.string p,.string c] 107->_:=fun v bz l hl wk a1 a2 a3 a4 a5=>sZ (v,bz,wk) l hl ⟨a1,a2,a3,a4,a5⟩
   simp only[Act.put,aX,aY,aW] at tail;clear sZ;have r7:True:=trivial;have o7:True:=trivial
   repeat' first
    |((
      first
      |refine gq 3 5 (hr:=(by decide+kernel)) ?_ ?_
      |refine gq 4 5 (hr:=(by decide+kernel)) ?_ ?_
      |refine gq 4 6 (hr:=(by decide+kernel)) ?_ ?_
      |refine gq 3 6 (hr:=(by decide+kernel)) ?_ ?_
      |refine ba 3 (hr:=(by decide+kernel)) ?_
      |refine ba 4 (hr:=(by decide+kernel)) ?_
      |refine ba 5 (hr:=(by decide+kernel)) ?_
      |refine ba 6 (hr:=(by decide+kernel)) ?_)<;>first
      |(
        show Step _ _ _ _ _ _ 3 _ _;refine J0 3 rfl rfl (some 39) rfl (.pointer (some ⟨d,0,none⟩)) (by have c0:=h7.cell;go_simp) ?_;simp only[Act.put,aX,aY,aW])
      |(
        show Step _ _ _ _ _ _ 4 _ _;obtain⟨bl8,vw8,hd8⟩:=h7.xc;refine lU 4 rfl rfl (some 40) rfl 51 #[.pointer (some ⟨d,0,none⟩)] (by go_simp) _ (GK d bl8 n vw8 x _ hd8) ?_;rintro e w8 ⟨v,rfl,o8,f8⟩;refine⟨v,rfl,?_⟩;replace o7:=KY o8 xL.size;replace h7:=h7.new f8;replace q7:=f8.row q7;replace xL:=xL.trans f8
        try replace r7:=f8.row r7
        clear f8 hd8;simp only[Act.put,aX,aY,aW])
      |(
        show Step _ _ _ _ _ _ 5 _ _;refine bu 5 rfl rfl (some 41) rfl (.agg #[.int .i64 side,.string p,.string c]) _ (rH 107 _ rfl b10 0 rfl ku 3 eG _ _ q7 [.int .i64 side,.string p,.string c] rfl rfl) ?_;simp only[Act.put,aX,aY,aW])
      |(
        show Step _ _ _ _ _ _ 6 _ _;refine JY 6 rfl rfl (some 42) rfl 104 107 3 40 pg _ rfl (by omega) (.agg #[.int .i64 side,.string p,.string c]) rfl rfl ?_;intro bz w9 f9 r9;replace h7:=h7.new f9;replace q7:=f9.row q7;replace xL:=xL.trans f9
        try replace o7:=f9.owns o7
        replace r7:=r9;clear f9;simp only[Act.put,aX,aY,aW]))
    |exact tail _ _ _ (by kernel_rfl) _ h7 q7 xL o7 r7
def br (c:Int)(n:Nat):Nat:=((if c<0 then -(c+1) else c)%(n:Int)).toNat
theorem n9 (c:Int)(n:Nat)(h:0<n:=by omega):br c n<n:=by
 unfold br;have h1:=Int.emod_lt_of_pos (if c<0 then -(c+1) else c) (show(0:Int)<n by omega);have h2:=Int.emod_nonneg (if c<0 then -(c+1) else c) (show(n:Int)≠0 by omega);omega
theorem El (c:Int)(n:Nat)(h:0<n):((br c n:Nat):Int)=(if c<0 then -(c+1) else c)%(n:Int):=by
 unfold br;have h2:=Int.emod_nonneg (if c<0 then -(c+1) else c) (show(n:Int)≠0 by omega);omega
theorem dY (c:Int)(n:Nat)(w:World)(h0:-9223372036854775808<=c)(h1:c<=9223372036854775807)(hn:0<n:=by omega)(hn2:n<=1000000000:=by omega):
  Calls Tryz.prog 19 #[.int .i64 c,.int .i64 n] w fun e w'=>e= .returned (.int .i64 (br c n))/\w'=w:=by
 have HP:Hid (((br c n:Nat):Int)=(if c<0 then -(c+1) else c)%(n:Int)):=El c n hn;have hne:((n:Int)==0)=false:=by rw[beq_eq_false_iff_ne];omega
 have hne':(n:Int)≠0:=by omega
 go_enter Tryz.func19,Tryz.ntmps19
 by_cases hc:c<0
 .have HQ:Hid (((br c n:Nat):Int)=-((c+1).tmod (n:Int))):=by
   show _=_;rw[HP.out,if_pos hc,<-Int.neg_tmod,Int.tmod_eq_emod_of_nonneg (by omega)]
  go_wp2_with fail;go_ret;exact⟨by rw[HQ.out];rfl,rfl⟩
 .have HQ:Hid (((br c n:Nat):Int)=c%(n:Int)):=by
   show _=_;rw[HP.out,if_neg hc]
  go_wp2_with fail;go_ret;exact⟨by rw[HQ.out];rfl,rfl⟩
def de (s:ByteArray):ByteArray:=if s.size>96 then s.extract 0 96 else s
theorem cR (s:ByteArray)(w:World):Calls Tryz.prog 43 #[.string s] w fun e w'=>e= .returned (.string (de s))/\w'=w:=by
 go_enter Tryz.func43,Tryz.ntmps43
 by_cases hc:s.size>96
 .have HQ:Hid (de s=s.extract 0 96):=by show _=_;unfold de;rw[if_pos hc]
  have hc':(s.size:Int)>96:=by omega
  go_wp2_with fail;go_ret;exact⟨by rw[HQ.out];rfl,rfl⟩
 .have HQ:Hid (de s=s):=by show _=_;unfold de;rw[if_neg hc]
  have hc':¬(s.size:Int)>96:=by omega
  go_wp2_with fail;go_ret;exact⟨by rw[HQ.out];rfl,rfl⟩
def dI (i:Nat):ByteArray:=(⟨#[97,98,99,100,101,102,103]⟩:ByteArray).extract i (i+1)
theorem vZ (i:Nat)(h:i<7):cE (dI i).data.toList=true/\(dI i).size=1:=by
 rcases(by omega:i=0\/i=1\/i=2\/i=3\/i=4\/i=5\/i=6) with rfl|rfl|rfl|rfl|rfl|rfl|rfl<;>exact⟨by decide,by decide⟩
theorem dm (c:Int)(w:World)(h0:-9223372036854775808<=c)(h1:c<=9223372036854775807):Calls Tryz.prog 41 #[.int .i64 c] w fun e w'=>e= .returned (.string (dI (br c 7)))/\w'=w:=by
 have hlt:=n9 c 7;go_enter Tryz.func41,Tryz.ntmps41;go_wp2_with fail;refine(dY c 7 w h0 h1).mono ?_;rintro e w1 ⟨rfl,rfl⟩;generalize hi:br c 7=i at*;have HI:Hid (br c 7=i):=hi;clear hi;rcases(by omega:i=0\/i=1\/i=2\/i=3\/i=4\/i=5\/i=6) with rfl|rfl|rfl|rfl|rfl|rfl|rfl
 all_goals
  go_wp2_with fail;go_ret;exact⟨by rw[HI.out];rfl,rfl⟩
def j0 (L:List UInt8)(j:Nat):List UInt8:=(L.drop (64*j)).take 64
theorem BR (L:List UInt8)(j k:Nat):(j0 L j)[k]? =if k<64 then L[64*j+k]? else none:=by
 unfold j0;rw[List.getElem?_take];split
 .rw[List.getElem?_drop]
 .rfl
theorem Pa (L:List UInt8)(n:Nat)(hL:L.length=64*n)(i:Nat)(hi:i<n)(b:List UInt8)(hb:b.length=64)(m:Nat):
  (bG L ((i:Int),b))[m]? =if m<64*i then L[m]? else if m<64*i+64 then b[m-64*i]? else L[m]? :=by
 unfold bG;simp only[Int.toNat_natCast];rw[List.getElem?_append,List.getElem?_append];simp only[List.length_append,List.length_take,hb,List.getElem?_take,List.getElem?_drop];have h1:min (64*i) L.length=64*i:=by omega
 rw[h1]
 by_cases h2:m<64*i
 .simp[h2];omega
 .by_cases h3:m<64*i+64
  .simp[h2,h3]
  .simp only[h2,h3,if_false]
   congr 1
   omega
theorem jB (L:List UInt8)(n:Nat)(hL:L.length=64*n)(i:Nat)(hi:i<n)(b:List UInt8)(hb:b.length=64)(j:Nat):j0 (bG L ((i:Int),b)) j=if j=i then b else j0 L j:=by
 apply List.ext_getElem?
 intro k;rw[BR,Pa L n hL i hi b hb]
 by_cases hj:j=i
 .subst hj
  simp only[if_true]
  by_cases hk:k<64
  .rw[if_pos hk,if_neg (by omega),if_pos (by omega)]
   congr 1;omega
  .rw[if_neg hk,List.getElem?_eq_none (by omega)]
 .rw[if_neg hj,BR]
  by_cases hk:k<64
  .rw[if_pos hk,if_pos hk]
   by_cases h2:64*j+k<64*i
   .rw[if_pos h2]
   .rw[if_neg h2,if_neg (by omega)]
  .rw[if_neg hk,if_neg hk]
theorem Ga (L:List UInt8)(n:Nat)(hL:L.length=64*n)(i:Nat)(hi:i<n)(b:List UInt8)(hb:b.length=64):(bG L ((i:Int),b)).length=64*n:=by
 unfold bG;simp only[Int.toNat_natCast,List.length_append,List.length_take,List.length_drop,hb];omega
theorem vQ (x:DS)(h:x.waiting=[])(j:Nat):x.read j=j0 x.aS j:=by
 unfold DS.read seenIn j0;rw[h];simp
theorem su (x:DS)(h:x.waiting=[]):x.read 0=j0 x.aS 0:=vQ x h 0
abbrev dJ:=Nat->Option cV
def CQ (n:Nat):List UInt8:=lN++[UInt8.ofNat (n/256),UInt8.ofNat n]
def eg (n:Nat)(m:dJ):List UInt8:=CQ n++(List.range 54).map fun i=>if(m i).isSome then(1:UInt8) else 0
theorem mI (n:Nat):(CQ n).length=10:=rfl
theorem iT (n:Nat)(m:dJ):(eg n m).length=64:=by simp[eg,mI]
theorem oN (n:Nat)(m:dJ)(k:Nat):(eg n m)[k]? =if k<10 then(CQ n)[k]? else if k<64 then some (if(m (k-10)).isSome then(1:UInt8) else 0) else none:=by
 unfold eg;rw[List.getElem?_append,mI];split
 .rfl
 .rename_i h
  rw[List.getElem?_map]
  by_cases h2:k<64
  .rw[List.getElem?_range (by omega),if_pos h2];rfl
  .rw[List.getElem?_eq_none (by simp;omega),if_neg h2];rfl
theorem HV (n k:Nat):(k7 n)[k]? =if k<10 then(CQ n)[k]? else if k<64 then some 0 else none:=by
 unfold k7;rw[show lN++[UInt8.ofNat (n/256),UInt8.ofNat n]=CQ n from rfl,List.getElem?_append,mI];split
 .rfl
 .rw[List.getElem?_replicate]
  by_cases h2:k<64
  .rw[if_pos h2,if_pos (by omega)]
  .rw[if_neg h2,if_neg (by omega)]
theorem sF (n:Nat)(m:dJ)(i:Nat)(hi:i<54):db (eg n m) i=if(m i).isSome then 1 else 0:=by
 unfold db;rw[List.getD_eq_getElem?_getD,oN,if_neg (by omega),if_pos (by omega)];simp
theorem DI (n:Nat)(m:dJ)(k:Nat)(hk:k<=54):iK (eg n m) k=(List.range k).filter fun i=>(m i).isSome:=by
 unfold iK
 apply List.filter_congr
 intro i hi;rw[List.mem_range] at hi;rw[sF n m i (by omega)];cases (m i).isSome<;>rfl
theorem x9 (l:List Nat):∀(r:List UInt8) (j:Nat),(mb r l)[j]? =if(∃i∈l,10+i=j)/\j<r.length then some 1 else r[j]? :=by
 induction l with
 |nil=>intro r j;simp[mb]
 |cons a l ih=>
  intro r j;unfold mb;rw[List.foldl_cons];have:=ih (r.set (10+a) 1) j;unfold mb at this;rw[this,List.length_set,List.getElem?_set]
  by_cases h1:(∃i∈l,10+i=j)/\j<r.length
  .rw[if_pos h1,if_pos ⟨by obtain⟨⟨i,hi,e⟩,_⟩:=h1;exact⟨i,List.mem_cons_of_mem _ hi,e⟩,h1.2⟩]
  .rw[if_neg h1]
   by_cases h2:10+a=j
   .rw[if_pos h2]
    by_cases h3:j<r.length
    .rw[if_pos (by omega),if_pos ⟨⟨a,List.mem_cons_self,h2⟩,h3⟩]
    .rw[if_neg (by omega),if_neg (by omega),List.getElem?_eq_none (by omega)]
   .rw[if_neg h2,if_neg]
    rintro⟨⟨i,hi,e⟩,h3⟩;rcases List.mem_cons.1 hi with rfl|hi
    .exact h2 e
    .exact h1 ⟨⟨i,hi,e⟩,h3⟩
theorem jw (n:Nat):(k7 n).length=64:=by simp[k7,lN]
theorem Ee (n:Nat)(m:dJ)(k:Nat)(hm:∀i,(m i).isSome->i<k):mb (k7 n) ((List.range k).filter fun i=>(m i).isSome)=eg n m:=by
 apply List.ext_getElem?
 intro j;rw[x9,oN,HV,jw]
 by_cases h1:j<10
 .rw[if_pos h1,if_pos h1,if_neg (by rintro⟨⟨i,_,e⟩,_⟩;omega)]
 .rw[if_neg h1,if_neg h1]
  by_cases h2:j<64
  .rw[if_pos h2,if_pos h2]
   cases h3:(m (j-10)).isSome with
   |true=>
    rw[if_pos ⟨⟨j-10,by rw[List.mem_filter,List.mem_range];exact⟨hm _ h3,h3⟩,by omega⟩,h2⟩];rfl
   |false=>
    rw[if_neg]
    .rfl
    .rintro⟨⟨i,hi,e⟩,_⟩
     rw[List.mem_filter] at hi;obtain rfl:i=j-10:=by omega
     rw[h3] at hi;exact absurd hi.2 (by decide)
  .rw[if_neg h2,if_neg h2,if_neg (by omega)]
def upd (m:dJ)(i:Nat)(v:Option cV):dJ:=fun j=>if j=i then v else m j
theorem BQ (n:Nat)(m:dJ)(i:Nat)(hi:i<54)(v:Option cV):(eg n m).set (10+i) (if v.isSome then 1 else 0)=eg n (upd m i v):=by
 apply List.ext_getElem?
 intro j;rw[List.getElem?_set,iT,oN,oN]
 by_cases h1:10+i=j
 .have h3:j-10=i:=by omega
  have h4:¬(j<10):=by omega
  have h5:j<64:=by omega
  have h6:10+i<64:=by omega
  simp[upd,h3,h4,h5,h6,h1]
 .rw[if_neg h1]
  by_cases h2:j<10
  .rw[if_pos h2,if_pos h2]
  .rw[if_neg h2,if_neg h2]
   have:¬(j-10=i):=by omega
   simp[upd,this]
theorem vp (l:List UInt8)(o:Nat)(v:List UInt8)(h:o+v.length<=l.length)(k:Nat):(splice l o v)[k]? =if k<o then l[k]? else if k<o+v.length then v[k-o]? else l[k]? :=by
 unfold splice;rw[List.getElem?_append,List.getElem?_append];simp only[List.length_append,List.length_take,List.getElem?_take,List.getElem?_drop];have h1:min o l.length=o:=by omega
 rw[h1]
 by_cases h2:k<o
 .simp[h2];omega
 .by_cases h3:k<o+v.length
  .simp[h2,h3]
  .simp only[h2,h3,if_false]
   congr 1
   omega
theorem mJ (l:List UInt8)(o:Nat)(v:List UInt8)(h:o+v.length<=l.length):(splice l o v).length=l.length:=by
 unfold splice;simp only[List.length_append,List.length_take,List.length_drop];omega
theorem rJ (s:Nat)(p c:List UInt8)(hp:p.length<=8)(hc:c.length<=96)(k:Nat):
  (cN s p c)[k]? =if k<3 then(dM s p.length c.length)[k]? else if k<3+p.length then p[k-3]? else if k<11 then(dM s p.length c.length)[k]? else if k<11+c.length then c[k-11]? else(dM s p.length c.length)[k]? :=by
 have hh:(dM s p.length c.length).length=128:=by simp[dM]
 unfold cN;rw[List.take_of_length_le hp,List.take_of_length_le (by omega:c.length<=117)];rw[vp _ _ _ (by rw[mJ _ _ _ (by omega)];omega),vp _ _ _ (by omega)]
 by_cases h1:k<3
 .rw[if_pos (by omega),if_pos h1,if_pos h1]
 .rw[if_neg h1,if_neg h1]
  by_cases h2:k<3+p.length
  .rw[if_pos (by omega),if_pos h2,if_pos h2]
  .rw[if_neg h2,if_neg h2]
theorem PM (s:Nat)(p c:List UInt8)(hp:p.length<=8)(hc:c.length<=96):(cN s p c).length=128:=by
 have hh:(dM s p.length c.length).length=128:=by simp[dM]
 unfold cN;rw[List.take_of_length_le hp,List.take_of_length_le (by omega:c.length<=117)];rw[mJ _ _ _ (by rw[mJ _ _ _ (by omega)];omega),mJ _ _ _ (by omega),hh]
theorem wM (s p c:Nat):(dM s p c)[0]? =some (UInt8.ofNat s)/\(dM s p c)[1]? =some (UInt8.ofNat p)/\(dM s p c)[2]? =some (UInt8.ofNat c):=by
 refine⟨?_,?_,?_⟩<;>simp[dM,List.getElem?_set]
theorem QI (s:Nat)(p c:List UInt8)(hs:s<256)(hp:p.length<=8)(hc:c.length<=96):gn (cN s p c)=s:=by
 unfold gn eu;rw[List.getD_eq_getElem?_getD,rJ s p c hp hc,if_pos (by omega),(wM _ _ _).1];simp;omega
theorem MF (s:Nat)(p c:List UInt8)(hp:p.length<=8)(hc:c.length<=96):eu (cN s p c) 1=p.length:=by
 unfold eu;rw[List.getD_eq_getElem?_getD,rJ s p c hp hc,if_pos (by omega),(wM _ _ _).2.1];simp;omega
theorem MH (s:Nat)(p c:List UInt8)(hp:p.length<=8)(hc:c.length<=96):eu (cN s p c) 2=c.length:=by
 unfold eu;rw[List.getD_eq_getElem?_getD,rJ s p c hp hc,if_pos (by omega),(wM _ _ _).2.2];simp;omega
theorem MG (s:Nat)(p c:List UInt8)(hp:p.length<=8)(hc:c.length<=96):dQ (cN s p c)=p:=by
 unfold dQ;rw[MF s p c hp hc,Nat.min_eq_left hp]
 apply List.ext_getElem?
 intro k;rw[List.getElem?_take]
 by_cases h:k<p.length
 .rw[if_pos h,List.getElem?_drop,rJ s p c hp hc,if_neg (by omega),if_pos (by omega)]
  congr 1;omega
 .rw[if_neg h,List.getElem?_eq_none (by omega)]
theorem tP (s:Nat)(p c:List UInt8)(hp:p.length<=8)(hc:c.length<=96):bR (cN s p c)=c:=by
 unfold bR;rw[MH s p c hp hc,Nat.min_eq_left hc]
 apply List.ext_getElem?
 intro k;rw[List.getElem?_take]
 by_cases h:k<c.length
 .rw[if_pos h,List.getElem?_drop,rJ s p c hp hc,if_neg (by omega),if_neg (by omega),if_neg (by omega),if_pos (by omega)]
  congr 1;omega
 .rw[if_neg h,List.getElem?_eq_none (by omega)]
theorem jY {α:Type}[BEq α][LawfulBEq α]:∀(l r:List α),l.Nodup->(∀a∈l,a∈r)->l.length<=r.length
 |[],_,_,_=>by simp
 |a::l,r,hn,hs=>by
  rw[List.nodup_cons] at hn;have ha:a∈r:=hs a List.mem_cons_self;have h:=jY l (r.erase a) hn.2 fun b hb=>by
   have hne:b≠a:=fun e=>hn.1 (e▸hb)
   exact(List.mem_erase_of_ne hne).2 (hs b (List.mem_cons_of_mem _ hb))
  rw[List.length_erase_of_mem ha] at h;have:=List.length_pos_of_mem ha;rw[List.length_cons];omega
structure mZ (L:List UInt8)(n:Nat)(m:dJ):Prop where
 len:L.length=64*n
 lo:16<=n
 root:j0 L 0=eg n m
 recs:∀i f,m i=some f->j0 L (1+2*i)++j0 L (2+2*i)=cN f.set f.path f.content
 lt:∀i f,m i=some f->i<aK n
 good:∀i f,m i=some f->iW f.set f.path=true/\f.content.length<=96
 inj:∀i j f g,m i=some f->m j=some g->nameOf f=nameOf g->i=j
theorem oS (n:Nat):aK n<=54:=Nat.min_le_right _ _
theorem Iq (n i:Nat)(h:i<aK n):2+2*i<n:=by
 unfold aK at h;omega
theorem wj {s:Nat}{p:List UInt8}(h:iW s p=true):p.length<=8/\s<=3:=by
 unfold iW at h;split at h
 .unfold cE at h
  simp only[Bool.and_eq_true,decide_eq_true_eq] at h;omega
 .split at h
  .have:p=[]:=by simpa using h
   subst this;simp;omega
  .cases h
def iX (n:Nat)(m:dJ):List cV:=(List.range (aK n)).filterMap m
section
variable {L:List UInt8}{n:Nat}{m:dJ}{x:DS}
theorem yX (h:mZ x.aS n m)(hw:x.waiting=[]):taken x n=(List.range (aK n)).filter fun i=>(m i).isSome:=by
 unfold taken;rw[su x hw,h.root,DI n m _ (oS n)]
theorem FS (h:mZ x.aS n m)(hw:x.waiting=[]){i:Nat}{f:cV}(hf:m i=some f):cJ x i=cN f.set f.path f.content:=by
 unfold cJ DS.sec;rw[vQ x hw,vQ x hw,h.recs i f hf]
theorem BX (h:mZ x.aS n m)(hw:x.waiting=[]){i:Nat}{f:cV}(hf:m i=some f):fileAt x i=f:=by
 have hg:=h.good i f hf;have hl:=wj hg.1;unfold fileAt;rw[FS h hw hf,QI _ _ _ (by omega) hl.1 hg.2,MG _ _ _ hl.1 hg.2,tP _ _ _ hl.1 hg.2]
theorem nj (g:Nat->cV):∀(l:List Nat),(∀i∈l,∀f,m i=some f->g i=f)->(l.filter fun i=>(m i).isSome).map g=l.filterMap m
 |[],_=>rfl
 |a::l,h=>by
  have ih:=nj g l fun i hi=>h i (List.mem_cons_of_mem _ hi)
  cases hm:m a with
  |none=>rw[List.filter_cons_of_neg (by simp[hm]),List.filterMap_cons_none hm,ih]
  |some f=>rw[List.filter_cons_of_pos (by simp[hm]),List.map_cons,List.filterMap_cons_some hm,ih,h a List.mem_cons_self f hm]
theorem oP (h:mZ x.aS n m)(hw:x.waiting=[]):aP x n=iX n m:=by
 unfold aP iX;rw[yX h hw];exact nj _ _ fun i _ f hf=>BX h hw hf
theorem yY (h:mZ x.aS n m)(hw:x.waiting=[]){i:Nat}{f:cV}(hf:m i=some f)(s:Int)(p:ByteArray):named x s p i=((f.set:Int)==s&&aB f.path==p):=by
 have:=BX h hw hf;unfold fileAt at this;unfold named;rw[<-this]
theorem FD (s:Int)(p:ByteArray)(i:Nat):∀(l:List Nat),i∈l->(∀j∈l,named x s p j=decide (j=i))->cG x s p l=i
 |[],h,_=>by simp at h
 |a::l,h,hn=>by
  unfold cG;rw[hn a List.mem_cons_self]
  by_cases ha:a=i
  .simp[ha]
  .rw[decide_eq_false ha]
   rcases List.mem_cons.1 h with e|h'
   .exact absurd e.symm ha
   .simpa using FD s p i l h' fun j hj=>hn j (List.mem_cons_of_mem _ hj)
theorem By (s:Int)(p:ByteArray):∀(l:List Nat),(∀j∈l,named x s p j=false)->cG x s p l=-1
 |[],_=>rfl
 |a::l,hn=>by
  unfold cG;rw[hn a List.mem_cons_self];simpa using By s p l fun j hj=>hn j (List.mem_cons_of_mem _ hj)
theorem z9 (h:mZ x.aS n m)(hw:x.waiting=[]){i:Nat}:i∈taken x n↔∃f,m i=some f:=by
 rw[yX h hw,List.mem_filter,List.mem_range,Option.isSome_iff_exists];exact⟨fun h=>h.2,fun⟨f,hf⟩=>⟨h.lt i f hf,f,hf⟩⟩
theorem BW (h:mZ x.aS n m)(hw:x.waiting=[]){i:Nat}{f:cV}(hf:m i=some f):cG x f.set (aB f.path) (taken x n)=i:=by
 refine FD _ _ i _ ((z9 h hw).2 ⟨f,hf⟩) fun j hj=>?_
 obtain⟨g,hg⟩:=(z9 h hw).1 hj;rw[yY h hw hg]
 by_cases hji:j=i
 .subst hji
  rw[hf] at hg;obtain rfl:=Option.some.inj hg;rw[xu];simp
 .rw[decide_eq_false hji,Bool.and_eq_false_iff]
  by_cases h1:g.set=f.set
  .right
   rw[xu,beq_eq_false_iff_ne];intro e;exact hji (h.inj j i g f hg hf (by unfold nameOf;rw[h1,e]))
  .left
   rw[beq_eq_false_iff_ne];omega
theorem p7 (h:mZ x.aS n m)(hw:x.waiting=[])(s:Nat)(p:List UInt8)(hn:∀i f,m i=some f->nameOf f≠(s,p)):cG x s (aB p) (taken x n)=-1:=by
 refine By _ _ _ fun j hj=>?_
 obtain⟨g,hg⟩:=(z9 h hw).1 hj;rw[yY h hw hg,Bool.and_eq_false_iff]
 by_cases h1:g.set=s
 .right
  rw[xu,beq_eq_false_iff_ne];intro e;exact hn j g hg (by unfold nameOf;rw[h1,e])
 .left
  rw[beq_eq_false_iff_ne];omega
theorem O1 (h:mZ x.aS n m)(hw:x.waiting=[]){i:Nat}{f:cV}(hf:m i=some f):x.content n f.set (aB f.path)=some f.content:=by
 have hg:=h.good i f hf;have hl:=wj hg.1;unfold DS.content;rw[BW h hw hf];show some (bR (cJ x i))=_;rw[FS h hw hf,tP _ _ _ hl.1 hg.2]
theorem vK (h:mZ x.aS n m)(hw:x.waiting=[])(s:Nat)(p:List UInt8)(hn:∀i f,m i=some f->nameOf f≠(s,p)):x.content n s (aB p)=none:=by
 unfold DS.content;rw[p7 h hw s p hn];rfl
def holds (m:dJ)(s:Nat)(p:List UInt8)(r:Option (List UInt8)):Prop:=
 match r with
 |some c=>∃i,m i=some ⟨s,p,c⟩
 |none=>∀i f,m i=some f->nameOf f≠(s,p)
theorem tx (h:mZ x.aS n m)(hw:x.waiting=[]){s:Nat}{p:List UInt8}{r:Option (List UInt8)}(hr:holds m s p r):x.content n s (aB p)=r:=by
 cases r with
 |none=>exact vK h hw s p hr
 |some c=>
  obtain⟨i,hi⟩:=hr;exact O1 h hw hi
theorem IM (m:dJ)(s:Nat)(p:List UInt8):∃r,holds m s p r:=by
 by_cases h:∃i f,m i=some f/\nameOf f=(s,p)
 .obtain⟨i,f,hf,e⟩:=h
  refine⟨some f.content,i,?_⟩;obtain⟨fs,fp,fc⟩:=f;simp only[nameOf,Prod.mk.injEq] at e;rw[hf,e.1,e.2]
 .exact⟨none,fun i f hf e=>h ⟨i,f,hf,e⟩⟩
theorem mZ.mem (h:mZ L n m){f:cV}:f∈iX n m↔∃i,m i=some f:=by
 unfold iX;rw[List.mem_filterMap];exact⟨fun⟨i,_,hf⟩=>⟨i,hf⟩,fun⟨i,hf⟩=>⟨i,List.mem_range.2 (h.lt i f hf),hf⟩⟩
theorem mZ.nodup (h:mZ L n m):((iX n m).map nameOf).Nodup:=by
 unfold iX List.Nodup;rw[List.pairwise_map,List.pairwise_filterMap];refine List.Pairwise.imp ?_ List.pairwise_lt_range;intro i j hij f hf g hg e;have:=h.inj i j f g hf hg e;omega
end
theorem tM (root:List UInt8)(M:Nat):∀(f k:Nat),dP root M f k=-1->∀i,k<=i->i<M->i<k+f->db root i≠0
 |0,k,_,i,h1,_,h3=>by omega
 |f+1,k,h,i,h1,h2,h3=>by
  unfold dP at h;rw[if_pos (by omega)] at h;split at h
  .omega
  .rename_i hk
   by_cases e:i=k
   .subst e
    intro h0;exact hk (by simp[h0])
   .exact tM root M f (k+1) h i (by omega) h2 (by omega)
theorem rz (root:List UInt8)(M:Nat):∀(f k:Nat),dP root M f k≠-1->∃i:Nat,i<M/\dP root M f k=i/\db root i=0
 |0,k,h=>absurd rfl h
 |f+1,k,h=>by
  unfold dP at h⊢
  by_cases h1:k<M
  .rw[if_pos h1] at h⊢
   by_cases h2:(db root k==0)=true
   .rw[if_pos h2]
    exact⟨k,h1,rfl,by simpa using h2⟩
   .rw[if_neg h2] at h⊢
    exact rz root M f (k+1) h
  .rw[if_neg h1] at h
   exact absurd rfl h
theorem KE {n:Nat}{m:dJ}{x:DS}(h:mZ x.aS n m)(hw:x.waiting=[])(hroom:∃i,i<aK n/\m i=none):∃i:Nat,i<aK n/\dO x n=i/\m i=none:=by
 have hle:=oS n;unfold dO;rw[su x hw,h.root];have hne:dP (eg n m) (aK n) (aK n) 0≠-1:=by
  intro e;obtain⟨i,hi,hm⟩:=hroom;have:=tM _ _ _ _ e i (by omega) hi (by omega);rw[sF n m i (by omega),hm] at this;exact this rfl
 obtain⟨i,hi,e,hm⟩:=rz _ _ _ _ hne;refine⟨i,hi,e,?_⟩;rw[sF n m i (by omega)] at hm;cases hq:m i with
 |none=>rfl
 |some f=>rw[hq] at hm;simp at hm
end
section
open Go.RowKit Go.Lib Go.Sort
def cz (k:Nat):List UInt8:=(dI k).data.toList
def P7:List (List UInt8):=(List.range 7).map cz
theorem wm {p:List UInt8}:p∈P7↔∃k,k<7/\p=cz k:=by
 unfold P7;rw[List.mem_map];exact⟨fun⟨k,hk,e⟩=>⟨k,List.mem_range.1 hk,e.symm⟩,fun⟨k,hk,e⟩=>⟨k,List.mem_range.2 hk,e.symm⟩⟩
theorem kN (k:Nat):aB (cz k)=dI k:=rfl
theorem y5:∀a,a<7->∀b,b<7->cz a=cz b->a=b:=by decide
theorem yQ {ps:List (List UInt8)}:(ps.mergeSort fun x y=>decide (x<=y)).Pairwise fun x y=>x<=y:=by
 have h:=List.pairwise_mergeSort (le:=fun x y:List UInt8=>decide (x<=y)) (fun a b c h1 h2=>by simp only[decide_eq_true_eq] at*;exact List.le_trans h1 h2)
  (fun a b=>by simp only[Bool.or_eq_true,decide_eq_true_eq];exact List.le_total a b) ps
 exact h.imp fun h=>by simpa using h
theorem Dd {qs:List (List UInt8)}{a:List UInt8}(h:a∈compact qs):a∈qs:=by
 unfold compact compactUpTo at h;obtain⟨i,hi,e⟩:=List.mem_map.1 h;have hi':=List.mem_range.1 (List.mem_filter.1 hi).1;rw[getElem!_pos qs.toArray i (by simpa using hi')] at e;rw[<-e];simp
theorem yq {qs:List (List UInt8)}(hs:qs.Pairwise fun x y=>x<=y):(compact qs).Nodup:=by
 unfold compact compactUpTo List.Nodup;rw[List.pairwise_map];refine(List.pairwise_lt_range.filter _).imp_of_mem ?_;intro i j hi hj hij e;have hi':=List.mem_range.1 (List.mem_filter.1 hi).1;have hj':=List.mem_range.1 (List.mem_filter.1 hj).1;have hk:=(List.mem_filter.1 hj).2;unfold keeps at hk;rw[decide_eq_true_eq] at hk;rcases hk with hk|hk
 .omega
 rw[getElem!_pos qs.toArray i (by simpa using hi'),getElem!_pos qs.toArray j (by simpa using hj')] at e;rw[getElem!_pos qs.toArray (j-1) (by simp;omega),getElem!_pos qs.toArray j (by simpa using hj')] at hk;simp only[List.getElem_toArray] at e hk;rw[List.pairwise_iff_getElem] at hs;have h1:qs[i]<=qs[j-1]:=by
  by_cases hc:i=j-1
  .subst hc;exact List.le_refl _
  .exact hs i (j-1) hi' (by omega) (by omega)
 have h2:qs[j-1]<=qs[j]:=hs (j-1) j (by omega) hj' (by omega);exact hk (List.le_antisymm (e▸h1) h2)
theorem I9 (fs:List cV)(h:∀f∈fs,f.set≠3->f.path∈P7):oz fs<=7:=by
 unfold oz;refine Nat.le_trans (jY _ P7 (yq yQ) fun a ha=>?_) (Nat.le_of_eq (by rfl));have h1:=Dd ha;rw[List.mem_mergeSort] at h1;unfold d8 at h1;obtain⟨f,hf,e⟩:=List.mem_map.1 h1;rw[List.mem_filter] at hf;rw[<-e];exact h f hf.1 (by simpa using hf.2)
def Seven (m:dJ):Prop:=∀i f,m i=some f->f.set<=2/\f.path∈P7
section
variable {L:List UInt8}{n:Nat}{m:dJ}{x:DS}
theorem Seven.files (h7:Seven m)(h:mZ L n m):∀f∈iX n m,f.set<=2/\f.path∈P7:=fun f hf=>by
 obtain⟨i,hi⟩:=h.mem.1 hf;exact h7 i f hi
theorem nW (h:mZ x.aS n m)(hw:x.waiting=[])(h7:Seven m):x.pending n=false:=by
 have:=vK h hw 3 [] fun i f hf e=>by
  have:=h7 i f hf;unfold nameOf at e;simp only[Prod.mk.injEq] at e;omega
 unfold DS.pending;rw[show(⟨#[]⟩:ByteArray)=aB [] from rfl];rw[show((3:Int))=((3:Nat):Int) from rfl,this];rfl
theorem D3 (h:mZ x.aS n m)(hw:x.waiting=[])(h7:Seven m)(s:Nat):
  (bJ (aP x n) s).length=((List.range 7).filter fun k=>(x.content n s (dI k)).isSome).length:=by
 rw[oP h hw];have hmem:∀p,p∈bJ (iX n m) s↔∃i f,m i=some f/\nameOf f=(s,p):=by
  intro p;unfold bJ;rw[List.mem_map];constructor
  .rintro⟨f,hf,e⟩
   rw[List.mem_filter] at hf;obtain⟨i,hi⟩:=h.mem.1 hf.1;exact⟨i,f,hi,by unfold nameOf;rw[<-e];have:=hf.2;simp at this;rw[this]⟩
  .rintro⟨i,f,hf,e⟩
   unfold nameOf at e;simp only[Prod.mk.injEq] at e;exact⟨f,List.mem_filter.2 ⟨h.mem.2 ⟨i,hf⟩,by simp[e.1]⟩,e.2⟩
 have hnd:(bJ (iX n m) s).Nodup:=by
  have h1:=h.nodup;unfold List.Nodup at h1⊢;unfold bJ;rw[List.pairwise_map] at h1⊢;refine(h1.filter _).imp_of_mem ?_;intro a b ha hb hab e;have e1:=(List.mem_filter.1 ha).2;have e2:=(List.mem_filter.1 hb).2;simp at e1 e2;exact hab (by unfold nameOf;rw[e,e1,e2])
 have hc:∀k,(x.content n s (dI k)).isSome=true↔cz k∈bJ (iX n m) s:=by
  intro k;rw[hmem];obtain⟨r,hr⟩:=IM m s (cz k);rw[<-kN,tx h hw hr];cases r with
  |none=>
   simp only[Option.isSome_none,Bool.false_eq_true,false_iff];rintro⟨i,f,hf,e⟩;exact hr i f hf e
  |some c=>
   obtain⟨i,hi⟩:=hr;simp only[Option.isSome_some,true_iff];exact⟨i,_,hi,rfl⟩
 have agq:(((List.range 7).filter fun k=>(x.content n s (dI k)).isSome).map cz).Nodup:=by
  unfold List.Nodup;rw[List.pairwise_map];refine(List.pairwise_lt_range.filter _).imp_of_mem ?_;intro a b ha hb hab e;have e1:=List.mem_range.1 (List.mem_filter.1 ha).1;have e2:=List.mem_range.1 (List.mem_filter.1 hb).1;have:=y5 a e1 b e2 e;omega
 rw[show((List.range 7).filter fun k=>(x.content n s (dI k)).isSome).length=(((List.range 7).filter fun k=>(x.content n s (dI k)).isSome).map cz).length from(List.length_map _).symm]
 apply Nat.le_antisymm
 .refine jY _ _ hnd fun p hp=>?_
  obtain⟨i,f,hf,e⟩:=(hmem p).1 hp;unfold nameOf at e;simp only[Prod.mk.injEq] at e;obtain⟨k,hk,e2⟩:=wm.1 (h7 i f hf).2;have e3:cz k=p:=by rw[<-e2,e.2]
  exact List.mem_map.2 ⟨k,List.mem_filter.2 ⟨List.mem_range.2 hk,(hc k).2 (e3▸hp)⟩,e3⟩
 .refine jY _ _ agq fun p hp=>?_
  obtain⟨k,hk,e⟩:=List.mem_map.1 hp;rw[<-e];exact(hc k).1 (List.mem_filter.1 hk).2
end
end
end
end Go.Proofs.YtchcmhodnkgojaaGreat
