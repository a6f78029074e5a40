/- On the way to the last text; put together and shortened by program. -/
import Derived.Test.YtchcmhodnkgojaaGreatPart8
import Derived.Handy
set_option linter.all false
set_option maxRecDepth 100000
set_option maxHeartbeats 8000000
namespace Go.Proofs.YtchcmhodnkgojaaGreat
noncomputable section
section
open Go.Conc
open Go.ConcM (OsLater)
namespace aI
section
variable {Δ:Type}{X:Cx Δ}{Post:Gh Δ->Goroutine->World->Prop}{γ:Gh Δ}{w:World}{fr:Frame}{cs:List Frame}{k:Nat}
theorem MT {T T':Lo}{g ab6:Goroutine}(R:Room X γ)(hT:(T=at_ .e1 0/\T'=at_ .g1 0)\/(T=at_ .e2 0/\T'=at_ .g2 0))(hen:ic g=some (170,#[]))(hg:av PP true (cX g) ab6)
  (go:∀k' w',RR X γ w w'->LS X Post γ k' T' ab6 w'):LS X Post γ k T g w:=by
 rcases hT with⟨rfl,rfl⟩|⟨rfl,rfl⟩
 .exact j3 R (T':=at_ .g1 0) (g':=cX g) (by simp) (by simp) (ou hen) (fun w=>jc X9 .enable (by simp) YD hen) (by simp[mv]) (by simp[EvStop,iX,pK]) (by simp) (by simp) (by simp) (by simp) (by simp) (by simp) fun k' w' _ hr=>aC hg (go k' w' hr)
 .exact j3 R (T':=at_ .g2 0) (g':=cX g) (by simp) (by simp) (ou hen) (fun w=>jc X9 .enable (by simp) YD hen) (by simp[mv]) (by simp[EvStop,iX,pK]) (by simp) (by simp) (by simp) (by simp) (by simp) (by simp) fun k' w' _ hr=>aC hg (go k' w' hr)
theorem add1 (R:Room X γ)(live:∃s,ShAt X w s)(go:∀k' w',RR X γ w w'->LS X Post γ k' (at_ .g1 0) (cB fr cs U) w'):LS X Post γ k (at_ .k1 0) (Ux X.Wg fr cs) w:=by
 refine aC (Kh _ _ _) (j3 R (T':=at_ .x1 0) (g':=resume (Yg X.Wg fr cs) U) (by simp) (by simp) (aU (uN _ _ _)) (fun w=>jb GH .disable II (uN _ _ _)) (by simp[mv]) (by simp[EvStop,iX,pK]) (by simp) (by simp) (by simp) (by simp) (by simp) (by simp) fun k1 w1 hk1 hr1=>?_)
 refine aC (Kg _ _ _) (tU Sx Xw (FC _ _ _) (aC (Kf _ _ _) ?_));refine ll (T:=at_ .x1 0) fun k2 w2 hk2 hr2=>cZ (aU (uM _ _ _)) (by simp) (by simp) (by simp) (by simp) (fun s _ hf hn=>?_) (fun s hsh hf _=>?_)
 .exfalso
  by_cases h:s.wg=0<;>simp[mv,h] at hn
 by_cases h:¬s.wg=0
 .exact⟨(at_ .bad 0,s),by simp[mv,h],fun q=>absurd rfl q⟩
 have h:s.wg=0:=Decidable.not_not.1 h;have st:=qB (P:=PP) (main:=true) (w:=w2) (ad:=wA X) Jx .u64 Mc (uM X.Wg fr cs) hsh.I2 (hsh.Nn 0);have hsh':=hsh.setWg R.ne 4294967296;have ef:=ConcM.Eff.set (w:=w2) (Mu:=X.Fd) (Wg:=X.Wg) (wA X) (.int .u64 4294967296) (.inr rfl);have e:IntKind.u64.wrap (s.wg+4294967296)=4294967296:=by rw[h];decide
 rw[e] at st;refine⟨(at_ .p1 0,{s with wg:=KKi}),by simp[mv,h],fun _=>⟨_,_,_,st,hsh',ef,oq (okW R.ne) rfl,?_⟩⟩;rw[if_neg (by simp)];have H2:=(hr1.trans X hr2).trans X (R.rx ef hsh');refine aC (Ke _ _ _) (kY (Kd _ _ _) Rn Ro Rm (fun w3 h3=>?_) (aC (Kc _ _ _) ?_))
 .obtain⟨s,hs⟩:=(H2.trans X h3).live live
  exact⟨_,hs.YH⟩
 refine j3 R (T':=at_ .e1 0) (g':=resume (Ye X.Wg fr cs) U) (by simp) (by simp) (aU (z6 _ _ _)) (fun w=>fv xRd .read fRd (z6 _ _ _)) (by simp[mv]) (by simp[EvStop,iX];rfl) (by simp) (by simp) (by simp) (by simp) (by simp) (by simp) fun k4 w4 hk4 hr4=>?_
 exact aC (Kb _ _ _) (MT R (.inl ⟨rfl,rfl⟩) (Ka _ _ _) (FA _ _ _) fun k5 w5 hr5=>go k5 w5 ((H2.trans X hr4).trans X hr5))
theorem ag5 (R:Room X γ)(live:∃s,ShAt X w s)(go:∀k' w',RR X γ w w'->LS X Post γ k' (at_ .g2 0) (cB fr cs U) w'):LS X Post γ k (at_ .k2 0) (Ux X.Wg fr cs) w:=by
 refine aC (Kh _ _ _) (j3 R (T':=at_ .x2 0) (g':=resume (Yg X.Wg fr cs) U) (by simp) (by simp) (aU (uN _ _ _)) (fun w=>jb GH .disable II (uN _ _ _)) (by simp[mv]) (by simp[EvStop,iX,pK]) (by simp) (by simp) (by simp) (by simp) (by simp) (by simp) fun k1 w1 hk1 hr1=>?_)
 refine aC (Kg _ _ _) (tU Sx Xw (FC _ _ _) (aC (Kf _ _ _) ?_));refine ll (T:=at_ .x2 0) fun k2 w2 hk2 hr2=>cZ (aU (uM _ _ _)) (by simp) (by simp) (by simp) (by simp) (fun s _ hf hn=>?_) (fun s hsh hf _=>?_)
 .exfalso
  rcases hf.2.2.1 with h|h|h|h|h|h<;>simp[mv,h,KKi] at hn
 have st:=qB (P:=PP) (main:=true) (w:=w2) (ad:=wA X) Jx .u64 Mc (uM X.Wg fr cs) hsh.I2 (hsh.Nn 0)
 by_cases h:s.wg=0
 .have hsh':=hsh.setWg R.ne 4294967296
  have ef:=ConcM.Eff.set (w:=w2) (Mu:=X.Fd) (Wg:=X.Wg) (wA X) (.int .u64 4294967296) (.inr rfl);have e:IntKind.u64.wrap (s.wg+4294967296)=4294967296:=by rw[h];decide
  rw[e] at st;refine⟨(at_ .p2 0,{s with wg:=KKi}),by simp[mv,h],fun _=>⟨_,_,_,st,hsh',ef,oq (okW R.ne) rfl,?_⟩⟩;rw[if_neg (by simp)];have H2:=(hr1.trans X hr2).trans X (R.rx ef hsh');refine aC (Ke _ _ _) (kY (Kd _ _ _) Rn Ro Rm (fun w3 h3=>?_) (aC (Kc _ _ _) ?_))
  .obtain⟨s,hs⟩:=(H2.trans X h3).live live
   exact⟨_,hs.YH⟩
  refine j3 R (T':=at_ .e2 0) (g':=resume (Ye X.Wg fr cs) U) (by simp) (by simp) (aU (z6 _ _ _)) (fun w=>fv xRd .read fRd (z6 _ _ _)) (by simp[mv]) (by simp[EvStop,iX];rfl) (by simp) (by simp) (by simp) (by simp) (by simp) (by simp) fun k4 w4 hk4 hr4=>?_
  exact aC (Kb _ _ _) (MT R (.inr ⟨rfl,rfl⟩) (Ka _ _ _) (FA _ _ _) fun k5 w5 hr5=>go k5 w5 ((H2.trans X hr4).trans X hr5))
 .by_cases h1:¬s.wg=KKi
  .exact⟨(at_ .bad 0,s),by simp[mv,h,h1],fun q=>absurd rfl q⟩
  have h1:s.wg=KKi:=Decidable.not_not.1 h1;have hsh':=hsh.setWg R.ne 8589934592;have ef:=ConcM.Eff.set (w:=w2) (Mu:=X.Fd) (Wg:=X.Wg) (wA X) (.int .u64 8589934592) (.inr rfl);have e:IntKind.u64.wrap (s.wg+4294967296)=8589934592:=by rw[h1];decide
  rw[e] at st;refine⟨(at_ .e2 0,{s with wg:=2*KKi}),by simp[mv,h1,KKi],fun _=>⟨_,_,_,st,hsh',ef,oq (okW R.ne) rfl,?_⟩⟩;rw[if_neg (by simp)];have H2:=(hr1.trans X hr2).trans X (R.rx ef hsh');exact aC (Uw _ _ _) (MT R (.inr ⟨rfl,rfl⟩) (Uv _ _ _) (Ox _ _ _) fun k5 w5 hr5=>go k5 w5 (H2.trans X hr5))
theorem acV {T:Lo}{g:Goroutine}(hT:T.pc= .g1\/T.pc= .g2)(h:∀k' w₁,RR X γ w w₁->Nh X PP (yG X PP Post k') T γ g w₁):LS X Post γ k T g w:=by
 cases k with
 |zero=>exact aD.stop fun w₁ hr=>⟨γ.mine,fun _=>rfl,trivial⟩
 |succ k=>
  refine aD.stop fun w₁ hr=>⟨γ.mine,fun _=>rfl,?_⟩
  unfold yG;rw[if_pos hT];exact h k w₁ hr
def X0 (X:Cx Δ)(Post:Gh Δ->Goroutine->World->Prop)(Tg:Lo)(γ:Gh Δ)(w:World)(f:Value)(fr:Frame)(cs:List Frame):Prop:=
 ∀k' w' bw bf (own':Nat->Prop),(∀b,γ.own b->own' b)->(∀b,own' b->γ.own b\/w.heap.size<=b)->(∀b,own' b->b<w'.heap.size)->RR X γ w w'->own' bw->own' bf->w'.cell? ⟨bw,0,none⟩=some (pb X.Wg)->w'.cell? ⟨bf,0,none⟩=some f->
  (∀K,aD PP false (eS X false (given {γ with own:=own'}).ro) (dL (GD X PP K (eM Tg.pc)) (at_ .out (X.N (eM Tg.pc))) {given {γ with own:=own'} with mine:=X.c0 (eM Tg.pc)}) (fun _=>False) (Yw bw bf) w')/\
  aD PP true (eS X false (given {γ with own:=own'}).ro) (dL (yG X PP Post k') (gX Tg.pc) (given {γ with own:=own'})) (fun _=>False) (cB fr cs U) w'
theorem Gg {Tk Tg:Lo}{f:Value}(hTk:eH Tk.pc=false)(hTg:Tg.pc= .g1\/Tg.pc= .g2)(R:Room X γ)(hlow:∀b,γ.own b\/γ.ro b->b<w.heap.size)(live:∃s,ShAt X w s)(hf:∃x,kM x=true/\f=x)
  (hadd:∀(γ':Gh Δ) (k:Nat) (w:World) (fr:Frame) (cs:List Frame),Room X γ'->(∃s,ShAt X w s)->(∀k' w',RR X γ' w w'->LS X Post γ' k' Tg (cB fr cs U) w')->LS X Post γ' k Tk (Ux X.Wg fr cs) w)
  (hcells:f.cells=#[f]) (hS:X0 X Post Tg γ w f fr cs):LS X Post γ k Tk (Yc X.Wg f fr cs) w:=by
 obtain⟨s0,hs0⟩:=live;have lf:=lt_of_some hs0.1;have lw:=lt_of_some hs0.2;show aD PP true (eS X (eH Tk.pc) γ.ro) (dL (yG X PP Post k) Tk γ) γ.own (Yc X.Wg f fr cs) w;rw[hTk];refine aC (Ub _ _ _ _) (fU (f:=fun b=>pb b) (Ua _ _ _ _) (fun w1 h1=>⟨#[],vO _ _,by simp⟩) fun w1 bw h1 hbw wbw=>?_)
 refine aC (T9 _ bw _ _ _) (fU (f:=fun b=>pb b) (T0 _ _ _ _ _) (fun w2 h2=>⟨#[],vO _ _,by simp⟩) fun w2 bf h2 hbf wbf=>?_);have YQ:=aV h2 (.inl (.inr rfl)) wbw;have cbw:w2.cell? ⟨bw,0,none⟩=some (pb X.Wg):=by simp[World.cell?,YQ,pb,Value.cells]
 refine aC (TZ _ _ bf _ _ _) (Cv (TX _ _ _ _ _ _) (by kernel_rfl) (.inl (.inl (.inr rfl))) cbw fun w3 h3=>?_);have H3:RX X γ.ro γ.own w w3:=h1.trans X ((h2.sub fun b e=> .inl e).trans X (h3.sub fun b e=> .inl (.inl e)));have aeL:=aV h3 (.inl (.inl (.inr rfl))) YQ;have aeN:=aV h3 (.inl (.inr rfl)) wbf
 have R3:Room X {γ with own:=fun b=>(γ.own b\/b=bw)\/b=bf}:=⟨R.ne,fun b hb=>by
  have:=h1.size;have:=h2.size;rcases hb with((hb|rfl)|rfl)|hb
  .exact R.off b (.inl hb)
  .exact⟨by omega,by omega⟩
  .exact⟨by omega,by omega⟩
  .exact R.off b (.inr hb)⟩
 refine aC (TY _ _ _ _ _ _) ?_;have key:LS X Post {γ with own:=fun b=>(γ.own b\/b=bw)\/b=bf} k Tk (Ux X.Wg (fG X.Wg bw bf f fr cs) (fr::cs)) w3:=by
  refine hadd _ _ _ _ _ R3 (H3.live ⟨s0,hs0⟩) fun k' w4 h4=>aC (TV _ _ _ _ _ _) (acV hTg fun k5 w5 h5=>?_)
  have h45:=h4.trans X h5;have YP:=aV h45 (.inl (.inl (.inr rfl))) aeL;have YR:=aV h45 (.inl (.inr rfl)) aeN;have cbf:w5.cell? ⟨bf,0,none⟩=some f:=by simp[World.cell?,YR,hcells]
  have agZ:w5.cell? ⟨bw,0,none⟩=some (pb X.Wg):=by simp[World.cell?,YP,pb,Value.cells]
  have lbw:=lt_of_some YP;have lbf:=lt_of_some YR;obtain⟨c1,c2⟩:=hS k5 w5 bw bf (fun b=>(γ.own b\/b=bw)\/b=bf) (fun b h=> .inl (.inl h)) (fun b h=>by
   rcases h with(h|rfl)|rfl
   .exact .inl h
   .exact .inr hbw
   .exact .inr (Nat.le_trans h1.size hbf)) (fun b h=>by
   have:=(H3.trans X (h45.sub fun b e=> .inl (.inl e))).size;rcases h with(h|rfl)|rfl
   .have:=hlow b (.inl h);omega
   .exact lbw
   .exact lbf) (H3.trans X (h45.sub fun b e=> .inl (.inl e))) (.inl (.inr rfl)) (.inr rfl) agZ cbf
  refine⟨(Fz _ _ _ _ _ _).1,(Fz _ _ _ _ _ _).2,_,_,TU _ _ _ _ _ _ _,c1,aC (Ov _ _ _ _ _ _) c2⟩
 have:=key;unfold LS at this;rw[hTk] at this;exact this
end
structure Base (X:Cx iD)(γ:Gh iD)(w:World):Prop where
 dat:X.Dat=ES
 room:Room X γ
 om:¬γ.own X.M
 rm:¬γ.ro X.M
 mf:X.M≠X.Fd
 mw:X.M≠X.Wg
 low:∀b,γ.own b\/γ.ro b->b<w.heap.size
 ml:X.M<w.heap.size
 live:∃s,ShAt X w s
section
variable {X:Cx iD}{γ:Gh iD}{w w':World}
theorem Base.rely (h:Base X γ w)(hr:RR X γ w w'):Base X γ w':=⟨h.dat,h.room,h.om,h.rm,h.mf,h.mw,fun b hb=>Nat.lt_of_lt_of_le (h.low b hb) hr.size,Nat.lt_of_lt_of_le h.ml hr.size,hr.live h.live⟩
theorem Base.grow (h:Base X γ w)(hr:RR X γ w w'){own':Nat->Prop}(h1:∀b,own' b->γ.own b\/w.heap.size<=b)(h2:∀b,own' b->b<w'.heap.size):Base X {γ with own:=own'} w':=by
 obtain⟨s,hs⟩:=h.live;have lf:=lt_of_some hs.1;have lw:=lt_of_some hs.2;have lm:=h.ml;refine⟨h.dat,⟨h.room.ne,fun b hb=>?_⟩,fun hb=>?_,h.rm,h.mf,h.mw,fun b hb=>?_,Nat.lt_of_lt_of_le h.ml hr.size,hr.live h.live⟩
 .rcases hb with hb|hb
  .rcases h1 b hb with hb|hb
   .exact h.room.off b (.inl hb)
   .exact⟨by omega,by omega⟩
  .exact h.room.off b (.inr hb)
 .rcases h1 _ hb with hb|hb
  .exact h.om hb
  .omega
 .rcases hb with hb|hb
  .exact h2 b hb
  .exact Nat.lt_of_lt_of_le (h.low b (.inr hb)) hr.size
theorem Base.given (h:Base X γ w):Base X (given γ) w:=
 ⟨h.dat,⟨h.room.ne,fun b hb=>hb.elim False.elim fun hb=>h.room.off b hb.symm⟩,id,fun hb=>hb.elim h.rm h.om,h.mf,h.mw,fun b hb=>hb.elim False.elim fun hb=>h.low b hb.symm,h.ml,h.live⟩
theorem Base.now (h:Base X γ w){r:bm}(hr:r= .a\/r= .b)(m:iD):Now X r {aI.given γ with mine:=m} w:=
 ⟨⟨h.dat,hr,⟨h.given.room.ne,h.given.room.off⟩,id,h.given.rm,h.mf,h.mw⟩,h.given.low,h.ml,h.live⟩
end
theorem Q3:(PP.info? 3).bind (·.zero)=some (.int .i64 0):=by kernel_rfl
theorem RI:(PP.info? 3).map (·.size)=some 1:=by kernel_rfl
section
variable {X:Cx iD}{pS O0:Nat->Prop}{w0:World}{gL gR gA:ByteArray->Option ByteArray}{dv:Value}{K bd:Nat}{Rd:World->Prop}{fr:Frame}{cs:List Frame}
def uo (X:Cx iD)(pS O0:Nat->Prop)(w0:World)(bd:Nat)(dv:Value)(fr:Frame)(cs:List Frame):Gh iD->Goroutine->World->Prop:=fun _ g w=>
 (∃bs bs',av PP true g (cB (fT3 X.Wg X.Fd bd bs bs' X.M dv fr cs) (fr::cs) U))/\(∃o,w.heap[X.M]? =some o/\ES (X.fin .a) (X.fin .b) o)/\RX X pS O0 w0 w
structure Reads (X:Cx iD)(pS:Nat->Prop)(Rd:World->Prop)(dv:Value)(gL gR gA:ByteArray->Option ByteArray)(K:Nat):Prop where
 keep:∀ro own w w',(∀b,pS b->ro b)->Rd w->RX X ro own w w'->Rd w'
 ca:∀ro,(∀b,pS b->ro b)->Cont X .a ro Rd dv 0 gL K
 cao:∀ro,(∀b,pS b->ro b)->Cont X .a ro Rd dv 2 gA K
 cb:∀ro,(∀b,pS b->ro b)->Cont X .b ro Rd dv 1 gR K
 cbo:∀ro,(∀b,pS b->ro b)->Cont X .b ro Rd dv 2 gA K
 fa:X.fin .a=jC gL gA
 fb:X.fin .b=jC gR gA
 c0:∀r,X.c0 r=fun _=>none
 n:∀r,2*K<=X.N r
variable (hR:Reads X pS Rd dv gL gR gA K)
include hR
theorem Zu {γ:Gh iD}{w:World}{bs bs':Nat}(hB:Base X γ w)(hro:∀b,pS b->γ.ro b)(hO:∀b,O0 b\/pS b->γ.own b\/γ.ro b)(hw:Rd w)(h0:RX X pS O0 w0 w)(FP:γ.ro bd)(Sc:w.cell? ⟨bd,0,none⟩=some dv)(obs:γ.own bs')(cbs:w.heap[bs']? =some (.cells #[.int .i64 1] 3 (0,0))):
  X0 X (uo X pS O0 w0 bd dv fr cs) (at_ .g2 0) γ w (pL X.Fd bd bs') (YB X.Wg X.Fd bd bs bs' X.M dv fr cs) (fr::cs):=by
 intro k' w' bw bf own' a1 a2 a4 a3 ow of cw cf;have B':=hB.grow a3 a2 a4;have ME:w'.cell? ⟨bd,0,none⟩=some dv:=by
  unfold World.cell? at Sc⊢;rw[a3.keep bd (hB.low bd (.inr FP)) (.inr FP)];exact Sc
 have XJ:w'.cell? ⟨bs',0,none⟩=some (.int .i64 1):=by
  have:=aV a3 (.inl obs) cbs;simp[World.cell?,this]
 have Rw':Rd w':=hR.keep _ _ _ _ hro hw a3;have sub:∀b,pS b->(given {γ with own:=own'}).ro b:=fun b hb=> .inl (hro b hb)
 refine⟨fun Kk=>?_,?_⟩
 .have:=tx (r:= .b) (k:=Kk) (n:=X.N .b) (fun w w' own hw h=>hR.keep _ own w w' sub hw h) (hR.cb _ sub) (hR.cbo _ sub) (hR.n .b) (B'.now (.inr rfl) (X.c0 .b)) rfl Rw' (hR.c0 .b) hR.fb (bw:=bw) (bf:=bf) (bd:=bd) (bs:=bs') (.inr ow) (.inr of) (.inl FP) (.inr (a1 _ obs)) cw cf ME XJ
  exact this
 .refine aC (Ti _ _ _ _ _ _ _ _ _) ?_
  have B3:=B'.given;have key:=GR (Post:=uo X pS O0 w0 bd dv fr cs) (fr:=fT3 X.Wg X.Fd bd bs bs' X.M dv fr cs) (cs:=fr::cs) (k:=k') B3.room B3.live (fun w'' o g h1 h2 h3 h4=>⟨⟨bs,bs',h4⟩,⟨o,h2,hB.dat▸h3⟩,?_⟩)
  .exact key
  .have h5:RX X pS O0 w w':=⟨a3.tape,a3.output,a3.size,a3.os,fun b hb ho=>a3.keep b hb (hO b ho),a3.live⟩
   have h6:RX X pS O0 w' w'':=⟨h1.tape,h1.output,h1.size,h1.os,fun b hb ho=>h1.keep b hb (.inr ((hO b ho).elim (fun z=> .inr (a1 b z)) .inl)),h1.live⟩
   exact(h0.trans X h5).trans X h6
theorem Zv {γ:Gh iD}{w:World}{bs:Nat}(hB:Base X γ w)(hro:∀b,pS b->γ.ro b)(hO:∀b,O0 b\/pS b->γ.own b\/γ.ro b)(hw:Rd w)(h0:RX X pS O0 w0 w)(FP:γ.own bd)(Sc:w.cell? ⟨bd,0,none⟩=some dv)(obs:γ.own bs)(cbs:w.heap[bs]? =some (.cells #[.int .i64 0] 3 (0,0))):
  X0 X (uo X pS O0 w0 bd dv fr cs) (at_ .g1 0) γ w (pL X.Fd bd bs) (fT1 X.Wg X.Fd bd bs X.M dv fr cs) (fr::cs):=by
 intro k' w' bw bf own' a1 a2 a4 a3 ow of cw cf;have B':=hB.grow a3 a2 a4;have ME:w'.cell? ⟨bd,0,none⟩=some dv:=by
  unfold World.cell? at Sc⊢;rw[a3.keep bd (hB.low bd (.inl FP)) (.inl FP)];exact Sc
 have XJ:w'.cell? ⟨bs,0,none⟩=some (.int .i64 0):=by
  have:=aV a3 (.inl obs) cbs;simp[World.cell?,this]
 have Rw':Rd w':=hR.keep _ _ _ _ hro hw a3;have sub:∀b,pS b->(given {γ with own:=own'}).ro b:=fun b hb=> .inl (hro b hb)
 refine⟨fun Kk=>?_,?_⟩
 .have:=tx (r:= .a) (k:=Kk) (n:=X.N .a) (fun w w' own hw h=>hR.keep _ own w w' sub hw h) (hR.ca _ sub) (hR.cao _ sub) (hR.n .a) (B'.now (.inl rfl) (X.c0 .a)) rfl Rw' (hR.c0 .a) hR.fa (bw:=bw) (bf:=bf) (bd:=bd) (bs:=bs) (.inr ow) (.inr of) (.inr (a1 _ FP)) (.inr (a1 _ obs)) cw cf ME XJ
  exact this
 .have B3:=B'.given
  have hO3:∀b,O0 b\/pS b->(given {γ with own:=own'}).ro b:=fun b hb=>(hO b hb).elim (fun z=> .inr (a1 b z)) .inl
  have h5:RX X pS O0 w0 w':=h0.trans X ⟨a3.tape,a3.output,a3.size,a3.os,fun b hb ho=>a3.keep b hb (hO b ho),a3.live⟩;refine aC (Tq _ _ _ _ _ _ _ _) ?_;refine fU (f:=fun b=>pb b) (Tp _ _ _ _ _ _ _ _) (fun w1 h1=>⟨#[],lR Q3,by simp⟩) fun w1 bs' h1 hbs wbs=>?_
  refine aC (To _ _ _ _ bs' _ _ _ _) ?_;obtain⟨s,hs⟩:=B3.live;have n1:bs'≠X.Fd/\bs'≠X.Wg:=⟨fun e=>by have:=lt_of_some hs.1;omega,fun e=>by have:=lt_of_some hs.2;omega⟩
  have KP:¬(given {γ with own:=own'}).ro bs':=fun e=>by have:=B3.low bs' (.inr e);omega
  have o':(fun b=>False\/b=bs') bs':= .inr rfl;refine ji (b:=bs') (A:=fun o x=>x=undef/\o= .cells #[.int .i64 1] 3 (0,0)) o' n1 (Tj _ _ _ _ _ _ _ _ _) (fun w2 h2=>?_) (fun w2 o x _ YW ha h2=>?_) KP
  .obtain⟨w',ev,r1,r2,r3⟩:=fC (t:=3) (off:=0) (v:= .int .i64 1) (aV h2 (.inl o') wbs) RI (by simp[Value.cells]) (by simp[Value.cells,kM])
   exact⟨undef,_,w',ev,.inr ⟨r1,rfl⟩,r2,⟨rfl,rfl⟩,fun e he=>⟨bs',r3 e he,.inl o'⟩⟩
  obtain⟨rfl,rfl⟩:=ha;have h12:RX X (given {γ with own:=own'}).ro (fun _=>False) w' w2:=h1.trans X (h2.sub fun b e=>e.elim);have B2:Base X {given {γ with own:=own'} with own:=fun b=>False\/b=bs'} w2:=B3.grow h12 (fun b hb=>by
   rcases hb with hb|rfl
   .exact hb.elim
   .exact .inr hbs) (fun b hb=>by
   rcases hb with hb|rfl
   .exact hb.elim
   .exact lt_of_some YW)
  have XK:w2.cell? ⟨bd,0,none⟩=some dv:=by
   unfold World.cell? at ME⊢;rw[h12.keep bd (B3.low bd (.inr (.inr (a1 _ FP)))) (.inr (.inr (a1 _ FP)))];exact ME
  refine aC (Tn _ _ _ _ _ _ _ _ _) ?_;have key:=Gg (Post:=uo X pS O0 w0 bd dv fr cs) (Tk:=at_ .k2 0) (Tg:=at_ .g2 0) (k:=k') rfl (.inr rfl) B2.room B2.low B2.live (f:=pL X.Fd bd bs') (fr:=YB X.Wg X.Fd bd bs bs' X.M dv fr cs) (cs:=fr::cs) ⟨_,rfl,rfl⟩ (fun γ' k w fr cs R live go=>ag5 R live go) rfl
   (Zu hR B2 (fun b hb=>sub b hb) (fun b hb=> .inr (hO3 b hb)) (hR.keep _ _ _ _ sub Rw' h12) (h5.trans X ⟨h12.tape,h12.output,h12.size,h12.os,fun b hb ho=>h12.keep b hb (.inr (hO3 b ho)),h12.live⟩) (.inr (a1 _ FP)) XK (.inr rfl) YW)
  exact key
theorem zI {γ:Gh iD}{w:World}{k:Nat}(hB:Base X γ w)(hro:∀b,pS b->γ.ro b)(hO:∀b,O0 b\/pS b->γ.own b\/γ.ro b)(hw:Rd w)(h0:RX X pS O0 w0 w)(FP:γ.own bd)(Sc:w.cell? ⟨bd,0,none⟩=some dv):
  LS X (uo X pS O0 w0 bd dv fr cs) γ k (at_ .k1 0) (resume (Yb X.Fd bd X.M dv fr cs) (pb X.Wg)) w:=by
 refine aC (S4 _ _ _ _ _ _ _) ?_;refine fU (f:=fun b=>pb b) (S3 _ _ _ _ _ _ _) (fun w1 h1=>⟨#[],lR Q3,by simp⟩) fun w1 bs h1 hbs wbs=>?_
 refine aC (S2 _ _ _ bs _ _ _ _) ?_;obtain⟨s,hs⟩:=hB.live;have n1:bs≠X.Fd/\bs≠X.Wg:=⟨fun e=>by have:=lt_of_some hs.1;omega,fun e=>by have:=lt_of_some hs.2;omega⟩
 have KP:¬γ.ro bs:=fun e=>by have:=hB.low bs (.inr e);omega
 have now:∀b,γ.own b->b≠bs:=fun b hb e=>by have:=hB.low b (.inl hb);omega
 have o':(fun b=>γ.own b\/b=bs) bs:= .inr rfl;refine ji (b:=bs) (A:=fun o x=>x=undef/\o= .cells #[.int .i64 0] 3 (0,0)) o' n1 (SY _ _ _ _ _ _ _ _) (fun w2 h2=>?_) (fun w2 o x _ YW ha h2=>?_) KP
 .obtain⟨w',ev,r1,r2,r3⟩:=fC (t:=3) (off:=0) (v:= .int .i64 0) (aV h2 (.inl o') wbs) RI (by simp[Value.cells]) (by simp[Value.cells,kM])
  exact⟨undef,_,w',ev,.inr ⟨r1,rfl⟩,r2,⟨rfl,rfl⟩,fun e he=>⟨bs,r3 e he,.inl o'⟩⟩
 obtain⟨rfl,rfl⟩:=ha;have h12:RX X γ.ro γ.own w w2:=h1.trans X (h2.sub fun b e=>⟨.inl e,now b e⟩);have B2:Base X {γ with own:=fun b=>γ.own b\/b=bs} w2:=hB.grow h12 (fun b hb=>by
  rcases hb with hb|rfl
  .exact .inl hb
  .exact .inr hbs) (fun b hb=>by
  rcases hb with hb|rfl
  .exact Nat.lt_of_lt_of_le (hB.low b (.inl hb)) h12.size
  .exact lt_of_some YW)
 have XK:w2.cell? ⟨bd,0,none⟩=some dv:=by
  unfold World.cell? at Sc⊢;rw[h12.keep bd (hB.low bd (.inl FP)) (.inl FP)];exact Sc
 refine aC (SZ _ _ _ _ _ _ _ _) ?_;have key:=Gg (Post:=uo X pS O0 w0 bd dv fr cs) (Tk:=at_ .k1 0) (Tg:=at_ .g1 0) (k:=k) rfl (.inl rfl) B2.room B2.low B2.live (f:=pL X.Fd bd bs) (fr:=fT1 X.Wg X.Fd bd bs X.M dv fr cs) (cs:=fr::cs) ⟨_,rfl,rfl⟩ (fun γ' k w fr cs R live go=>add1 R live go) rfl
  (Zv hR B2 hro (fun b hb=>(hO b hb).imp .inl id) (hR.keep _ _ _ _ hro hw h12) (h0.trans X ⟨h12.tape,h12.output,h12.size,h12.os,fun b hb ho=>h12.keep b hb (hO b ho),h12.live⟩) (.inl FP) XK (.inr rfl) YW)
 exact key
end
end aI
end
section
open Go.Conc Go.RowKit Go.Lib
open Go.ConcM (OsLater)
namespace aI
section
variable {X:Cx iD}{ro:Nat->Prop}
theorem Wc:Ni (eS X false ro) (fun s=>s) ro:=
 ⟨fun s w w₁ h=>⟨h.size,h.tape,h.keep⟩,fun s w w' es h=>⟨h.tape,h.output,h.size,by rw[h.os];exact .refl _,h.keep,fun e he=>by
  rcases h.ev e he with⟨b,hb,hl⟩|⟨m,hm⟩
  .exact .inl ⟨b,hb,hl⟩
  .exact .inr (.inr ⟨m,hm⟩),by simp⟩,fun s w w' b=>Iff.rfl⟩
theorem Cw {main:Bool}{Stop:(Nat->Prop)->Goroutine->World->Prop}{own:Nat->Prop}{w0:World}(hown:∀b,own b->b<w0.heap.size)(hF:X.Fd<w0.heap.size)(hW:X.Wg<w0.heap.size)(hro:∀b,ro b->b<w0.heap.size):
  ∀(r:Rk) {s:Nat->Prop} {g:Goroutine} {w:World},(∀b,s b->w0.heap.size<=b/\b<w.heap.size)->RX X ro own w0 w->gv PP main (eS X false ro) Stop r s g w->
   aD PP main (eS X false ro) (fun o g w'=>∃s',o=(fun b=>own b\/s' b)/\Stop s' g w'/\(∀b,s' b->w0.heap.size<=b/\b<w'.heap.size)/\RX X ro own w0 w') (fun b=>own b\/s b) g w:=by
 intro r;have sub:∀{s:Nat->Prop} {w w₁:World},RX X ro (fun b=>own b\/s b) w w₁->RX X ro s w w₁/\RX X ro own w w₁:=fun h=>
  ⟨⟨h.tape,h.output,h.size,h.os,fun b hb ho=>h.keep b hb (ho.imp .inr id),h.live⟩,⟨h.tape,h.output,h.size,h.os,fun b hb ho=>h.keep b hb (ho.imp .inl id),h.live⟩⟩
 induction r with
 |zero=>
  intro s g w hs h0 h;refine .stop fun w₁ hr=>?_
  have hr':RX X ro (fun b=>own b\/s b) w w₁:=hr;exact⟨s,rfl,h w₁ (sub hr').1,fun b hb=>⟨(hs b hb).1,Nat.lt_of_lt_of_le (hs b hb).2 hr'.size⟩,h0.trans X (sub hr').2⟩
 |mk f ih=>
  intro s g w hs h0 h;rcases h with h|⟨hrun,h⟩
  .refine .stop fun w₁ hr=>?_
   have hr':RX X ro (fun b=>own b\/s b) w w₁:=hr;exact⟨s,rfl,h w₁ (sub hr').1,fun b hb=>⟨(hs b hb).1,Nat.lt_of_lt_of_le (hs b hb).2 hr'.size⟩,h0.trans X (sub hr').2⟩
  .refine aD.step hrun fun w₁ hr=>?_
   have hr':RX X ro (fun b=>own b\/s b) w w₁:=hr;obtain⟨g',w',es,h1,h2,h3⟩:=h w₁ (sub hr').1;have h2':DX X false ro s w₁ w' es:=h2;have h01:=h0.trans X (sub hr').2;have old:∀b,b<w0.heap.size->w'.heap[b]? =w₁.heap[b]? :=fun b hb=>h2'.keep b (Nat.lt_of_lt_of_le hb h01.size) fun hsb=>by have:=(hs b hsb).1;omega
   have h02:RX X ro own w0 w':=by
    refine h01.trans X ⟨h2'.tape,h2'.output,h2'.size,h2'.os,fun b hb ho=>old b (ho.elim (hown b) (hro b)),fun⟨s,h1,h2⟩=>⟨s,?_,?_⟩⟩
    .rw[old _ hF];exact h1
    .rw[old _ hW];exact h2
   have hup:(eS X false ro).up (fun b=>own b\/s b) w₁ w'=fun b=>own b\/(eS X false ro).up s w₁ w' b:=funext fun b=>propext or_assoc
   refine⟨g',w',es,h1,⟨h2'.tape,h2'.output,h2'.size,h2'.os,fun b hb ho=>h2'.keep b hb fun x=>ho (.inr x),fun e he=>?_,h2'.mute⟩,?_⟩
   .rcases h2'.ev e he with⟨c,hc,hl⟩|h
    .exact .inl ⟨c,hc.imp .inr id,hl⟩
    .exact .inr h
   .rw[hup]
    refine ih w₁ (fun b hb=>?_) h02 h3;rcases hb with hb|hb
    .exact⟨(hs b hb).1,Nat.lt_of_lt_of_le (Nat.lt_of_lt_of_le (hs b hb).2 hr'.size) h2'.size⟩
    .exact⟨Nat.le_trans h01.size hb.1,hb.2⟩
end
structure fo (d bl n:Nat)(x:DS)(w:World):Prop where
 row:∃f,w.heap[d]? =some (.cells (iq bl n (.slice none 0 0) x) 134 f)
 last:∃f,w.heap[bl]? =some (.cells (byteCells x.aM).toArray 148 f)
 yl:∃c t f,w.heap[0]? =some (.cells c t f)/\∀v∈c,∀r,¬Value.Has r v
 len:x.aM.length=64*n
 lo:16<=n
 hi:n<=400
 none:x.waiting=[]
def um (d bl:Nat)(b:Nat):Prop:=b=0\/b=d\/b=bl
theorem fo.keep {X:Cx iD}{ro own:Nat->Prop}{d bl n:Nat}{x:DS}{w w':World}(h:fo d bl n x w)(hro:∀b,um d bl b->ro b)(hr:RX X ro own w w'):fo d bl n x w':=by
 have k:∀b o,um d bl b->w.heap[b]? =some o->w'.heap[b]? =some o:=fun b o hb ho=>by rw[hr.keep b (Array.getElem?_eq_some_iff.1 ho).1 (.inr (hro b hb))];exact ho
 obtain⟨⟨f1,h1⟩,⟨f2,h2⟩,⟨c,t,f3,h3,h4⟩,a,b,c',e⟩:=h;exact⟨⟨f1,k _ _ (.inr (.inl rfl)) h1⟩,⟨f2,k _ _ (.inr (.inr rfl)) h2⟩,⟨c,t,f3,k _ _ (.inl rfl) h3,h4⟩,a,b,c',e⟩
section
variable (w:World)(d bl:Nat)
open Classical in
def mask:World:={w with heap:=w.heap.mapIdx fun b o=>if um d bl b then(match o with|.cells c t _=> .cells c t (0,c.size)|o=>o) else .cells #[] 1000000 (0,0)}
theorem sL:(mask w d bl).heap.size=w.heap.size:=by simp[mask]
theorem KX {b:Nat}{o:Obj}(hb:¬um d bl b)(h:(mask w d bl).heap[b]? =some o):o= .cells #[] 1000000 (0,0):=by
 simp only[mask,Array.getElem?_mapIdx,if_neg hb] at h;obtain⟨_,_,rfl⟩:=Option.map_eq_some_iff.1 h;rfl
theorem rh {b:Nat}{c:Array Value}{t:TypeId}{f:Nat×Nat}(hb:um d bl b)(h:w.heap[b]? =some (.cells c t f)):(mask w d bl).heap[b]? =some (.cells c t (0,c.size)):=by
 simp only[mask,Array.getElem?_mapIdx,if_pos hb,h,Option.map_some]
end
def Dr (w:World)(d bl:Nat)(b:Nat):Prop:=b<w.heap.size/\¬um d bl b
theorem zx {l:List UInt8}{v:Value}(h:v∈(byteCells l).toArray):∀r,¬Value.Has r v:=by
 simp only[List.mem_toArray,byteCells,List.mem_map] at h;obtain⟨b,_,rfl⟩:=h;intro r hr;cases hr
section
variable {d bl n:Nat}{x:DS}{w:World}
theorem fo.cells (h:fo d bl n x w){b:Nat}(hb:um d bl b):∃c t f,w.heap[b]? =some (.cells c t f)/\∀v∈c,∀r,Value.Has r v->um d bl r:=by
 obtain⟨⟨f1,h1⟩,⟨f2,h2⟩,⟨c,t,f3,h3,h4⟩,_⟩:=h;rcases hb with rfl|rfl|rfl
 .exact⟨c,t,f3,h3,fun v hv r hr=>absurd hr (h4 v hv r)⟩
 .refine⟨_,_,f1,h1,fun v hv r hr=>?_⟩
  simp only[iq,List.mem_toArray,List.mem_cons,List.not_mem_nil,or_false] at hv;rcases hv with rfl|rfl|rfl|rfl|rfl|rfl|rfl<;>cases hr
  rename_i e;exact .inr (.inr e.symm)
 .exact⟨_,_,f2,h2,fun v hv r hr=>absurd hr (zx hv r)⟩
theorem fo.size (h:fo d bl n x w){b:Nat}(hb:um d bl b):b<w.heap.size:=by
 obtain⟨c,t,f,h1,_⟩:=h.cells hb;exact(Array.getElem?_eq_some_iff.1 h1).1
theorem Ih (h:fo d bl n x w){ro:Nat->Prop}(hro:∀b,um d bl b->ro b):Link (Dr w d bl) (um d bl) (fun _=>False) ro id (mask w d bl) w:=by
 have hz:∀b,um d bl b->¬Dr w d bl b:=fun b hb hh=>hh.2 hb
 have sz:=sL w d bl;have cas:∀b,b<w.heap.size->Dr w d bl b\/um d bl b:=fun b hb=>by
  by_cases hr:um d bl b
  .exact .inr hr
  .exact .inl ⟨hb,hr⟩
 have lw:Go.Proofs.YtchcmhodnkgojaaGreat.LW (Dr w d bl) (um d bl) (mask w d bl):=by
  refine⟨fun b o hb h1 h2=>?_,fun b o hb hh=>KX w d bl hh.2 hb,fun b o hb hZ=>?_,fun b hb=>?_,hz,⟨?_,hz 0 (.inl rfl)⟩,fun b o hb hH r hr=>?_⟩
  .exact absurd (cas b (sz▸(Array.getElem?_eq_some_iff.1 hb).1)) (by simp[h1,h2])
  .obtain⟨c,t,f,h1,_⟩:=h.cells hZ
   rw[rh w d bl hZ h1] at hb;exact⟨c,t,(Option.some.inj hb).symm⟩
  .rw[sz];exact hb.elim (·.1) h.size
  .rw[sz];exact h.size (.inl rfl)
  .have hZ:um d bl b:=(cas b (sz▸(Array.getElem?_eq_some_iff.1 hb).1)).resolve_left hH
   obtain⟨c,t,f,h1,h2⟩:=h.cells hZ;rw[rh w d bl hZ h1] at hb;obtain rfl:=Option.some.inj hb;cases hr with
   |cells hv hr=>
    have:=h2 _ hv _ hr;exact⟨by rw[sz];exact h.size this,hz _ this⟩
 refine⟨fun i j e=>e,rfl,fun b hb=>by rw[<-sz];exact hb,lw,⟨fun i j e=>e,rfl,rfl,fun b hb _=>by rw[<-sz];exact hb,fun b o hb h1 h2=>?_,lw.hid,fun b o hb hZ=>?_,lw.low,fun b o hb i hi=>?_⟩,fun b hb hZ=>?_,hro⟩
 .exact absurd (cas b (sz▸(Array.getElem?_eq_some_iff.1 hb).1)) (by simp[h1,h2])
 .obtain⟨c,t,f,h1,_⟩:=h.cells hZ
  have hb':(mask w d bl).heap[b]? =some o:=hb;rw[rh w d bl hZ h1] at hb';refine⟨c,t,f,(Option.some.inj hb').symm,?_⟩;rw[ci (f:=Value.ren id) fun v _=>eQ v fun r _=>rfl];exact h1
 .exfalso
  by_cases hH:Dr w d bl b
  .rw[lw.hid b o hb hH] at hi;exact hi
  .obtain⟨c,t,rfl⟩:=lw.np b o hb ((cas b (sz▸(Array.getElem?_eq_some_iff.1 hb).1)).resolve_left hH)
   exact hi
 .exact absurd (cas b (sz▸hb.1)) (by simp[hb.2,hZ])
theorem Pd (h:fo d bl n x w):fp (mask w d bl) d bl n (.slice none 0 0) x:=by
 obtain⟨⟨f1,h1⟩,⟨f2,h2⟩,_,a,b,c,e⟩:=h;exact⟨⟨_,rh w d bl (.inr (.inl rfl)) h1⟩,⟨_,rh w d bl (.inr (.inr rfl)) h2⟩,a,b,c,rfl,e,⟨none,0,by rw[e];rfl⟩⟩
theorem _root_.Go.Proofs.YtchcmhodnkgojaaGreat.fp.ay {w:World}{d bl n:Nat}{vw:Value}{x:DS}(h:fp w d bl n vw x)(t:dU)(k:Nat):fp (ay w t k) d bl n vw x:=⟨h.row,h.last,h.len,h.lo,h.hi,h.nil,h.none,h.vw⟩
end
def Mt (set:Int)(x:DS)(n n0:Nat)(e:Exit)(a:Act)(w':World):Prop:=
 (e= .normal\/e= .ret)/\∃m es c,a.tmps.getD 4 undef= .map (some m)/\n0<=m/\w'.heap[m]? =some (.map es c)/\dh es c (tX (pP set (bh x n)))/\es.size<=54
theorem Mr (set:Int)(x:DS)(n n0:Nat):QOk none (Mt set x n n0):=⟨fun e a w t d=>Iff.rfl,fun e a w h=>h.1.elim .inl fun h=> .inr (.inl h)⟩
theorem Qv:wl PP S1 (fun _=>false) false (qo 166)=true:=by kernel_rfl
theorem xm:Tryz.f166.results=#[.tmp 4]:=by kernel_rfl
theorem IW {set:Int}{x:DS}{n:Nat}{w:World}{e:Exit}{a:Act}{w':World}(h:bodyPost PP Tryz.f166 (xn set x n w) e a w'):Mt set x n w.heap.size e a w':=by
 have go:∀{v},(results Tryz.f166 a.tmps).run PP w'= .ok v w'->xn set x n w (.returned v) w'->∃m es c,a.tmps.getD 4 undef= .map (some m)/\w.heap.size<=m/\w'.heap[m]? =some (.map es c)/\dh es c (tX (pP set (bh x n)))/\es.size<=54:=by
  rintro v hr ⟨m,es,c,h1,h2,h3,h4,h5,_⟩;rw[results_tmp xm] at hr;cases hr;exact⟨m,es,c,Ending.returned.inj h1,h2,h3,h4,h5⟩
 cases e with
 |normal=>obtain⟨_,v,hr,hR⟩:=h;exact⟨.inl rfl,go hr hR⟩
 |ret=>obtain⟨_,v,hr,hR⟩:=h;exact⟨.inr rfl,go hr hR⟩
 |panic ch=>obtain⟨_,m,es,c,h1,_⟩:=h;cases h1
 |outgrown=>obtain⟨m,es,c,h1,_⟩:=h;cases h1
 |_=>exact h.elim
theorem PD {es:Array MapEntry}{c:Nat}{g:ByteArray->Option ByteArray}(h:dh es c (tX g))(π:Nat->Nat):es.map (lD π)=es:=by
 have:∀e∈es,lD π e=e:=fun e he=>by
  obtain⟨s,hs⟩:=iy (h.keys e (by simpa using he));have hv:=(h.has s e.val).2 ⟨e,by simpa using he,hs,rfl⟩;unfold tX at hv;obtain⟨b,_,hb⟩:=Option.map_eq_some_iff.1 hv;obtain⟨k,v,bo⟩:=e;simp only at hs hb;subst hs;subst hb;simp[lD,aI.hv]
 conv=>rhs;rw[<-Array.map_id es]
 exact Array.map_congr_left fun e he=>this e he
theorem ph {X:Cx iD}{d bl n:Nat}{x:DS}{ro:Nat->Prop}(hro:∀b,um d bl b->ro b)(r:bm)(set:Int):Cont X r ro (fo d bl n x) (.pointer (some ⟨d,0,none⟩)) set (pP set (bh x n)) 54:=by
 intro γ k T w fr cs hT hN afW hw hk;subst afW;obtain⟨s0,hs0⟩:=hN.live;have hfz:=Pd hw;have hbody:Tryz.f166.body=some (qo 166):=by kernel_rfl
 let act:Act:={tmps:=#[.pointer (some ⟨d,0,none⟩),.int .i64 set]++Array.replicate 28 undef,defers:=[]}
 have hwp:∀t k,WpT PP [.code (qo 166)] (Mt set x n w.heap.size) act (ay (mask w d bl) t k):=fun t k=>by
  obtain⟨cd,h1,h2⟩:=yv (UF (hfz.ay t k)) set (ay (mask w d bl) t k) (hfz.ay t k);rw[hbody] at h1;obtain rfl:=Option.some.inj h1;intro b kk css;obtain⟨e,a',w',q,hr⟩:=h2 b kk css;have q':=IW q;have e0:(ay (mask w d bl) t k).heap.size=w.heap.size:=sL w d bl;rw[e0] at q';exact⟨e,a',w',q',hr⟩
 have Es:∀v∈act.tmps,VV (fY (Dr w d bl) (mask w d bl)) v:=fun v hv=>by
  rcases Array.mem_append.1 hv with hv|hv
  .simp only[List.mem_toArray,List.mem_cons,List.not_mem_nil,or_false] at hv
   rcases hv with rfl|rfl
   .intro r hr
    cases hr with
    |ptr e=>subst e;exact⟨by rw[sL];exact hw.size (.inr (.inl rfl)),fun hh=>hh.2 (.inr (.inl rfl))⟩
   .intro r hr;cases hr
  .rw[(Array.mem_replicate.1 hv).2];exact gz
 have key:=K3 Zr (H:=Dr w d bl) (Z:=um d bl) (by simp) (f0:=166) ⟨_,Tryz.func166⟩ (Wc (X:=X) (ro:=γ.ro)) (Mr set x n w.heap.size) (B:=base 166) (D0:=[]) (CS:=fr::cs) (kT:=[]) rfl (by simp[base]) (by simp)
  (t0:=[.code (qo 166)]) (fun it hit=>by
   simp at hit;subst hit;exact Qv) (a:=act) (s:=fun _=>False) (Ih hw hro) Es rfl hwp (main:=false)
 obtain⟨rk,key⟩:=key;have hfresh:=Cw (X:=X) (own:=γ.own) (ro:=γ.ro) (w0:=w) (fun b hb=>hN.low b (.inl hb)) (lt_of_some hs0.1) (lt_of_some hs0.2) (fun b hb=>hN.low b (.inr hb)) rk (s:=fun _=>False) (by simp) (RX.refl X _ _ w) key;have e1:(fun b=>γ.own b\/False)=γ.own:=funext fun b=>by simp
 rw[e1] at hfresh;have e2:G ((base 166).at (bg id act []) ([.code (qo 166)]++[])) (fr::cs)=gC0 (.pointer (some ⟨d,0,none⟩)) set fr cs:=by
  unfold bg;rw[ci (f:=Value.ren id) fun v _=>eQ v fun r _=>rfl];rfl
 rw[e2] at hfresh;show aD PP false (eS X (eH T.pc) γ.ro) _ γ.own _ w;rw[hT];refine hfresh.bind ?_;rintro o g w' ⟨s',rfl,⟨e,a,bG,π,⟨abD,m,es,c,hm,hn0,hrow,his,hsz⟩,hl,hd,hvv,hg,hag,hsize⟩,hs',hrx⟩;have hmv:fY (Dr w d bl) bG m:=⟨(Array.getElem?_eq_some_iff.1 hrow).1,fun hh=>by have:=hh.1;omega⟩
 have hmz:¬um d bl m:=fun hz=>by have:=hw.size hz;omega
 have hown:s' (π m):=hl.own m hmv hmz;have hrow':w'.heap[π m]? =some (.map es c):=by
  have:=(hl.wr.ok m _ hrow hmv.2 hmz).2;simp only[dz,PD his] at this;exact this
 have cont:=hk w' (π m) es c (fun b=>γ.own b\/s' b) (fun b hb=> .inl hb) (fun b hb=>hb.imp id fun h=>(hs' b h).1) (fun b hb=>hb.elim (fun h=>Nat.lt_of_lt_of_le (hN.low b (.inl h)) hrx.size) fun h=>(hs' b h).2) hrx (.inr hown)
  (fun hb=>by have:=(hs' _ hown).1;have:=hN.low _ (.inl hb);omega) hrow' his hsz
 have cont':aD PP false (eS X false γ.ro) (dL (GD X PP k r) T γ) (fun b=>γ.own b\/s' b) (G (fr.finish (.map (some (π m)))) cs) w':=by
  have c2:aD PP false (eS X (eH T.pc) γ.ro) (dL (GD X PP k r) T γ) (fun b=>γ.own b\/s' b) (G (fr.finish (.map (some (π m)))) cs) w':=cont;rw[hT] at c2;exact c2
 have ret:∀todo,aD PP false (eS X false γ.ro) (dL (GD X PP k r) T γ) (fun b=>γ.own b\/s' b) (G {(base 166).at (bg π a []) todo with mode:= .returning} (fr::cs)) w':=fun todo=>by
  refine aD.silent rfl (fun w₁=>?_) (fun w₁ _=>(jA (X:=X) false γ.ro _ w₁).1) (fun w₁=>(jA (X:=X) false γ.ro _ w₁).2) cont';have hres:(results Tryz.f166 (bg π a []).tmps).run PP w₁= .ok (.map (some (π m))) w₁:=by
   rw[results_tmp xm];show Result.ok ((a.tmps.map (Value.ren π)).getD 4 undef) w₁=_;rw[jB,hm];simp
  have hev:(results Tryz.f166 (bg π a []).tmps).events PP w₁ #[]=#[]:=by
   have e:results Tryz.f166 (bg π a []).tmps=pure ((bg π a []).tmps.getD 4 undef):=by simp[results,xm]
   rw[e];rfl
  exact stepG_leave (b:=base 166) (a:=bg π a []) (todo:=todo) rfl rfl Tryz.func166 hres hev
 rcases abD with rfl|rfl
 .obtain rfl:g=_:=hg
  exact aD.silent rfl (fun w₁=>stepG_end) (fun w₁ _=>(jA (X:=X) false γ.ro _ w₁).1) (fun w₁=>(jA (X:=X) false γ.ro _ w₁).2) (ret _)
 .obtain⟨todo,rfl⟩:=hg
  exact ret todo
end aI
end
section
open Go.Conc Go.RowKit Go.Lib
open Go.ConcM (OsLater)
open Go.ConcN (sumTo)
namespace aI
section
variable {own:Nat->Prop}{w:World}{g g':Goroutine}{v:kJ}{Stop:(Nat->Prop)->Goroutine->World->Prop}
theorem pH (own:Nat->Prop)(w:World):j4 own (fun _=>False) w w #[]:=⟨Nat.le_refl _,fun _ _ _=>rfl,rfl,rfl,rfl,by simp⟩
theorem idle0:Idle kK:=fun s w=>⟨pH s w,funext fun b=>propext ⟨fun h=>h.elim id fun h=>by omega,.inl⟩⟩
theorem ed (h:av PP true g g')(k:aD PP true kK Stop own g' w):aD PP true kK Stop own g w:=jL idle0 h k
theorem KS {o:Obj}{f:Nat->Value}(h:aQ g=some v)(hr:∀w,RT v.sem w (.value (f w.heap.size)) {w with heap:=w.heap.push o} #[])
  (k:∀w',w'.heap=w.heap.push o->w'.os=w.os->w'.tape=w.tape->aD PP true kK Stop (fun b=>own b\/b=w.heap.size) (resume g (f w.heap.size)) w'):aD PP true kK Stop own g w:=by
 refine aD.step (cV h).1 fun w₁ h1=>?_
 obtain⟨d,rfl⟩:=h1;obtain⟨es,e1,e2⟩:=eV (main:=true) h (hr (w.at d));have hup:kK.up own (w.at d) {w.at d with heap:=(w.at d).heap.push o}=fun b=>own b\/b=w.heap.size:=by
  funext b
  refine propext (or_congr Iff.rfl ?_);show(w.heap.size<=b/\b<(w.heap.push o).size)↔_;simp;omega
 refine⟨_,_,es,e1,⟨by show w.heap.size<=(w.heap.push o).size;simp,fun b hb _=>?_,rfl,rfl,rfl,fun e he=>by have:=e2 e he;simp at this⟩,?_⟩
 .have hb':b<w.heap.size:=hb
  show(w.heap.push o)[b]? =w.heap[b]?;rw[Array.getElem?_push_lt hb'];exact(Array.getElem?_eq_getElem hb').symm
 .rw[hup]
  exact k _ rfl rfl rfl
theorem aeR {x:Value}(h:aQ g=some v)(hr:∀w,RT v.sem w (.value x) w #[])(k:aD PP true kK Stop own (resume g x) w):aD PP true kK Stop own g w:=by
 refine aD.step (cV h).1 fun w₁ h1=>?_
 obtain⟨es,e1,e2⟩:=eV (main:=true) h (hr w₁);have e0:es=#[]:=by
  apply Array.eq_empty_of_size_eq_zero
  refine Nat.eq_zero_of_not_pos fun hp=>?_
  have:=e2 es[0] (Array.getElem_mem hp);simp at this
 subst e0;refine⟨_,_,_,e1,pH _ _,?_⟩;rw[(idle0 own w₁).2];exact k.rely h1
theorem aeT {b:Nat}{o:Obj}(hb:own b)(h:aQ g=some v)
  (hr:∀d,∃w' ev,RT v.sem (w.at d) .skip w' ev/\yD b o (w.at d) w'/\∀e∈ev,EvB b e)
  (k:∀w',w'.heap.size=w.heap.size->w'.heap[b]? =some o->(∀c,c≠b->w'.heap[c]? =w.heap[c]?)->w'.os=w.os->w'.tape=w.tape->aD PP true kK Stop own (resume g undef) w'):aD PP true kK Stop own g w:=by
 refine aD.step (cV h).1 fun w₁ h1=>?_
 obtain⟨d,rfl⟩:=h1;obtain⟨w',ev,r,u,a5⟩:=hr d;obtain⟨es,e1,e2⟩:=Bm (main:=true) h r;have hup:kK.up own (w.at d) w'=own:=funext fun c=>propext ⟨fun x=>x.elim id fun x=>by have:=u.size;omega,.inl⟩
 refine⟨_,w',es,e1,⟨by rw[u.size];exact Nat.le_refl _,fun c _ hc=>u.rest c fun e=>hc (e▸hb),u.os,u.output,u.tape,fun e he=> .inl ⟨b,.inl hb,(a5 e (e2 e he)).2⟩⟩,?_⟩;rw[hup];exact k w' u.size u.at_ u.rest u.os u.tape
end
theorem Sv:(PP.info? Jt).bind (·.zero)=some (.agg #[.int .i32 0,.int .u32 0,.map none]):=by kernel_rfl
theorem Su:(PP.info? TWg).bind (·.zero)=some (.agg #[.int .u64 0,.int .u32 0]):=by kernel_rfl
theorem V6:(PP.info? Jt).map (·.size)=some 3:=by kernel_rfl
theorem ZQ (M:Nat)(w:World):RT (kJ.build Jt #[(1,.map (some M))]).sem w (.value (fd0 M)) w #[]:=fun es=>by
 have:(kJ.build Jt #[(1,.map (some M))]).sem.runT PP w es=(.ok (.value (fd0 M)) w,es):=by kernel_rfl
 rw[this,Array.append_empty]
structure Laid (d:Nat)(w w':World):Prop where
 size:w'.heap.size=w.heap.size+4
 box:w'.heap[w.heap.size]? =some (.cells #[pb d] 94 (0,0))
 map:w'.heap[w.heap.size+1]? =some (.map #[] 0)
 fd:w'.heap[w.heap.size+2]? =some (.cells #[.int .i32 0,.int .u32 0,.map (some (w.heap.size+1))] Jt (0,0))
 wg:w'.heap[w.heap.size+3]? =some (.cells #[.int .u64 0,.int .u32 0] TWg (0,0))
 old:∀b,b<w.heap.size->w'.heap[b]? =w.heap[b]?
 os:w'.os=w.os
 tape:w'.tape=w.tape
theorem Iq {own:Nat->Prop}{d:Nat}{w:World}{fr:Frame}{cs:List Frame}:
  aD PP true kK (fun s g w'=>s=(fun b=>own b\/(w.heap.size<=b/\b<w.heap.size+4))/\g=resume (Yb (w.heap.size+2) w.heap.size (w.heap.size+1) (pb d) fr cs) (pb (w.heap.size+3))/\Laid d w w') own (Zx (pb d) fr cs) w:=by
 refine ed (Th _ _ _) (KS (f:=pb) (Tf _ _ _) (fun w=>vO _ _) fun w1 h1 o1 t1=>?_);refine ed (Te _ _ _ _) (KS (f:=fun b=> .map (some b)) (Td _ _ _ _) (fun w=>DU _) fun w2 h2 o2 t2=>?_);have s1:w1.heap.size=w.heap.size+1:=by rw[h1];simp
 have s2:w2.heap.size=w.heap.size+2:=by rw[h2];simp[s1]
 rw[s1];refine ed (Tc _ _ _ _ _) (aeR (Tb _ _ _ _ _) (fun w=>ZQ _ w) ?_);refine ed (Ta _ _ _ _ _) (KS (f:=pb) (S9 _ _ _ _ _) (fun w=>lR Sv) fun w3 h3 o3 t3=>?_);have s3:w3.heap.size=w.heap.size+3:=by rw[h3];simp[s2]
 rw[s2];refine ed (S8 _ _ _ _ _ _) (aeT (b:=w.heap.size+2) (o:= .cells #[.int .i32 0,.int .u32 0,.map (some (w.heap.size+1))] Jt (0,0)) (.inr rfl) (S7 _ _ _ _ _ _) (fun d=>?_) fun w4 s4 r4 k4 o4 t4=>?_)
 .have h3':(w3.at d).heap[w.heap.size+2]? =some (.cells #[.int .i32 0,.int .u32 0,.map none] Jt (0,0)):=by
   show w3.heap[w.heap.size+2]? =_;rw[h3,<-s2];simp[Value.cells]
  obtain⟨w',ev,r1,r2,r3⟩:=fC (t:=Jt) (off:=0) (v:=fd0 (w.heap.size+1)) h3' V6 (by simp[fd0,Value.cells]) (by simp[fd0,Value.cells,kM]);exact⟨w',ev,r1,r2,r3⟩
 refine ed (S6 _ _ _ _ _ _) (KS (f:=pb) (S5 _ _ _ _ _ _) (fun w=>lR Su) fun w5 h5 o5 t5=>?_);rw[s4,s3];refine .stop fun w₁ ⟨d,e⟩=>?_
 subst e;have U5:∀b,b<w2.heap.size->w5.heap[b]? =w2.heap[b]? :=fun b hb=>by
  rw[h5,Array.getElem?_push_lt (by omega),<-Array.getElem?_eq_getElem,k4 b (by omega),h3,Array.getElem?_push_lt hb,<-Array.getElem?_eq_getElem]
 refine⟨funext fun b=>propext (by constructor<;>intro h<;>(by_cases ho:own b<;>simp[ho] at h⊢<;>omega)),rfl,⟨by show w5.heap.size=_;rw[h5];simp[s4,s3],?_,?_,?_,?_,fun b hb=>?_,by show w5.os=_;rw[o5,o4,o3,o2,o1],by show w5.tape=_;rw[t5,t4,t3,t2,t1]⟩⟩
 .show w5.heap[w.heap.size]? =_
  rw[U5 _ (by omega),h2,Array.getElem?_push_lt (by omega),<-Array.getElem?_eq_getElem,h1];simp[pb,Value.cells]
 .show w5.heap[w.heap.size+1]? =_
  rw[U5 _ (by omega),h2,<-s1];simp
 .show w5.heap[w.heap.size+2]? =_
  rw[h5,Array.getElem?_push_lt (by omega),<-Array.getElem?_eq_getElem];exact r4
 .show w5.heap[w.heap.size+3]? =_
  rw[h5,show w.heap.size+3=w4.heap.size by omega];simp[Value.cells]
 .show w5.heap[b]? =_
  rw[U5 _ (by omega),h2,Array.getElem?_push_lt (by omega),<-Array.getElem?_eq_getElem,h1,Array.getElem?_push_lt hb,<-Array.getElem?_eq_getElem]
abbrev no:Nat->Prop:=fun _=>False
section
variable {Δ:Type}{X:Cx Δ}{P:Program}{Post:Gh Δ->Goroutine->World->Prop}{Shun:Loc->Prop}{own:Nat->Prop}{M:Machine}{t:Trace}{g:Goroutine}{w:World}{γ:Gh Δ}
def Sn (X:Cx Δ):bm->Lo
 |.m=>at_ .k1 0
 |r=>at_ .un (X.N r)
def NB (X:Cx Δ)(γ:Gh Δ):bm->Gh Δ
 |.m=>{γ with mine:=X.c0 .m}
 |r=>⟨no,no,X.c0 r,X.c0 r⟩
def Fi (Shun:Loc->Prop)(b:Nat):Prop:=∃l,Shun l/\ls b l
theorem MQ {r:bm}:born (Sn X) r↔r= .m:=by cases r<;>simp[born,Sn]
theorem afz (hA:Apart Shun own w)(hn:X.Fd≠X.Wg)(hfm:X.Fd≠X.M)(hmw:X.M≠X.Wg)(hoF:own X.Fd)(hoW:own X.Wg)(wP:own X.M)
  (hin:∀b,γ.own b\/γ.ro b->own b/\b≠X.Fd/\b≠X.Wg/\b≠X.M) (hd:∀b,γ.own b->¬γ.ro b):Lay X (Fi Shun) (NB X γ) (Sn X) w.heap.size:=by
 have nS:∀b,own b->¬Fi Shun b:=fun b hb ⟨l,h1,h2⟩=>hA.off b hb l h2 h1
 have gm:∀r c,(NB X γ r).own c\/(NB X γ r).ro c->r= .m/\(γ.own c\/γ.ro c):=fun r c h=>by
  cases r with
  |m=>exact⟨rfl,h⟩
  |a=>exact h.elim False.elim False.elim
  |b=>exact h.elim False.elim False.elim
 refine⟨fun r c h=>?_,fun r h=>?_,fun r=>⟨fun h=>?_,fun h=>?_⟩,fun r r' c h h'=>?_,fun r r' c h h'=>?_,fun r c h=>?_,hfm,hn,hmw,fun c hc=>?_,hA.lt _ hoF,hA.lt _ wP,hA.lt _ hoW⟩
 .obtain⟨rfl,h⟩:=gm r c h
  obtain⟨h1,h2,h3,h4⟩:=hin c h;exact⟨h2,h3,nS c h1,hA.lt c h1⟩
 .exact(hin _ (gm r _ (.inr h)).2).2.2.2 rfl
 .exact absurd rfl (hin _ (gm r _ (.inl h)).2).2.2.2
 .cases r<;>cases h
 .rw[(gm r c (.inl h)).1,(gm r' c (.inl h')).1]
 .obtain⟨rfl,_⟩:=gm r c (.inl h)
  obtain⟨rfl,_⟩:=gm r' c (.inr h');exact hd c h h'
 .exact MQ.2 (gm r c h).1
 .have hlt:c<w.heap.size:=by obtain⟨l,h1,h2⟩:=hc;exact hA.low l c h1 h2
  exact⟨hlt,fun e=>nS _ hoF (e▸hc),fun e=>nS _ wP (e▸hc),fun e=>nS _ hoW (e▸hc)⟩
theorem It (hz:Zero P Shun M t g w)(hA:Apart Shun own w)(hn:X.Fd≠X.Wg)(hfm:X.Fd≠X.M)(hmw:X.M≠X.Wg)(hoF:own X.Fd)(hoW:own X.Wg)(wP:own X.M)
  (hin:∀b,γ.own b\/γ.ro b->own b/\b≠X.Fd/\b≠X.Wg/\b≠X.M) (hd:∀b,γ.own b->¬γ.ro b) (hsh:ShAt X w ⟨0,0,0,0⟩) {o:Obj} (hM:w.heap[X.M]? =some o) (hD:X.Dat (X.c0 .a) (X.c0 .b) o)
  (O5:NoRelease (mA X) t) (nrW:NoRelease (wA X) t) (hm:γ.mine=X.c0 .m)
  (hL:∀k,aD P true (eS X (eH .k1) γ.ro) (dL (yG X P Post k) (at_ .k1 0) γ) γ.own g w):
  ∃n0 μ,AU X P Post (Fi Shun) n0 μ M t:=by
 obtain⟨gs,sl,q,rfl,hg,hV,hI⟩:=hz.ex;have hP:=hz.past;obtain⟨ρ,hρ⟩:=hL (nn (Sn X) 0 15+1);have eγ:NB X γ .m=γ:=by show({γ with mine:=X.c0 .m}:Gh Δ)=γ;rw[<-hm]
 have ID:0<gs.size:=(Array.getElem?_eq_some_iff.1 hg).1;have bl:=fun r (h:born (Sn X) r)=>MQ.1 h
 let C:Cf Δ:=⟨gs.size,Sn X,NB X γ,fun _=>nn (Sn X) 0 15+1,fun _=>ρ,fun _=>1,fun _=>0,q,⟨0,0,0,0⟩,0,15⟩
 have ky:∀{a:Addr},ls a.block (.cell a):=fun {a}=> .inl ⟨a,rfl,rfl⟩
 have toSh:∀l,Shun l->xQ X (Fi Shun) l:=fun l hl=>by
  obtain⟨a,rfl⟩:=hA.cell l hl;exact⟨a,rfl,.inl ⟨_,hl,ky⟩⟩
 have kn:∀b,own b->∀i x,touchAt t i=some x->ls b x.loc->Knows t 0 i:=fun b hb i x hx hl=>(hP.known i x hx hl.mem).elim id fun h=>absurd h.1 (hA.off b hb _ hl)
 have abV:∀r c,(NB X γ r).own c\/(NB X γ r).ro c->r= .m/\(γ.own c\/γ.ro c):=fun r c h=>by
  cases r with
  |m=>exact⟨rfl,h⟩
  |a=>exact h.elim False.elim False.elim
  |b=>exact h.elim False.elim False.elim
 refine⟨gs.size,C.ms gs.size,C,gs,w,sl,rfl,rfl,⟨ID,rfl,⟨Iv,by show(0:Nat)<27;omega,Iw,rfl,rfl,rfl⟩,fun r h=>Nat.lt_succ_self _,hsh,fun r h=>?_,fun r h=>?_,fun i g' h0 h1 hgi=>hV.old i g' h0 hgi,hV.above,fun r h=>?_,fun h1 h2=>⟨o,hM,hD⟩,fun r h=>?_,fun r h=>?_,fun r h=>?_,afz hA hn hfm hmw hoF hoW wP hin hd,?_⟩,rfl⟩
 .obtain rfl:=bl r h
  refine⟨g,hg,.inl ⟨by simp[C,Sn],rfl,rfl,?_⟩⟩;show gv P true (eS X (eH .k1) (NB X γ .m).ro) (dL (AtR X P Post _ .m) (at_ .k1 0) (NB X γ .m)) ρ (NB X γ .m).own g w;rw[eγ];exact hρ
 .cases r with
  |m=>exact absurd (MQ.2 rfl) h
  |a=>exact⟨rfl,rfl⟩
  |b=>exact⟨rfl,rfl⟩
 .obtain rfl:=bl r h
  exact hP.hears
 .cases r<;>cases h
 .cases r<;>cases h
 .cases r<;>cases h
 .refine⟨hP.clean,fun i x hx hs=>?_,fun r c ho i x hx hb=>?_,fun r i x hx hr hw=>?_,fun _ i x hx hb=> .inl fun r hr=>?_,fun i x hx hm=>?_,fun i x hx hm r hr h _=>absurd (bl r h) hr,fun i g' hg' h0 hc=> .inr (hP.over i g' hg' h0 hc),fun i g' hg' hge=>?_,O5,nrW,hP.seen⟩
  .rcases hP.known i x hx (Fx hs) with h|h
   .exact .inr (.inr fun r hr=>by obtain rfl:=bl r hr;exact h)
   .exact .inl h.2
  .obtain⟨rfl,h⟩:=abV r c (.inl ho)
   exact kn c (hin c h).1 i x hx hb
  .obtain⟨hb,h|⟨sp,h⟩⟩:=hr
   .obtain rfl:=bl r hb
    obtain⟨c,hc,hl⟩:=h;exact kn c (hin c (abV .m c (.inr hc)).2).1 i x hx hl
   .obtain rfl:=bl r hb
    exact kn X.Fd hoF i x hx (by rw[h];exact ky)
  .obtain rfl:=bl r hr
   exact kn X.M wP i x hx hb
  .rcases hP.known i x hx hm with h|h
   .exact .inr (.inl h)
   .exact .inr (.inr ⟨toSh _ h.1,h.2⟩)
  .obtain⟨op,ho,e⟩:=Option.map_eq_some_iff.1 hg'
   have:=hI op (mem_of_getElem? ho);have e':gs.size<=g':=hge;omega
end
theorem Joined.zero {Δ:Type}{X:Cx Δ}{P:Program}{Post:Gh Δ->Goroutine->World->Prop}{S0:Nat->Prop}{n0:Nat}{gs:Array Goroutine}{w:World}{t:Trace}{sl:Option (Nat×Nat)}(h:Joined X P Post S0 n0 gs w t):
  ∃g γ,Zero P (xQ X S0) (crowd gs w sl) t g w/\Post γ g w:=by
 obtain⟨g,γ,h0,hp⟩:=h.post;obtain⟨q,hq⟩:=h.afy;exact⟨g,γ,⟨⟨gs,sl,q,rfl,h0,hq,fun op ho=>by rw[h.size];exact h.ids op ho⟩,h.past⟩,hp⟩
abbrev Nd:TypeId:=153
section
variable (W F bd bs bs' M:Nat)(dv:Value)(fr:Frame)(cs:List Frame)
def sX1:Goroutine:=OT (cB (fT3 W F bd bs bs' M dv fr cs) (fr::cs) U)
theorem SX:av PP true (cB (fT3 W F bd bs bs' M dv fr cs) (fr::cs) U) (sX1 W F bd bs bs' M dv fr cs):=bu fun ws=>by kernel_rfl
theorem SW:aQ (sX1 W F bd bs bs' M dv fr cs)=some (.load Nd (.pointer (some ⟨F,2,none⟩))):=by kernel_rfl
theorem Od (M':Nat):av PP true (resume (sX1 W F bd bs bs' M dv fr cs) (.map (some M'))) (cB fr cs (.map (some M'))):=bK 4 (bN PP true 4 (resume (sX1 W F bd bs bs' M dv fr cs) (.map (some M')))) fun ws=>by kernel_rfl
end
section
variable {Shun:Loc->Prop}{Stop:Unit->Goroutine->World->Prop}{g g':Goroutine}{w:World}
theorem EE (h:av PP true g g')(k:aD PP true (NC Shun) Stop () g' w):aD PP true (NC Shun) Stop () g w:=jL (abb Shun) h k
theorem aaW {t:TypeId}{a:Addr}{v:Value}(h:aQ g=some (.load t (.pointer (some a))))(ha:(PP.underlying t).map (fun d=>match d with|.struct _|.array _ _=>true|_=>false)=some false)(hS:¬Shun (.cell a))(hc:w.cell? a=some v)
  (k:aD PP true (NC Shun) Stop () (resume g v) w):aD PP true (NC Shun) Stop () g w:=by
 have hlt:a.block<w.heap.size:=by
  unfold World.cell? at hc;cases hh:w.heap[a.block]? with
  |none=>rw[hh] at hc;simp at hc
  |some o=>exact lt_of_some hh
 refine aD.step (cV h).1 fun w₁ h1=>?_
 obtain⟨d,rfl⟩:=h1;have hr:RT (kJ.load t (.pointer (some a))).sem (w.at d) (.value v) (w.at d) #[⟨.cell a,false,false⟩]:=by
  refine RT.eG (x:=v) ?_ (.pure _);show RT (do if<-isAgg t then Pure.pure (.agg (<-loadCells a (<-Go.sizeOf t))) else load a) _ _ _ _;refine(gC (h:=ha)).aP ?_;simp only[Bool.false_eq_true,if_false];exact jZ hc
 obtain⟨es,e1,e2⟩:=eV (main:=true) h hr;refine⟨_,_,es,e1,⟨Nat.le_refl _,rfl,fun e he=>?_,fun e he a'=>?_⟩,?_⟩
 .have:=e2 e he
  simp at this;subst this;refine⟨fun x hx hs=>?_,by simp,by simp,hlt⟩;simp[MemAct.ofEvent,MemAct.touch?] at hx;subst hx;exact absurd hs hS
 .have:=e2 e he
  simp at this;subst this;simp
 .exact(k.rely (⟨d,rfl⟩:AtRel w (w.at d)))
theorem IJ {X:Cx iD}{S0:Nat->Prop}{bd:Nat}{dv:Value}{fr:Frame}{cs:List Frame}{pS O0:Nat->Prop}{w0:World}{γ:Gh iD}{s:Sh}(hP:uo X pS O0 w0 bd dv fr cs γ g w)(hF:ShAt X w s)(hn:X.Fd≠X.Wg)(h0:¬S0 X.Fd):
  aD PP true (NC (xQ X S0)) (fun _ g' w'=>g'=cB fr cs (.map (some X.M))/\w'.heap=w.heap/\w'.output=w.output) () g w:=by
 obtain⟨⟨bs,bs',hg⟩,_⟩:=hP;refine EE hg (EE (SX _ _ _ _ _ _ _ _ _) (aaW (SW _ _ _ _ _ _ _ _ _) (by kernel_rfl) (v:= .map (some X.M)) ?_ ?_ (EE (Od _ _ _ _ _ _ _ _ _ _) (.stop fun w₁ h1=>⟨rfl,by obtain⟨d,rfl⟩:=h1;rfl,by obtain⟨d,rfl⟩:=h1;rfl⟩))))
 .rintro⟨a,e,ha⟩
  cases e;rcases ha with ha|ha|ha
  .exact h0 ha
  .exact hn ha
  .exact ha.2 rfl
 .have:=hF.1
  simp[World.cell?,this]
end
theorem wv {H own:Nat->Prop}{π:Nat->Nat}{wL w w':World}{m:Nat}{o0:Obj}(h:Link H no own no π wL w)(hs:w.heap.size<=w'.heap.size)(hk:∀b,own b->w'.heap[b]? =w.heap[b]?)
  (hm:w.heap.size<=m) (hm':m<w'.heap.size) (hrow:w'.heap[m]? =some o0) (hok:mZ o0) (noH:∀r,¬jN r o0) (hin:∀i,¬inner o0 i):
  ∃b6,Link H no (fun b=>own b\/b=m) no b6 {wL with heap:=wL.heap.push o0} w'/\(∀b,b<wL.heap.size->b6 b=π b)/\b6 wL.heap.size=m:=by
 let b6:Nat->Nat:=fun i=>if i<wL.heap.size then π i else if i=wL.heap.size then m else w'.heap.size+i
 have e1:∀b,b<wL.heap.size->b6 b=π b:=fun b hb=>if_pos hb
 have e2:b6 wL.heap.size=m:=by show(if _ then _ else _)=_;rw[if_neg (by omega),if_pos rfl]
 have lo:∀b,H b\/no b->b<wL.heap.size:=h.lw.low;have hz0:0<wL.heap.size:=h.lw.zero.1;have e3:∀i,wL.heap.size<i->b6 i=w'.heap.size+i:=fun i hi=>by show(if _ then _ else _)=_;rw[if_neg (by omega),if_neg (by omega)]
 have hinj:∀i j,b6 i=b6 j->i=j:=fun i j hij=>by
  have hi:=h.lt i;have hj:=h.lt j;rcases Nat.lt_trichotomy i wL.heap.size with a1|rfl|a1<;>rcases Nat.lt_trichotomy j wL.heap.size with a2|a2|a2
  .rw[e1 i a1,e1 j a2] at hij;exact h.inj _ _ hij
  .subst a2;rw[e1 i a1,e2] at hij;have:=hi a1;omega
  .rw[e1 i a1,e3 j a2] at hij;have:=hi a1;omega
  .rw[e2,e1 j a2] at hij;have:=hj a2;omega
  .omega
  .rw[e2,e3 j a2] at hij;omega
  .rw[e3 i a1,e1 j a2] at hij;have:=hj a2;omega
  .subst a2;rw[e3 i a1,e2] at hij;omega
  .rw[e3 i a1,e3 j a2] at hij;omega
 have old:∀b o,(wL.heap.push o0)[b]? =some o->(b<wL.heap.size/\wL.heap[b]? =some o)\/(b=wL.heap.size/\o=o0):=fun b o hb=>by
  rw[Array.getElem?_push] at hb;split at hb
  .exact .inr ⟨by assumption,(Option.some.inj hb).symm⟩
  .exact .inl ⟨(Array.getElem?_eq_some_iff.1 hb).1,hb⟩
 have sz:(wL.heap.push o0).size=wL.heap.size+1:=by simp
 have vis:∀r,fY H wL r->fY H {wL with heap:=wL.heap.push o0} r:=fun r hr=>⟨by show r<(wL.heap.push o0).size;rw[sz];have:=hr.1;omega,hr.2⟩
 have nH:¬H wL.heap.size:=fun hh=>by have:=lo _ (.inl hh);omega
 have rn:∀b o,wL.heap[b]? =some o->¬H b->dz b6 o=dz π o:=fun b o hb hH=>vQ fun r hr=>e1 r (h.lw.Qw b o hb hH r hr).1
 refine⟨b6,⟨hinj,by rw[e1 0 hz0];exact h.zero,fun b hb=>?_,?_,?_,fun b hb _=>?_,fun b hb=>hb.elim⟩,e1,e2⟩
 .have hb:b<(wL.heap.push o0).size:=hb
  rw[sz] at hb;rcases Nat.lt_or_ge b wL.heap.size with hl|hl
  .rw[e1 b hl];have:=h.lt b hl;omega
  .rw[show b=wL.heap.size by omega,e2];exact hm'
 .refine⟨fun b o hb h1 h2=>?_,fun b o hb h1=>?_,fun b o hb h1=>h1.elim,fun b hb=>?_,fun b hb=>hb.elim,vis 0 h.lw.zero,fun b o hb h1 r hr=>?_⟩
  .rcases old b o hb with⟨_,hb⟩|⟨_,rfl⟩
   .exact h.lw.ok b o hb h1 h2
   .exact hok
  .rcases old b o hb with⟨_,hb⟩|⟨rfl,rfl⟩
   .exact h.lw.hid b o hb h1
   .exact absurd h1 nH
  .show b<(wL.heap.push o0).size
   rw[sz];have:=lo b hb;omega
  .rcases old b o hb with⟨_,hb⟩|⟨rfl,rfl⟩
   .exact vis r (h.lw.Qw b o hb h1 r hr)
   .exact absurd hr (noH r)
 .refine⟨hinj,rfl,rfl,fun b hb hH=>?_,fun b o hb h1 h2=>?_,fun b o hb h1=>?_,fun b o hb h1=>h1.elim,fun b hb=>?_,fun b o hb i hi=>?_⟩
  .have hb:b<(wL.heap.push o0).size:=hb
   rw[sz] at hb;rcases Nat.lt_or_ge b wL.heap.size with hl|hl
   .rw[e1 b hl];have:=h.lt b hl;omega
   .rw[show b=wL.heap.size by omega,e2];exact hm'
  .rcases old b o hb with⟨hl,hb⟩|⟨rfl,rfl⟩
   .obtain⟨r1,r2⟩:=h.wr.ok b o hb h1 h2
    refine⟨r1,?_⟩;rw[e1 b hl,rn b o hb h1,hk _ (h.own b ⟨hl,h1⟩ id)];exact r2
   .refine⟨hok,?_⟩
    rw[e2,nW fun r hr=>absurd hr (noH r)];exact hrow
  .rcases old b o hb with⟨_,hb⟩|⟨rfl,rfl⟩
   .exact h.lw.hid b o hb h1
   .exact absurd h1 nH
  .show b<(wL.heap.push o0).size
   rw[sz];have:=lo b hb;omega
  .rcases old b o hb with⟨_,hb⟩|⟨rfl,rfl⟩
   .have:=h.wr.xM b o hb i hi
    exact⟨by show i<(wL.heap.push o0).size;rw[sz];have h3:i<wL.heap.size:=this.1;omega,this.2⟩
   .exact absurd hi (hin i)
 .rcases Nat.lt_or_ge b wL.heap.size with hl|hl
  .rw[e1 b hl];exact .inl (h.own b ⟨hl,hb.2⟩ id)
  .have hb:b<(wL.heap.push o0).size:=hb.1
   rw[sz] at hb;rw[show b=wL.heap.size by omega,e2];exact .inr rfl
theorem Io {H own:Nat->Prop}{π:Nat->Nat}{wL w w':World}{m:Nat}{es:Array MapEntry}{c:Nat}(h:Link H no own no π wL w)(hs:w.heap.size<=w'.heap.size)(hk:∀b,own b->w'.heap[b]? =w.heap[b]?)
  (hm:w.heap.size<=m) (hm':m<w'.heap.size) (hrow:w'.heap[m]? =some (.map es c)) (hfix:∀e∈es,∀r,¬Value.Has r e.key/\¬Value.Has r e.val):
  ∃b6,Link H no (fun b=>own b\/b=m) no b6 {wL with heap:=wL.heap.push (.map es c)} w'/\(∀b,b<wL.heap.size->b6 b=π b)/\b6 wL.heap.size=m:=
 wv h hs hk hm hm' hrow trivial (fun r hr=>by
  cases hr with
  |key he hh=>exact(hfix _ he r).1 hh
  |val he hh=>exact(hfix _ he r).2 hh) fun i hi=>hi
theorem fo.ren {H own:Nat->Prop}{π:Nat->Nat}{wL w:World}{d bl n:Nat}{x:DS}(h:fo d bl n x wL)(hl:Link H no own no π wL w)(hd:fY H wL d):fY H wL bl/\fo (π d) (π bl) n x w:=by
 obtain⟨⟨f1,h1⟩,⟨f2,h2⟩,⟨c,t,f3,h3,h4⟩,a,b,c',e⟩:=h;have hb:fY H wL bl:=hl.lw.Qw d _ h1 hd.2 bl (.cells (v:= .slice (some ⟨bl,0,Option.none⟩) n n) (by simp[iq]) (.slice rfl));refine⟨hb,⟨f1,?_⟩,⟨f2,?_⟩,⟨c,t,f3,?_,h4⟩,a,b,c',e⟩
 .rw[(hl.wr.ok d _ h1 hd.2 id).2]
  simp[dz,iq,bi]
 .rw[(hl.wr.ok bl _ h2 hb.2 id).2]
  simp only[dz];rw[ci fun v hv=>eQ v fun r hr=>absurd hr (zx hv r)]
 .have:=(hl.wr.ok 0 _ h3 hl.lw.zero.2 id).2
  rw[hl.zero] at this;rw[this];simp only[dz];rw[ci fun v hv=>eQ v fun r hr=>absurd hr (h4 v hv r)]
theorem C2 {a b:iD}{es:Array MapEntry}{c:Nat}(h:ES a b (.map es c)):∀e∈es,∀r,¬Value.Has r e.key/\¬Value.Has r e.val:=by
 obtain⟨es',c',f,e0,h1,h2⟩:=h;cases e0;intro e he r;obtain⟨s,hs⟩:=iy (h1.keys e (by simpa using he));have hv:=(h1.has s e.val).2 ⟨e,by simpa using he,hs,rfl⟩;rw[h2] at hv;refine⟨fun hr=>by(rw[hs] at hr;cases hr),fun hr=>?_⟩;unfold comb at hv;split at hv
 .rw[<-Option.some.inj hv] at hr
  cases hr with
  |agg hm hr=>
   simp only[cj,List.mem_toArray,List.mem_cons,List.not_mem_nil,or_false] at hm;rcases hm with rfl|rfl|rfl|rfl|rfl|rfl<;>cases hr
 .cases hv
def ac7 (x:DS)(n:Nat)(wL:World)(v:Value)(w':World):Prop:=∃es c,v= .map (some wL.heap.size)/\(∃t d,w'=ay {wL with heap:=wL.heap.push (.map es c)} t d)/\
 ES (jC (pP 0 (bh x n)) (pP 2 (bh x n))) (jC (pP 1 (bh x n)) (pP 2 (bh x n))) (.map es c)
theorem yp (v:Value)(c:Frame)(CS:List Frame):G (Frame.enter PP 88 #[v] .normal) (c::CS)=Zx v c CS:=by
 unfold Zx LB;rfl
theorem EZ {E:aj.Env}{wL:World}{d bl n:Nat}{x:DS}(hd:fo d bl n x wL):aj.CC E 88 #[.pointer (some ⟨d,0,none⟩)] (ac7 x n wL) wL:=by
 intro c CS π M tr hp ha hk;obtain⟨Shun,UX,w,hz,hl0,Yt,ho,Jr⟩:=hp.ex
 let KK:Nat->Prop:=fun q=>∃o,E.K q=some o
 have kk:∀q,KK q->q<w.heap.size/\∀l,ls q l->¬Shun l:=fun q ⟨o,hq⟩=>⟨(Array.getElem?_eq_some_iff.1 (Jr q o hq).2.1).1,(Jr q o hq).2.2⟩
 obtain⟨own,hown⟩:∃own:Nat->Prop,own=fun b=>UX b\/KK b:=⟨_,rfl⟩
 have hl:Link E.H aj.no own aj.no π wL w:=by rw[hown];exact hl0.wider fun b hb=> .inl hb
 have hA:Apart Shun own w:=by rw[hown];exact Yt.union KK kk
 have KH:∀q,KK q->own q:=fun q hq=>by rw[hown];exact .inr hq
 have hvd:fY E.H wL d:=ha (.pointer (some ⟨d,0,none⟩)) (by simp) d (.ptr rfl);obtain⟨hvb,Nt⟩:=hd.ren hl hvd;have Mm:(#[Value.pointer (some ⟨d,0,none⟩)]:Array Value).map (Value.ren π)=#[pb (π d)]:=by simp[bi,pb]
 rw[Mm,yp] at hz;have rdo:∀b,um (π d) (π bl) b->own b:=fun b hb=>by
  rcases hb with rfl|rfl|rfl
  .have:=hl.own 0 hl.lw.zero id;rwa [hl.zero] at this
  .exact hl.own d hvd id
  .exact hl.own bl hvb id
 obtain⟨N1,M1,t1,g1,w1,r1,hz1,⟨s,⟨⟨rfl,rfl,hL⟩,_,u1⟩,hA1⟩,o1,nr1⟩:=kx hz (uW (od (fun _=>False) Iq fun _ h=>h.elim) hA);have x9:∀b,own b->b<w.heap.size:=hA.lt;have Zq:∀b,own b->w1.heap[b]? =w.heap[b]? :=fun b hb=>hL.old b (x9 b hb)
 have hR2:fo (π d) (π bl) n x w1:=by
  have k:∀b o,um (π d) (π bl) b->w.heap[b]? =some o->w1.heap[b]? =some o:=fun b o hb hbo=>by rw[Zq b (rdo b hb)];exact hbo
  obtain⟨⟨f1,h1⟩,⟨f2,h2⟩,⟨c,t,f3,h3,h4⟩,a,b,c',e⟩:=Nt;exact⟨⟨f1,k _ _ (.inr (.inl rfl)) h1⟩,⟨f2,k _ _ (.inr (.inr rfl)) h2⟩,⟨c,t,f3,k _ _ (.inl rfl) h3,h4⟩,a,b,c',e⟩
 let X:Cx iD:={Fd:=w.heap.size+2,M:=w.heap.size+1,Wg:=w.heap.size+3,tF:=Jt,tW:=TWg,Dat:=ES,fin:=fun r=>match r with|.b=>jC (pP 1 (bh x n)) (pP 2 (bh x n))|_=>jC (pP 0 (bh x n)) (pP 2 (bh x n)),c0:=fun _ _=>none,N:=fun _=>108}
 let γ:Gh iD:=⟨um (π d) (π bl),fun b=>(own b\/b=w.heap.size)/\¬um (π d) (π bl) b,fun _=>none,fun _=>none⟩
 have ol:∀b,γ.own b\/γ.ro b->own b\/b=w.heap.size:=fun b hb=>hb.elim (·.1) fun h=> .inl (rdo b h)
 have ol1:∀b,γ.own b\/γ.ro b->b<w.heap.size+1:=fun b hb=>(ol b hb).elim (fun h=>by have:=x9 b h;omega) fun h=>by omega
 have hsh:ShAt X w1 ⟨0,0,0,0⟩:=⟨hL.fd,hL.wg⟩
 have agl:Reads X (um (π d) (π bl)) (fo (π d) (π bl) n x) (pb (π d)) (pP 0 (bh x n)) (pP 1 (bh x n)) (pP 2 (bh x n)) 54:=
  ⟨fun ro own w w' hro h hr=>h.keep hro hr,fun ro hro=>ph hro .a 0,fun ro hro=>ph hro .a 2,fun ro hro=>ph hro .b 1,fun ro hro=>ph hro .b 2,rfl,rfl,fun _=>rfl,fun _=>Nat.le_refl _⟩
 have hB:Base X γ w1:=⟨rfl,⟨by show w.heap.size+2≠w.heap.size+3;omega,fun b hb=>by
   have:=ol1 b hb;exact⟨by show b≠w.heap.size+2;omega,by show b≠w.heap.size+3;omega⟩⟩,fun hb=>by have:=ol1 _ (.inl hb);simp[X] at this,fun hb=>by have:=ol1 _ (.inr hb);simp[X] at this,by show w.heap.size+1≠w.heap.size+2;omega,by show w.heap.size+1≠w.heap.size+3;omega,fun b hb=>by
   have:=ol1 b hb;have:=hL.size;omega,by show w.heap.size+1<_;have:=hL.size;omega,⟨_,hsh⟩⟩
 have aaK:∀a:Addr,w.heap.size<=a.block->NoRelease a t1:=fun a hlow i hi=>by
  obtain⟨op,hop,e⟩:=Option.map_eq_some_iff.1 hi;rcases nr1 op (mem_of_getElem? hop) with h|h
  .have:=hz.past.seen op h
   rw[e] at this;have:a.block<w.heap.size:=this;omega
  .exact h a e
 have s1:w1.heap.size=w.heap.size+4:=hL.size;obtain⟨n0,μ,hI⟩:=It (X:=X) (γ:=γ) (Post:=uo X (um (π d) (π bl)) γ.own w1 w.heap.size (pb (π d)) c CS) hz1 hA1 (by show w.heap.size+2≠w.heap.size+3;omega) (by show w.heap.size+2≠w.heap.size+1;omega) (by show w.heap.size+1≠w.heap.size+3;omega)
  (.inr ⟨by show w.heap.size<=w.heap.size+2;omega,by show w.heap.size+2<_;omega⟩) (.inr ⟨by show w.heap.size<=w.heap.size+3;omega,by show w.heap.size+3<_;omega⟩) (.inr ⟨by show w.heap.size<=w.heap.size+1;omega,by show w.heap.size+1<_;omega⟩)
  (fun b hb=>by
   have h1:=ol b hb;have h2:=ol1 b hb;exact⟨h1.imp id fun e=>⟨by omega,by omega⟩,by show b≠w.heap.size+2;omega,by show b≠w.heap.size+3;omega,by show b≠w.heap.size+1;omega⟩)
  (fun b hb=>hb.2) hsh hL.map ⟨#[],0,fun _=>none,rfl,.empty 0,fun _=>rfl⟩ (aaK _ (by show w.heap.size<=w.heap.size+2;omega)) (aaK _ (by show w.heap.size<=w.heap.size+3;omega)) rfl
  (fun k=>zI agl hB (fun b hb=>hb) (fun b hb=>hb) hR2 (.refl X _ _ w1) ⟨.inr rfl,fun hb=>by have:=x9 _ (rdo _ hb);omega⟩ (by show w1.cell? ⟨w.heap.size,0,none⟩=_;simp[World.cell?,hL.box,pb]))
 obtain⟨N2,gs2,w2,sl2,t2,r2,hJ⟩:=GW μ M1 t1 hI;obtain⟨g2,γ2,hz2,hP⟩:=hJ.zero (sl:=sl2);have hrx:=hP.2.2;obtain⟨s2,hs2⟩:=hrx.live ⟨_,hsh⟩;obtain⟨o,wP,hoD⟩:=hP.2.1;obtain⟨es,cl,f,rfl,hM1,hM2⟩:=hoD;have nS:∀b,own b\/(w.heap.size<=b/\b<w.heap.size+4)->¬Fi Shun b:=fun b hb ⟨l,h1,h2⟩=>hA1.off b hb l h2 h1
 obtain⟨N3,M3,t3,g3,w3,r3,hz3,⟨rfl,hw3,u3⟩,o3,_⟩:=kx hz2 (IJ hP hs2 (by show w.heap.size+2≠w.heap.size+3;omega) (nS _ (.inr ⟨by show w.heap.size<=w.heap.size+2;omega,by show w.heap.size+2<_;omega⟩)));have s2':w1.heap.size<=w2.heap.size:=hrx.size
 have dF:ES (jC (pP 0 (bh x n)) (pP 2 (bh x n))) (jC (pP 1 (bh x n)) (pP 2 (bh x n))) (.map es cl):=⟨es,cl,f,rfl,hM1,hM2⟩
 have RH:∀b,own b->w3.heap[b]? =w.heap[b]? :=(fun b hb=>by
   rw[hw3,hrx.keep b (by have:=x9 b hb;omega) (by
    by_cases hr:um (π d) (π bl) b
    .exact .inr hr
    .exact .inl ⟨.inl hb,hr⟩)]
   exact Zq b hb)
 obtain⟨b6,hl',ag,em⟩:=Io (m:=w.heap.size+1) hl (w':=w3) (by rw[hw3];omega) RH (by omega) (by rw[hw3];omega) (by rw[hw3];exact wP) (C2 dF);have fin:=hk (.map (some wL.heap.size)) {wL with heap:=wL.heap.push (.map es cl)} b6 M3 t3 ⟨wL.tape,wL.drawn,es,cl,rfl,⟨wL.tape,wL.drawn,rfl⟩,dF⟩ ?_ ?_ ag (by simp)
 .exact E.back _ _ _ _ _ r1 (E.back _ _ _ _ _ r2 (E.back _ _ _ _ _ r3 fin))
 .have Es:∀b,fY E.H {wL with heap:=wL.heap.push (.map es cl)} b->¬KK (b6 b):=fun b hb hq=>by
   have hb1:b<wL.heap.size+1:=by have:=hb.1;simpa using this
   have hlt:=(kk _ hq).1
   by_cases hlt2:b<wL.heap.size
   .rw[ag b hlt2] at hq
    obtain⟨o',hq⟩:=hq;exact(Jr _ o' hq).1 (hl0.own b ⟨hlt2,hb.2⟩ id)
   .have:b=wL.heap.size:=by omega
    rw[this,em] at hlt;omega
  have hAp:Apart (xQ X (Fi Shun)) (fun b=>own b\/b=w.heap.size+1) w3:=by
   refine⟨fun b hb l hlb hS=>?_,fun b hb=>?_,fun l b hS hlb=>?_,fun l hS=>?_⟩
   .obtain⟨a,rfl,ha⟩:=hS
    have eb:=ky hlb;have hb':own b\/(w.heap.size<=b/\b<w.heap.size+4):=hb.imp id fun e=>⟨by omega,by omega⟩
    have lt1:b<=w.heap.size+1:=hb.elim (fun h=>by have:=x9 b h;omega) fun e=>by omega
    rcases ha with ha|ha|ha
    .rw[eb] at ha;exact nS b hb' ha
    .have:a.block=w.heap.size+3:=ha;omega
    .have:a.block=w.heap.size+2:=ha.1;omega
   .rw[hw3]
    rcases hb with hb|hb
    .have:=x9 b hb;omega
    .omega
   .obtain⟨a,rfl,ha⟩:=hS
    have eb:=ky hlb;rw[hw3];rcases ha with ha|ha|ha
    .obtain⟨l',h1,h2⟩:=ha
     have:=hA.low l' _ h1 h2;omega
    .have:a.block=w.heap.size+3:=ha;omega
    .have:a.block=w.heap.size+2:=ha.1;omega
   .obtain⟨a,rfl,_⟩:=hS
    exact⟨a,rfl⟩
  refine⟨xQ X (Fi Shun),_,w3,?_,hl'.less KK Es,hAp.part fun b hb=>hb.1,?_,fun q o hq=>⟨fun hb=>hb.2 ⟨o,hq⟩,(RH q (KH q ⟨o,hq⟩)).trans (Jr q o hq).2.1,fun l hl=>hAp.off q (.inl (KH q ⟨o,hq⟩)) l hl⟩⟩
  .have e:Value.ren b6 (.map (some wL.heap.size))= .map (some (w.heap.size+1)):=by simp[em]
   rw[e];exact hz3
  .refine⟨?_,u3.trans (hrx.output.trans (u1.trans ho.2))⟩
   rw[o3];have h1:OsLater E.os w1.os:=by rw[o1];exact ho.1
   exact h1.trans hrx.os
 .intro r hr
  cases hr;exact⟨by show wL.heap.size<(wL.heap.push _).size;simp,fun hh=>by have:=hl.lw.low _ (.inl hh);omega⟩
end aI
end
section
open Go.Conc
open Go.ConcM (OsLater)
namespace aI
section
variable {P:Program}{main:Bool}{b:Frame}{a:Act}{k:List Item}{cs:List Frame}{w w':World}{l:Nat}{mark:List Deferred}
theorem uP {w:World}{l:Nat}{r:Loop}(h:w.heap[l]? =some (.loop r)):RT (Instr.getLoop l) w r w #[⟨.obj l,false,false⟩]:=RT.eG (x:= .loop r) (fR h) (.pure _)
theorem Kl {w:World}{l:Nat}{r:Loop}(h:w.heap[l]? =some (.loop r))(hr:r.state= .ready):RT (Instr.beginRound l) w () {w with heap:=w.heap.setIfInBounds l (.loop {r with state:= .busy})} #[⟨.obj l,false,false⟩,⟨.obj l,true,false⟩]:=by
 refine RT.bind (x:=r) (e1:=#[⟨.obj l,false,false⟩]) (e2:=#[⟨.obj l,true,false⟩]) (uP h) ?_;refine RT.eG (x:=()) (je h) ?_;rw[hr];exact .pure _
theorem OA {w:World}{l:Nat}{r:Loop}(h:w.heap[l]? =some (.loop r)):RT (Instr.endRound l none) w (.bool true) {w with heap:=w.heap.setIfInBounds l (.loop {r with state:= .ready,pending:=none})} #[⟨.obj l,false,false⟩,⟨.obj l,true,false⟩]:=by
 refine RT.bind (x:=r) (e1:=#[⟨.obj l,false,false⟩]) (e2:=#[⟨.obj l,true,false⟩]) (uP h) ?_;exact RT.eG (x:=()) (je h) (.pure _)
theorem OB {w:World}{l:Nat}{r:Loop}(h:w.heap[l]? =some (.loop r))(hr:r.state= .ready):RT (Instr.endLoop l) w r.pending {w with heap:=w.heap.setIfInBounds l (.loop {r with state:= .exhausted})} #[⟨.obj l,false,false⟩,⟨.obj l,true,false⟩]:=by
 refine RT.bind (x:=r) (e1:=#[⟨.obj l,false,false⟩]) (e2:=#[⟨.obj l,true,false⟩]) (uP h) ?_;have hb:(r.state==LoopState.busy)=false:=by rw[hr];rfl
 rw[hb];exact RT.eG (x:=()) (je h) (.pure _)
theorem Oy {w:World}{D:Nat}(h:w.heap[D]? =some (.deferred (some []))):RT (Instr.takeDeferred D) w [] {w with heap:=w.heap.setIfInBounds D (.deferred none)} #[⟨.obj D,false,false⟩,⟨.obj D,true,false⟩]:=by
 refine RT.bind (x:= .deferred (some [])) (e1:=#[⟨.obj D,false,false⟩]) (e2:=#[⟨.obj D,true,false⟩]) (fR h) ?_;exact RT.eG (x:=()) (je h) (.pure _)
theorem Ki {w:World}{l:Nat}{r:Loop}{args:Array Value}(h:w.heap[l]? =some (.loop r))(hs:args.size=r.params.size):
  RT (Instr.yield l args) w (.round l r.fn ((r.params.zip args).foldl (fun tmps (t,a)=>tmps.setIfInBounds t a) r.tmps) r.assign r.body) w #[⟨.obj l,false,false⟩]:=by
 refine RT.eG (x:=r) (uP h) ?_;rw[if_neg (by simpa using hs)];exact .pure _
theorem z8 (fn:FuncId)(tmps:Array Value)(ps:Array Tmp)(assign body:Code):
  RT (Instr.enterLoop fn tmps ps assign body none) w (w.heap.size+1,[{target:= .collected w.heap.size,args:=#[]}])
   {w with heap:=(w.heap.push (.deferred (some []))).push (.loop {state:= .ready,pending:=none,fn,tmps,params:=ps,assign,body,defers:=w.heap.size})} #[]:=by
 have h2:=nP (w:={w with heap:=w.heap.push (.deferred (some []))}) (.loop {state:= .ready,pending:=none,fn,tmps,params:=ps,assign,body,defers:=w.heap.size});have e:(w.heap.push (.deferred (some []))).size=w.heap.size+1:=by simp
 rw[e] at h2;exact RT.aP (x:=w.heap.size) (nP _) (RT.aP (x:=(w.heap.size,[({target:= .collected w.heap.size,args:=#[]}:Deferred)])) (.pure _) (RT.aP h2 (.pure _)))
theorem uX:(CallKind.normal==CallKind.early)=false:=rfl
theorem ifT {α:Type}(a b:α):(if(true=true) then a else b)=a:=if_pos rfl
section
variable {fr:Frame}{s:Sem Next}{ev:Array Event}{listen:Bool}
theorem Dl {f:FuncId}{args:Array Value}(h:RT s w (.enter f args) w' ev)(hk:fr.kind= .normal)(ht:∀d r x k,fr.todo≠.call d true r x::k):
  stepG.apply PP true fr cs none s w= .go (G (Frame.enter PP f args .normal) (fr::cs)) w' (seen PP fr.fn ev):=by
 have h1:=h #[];rw[Array.empty_append] at h1;unfold stepG.apply;simp only[ifT,h1,hk,uX];have:(match fr.todo with|.call _ true _ _::_=>CallKind.wrapped|_=> .normal)= .normal:=by
  split
  .exact absurd (by assumption) (ht _ _ _ _)
  .rfl
 simp[GStep.after,G]
theorem oE {v:Value}(h:RT s w (.value v) w' ev)(hk:fr.kind= .normal):stepG.apply PP true fr cs none s w= .go (G (fr.finish v) cs) w' (seen PP fr.fn ev):=by
 have h1:=h #[];rw[Array.empty_append] at h1;unfold stepG.apply;simp only[ifT,h1,hk,uX];simp[GStep.after,G]
theorem xD (h:RT s w .skip w' ev)(hk:fr.kind= .normal):stepG.apply PP true fr cs none s w= .go (G (fr.finish undef) cs) w' (seen PP fr.fn ev):=by
 have h1:=h #[];rw[Array.empty_append] at h1;unfold stepG.apply;simp only[ifT,h1,hk,uX];simp[GStep.after,G]
theorem Dk {f:FuncId}{tm:Array Value}{ve body:Code}(h:RT s w (.round l f tm ve body) w' ev)(hk:fr.kind= .normal):stepG.apply PP true fr cs none s w= .go (G (Frame.round l f tm ve body .normal) (fr::cs)) w' (seen PP fr.fn ev):=by
 have h1:=h #[];rw[Array.empty_append] at h1;unfold stepG.apply;simp only[ifT,h1,hk,uX];simp[GStep.after,G]
end
theorem xX {g:Operand}{ps:Array Tmp}{ve body:Code}{gf:Nat}{lb:Array Value}{fn:Func}(hg:a.eval g= .func (.func gf) #[] lb)(hf:PP.funcs[gf]? =some fn)(hb:fn.body.isNone=false)(hn:(fn.name== "runtime.NumGoroutine")=false)(hk:b.kind= .normal)
  (h:RT (Instr.enterLoop b.fn a.tmps ps ve body none) w (l,mark) w' #[]):
  stepG PP main (G (b.at a (.code (.rangeFunc g ps ve body)::k)) cs) w= .go (G (Frame.enter PP gf (#[.func (.yield l) #[] #[]]++lb) .normal) (b.at {a with defers:=mark++a.defers} (.inRangeFunc l::k)::cs)) w' #[]:=by
 have h1:=h #[];have hev:Frame.eval {fn:=b.fn,tmps:=a.tmps,todo:= .inRangeFunc l::k,defers:=mark++a.defers,mode:= .run,kind:=b.kind} g= .func (.func gf) #[] lb:=by
  rw[<-hg];cases g<;>rfl
 have h2:RT (callFunc gf (#[.func (.yield l) #[] #[]]++lb)) w' (.enter gf (#[.func (.yield l) #[] #[]]++lb)) w' #[]:=by
  refine fD.aP ?_;rw[hf];simp only[hn,hb];exact .pure _
 have h3:RT (do let d <-resolve (Frame.eval {fn:=b.fn,tmps:=a.tmps,todo:= .inRangeFunc l::k,defers:=mark++a.defers,mode:= .run,kind:=b.kind}) {callee:= .value g,args:=#[.const (.func (.yield l) #[] #[])],argTypes:=#[]} 0;invoke d.target d.args) w' (.enter gf (#[.func (.yield l) #[] #[]]++lb)) w' #[]:=by
  refine RT.aP (x:={target:= .fn (.func gf) lb,args:=#[.func (.yield l) #[] #[]]}) ?_ (show RT (invoke (.fn (.func gf) lb) #[.func (.yield l) #[] #[]]) _ _ _ _ from h2);unfold resolve;simp only[List.map_toArray,List.map_cons,List.map_nil,hev];exact .pure _
 rw[Array.append_empty] at h1;unfold stepG stepG.exec;simp only[G,Frame.at];rw[h1];dsimp only;have h5:=Dl (cs:=cs) (fr:={fn:=b.fn,tmps:=a.tmps,todo:= .inRangeFunc l::k,defers:=mark++a.defers,mode:= .run,kind:=b.kind}) h3 hk (by simp);rw[h5];simp[seen_none,GStep.after,G]
section
variable {fr:Frame}{ev:Array Event}{c:Frame}
theorem stepG_op {ops:Array Oper}{i:Nat}{rest:List Nat}{o:Oper}(hm:fr.mode= .run)(ht:fr.todo= .inRegion ops (i::rest)::k)(ho:ops[i]? =some o)(hw:Region.wanted o (yielded ops fr.tmps)=true)(hnd:∀c,o.op≠.defer c):
  stepG PP main (G fr cs) w=stepG.apply PP true fr cs none (execOp fr.eval o) w:=by
 have h1:fr.oper? =some o:=by simp[Frame.oper?,ht,ho]
 unfold stepG stepG.exec;simp only[G,hm,ht,ho,Option.map_some,hw,Option.getD_some,if_true];unfold stepG.oper;rw[h1];dsimp only;split
 .exact absurd (by assumption) (hnd _)
 .rfl
theorem Bo (hm:fr.mode= .run)(ht:fr.todo= .beginRound::k)(hr:fr.roundOf=some l)(hk:fr.kind= .normal)(h:RT (Instr.beginRound l) w () w' ev):
  stepG PP main (G fr cs) w= .go (G (fr.finish undef) cs) w' (seen PP fr.fn ev):=by
 unfold stepG stepG.exec;simp only[G,hm,ht,hr,Option.elim_some];exact xD (RT.eG h (.pure _)) hk
theorem DE (hm:fr.mode= .run)(ht:fr.todo=[])(hr:fr.roundOf=some l)(hk:fr.kind= .normal)(h:RT (Instr.endRound l none) w (.bool true) w' ev):
  stepG PP main (G fr (c::cs)) w= .go (G (c.finish (.bool true)) cs) w' (seen PP fr.fn ev):=by
 have h1:=h #[];rw[Array.empty_append] at h1;unfold stepG stepG.exec;simp only[G,hm,ht,hr,h1,doReturn,hk,GStep.after];simp
theorem DF (hm:fr.mode= .run)(ht:fr.todo= .endRangeFunc l::k)(h:RT (Instr.endLoop l) w none w' ev):
  stepG PP main (G fr cs) w= .go (G {fr with todo:=k} cs) w' (seen PP fr.fn ev):=by
 have h1:=h #[];rw[Array.empty_append] at h1;unfold stepG stepG.exec;simp only[G,hm,ht,h1,GStep.after];simp
theorem DD {D:Nat}{ar:Array Value}{ds calls:List Deferred}(hm:fr.mode= .returning)(hd:fr.defers={target:= .collected D,args:=ar}::ds)(h:RT (Instr.takeDeferred D) w calls w' ev):
  stepG PP main (G fr cs) w= .go (G {fr with defers:=calls++ds} cs) w' (seen PP fr.fn ev):=by
 have h1:=h #[];rw[Array.empty_append] at h1;unfold stepG unwind;simp only[G,hm,hd,h1,GStep.after];simp
end
end
abbrev jE:TypeId:=9
abbrev lq:TypeId:=45
theorem Bd:PP.underlying lq=some (.slice jE):=by kernel_rfl
theorem Av:(PP.info? jE).map (·.size)=some 1:=by kernel_rfl
theorem Fl:(PP.info? jE).bind (·.zero)=some (.string ⟨#[]⟩):=by kernel_rfl
def FZ:TypeInfo:=(PP.info? jE).getD default
theorem wM:PP.info? jE=some FZ:=by kernel_rfl
theorem tV:FZ.bytes=16:=by kernel_rfl
section
variable {w:World}{k:ByteArray}
theorem BP:RT (Instr.buildSlice lq 1 #[(0,.string k)]) w (.slice (some ⟨w.heap.size,0,none⟩) 1 1) {w with heap:=w.heap.push (.cells #[.string k] jE (0,0))} #[]:=by
 unfold Instr.buildSlice;refine(fB Bd).aP ?_;dsimp only;refine(oK Av).aP ?_;simp only[Nat.reduceMul,Nat.reducePow,Nat.reduceGT,if_false,Nat.reduceEqDiff,Nat.one_ne_zero];refine(uO Fl).aP (RT.aP (x:=#[.string ⟨#[]⟩]) (.pure _) ?_)
 have h3:Instr.fill (fun i=>some (i*1,1)) ((Array.range 1).map (fun x=>(#[(.string ⟨#[]⟩:Value)]:Array Value)[x%(#[(.string ⟨#[]⟩:Value)]:Array Value).size]!)) [(0,.string k)]=some #[.string k]:=by
  have e:(Array.map (fun x=>(#[(.string ⟨#[]⟩:Value)]:Array Value)[x%(#[(.string ⟨#[]⟩:Value)]:Array Value).size]!) (Array.range 1))=#[.string ⟨#[]⟩]:=by
   rw[show Array.range 1=#[0] from Array.ext (by simp) fun i h1 h2=>by simp at h1;subst h1;simp];simp
  rw[e];simp[Instr.fill,Value.cells]
 rw[h3];exact RT.aP (x:=⟨w.heap.size,0,none⟩) (RT.aP (nP _) (.pure _)) (.pure _)
def Strs (w:World)(own:Nat->Prop)(v:Value)(ks:List ByteArray):Prop:=
 (v= .slice none 0 0/\ks=[])\/∃sk cap,v= .slice (some ⟨sk,0,none⟩) ks.length cap/\own sk/\ks.length<=cap/\w.heap[sk]? =some (.cells (ks.map Value.string++List.replicate (cap-ks.length) (Value.string ⟨#[]⟩)).toArray jE (0,0))
structure App (own:Nat->Prop)(ks:List ByteArray)(w:World)(v:Value)(w':World)(ev:Array Event):Prop where
 tape:w'.tape=w.tape
 output:w'.output=w.output
 os:w'.os=w.os
 size:w.heap.size<=w'.heap.size
 keep:∀b,b<w.heap.size->¬own b->w'.heap[b]? =w.heap[b]?
 strs:Strs w' (fun b=>own b\/(w.heap.size<=b/\b<w'.heap.size)) v ks
 ev:∀e∈ev,(∃b,own b/\EvB b e)\/∃m,e.loc= .mark m/\n9 m
theorem DP (cs:Array Value)(v:Value)(i:Nat):kj cs [v] i=cs.setIfInBounds i v:=rfl
theorem tK {b:Nat}{f:Nat×Nat}(h:w.heap[b]? =some (.cells #[.string k] jE f)):∃ev,RT (Builtin.firstCells 1 1 (.slice (some ⟨b,0,none⟩) 1 1)) w #[.string k] w ev/\∀e∈ev,EvB b e:=by
 obtain⟨ev,h1,h2⟩:=jY h 0 1 0 #[] (by simp);refine⟨ev,?_,fun e he=>?_⟩
 .have e1:(#[]:Array Value)++(#[Value.string k]:Array Value).extract (0+0) (0+0+1)=#[.string k]:=by simp
  rw[e1] at h1;exact h1
 .obtain⟨a,rfl,ha⟩:=h2 e he
  exact iT ha
theorem BO {b n cap:Nat}{cs:Array Value}{f:Nat×Nat}(h:w.heap[b]? =some (.cells cs jE f))(hn:n<=cs.size):∃ev,RT (Builtin.firstCells 1 n (.slice (some ⟨b,0,none⟩) n cap)) w (cs.extract 0 n) w ev/\∀e∈ev,EvB b e:=by
 obtain⟨ev,h1,h2⟩:=jY h 0 n 0 #[] (by omega);refine⟨ev,?_,fun e he=>?_⟩
 .have e1:(#[]:Array Value)++cs.extract (0+0) (0+0+n)=cs.extract 0 n:=by simp
  rw[e1] at h1;show RT (loadCells ⟨b,0,none⟩ (n*1)) _ _ _ _;rw[Nat.mul_one];exact h1
 .obtain⟨a,rfl,ha⟩:=h2 e he
  exact iT ha
theorem FH {a:Option Addr}{n c:Nat}:RT (Builtin.lenOf (.slice a n c)) w n w #[]:= .pure _
theorem Jd {base:Option Addr}{n cap xb:Nat}{ty:TypeId}{sv:Value}{w':World}{ev:Array Event}(hc:n+1<=cap)
  (h:RT (do
    let new <-Builtin.firstCells 1 1 (.slice (some ⟨xb,0,none⟩) 1 1)
    if let some a:=base then storeCells (a.add (n*1)) new.toList
    pure (.slice base (n+1) cap)) w sv w' ev):
  RT (Builtin.append_ #[lq,lq] ty #[.slice base n cap,.slice (some ⟨xb,0,none⟩) 1 1]) w sv w' ev:=by
 unfold Builtin.append_;show RT (underlying lq>>=_) _ _ _ _;refine(fB Bd).aP ?_;dsimp only;refine(oK Av).aP ?_;show RT (underlying lq>>=_) _ _ _ _;refine(fB Bd).aP ?_;refine RT.aP (x:=false) (.pure _) ?_;simp only[Bool.false_eq_true,if_false,Bool.not_false,if_true];refine FH.aP ?_;rw[if_pos hc];exact h
theorem Fa {base:Option Addr}{n cap xb:Nat}{ty:TypeId}{sv:Value}{w':World}{ev:Array Event}(hc:¬n+1<=cap)(hl:n<2^40)(hcap:cap<=n)
  (h:RT (do
    let newCap <-choose (.appendCap (n+1) cap jE)
    askRoom (newCap*(<-typeInfo jE).bytes)
    let old <-Builtin.firstCells 1 n (.slice base n cap)
    let new <-Builtin.firstCells 1 1 (.slice (some ⟨xb,0,none⟩) 1 1)
    let rest:=Builtin.zeroCells (<-zeroValue jE).cells (newCap-(n+1))
    pure (.slice (some (<-newRow jE (old++new++rest))) (n+1) newCap)) w sv w' ev):
  RT (Builtin.append_ #[lq,lq] ty #[.slice base n cap,.slice (some ⟨xb,0,none⟩) 1 1]) w sv w' ev:=by
 unfold Builtin.append_;show RT (underlying lq>>=_) _ _ _ _;refine(fB Bd).aP ?_;dsimp only;refine(oK Av).aP ?_;show RT (underlying lq>>=_) _ _ _ _;refine(fB Bd).aP ?_;refine RT.aP (x:=false) (.pure _) ?_;simp only[Bool.false_eq_true,if_false,Bool.not_false,if_true,false_or];refine FH.aP ?_;rw[if_neg hc];refine(qP wM).aP ?_
 have hcap2:Builtin.nextslicecap (n+1) cap*FZ.bytes<=2^48:=by
  rw[tV];unfold Builtin.nextslicecap;have g:∀(r c:Nat),c<=2^41->Builtin.growBy (n+1) r c<=2^42:=by
   intro r
   induction r with
   |zero=>intro c hc';unfold Builtin.growBy;omega
   |succ r ih=>
    intro c hc';unfold Builtin.growBy;split
    .omega
    .refine ih _ ?_;omega
  split
  .omega
  .split
   .omega
   .have:=g 4 cap (by omega);omega
 rw[if_neg (by rw[tV];omega)];refine(qP wM).aP ?_;rw[if_neg (by omega)];exact h
theorem set_mid {α:Type}(A:List α)(b c:α)(B:List α):(A++b::B).set A.length c=A++c::B:=by
 induction A with
 |nil=>rfl
 |cons x A ih=>simp[ih]
theorem xS (m:Nat):Builtin.zeroCells #[.string ⟨#[]⟩] m=Array.replicate m (Value.string ⟨#[]⟩):=by
 unfold Builtin.zeroCells
 apply Array.ext
 .simp
 .intro i h1 h2
  simp[Nat.mod_one]
theorem Ho {own:Nat->Prop}{s:Value}{ks:List ByteArray}{xb:Nat}{f:Nat×Nat}(ty:TypeId)(hs:Strs w own s ks)(hx:w.heap[xb]? =some (.cells #[.string k] jE f))(ox:own xb)(hl:ks.length<2^40):
  ∃v w' ev,RT (Builtin.append_ #[lq,lq] ty #[s,.slice (some ⟨xb,0,none⟩) 1 1]) w v w' ev/\App own (ks++[k]) w v w' ev:=by
 have grow:∀{base:Option Addr} {cap:Nat} {YE:Array Event},¬ks.length+1<=cap->cap<=ks.length->(∀w1,w1.heap=w.heap->∃YE,RT (Builtin.firstCells 1 ks.length (.slice base ks.length cap)) w1 (ks.map Value.string).toArray w1 YE/\∀e∈YE,∃b,own b/\EvB b e)->
   ∃v w' ev,RT (Builtin.append_ #[lq,lq] ty #[.slice base ks.length cap,.slice (some ⟨xb,0,none⟩) 1 1]) w v w' ev/\App own (ks++[k]) w v w' ev:=by
  intro base cap YE hc hcap hold;obtain⟨c0,w1,hch,t1,o1,s1,h1,hcut⟩:=oN (w:=w) (q:= .appendCap (ks.length+1) cap jE);have abI:ks.length+1<=c0:=by
   rcases hcut with⟨hf,_⟩|⟨x,rfl⟩
   .simp[Question.forced] at hf
   .simp[Question.cut]
  obtain⟨ev1,r1,e1⟩:=hold w1 h1;obtain⟨ev2,r2,e2⟩:=tK (w:=w1) (by rw[h1];exact hx);have room:∃ev,RT (askRoom (c0*FZ.bytes)) w1 () w1 ev/\∀e∈ev,∃m,e.loc= .mark m/\n9 m:=by
   unfold askRoom;split
   .exact⟨#[⟨.mark .noRoom,false,true⟩],fun es=>by show(Result.ok () w1,es.push _)=_;simp,fun e he=>by simp at he;subst he;exact⟨_,rfl,trivial⟩⟩
   .exact⟨#[],.pure _,by simp⟩
  obtain⟨ev3,r3,e3⟩:=room;have hrow:=nP (w:=w1) (.cells ((ks.map Value.string).toArray++#[.string k]++Array.replicate (c0-(ks.length+1)) (Value.string ⟨#[]⟩)) jE (0,0))
  refine⟨.slice (some ⟨w1.heap.size,0,none⟩) (ks.length+1) c0,{w1 with heap:=w1.heap.push (.cells ((ks.map Value.string).toArray++#[.string k]++Array.replicate (c0-(ks.length+1)) (Value.string ⟨#[]⟩)) jE (0,0))},ev3++(ev1++ev2),Fa hc hl hcap ?_,?_⟩
  .refine hch.aP ((qP wM).aP (r3.bind (r1.bind ?_)))
   refine RT.eG (x:=#[.string k]) r2 ?_;refine(uO Fl).aP ?_;show RT (newRow jE ((ks.map Value.string).toArray++#[.string k]++Builtin.zeroCells #[.string ⟨#[]⟩] (c0-(ks.length+1)))>>=_) _ _ _ _;rw[xS];exact RT.aP (x:=⟨w1.heap.size,0,none⟩) (RT.aP hrow (.pure _)) (.pure _)
  .refine⟨t1,o1,s1,by show w.heap.size<=(w1.heap.push _).size;rw[h1];simp,fun b hb _=>by show(w1.heap.push _)[b]? =_;rw[h1,Array.getElem?_push_lt hb];exact(Array.getElem?_eq_getElem hb).symm,.inr ⟨w1.heap.size,c0,by simp,.inr ⟨by rw[h1];exact Nat.le_refl _,by show _<(w1.heap.push _).size;simp⟩,by simpa using abI,?_⟩,fun e he=>?_⟩
   .show(w1.heap.push _)[w1.heap.size]? =_
    simp
   .rcases Array.mem_append.1 he with he|he
    .exact .inr (e3 e he)
    .rcases Array.mem_append.1 he with he|he
     .exact .inl (e1 e he)
     .exact .inl ⟨xb,ox,e2 e he⟩
 rcases hs with⟨rfl,rfl⟩|⟨sk,cap,rfl,osk,hle,hsk⟩
 .exact grow (base:=none) (cap:=0) (YE:=#[]) (by simp) (by simp) fun w1 _=>⟨#[],.pure _,by simp⟩
 .by_cases hc:ks.length+1<=cap
  .obtain⟨ev2,r2,e2⟩:=tK hx
   obtain⟨w',ev,r3,u,e3⟩:=lC (ks.length*1) [.string k] 0 hsk (by simp;omega) (by simp[kM]);refine⟨.slice (some ⟨sk,0,none⟩) (ks.length+1) cap,w',ev2++ev,Jd hc (r2.bind ?_),?_⟩
   .show RT (storeCells (Addr.add ⟨sk,0,none⟩ (ks.length*1)) [.string k]>>=_) _ _ _ _
    rw[xH,Nat.zero_add];exact RT.eG (x:=()) r3 (.pure _)
   .refine⟨u.tape,u.output,u.os,by rw[u.size];exact Nat.le_refl _,fun b _ hb=>u.rest b fun e=>hb (e▸osk),.inr ⟨sk,cap,by simp,.inl osk,by simpa using hc,?_⟩,fun e he=>?_⟩
    .rw[u.at_,DP]
     congr 2
     apply Array.ext'
     simp only[Nat.mul_one,Nat.add_zero,List.setIfInBounds_toArray];obtain⟨m,hm⟩:∃m,cap-ks.length=m+1:=⟨cap-ks.length-1,by omega⟩
     have hm2:cap-(ks++[k]).length=m:=by simp;omega
     rw[hm,hm2,List.replicate_succ];have:=set_mid (ks.map Value.string) (Value.string ⟨#[]⟩) (Value.string k) (List.replicate m (Value.string ⟨#[]⟩));rw[List.length_map] at this;rw[this];simp
    .rcases Array.mem_append.1 he with he|he
     .exact .inl ⟨xb,ox,e2 e he⟩
     .obtain⟨a,rfl,ha⟩:=e3 e he
      exact .inl ⟨sk,osk,iT ha⟩
  .have hcap:cap=ks.length:=by omega
   refine grow (base:=some ⟨sk,0,none⟩) (cap:=cap) (YE:=#[]) hc (by omega) fun w1 hw1=>?_
   obtain⟨ev,r,e⟩:=BO (w:=w1) (n:=ks.length) (cap:=cap) (by rw[hw1];exact hsk) (by simp);refine⟨ev,?_,fun x hx=>⟨sk,osk,e x hx⟩⟩;have:((ks.map Value.string++List.replicate (cap-ks.length) (Value.string ⟨#[]⟩)).toArray).extract 0 ks.length=(ks.map Value.string).toArray:=by
    apply Array.ext'
    rw[hcap];simp[List.extract_eq_drop_take,List.take_of_length_le]
   rw[this] at r;exact r
end
namespace Sq
abbrev CU:Nat:=178
abbrev R5:Nat:=135
def cJ (tm:Array Value)(ve body:Code)(st:LoopState)(D:Nat):Loop:={state:=st,pending:=none,fn:=CU,tmps:=tm,params:=#[7],assign:=ve,body:=body,defers:=D}
section
variable {tm:Array Value}{ve body:Code}{D l:Nat}{w:World}{st:LoopState}
theorem GF {x:Value}(h:w.heap[l]? =some (.loop (cJ tm ve body st D))):RT (Instr.yield l #[x]) w (.round l CU (tm.setIfInBounds 7 x) ve body) w #[⟨.obj l,false,false⟩]:=by
 have:=Ki (args:=#[x]) h rfl;simpa [cJ] using this
theorem Ja (h:w.heap[l]? =some (.loop (cJ tm ve body .ready D))):RT (Instr.beginRound l) w () {w with heap:=w.heap.setIfInBounds l (.loop (cJ tm ve body .busy D))} #[⟨.obj l,false,false⟩,⟨.obj l,true,false⟩]:=Kl h rfl
theorem Mg (h:w.heap[l]? =some (.loop (cJ tm ve body .busy D))):RT (Instr.endRound l none) w (.bool true) {w with heap:=w.heap.setIfInBounds l (.loop (cJ tm ve body .ready D))} #[⟨.obj l,false,false⟩,⟨.obj l,true,false⟩]:=OA h
theorem Mh (h:w.heap[l]? =some (.loop (cJ tm ve body .ready D))):RT (Instr.endLoop l) w none {w with heap:=w.heap.setIfInBounds l (.loop (cJ tm ve body .exhausted D))} #[⟨.obj l,false,false⟩,⟨.obj l,true,false⟩]:=OB h rfl
theorem IM (tm:Array Value)(ve body:Code):RT (Instr.enterLoop CU tm #[7] ve body none) w (w.heap.size+1,[{target:= .collected w.heap.size,args:=#[]}]) {w with heap:=(w.heap.push (.deferred (some []))).push (.loop (cJ tm ve body .ready w.heap.size))} #[]:=z8 CU tm #[7] ve body
end
def mm (bx:Nat):Value:= .func (.func R5) #[] #[pb bx]
section
variable (bx bS M it D l:Nat)(k:ByteArray)(v:Value)(fr:Frame)(cs:List Frame)(y:Nat->Value)
def Zz:Goroutine:=LB CU #[.slice none 0 0,mm bx] 11 fr cs
def Hj:Goroutine:=OT (Zz bx fr cs)
theorem DR:av PP true (Zz bx fr cs) (Hj bx fr cs):=bu fun ws=>by kernel_rfl
theorem Tu:aQ (Hj bx fr cs)=some (.box lq (.slice none 0 0)):=by kernel_rfl
def Tt:Goroutine:=OT (resume (Hj bx fr cs) (pb bS))
theorem Ts:av PP true (resume (Hj bx fr cs) (pb bS)) (Tt bx bS fr cs):=bu fun ws=>by kernel_rfl
def MX:Code:=match(Tt 0 0 default []).frame.todo with|.code (.rangeFunc _ _ a _)::_=>a|_=> .skip
def I9:Code:=match(Tt 0 0 default []).frame.todo with|.code (.rangeFunc _ _ _ b)::_=>b|_=> .skip
def FI:List Item:=(Tt 0 0 default []).frame.todo.tail
def Zh:Array Value:=(Tt bx bS default []).frame.tmps
theorem Tr:Tt bx bS fr cs=G ((base CU).at ⟨Zh bx bS,[]⟩ (.code (.rangeFunc (.tmp 6) #[7] MX I9)::FI)) (fr::cs):=by kernel_rfl
theorem NM:(⟨Zh bx bS,[]⟩:Act).eval (.tmp 6)= .func (.func R5) #[] #[pb bx]:=by kernel_rfl
def lE (st:LoopState)(bx bS D:Nat):Loop:=cJ (Zh bx bS) MX I9 st D
def Gp:Frame:=(base CU).at ⟨Zh bx bS,[{target:= .collected D,args:=#[]}]⟩ (.inRangeFunc l::FI)
def ZB:Goroutine:=G (Frame.enter PP R5 #[.func (.yield l) #[] #[],pb bx] .normal) (Gp bx bS D l::fr::cs)
def ZA:Goroutine:=OT (ZB bx bS D l fr cs)
theorem TN:av PP true (ZB bx bS D l fr cs) (ZA bx bS D l fr cs):=bu fun ws=>by kernel_rfl
theorem J8:aQ (ZA bx bS D l fr cs)=some (.load Nd (pb bx)):=by kernel_rfl
def TL:Goroutine:=OT (resume (ZA bx bS D l fr cs) (.map (some M)))
theorem TK:av PP true (resume (ZA bx bS D l fr cs) (.map (some M))) (TL bx bS M D l fr cs):=bu fun ws=>by kernel_rfl
theorem J7:aQ (TL bx bS M D l fr cs)=some (.range Nd (.map (some M))):=by kernel_rfl
end
def Zf:List Item:=(OT (resume (TL 0 0 0 0 0 default []) (pb 0))).frame.todo
def gK (tm:Array Value)(F1:Frame)(cs1:List Frame):Goroutine:=G ((base R5).at ⟨tm,[]⟩ Zf) (F1::cs1)
structure HK (l it:Nat)(tm:Array Value):Prop where
 size:tm.size=14
 s0:tm[0]? =some (.func (.yield l) #[] #[])
 s5:tm[5]? =some (pb it)
section
variable (bx bS M it D l xb:Nat)(k:ByteArray)(v sv nv:Value)(fr F1:Frame)(cs cs1:List Frame)(y:Nat->Value)
def tmK:Array Value:=#[.func (.yield l) #[] #[],y 1,y 2,y 3,y 4,pb it,y 6,y 7,y 8,y 9,y 10,y 11,y 12,y 13]
theorem N5 (tm:Array Value)(h:tm.size=14):tm=#[tm.getD 0 undef,tm.getD 1 undef,tm.getD 2 undef,tm.getD 3 undef,tm.getD 4 undef,tm.getD 5 undef,tm.getD 6 undef,tm.getD 7 undef,tm.getD 8 undef,tm.getD 9 undef,tm.getD 10 undef,tm.getD 11 undef,tm.getD 12 undef,tm.getD 13 undef]:=by
 have e:tm=((List.range 14).map fun i=>tm.getD i undef).toArray:=by
  apply Array.ext
  .simp[h]
  .intro i h1 h2
   simp[Array.getD_eq_getD_getElem?,h1]
 exact e.trans (by kernel_rfl)
theorem HK.eq {l it:Nat}{tm:Array Value}(h:HK l it tm):tm=tmK it l fun i=>tm.getD i undef:=by
 have h1:=N5 tm h.size;rw[bZ h.s0,bZ h.s5] at h1;exact h1
theorem TJ:∃tm,HK l it tm/\av PP true (resume (TL bx bS M D l fr cs) (pb it)) (gK tm (Gp bx bS D l) (fr::cs)):=
 ⟨(OT (resume (TL bx bS M D l fr cs) (pb it))).frame.tmps,⟨by kernel_rfl,by kernel_rfl,by kernel_rfl⟩,bK 200 (bN PP true 200 (resume (TL bx bS M D l fr cs) (pb it))) fun ws=>by kernel_rfl⟩
abbrev kl:Goroutine:=gK (tmK it l y) F1 cs1
def nxK:TypeId:=match aQ (kl 0 0 default [] fun _=>undef) with|some (.next _ _ t)=>t|_=>0
theorem aa4:aQ (kl it l F1 cs1 y)=some (.next (pb it) false nxK):=by kernel_rfl
def kA:Goroutine:=OT (resume (kl it l F1 cs1 y) (.tuple #[.bool true,.string k,v]))
theorem aa7:av PP true (resume (kl it l F1 cs1 y) (.tuple #[.bool true,.string k,v])) (kA it l k v F1 cs1 y):=bu fun ws=>by kernel_rfl
theorem aa6:aQ (kA it l k v F1 cs1 y)=some (.entry (pb it)):=by kernel_rfl
def FB:Frame:=(OT (resume (kA it l k v default [] y) (.tuple #[.string k,v]))).frame
theorem aa5:av PP true (resume (kA it l k v F1 cs1 y) (.tuple #[.string k,v])) (G (FB it l k v y) (F1::cs1)):=bK 200 (bN PP true 200 (resume (kA it l k v F1 cs1 y) (.tuple #[.string k,v]))) fun ws=>by kernel_rfl
theorem Q2:∃tm,HK l it tm/\av PP true (G ((FB it l k v y).finish (.bool true)) (F1::cs1)) (gK tm F1 cs1):=
 ⟨(OT (G ((FB it l k v y).finish (.bool true)) (F1::cs1))).frame.tmps,⟨by kernel_rfl,by kernel_rfl,by kernel_rfl⟩,bK 200 (bN PP true 200 (G ((FB it l k v y).finish (.bool true)) (F1::cs1))) fun ws=>by kernel_rfl⟩
end
section
variable (bx bS M it D l xb:Nat)(k:ByteArray)(v sv nv:Value)(fr F1:Frame)(cs cs1:List Frame)(y:Nat->Value)
theorem Pv:av PP true (resume (kl it l F1 cs1 y) (.tuple #[.bool false])) (cB F1 cs1 U):=bK 7 (bN PP true 7 (resume (kl it l F1 cs1 y) (.tuple #[.bool false]))) fun ws=>by kernel_rfl
def OS:Array Oper:=match(FB 0 0 ⟨#[]⟩ undef fun _=>undef).todo with|.inRegion ops _::_=>ops|_=>#[]
def iB:Nat:=match(FB 0 0 ⟨#[]⟩ undef fun _=>undef).todo with|.inRegion _ (i::_)::_=>i|_=>0
def rB:List Nat:=match(FB 0 0 ⟨#[]⟩ undef fun _=>undef).todo with|.inRegion _ (_::r)::_=>r|_=>[]
def kB:List Item:=(FB 0 0 ⟨#[]⟩ undef fun _=>undef).todo.tail
def oY:Oper:=(OS[iB]?).getD default
theorem Q0:(FB it l k v y).mode= .run:=by kernel_rfl
theorem Q1:(FB it l k v y).kind= .normal:=by kernel_rfl
theorem QZ:(FB it l k v y).todo= .inRegion OS (iB::rB)::kB:=by kernel_rfl
theorem aaF:OS[iB]? =some oY:=by kernel_rfl
theorem OZ:Region.wanted oY (yielded OS (FB it l k v y).tmps)=true:=by kernel_rfl
theorem Rs:oY.op= .call {callee:= .value (.tmp 10),args:=#[.tmp 11],argTypes:=#[9]}:=by kernel_rfl
theorem adi:(FB it l k v y).eval (.tmp 10)= .func (.yield l) #[] #[]:=by kernel_rfl
theorem adh:(FB it l k v y).eval (.tmp 11)= .string k:=by kernel_rfl
def Re:Array Value:=(Zh bx bS).setIfInBounds 7 (.string k)
def gR0:Goroutine:=G (Frame.round l CU (Re bx bS k) MX I9 .normal) (F1::cs1)
def Nv:Frame:=(OT (gR0 bx bS l k default [])).frame
theorem WV:av PP true (gR0 bx bS l k F1 cs1) (G (Nv bx bS l k) (F1::cs1)):=bK 200 (bN PP true 200 (gR0 bx bS l k F1 cs1)) fun ws=>by kernel_rfl
theorem L9:(Nv bx bS l k).mode= .run:=by kernel_rfl
theorem Ma:(Nv bx bS l k).kind= .normal:=by kernel_rfl
theorem L8:(Nv bx bS l k).todo= .beginRound::[.code I9]:=by kernel_rfl
theorem IG:(Nv bx bS l k).roundOf=some l:=by kernel_rfl
end
section
variable (bx bS M it D l xb:Nat)(k:ByteArray)(v sv nv:Value)(fr F1:Frame)(cs cs1:List Frame)(y:Nat->Value)
def CT:Frame:=(OT (G ((Nv bx bS l k).finish undef) (default::[]))).frame
theorem Xr:av PP true (G ((Nv bx bS l k).finish undef) (F1::cs1)) (G (CT bx bS l k) (F1::cs1)):=bK 200 (bN PP true 200 (G ((Nv bx bS l k).finish undef) (F1::cs1))) fun ws=>by kernel_rfl
def OX:Array Oper:=match(CT 0 0 0 ⟨#[]⟩).todo with|.inRegion ops _::_=>ops|_=>#[]
def i2:Nat:=match(CT 0 0 0 ⟨#[]⟩).todo with|.inRegion _ (i::_)::_=>i|_=>0
def r2:List Nat:=match(CT 0 0 0 ⟨#[]⟩).todo with|.inRegion _ (_::r)::_=>r|_=>[]
def k2:List Item:=(CT 0 0 0 ⟨#[]⟩).todo.tail
def o2:Oper:=(OX[i2]?).getD default
theorem L6:(CT bx bS l k).mode= .run:=by kernel_rfl
theorem L7:(CT bx bS l k).kind= .normal:=by kernel_rfl
theorem L5:(CT bx bS l k).todo= .inRegion OX (i2::r2)::k2:=by kernel_rfl
theorem aaJ:OX[i2]? =some o2:=by kernel_rfl
theorem O4:Region.wanted o2 (yielded OX (CT bx bS l k).tmps)=true:=by kernel_rfl
theorem Rw:o2.op= .load lq (.tmp 2):=by kernel_rfl
theorem acv:(CT bx bS l k).eval (.tmp 2)=pb bS:=by kernel_rfl
def A0:Frame:=(OT (G ((CT bx bS l k).finish sv) (default::[]))).frame
theorem Xq:av PP true (G ((CT bx bS l k).finish sv) (F1::cs1)) (G (A0 bx bS l k sv) (F1::cs1)):=bK 200 (bN PP true 200 (G ((CT bx bS l k).finish sv) (F1::cs1))) fun ws=>by kernel_rfl
def OW:Array Oper:=match(A0 0 0 0 ⟨#[]⟩ undef).todo with|.inRegion ops _::_=>ops|_=>#[]
def i3:Nat:=match(A0 0 0 0 ⟨#[]⟩ undef).todo with|.inRegion _ (i::_)::_=>i|_=>0
def r3:List Nat:=match(A0 0 0 0 ⟨#[]⟩ undef).todo with|.inRegion _ (_::r)::_=>r|_=>[]
def k3:List Item:=(A0 0 0 0 ⟨#[]⟩ undef).todo.tail
def o3:Oper:=(OW[i3]?).getD default
theorem L0:(A0 bx bS l k sv).mode= .run:=by kernel_rfl
theorem L4:(A0 bx bS l k sv).kind= .normal:=by kernel_rfl
theorem LZ:(A0 bx bS l k sv).todo= .inRegion OW (i3::r3)::k3:=by kernel_rfl
theorem aaI:OW[i3]? =some o3:=by kernel_rfl
theorem O3:Region.wanted o3 (yielded OW (A0 bx bS l k sv).tmps)=true:=by kernel_rfl
theorem Rv:o3.op= .buildSlice lq 1 #[(0,.tmp 9)]:=by kernel_rfl
theorem acu:(A0 bx bS l k sv).eval (.tmp 9)= .string k:=by kernel_rfl
def AG:Frame:=(OT (G ((A0 bx bS l k sv).finish (.slice (some ⟨xb,0,none⟩) 1 1)) (default::[]))).frame
theorem Xo:av PP true (G ((A0 bx bS l k sv).finish (.slice (some ⟨xb,0,none⟩) 1 1)) (F1::cs1)) (G (AG bx bS l xb k sv) (F1::cs1)):=bK 200 (bN PP true 200 (G ((A0 bx bS l k sv).finish (.slice (some ⟨xb,0,none⟩) 1 1)) (F1::cs1))) fun ws=>by kernel_rfl
def OV:Array Oper:=match(AG 0 0 0 0 ⟨#[]⟩ undef).todo with|.inRegion ops _::_=>ops|_=>#[]
def i4:Nat:=match(AG 0 0 0 0 ⟨#[]⟩ undef).todo with|.inRegion _ (i::_)::_=>i|_=>0
def r4:List Nat:=match(AG 0 0 0 0 ⟨#[]⟩ undef).todo with|.inRegion _ (_::r)::_=>r|_=>[]
def k4:List Item:=(AG 0 0 0 0 ⟨#[]⟩ undef).todo.tail
def o4:Oper:=(OV[i4]?).getD default
theorem LX:(AG bx bS l xb k sv).mode= .run:=by kernel_rfl
theorem LY:(AG bx bS l xb k sv).kind= .normal:=by kernel_rfl
theorem LV:(AG bx bS l xb k sv).todo= .inRegion OV (i4::r4)::k4:=by kernel_rfl
theorem aaH:OV[i4]? =some o4:=by kernel_rfl
theorem O2:Region.wanted o4 (yielded OV (AG bx bS l xb k sv).tmps)=true:=by kernel_rfl
theorem Ru:o4.op= .call {callee:= .builtin .append,args:=#[.tmp 8,.tmp 10],argTypes:=#[lq,lq]}:=by kernel_rfl
theorem acs:(AG bx bS l xb k sv).eval (.tmp 8)=sv:=by kernel_rfl
theorem Xp:(AG bx bS l xb k sv).eval (.tmp 10)= .slice (some ⟨xb,0,none⟩) 1 1:=by kernel_rfl
def AZ:Frame:=(OT (G ((AG bx bS l xb k sv).finish nv) (default::[]))).frame
theorem Xm:av PP true (G ((AG bx bS l xb k sv).finish nv) (F1::cs1)) (G (AZ bx bS l xb k sv nv) (F1::cs1)):=bK 200 (bN PP true 200 (G ((AG bx bS l xb k sv).finish nv) (F1::cs1))) fun ws=>by kernel_rfl
def OU:Array Oper:=match(AZ 0 0 0 0 ⟨#[]⟩ undef undef).todo with|.inRegion ops _::_=>ops|_=>#[]
def i5:Nat:=match(AZ 0 0 0 0 ⟨#[]⟩ undef undef).todo with|.inRegion _ (i::_)::_=>i|_=>0
def r5:List Nat:=match(AZ 0 0 0 0 ⟨#[]⟩ undef undef).todo with|.inRegion _ (_::r)::_=>r|_=>[]
def k5:List Item:=(AZ 0 0 0 0 ⟨#[]⟩ undef undef).todo.tail
def o5:Oper:=(OU[i5]?).getD default
theorem LR:(AZ bx bS l xb k sv nv).mode= .run:=by kernel_rfl
theorem LU:(AZ bx bS l xb k sv nv).kind= .normal:=by kernel_rfl
theorem LQ:(AZ bx bS l xb k sv nv).todo= .inRegion OU (i5::r5)::k5:=by kernel_rfl
theorem aaG:OU[i5]? =some o5:=by kernel_rfl
theorem O1:Region.wanted o5 (yielded OU (AZ bx bS l xb k sv nv).tmps)=true:=by kernel_rfl
theorem Rt:o5.op= .store lq (.tmp 2) (.tmp 11):=by kernel_rfl
theorem acr:(AZ bx bS l xb k sv nv).eval (.tmp 2)=pb bS:=by kernel_rfl
theorem Xn:(AZ bx bS l xb k sv nv).eval (.tmp 11)=nv:=by kernel_rfl
def YC:Frame:=(Ah PP true 2 (G ((AZ bx bS l xb k sv nv).finish undef) (default::[]))).frame
theorem Xl:av PP true (G ((AZ bx bS l xb k sv nv).finish undef) (F1::cs1)) (G (YC bx bS l xb k sv nv) (F1::cs1)):=bK 2 (bN PP true 2 (G ((AZ bx bS l xb k sv nv).finish undef) (F1::cs1))) fun ws=>by kernel_rfl
theorem LO:(YC bx bS l xb k sv nv).mode= .run:=by kernel_rfl
theorem LP:(YC bx bS l xb k sv nv).kind= .normal:=by kernel_rfl
theorem LN:(YC bx bS l xb k sv nv).todo=[]:=by kernel_rfl
theorem IF:(YC bx bS l xb k sv nv).roundOf=some l:=by kernel_rfl
def fE0:Frame:={(Gp bx bS D l).finish U with todo:=FI}
theorem Qi:((Gp bx bS D l).finish U).todo= .endRangeFunc l::FI:=by kernel_rfl
theorem Qj:((Gp bx bS D l).finish U).mode= .run:=by kernel_rfl
def Yd:Goroutine:=OT (G (fE0 bx bS D l) (fr::cs))
theorem Uk:av PP true (G (fE0 bx bS D l) (fr::cs)) (Yd bx bS D l fr cs):=bu fun ws=>by kernel_rfl
theorem J9:aQ (Yd bx bS D l fr cs)=some (.load lq (pb bS)):=by kernel_rfl
def Xv:Frame:=(OT (resume (Yd bx bS D l default []) sv)).frame
theorem Xu:av PP true (resume (Yd bx bS D l fr cs) sv) (G (Xv bx bS D l sv) (fr::cs)):=bK 200 (bN PP true 200 (resume (Yd bx bS D l fr cs) sv)) fun ws=>by kernel_rfl
theorem Mb:(Xv bx bS D l sv).mode= .returning:=by kernel_rfl
theorem EL:(Xv bx bS D l sv).defers=[{target:= .collected D,args:=#[]}]:=by kernel_rfl
theorem Xt:av PP true (G {Xv bx bS D l sv with defers:=[]} (fr::cs)) (cB fr cs sv):=bK 1 (bN PP true 1 (G {Xv bx bS D l sv with defers:=[]} (fr::cs))) fun ws=>by kernel_rfl
end
end Sq
end aI
end
section
open Go.Conc
open Go.MapKept
open Go.ConcM (OsLater)
namespace aI
namespace Sq
section
variable {own:Nat->Prop}{w:World}{g g':Goroutine}{Stop:(Nat->Prop)->Goroutine->World->Prop}
theorem t8 {O:Nat->Prop}{n n' b:Nat}{e:Event}(hb:O b)(h:EvB b e):Sl O no n n' e:= .inl ⟨b,.inl hb,h.2⟩
theorem DA (hs:g.status= .running)(h:∀d,∃es,stepG PP true g (w.at d)= .go g' (w.at d) es/\∀e∈es,∃b,own b/\EvB b e)(k:aD PP true kK Stop own g' w):aD PP true kK Stop own g w:=by
 refine aD.step hs fun w₁ h1=>?_
 obtain⟨d,rfl⟩:=h1;obtain⟨es,e1,e2⟩:=h d;refine⟨_,_,es,e1,⟨Nat.le_refl _,fun _ _ _=>rfl,rfl,rfl,rfl,fun e he=>by obtain⟨b,h1,h2⟩:=e2 e he;exact t8 h1 h2⟩,?_⟩;rw[(idle0 own (w.at d)).2];exact k.rely ⟨d,rfl⟩
theorem aeS {b:Nat}{o:Obj}(hs:g.status= .running)(hb:own b)(h:∀d,∃w' es,stepG PP true g (w.at d)= .go g' w' es/\yD b o (w.at d) w'/\∀e∈es,∃b,own b/\EvB b e)
  (k:∀w',w'.heap.size=w.heap.size->w'.heap[b]? =some o->(∀c,c≠b->w'.heap[c]? =w.heap[c]?)->w'.os=w.os->aD PP true kK Stop own g' w'):aD PP true kK Stop own g w:=by
 refine aD.step hs fun w₁ h1=>?_
 obtain⟨d,rfl⟩:=h1;obtain⟨w',es,e1,u,e2⟩:=h d;have hup:kK.up own (w.at d) w'=own:=funext fun c=>propext ⟨fun x=>x.elim id fun x=>by have:=u.size;omega,.inl⟩
 refine⟨_,w',es,e1,⟨by rw[u.size];exact Nat.le_refl _,fun c _ hc=>u.rest c fun e=>hc (e▸hb),u.os,u.output,u.tape,fun e he=>by obtain⟨b,h1,h2⟩:=e2 e he;exact t8 h1 h2⟩,?_⟩;rw[hup];exact k w' u.size u.at_ u.rest u.os
theorem new1 {os:List Obj}(hs:g.status= .running)(h:∀d,stepG PP true g (w.at d)= .go g' {w.at d with heap:=os.foldl Array.push (w.at d).heap} #[])
  (k:∀w',w'.heap=os.foldl Array.push w.heap->w'.os=w.os->aD PP true kK Stop (fun b=>own b\/(w.heap.size<=b/\b<w'.heap.size)) g' w'):aD PP true kK Stop own g w:=by
 have hsz:∀(l:List Obj) (a:Array Obj),a.size<=(l.foldl Array.push a).size:=fun l=>by
  induction l with
  |nil=>intro a;exact Nat.le_refl _
  |cons x l ih=>intro a;exact Nat.le_trans (by simp) (ih (a.push x))
 have hget:∀(l:List Obj) (a:Array Obj) (b:Nat),b<a.size->(l.foldl Array.push a)[b]? =a[b]? :=fun l=>by
  induction l with
  |nil=>intro a b _;rfl
  |cons x l ih=>intro a b hb;exact(ih (a.push x) b (by simp;omega)).trans (by rw[Array.getElem?_push_lt hb];exact(Array.getElem?_eq_getElem hb).symm)
 refine aD.step hs fun w₁ h1=>?_
 obtain⟨d,rfl⟩:=h1;refine⟨_,_,_,h d,⟨hsz os _,fun b hb _=>hget os _ b hb,rfl,rfl,rfl,by simp⟩,?_⟩;exact k _ rfl rfl
theorem app1 {mine:Nat->Prop}{ks:List ByteArray}(hs:g.status= .running)(hm:∀b,mine b->own b){gx:Value->Goroutine}(h:∀d,∃v w' es ev,stepG PP true g (w.at d)= .go (gx v) w' es/\(∀e∈es,e∈ev)/\App mine ks (w.at d) v w' ev)
  (k:∀v w',w.heap.size<=w'.heap.size->(∀b,b<w.heap.size->¬mine b->w'.heap[b]? =w.heap[b]?)->Strs w' (fun b=>mine b\/(w.heap.size<=b/\b<w'.heap.size)) v ks->w'.os=w.os->aD PP true kK Stop (fun b=>own b\/(w.heap.size<=b/\b<w'.heap.size)) (gx v) w'):aD PP true kK Stop own g w:=by
 refine aD.step hs fun w₁ h1=>?_
 obtain⟨d,rfl⟩:=h1;obtain⟨v,w',es,ev,e1,e2,a⟩:=h d;refine⟨_,w',es,e1,⟨a.size,fun b hb ho=>a.keep b hb fun x=>ho (hm b x),a.os,a.output,a.tape,fun e he=>?_⟩,k v w' a.size a.keep a.strs a.os⟩;rcases a.ev e (e2 e he) with⟨b,h1,h2⟩|h
 .exact t8 (hm b h1) h2
 .exact .inr h
end
section
variable {bx bS D l it xb:Nat}{k:ByteArray}{v sv nv:Value}{F1:Frame}{cs0:List Frame}{y:Nat->Value}{w:World}{st:LoopState}
theorem Ai {b:Nat}{es:Array Event}{f:FuncId}{x y:Bool}(h:es=seen PP f #[⟨.obj b,x,false⟩,⟨.obj b,y,false⟩]):∀e∈es,EvB b e:=by
 intro e he;subst h;have:=mem_seen he;simp at this;rcases this with rfl|rfl<;>exact dN
theorem JQ (hl:w.heap[l]? =some (.loop (lE st bx bS D))):∃es,stepG PP true (G (FB it l k v y) cs0) w= .go (G (Frame.round l CU (Re bx bS k) MX I9 .normal) (FB it l k v y::cs0)) w es/\∀e∈es,EvB l e:=by
 have h1:RT (execOp (FB it l k v y).eval oY) w (.round l CU (Re bx bS k) MX I9) w #[⟨.obj l,false,false⟩]:=by
  have e:execOp (FB it l k v y).eval oY=(do let d <-resolve (FB it l k v y).eval {callee:= .value (.tmp 10),args:=#[.tmp 11],argTypes:=#[9]} oY.type;invoke d.target d.args):=by
   unfold execOp;rw[Rs]
  rw[e];refine RT.aP (w1:=w) (x:={target:= .fn (.yield l) #[],args:=#[.string k]}) ?_ ?_
  .unfold resolve
   simp only[List.map_toArray,List.map_cons,List.map_nil,adi,adh];exact .pure _
  .unfold lE at hl
   unfold Re;exact GF hl
 refine⟨_,(stepG_op (Q0 it l k v y) (QZ it l k v y) aaF (OZ it l k v y) (by rw[Rs];simp)).trans (Dk h1 (Q1 it l k v y)),fun e he=>?_⟩;have:=mem_seen he;simp at this;subst this;exact dN
theorem JT (hl:w.heap[l]? =some (.loop (lE .ready bx bS D))):∃w' es,stepG PP true (G (Nv bx bS l k) cs0) w= .go (G ((Nv bx bS l k).finish undef) cs0) w' es/\yD l (.loop (lE .busy bx bS D)) w w'/\∀e∈es,EvB l e:=by
 unfold lE at hl⊢;have h:=Ja hl;exact⟨_,_,Bo (L9 bx bS l k) (L8 bx bS l k) (IG bx bS l k) (Ma bx bS l k) h,mb hl,Ai rfl⟩
theorem NV (hb:w.heap[bS]? =some (.cells #[sv] lq (0,0))):∃es,stepG PP true (G (CT bx bS l k) cs0) w= .go (G ((CT bx bS l k).finish sv) cs0) w es/\∀e∈es,EvB bS e:=by
 have h1:RT (execOp (CT bx bS l k).eval o2) w (.value sv) w #[⟨.cell ⟨bS,0,none⟩,false,false⟩]:=by
  have e:execOp (CT bx bS l k).eval o2=(do pure (.value (<-Instr.loadAt lq (pb bS)))):=by
   unfold execOp;rw[Rw];simp only[acv]
  rw[e];refine RT.eG (x:=sv) ?_ (.pure _);show RT (do if<-isAgg lq then Pure.pure (.agg (<-loadCells ⟨bS,0,none⟩ (<-Go.sizeOf lq))) else load ⟨bS,0,none⟩) _ _ _ _;refine(gC (b:=false)).aP ?_;simp only[Bool.false_eq_true,if_false];exact jZ (cell_of hb rfl)
 refine⟨_,(stepG_op (L6 ..) (L5 ..) aaJ (O4 bx bS l k) (by rw[Rw];simp)).trans (oE h1 (L7 ..)),fun e he=>?_⟩;have:=mem_seen he;simp at this;subst this;exact iT rfl
theorem JS:stepG PP true (G (A0 bx bS l k sv) cs0) w= .go (G ((A0 bx bS l k sv).finish (.slice (some ⟨w.heap.size,0,none⟩) 1 1)) cs0) {w with heap:=w.heap.push (.cells #[.string k] jE (0,0))} #[]:=by
 have h1:RT (execOp (A0 bx bS l k sv).eval o3) w (.value (.slice (some ⟨w.heap.size,0,none⟩) 1 1)) {w with heap:=w.heap.push (.cells #[.string k] jE (0,0))} #[]:=by
  have e:execOp (A0 bx bS l k sv).eval o3=(do pure (.value (<-Instr.buildSlice lq 1 #[(0,.string k)]))):=by
   unfold execOp;rw[Rv];simp only[List.map_toArray,List.map_cons,List.map_nil,acu]
  rw[e];exact RT.aP BP (.pure _)
 have:=(stepG_op (main:=true) (cs:=cs0) (w:=w) (L0 bx bS l k sv) (LZ bx bS l k sv) aaI (O3 bx bS l k sv) (by rw[Rv];simp)).trans (oE h1 (L4 ..));rw[seen_none] at this;exact this
theorem G1 {mine:Nat->Prop}{ks:List ByteArray}{f:Nat×Nat}(hs:Strs w mine sv ks)(hx:w.heap[xb]? =some (.cells #[.string k] jE f))(ox:mine xb)(hl:ks.length<2^40):
  ∃v w' es ev,stepG PP true (G (AG bx bS l xb k sv) cs0) w= .go (G ((AG bx bS l xb k sv).finish v) cs0) w' es/\(∀e∈es,e∈ev)/\App mine (ks++[k]) w v w' ev:=by
 obtain⟨v,w',ev,h1,h2⟩:=Ho o4.type hs hx ox hl;have h3:RT (execOp (AG bx bS l xb k sv).eval o4) w (.value v) w' ev:=by
  have e:execOp (AG bx bS l xb k sv).eval o4=(do let d <-resolve (AG bx bS l xb k sv).eval {callee:= .builtin .append,args:=#[.tmp 8,.tmp 10],argTypes:=#[lq,lq]} o4.type;invoke d.target d.args):=by
   unfold execOp;rw[Ru]
  rw[e];refine RT.aP (w1:=w) (x:={target:= .builtin .append #[lq,lq] o4.type #[false,false],args:=#[sv,.slice (some ⟨xb,0,none⟩) 1 1]}) ?_ ?_
  .unfold resolve
   simp only[List.map_toArray,List.map_cons,List.map_nil,acs,Xp];exact .pure _
  .show RT (do Pure.pure (Next.value (<-Builtin.append_ #[lq,lq] o4.type #[sv,.slice (some ⟨xb,0,none⟩) 1 1]))) _ _ _ _
   exact RT.eG h1 (.pure _)
 exact⟨v,w',_,ev,(stepG_op (LX ..) (LV ..) aaH (O2 bx bS l xb k sv) (by rw[Ru];simp)).trans (oE h3 (LY ..)),fun e he=>mem_seen he,h2⟩
theorem V4:(PP.info? lq).map (·.size)=some 1:=by kernel_rfl
theorem JR {ov:Value}(hb:w.heap[bS]? =some (.cells #[ov] lq (0,0)))(h1:nv.cells=#[nv])(h2:kM nv=true):∃w' es,stepG PP true (G (AZ bx bS l xb k sv nv) cs0) w= .go (G ((AZ bx bS l xb k sv nv).finish undef) cs0) w' es/\yD bS (.cells #[nv] lq (0,0)) w w'/\∀e∈es,EvB bS e:=by
 obtain⟨w',ev,r1,r2,r3⟩:=fC (t:=lq) (off:=0) (v:=nv) hb (by rw[h1];exact V4) (by rw[h1];simp) (by rw[h1];simpa using h2);have h3:RT (execOp (AZ bx bS l xb k sv nv).eval o5) w .skip w' ev:=by
  have e:execOp (AZ bx bS l xb k sv nv).eval o5=(kJ.store lq (pb bS) nv).sem:=by
   unfold execOp;rw[Rt];simp only[acr,Xn];rfl
  rw[e];exact r1
 refine⟨w',_,(stepG_op (LR ..) (LQ ..) aaG (O1 bx bS l xb k sv nv) (by rw[Rt];simp)).trans (xD h3 (LU ..)),?_,fun e he=>r3 e (mem_seen he)⟩;rw[h1] at r2;simpa [kj] using r2
theorem NW (hl:w.heap[l]? =some (.loop (lE .busy bx bS D))){c:Frame}:∃w' es,stepG PP true (G (YC bx bS l xb k sv nv) (c::cs0)) w= .go (G (c.finish (.bool true)) cs0) w' es/\yD l (.loop (lE .ready bx bS D)) w w'/\∀e∈es,EvB l e:=by
 unfold lE at hl⊢;have h:=Mg hl;exact⟨_,_,DE (LO bx bS l xb k sv nv) (LN bx bS l xb k sv nv) (IF bx bS l xb k sv nv) (LP bx bS l xb k sv nv) h,mb hl,Ai rfl⟩
theorem NX (hl:w.heap[l]? =some (.loop (lE .ready bx bS D))):∃w' es,stepG PP true (G ((Gp bx bS D l).finish U) cs0) w= .go (G (fE0 bx bS D l) cs0) w' es/\yD l (.loop (lE .exhausted bx bS D)) w w'/\∀e∈es,EvB l e:=by
 unfold lE at hl⊢;have h:=Mh hl;exact⟨_,_,DF (Qj bx bS D l) (Qi bx bS D l) h,mb hl,Ai rfl⟩
theorem NU (hD:w.heap[D]? =some (.deferred (some []))):∃w' es,stepG PP true (G (Xv bx bS D l sv) cs0) w= .go (G {Xv bx bS D l sv with defers:=[]} cs0) w' es/\yD D (.deferred none) w w'/\∀e∈es,EvB D e:=
 ⟨_,_,DD (Mb bx bS D l sv) (EL bx bS D l sv) (Oy hD),mb hD,Ai rfl⟩
theorem V7 {tm:Array Value}{ve body:Code}{k:List Item}{cs:List Frame}(hseq:(⟨tm,[]⟩:Act).eval (.tmp 6)= .func (.func R5) #[] #[pb bx]):
  stepG PP true (G ((base CU).at ⟨tm,[]⟩ (.code (.rangeFunc (.tmp 6) #[7] ve body)::k)) cs) w= .go (G (Frame.enter PP R5 #[.func (.yield (w.heap.size+1)) #[] #[],pb bx] .normal) ((base CU).at ⟨tm,[{target:= .collected w.heap.size,args:=#[]}]⟩ (.inRangeFunc (w.heap.size+1)::k)::cs))
   {w with heap:=(w.heap.push (.deferred (some []))).push (.loop (cJ tm ve body .ready w.heap.size))} #[]:=by
 have h:=IM (w:=w) tm ve body;have key:=xX (main:=true) (b:=base CU) (k:=k) (cs:=cs) (gf:=R5) (lb:=#[pb bx]) hseq Tryz.func135 (by kernel_rfl) (by kernel_rfl) rfl h;have e1:(#[.func (.yield (w.heap.size+1)) #[] #[]]++#[pb bx]:Array Value)=#[.func (.yield (w.heap.size+1)) #[] #[],pb bx]:=by simp
 rw[e1] at key;exact key
theorem Zs {fr:Frame}{cs:List Frame}:stepG PP true (Tt bx bS fr cs) w= .go (ZB bx bS w.heap.size (w.heap.size+1) fr cs) {w with heap:=(w.heap.push (.deferred (some []))).push (.loop (lE .ready bx bS w.heap.size))} #[]:=by
 rw[Tr];unfold lE ZB Gp;exact V7 (NM bx bS)
end
theorem _root_.Go.Proofs.YtchcmhodnkgojaaGreat.aI.Strs.keep {w w':World}{own own':Nat->Prop}{v:Value}{ks:List ByteArray}(h:Strs w own v ks)(hk:∀b,own b->w'.heap[b]? =w.heap[b]?)(ho:∀b,own b->own' b):Strs w' own' v ks:=by
 rcases h with h|⟨sk,cap,h1,h2,h3,h4⟩
 .exact .inl h
 .exact .inr ⟨sk,cap,h1,ho sk h2,h3,by rw[hk sk h2];exact h4⟩
theorem _root_.Go.Proofs.YtchcmhodnkgojaaGreat.aI.Strs.one {w:World}{own:Nat->Prop}{v:Value}{ks:List ByteArray}(h:Strs w own v ks):v.cells=#[v]/\kM v=true:=by
 rcases h with⟨rfl,_⟩|⟨sk,cap,rfl,_⟩<;>exact⟨rfl,rfl⟩
def iM (O0:Nat->Prop)(n0:Nat)(w:World):Nat->Prop:=fun b=>O0 b\/(n0<=b/\b<w.heap.size)
theorem sJ {O0:Nat->Prop}{n0:Nat}{w w':World}(h0:n0<=w.heap.size)(h:w.heap.size<=w'.heap.size):(fun b=>iM O0 n0 w b\/(w.heap.size<=b/\b<w'.heap.size))=iM O0 n0 w':=funext fun b=>propext (by
 unfold iM;constructor
 .rintro((h|h)|h)
  .exact .inl h
  .exact .inr ⟨h.1,by omega⟩
  .exact .inr ⟨by omega,h.2⟩
 .rintro(h|h)
  .exact .inl (.inl h)
  .by_cases hb:b<w.heap.size
   .exact .inl (.inr ⟨h.1,hb⟩)
   .exact .inr ⟨by omega,h.2⟩)
theorem KD {O0:Nat->Prop}{n0:Nat}{w w':World}(h:w'.heap.size=w.heap.size):iM O0 n0 w'=iM O0 n0 w:=by unfold iM;rw[h]
section
variable (O0:Nat->Prop)(w0:World)(bx M c:Nat)(f:ByteArray->Option Value)(fr:Frame)(cs:List Frame)
structure J (st:LoopState)(sv:Value)(ks:List ByteArray)(seen:Array Nat)(w:World):Prop where
 hs:w0.heap.size+4<=w.heap.size
 old:∀b,b<w0.heap.size->w.heap[b]? =w0.heap[b]?
 os:w.os=w0.os
 box:w.heap[w0.heap.size]? =some (.cells #[sv] lq (0,0))
 XD:w.heap[w0.heap.size+1]? =some (.deferred (some []))
 lop:w.heap[w0.heap.size+2]? =some (.loop (lE st bx w0.heap.size (w0.heap.size+1)))
 V3:w.heap[w0.heap.size+3]? =some (.mapIter (some M) c seen c)
 strs:Strs w (fun b=>w0.heap.size+4<=b/\b<w.heap.size) sv ks
def Fin (s:Nat->Prop)(g:Goroutine)(w:World):Prop:=∃sv ks,g=cB fr cs sv/\s=iM O0 w0.heap.size w/\w0.heap.size<=w.heap.size/\(∀b,b<w0.heap.size->w.heap[b]? =w0.heap[b]?)/\w.os=w0.os/\
 Strs w (fun b=>w0.heap.size+4<=b/\b<w.heap.size) sv ks/\ks.Nodup/\∀s,s∈ks↔f s≠none
end
section
variable {O0:Nat->Prop}{w0 w w':World}{bx M c:Nat}{es:Array MapEntry}{f:ByteArray->Option Value}{fr:Frame}{cs:List Frame}{st st':LoopState}{sv nv:Value}{ks:List ByteArray}{seen:Array Nat}
theorem J.at (h:J w0 bx M c st sv ks seen w)(d:Nat):J w0 bx M c st sv ks seen (w.at d):=⟨h.hs,h.old,h.os,h.box,h.XD,h.lop,h.V3,h.strs⟩
theorem J.loop (h:J w0 bx M c st sv ks seen w)(h1:w'.heap.size=w.heap.size)(h2:w'.heap[w0.heap.size+2]? =some (.loop (lE st' bx w0.heap.size (w0.heap.size+1))))(h3:∀b,b≠w0.heap.size+2->w'.heap[b]? =w.heap[b]?)(h4:w'.os=w.os):J w0 bx M c st' sv ks seen w':=
 ⟨by rw[h1];exact h.hs,fun b hb=>by rw[h3 b (by omega)];exact h.old b hb,h4.trans h.os,by rw[h3 _ (by omega)];exact h.box,by rw[h3 _ (by omega)];exact h.XD,h2,by rw[h3 _ (by omega)];exact h.V3,h.strs.keep (fun b hb=>h3 b (by omega)) fun b hb=>by rw[h1];exact hb⟩
theorem J.next {seen':Array Nat}(h:J w0 bx M c st sv ks seen w)(h1:w'.heap.size=w.heap.size)(h2:w'.heap[w0.heap.size+3]? =some (.mapIter (some M) c seen' c))(h3:∀b,b≠w0.heap.size+3->w'.heap[b]? =w.heap[b]?)(h4:w'.os=w.os):J w0 bx M c st sv ks seen' w':=
 ⟨by rw[h1];exact h.hs,fun b hb=>by rw[h3 b (by omega)];exact h.old b hb,h4.trans h.os,by rw[h3 _ (by omega)];exact h.box,by rw[h3 _ (by omega)];exact h.XD,by rw[h3 _ (by omega)];exact h.lop,h2,h.strs.keep (fun b hb=>h3 b (by omega)) fun b hb=>by rw[h1];exact hb⟩
theorem J.push {o:Obj}(h:J w0 bx M c st sv ks seen w)(h1:w'.heap=w.heap.push o)(h4:w'.os=w.os):J w0 bx M c st sv ks seen w':=by
 have hs:=h.hs;have hk:∀b,b<w.heap.size->w'.heap[b]? =w.heap[b]? :=fun b hb=>by rw[h1,Array.getElem?_push_lt hb];exact(Array.getElem?_eq_getElem hb).symm
 have sz:w'.heap.size=w.heap.size+1:=by rw[h1];simp
 exact⟨by omega,fun b hb=>by rw[hk b (by omega)];exact h.old b hb,h4.trans h.os,by rw[hk _ (by omega)];exact h.box,by rw[hk _ (by omega)];exact h.XD,by rw[hk _ (by omega)];exact h.lop,by rw[hk _ (by omega)];exact h.V3,h.strs.keep (fun b hb=>hk b hb.2) fun b hb=>⟨hb.1,by omega⟩⟩
theorem vk {b:Nat}{o:Obj}{g g':Goroutine}{Stop:(Nat->Prop)->Goroutine->World->Prop}(hs:g.status= .running)(hb:iM O0 w0.heap.size w b)(h:∀d,∃w' es,stepG PP true g (w.at d)= .go g' w' es/\yD b o (w.at d) w'/\∀e∈es,EvB b e)
  (k:∀w',w'.heap.size=w.heap.size->w'.heap[b]? =some o->(∀c,c≠b->w'.heap[c]? =w.heap[c]?)->w'.os=w.os->aD PP true kK Stop (iM O0 w0.heap.size w') g' w'):aD PP true kK Stop (iM O0 w0.heap.size w) g w:=
 aeS hs hb (fun d=>by obtain⟨w',es,h1,h2,h3⟩:=h d;exact⟨w',es,h1,h2,fun e he=>⟨b,hb,h3 e he⟩⟩) fun w' h1 h2 h3 h4=>by
  have:=k w' h1 h2 h3 h4
  rwa [KD h1] at this
theorem vu {b:Nat}{g g':Goroutine}{Stop:(Nat->Prop)->Goroutine->World->Prop}(hs:g.status= .running)(hb:iM O0 w0.heap.size w b)(h:∀d,∃es,stepG PP true g (w.at d)= .go g' (w.at d) es/\∀e∈es,EvB b e)
  (k:aD PP true kK Stop (iM O0 w0.heap.size w) g' w):aD PP true kK Stop (iM O0 w0.heap.size w) g w:=
 DA hs (fun d=>by obtain⟨es,h1,h2⟩:=h d;exact⟨es,h1,fun e he=>⟨b,hb,h2 e he⟩⟩) k
theorem KI (hJ:J w0 bx M c .ready sv ks seen w)(hn:ks.Nodup)(hm:∀s,s∈ks↔f s≠none):
  aD PP true kK (Fin O0 w0 f fr cs) (iM O0 w0.heap.size w) (cB (Gp bx w0.heap.size (w0.heap.size+1) (w0.heap.size+2)) (fr::cs) U) w:=by
 have hs:=hJ.hs;have nw:∀{w':World} {b:Nat},w0.heap.size+4<=w'.heap.size->w0.heap.size<=b->b<w0.heap.size+4->iM O0 w0.heap.size w' b:=fun a b c=> .inr ⟨b,by omega⟩
 refine vk (o:= .loop (lE .exhausted bx w0.heap.size (w0.heap.size+1))) rfl (nw hs (by omega) (by omega):iM O0 w0.heap.size w (w0.heap.size+2)) (fun d=>NX (hJ.at d).lop) fun w1 a1 a2 a3 a4=>?_
 have J1:=hJ.loop a1 a2 a3 a4;refine ed (Uk _ _ _ _ _ _) ?_;refine vu (b:=w0.heap.size) (g':=resume (Yd bx w0.heap.size (w0.heap.size+1) (w0.heap.size+2) fr cs) sv) (cV (J9 _ _ _ _ _ _)).1 (nw J1.hs (by omega) (by omega)) (fun d=>?_) ?_
 .have hr:RT (kJ.load lq (pb w0.heap.size)).sem (w1.at d) (.value sv) (w1.at d) #[⟨.cell ⟨w0.heap.size,0,none⟩,false,false⟩]:=by
   refine RT.eG (x:=sv) ?_ (.pure _);show RT (do if<-isAgg lq then Pure.pure (.agg (<-loadCells ⟨w0.heap.size,0,none⟩ (<-Go.sizeOf lq))) else load ⟨w0.heap.size,0,none⟩) _ _ _ _;refine(gC (b:=false)).aP ?_;simp only[Bool.false_eq_true,if_false];exact jZ (cell_of (J1.at d).box rfl)
  obtain⟨es,e1,e2⟩:=eV (main:=true) (J9 _ _ _ _ _ _) hr;refine⟨es,e1,fun e he=>?_⟩;have:=e2 e he;simp at this;subst this;exact iT rfl
 refine ed (Xu _ _ _ _ _ _ _) ?_;refine vk (o:= .deferred none) rfl (nw J1.hs (by omega) (by omega):iM O0 w0.heap.size w1 (w0.heap.size+1)) (fun d=>NU (J1.at d).XD) fun w2 b1 b2 b3 b4=>?_
 refine ed (Xt _ _ _ _ _ _ _) (.stop fun w3 h3=>?_);obtain⟨d,rfl⟩:=h3;refine⟨sv,ks,rfl,rfl,by show _<=w2.heap.size;omega,fun b hb=>?_,by show w2.os=_;rw[b4];exact J1.os,?_,hn,hm⟩
 .show w2.heap[b]? =_
  rw[b3 b (by omega)];exact J1.old b hb
 .exact J1.strs.keep (fun b hb=>b3 b (by omega)) fun b hb=>⟨hb.1,by show b<w2.heap.size;omega⟩
theorem rounds (hO:∀b,O0 b->b<w0.heap.size)(oM:O0 M)(hM:w0.heap[M]? =some (.map es c))(hm:dh es c f)(hes:es.size<2^40)(L:Nat):∀(seen:Array Nat) (w:World) (tm:Array Value) (sv:Value) (ks:List ByteArray),(leftOf es seen).size=L->J w0 bx M c .ready sv ks seen w->
  ks.Nodup->(∀s,s∈ks↔AQ es seen s)->ks.length+L<=es.size->HK (w0.heap.size+2) (w0.heap.size+3) tm->
  aD PP true kK (Fin O0 w0 f fr cs) (iM O0 w0.heap.size w) (gK tm (Gp bx w0.heap.size (w0.heap.size+1) (w0.heap.size+2)) (fr::cs)) w:=by
 induction L using Nat.strongRecOn with
 |_ L ih=>
 intro seen w tm sv ks hL hJ hn hk hlen hH;have nw:∀{w':World} {b:Nat},w0.heap.size+4<=w'.heap.size->w0.heap.size<=b->b<w0.heap.size+4->iM O0 w0.heap.size w' b:=fun a b c=> .inr ⟨b,by omega⟩
 have nM:∀{w':World},iM O0 w0.heap.size w' M:= .inl oM;have Mlt:=hO M oM;rw[hH.eq]
 have nx:=aa4 (w0.heap.size+3) (w0.heap.size+2) (Gp bx w0.heap.size (w0.heap.size+1) (w0.heap.size+2)) (fr::cs) fun i=>tm.getD i undef
 refine aD.step (cV nx).1 fun w1 h1=>?_
 obtain⟨d,rfl⟩:=h1;have hMw:(w.at d).heap[M]? =some (.map es c):=(hJ.old M Mlt).trans hM;rcases FE (w:=w.at d) (ty:=nxK) (hJ.at d).V3 hMw hm with⟨hl,w',ev,rt,a1,a2,a3,a4,a5⟩|⟨e,he,w',ev,rt,u,a5⟩
 .obtain⟨es',e1,e2⟩:=eV (main:=true) nx rt
  have sz:w'.heap.size=(w.at d).heap.size:=by rw[a4]
  refine⟨_,w',es',e1,⟨by rw[sz];exact Nat.le_refl _,fun b _ _=>by rw[a4],a3,a2,a1,fun x hx=>?_⟩,?_⟩
  .rcases(a5 x (e2 x hx)).1 with q|q
   .exact t8 (nw hJ.hs (by omega) (by omega)) q
   .exact t8 nM q
  .have hup:kK.up (iM O0 w0.heap.size w) (w.at d) w'=iM O0 w0.heap.size w':=sJ (w:=w) (by have:=hJ.hs;omega) (by show(w.at d).heap.size<=_;rw[sz];exact Nat.le_refl _)
   rw[hup];refine ed (Pv _ _ _ _ _) ?_;have J':J w0 bx M c .ready sv ks seen w':=⟨by rw[sz];exact hJ.hs,fun b hb=>by rw[a4];exact hJ.old b hb,a3.trans hJ.os,by rw[a4];exact hJ.box,by rw[a4];exact hJ.XD,by rw[a4];exact hJ.lop,by rw[a4];exact hJ.V3,hJ.strs.keep (fun b _=>by rw[a4];rfl) fun b hb=>by rw[sz];exact hb⟩
   refine KI J' hn fun s=>(hk s).trans ⟨fun⟨x,hx,h1,_⟩=>?_,fun hs=>zE hm hl hs⟩
   rw[(hm.has s x.val).2 ⟨x,hx,h1,rfl⟩];simp
 .obtain⟨es',e1,e2⟩:=eV (main:=true) nx rt
  have hmem:=wE he;obtain⟨path,hkey⟩:=iy (hm.keys e hmem);have hless:=sP he;have hV:=fun s=>vj (seen:=seen) hm hmem hkey s
  have hnew:path∉ks:=fun hin=>by
   obtain⟨x,hx,h1,h2⟩:=(hk path).1 hin;have:=hm.uniq hx hmem (by rw[h1,hkey]);subst this;have:=(Array.mem_filter.1 he).2;simp[h2] at this
  have J1:J w0 bx M c .ready sv ks (seen.push e.born) w':=(hJ.at d).next u.size u.at_ u.rest u.os;refine⟨_,w',es',e1,⟨by rw[u.size];exact Nat.le_refl _,fun b _ hb=>u.rest b fun q=>hb (q▸nw hJ.hs (by omega) (by omega)),u.os,u.output,u.tape,fun x hx=>?_⟩,?_⟩
  .rcases a5 x (e2 x hx) with q|q
   .exact t8 (nw hJ.hs (by omega) (by omega)) q
   .exact t8 nM q.1
  have hup:kK.up (iM O0 w0.heap.size w) (w.at d) w'=iM O0 w0.heap.size w':=sJ (w:=w) (by have:=hJ.hs;omega) (by show(w.at d).heap.size<=_;rw[u.size];exact Nat.le_refl _);rw[hup,hkey];clear hup e1 e2 rt hMw
  refine ed (aa7 _ _ _ _ _ _ _) ?_;have hMw:∀d,(w'.at d).heap[M]? =some (.map es c):=fun d=>(J1.old M Mlt).trans hM
  have en:=aa6 (w0.heap.size+3) (w0.heap.size+2) path e.val (Gp bx w0.heap.size (w0.heap.size+1) (w0.heap.size+2)) (fr::cs) fun i=>tm.getD i undef
  refine DA (cV en).1 (g':=resume (kA (w0.heap.size+3) (w0.heap.size+2) path e.val (Gp bx w0.heap.size (w0.heap.size+1) (w0.heap.size+2)) (fr::cs) fun i=>tm.getD i undef) (.tuple #[.string path,e.val])) (fun d=>?_) ?_
  .have hr:=vN (J1.at d).V3 (hMw d) hm hmem
   rw[hkey] at hr;obtain⟨es',e1,e2⟩:=eV (main:=true) en hr;refine⟨es',e1,fun x hx=>?_⟩;have:=e2 x hx;simp at this;rcases this with rfl|rfl
   .exact⟨_,nw J1.hs (by omega) (by omega),dN⟩
   .exact⟨M,nM,dN⟩
  refine ed (aa5 _ _ _ _ _ _ _) ?_
  refine vu (b:=w0.heap.size+2) rfl (nw J1.hs (by omega) (by omega)) (fun d=>JQ (J1.at d).lop) ?_;refine ed (WV _ _ _ _ _ _) ?_;refine vk (o:= .loop (lE .busy bx w0.heap.size (w0.heap.size+1))) rfl (nw J1.hs (by omega) (by omega):iM O0 w0.heap.size w' (w0.heap.size+2)) (fun d=>JT (J1.at d).lop) fun w2 b1 b2 b3 b4=>?_
  have J2:=J1.loop b1 b2 b3 b4;clear J1 b1 b2 b3 b4 hMw hJ u;refine ed (Xr _ _ _ _ _ _) ?_;refine vu (b:=w0.heap.size) rfl (nw J2.hs (by omega) (by omega)) (fun d=>NV (J2.at d).box) ?_;refine ed (Xq _ _ _ _ _ _ _) ?_
  refine new1 (g':=G ((A0 bx w0.heap.size (w0.heap.size+2) path sv).finish (.slice (some ⟨w2.heap.size,0,none⟩) 1 1)) (FB (w0.heap.size+3) (w0.heap.size+2) path e.val (fun i=>tm.getD i undef)::Gp bx w0.heap.size (w0.heap.size+1) (w0.heap.size+2)::fr::cs)) (os:=[.cells #[.string path] jE (0,0)]) rfl (fun d=>JS (w:=w2.at d)) fun w3 a1 a2=>?_
  have J3:=J2.push a1 a2;have sz3:w3.heap.size=w2.heap.size+1:=by rw[a1];simp
  have hs2:=J2.hs;rw[sJ (by omega) (by omega)];have hx:w3.heap[w2.heap.size]? =some (.cells #[.string path] jE (0,0)):=by rw[a1];simp
  refine ed (Xo _ _ _ _ _ _ _ _) ?_;refine app1 (ks:=ks++[path]) (mine:=fun b=>w0.heap.size+4<=b/\b<w3.heap.size) rfl (fun b hb=> .inr ⟨by omega,hb.2⟩) (fun d=>G1 (J3.at d).strs hx ⟨hs2,by omega⟩ (by omega)) fun nv w4 c1 c2 c3 c4=>?_
  rw[sJ (by omega) c1];have J4:Strs w4 (fun b=>w0.heap.size+4<=b/\b<w4.heap.size) nv (ks++[path]):=c3.keep (fun _ _=>rfl) fun b hb=>by omega
  have k4:∀b,b<w0.heap.size+4->w4.heap[b]? =w3.heap[b]? :=fun b hb=>c2 b (by omega) fun q=>by omega
  have b4:w4.heap[w0.heap.size]? =some (.cells #[sv] lq (0,0)):=by rw[k4 _ (by omega)];exact J3.box
  refine ed (Xm _ _ _ _ _ _ _ _ _) ?_;refine vk (o:= .cells #[nv] lq (0,0)) rfl (.inr ⟨Nat.le_refl _,by omega⟩:iM O0 w0.heap.size w4 w0.heap.size) (fun d=>JR (w:=w4.at d) b4 J4.one.1 J4.one.2) fun w5 d1 d2 d3 d4=>?_
  have J5:J w0 bx M c .busy nv (ks++[path]) (seen.push e.born) w5:=by
   have r:∀b,b<w0.heap.size+4->b≠w0.heap.size->w5.heap[b]? =w3.heap[b]? :=fun b hb hne=>by rw[d3 b hne,k4 b hb]
   refine⟨by omega,fun b hb=>?_,by rw[d4,c4,J3.os],d2,?_,?_,?_,J4.keep (fun b hb=>d3 b (by omega)) fun b hb=>⟨hb.1,by rw[d1];exact hb.2⟩⟩
   .rw[r b (by omega) (by omega)];exact J3.old b hb
   .rw[r _ (by omega) (by omega)];exact J3.XD
   .rw[r _ (by omega) (by omega)];exact J3.lop
   .rw[r _ (by omega) (by omega)];exact J3.V3
  clear J2 J3 J4 k4 b4 d1 d2 d3 d4 c1 c2 c3 c4 hx;refine ed (Xl _ _ _ _ _ _ _ _ _) ?_;refine vk (o:= .loop (lE .ready bx w0.heap.size (w0.heap.size+1))) rfl (nw J5.hs (by omega) (by omega):iM O0 w0.heap.size w5 (w0.heap.size+2)) (fun d=>NW (J5.at d).lop) fun w6 f1 f2 f3 f4=>?_
  have J6:=J5.loop f1 f2 f3 f4;obtain⟨tm',IC,hg⟩:=Q2 (w0.heap.size+3) (w0.heap.size+2) path e.val (Gp bx w0.heap.size (w0.heap.size+1) (w0.heap.size+2)) (fr::cs) fun i=>tm.getD i undef
  refine ed hg (ih _ (hL▸hless) (seen.push e.born) w6 tm' nv (ks++[path]) rfl J6 ?_ (fun s=>?_) ?_ IC)
  .rw[List.nodup_append]
   exact⟨hn,by simp,fun a ha b hb=>by simp at hb;subst hb;exact fun q=>hnew (q▸ha)⟩
  .rw[List.mem_append,hV s,hk s];simp
  .simp;omega
end
section
variable {own:Nat->Prop}{w:World}{g g':Goroutine}{Stop:(Nat->Prop)->Goroutine->World->Prop}
theorem new2 {o:Obj}(hs:g.status= .running)(h:∀d,∃es,stepG PP true g (w.at d)= .go g' {w.at d with heap:=(w.at d).heap.push o} es/\∀e∈es,∃b,own b/\EvB b e)
  (k:∀w',w'.heap=w.heap.push o->w'.os=w.os->aD PP true kK Stop (fun b=>own b\/(w.heap.size<=b/\b<w'.heap.size)) g' w'):aD PP true kK Stop own g w:=by
 refine aD.step hs fun w₁ h1=>?_
 obtain⟨d,rfl⟩:=h1;obtain⟨es,e1,e2⟩:=h d;refine⟨_,_,es,e1,⟨by show w.heap.size<=(w.heap.push o).size;simp,fun b hb _=>by show(w.heap.push o)[b]? =w.heap[b]?;rw[Array.getElem?_push_lt (show b<w.heap.size from hb)];exact(Array.getElem?_eq_getElem _).symm,rfl,rfl,rfl,fun e he=>by obtain⟨b,h1,h2⟩:=e2 e he;exact t8 h1 h2⟩,?_⟩;exact k _ rfl rfl
end
section
variable {O0:Nat->Prop}{w0:World}{bx M c:Nat}{es:Array MapEntry}{f:ByteArray->Option Value}{fr:Frame}{cs:List Frame}
theorem JY (hO:∀b,O0 b->b<w0.heap.size)(oM:O0 M)(obx:O0 bx){tt:TypeId}{ff:Nat×Nat}(hbx:w0.heap[bx]? =some (.cells #[.map (some M)] tt ff))(hM:w0.heap[M]? =some (.map es c))(hm:dh es c f)(hes:es.size<2^40):
  aD PP true kK (Fin O0 w0 f fr cs) O0 (Zz bx fr cs) w0:=by
 have lbx:=hO bx obx;have lM:=hO M oM;refine ed (DR _ _ _) (KS (f:=pb) (Tu _ _ _) (fun w=>vO _ _) fun w1 h1 o1 t1=>?_);have s1:w1.heap.size=w0.heap.size+1:=by rw[h1];simp
 have e1:(fun b=>O0 b\/b=w0.heap.size)=iM O0 w0.heap.size w1:=funext fun b=>propext (by
  unfold iM;exact or_congr Iff.rfl ⟨fun h=>⟨by omega,by omega⟩,fun h=>by omega⟩)
 rw[e1];refine ed (Ts _ _ _ _) ?_;refine new1 (g':=ZB bx w0.heap.size (w0.heap.size+1) (w0.heap.size+2) fr cs) (os:=[.deferred (some []),.loop (lE .ready bx w0.heap.size (w0.heap.size+1))]) rfl (fun d=>?_) fun w2 h2 o2=>?_
 .have:=Zs (bx:=bx) (bS:=w0.heap.size) (w:=w1.at d) (fr:=fr) (cs:=cs)
  have e:(w1.at d).heap.size=w0.heap.size+1:=s1;rw[e] at this;exact this
 have h2':w2.heap=(w1.heap.push (.deferred (some []))).push (.loop (lE .ready bx w0.heap.size (w0.heap.size+1))):=h2;have s2:w2.heap.size=w0.heap.size+3:=by rw[h2'];simp[s1]
 rw[sJ (by omega) (by omega)];have U6:∀b,b<w0.heap.size->w2.heap[b]? =w0.heap[b]? :=fun b hb=>by
  rw[h2',Array.getElem?_push_lt (by simp;omega),<-Array.getElem?_eq_getElem,Array.getElem?_push_lt (by omega),<-Array.getElem?_eq_getElem,h1,Array.getElem?_push_lt hb,<-Array.getElem?_eq_getElem]
 have r0:w2.heap[w0.heap.size]? =some (.cells #[.slice none 0 0] lq (0,0)):=by
  rw[h2',Array.getElem?_push_lt (by simp;omega),<-Array.getElem?_eq_getElem,Array.getElem?_push_lt (by omega),<-Array.getElem?_eq_getElem,h1];simp[Value.cells]
 have r1:w2.heap[w0.heap.size+1]? =some (.deferred (some [])):=by
  rw[h2',Array.getElem?_push_lt (by simp;omega),<-Array.getElem?_eq_getElem,<-s1];simp
 have r2:w2.heap[w0.heap.size+2]? =some (.loop (lE .ready bx w0.heap.size (w0.heap.size+1))):=by
  have e:w0.heap.size+2=(w1.heap.push (Obj.deferred (some []))).size:=by simp[s1]
  rw[h2',e];exact Array.getElem?_push_size
 refine ed (TN _ _ _ _ _ _) ?_;refine DA (g':=resume (ZA bx w0.heap.size (w0.heap.size+1) (w0.heap.size+2) fr cs) (.map (some M))) (cV (J8 _ _ _ _ _ _)).1 (fun d=>?_) ?_
 .have hr:RT (kJ.load Nd (pb bx)).sem (w2.at d) (.value (.map (some M))) (w2.at d) #[⟨.cell ⟨bx,0,none⟩,false,false⟩]:=by
   refine RT.eG (x:= .map (some M)) ?_ (.pure _);show RT (do if<-isAgg Nd then Pure.pure (.agg (<-loadCells ⟨bx,0,none⟩ (<-Go.sizeOf Nd))) else load ⟨bx,0,none⟩) _ _ _ _;refine(gC (b:=false)).aP ?_;simp only[Bool.false_eq_true,if_false];exact jZ (cell_of (w:=w2.at d) ((U6 bx lbx).trans hbx) rfl)
  obtain⟨es,e1,e2⟩:=eV (main:=true) (J8 _ _ _ _ _ _) hr;refine⟨es,e1,fun e he=>?_⟩;have:=e2 e he;simp at this;subst this;exact⟨bx,.inl obx,iT rfl⟩
 refine ed (TK _ _ _ _ _ _ _) ?_;refine new2 (o:= .mapIter (some M) c #[] c) (g':=resume (TL bx w0.heap.size M (w0.heap.size+1) (w0.heap.size+2) fr cs) (pb (w0.heap.size+3))) (cV (J7 _ _ _ _ _ _ _)).1 (fun d=>?_) fun w3 h3 o3=>?_
 .have hr:=vL (w:=w2.at d) (t:=Nd) (kt:=9) (vt:=164) (by kernel_rfl) ((U6 M lM).trans hM)
  have e:(w2.at d).heap.size=w0.heap.size+3:=s2;rw[e] at hr;obtain⟨es,e1,e2⟩:=eV (main:=true) (J7 _ _ _ _ _ _ _) hr;refine⟨es,e1,fun x hx=>?_⟩;have:=e2 x hx;simp at this;subst this;exact⟨M,.inl oM,dN⟩
 have s3:w3.heap.size=w0.heap.size+4:=by rw[h3];simp[s2]
 rw[sJ (by omega) (by omega)];obtain⟨tm,hH,hg⟩:=TJ bx w0.heap.size M (w0.heap.size+3) (w0.heap.size+1) (w0.heap.size+2) fr cs;have k3:∀b,b<w0.heap.size+3->w3.heap[b]? =w2.heap[b]? :=fun b hb=>by rw[h3,Array.getElem?_push_lt (by omega)];exact(Array.getElem?_eq_getElem (by omega)).symm
 refine ed hg (rounds hO oM hM hm hes es.size #[] w3 tm (.slice none 0 0) [] (by simp[leftOf]) ⟨by omega,fun b hb=>by rw[k3 b (by omega)];exact U6 b hb,by rw[o3,o2,o1],by rw[k3 _ (by omega)];exact r0,by rw[k3 _ (by omega)];exact r1,by rw[k3 _ (by omega)];exact r2,by rw[h3,<-s2];simp,.inl ⟨rfl,rfl⟩⟩ (by simp) (fun s=>by simp;exact zD s) (by simp) hH)
end
theorem Ip {H own:Nat->Prop}{π:Nat->Nat}{wL w w':World}(h:Link H no own no π wL w)(hs:w.heap.size<=w'.heap.size)(hk:∀b,own b->w'.heap[b]? =w.heap[b]?):
  ∃b6,Link H no own no b6 wL w'/\∀b,b<wL.heap.size->b6 b=π b:=by
 obtain⟨b6,h1,h2,_⟩:=h.rely (w₁:={w' with tape:=w.tape}) hs rfl fun b _ hb=>hb.elim (hk b) False.elim
 exact⟨b6,⟨h1.inj,h1.zero,h1.lt,h1.lw,⟨h1.wr.inj,rfl,rfl,h1.wr.lt,h1.wr.ok,h1.wr.hid,h1.wr.np,h1.wr.low,h1.wr.xM⟩,h1.own,h1.ro⟩,fun b hb=>(h2 b hb).symm⟩
def Jg (f:ByteArray->Option Value)(wL:World)(v:Value)(w':World):Prop:=∃ks:List ByteArray,ks.Nodup/\(∀s,s∈ks↔f s≠none)/\
 ((
   v= .slice none 0 0/\ks=[]/\∃t d,w'=ay wL t d)\/∃cap,v= .slice (some ⟨wL.heap.size,0,none⟩) ks.length cap/\ks.length<=cap/\
   ∃t d,w'=ay {wL with heap:=wL.heap.push (.cells (ks.map Value.string++List.replicate (cap-ks.length) (Value.string ⟨#[]⟩)).toArray jE (0,0))} t d)
theorem IL (bx:Nat)(c:Frame)(CS:List Frame):G (Frame.enter PP CU #[.slice none 0 0,mm bx] .normal) (c::CS)=Zz bx c CS:=by
 unfold Zz LB;rfl
theorem XI {E:aj.Env}{wL:World}{bx m c:Nat}{es:Array MapEntry}{f:ByteArray->Option Value}{tt:TypeId}{ff:Nat×Nat}(hbx:wL.heap[bx]? =some (.cells #[.map (some m)] tt ff))(hM:wL.heap[m]? =some (.map es c))(hm:dh es c f)
  (hfix:∀e∈es,∀r,¬Value.Has r e.key/\¬Value.Has r e.val) (hes:es.size<2^40):aj.CC E CU #[.slice none 0 0,mm bx] (Jg f wL) wL:=by
 intro fr CS π M tr hp ha hk;have vbx:fY E.H wL bx:=ha (mm bx) (by simp) bx (.E3 (x:=pb bx) (by simp) (.ptr rfl));have Mm:(#[.slice none 0 0,mm bx]:Array Value).map (Value.ren π)=#[.slice none 0 0,mm (π bx)]:=by simp[mm,nX,bi,pb]
 rw[Mm,IL] at hp;obtain⟨Shun,UX,w,hz,hl0,Yt,ho,Jr⟩:=hp.ex
 let KK:Nat->Prop:=fun q=>∃o,E.K q=some o
 have kk:∀q,KK q->q<w.heap.size/\∀l,ls q l->¬Shun l:=fun q ⟨o,hq⟩=>⟨(Array.getElem?_eq_some_iff.1 (Jr q o hq).2.1).1,(Jr q o hq).2.2⟩
 obtain⟨own,hown⟩:∃own:Nat->Prop,own=fun b=>UX b\/KK b:=⟨_,rfl⟩
 have hl:Link E.H aj.no own aj.no π wL w:=by rw[hown];exact hl0.wider fun b hb=> .inl hb
 have hA:Apart Shun own w:=by rw[hown];exact Yt.union KK kk
 have KH:∀q,KK q->own q:=fun q hq=>by rw[hown];exact .inr hq
 have vm:fY E.H wL m:=hl.lw.Qw bx _ hbx vbx.2 m (.cells (v:= .map (some m)) (by simp) .map);have age:=(hl.wr.ok bx _ hbx vbx.2 id).2;have hM':=(hl.wr.ok m _ hM vm.2 id).2;rw[nW (o:= .map es c) fun r hr=>absurd hr (by
  intro hr;cases hr with
  |key he h=>exact(hfix _ he r).1 h
  |val he h=>exact(hfix _ he r).2 h)] at hM'
 have agd:w.heap[π bx]? =some (.cells #[.map (some (π m))] tt ff):=by rw[age];simp[dz]
 obtain⟨N1,M1,t1,g1,w1,r1,hz1,⟨s,⟨⟨sv,ks,rfl,rfl,hsz,hold,hos,hstr,hn,hmem⟩,_,u1⟩,hA1⟩,o1,_⟩:=kx hz (uW (od (fun _=>False) (JY (f:=f) (fr:=fr) (cs:=CS) hA.lt (hl.own m vm id) (hl.own bx vbx id) agd hM' hm hes) fun _ h=>h.elim) hA);have hk1:∀b,own b->w1.heap[b]? =w.heap[b]? :=fun b hb=>hold b (hA.lt b hb)
 have aav:∀(b6:Nat->Nat),(∀b,b<wL.heap.size->b6 b=π b)->∀b,b<wL.heap.size->¬E.H b->¬KK (b6 b):=fun b6 ag b hb hh ⟨o,hq⟩=>by
  rw[ag b hb] at hq;exact(Jr _ o hq).1 (hl0.own b ⟨hb,hh⟩ id)
 rcases hstr with⟨rfl,rfl⟩|⟨sk,cap,rfl,hsk,hle,hrow⟩
 .obtain⟨b6,hl',ag⟩:=Ip hl hsz hk1
  have fin:=hk (.slice none 0 0) wL b6 M1 t1 ⟨wL.tape,wL.drawn,[],hn,hmem,.inl ⟨rfl,rfl,wL.tape,wL.drawn,rfl⟩⟩ ⟨Shun,_,w1,(by
   have e:Value.ren b6 (.slice none 0 0)= .slice none 0 0:=by simp
   rw[e];exact hz1),(hl'.wider (fun b hb=> .inl hb)).less KK (fun b hb=>aav b6 ag b hb.1 hb.2),hA1.part (fun b hb=>hb.1),⟨by rw[o1];exact ho.1,u1.trans ho.2⟩,fun q o hq=>⟨fun hb=>hb.2 ⟨o,hq⟩,(hk1 q (KH q ⟨o,hq⟩)).trans (Jr q o hq).2.1,(Jr q o hq).2.2⟩⟩ (fun r hr=>by cases hr) ag (Nat.le_refl _)
  exact E.back _ _ _ _ _ r1 fin
 .obtain⟨b6,hl',ag,em⟩:=wv (m:=sk) hl hsz hk1 (by omega) hsk.2 hrow trivial (fun r hr=>by
   cases hr with
   |cells hv h=>
    simp only[List.mem_toArray,List.mem_append,List.mem_map,List.mem_replicate] at hv;rcases hv with⟨x,_,rfl⟩|⟨_,rfl⟩<;>cases h) (fun i hi=>hi)
  have fin:=hk (.slice (some ⟨wL.heap.size,0,none⟩) ks.length cap) _ b6 M1 t1 ⟨wL.tape,wL.drawn,ks,hn,hmem,.inr ⟨cap,rfl,hle,wL.tape,wL.drawn,rfl⟩⟩ ⟨Shun,_,w1,(by
   have e:Value.ren b6 (.slice (some ⟨wL.heap.size,0,none⟩) ks.length cap)= .slice (some ⟨sk,0,none⟩) ks.length cap:=by simp[bi,em]
   rw[e];exact hz1),(hl'.wider (fun b hb=>hb.elim .inl fun e=> .inr ⟨by omega,e▸hsk.2⟩)).less KK (fun b hb hq=>by
    have hb1:b<wL.heap.size+1:=by have:=hb.1;simpa using this
    have hlt:=(kk _ hq).1
    by_cases hlt2:b<wL.heap.size
    .exact aav b6 ag b hlt2 hb.2 hq
    .have:b=wL.heap.size:=by omega
     rw[this,em] at hlt;omega),hA1.part (fun b hb=>hb.1),⟨by rw[o1];exact ho.1,u1.trans ho.2⟩,fun q o hq=>⟨fun hb=>hb.2 ⟨o,hq⟩,(hk1 q (KH q ⟨o,hq⟩)).trans (Jr q o hq).2.1,(Jr q o hq).2.2⟩⟩ (fun r hr=>by
    cases hr with
    |slice e=>
     have e:wL.heap.size=r:=e;subst e;exact⟨by show wL.heap.size<(wL.heap.push _).size;simp,fun hh=>by have:=hl.lw.low _ (.inl hh);omega⟩) ag (by simp)
  exact E.back _ _ _ _ _ r1 fin
theorem eU {E:aj.Env}{f:FuncId}{k:List Item}{R:Act->World->Prop}{a:Act}{wL:World}{ops:Array Oper}{i:Nat}{rest:List Nat}{o:Oper}(x:Operand)(ho:ops[i]? =some o)(hop:o.op= .assign x\/o.op= .move x)(hg:o.guard=none)(h:aj.CI E f (.inRegion ops rest::k) R (a.put o.dst (a.eval x)) wL)(sc:lF PP S0 E0 true o=true:=by kernel_rfl):aj.CI E f (.inRegion ops (i::rest)::k) R a wL:=by
 refine aj.Sa ho sc hg fun t d=>?_
 have e:(execOp a.eval o).run PP (ay wL t d)= .ok (.value (a.eval x)) (ay wL t d):=by
  unfold execOp;rcases hop with hop|hop<;>rw[hop]<;>rfl
 rw[e];exact(aj.mN t d).2 h
theorem kH {E:aj.Env}{f:FuncId}{k:List Item}{R:Act->World->Prop}{a:Act}{wL:World}{ops:Array Oper}{i:Nat}{rest:List Nat}{o:Oper}{f2:FuncId}(xs:Array Operand)(args:Array Value){R2:Value->World->Prop}(ho:ops[i]? =some o)(hg:o.guard=none)(hxs:xs.all mY=true)
  (hrun:∀(b:Act) (w:World),(execOp b.eval o).runT PP w #[]=(.ok (.enter f2 (xs.map b.eval)) w,#[])) (ha:xs.map a.eval=args) (hcc:aj.CC E f2 args R2 wL)
  (h:∀v w',R2 v w'->wL.heap.size<=w'.heap.size->aj.CI E f (.inRegion ops rest::k) R (a.put o.dst v) w'):aj.CI E f (.inRegion ops (i::rest)::k) R a wL:=
 aj.QA ho hg hxs hrun (ha▸hcc) h
theorem E1 {E:aj.Env}{wL:World}{bx:Nat}{f:ByteArray->Option Value}(h:aj.CC E CU #[.slice none 0 0,mm bx] (Jg f wL) wL):aj.CC E 134 #[mm bx] (Jg f wL) wL:=by
 refine aj.l9 Tryz.func134 rfl ?_;refine aj.eI (aj.dW (eU _ rfl (.inl rfl) rfl (aj.cF ?_)));refine aj.eI (aj.dW (eU _ rfl (.inr rfl) rfl ?_))
 refine kH (f2:=CU) #[.const (.slice none 0 0),.tmp 3] #[.slice none 0 0,mm bx] (R2:=Jg f wL) rfl rfl (by kernel_rfl) (fun e w=>by kernel_rfl) (by kernel_rfl) h fun v w' hR _=>?_
 refine eU _ rfl (.inl rfl) rfl (aj.cF (aj.EV ?_));exact⟨v,by kernel_rfl,hR⟩
end Sq
end aI
end
section
open Go.RowKit Go.Lib Go.Sort
def ec (l:List dk):List (List UInt8):=(l.filter fun f=>f.set !=3).map (·.path)
def iG (l:List (List UInt8)):List Value:=l.map encStr
def oy (l:List dk):Nat:=(compact ((ec l).mergeSort fun x y=>decide (x<=y))).length
theorem lg:Elem Tryz.prog 45 9 1 16:=⟨Tryz.underlying45,by kernel_rfl,by omega⟩
theorem Ae (fs:List dk)(k:Nat)(hk:k<fs.length):ec (fs.take (k+1))=if fs[k].set=3 then ec (fs.take k) else ec (fs.take k)++[fs[k].path]:=by
 unfold ec;rw[List.take_succ_eq_append_getElem hk,List.filter_append,List.map_append]
 by_cases h:fs[k].set=3
 .simp[h]
 .simp[h]
theorem tQ (l:List dk):(ec l).length<=l.length:=by unfold ec;rw[List.length_map];exact List.length_filter_le _ _
theorem CN (w:World)(os:Array Obj):aR [] w (grow w os):=
 ⟨rfl,rfl,rfl,by simp[grow],fun k hk _=>by simp only[grow];rw[Array.getElem?_append_left hk]⟩
theorem sS (w:World)(n:Nat):aR [] w (Sort.ahead w n):=⟨rfl,rfl,rfl,Nat.le_refl _,fun _ _ _=>rfl⟩
theorem qg {α:Type}[Inhabited α](enc:α->Value)(w:World)(blk off:Nat)(d:Array α):aR [blk] w (putRow enc w blk off d):=
 ⟨rfl,rfl,rfl,by rw[size_putRow];exact Nat.le_refl _,fun k hk hS=>by
  simp only[putRow,mapBlock,Array.getElem?_modify];rw[if_neg (by simpa using fun e=>hS (by simp[e]))]⟩
theorem IV (base:Nat)(v:Value)(fs:List dk)(w:World)(hv:w.ownsRow base 107 3 v fs.length (gT fs))(hl:fs.length<=1000):
  Calls Tryz.prog 75 #[v] w fun e w'=>e= .returned (.int .i64 (oy fs))/\aR [] w w':=by
 obtain⟨ad,cap,hv'⟩:=cy hv;subst hv';go_enter Tryz.func75,Tryz.ntmps75;go_wp2_with fail
 go_loopw [3,8] (fun u c wr=>∃k:Nat,c= .int .i64 k/\k<=fs.length/\aR [] w wr/\wr.ownsRow w.heap.size 9 1 u (ec (fs.take k)).length (iG (ec (fs.take k)))) (fun _ c _=>fs.length-(intOf c).toNat)
 case atStart=>exact⟨0,rfl,by omega,aR.refl _ _,World.ownsRow_nil _ _ _ _⟩
 case round=>
  obtain⟨k,rfl,hk,fk,ho⟩:=hrel;have hvk:=fk.owns hv
  by_cases hlt:k<fs.length
  .obtain⟨g,cur,rfl,hg,hle,_,hcs,htk⟩:=e9 hvk
   have hat:((cur.toList.drop (k*3)).take 3)=cj fs[k].set fs[k].path fs[k].content:=by
    rw[cL htk _ _,CM fs k hlt]
   have hstep:=Ae fs k hlt;have hpl:(ec (fs.take k)).length<=1000:=by have:=tQ (fs.take k);rw[List.length_take] at this;omega
   generalize fs[k]=f at hat hstep;have HST:Hid (ec (fs.take (k+1))=if f.set=3 then ec (fs.take k) else ec (fs.take k)++[f.path]):=hstep;generalize ec (fs.take k)=ps at*;clear hstep hcs htk;go_wp2_with (with_reducible first|refine az 107 rfl ?_|refine aA rfl ?_|refine ah 107 rfl ?_)
   refine ax.go (bY rfl 107 _ rfl g (k*3) rfl lS 3 fh _ _ hg (cj f.set f.path f.content) hat rfl ?_);clear hat hg;go_wp2_with (with_reducible first|refine aA rfl ?_|refine ah 107 rfl ?_);refine ax.go (bv rfl 107 rfl A1 oG ?_);intro w4 b5 l5 f4 r5;go_wp2_with (with_reducible first|refine aA rfl ?_|refine ah 107 rfl ?_)
   refine ax.go (bT rfl 107 _ _ rfl _ 0 rfl _ rfl 3 fh ?_ ?_ _ _ r5 ?_ ?_)
   .rfl
   .simp[cj,Value.oneCell']
   .decide
   intro w5 f5 q5;rw[bO _ _ (by rfl)] at q5;have oQ:Row w5 b5 (cj f.set f.path f.content).toArray 107:=q5;have f45:=f4.trans f5 (by simpa using l5);have mI:=fk.trans f45;have Gb:=f45.owns ho;have c0:w5.cell? ⟨b5,0,none⟩=some (.int .i64 f.set):=by rw[oQ.cell];rfl
   have c1:w5.cell? ⟨b5,1,none⟩=some (.string (aF f.path)):=by rw[oQ.cell];rfl
   clear q5 r5 f4 f5 f45 fk ho l5 hvk oQ
   by_cases h3:f.set=3
   .have X3:Hid (ec (fs.take (k+1))=ps):=by show _=_;rw[HST.out,if_pos h3]
    have h3':((f.set:Int))=3:=by omega
    rw[h3'] at c0;clear HST;go_wp2_with fail
    go_roundw
    case rel=>exact⟨k+1,by go_num,by omega,mI,by rw[X3.out];exact Gb⟩
    case measure=>simp[intOf];omega
   .have X3:Hid (ec (fs.take (k+1))=ps++[f.path]):=by show _=_;rw[HST.out,if_neg h3]
    have h3':((f.set:Int)==3)=false:=by rw[beq_eq_false_iff_ne];omega
    clear HST;go_wp2_with (with_reducible first|refine ce rfl ?_|refine cg rfl ?_);refine ax.go (iv rfl 45 9 1 16 lg _ rfl (.string (aF f.path)) rfl rfl ?_);intro w8 b8 l8 f8 r8;go_wp2_with (with_reducible first|refine ce rfl ?_|refine cg rfl ?_);have Jp:=f8.owns Gb
    have hbase:w.heap.size<=w8.heap.size:=by have:=mI.size;have:=f8.size;omega
    refine ax.go (i7 rfl 45 9 1 16 lg _ _ rfl w.heap.size u3 _ _ rfl Jp b8 1 1 [.string (aF f.path)] rfl _ _ r8 rfl rfl (by simp[Value.oneCell']) (by omega) (by omega) (by omega) hbase ?_);intro g' cap' w9 Lj f9 _;have Xj:=(mI.trans f8).trans f9 (by intro j hj;right;simp at hj;exact(Jp.lt j hj).1);clear Gb Jp r8 f8 f9 l8 mI hbase c0 c1;go_wp2_with fail
    go_roundw
    case rel=>
     refine⟨k+1,by go_num,by omega,Xj,?_⟩;rw[X3.out];simpa [iG,aF] using Lj
    case measure=>simp[intOf];omega
  .have HC:Hid (oy fs=(compact ((ec fs).mergeSort fun x y=>decide (x<=y))).length):=rfl
   rw[List.take_of_length_le (by omega)] at ho;have hpl:=tQ fs;generalize ec fs=ps at*;have hsz:∀k,u3.ownBlock=some k->w.heap.size<=k/\k<wr.heap.size:=fun k hk=>ho.lt k hk
   rcases ho.2 with⟨rfl,h0⟩|⟨g,c,cur,rfl,hgb,hgh,hnc,_,hcs,htk⟩
   .have hp0:ps=[]:=List.length_eq_zero_iff.1 h0
    subst hp0;have HZ:Hid (oy fs=0):=by show _=_;rw[HC.out,List.mergeSort_nil];rfl
    go_wp2_with fail;refine(Tryz.slices_Sort_string_none none 0 wr).mono ?_;rintro e w6 ⟨rfl,rfl⟩;go_wp2_with fail;refine(Tryz.slices_Compact_string_empty none 0 w6).mono ?_;rintro e w7 ⟨rfl,rfl⟩;go_wp2_with fail;go_ret;exact⟨by rw[HZ.out];rfl,fk⟩
   .have hfg:w.heap.size<=g:=hgb
    have hlt2:g<wr.heap.size:=(Array.getElem?_eq_some_iff.1 hgh).1;have hH:Holds encStr wr g 0 ps.toArray:=fun j hj=>by
     have hj':j<ps.length:=by simpa using hj
     refine⟨?_,Lib.frozen_of_heap hgh _⟩;rw[Lib.cell_of_heap hgh];have h1:(cur.toList.take (ps.length*1))[j]? =(iG ps)[j]? :=by rw[htk]
     rw[List.getElem?_take_of_lt (by omega)] at h1;rw[Nat.zero_add,<-Array.getElem?_toList,h1,getElem!_pos ps.toArray j hj];simp[iG,hj']
    clear ho hsz hcs htk hgh;go_wp2_with fail;refine(Tryz.slices_Sort_string g 0 c ps wr hH hlt2 (by omega)).mono ?_;rintro e w6 ⟨rfl,m,os,Wa⟩;have hsl:(ps.mergeSort fun x y=>decide (x<=y)).length=ps.length:=List.length_mergeSort _;have hH6:Holds encStr w6 g 0 (ps.mergeSort fun x y=>decide (x<=y)).toArray:=by
     rw[Wa];exact holds_grow _ _ _ _ _ _ (by rw[size_putRow];exact hlt2) (holds_putRow _ _ _ _ _ _ (holds_ahead _ _ _ _ _ _ hH) (by simp))
    have f6:aR [g] wr w6:=by
     rw[Wa];exact(((sS wr m).mono (T:=[g]) (by simp)).trans (qg encStr _ g 0 _) (fun i hi=> .inl hi)).trans (CN _ _)
    have sR:aR [] w w6:=fk.trans f6 (by simpa using hfg);generalize (ps.mergeSort fun x y=>decide (x<=y))=qs at*;clear Wa hH f6;go_wp2_with fail;have hc:=Tryz.slices_Compact_string g 0 c qs w6 hH6 (by omega) (by omega);rw[hsl] at hc;refine hc.mono ?_;rintro e w7 ⟨rfl,q,hw7⟩;have f7:aR [g] w6 w7:=by
     rw[hw7];exact((sS w6 q).mono (T:=[g]) (by simp)).trans (qg encStr _ g 0 _) (fun i hi=> .inl hi)
    have xP:aR [] w w7:=sR.trans f7 (by simpa using hfg);clear hw7 f7 hc hH6;go_wp2_with fail;go_ret;exact⟨by rw[HC.out];rfl,xP⟩
end
section
open Go.RowKit Go.Lib
theorem yz:Tryz.prog.built 103 [(0,.int .i64 3)]=some (dK 3 ⟨#[]⟩):=by kernel_rfl
def Jw:Value:= .agg (dK 0 ⟨#[]⟩)
theorem yI:(Tryz.prog.info? 103).map (·.zero)=some (some Jw):=by kernel_rfl
def DS.pending (x:DS)(n:Nat):Bool:=(x.content n 3 ⟨#[]⟩).isSome
theorem ia (w:World):Calls Tryz.prog 93 #[] w fun e w'=>e= .returned (.agg (dK 3 ⟨#[]⟩))/\aR [] w w':=by
 go_enter Tryz.func93,Tryz.ntmps93;go_wp2_with (with_reducible first|refine aA rfl ?_|refine bJ 103 rfl ?_|refine ah 103 rfl ?_);refine ax.go (bv rfl 103 rfl Jw yI ?_);intro w1 b l1 f1 r1;go_wp2_with (with_reducible first|refine aA rfl ?_|refine bJ 103 rfl ?_|refine ah 103 rfl ?_)
 refine ax.go (cN rfl (.agg (dK 3 ⟨#[]⟩)) w1 (gU _ _ rfl _ yz) ?_);go_wp2_with (with_reducible first|refine ah 103 rfl ?_);refine ax.go (bT rfl 103 _ _ rfl _ 0 rfl _ rfl 2 eJ ?_ ?_ _ _ r1 ?_ ?_)
 .rfl
 .simp[dK,Value.oneCell']
 .decide
 intro w2 f2 q2;rw[bO _ _ (by rfl)] at q2;have q2':Row w2 b (dK 3 ⟨#[]⟩) 103:=q2;have fw:=f1.trans f2 (by simp;exact l1);clear q2;go_wp2_with fail;exact kV rfl b rfl rfl _ _ q2' gG (by exact eJ) ⟨rfl,fw⟩
theorem Cg (d bl n:Nat)(vw:Value)(x:DS)(w:World)(h:bE w d bl n vw x):Calls Tryz.prog 57 #[.pointer (some ⟨d,0,none⟩)] w fun e w'=>e= .returned (.bool (x.pending n))/\aR [] w w':=by
 have HP:Hid (x.pending n=(x.content n 3 ⟨#[]⟩).isSome):=rfl;go_enter Tryz.func57,Tryz.ntmps57;go_wp2_with fail;refine(ia w).mono ?_;rintro e w1 ⟨rfl,f1⟩;have h1:=h.new f1;go_wp2_with fail;refine(rG d bl n vw x 3 ⟨#[]⟩ w1 h1).mono ?_;rintro e w2 ⟨rfl,f2⟩;have fw:=f1.trans f2;generalize x.content n 3 ⟨#[]⟩=r at*;go_wp2_with fail;go_ret
 exact⟨by rw[HP.out];rfl,fw⟩
structure aS (w:World)(F:List Nat)(s d n:Nat)(x:DS):Prop where
 row:Row w s #[.pointer (some ⟨d,0,none⟩)] 96
 disk:bM w F d n x
 ne:s∉F
theorem aS.new {w w':World}{F:List Nat}{s d n:Nat}{x:DS}(h:aS w F s d n x)(f:aR [] w w'):aS w' F s d n x:=
 ⟨f.row h.row,h.disk.new f,h.ne⟩
theorem aS.cell {w:World}{F:List Nat}{s d n:Nat}{x:DS}(h:aS w F s d n x):w.cell? ⟨s,0,none⟩=some (.pointer (some ⟨d,0,none⟩)):=by rw[h.row.cell];rfl
theorem aS.sY {w:World}{F:List Nat}{s d n:Nat}{x:DS}(h:aS w F s d n x):∃bl vw,bE w d bl n vw x:=by
 obtain⟨bl,vw,h,_⟩:=h.disk;exact⟨bl,vw,h⟩
theorem Ep (n:Int)(w:World):Calls Tryz.prog 71 #[.int .i64 n] w fun e w'=>e= .returned (.bool (decide (16<=n)&&decide (n<=400)))/\w'=w:=by
 go_enter Tryz.func71,Tryz.ntmps71
 by_cases h1:16<=n<;>by_cases h2:n<=400
 all_goals
  have e1:Hid ((decide (16<=n)&&decide (n<=400))=(decide (16<=n)&&decide (n<=400))):=rfl;simp only[h1,h2,decide_true,decide_false] at e1⊢;go_wp2_with fail;go_ret;simp
theorem qa (n:Int)(w:World):Calls Tryz.prog 74 #[.int .i64 n] w fun e w'=>e= .returned (.bool (n==0||n==1))/\w'=w:=by
 go_enter Tryz.func74,Tryz.ntmps74;cases h1:(n==0)<;>cases h2:(n==1)
 all_goals
  go_wp2_with fail;go_ret;simp[h1,h2]
theorem fi (F:List Nat)(s d n:Nat)(x:DS)(w:World)(h:aS w F s d n x):Calls Tryz.prog 44 #[.pointer (some ⟨s,0,none⟩)] w fun e w'=>e= .returned (.bool false)/\w'=w:=by
 have c0:=h.cell;go_enter Tryz.func44,Tryz.ntmps44;go_wp2_with fail;go_ret;exact⟨rfl,rfl⟩
theorem wI (F:List Nat)(s d n:Nat)(x:DS)(w:World)(h:aS w F s d n x):Calls Tryz.prog 46 #[.pointer (some ⟨s,0,none⟩)] w fun e w'=>e= .returned (.bool x.failed)/\w'=w:=by
 have c0:=h.cell;obtain⟨bl,vw,hd⟩:=h.sY;go_enter Tryz.func46,Tryz.ntmps46;go_wp2_with fail;refine(fi F s d n x w h).mono ?_;rintro e w1 ⟨rfl,rfl⟩;go_wp2_with fail;refine(EK d bl n vw x w1 hd).mono ?_;rintro e w2 ⟨rfl,rfl⟩;go_wp2_with fail;go_ret;exact⟨rfl,rfl⟩
theorem lG (F:List Nat)(s d n:Nat)(x:DS)(w:World)(h:aS w F s d n x):Calls Tryz.prog 54 #[.pointer (some ⟨s,0,none⟩)] w fun e w'=>e= .returned (.int .i64 (if x.failed then 3 else if x.pending n then 4 else 0))/\aR [] w w':=by
 have c0:=h.cell;obtain⟨bl,vw,hd⟩:=h.sY;go_enter Tryz.func54,Tryz.ntmps54;go_wp2_with fail;refine(wI F s d n x w h).mono ?_;rintro e w1 ⟨rfl,rfl⟩;have HO:Hid ((if x.failed then(3:Int) else if x.pending n then 4 else 0)=(if x.failed then(3:Int) else if x.pending n then 4 else 0)):=rfl;cases hf:x.failed with
 |true=>
  go_wp2_with fail;go_ret;exact⟨by simp,aR.refl _ _⟩
 |false=>
  go_wp2_with fail;refine(Cg d bl n vw x w1 hd).mono ?_;rintro e w2 ⟨rfl,f2⟩;cases hp:x.pending n with
  |true=>
   go_wp2_with fail
   all_goals
    go_ret;exact⟨by simp,f2⟩
  |false=>
   go_wp2_with fail
   all_goals
    go_ret;exact⟨by simp,f2⟩
theorem mq (F:List Nat)(s d n:Nat)(x:DS)(w:World)(h:aS w F s d n x):Calls Tryz.prog 26 #[.pointer (some ⟨s,0,none⟩)] w fun e w'=>e= .returned (.string ⟨x.aM.toArray⟩)/\aR [] w w':=by
 have c0:=h.cell;obtain⟨bl,vw,hd⟩:=h.sY;go_enter Tryz.func26,Tryz.ntmps26;go_wp2_with fail;refine(fi F s d n x w h).mono ?_;rintro e w1 ⟨rfl,rfl⟩;go_wp2_with fail;refine(I7 d bl n vw x w1 hd).mono ?_;rintro e w2 ⟨rfl,f2⟩;go_wp2_with fail;go_ret;exact⟨rfl,f2⟩
theorem Hi (F:List Nat)(s d n:Nat)(x:DS)(w:World)(h:aS w F s d n x):Calls Tryz.prog 18 #[.pointer (some ⟨s,0,none⟩)] w fun e w'=>e= .returned (.int .i64 x.acts)/\w'=w:=by
 have c0:=h.cell;obtain⟨bl,vw,hd⟩:=h.sY;go_enter Tryz.func18,Tryz.ntmps18;go_wp2_with fail;refine(fi F s d n x w h).mono ?_;rintro e w1 ⟨rfl,rfl⟩;go_wp2_with fail;refine(Nb d bl n vw x w1 hd).mono ?_;rintro e w2 ⟨rfl,rfl⟩;go_wp2_with fail;go_ret;exact⟨rfl,rfl⟩
theorem Dc (d:Nat):Tryz.prog.built 96 [(0,.pointer (some ⟨d,0,none⟩))]=some #[.pointer (some ⟨d,0,none⟩)]:=by kernel_rfl
theorem zY (b:ByteArray)(n:Nat)(w:World)(hb:b.size=64*n)(h16:16<=n)(EA:n<=400):
  Calls Tryz.prog 72 #[.string b] w fun e w'=>∃s d F,e= .returned (.pointer (some ⟨s,0,none⟩))/\aS w' F s d n (DS.fresh b.data.toList)/\aR [] w w'/\bP [] F w/\w.heap.size<=s:=by
 go_enter Tryz.func72,Tryz.ntmps72;go_wp2_with (with_reducible first|refine bJ 96 rfl ?_|refine bL rfl ?_);refine(CG b n w hb h16 EA).mono ?_;rintro e w1 ⟨d,F,rfl,hd,f1,g1⟩;go_wp2_with (with_reducible first|refine bJ 96 rfl ?_|refine bL rfl ?_);refine ax.go (cN rfl (.agg #[.pointer (some ⟨d,0,none⟩)]) w1 (gU _ _ rfl _ (Dc d)) ?_)
 go_wp2_with (with_reducible first|refine bL rfl ?_);refine ax.go (ii rfl 96 _ rfl (.agg #[.pointer (some ⟨d,0,none⟩)]) rfl ?_);intro w2 s l2 f2 r2;have hd2:=hd.new f2;have fw:=f1.trans f2;have hs:s∉F:=fun hF=>by have:=hd.lt s hF;omega
 go_wp2_with fail;go_ret;exact⟨s,d,F,rfl,⟨r2,hd2,hs⟩,fw,g1,by have:=f1.size;omega⟩
theorem yh (n:Nat)(h:1<=n):(eY n).length=64*n:=by
 unfold eY;rw[List.length_append,mC,List.length_replicate];omega
theorem O6 (n:Nat)(w:World)(h16:16<=n)(EA:n<=400):
  Calls Tryz.prog 40 #[.int .i64 n] w fun e w'=>∃s d F,e= .returned (.tuple #[.pointer (some ⟨s,0,none⟩),.int .i64 0])/\aS w' F s d n (DS.fresh (eY n))/\aR [] w w'/\bP [] F w/\w.heap.size<=s:=by
 go_enter Tryz.func40,Tryz.ntmps40;go_wp2_with fail;refine(Ep n w).mono ?_;rintro e w1 ⟨rfl,rfl⟩;have e1:(decide (16<=(n:Int))&&decide ((n:Int)<=400))=true:=by
  rw[decide_eq_true (by omega),decide_eq_true (by omega)];rfl
 rw[e1];go_wp2_with fail;refine(IN n w1 (by omega) EA).mono ?_;rintro e w2 ⟨rfl,f2⟩;have hl:=yh n (by omega);go_wp2_with fail;refine(zY ⟨(eY n).toArray⟩ n w2 (by rw[<-hl];rfl) h16 EA).mono ?_;rintro e w3 ⟨s,d,F,rfl,hs,f3,g3,l3⟩;have fw:=f2.trans f3;have hs':aS w3 F s d n (DS.fresh (eY n)):=hs;have hsz:=f2.size
 have gw:bP [] F w1:=fun i hi=>(g3 i hi).imp id (fun h=>by omega)
 clear hs f2 f3 g3;go_wp2_with fail
 all_goals
  go_ret2
  exact⟨s,d,F,rfl,hs',fw,gw,by omega⟩
theorem Is (n:Nat)(w:World)(hn:n<=2):Calls Tryz.prog 48 #[.int .i64 n] w fun e w'=>e= .returned (.bool true)/\w'=w:=by
 go_enter Tryz.func48,Tryz.ntmps48;rcases(by omega:n=0\/n=1\/n=2) with rfl|rfl|rfl
 all_goals
  go_wp2_with fail;refine(qa _ w).mono ?_;rintro e w1 ⟨rfl,rfl⟩;go_wp2_with fail;go_ret;exact⟨rfl,rfl⟩
def DS.get (x:DS)(n s:Nat)(p:ByteArray):Value×Int:=if x.failed then(.string ⟨#[]⟩,3) else match x.content n s p with
 |none=>(.string ⟨#[]⟩,5)
 |some c=>(.string (aF c),0)
theorem xx (s:Int)(p:ByteArray):Tryz.prog.built 103 [(0,.int .i64 s),(1,.string p)]=some (dK s p):=by kernel_rfl
theorem PW (F:List Nat)(s d n:Nat)(x:DS)(side:Nat)(p:ByteArray)(w:World)(h:aS w F s d n x)(hs:side<=2)(hp:cE p.data.toList=true)(hpl:p.size<=8):
  Calls Tryz.prog 22 #[.pointer (some ⟨s,0,none⟩),.int .i64 side,.string p] w fun e w'=>e= .returned (.tuple #[(x.get n side p).1,.int .i64 (x.get n side p).2])/\aR [] w w':=by
 have c0:=h.cell;obtain⟨bl,vw,hd⟩:=h.sY;have HG:Hid (x.get n side p=(if x.failed then((Value.string ⟨#[]⟩,3):Value×Int) else match x.content n side p with|none=>(Value.string ⟨#[]⟩,5)|some c=>(Value.string (aF c),0))):=rfl;go_enter Tryz.func22,Tryz.ntmps22;go_wp2_with fail;refine(fi F s d n x w h).mono ?_;rintro e w1 ⟨rfl,rfl⟩;go_wp2_with fail;refine(Is side w1 hs).mono ?_
 rintro e w2 ⟨rfl,rfl⟩;go_wp2_with fail;refine(mG p w2 (by omega)).mono ?_;rintro e w3 ⟨rfl,f3⟩;rw[hp];have h3:=h.new f3;have hd3:=hd.new f3;have c0:=h3.cell;go_wp2_with fail;refine(wI F s d n x w3 h3).mono ?_;rintro e w4 ⟨rfl,rfl⟩;cases hf:x.failed with
 |true=>
  rw[hf] at HG;go_wp2_with fail
  all_goals
   go_ret2
   rw[HG.out];exact⟨rfl,f3⟩
 |false=>
  rw[hf] at HG;go_wp2_with (with_reducible first|refine bJ 103 rfl ?_);refine ax.go (cN rfl (.agg (dK side p)) w4 (gU _ _ rfl _ (xx side p)) ?_);go_wp2_with fail;refine(rG d bl n vw x side p w4 hd3).mono ?_;rintro e w5 ⟨rfl,f5⟩;have fw:=f3.trans f5;generalize x.content n side p=r at*;cases r with
  |none=>
   go_wp2_with fail
   all_goals
    go_ret2
    rw[HG.out];exact⟨rfl,fw⟩
  |some c=>
   go_wp2_with fail
   all_goals
    go_ret2
    rw[HG.out];exact⟨rfl,fw⟩
def DS.fQ (x:DS)(n s:Nat)(p:ByteArray):DS×Value:=
 if x.failed then(x,.int .i64 3) else if x.pending n then(x,.int .i64 4) else x.remove n s p
theorem zO (F:List Nat)(s d n:Nat)(x:DS)(side:Nat)(p:ByteArray)(w:World)(h:aS w F s d n x)(hx:x.Fit 2)(gS:x.waiting.length<60)(hs:side<=1)(hp:cE p.data.toList=true)(hpl:p.size<=8):
  Calls Tryz.prog 42 #[.pointer (some ⟨s,0,none⟩),.int .i64 side,.string p] w fun e w'=>e= .returned (x.fQ n side p).2/\(∃F',aS w' F' s d n (x.fQ n side p).1/\bP F F' w)/\aR F w w':=by
 have HG:Hid (x.fQ n side p=if x.failed then(x,.int .i64 3) else if x.pending n then(x,.int .i64 4) else x.remove n side p):=rfl;have e1:((side:Int)==0||(side:Int)==1)=true:=by
  rcases(by omega:side=0\/side=1) with rfl|rfl<;>rfl
 go_enter Tryz.func42,Tryz.ntmps42;go_wp2_with fail;refine(fi F s d n x w h).mono ?_;rintro e w1 ⟨rfl,rfl⟩;go_wp2_with fail;refine(qa side w1).mono ?_;rintro e w2 ⟨rfl,rfl⟩;rw[e1];go_wp2_with fail;refine(mG p w2 (by omega)).mono ?_;rintro e w3 ⟨rfl,f3⟩;rw[hp];have h3:=h.new f3;go_wp2_with fail;refine(lG F s d n x w3 h3).mono ?_;rintro e w4 ⟨rfl,f4⟩
 have h4:=h3.new f4;have fw:=f3.trans f4;have c0:=h4.cell;cases hf:x.failed with
 |true=>
  rw[hf] at HG;have HG2:Hid (x.fQ n side p=(x,.int .i64 3)):=by show _=_;rw[HG.out];rfl
  simp only[if_true];go_wp2_with fail
  all_goals
   go_ret;rw[HG2.out];exact⟨rfl,⟨F,h4,bP.refl _ _⟩,fw.mono⟩
 |false=>
  rw[hf] at HG;cases hpd:x.pending n with
  |true=>
   rw[hpd] at HG;have HG2:Hid (x.fQ n side p=(x,.int .i64 4)):=by show _=_;rw[HG.out];rfl
   simp only[if_true,Bool.false_eq_true,if_false];go_wp2_with fail
   all_goals
    go_ret;rw[HG2.out];exact⟨rfl,⟨F,h4,bP.refl _ _⟩,fw.mono⟩
  |false=>
   rw[hpd] at HG;have HG2:Hid (x.fQ n side p=x.remove n side p):=by show _=_;rw[HG.out];rfl
   simp only[Bool.false_eq_true,if_false];go_wp2_with (with_reducible first|refine bJ 103 rfl ?_);refine ax.go (cN rfl (.agg (dK side p)) w4 (gU _ _ rfl _ (xx side p)) ?_);go_wp2_with fail;refine(nY F d n x side p w4 h4.disk hx gS).mono ?_;rintro e w5 ⟨rfl,F5,h5,f5,g5⟩;have gw:=(bP.refl F w2).trans g5 fw.size
   have hs5:aS w5 F5 s d n (x.remove n side p).1:=⟨f5.row h4.row h4.ne,h5,fun hF=>(gw s hF).elim h.ne (fun hh=>by have:=h.row.lt;omega)⟩
   have f15:aR F w2 w5:=(fw.mono (T:=F) (by simp)).trans f5 (fun i hi=> .inl hi);go_wp2_with fail
   all_goals
    go_ret;rw[HG2.out];exact⟨rfl,⟨F5,hs5,gw⟩,f15⟩
structure Step (P:Program)(ops:Array Oper)(Q:Exit->Act->World->Prop)(n m:Nat)(l:List Nat)(i:Nat)(a:Act)(w:World):Prop where
 ex:∃oi,ops[i]? =some oi/\oi.guard=none/\∀K:Act->World->Prop,(∀a w,xK P ops Q n m (i::l) a w->K a w)->oi.wp P a w K Q
section
variable {P:Program}{ops:Array Oper}{Q:Exit->Act->World->Prop}{n m:Nat}{l:List Nat}{a:Act}{w:World}
theorem bA (i:Nat){oi:Oper}(hi:ops[i]? =some oi)(hg:oi.guard=none)(dst:Option Tmp)(hd:oi.dst=dst)(v:Value)(w1:World)(hr:(execOp a.eval oi).run P w= .ok (.value v) w1)(h:xK P ops Q n m (i::l) (a.put dst v) w1):Step P ops Q n m l i a w:=
 ⟨oi,hi,hg,fun K hK=>by
  subst hd;unfold Oper.wp;rw[hr];exact hK _ _ h⟩
theorem JN (i:Nat){oi:Oper}(hi:ops[i]? =some oi)(hg:oi.guard=none)(dst:Option Tmp)(hd:oi.dst=dst)(v:Value)(hr:(execOp a.eval oi).run P w= .ok (.value v) w)(h:xK P ops Q n m (i::l) (a.put dst v) w):Step P ops Q n m l i a w:=bA i hi hg dst hd v w hr h
theorem lO (i:Nat){oi:Oper}(hi:ops[i]? =some oi)(hg:oi.guard=none)(dst:Option Tmp)(hd:oi.dst=dst)(f:FuncId)(args:Array Value)(hr:(execOp a.eval oi).run P w= .ok (.enter f args) w)(R:Ending->World->Prop)(hc:Calls P f args w R)
  (h:∀e w',R e w'->∃v,e= .returned v/\xK P ops Q n m (i::l) (a.put dst v) w'):Step P ops Q n m l i a w:=
 ⟨oi,hi,hg,fun K hK=>by
  subst hd;unfold Oper.wp;rw[hr];simp only[Oper.upon];refine hc.mono ?_;intro e w' he;obtain⟨v,rfl,hv⟩:=h e w' he;exact hK _ _ hv⟩
theorem bj (i:Nat){oi:Oper}(hi:ops[i]? =some oi)(hg:oi.guard=none)(dst:Option Tmp)(hd:oi.dst=dst)(f:FuncId)(args:Array Value)(hr:(execOp a.eval oi).run P w= .ok (.enter f args) w){v:Value}(hc:Calls P f args w fun e w'=>e= .returned v/\w'=w)
  (h:xK P ops Q n m (i::l) (a.put dst v) w):Step P ops Q n m l i a w:=
 lO i hi hg dst hd f args hr _ hc (by rintro e w' ⟨rfl,rfl⟩;exact⟨_,rfl,h⟩)
theorem NS (i:Nat){oi:Oper}(hi:ops[i]? =some oi)(hg:oi.guard=none)(h:∀K:Act->World->Prop,(∀a w,xK P ops Q n m (i::l) a w->K a w)->oi.wp P a w K Q):Step P ops Q n m l i a w:=⟨oi,hi,hg,h⟩
theorem Fg (is:List Nat)(hne:is≠[])(hr:Region.ready .any ops (marks n l)=is)(hlt:∀i∈is,i<n)(h:∀i∈is,Step P ops Q n m l i a w):xK P ops Q n (m+1) l a w:=
 wpAny_all hr (by simpa using hne) fun i hi=>by
  obtain⟨oi,h1,h2,h3⟩:=h i hi;unfold wpOp;simp only[h1];rw[if_pos (by simp[Region.wanted,h2])];exact .inl (h3 _ fun a w x=>by rw[sM n i l (hlt i hi)];exact x)
theorem ba (i:Nat)(h:Step P ops Q n m l i a w)(hr:Region.ready .any ops (marks n l)=[i]:=by kernel_rfl)(hlt:i<n:=by omega):xK P ops Q n (m+1) l a w:=
 Fg [i] (by simp) hr (by simpa using hlt) (by simpa using h)
theorem gp (i j:Nat)(h1:Step P ops Q n m l i a w)(h2:Step P ops Q n m l j a w)(hr:Region.ready .any ops (marks n l)=[i,j]:=by kernel_rfl)(hi:i<n:=by omega)(hj:j<n:=by omega):xK P ops Q n (m+1) l a w:=
 Fg [i,j] (by simp) hr (by simp[hi,hj]) (by simp[h1,h2])
end
theorem Xy {P:Program}{ρ:Operand->Value}{w:World}{o:Oper}(t e:TypeId)(size bytes:Nat)(E:Elem P t e size bytes)(x:Operand)(ho:o.op= .buildSlice t 1 #[(0,x)])(h24:size<=1000)(v:Value)(hx:ρ x=v)(hv:v.cells.size=size):
  (execOp ρ o).run P w= .ok (.value (.slice (some ⟨w.heap.size,0,none⟩) 1 1)) (w.alloc (.cells v.cells e)):=by
 obtain⟨i,z,h1,h2,h3,h4,h5⟩:=E.open;exact sV t e x ho E.slice i z v h1 h2 (by have:=E.pos;omega) (by omega) hx (by omega)
theorem JL {P:Program}{ops:Array Oper}{Q:Exit->Act->World->Prop}{n m:Nat}{l:List Nat}{a:Act}{w:World}(i:Nat){oi:Oper}(hi:ops[i]? =some oi)(hg:oi.guard=none)(dst:Option Tmp)(hd:oi.dst=dst)(t e:TypeId)(size bytes:Nat)(E:Elem P t e size bytes)(x:Operand)(ho:oi.op= .buildSlice t 1 #[(0,x)])(h24:size<=1000)(v:Value)(hx:a.eval x=v)(hv:v.cells.size=size)
  (h:∀b w',aR [] w w'->Row w' b v.cells e->xK P ops Q n m (i::l) (a.put dst (.slice (some ⟨b,0,none⟩) 1 1)) w'):Step P ops Q n m l i a w:=
 bA i hi hg dst hd _ _ (Xy t e size bytes E x ho h24 v hx hv) (h _ _ (aR.alloc _ _ _) (Row.new _ _ _))
theorem AP {P:Program}{ops:Array Oper}{Q:Exit->Act->World->Prop}{n m k:Nat}{l0:List Nat}{a:Act}{w:World}{Y:Type}(l:List Nat)(C:Y->Prop)(A:Y->Act->Act)(W:Y->World)
  (h:∀y,C y->xK P ops Q n m l (A y a) (W y)) (t:(∀y l',marks n l'=marks n l->C y->xK P ops Q n m l' (A y a) (W y))->xK P ops Q n k l0 a w):xK P ops Q n k l0 a w:=
 t fun y l' hl hy=>by have:=h y hy;unfold xK at this⊢;rw[hl];exact this
theorem KG {w:World}{b b':Nat}{e:TypeId}{size:Nat}{v:Value}{n:Nat}{xs:List Value}(h:w.ownsRow b e size v n xs)(hb:b'<=b):w.ownsRow b' e size v n xs:=by
 obtain⟨h1,h2⟩:=h;refine⟨h1,?_⟩;rcases h2 with h2|⟨g,cap,cur,e1,e2,e3⟩
 .exact .inl h2
 .exact .inr ⟨g,cap,cur,e1,by omega,e3⟩
theorem MP (s:Int)(p c:ByteArray):Tryz.prog.built 107 [(0,.agg (dK s p)),(1,.string c)]=some #[.int .i64 s,.string p,.string c]:=by kernel_rfl
def DS.pY (x:DS)(n s:Nat)(p c:ByteArray):DS×Value:=
 if x.failed then(x,.int .i64 3) else if x.pending n then(x,.int .i64 4)
 else if 7<oy (bh x n++[⟨s,p.data.toList,c.data.toList⟩]) then(x,.int .i64 6) else x.put n s p c
theorem yS (F:List Nat)(s d n:Nat)(x:DS)(side:Nat)(p c:ByteArray)(w:World)(h:aS w F s d n x)(hx:x.Fit 5)(gS:x.waiting.length<55)(hs:side<=1)(hp:cE p.data.toList=true)(hpl:p.size<=8)(hcl:c.size<=96):
  Calls Tryz.prog 39 #[.pointer (some ⟨s,0,none⟩),.int .i64 side,.string p,.string c] w fun e w'=>e= .returned (x.pY n side p c).2/\(∃F',aS w' F' s d n (x.pY n side p c).1/\bP F F' w)/\aR F w w':=by
 have HG:Hid (x.pY n side p c=if x.failed then(x,.int .i64 3) else if x.pending n then(x,.int .i64 4) else if 7<oy (bh x n++[⟨side,p.data.toList,c.data.toList⟩]) then(x,.int .i64 6) else x.put n side p c):=rfl;have e1:((side:Int)==0||(side:Int)==1)=true:=by
  rcases(by omega:side=0\/side=1) with rfl|rfl<;>rfl
 go_enter Tryz.func39,Tryz.ntmps39;go_wp2_with fail;refine(fi F s d n x w h).mono ?_;rintro e w1 ⟨rfl,rfl⟩;go_wp2_with fail;refine(qa side w1).mono ?_;rintro e w2 ⟨rfl,rfl⟩;rw[e1];go_wp2_with fail;refine(mG p w2 (by omega)).mono ?_;rintro e w3 ⟨rfl,f3⟩;rw[hp];have h3:=h.new f3;have hc96:¬(c.size:Int)>96:=by omega
 go_wp2_with fail;refine(lG F s d n x w3 h3).mono ?_;rintro e w4 ⟨rfl,f4⟩;have h4:=h3.new f4;have fw:=f3.trans f4;cases hf:x.failed with
 |true=>
  rw[hf] at HG;have HG2:Hid (x.pY n side p c=(x,.int .i64 3)):=by show _=_;rw[HG.out];rfl
  simp only[if_true];go_wp2_with fail
  all_goals
   go_ret;rw[HG2.out];exact⟨rfl,⟨F,h4,bP.refl _ _⟩,fw.mono⟩
 |false=>
  rw[hf] at HG;cases hpd:x.pending n with
  |true=>
   rw[hpd] at HG;have HG2:Hid (x.pY n side p c=(x,.int .i64 4)):=by show _=_;rw[HG.out];rfl
   simp only[if_true,Bool.false_eq_true,if_false];go_wp2_with fail
   all_goals
    go_ret;rw[HG2.out];exact⟨rfl,⟨F,h4,bP.refl _ _⟩,fw.mono⟩
  |false=>
   rw[hpd] at HG;simp only[Bool.false_eq_true,if_false];go_wp2_with (with_reducible first|refine bJ 103 rfl ?_|refine bJ 107 rfl ?_|refine aA rfl ?_|refine ah 107 rfl ?_);refine ax.go (cN rfl (.agg (dK side p)) w4 (gU _ _ rfl _ (xx side p)) ?_)
   go_wp2_with (with_reducible first|refine bJ 107 rfl ?_|refine aA rfl ?_|refine ah 107 rfl ?_);refine ax.go (cN rfl (.agg #[.int .i64 side,.string p,.string c]) w4 (gU _ _ rfl _ (MP side p c)) ?_);go_wp2_with (with_reducible first|refine aA rfl ?_|refine ah 107 rfl ?_);refine ax.go (bv rfl 107 rfl A1 oG ?_)
   intro w5 b10 l5 f5 r5;go_wp2_with (with_reducible first|refine aA rfl ?_|refine ah 107 rfl ?_);refine ax.go (bT rfl 107 _ _ rfl _ 0 rfl _ rfl 3 fh ?_ ?_ _ _ r5 ?_ ?_)
   .rfl
   .simp[Value.oneCell']
   .decide
   intro w6 f6 q6;rw[bO _ _ (by rfl)] at q6;have UM:Row w6 b10 #[.int .i64 side,.string p,.string c] 107:=q6;have f46:=f5.trans f6 (by simpa using l5);have h6:=h4.new f46;have sR:=fw.trans f46;clear q6 r5 f5 f6 f46 h4 h3 l5;go_wp2_with fail;refine fg 10 rfl ?_;refine rY ?_;have fd:aR [] w6 w6.drew:=aR.drew _ _;have h7:=h6.new fd
   have q7:=fd.row UM;have xP:=sR.trans fd;generalize w6.drew=w7 at h7 q7 xP;clear fd h6 UM sR fw f3 f4;have fb:=xP;replace xP:aR [] w7 w7:=aR.refl _ _;refine dX 0 (some 36) rfl rfl (fun _ _ _ h=>h) rfl (v:= .pointer (some ⟨s,0,none⟩)) (fun _=>rfl) ?_
   refine dX 1 (some 37) rfl rfl (fun _ _ _ h=>h) rfl (v:= .pointer (some ⟨s,0,none⟩)) (fun _=>by go_simp) ?_;refine dX 2 (some 38) rfl rfl (fun _ _ _ h=>h) rfl (v:= .pointer (some ⟨s,0,none⟩)) (fun _=>by go_simp) ?_;simp only[Act.put,aX,aY,aW]
   refine AP (m:=3) [6,5,4,3,2,1,0] (fun(y:Value×Nat×World)=>aS y.2.2 F s d n x/\Row y.2.2 b10 #[.int .i64 side,.string p,.string c] 107/\aR [] w7 y.2.2/\y.2.2.ownsRow w7.heap.size 107 3 y.1 (bh x n).length (gT (bh x n))/\Row y.2.2 y.2.1 #[.int .i64 side,.string p,.string c] 107) (fun y a=>((((a.put (some 39) (.pointer (some ⟨d,0,none⟩))).put (some 40) y.1).put (some 41) (.agg #[.int .i64 side,.string p,.string c])).put (some 42) (.slice (some ⟨y.2.1,0,none⟩) 1 1))) (fun y=>y.2.2) ?_ ?_
   .rintro⟨v,bz,w8⟩ ⟨h8,q8,qt,o8,r8⟩
    simp only at h8 q8 qt o8 r8;simp only[Act.put,aX,aY,aW];have hfl:(bh x n).length<=54:=by unfold bh;rw[List.length_map];exact i9 x n
    have HF:Hid (gT (bh x n++[⟨side,p.data.toList,c.data.toList⟩])=gT (bh x n)++[.int .i64 side,.string p,.string c]):=by
     show _=_;rw[rD];rfl
    have hv8:∀k,v.ownBlock=some k->w7.heap.size<=k:=fun k hk=>(o8.lt k hk).1
    have hs7:=h7.row.lt;have hF7:=fun k hk=>h7.disk.lt k hk
    have hb7:=q7.lt;clear h7 q7;refine ba 7 (NS 7 rfl rfl fun K hK=>yJ 104 107 3 40 pg _ _ rfl w7.heap.size v _ _ rfl o8 bz 1 1 [.int .i64 side,.string p,.string c] rfl _ _ r8 rfl rfl (by simp[Value.oneCell']) (by omega) (by omega) (by omega) qt.size fun g cap w9 o9 f9 _=>hK _ _ ?_)
    have q9:=f9.row q8 (by intro hk;have:=hv8 b10 (by simpa using hk);omega);have h9:aS w9 F s d n x:=⟨f9.row h8.row (by intro hk;have:=hv8 s (by simpa using hk);omega),h8.disk.wV f9 (fun k hk hF=>by have:=hv8 k (by simpa using hk);have:=hF7 k hF;omega),h8.ne⟩
    have YA:aR [] w7 w9:=qt.trans f9 (fun k hk=> .inr (hv8 k (by simpa using hk)));have fx9:aR [] w2 w9:=fb.trans YA;clear h8 q8 qt o8 r8 f9 hv8 hs7 hF7 hb7 fb xP YA
    change xK _ _ _ _ _ _ (Act.put _ (some 43) _) _
    simp only[Act.put,aX,aY,aW];have hlen:(bh x n++[(⟨side,p.data.toList,c.data.toList⟩:dk)]).length=(bh x n).length+1:=by simp
    have hcount:=IV w7.heap.size (.slice (some ⟨g,0,none⟩) ((bh x n).length+1) cap) (bh x n++[⟨side,p.data.toList,c.data.toList⟩]) w9 (by rw[hlen,HF.out];exact o9) (by omega);clear o9 HF hlen hfl;generalize (bh x n).length+1=ln at*;refine ba 8 (lO 8 rfl rfl (some 44) rfl 75 #[.slice (some ⟨g,0,none⟩) ln cap] (by go_simp) _ hcount ?_)
    rintro e wc ⟨rfl,fc⟩;refine⟨_,rfl,?_⟩;have hc:=h9.new fc;have qc:=fc.row q9;have fxc:=fx9.trans fc;clear hcount h9 q9 fx9 fc;generalize oy (bh x n++[⟨side,p.data.toList,c.data.toList⟩])=m at*;simp only[Act.put,aX,aY,aW]
    by_cases hm:7<m
    .have HG2:Hid (x.pY n side p c=(x,.int .i64 6)):=by show _=_;rw[HG.out];simp[hm]
     refine ba 9 (bA 9 rfl rfl (some 45) rfl (.bool true) wc (by go_simp;omega) ?_);refine rX ?_;simp only[Act.put,aX,aY,aW];go_wp2_with fail
     all_goals
      go_ret;rw[HG2.out];exact⟨rfl,⟨F,hc,bP.refl _ _⟩,fxc.mono⟩
    .have HG2:Hid (x.pY n side p c=x.put n side p c):=by show _=_;rw[HG.out];simp[hm]
     refine ba 9 (bA 9 rfl rfl (some 45) rfl (.bool false) wc (by go_simp;omega) ?_);refine rX ?_;simp only[Act.put,aX,aY,aW];clear hm;go_wp2_with fail;refine fg 7 rfl ?_;have fdd:aR [] wc wc.drew:=aR.drew _ _;have hd:=hc.new fdd;have qd:=fdd.row qc;have fxd:=fxc.trans fdd
     generalize wc.drew=wd at hd qd fxd;clear fdd hc qc fxc HG hK;have hL1:Lets (fun w':World=>Row w' s #[.pointer (some ⟨d,0,none⟩)] 96):=⟨fun w o h=>(aR.alloc [] w o).row h,fun w h=>h⟩
     have hL2:Lets (fun w':World=>Row w' b10 #[.int .i64 side,.string p,.string c] 107):=⟨fun w o h=>(aR.alloc [] w o).row h,fun w h=>h⟩
     refine bQ 0 (some 46) rfl rfl (fun _ _ _ h=>h) rfl (v:= .pointer (some ⟨s,0,none⟩)) (fun _=>rfl) ?_;refine bQ 1 (some 47) rfl rfl (fun _ _ _ h=>h) rfl (v:= .pointer (some ⟨s,0,none⟩)) (fun _=>by go_simp) ?_
     refine bQ 2 (some 48) rfl rfl (fun _ _ _ h=>h) rfl (v:= .pointer (some ⟨s,0,none⟩)) (fun _=>by go_simp) ?_;simp only[Act.put,aX,aY,aW]
     refine lk 3 _ hL1 hd.row (some 49) rfl rfl (fun _ _ _ h=>h) rfl (v:= .pointer (some ⟨d,0,none⟩)) (fun w' hw'=>by have:=hw'.cell 0;go_simp) ?_;simp only[Act.put,aX,aY,aW]
     refine lk 4 _ hL2 qd (some 50) rfl rfl (fun _ _ _ h=>h) rfl (v:= .agg #[.int .i64 side,.string p,.string c]) (fun w' hw'=>rJ 107 _ rfl b10 0 rfl lS 3 fh _ _ hw' [.int .i64 side,.string p,.string c] rfl rfl) ?_;simp only[Act.put,aX,aY,aW]
     refine Di 5 (by omega) (some 51) rfl rfl (by kernel_rfl) rfl 76 #[.pointer (some ⟨d,0,none⟩),.agg #[.int .i64 side,.string p,.string c]] (by go_simp) _ (vX F d n x side p c wd hd.disk hx gS (by omega) (by omega) (by omega)) ?_;rintro e we ⟨rfl,Fe,he,fe,ge⟩;refine⟨_,rfl,?_⟩;have gw:=(bP.refl F w2).trans ge fxd.size
     have hse:aS we Fe s d n (x.put n side p c).1:=⟨fe.row hd.row hd.ne,he,fun hF=>(gw s hF).elim h.ne (fun hh=>by have:=h.row.lt;omega)⟩
     have Xx:aR F w2 we:=(fxd.mono (T:=F) (by simp)).trans fe (fun i hi=> .inl hi);clear hL1 hL2 hd qd fxd he fe ge;refine bQ 6 (some 8) rfl rfl (fun _ _ _ h=>h) rfl (v:=(x.put n side p c).2) (fun _=>rfl) ?_;simp only[Act.put,aX,aY,aW];refine lp ?_;generalize hpx:x.put n side p c=y at*
     have HPX:Hid (x.put n side p c=y):=hpx;clear hpx;go_wp2_with fail
     all_goals
      go_ret;rw[HG2.out];exact⟨rfl,⟨Fe,hse,gw⟩,Xx⟩
   intro tz;have tail:∀v bz l,marks 10 l=marks 10 [6,5,4,3,2,1,0]->∀wk,aS wk F s d n x->Row wk b10 #[.int .i64 side,.string p,.string c] 107->aR [] w7 wk->wk.ownsRow w7.heap.size 107 3 v (bh x n).length (gT (bh x n))->Row wk bz #[.int .i64 side,.string p,.string c] 107->_:=fun v bz l hl wk a1 a2 a3 a4 a5=>tz (v,bz,wk) l hl ⟨a1,a2,a3,a4,a5⟩
   simp only[Act.put,aX,aY,aW] at tail;clear tz;have r7:True:=trivial;have o7:True:=trivial
   repeat' first
    |((
      first
      |refine gp 3 5 (hr:=(by decide+kernel)) ?_ ?_
      |refine gp 4 5 (hr:=(by decide+kernel)) ?_ ?_
      |refine gp 4 6 (hr:=(by decide+kernel)) ?_ ?_
      |refine gp 3 6 (hr:=(by decide+kernel)) ?_ ?_
      |refine ba 3 (hr:=(by decide+kernel)) ?_
      |refine ba 4 (hr:=(by decide+kernel)) ?_
      |refine ba 5 (hr:=(by decide+kernel)) ?_
      |refine ba 6 (hr:=(by decide+kernel)) ?_)<;>first
      |(
        show Step _ _ _ _ _ _ 3 _ _;refine JN 3 rfl rfl (some 39) rfl (.pointer (some ⟨d,0,none⟩)) (by have c0:=h7.cell;go_simp) ?_;simp only[Act.put,aX,aY,aW])
      |(
        show Step _ _ _ _ _ _ 4 _ _;obtain⟨bl8,vw8,hd8⟩:=h7.sY;refine lO 4 rfl rfl (some 40) rfl 51 #[.pointer (some ⟨d,0,none⟩)] (by go_simp) _ (QU d bl8 n vw8 x _ hd8) ?_;rintro e w8 ⟨v,rfl,o8,f8⟩;refine⟨v,rfl,?_⟩;replace o7:=KG o8 xP.size;replace h7:=h7.new f8;replace q7:=f8.row q7;replace xP:=xP.trans f8
        try replace r7:=f8.row r7
        clear f8 hd8;simp only[Act.put,aX,aY,aW])
      |(
        show Step _ _ _ _ _ _ 5 _ _;refine bA 5 rfl rfl (some 41) rfl (.agg #[.int .i64 side,.string p,.string c]) _ (rJ 107 _ rfl b10 0 rfl lS 3 fh _ _ q7 [.int .i64 side,.string p,.string c] rfl rfl) ?_;simp only[Act.put,aX,aY,aW])
      |(
        show Step _ _ _ _ _ _ 6 _ _;refine JL 6 rfl rfl (some 42) rfl 104 107 3 40 pg _ rfl (by omega) (.agg #[.int .i64 side,.string p,.string c]) rfl rfl ?_;intro bz w9 f9 r9;replace h7:=h7.new f9;replace q7:=f9.row q7;replace xP:=xP.trans f9
        try replace o7:=f9.owns o7
        replace r7:=r9;clear f9;simp only[Act.put,aX,aY,aW]))
    |exact tail _ _ _ (by kernel_rfl) _ h7 q7 xP o7 r7
def bC (c:Int)(n:Nat):Nat:=((if c<0 then -(c+1) else c)%(n:Int)).toNat
theorem n3 (c:Int)(n:Nat)(h:0<n:=by omega):bC c n<n:=by
 unfold bC;have h1:=Int.emod_lt_of_pos (if c<0 then -(c+1) else c) (show(0:Int)<n by omega);have h2:=Int.emod_nonneg (if c<0 then -(c+1) else c) (show(n:Int)≠0 by omega);omega
theorem D9 (c:Int)(n:Nat)(h:0<n):((bC c n:Nat):Int)=(if c<0 then -(c+1) else c)%(n:Int):=by
 unfold bC;have h2:=Int.emod_nonneg (if c<0 then -(c+1) else c) (show(n:Int)≠0 by omega);omega
theorem d7 (c:Int)(n:Nat)(w:World)(h0:-9223372036854775808<=c)(h1:c<=9223372036854775807)(hn:0<n:=by omega)(hn2:n<=1000000000:=by omega):
  Calls Tryz.prog 19 #[.int .i64 c,.int .i64 n] w fun e w'=>e= .returned (.int .i64 (bC c n))/\w'=w:=by
 have HP:Hid (((bC c n:Nat):Int)=(if c<0 then -(c+1) else c)%(n:Int)):=D9 c n hn;have hne:((n:Int)==0)=false:=by rw[beq_eq_false_iff_ne];omega
 have hne':(n:Int)≠0:=by omega
 go_enter Tryz.func19,Tryz.ntmps19
 by_cases hc:c<0
 .have HQ:Hid (((bC c n:Nat):Int)=-((c+1).tmod (n:Int))):=by
   show _=_;rw[HP.out,if_pos hc,<-Int.neg_tmod,Int.tmod_eq_emod_of_nonneg (by omega)]
  go_wp2_with fail;go_ret;exact⟨by rw[HQ.out];rfl,rfl⟩
 .have HQ:Hid (((bC c n:Nat):Int)=c%(n:Int)):=by
   show _=_;rw[HP.out,if_neg hc]
  go_wp2_with fail;go_ret;exact⟨by rw[HQ.out];rfl,rfl⟩
def de (s:ByteArray):ByteArray:=if s.size>96 then s.extract 0 96 else s
theorem cT (s:ByteArray)(w:World):Calls Tryz.prog 43 #[.string s] w fun e w'=>e= .returned (.string (de s))/\w'=w:=by
 go_enter Tryz.func43,Tryz.ntmps43
 by_cases hc:s.size>96
 .have HQ:Hid (de s=s.extract 0 96):=by show _=_;unfold de;rw[if_pos hc]
  have hc':(s.size:Int)>96:=by omega
  go_wp2_with fail;go_ret;exact⟨by rw[HQ.out];rfl,rfl⟩
 .have HQ:Hid (de s=s):=by show _=_;unfold de;rw[if_neg hc]
  have hc':¬(s.size:Int)>96:=by omega
  go_wp2_with fail;go_ret;exact⟨by rw[HQ.out];rfl,rfl⟩
def gO (i:Nat):ByteArray:=(⟨#[97,98,99,100,101,102,103]⟩:ByteArray).extract i (i+1)
theorem Ch (i:Nat)(h:i<7):cE (gO i).data.toList=true/\(gO i).size=1:=by
 rcases(by omega:i=0\/i=1\/i=2\/i=3\/i=4\/i=5\/i=6) with rfl|rfl|rfl|rfl|rfl|rfl|rfl<;>exact⟨by decide,by decide⟩
theorem dD (c:Int)(w:World)(h0:-9223372036854775808<=c)(h1:c<=9223372036854775807):Calls Tryz.prog 41 #[.int .i64 c] w fun e w'=>e= .returned (.string (gO (bC c 7)))/\w'=w:=by
 have hlt:=n3 c 7;go_enter Tryz.func41,Tryz.ntmps41;go_wp2_with fail;refine(d7 c 7 w h0 h1).mono ?_;rintro e w1 ⟨rfl,rfl⟩;generalize hi:bC c 7=i at*;have HI:Hid (bC c 7=i):=hi;clear hi;rcases(by omega:i=0\/i=1\/i=2\/i=3\/i=4\/i=5\/i=6) with rfl|rfl|rfl|rfl|rfl|rfl|rfl
 all_goals
  go_wp2_with fail;go_ret;exact⟨by rw[HI.out];rfl,rfl⟩
def jX (L:List UInt8)(j:Nat):List UInt8:=(L.drop (64*j)).take 64
theorem BJ (L:List UInt8)(j k:Nat):(jX L j)[k]? =if k<64 then L[64*j+k]? else none:=by
 unfold jX;rw[List.getElem?_take];split
 .rw[List.getElem?_drop]
 .rfl
theorem OL (L:List UInt8)(n:Nat)(hL:L.length=64*n)(i:Nat)(hi:i<n)(b:List UInt8)(hb:b.length=64)(m:Nat):
  (bI L ((i:Int),b))[m]? =if m<64*i then L[m]? else if m<64*i+64 then b[m-64*i]? else L[m]? :=by
 unfold bI;simp only[Int.toNat_natCast];rw[List.getElem?_append,List.getElem?_append];simp only[List.length_append,List.length_take,hb,List.getElem?_take,List.getElem?_drop];have h1:min (64*i) L.length=64*i:=by omega
 rw[h1]
 by_cases h2:m<64*i
 .simp[h2];omega
 .by_cases h3:m<64*i+64
  .simp[h2,h3]
  .simp only[h2,h3,if_false]
   congr 1
   omega
theorem jx (L:List UInt8)(n:Nat)(hL:L.length=64*n)(i:Nat)(hi:i<n)(b:List UInt8)(hb:b.length=64)(j:Nat):jX (bI L ((i:Int),b)) j=if j=i then b else jX L j:=by
 apply List.ext_getElem?
 intro k;rw[BJ,OL L n hL i hi b hb]
 by_cases hj:j=i
 .subst hj
  simp only[if_true]
  by_cases hk:k<64
  .rw[if_pos hk,if_neg (by omega),if_pos (by omega)]
   congr 1;omega
  .rw[if_neg hk,List.getElem?_eq_none (by omega)]
 .rw[if_neg hj,BJ]
  by_cases hk:k<64
  .rw[if_pos hk,if_pos hk]
   by_cases h2:64*j+k<64*i
   .rw[if_pos h2]
   .rw[if_neg h2,if_neg (by omega)]
  .rw[if_neg hk,if_neg hk]
theorem FV (L:List UInt8)(n:Nat)(hL:L.length=64*n)(i:Nat)(hi:i<n)(b:List UInt8)(hb:b.length=64):(bI L ((i:Int),b)).length=64*n:=by
 unfold bI;simp only[Int.toNat_natCast,List.length_append,List.length_take,List.length_drop,hb];omega
theorem vU (x:DS)(h:x.waiting=[])(j:Nat):x.read j=jX x.aM j:=by
 unfold DS.read seenIn jX;rw[h];simp
theorem sF (x:DS)(h:x.waiting=[]):x.read 0=jX x.aM 0:=vU x h 0
abbrev dY:=Nat->Option dk
def CH (n:Nat):List UInt8:=lH++[UInt8.ofNat (n/256),UInt8.ofNat n]
def ej (n:Nat)(m:dY):List UInt8:=CH n++(List.range 54).map fun i=>if(m i).isSome then(1:UInt8) else 0
theorem mD (n:Nat):(CH n).length=10:=rfl
theorem iP (n:Nat)(m:dY):(ej n m).length=64:=by simp[ej,mD]
theorem oO (n:Nat)(m:dY)(k:Nat):(ej n m)[k]? =if k<10 then(CH n)[k]? else if k<64 then some (if(m (k-10)).isSome then(1:UInt8) else 0) else none:=by
 unfold ej;rw[List.getElem?_append,mD];split
 .rfl
 .rename_i h
  rw[List.getElem?_map]
  by_cases h2:k<64
  .rw[List.getElem?_range (by omega),if_pos h2];rfl
  .rw[List.getElem?_eq_none (by simp;omega),if_neg h2];rfl
theorem Hp (n k:Nat):(kU n)[k]? =if k<10 then(CH n)[k]? else if k<64 then some 0 else none:=by
 unfold kU;rw[show lH++[UInt8.ofNat (n/256),UInt8.ofNat n]=CH n from rfl,List.getElem?_append,mD];split
 .rfl
 .rw[List.getElem?_replicate]
  by_cases h2:k<64
  .rw[if_pos h2,if_pos (by omega)]
  .rw[if_neg h2,if_neg (by omega)]
theorem sN (n:Nat)(m:dY)(i:Nat)(hi:i<54):db (ej n m) i=if(m i).isSome then 1 else 0:=by
 unfold db;rw[List.getD_eq_getElem?_getD,oO,if_neg (by omega),if_pos (by omega)];simp
theorem Dy (n:Nat)(m:dY)(k:Nat)(hk:k<=54):iF (ej n m) k=(List.range k).filter fun i=>(m i).isSome:=by
 unfold iF
 apply List.filter_congr
 intro i hi;rw[List.mem_range] at hi;rw[sN n m i (by omega)];cases (m i).isSome<;>rfl
theorem yf (l:List Nat):∀(r:List UInt8) (j:Nat),(lX r l)[j]? =if(∃i∈l,10+i=j)/\j<r.length then some 1 else r[j]? :=by
 induction l with
 |nil=>intro r j;simp[lX]
 |cons a l ih=>
  intro r j;unfold lX;rw[List.foldl_cons];have:=ih (r.set (10+a) 1) j;unfold lX at this;rw[this,List.length_set,List.getElem?_set]
  by_cases h1:(∃i∈l,10+i=j)/\j<r.length
  .rw[if_pos h1,if_pos ⟨by obtain⟨⟨i,hi,e⟩,_⟩:=h1;exact⟨i,List.mem_cons_of_mem _ hi,e⟩,h1.2⟩]
  .rw[if_neg h1]
   by_cases h2:10+a=j
   .rw[if_pos h2]
    by_cases h3:j<r.length
    .rw[if_pos (by omega),if_pos ⟨⟨a,List.mem_cons_self,h2⟩,h3⟩]
    .rw[if_neg (by omega),if_neg (by omega),List.getElem?_eq_none (by omega)]
   .rw[if_neg h2,if_neg]
    rintro⟨⟨i,hi,e⟩,h3⟩;rcases List.mem_cons.1 hi with rfl|hi
    .exact h2 e
    .exact h1 ⟨⟨i,hi,e⟩,h3⟩
theorem jp (n:Nat):(kU n).length=64:=by simp[kU,lH]
theorem DZ (n:Nat)(m:dY)(k:Nat)(hm:∀i,(m i).isSome->i<k):lX (kU n) ((List.range k).filter fun i=>(m i).isSome)=ej n m:=by
 apply List.ext_getElem?
 intro j;rw[yf,oO,Hp,jp]
 by_cases h1:j<10
 .rw[if_pos h1,if_pos h1,if_neg (by rintro⟨⟨i,_,e⟩,_⟩;omega)]
 .rw[if_neg h1,if_neg h1]
  by_cases h2:j<64
  .rw[if_pos h2,if_pos h2]
   cases h3:(m (j-10)).isSome with
   |true=>
    rw[if_pos ⟨⟨j-10,by rw[List.mem_filter,List.mem_range];exact⟨hm _ h3,h3⟩,by omega⟩,h2⟩];rfl
   |false=>
    rw[if_neg]
    .rfl
    .rintro⟨⟨i,hi,e⟩,_⟩
     rw[List.mem_filter] at hi;obtain rfl:i=j-10:=by omega
     rw[h3] at hi;exact absurd hi.2 (by decide)
  .rw[if_neg h2,if_neg h2,if_neg (by omega)]
def upd (m:dY)(i:Nat)(v:Option dk):dY:=fun j=>if j=i then v else m j
theorem BI (n:Nat)(m:dY)(i:Nat)(hi:i<54)(v:Option dk):(ej n m).set (10+i) (if v.isSome then 1 else 0)=ej n (upd m i v):=by
 apply List.ext_getElem?
 intro j;rw[List.getElem?_set,iP,oO,oO]
 by_cases h1:10+i=j
 .have h3:j-10=i:=by omega
  have h4:¬(j<10):=by omega
  have h5:j<64:=by omega
  have h6:10+i<64:=by omega
  simp[upd,h3,h4,h5,h6,h1]
 .rw[if_neg h1]
  by_cases h2:j<10
  .rw[if_pos h2,if_pos h2]
  .rw[if_neg h2,if_neg h2]
   have:¬(j-10=i):=by omega
   simp[upd,this]
theorem vA (l:List UInt8)(o:Nat)(v:List UInt8)(h:o+v.length<=l.length)(k:Nat):(splice l o v)[k]? =if k<o then l[k]? else if k<o+v.length then v[k-o]? else l[k]? :=by
 unfold splice;rw[List.getElem?_append,List.getElem?_append];simp only[List.length_append,List.length_take,List.getElem?_take,List.getElem?_drop];have h1:min o l.length=o:=by omega
 rw[h1]
 by_cases h2:k<o
 .simp[h2];omega
 .by_cases h3:k<o+v.length
  .simp[h2,h3]
  .simp only[h2,h3,if_false]
   congr 1
   omega
theorem mE (l:List UInt8)(o:Nat)(v:List UInt8)(h:o+v.length<=l.length):(splice l o v).length=l.length:=by
 unfold splice;simp only[List.length_append,List.length_take,List.length_drop];omega
theorem rL (s:Nat)(p c:List UInt8)(hp:p.length<=8)(hc:c.length<=96)(k:Nat):
  (cO s p c)[k]? =if k<3 then(dO s p.length c.length)[k]? else if k<3+p.length then p[k-3]? else if k<11 then(dO s p.length c.length)[k]? else if k<11+c.length then c[k-11]? else(dO s p.length c.length)[k]? :=by
 have hh:(dO s p.length c.length).length=128:=by simp[dO]
 unfold cO;rw[List.take_of_length_le hp,List.take_of_length_le (by omega:c.length<=117)];rw[vA _ _ _ (by rw[mE _ _ _ (by omega)];omega),vA _ _ _ (by omega)]
 by_cases h1:k<3
 .rw[if_pos (by omega),if_pos h1,if_pos h1]
 .rw[if_neg h1,if_neg h1]
  by_cases h2:k<3+p.length
  .rw[if_pos (by omega),if_pos h2,if_pos h2]
  .rw[if_neg h2,if_neg h2]
theorem Pn (s:Nat)(p c:List UInt8)(hp:p.length<=8)(hc:c.length<=96):(cO s p c).length=128:=by
 have hh:(dO s p.length c.length).length=128:=by simp[dO]
 unfold cO;rw[List.take_of_length_le hp,List.take_of_length_le (by omega:c.length<=117)];rw[mE _ _ _ (by rw[mE _ _ _ (by omega)];omega),mE _ _ _ (by omega),hh]
theorem wR (s p c:Nat):(dO s p c)[0]? =some (UInt8.ofNat s)/\(dO s p c)[1]? =some (UInt8.ofNat p)/\(dO s p c)[2]? =some (UInt8.ofNat c):=by
 refine⟨?_,?_,?_⟩<;>simp[dO,List.getElem?_set]
theorem Ql (s:Nat)(p c:List UInt8)(hs:s<256)(hp:p.length<=8)(hc:c.length<=96):gj (cO s p c)=s:=by
 unfold gj eB;rw[List.getD_eq_getElem?_getD,rL s p c hp hc,if_pos (by omega),(wR _ _ _).1];simp;omega
theorem Mj (s:Nat)(p c:List UInt8)(hp:p.length<=8)(hc:c.length<=96):eB (cO s p c) 1=p.length:=by
 unfold eB;rw[List.getD_eq_getElem?_getD,rL s p c hp hc,if_pos (by omega),(wR _ _ _).2.1];simp;omega
theorem Ml (s:Nat)(p c:List UInt8)(hp:p.length<=8)(hc:c.length<=96):eB (cO s p c) 2=c.length:=by
 unfold eB;rw[List.getD_eq_getElem?_getD,rL s p c hp hc,if_pos (by omega),(wR _ _ _).2.2];simp;omega
theorem Mk (s:Nat)(p c:List UInt8)(hp:p.length<=8)(hc:c.length<=96):dV (cO s p c)=p:=by
 unfold dV;rw[Mj s p c hp hc,Nat.min_eq_left hp]
 apply List.ext_getElem?
 intro k;rw[List.getElem?_take]
 by_cases h:k<p.length
 .rw[if_pos h,List.getElem?_drop,rL s p c hp hc,if_neg (by omega),if_pos (by omega)]
  congr 1;omega
 .rw[if_neg h,List.getElem?_eq_none (by omega)]
theorem t9 (s:Nat)(p c:List UInt8)(hp:p.length<=8)(hc:c.length<=96):bW (cO s p c)=c:=by
 unfold bW;rw[Ml s p c hp hc,Nat.min_eq_left hc]
 apply List.ext_getElem?
 intro k;rw[List.getElem?_take]
 by_cases h:k<c.length
 .rw[if_pos h,List.getElem?_drop,rL s p c hp hc,if_neg (by omega),if_neg (by omega),if_neg (by omega),if_pos (by omega)]
  congr 1;omega
 .rw[if_neg h,List.getElem?_eq_none (by omega)]
theorem qz {α:Type}[BEq α][LawfulBEq α]:∀(l r:List α),l.Nodup->(∀a∈l,a∈r)->l.length<=r.length
 |[],_,_,_=>by simp
 |a::l,r,hn,hs=>by
  rw[List.nodup_cons] at hn;have ha:a∈r:=hs a List.mem_cons_self;have h:=qz l (r.erase a) hn.2 fun b hb=>by
   have hne:b≠a:=fun e=>hn.1 (e▸hb)
   exact(List.mem_erase_of_ne hne).2 (hs b (List.mem_cons_of_mem _ hb))
  rw[List.length_erase_of_mem ha] at h;have:=List.length_pos_of_mem ha;rw[List.length_cons];omega
structure nj (L:List UInt8)(n:Nat)(m:dY):Prop where
 len:L.length=64*n
 lo:16<=n
 root:jX L 0=ej n m
 recs:∀i f,m i=some f->jX L (1+2*i)++jX L (2+2*i)=cO f.set f.path f.content
 lt:∀i f,m i=some f->i<aN n
 good:∀i f,m i=some f->iS f.set f.path=true/\f.content.length<=96
 inj:∀i j f g,m i=some f->m j=some g->nameOf f=nameOf g->i=j
theorem oT (n:Nat):aN n<=54:=Nat.min_le_right _ _
theorem If (n i:Nat)(h:i<aN n):2+2*i<n:=by
 unfold aN at h;omega
theorem wn {s:Nat}{p:List UInt8}(h:iS s p=true):p.length<=8/\s<=3:=by
 unfold iS at h;split at h
 .unfold cE at h
  simp only[Bool.and_eq_true,decide_eq_true_eq] at h;omega
 .split at h
  .have:p=[]:=by simpa using h
   subst this;simp;omega
  .cases h
def kF (n:Nat)(m:dY):List dk:=(List.range (aN n)).filterMap m
section
variable {L:List UInt8}{n:Nat}{m:dY}{x:DS}
theorem yZ (h:nj x.aM n m)(hw:x.waiting=[]):taken x n=(List.range (aN n)).filter fun i=>(m i).isSome:=by
 unfold taken;rw[sF x hw,h.root,Dy n m _ (oT n)]
theorem FK (h:nj x.aM n m)(hw:x.waiting=[]){i:Nat}{f:dk}(hf:m i=some f):cJ x i=cO f.set f.path f.content:=by
 unfold cJ DS.sec;rw[vU x hw,vU x hw,h.recs i f hf]
theorem BR (h:nj x.aM n m)(hw:x.waiting=[]){i:Nat}{f:dk}(hf:m i=some f):fileAt x i=f:=by
 have hg:=h.good i f hf;have hl:=wn hg.1;unfold fileAt;rw[FK h hw hf,Ql _ _ _ (by omega) hl.1 hg.2,Mk _ _ _ hl.1 hg.2,t9 _ _ _ hl.1 hg.2]
theorem m7 (g:Nat->dk):∀(l:List Nat),(∀i∈l,∀f,m i=some f->g i=f)->(l.filter fun i=>(m i).isSome).map g=l.filterMap m
 |[],_=>rfl
 |a::l,h=>by
  have ih:=m7 g l fun i hi=>h i (List.mem_cons_of_mem _ hi)
  cases hm:m a with
  |none=>rw[List.filter_cons_of_neg (by simp[hm]),List.filterMap_cons_none hm,ih]
  |some f=>rw[List.filter_cons_of_pos (by simp[hm]),List.map_cons,List.filterMap_cons_some hm,ih,h a List.mem_cons_self f hm]
theorem sC (h:nj x.aM n m)(hw:x.waiting=[]):bh x n=kF n m:=by
 unfold bh kF;rw[yZ h hw];exact m7 _ _ fun i _ f hf=>BR h hw hf
theorem y4 (h:nj x.aM n m)(hw:x.waiting=[]){i:Nat}{f:dk}(hf:m i=some f)(s:Int)(p:ByteArray):named x s p i=((f.set:Int)==s&&aF f.path==p):=by
 have:=BR h hw hf;unfold fileAt at this;unfold named;rw[<-this]
theorem Fs (s:Int)(p:ByteArray)(i:Nat):∀(l:List Nat),i∈l->(∀j∈l,named x s p j=decide (j=i))->cG x s p l=i
 |[],h,_=>by simp at h
 |a::l,h,hn=>by
  unfold cG;rw[hn a List.mem_cons_self]
  by_cases ha:a=i
  .simp[ha]
  .rw[decide_eq_false ha]
   rcases List.mem_cons.1 h with e|h'
   .exact absurd e.symm ha
   .simpa using Fs s p i l h' fun j hj=>hn j (List.mem_cons_of_mem _ hj)
theorem Bs (s:Int)(p:ByteArray):∀(l:List Nat),(∀j∈l,named x s p j=false)->cG x s p l=-1
 |[],_=>rfl
 |a::l,hn=>by
  unfold cG;rw[hn a List.mem_cons_self];simpa using Bs s p l fun j hj=>hn j (List.mem_cons_of_mem _ hj)
theorem Aa (h:nj x.aM n m)(hw:x.waiting=[]){i:Nat}:i∈taken x n↔∃f,m i=some f:=by
 rw[yZ h hw,List.mem_filter,List.mem_range,Option.isSome_iff_exists];exact⟨fun h=>h.2,fun⟨f,hf⟩=>⟨h.lt i f hf,f,hf⟩⟩
theorem BQ (h:nj x.aM n m)(hw:x.waiting=[]){i:Nat}{f:dk}(hf:m i=some f):cG x f.set (aF f.path) (taken x n)=i:=by
 refine Fs _ _ i _ ((Aa h hw).2 ⟨f,hf⟩) fun j hj=>?_
 obtain⟨g,hg⟩:=(Aa h hw).1 hj;rw[y4 h hw hg]
 by_cases hji:j=i
 .subst hji
  rw[hf] at hg;obtain rfl:=Option.some.inj hg;rw[xy];simp
 .rw[decide_eq_false hji,Bool.and_eq_false_iff]
  by_cases h1:g.set=f.set
  .right
   rw[xy,beq_eq_false_iff_ne];intro e;exact hji (h.inj j i g f hg hf (by unfold nameOf;rw[h1,e]))
  .left
   rw[beq_eq_false_iff_ne];omega
theorem p7 (h:nj x.aM n m)(hw:x.waiting=[])(s:Nat)(p:List UInt8)(hn:∀i f,m i=some f->nameOf f≠(s,p)):cG x s (aF p) (taken x n)=-1:=by
 refine Bs _ _ _ fun j hj=>?_
 obtain⟨g,hg⟩:=(Aa h hw).1 hj;rw[y4 h hw hg,Bool.and_eq_false_iff]
 by_cases h1:g.set=s
 .right
  rw[xy,beq_eq_false_iff_ne];intro e;exact hn j g hg (by unfold nameOf;rw[h1,e])
 .left
  rw[beq_eq_false_iff_ne];omega
theorem OC (h:nj x.aM n m)(hw:x.waiting=[]){i:Nat}{f:dk}(hf:m i=some f):x.content n f.set (aF f.path)=some f.content:=by
 have hg:=h.good i f hf;have hl:=wn hg.1;unfold DS.content;rw[BQ h hw hf];show some (bW (cJ x i))=_;rw[FK h hw hf,t9 _ _ _ hl.1 hg.2]
theorem vP (h:nj x.aM n m)(hw:x.waiting=[])(s:Nat)(p:List UInt8)(hn:∀i f,m i=some f->nameOf f≠(s,p)):x.content n s (aF p)=none:=by
 unfold DS.content;rw[p7 h hw s p hn];rfl
def holds (m:dY)(s:Nat)(p:List UInt8)(r:Option (List UInt8)):Prop:=
 match r with
 |some c=>∃i,m i=some ⟨s,p,c⟩
 |none=>∀i f,m i=some f->nameOf f≠(s,p)
theorem BS (h:nj x.aM n m)(hw:x.waiting=[]){s:Nat}{p:List UInt8}{r:Option (List UInt8)}(hr:holds m s p r):x.content n s (aF p)=r:=by
 cases r with
 |none=>exact vP h hw s p hr
 |some c=>
  obtain⟨i,hi⟩:=hr;exact OC h hw hi
theorem nj.mem (h:nj L n m){f:dk}:f∈kF n m↔∃i,m i=some f:=by
 unfold kF;rw[List.mem_filterMap];exact⟨fun⟨i,_,hf⟩=>⟨i,hf⟩,fun⟨i,hf⟩=>⟨i,List.mem_range.2 (h.lt i f hf),hf⟩⟩
theorem nj.nodup (h:nj L n m):((kF n m).map nameOf).Nodup:=by
 unfold kF List.Nodup;rw[List.pairwise_map,List.pairwise_filterMap];refine List.Pairwise.imp ?_ List.pairwise_lt_range;intro i j hij f hf g hg e;have:=h.inj i j f g hf hg e;omega
end
theorem tZ (root:List UInt8)(M:Nat):∀(f k:Nat),dR root M f k=-1->∀i,k<=i->i<M->i<k+f->db root i≠0
 |0,k,_,i,h1,_,h3=>by omega
 |f+1,k,h,i,h1,h2,h3=>by
  unfold dR at h;rw[if_pos (by omega)] at h;split at h
  .omega
  .rename_i hk
   by_cases e:i=k
   .subst e
    intro h0;exact hk (by simp[h0])
   .exact tZ root M f (k+1) h i (by omega) h2 (by omega)
theorem rF (root:List UInt8)(M:Nat):∀(f k:Nat),dR root M f k≠-1->∃i:Nat,i<M/\dR root M f k=i/\db root i=0
 |0,k,h=>absurd rfl h
 |f+1,k,h=>by
  unfold dR at h⊢
  by_cases h1:k<M
  .rw[if_pos h1] at h⊢
   by_cases h2:(db root k==0)=true
   .rw[if_pos h2]
    exact⟨k,h1,rfl,by simpa using h2⟩
   .rw[if_neg h2] at h⊢
    exact rF root M f (k+1) h
  .rw[if_neg h1] at h
   exact absurd rfl h
theorem Ko {n:Nat}{m:dY}{x:DS}(h:nj x.aM n m)(hw:x.waiting=[])(hroom:∃i,i<aN n/\m i=none):∃i:Nat,i<aN n/\dQ x n=i/\m i=none:=by
 have hle:=oT n;unfold dQ;rw[sF x hw,h.root];have hne:dR (ej n m) (aN n) (aN n) 0≠-1:=by
  intro e;obtain⟨i,hi,hm⟩:=hroom;have:=tZ _ _ _ _ e i (by omega) hi (by omega);rw[sN n m i (by omega),hm] at this;exact this rfl
 obtain⟨i,hi,e,hm⟩:=rF _ _ _ _ hne;refine⟨i,hi,e,?_⟩;rw[sN n m i (by omega)] at hm;cases hq:m i with
 |none=>rfl
 |some f=>rw[hq] at hm;simp at hm
end
section
open Go.RowKit Go.Lib Go.Sort
def mW (k:Nat):List UInt8:=(gO k).data.toList
def P7:List (List UInt8):=(List.range 7).map mW
theorem Ei {p:List UInt8}:p∈P7↔∃k,k<7/\p=mW k:=by
 unfold P7;rw[List.mem_map];exact⟨fun⟨k,hk,e⟩=>⟨k,List.mem_range.1 hk,e.symm⟩,fun⟨k,hk,e⟩=>⟨k,List.mem_range.2 hk,e.symm⟩⟩
theorem mP (k:Nat):aF (mW k)=gO k:=rfl
theorem yU {ps:List (List UInt8)}:(ps.mergeSort fun x y=>decide (x<=y)).Pairwise fun x y=>x<=y:=by
 have h:=List.pairwise_mergeSort (le:=fun x y:List UInt8=>decide (x<=y)) (fun a b c h1 h2=>by simp only[decide_eq_true_eq] at*;exact List.le_trans h1 h2)
  (fun a b=>by simp only[Bool.or_eq_true,decide_eq_true_eq];exact List.le_total a b) ps
 exact h.imp fun h=>by simpa using h
theorem C6 {qs:List (List UInt8)}{a:List UInt8}(h:a∈compact qs):a∈qs:=by
 unfold compact compactUpTo at h;obtain⟨i,hi,e⟩:=List.mem_map.1 h;have hi':=List.mem_range.1 (List.mem_filter.1 hi).1;rw[getElem!_pos qs.toArray i (by simpa using hi')] at e;rw[<-e];simp
theorem yx {qs:List (List UInt8)}(hs:qs.Pairwise fun x y=>x<=y):(compact qs).Nodup:=by
 unfold compact compactUpTo List.Nodup;rw[List.pairwise_map];refine(List.pairwise_lt_range.filter _).imp_of_mem ?_;intro i j hi hj hij e;have hi':=List.mem_range.1 (List.mem_filter.1 hi).1;have hj':=List.mem_range.1 (List.mem_filter.1 hj).1;have hk:=(List.mem_filter.1 hj).2;unfold keeps at hk;rw[decide_eq_true_eq] at hk;rcases hk with hk|hk
 .omega
 rw[getElem!_pos qs.toArray i (by simpa using hi'),getElem!_pos qs.toArray j (by simpa using hj')] at e;rw[getElem!_pos qs.toArray (j-1) (by simp;omega),getElem!_pos qs.toArray j (by simpa using hj')] at hk;simp only[List.getElem_toArray] at e hk;rw[List.pairwise_iff_getElem] at hs;have h1:qs[i]<=qs[j-1]:=by
  by_cases hc:i=j-1
  .subst hc;exact List.le_refl _
  .exact hs i (j-1) hi' (by omega) (by omega)
 have h2:qs[j-1]<=qs[j]:=hs (j-1) j (by omega) hj' (by omega);exact hk (List.le_antisymm (e▸h1) h2)
theorem IU (fs:List dk)(h:∀f∈fs,f.set≠3->f.path∈P7):oy fs<=7:=by
 unfold oy;refine Nat.le_trans (qz _ P7 (yx yU) fun a ha=>?_) (Nat.le_of_eq (by rfl));have h1:=C6 ha;rw[List.mem_mergeSort] at h1;unfold ec at h1;obtain⟨f,hf,e⟩:=List.mem_map.1 h1;rw[List.mem_filter] at hf;rw[<-e];exact h f hf.1 (by simpa using hf.2)
def Seven (m:dY):Prop:=∀i f,m i=some f->f.set<=2/\f.path∈P7
section
variable {L:List UInt8}{n:Nat}{m:dY}{x:DS}
theorem Seven.files (h7:Seven m)(h:nj L n m):∀f∈kF n m,f.set<=2/\f.path∈P7:=fun f hf=>by
 obtain⟨i,hi⟩:=h.mem.1 hf;exact h7 i f hi
theorem nU (h:nj x.aM n m)(hw:x.waiting=[])(h7:Seven m):x.pending n=false:=by
 have:=vP h hw 3 [] fun i f hf e=>by
  have:=h7 i f hf;unfold nameOf at e;simp only[Prod.mk.injEq] at e;omega
 unfold DS.pending;rw[show(⟨#[]⟩:ByteArray)=aF [] from rfl];rw[show((3:Int))=((3:Nat):Int) from rfl,this];rfl
end
structure eF (S:List Nat)(w w':World):Prop where
 os:w'.os=w.os
 size:w.heap.size<=w'.heap.size
 block:∀k,k<w.heap.size->k∉S->w'.heap[k]? =w.heap[k]?
theorem aR.blk {S:List Nat}{w w':World}(h:aR S w w'):eF S w w':=⟨h.os,h.size,h.block⟩
theorem eF.refl (S:List Nat)(w:World):eF S w w:=⟨rfl,Nat.le_refl _,fun _ _ _=>rfl⟩
theorem eF.tape {S:List Nat}{w w':World}(h:eF S w w')(t:Go.Proofs.YtchcmhodnkgojaaGreat.dU)(d:Nat):eF S w (ay w' t d):=⟨h.os,h.size,h.block⟩
theorem eF.trans {S T:List Nat}{w w' w'':World}(h:eF S w w')(h':eF T w' w'')(hs:∀i∈T,i∈S\/w.heap.size<=i:=by simp):eF S w w'':=
 ⟨h'.os.trans h.os,Nat.le_trans h.size h'.size,fun k hk hS=>(h'.block k (Nat.lt_of_lt_of_le hk h.size) fun x=>(hs k x).elim hS fun q=>by omega).trans (h.block k hk hS)⟩
theorem eF.mono {S T:List Nat}{w w':World}(h:eF S w w')(hs:∀i∈S,i∈T\/w.heap.size<=i:=by simp):eF T w w':=⟨h.os,h.size,fun k hk hT=>h.block k hk fun x=>(hs k x).elim hT fun q=>by omega⟩
namespace aI
namespace Sq
theorem ta {E:aj.Env}{f:FuncId}{k:List Item}{R:Act->World->Prop}{a:Act}{wL:World}(a':Act)(e:a=a')(h:aj.CI E f k R a' wL):aj.CI E f k R a wL:=e▸h
def GB (f:ByteArray->Option Value)(wL:World)(v:Value)(w':World):Prop:=∃ps:List (List UInt8),ps.Pairwise (·<=·)/\ps.Nodup/\(∀l,l∈ps↔f (aF l)≠none)/\eF [] wL w'/\
 ((v= .slice none 0 0/\ps=[])\/∃g cap,v= .slice (some ⟨g,0,none⟩) ps.length cap/\wL.heap.size<=g/\g<w'.heap.size/\Holds encStr w' g 0 ps.toArray)
theorem I0 {E:aj.Env}{wL:World}{bx:Nat}{f:ByteArray->Option Value}{es:Array MapEntry}(h:aj.CC E 134 #[mm bx] (Jg f wL) wL)(hes:∀ks:List ByteArray,ks.Nodup->(∀s,s∈ks↔f s≠none)->ks.length<1000000):
  aj.CC E 89 #[mm bx] (GB f wL) wL:=by
 refine aj.l9 Tryz.func89 rfl ?_;refine aj.eI (aj.dW (eU _ rfl (.inl rfl) rfl (aj.cF ?_)));refine aj.eI (aj.dW (eU _ rfl (.inr rfl) rfl ?_));refine kH (f2:=134) #[.tmp 4] #[mm bx] (R2:=Jg f wL) rfl rfl (by kernel_rfl) (fun b w=>by kernel_rfl) (by kernel_rfl) h fun v w1 hR hsz=>?_
 refine eU _ rfl (.inl rfl) rfl (aj.cF ?_);refine ta {tmps:=#[mm bx,undef,.slice none 0 0,v,mm bx,v,undef,undef,undef],defers:=[]} (by kernel_rfl) ?_;obtain⟨ks,hn,hmem,hv⟩:=hR;have hlen:=hes ks hn hmem;rcases hv with⟨rfl,rfl,t,d,rfl⟩|⟨cap,rfl,hle,t,d,rfl⟩
 .refine aj.eZ none ⟨_,Tryz.func89⟩ (by kernel_rfl) (by simp) (fun w=>eF [] wL w) (fun w t d h=>h.tape t d) ((eF.refl _ _).tape t d) fun w hI hs=>?_
  go_wp2_with fail;refine(Tryz.slices_Sort_string_none none 0 w).mono ?_;rintro e w6 ⟨rfl,rfl⟩;go_wp2_with fail;exact⟨w6.tape,w6.drawn,.slice none 0 0,by kernel_rfl,[],.nil,.nil,fun l=>by rw[<-hmem];simp,hI,.inl ⟨rfl,rfl⟩⟩
 .obtain⟨qs,hqs⟩:∃qs:List (List UInt8),qs=ks.map fun k=>k.data.toList:=⟨_,rfl⟩
  have hql:qs.length=ks.length:=by rw[hqs];simp
  have hqv:ks.map Value.string=qs.map encStr:=by
   rw[hqs,List.map_map];refine List.map_congr_left fun k _=>?_
   simp[encStr]
  have hqm:∀l,l∈qs↔f (aF l)≠none:=fun l=>by
   rw[hqs,List.mem_map,<-hmem];constructor
   .rintro⟨k,hk,rfl⟩
    simpa [aF] using hk
   .intro hl
    exact⟨aF l,hl,by simp[aF]⟩
  have hqn:qs.Nodup:=by
   rw[hqs];refine List.Pairwise.map _ (fun a b hab he=>hab ?_) hn;have:a.data=b.data:=Array.ext' he;cases a;cases b;simp_all
  have hlt:qs.length<4611686018427387904:=by omega
  rw[<-hql,hqv];clear hqv hql hlen hqs hmem hn;refine aj.eZ none ⟨_,Tryz.func89⟩ (by kernel_rfl) (by simp) (fun w=>eF [] wL w/\wL.heap.size<w.heap.size/\Holds encStr w wL.heap.size 0 qs.toArray) (fun w t d h=>⟨h.1.tape t d,h.2.1,h.2.2⟩) ⟨?_,?_,?_⟩ fun w hI hs=>?_
  .exact⟨rfl,by simp[ay],fun k hk _=>by show(wL.heap.push _)[k]? =_;rw[Array.getElem?_push_lt hk];exact(Array.getElem?_eq_getElem hk).symm⟩
  .show wL.heap.size<(wL.heap.push _).size
   simp
  .intro j hj
   have hj':j<qs.length:=by simpa using hj
   have hrow:(ay {wL with heap:=wL.heap.push (.cells (qs.map encStr++List.replicate (cap-qs.length) (Value.string ⟨#[]⟩)).toArray aI.jE (0,0))} t d).heap[wL.heap.size]? =some (.cells (qs.map encStr++List.replicate (cap-qs.length) (Value.string ⟨#[]⟩)).toArray aI.jE (0,0)):=by
    show(wL.heap.push _)[wL.heap.size]? =_;simp
   refine⟨?_,Lib.frozen_of_heap hrow _⟩;rw[Lib.cell_of_heap hrow,Nat.zero_add];rw[List.getElem?_toArray,List.getElem?_append_left (by simpa using hj'),getElem!_pos qs.toArray j hj];simp[hj']
  obtain⟨hB,hg,hH⟩:=hI;generalize hgg:wL.heap.size=g at*;go_wp2_with fail;refine(Tryz.slices_Sort_string g 0 cap qs w hH hg hlt).mono ?_;rintro e w6 ⟨rfl,m,os,Wa⟩;have hsl:(qs.mergeSort fun x y=>decide (x<=y)).length=qs.length:=List.length_mergeSort _;have hH6:Holds encStr w6 g 0 (qs.mergeSort fun x y=>decide (x<=y)).toArray:=by
   rw[Wa];exact holds_grow _ _ _ _ _ _ (by rw[size_putRow];exact hg) (holds_putRow _ _ _ _ _ _ (holds_ahead _ _ _ _ _ _ hH) (by simp))
  have f6:aR [g] w w6:=by
   rw[Wa];exact(((sS w m).mono (T:=[g]) (by simp)).trans (qg encStr _ g 0 _) (fun i hi=> .inl hi)).trans (CN _ _)
  have B6:eF [] wL w6:=hB.trans f6.blk (by simp[hgg]);have hg6:g<w6.heap.size:=Nat.lt_of_lt_of_le hg f6.size;have hp:(qs.mergeSort fun x y=>decide (x<=y)).Pairwise (·<=·):=yU;have hn6:(qs.mergeSort fun x y=>decide (x<=y)).Nodup:=(List.mergeSort_perm _ _).nodup_iff.2 hqn;have hm6:∀l,l∈(qs.mergeSort fun x y=>decide (x<=y))↔f (aF l)≠none:=fun l=>by rw[List.mem_mergeSort];exact hqm l
  clear Wa f6 hH hB hs;generalize (qs.mergeSort fun x y=>decide (x<=y))=rs at*;go_wp2_with fail;exact⟨w6.tape,w6.drawn,.slice (some ⟨g,0,none⟩) qs.length cap,by kernel_rfl,rs,hp,hn6,hm6,B6,.inr ⟨g,cap,by rw[hsl],by rw[hgg];exact Nat.le_refl _,hg6,hH6⟩⟩
end Sq
end aI
end
section
open Go.RowKit Go.Lib
def kd (a b:Option (Bool×ByteArray)):Option Nat:=match a,b with
 |none,_=>some 1
 |some _,none=>some 0
 |some x,some y=>if x=y then some 0 else none
section
variable {P:Program}{ops:Array Oper}{Q:Exit->Act->World->Prop}{a:Act}{w:World}{rest:List Oper}{o:Oper}
theorem Fo (hw:Region.wanted o (yielded ops a.tmps)=true)(v:Value)(w1:World)(hr:(execOp a.eval o).run P w= .ok (.value v) w1)(h:wpList P ops Q rest (a.put o.dst v) w1):wpList P ops Q (o::rest) a w:=by
 unfold wpList;rw[if_pos hw];refine .inl ?_;unfold Oper.wp;rw[hr];exact h
end
theorem G2 (xb yb:Bool)(xs ys:ByteArray):kd (some (xb,xs)) (some (yb,ys))=if(xb==yb&&xs==ys)=true then some 0 else none:=by
 have e:((xb==yb&&xs==ys)=true)↔(xb,xs)=(yb,ys):=by rw[Bool.and_eq_true,beq_iff_eq,Go.MapKept.bytes_beq,Prod.mk.injEq]
 show(if(xb,xs)=(yb,ys) then some 0 else none)=_
 by_cases h:(xb,xs)=(yb,ys)
 .rw[if_pos h,if_pos (e.2 h)]
 .rw[if_neg h,if_neg fun q=>h (e.1 q)]
theorem Oz {w:World}(b1 b2:Bool)(s1 s2:ByteArray):aI.RT (kJ.bin .eql aI.TH (aI.hv b1 s1) (aI.hv b2 s2)).sem w (.value (.bool (b1==b2&&s1==s2))) w #[]:=by
 have hg:Tryz.prog.eqGuardType Tryz.prog.depth aI.TH=false:=by kernel_rfl
 refine aI.RT.aP (x:= .bool (b1==b2&&s1==s2)) (aI.RT.aP (x:=()) (w1:=w) ?_ ?_) (.pure _)
 .unfold eqGuard
  simp only[aI.hv];refine aI.fD.aP (aI.fD.aP ?_);rw[hg];exact .pure _
 .exact aI.RT.aP (aI.yY 9998 b1 b2 s1 s2) (.pure _)
section
variable {ops:Array Oper}{Q:Exit->Act->World->Prop}{a:Act}{w:World}{rest:List Oper}{o:Oper}
theorem NH (hw:Region.wanted o (yielded ops a.tmps)=true)(x y:Nat)(u:TypeId)(ho:o.op= .binOp .eql aI.TH (.tmp x) (.tmp y) u){b1 b2:Bool}{s1 s2:ByteArray}(hx:a.eval (.tmp x)=aI.hv b1 s1)(hy:a.eval (.tmp y)=aI.hv b2 s2)
  (h:wpList Tryz.prog ops Q rest (a.put o.dst (.bool (b1==b2&&s1==s2))) w):wpList Tryz.prog ops Q (o::rest) a w:=by
 refine Fo hw _ w ?_ h;have:=(Oz (w:=w) b1 b2 s1 s2).run;unfold execOp;rw[ho];show(do pure (.value (<-(do eqGuard .eql aI.TH (.tmp x) (.tmp y) (a.eval (.tmp x)) (a.eval (.tmp y));binOp .eql aI.TH (a.eval (.tmp x)) (a.eval (.tmp y))))):Sem Next).run _ _=_;rw[hx,hy,ot _ _ _ _ rfl rfl];exact this
theorem A6 (hw:Region.wanted o (yielded ops a.tmps)=true)(t:TypeId)(x:Operand)(ho:o.op= .load t x)(b off:Nat)(hx:a.eval x= .pointer (some ⟨b,off,none⟩)){cs:Array Value}{u:TypeId}{f:Nat×Nat}{n:Nat}(hr:w.heap[b]? =some (.cells cs u f))
  (ha:(Tryz.prog.underlying t).map (fun d=>match d with|.struct _|.array _ _=>true|_=>false)=some true) (hn:(Tryz.prog.info? t).map (·.size)=some n) (hle:off+n<=cs.size) (v:Value) (hv:Value.agg (cs.extract off (off+n))=v)
  (h:wpList Tryz.prog ops Q rest (a.put o.dst v) w):wpList Tryz.prog ops Q (o::rest) a w:=by
 obtain⟨ev,h1,_⟩:=aI.jy hr ha hn hle;rw[hv] at h1;refine Fo hw _ w ?_ h;have:=h1.run;unfold execOp;rw[ho];show(do pure (.value (<-Instr.loadAt t (a.eval x))):Sem Next).run _ _=_;rw[hx];exact this
end
theorem DH (a b:Option (Bool×ByteArray))(w:World):
  Calls Tryz.prog 91 #[.agg (aI.cj a b)] w fun e w'=>e= .returned (.tuple #[.int .i64 ((kd a b).getD 0),.bool (kd a b).isSome])/\aR [] w w':=by
 go_enter Tryz.func91,Tryz.ntmps91;go_wp2_with (with_reducible first|refine bL rfl ?_);refine ax.go (ii rfl 164 _ rfl (.agg (aI.cj a b)) rfl ?_);intro w1 b1 l1 f1 r1;have c0:w1.cell? ⟨b1,0,none⟩=some (.bool a.isSome):=by rw[r1.cell];rfl
 have c1:w1.cell? ⟨b1,1,none⟩=some (.bool b.isSome):=by rw[r1.cell];rfl
 cases a with
 |none=>
  simp only[Option.isSome_none] at c0;go_wp2_with (with_reducible first|refine az 161 rfl ?_|refine ep 161 rfl ?_)
  go_ret2
  exact⟨rfl,f1⟩
 |some x=>
  simp only[Option.isSome_some] at c0;cases b with
  |none=>
   simp only[Option.isSome_none] at c1;go_wp2_with (with_reducible first|refine az 161 rfl ?_|refine ep 161 rfl ?_)
   go_ret2
   exact⟨rfl,f1⟩
  |some y=>
   simp only[Option.isSome_some] at c1;go_wp2_with (with_reducible first|refine az 161 rfl ?_|refine ep 161 rfl ?_);obtain⟨xb,xs⟩:=x;obtain⟨yb,ys⟩:=y;refine ax.go (A6 rfl 161 _ rfl b1 2 rfl r1 (by kernel_rfl) (n:=2) (by kernel_rfl) (by simp[aI.cj,Value.cells]) (aI.hv xb xs) (by simp[aI.cj,Value.cells,aI.hv]) ?_)
   go_wp2_with (with_reducible first|refine az 161 rfl ?_|refine ep 161 rfl ?_);refine ax.go (A6 rfl 161 _ rfl b1 4 rfl r1 (by kernel_rfl) (n:=2) (by kernel_rfl) (by simp[aI.cj,Value.cells]) (aI.hv yb ys) (by simp[aI.cj,Value.cells,aI.hv]) ?_);go_wp2_with (with_reducible first|refine az 161 rfl ?_|refine ep 161 rfl ?_)
   refine ax.go (NH rfl 15 18 _ rfl (b1:=xb) (b2:=yb) (s1:=xs) (s2:=ys) rfl rfl ?_);have hsrc:=G2 xb yb xs ys;cases heq:(xb==yb&&xs==ys) with
   |true=>
    have hs:Hid (kd (some (xb,xs)) (some (yb,ys))=some 0):=by show _=_;rw[hsrc,heq];rfl
    clear hsrc;go_wp2_with (with_reducible first|refine az 161 rfl ?_|refine ep 161 rfl ?_)
    go_ret2
    exact⟨by rw[hs.out];rfl,f1⟩
   |false=>
    have hs:Hid (kd (some (xb,xs)) (some (yb,ys))=none):=by show _=_;rw[hsrc,heq];rfl
    clear hsrc;go_wp2_with (with_reducible first|refine az 161 rfl ?_|refine ep 161 rfl ?_)
    go_ret2
    exact⟨by rw[hs.out];rfl,f1⟩
end
end
end Go.Proofs.YtchcmhodnkgojaaGreat
