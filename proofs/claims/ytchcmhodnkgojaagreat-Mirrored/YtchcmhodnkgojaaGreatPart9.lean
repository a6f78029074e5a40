/- On the way to the last text; put together and shortened by program. -/
import Derived.Test.YtchcmhodnkgojaaGreatPart8
set_option linter.all false
set_option maxRecDepth 100000
set_option maxHeartbeats 8000000
namespace Go.Proofs.YtchcmhodnkgojaaGreat
noncomputable section
section
open Go.Conc
open Go.ConcM (OsLater)
namespace aF
section
variable {Δ:Type}{X:Cx Δ}{Post:Gh Δ->Goroutine->World->Prop}{γ:Gh Δ}{w:World}{fr:Frame}{cs:List Frame}{k:Nat}
theorem Ol {T T':Lo}{g adj:Goroutine}(R:Room X γ)(hT:(T=at_ .e1 0/\T'=at_ .g1 0)\/(T=at_ .e2 0/\T'=at_ .g2 0))(hen:ie g=some (170,#[]))(hg:av PP true (cY g) adj)
  (go:∀k' w',RR X γ w w'->LS X Post γ k' T' adj w'):LS X Post γ k T g w:=by
 rcases hT with⟨rfl,rfl⟩|⟨rfl,rfl⟩
 .exact ku R (T':=at_ .g1 0) (g':=cY g) (by simp) (by simp) (oV hen) (λw=>jm Zj .enable (by simp) ZM hen) (by simp[mv]) (by simp[EvStop,jf,qg]) (by simp) (by simp) (by simp) (by simp) (by simp) (by simp) λk' w' _ hr=>aC hg (go k' w' hr)
 .exact ku R (T':=at_ .g2 0) (g':=cY g) (by simp) (by simp) (oV hen) (λw=>jm Zj .enable (by simp) ZM hen) (by simp[mv]) (by simp[EvStop,jf,qg]) (by simp) (by simp) (by simp) (by simp) (by simp) (by simp) λk' w' _ hr=>aC hg (go k' w' hr)
theorem add1 (R:Room X γ)(live:∃s,ShAt X w s)(go:∀k' w',RR X γ w w'->LS X Post γ k' (at_ .g1 0) (cA fr cs U) w'):LS X Post γ k (at_ .k1 0) (VN X.Wg fr cs) w:=by
 refine aC (Ly _ _ _) (ku R (T':=at_ .x1 0) (g':=resume (Zq X.Wg fr cs) U) (by simp) (by simp) (aV (vE _ _ _)) (λw=>jl HV .disable JM (vE _ _ _)) (by simp[mv]) (by simp[EvStop,jf,qg]) (by simp) (by simp) (by simp) (by simp) (by simp) (by simp) λk1 w1 hk1 hr1=>?_)
 refine aC (Lx _ _ _) (uB TX YH (Gx _ _ _) (aC (Lw _ _ _) ?_));refine lO (T:=at_ .x1 0) λk2 w2 hk2 hr2=>da (aV (vD _ _ _)) (by simp) (by simp) (by simp) (by simp) (λs _ hf hn=>?_) (λs hsh hf _=>?_)
 .exfalso
  by_cases h:s.wg=0<;>simp[mv,h] at hn
 by_cases h:¬s.wg=0
 .exact⟨(at_ .bad 0,s),by simp[mv,h],λq=>absurd rfl q⟩
 have h:s.wg=0:=Decidable.not_not.1 h;have st:=rl (P:=PP) (main:=true) (w:=w2) (ad:=wA X) KH .u64 ND (vD X.Wg fr cs) hsh.Ke (hsh.OL 0);have hsh':=hsh.setWg R.ne 4294967296;have ef:=ConcM.Eff.set (w:=w2) (Mu:=X.Fd) (Wg:=X.Wg) (wA X) (.int .u64 4294967296) (.inr rfl);have e:IntKind.u64.wrap (s.wg+4294967296)=4294967296:=by rw[h];decide
 rw[e] at st;refine⟨(at_ .p1 0,{s with wg:=KKi}),by simp[mv,h],λ_=>⟨_,_,_,st,hsh',ef,oT (okW R.ne) rfl,?_⟩⟩;rw[if_neg (by simp)];have H2:=(hr1.trans X hr2).trans X (R.rx ef hsh');refine aC (Lv _ _ _) (lD (Lu _ _ _) SR SS SQ (λw3 h3=>?_) (aC (Ls _ _ _) ?_))
 .obtain⟨s,hs⟩:=(H2.trans X h3).live live
  exact⟨_,hs.ZQ⟩
 refine ku R (T':=at_ .e1 0) (g':=resume (Zo X.Wg fr cs) U) (by simp) (by simp) (aV (AE _ _ _)) (λw=>fE xRd .read fRd (AE _ _ _)) (by simp[mv]) (by simp[EvStop,jf];rfl) (by simp) (by simp) (by simp) (by simp) (by simp) (by simp) λk4 w4 hk4 hr4=>?_
 exact aC (Lr _ _ _) (Ol R (.inl ⟨rfl,rfl⟩) (Lq _ _ _) (Gw _ _ _) λk5 w5 hr5=>go k5 w5 ((H2.trans X hr4).trans X hr5))
theorem aik (R:Room X γ)(live:∃s,ShAt X w s)(go:∀k' w',RR X γ w w'->LS X Post γ k' (at_ .g2 0) (cA fr cs U) w'):LS X Post γ k (at_ .k2 0) (VN X.Wg fr cs) w:=by
 refine aC (Ly _ _ _) (ku R (T':=at_ .x2 0) (g':=resume (Zq X.Wg fr cs) U) (by simp) (by simp) (aV (vE _ _ _)) (λw=>jl HV .disable JM (vE _ _ _)) (by simp[mv]) (by simp[EvStop,jf,qg]) (by simp) (by simp) (by simp) (by simp) (by simp) (by simp) λk1 w1 hk1 hr1=>?_)
 refine aC (Lx _ _ _) (uB TX YH (Gx _ _ _) (aC (Lw _ _ _) ?_));refine lO (T:=at_ .x2 0) λk2 w2 hk2 hr2=>da (aV (vD _ _ _)) (by simp) (by simp) (by simp) (by simp) (λs _ hf hn=>?_) (λs hsh hf _=>?_)
 .exfalso
  rcases hf.2.2.1 with h|h|h|h|h|h<;>simp[mv,h,KKi] at hn
 have st:=rl (P:=PP) (main:=true) (w:=w2) (ad:=wA X) KH .u64 ND (vD X.Wg fr cs) hsh.Ke (hsh.OL 0)
 by_cases h:s.wg=0
 .have hsh':=hsh.setWg R.ne 4294967296
  have ef:=ConcM.Eff.set (w:=w2) (Mu:=X.Fd) (Wg:=X.Wg) (wA X) (.int .u64 4294967296) (.inr rfl);have e:IntKind.u64.wrap (s.wg+4294967296)=4294967296:=by rw[h];decide
  rw[e] at st;refine⟨(at_ .p2 0,{s with wg:=KKi}),by simp[mv,h],λ_=>⟨_,_,_,st,hsh',ef,oT (okW R.ne) rfl,?_⟩⟩;rw[if_neg (by simp)];have H2:=(hr1.trans X hr2).trans X (R.rx ef hsh');refine aC (Lv _ _ _) (lD (Lu _ _ _) SR SS SQ (λw3 h3=>?_) (aC (Ls _ _ _) ?_))
  .obtain⟨s,hs⟩:=(H2.trans X h3).live live
   exact⟨_,hs.ZQ⟩
  refine ku R (T':=at_ .e2 0) (g':=resume (Zo X.Wg fr cs) U) (by simp) (by simp) (aV (AE _ _ _)) (λw=>fE xRd .read fRd (AE _ _ _)) (by simp[mv]) (by simp[EvStop,jf];rfl) (by simp) (by simp) (by simp) (by simp) (by simp) (by simp) λk4 w4 hk4 hr4=>?_
  exact aC (Lr _ _ _) (Ol R (.inr ⟨rfl,rfl⟩) (Lq _ _ _) (Gw _ _ _) λk5 w5 hr5=>go k5 w5 ((H2.trans X hr4).trans X hr5))
 .by_cases h1:¬s.wg=KKi
  .exact⟨(at_ .bad 0,s),by simp[mv,h,h1],λq=>absurd rfl q⟩
  have h1:s.wg=KKi:=Decidable.not_not.1 h1;have hsh':=hsh.setWg R.ne 8589934592;have ef:=ConcM.Eff.set (w:=w2) (Mu:=X.Fd) (Wg:=X.Wg) (wA X) (.int .u64 8589934592) (.inr rfl);have e:IntKind.u64.wrap (s.wg+4294967296)=8589934592:=by rw[h1];decide
  rw[e] at st;refine⟨(at_ .e2 0,{s with wg:=2*KKi}),by simp[mv,h1,KKi],λ_=>⟨_,_,_,st,hsh',ef,oT (okW R.ne) rfl,?_⟩⟩;rw[if_neg (by simp)];have H2:=(hr1.trans X hr2).trans X (R.rx ef hsh');exact aC (VM _ _ _) (Ol R (.inr ⟨rfl,rfl⟩) (VL _ _ _) (PU _ _ _) λk5 w5 hr5=>go k5 w5 (H2.trans X hr5))
theorem ad8 {T:Lo}{g:Goroutine}(hT:T.pc= .g1\/T.pc= .g2)(h:∀k' w₁,RR X γ w w₁->OD X PP (zo X PP Post k') T γ g w₁):LS X Post γ k T g w:=by
 cases k with
 |zero=>exact aD.stop λw₁ hr=>⟨γ.mine,λ_=>rfl,trivial⟩
 |succ k=>
  refine aD.stop λw₁ hr=>⟨γ.mine,λ_=>rfl,?_⟩
  unfold zo;rw[if_pos hT];exact h k w₁ hr
def Zc (X:Cx Δ)(Post:Gh Δ->Goroutine->World->Prop)(Tg:Lo)(γ:Gh Δ)(w:World)(f:Value)(fr:Frame)(cs:List Frame):Prop:=
 ∀k' w' bw bf (own':Nat->Prop),(∀b,γ.own b->own' b)->(∀b,own' b->γ.own b\/w.heap.size<=b)->(∀b,own' b->b<w'.heap.size)->RR X γ w w'->own' bw->own' bf->w'.cell? ⟨bw,0,none⟩=some (pb X.Wg)->w'.cell? ⟨bf,0,none⟩=some f->
  (∀K,aD PP false (eY X false (given {γ with own:=own'}).ro) (dM (Hy X PP K (eO Tg.pc)) (at_ .out (X.N (eO Tg.pc))) {given {γ with own:=own'} with mine:=X.c0 (eO Tg.pc)}) (λ_=>False) (ZF bw bf) w')/\
  aD PP true (eY X false (given {γ with own:=own'}).ro) (dM (zo X PP Post k') (gZ Tg.pc) (given {γ with own:=own'})) (λ_=>False) (cA fr cs U) w'
theorem G7 {Tk Tg:Lo}{f:Value}(hTk:eI Tk.pc=false)(hTg:Tg.pc= .g1\/Tg.pc= .g2)(R:Room X γ)(hlow:∀b,γ.own b\/γ.ro b->b<w.heap.size)(live:∃s,ShAt X w s)(hf:∃x,lk x=true/\f=x)
  (hadd:∀(γ':Gh Δ) (k:Nat) (w:World) (fr:Frame) (cs:List Frame),Room X γ'->(∃s,ShAt X w s)->(∀k' w',RR X γ' w w'->LS X Post γ' k' Tg (cA fr cs U) w')->LS X Post γ' k Tk (VN X.Wg fr cs) w)
  (hcells:f.cells=#[f]) (hS:Zc X Post Tg γ w f fr cs):LS X Post γ k Tk (Zm X.Wg f fr cs) w:=by
 obtain⟨s0,hs0⟩:=live;have lf:=lt_of_some hs0.1;have lw:=lt_of_some hs0.2;show aD PP true (eY X (eI Tk.pc) γ.ro) (dM (zo X PP Post k) Tk γ) γ.own (Zm X.Wg f fr cs) w;rw[hTk];refine aC (Vq _ _ _ _) (gh (f:=λb=>pb b) (Vp _ _ _ _) (λw1 h1=>⟨#[],wP _ _,by simp⟩) λw1 bw h1 hbw wbw=>?_)
 refine aC (Vo _ bw _ _ _) (gh (f:=λb=>pb b) (Vn _ _ _ _ _) (λw2 h2=>⟨#[],wP _ _,by simp⟩) λw2 bf h2 hbf wbf=>?_);have ZZ:=aW h2 (.inl (.inr rfl)) wbw;have cbw:w2.cell? ⟨bw,0,none⟩=some (pb X.Wg):=by simp[World.cell?,ZZ,pb,Value.cells]
 refine aC (Vm _ _ bf _ _ _) (Db (Vk _ _ _ _ _ _) (by kernel_rfl) (.inl (.inl (.inr rfl))) cbw λw3 h3=>?_);have H3:RX X γ.ro γ.own w w3:=h1.trans X ((h2.sub λb e=> .inl e).trans X (h3.sub λb e=> .inl (.inl e)));have afX:=aW h3 (.inl (.inl (.inr rfl))) ZZ;have afZ:=aW h3 (.inl (.inr rfl)) wbf
 have R3:Room X {γ with own:=λb=>(γ.own b\/b=bw)\/b=bf}:=⟨R.ne,λb hb=>by
  have:=h1.size;have:=h2.size;rcases hb with((hb|rfl)|rfl)|hb
  .exact R.off b (.inl hb)
  .exact⟨by omega,by omega⟩
  .exact⟨by omega,by omega⟩
  .exact R.off b (.inr hb)⟩
 refine aC (Vl _ _ _ _ _ _) ?_;have key:LS X Post {γ with own:=λb=>(γ.own b\/b=bw)\/b=bf} k Tk (VN X.Wg (fG X.Wg bw bf f fr cs) (fr::cs)) w3:=by
  refine hadd _ _ _ _ _ R3 (H3.live ⟨s0,hs0⟩) λk' w4 h4=>aC (Vi _ _ _ _ _ _) (ad8 hTg λk5 w5 h5=>?_)
  have h45:=h4.trans X h5;have ZY:=aW h45 (.inl (.inl (.inr rfl))) afX;have Z0:=aW h45 (.inl (.inr rfl)) afZ;have cbf:w5.cell? ⟨bf,0,none⟩=some f:=by simp[World.cell?,Z0,hcells]
  have aie:w5.cell? ⟨bw,0,none⟩=some (pb X.Wg):=by simp[World.cell?,ZY,pb,Value.cells]
  have lbw:=lt_of_some ZY;have lbf:=lt_of_some Z0;obtain⟨c1,c2⟩:=hS k5 w5 bw bf (λb=>(γ.own b\/b=bw)\/b=bf) (λb h=> .inl (.inl h)) (λb h=>by
   rcases h with(h|rfl)|rfl
   .exact .inl h
   .exact .inr hbw
   .exact .inr (Nat.le_trans h1.size hbf)) (λb h=>by
   have:=(H3.trans X (h45.sub λb e=> .inl (.inl e))).size;rcases h with(h|rfl)|rfl
   .have:=hlow b (.inl h);omega
   .exact lbw
   .exact lbf) (H3.trans X (h45.sub λb e=> .inl (.inl e))) (.inl (.inr rfl)) (.inr rfl) aie cbf
  refine⟨(Gv _ _ _ _ _ _).1,(Gv _ _ _ _ _ _).2,_,_,Vh _ _ _ _ _ _ _,c1,aC (PS _ _ _ _ _ _) c2⟩
 have:=key;unfold LS at this;rw[hTk] at this;exact this
end
structure Base (X:Cx iJ)(γ:Gh iJ)(w:World):Prop where
 dat:X.Dat=FF
 room:Room X γ
 om:¬γ.own X.M
 rm:¬γ.ro X.M
 mf:X.M≠X.Fd
 mw:X.M≠X.Wg
 low:∀b,γ.own b\/γ.ro b->b<w.heap.size
 ml:X.M<w.heap.size
 live:∃s,ShAt X w s
section
variable {X:Cx iJ}{γ:Gh iJ}{w w':World}
theorem Base.rely (h:Base X γ w)(hr:RR X γ w w'):Base X γ w':=⟨h.dat,h.room,h.om,h.rm,h.mf,h.mw,λb hb=>Nat.lt_of_lt_of_le (h.low b hb) hr.size,Nat.lt_of_lt_of_le h.ml hr.size,hr.live h.live⟩
theorem Base.grow (h:Base X γ w)(hr:RR X γ w w'){own':Nat->Prop}(h1:∀b,own' b->γ.own b\/w.heap.size<=b)(h2:∀b,own' b->b<w'.heap.size):Base X {γ with own:=own'} w':=by
 obtain⟨s,hs⟩:=h.live;have lf:=lt_of_some hs.1;have lw:=lt_of_some hs.2;have lm:=h.ml;refine⟨h.dat,⟨h.room.ne,λb hb=>?_⟩,λhb=>?_,h.rm,h.mf,h.mw,λb hb=>?_,Nat.lt_of_lt_of_le h.ml hr.size,hr.live h.live⟩
 .rcases hb with hb|hb
  .rcases h1 b hb with hb|hb
   .exact h.room.off b (.inl hb)
   .exact⟨by omega,by omega⟩
  .exact h.room.off b (.inr hb)
 .rcases h1 _ hb with hb|hb
  .exact h.om hb
  .omega
 .rcases hb with hb|hb
  .exact h2 b hb
  .exact Nat.lt_of_lt_of_le (h.low b (.inr hb)) hr.size
theorem Base.given (h:Base X γ w):Base X (given γ) w:=
 ⟨h.dat,⟨h.room.ne,λb hb=>hb.elim False.elim λhb=>h.room.off b hb.symm⟩,id,λhb=>hb.elim h.rm h.om,h.mf,h.mw,λb hb=>hb.elim False.elim λhb=>h.low b hb.symm,h.ml,h.live⟩
theorem Base.now (h:Base X γ w){r:bh}(hr:r= .a\/r= .b)(m:iJ):Now X r {aF.given γ with mine:=m} w:=
 ⟨⟨h.dat,hr,⟨h.given.room.ne,h.given.room.off⟩,id,h.given.rm,h.mf,h.mw⟩,h.given.low,h.ml,h.live⟩
end
theorem Sy:(PP.info? 3).bind (·.zero)=some (.int .i64 0):=by kernel_rfl
theorem Td:(PP.info? 3).map (·.size)=some 1:=by kernel_rfl
section
variable {X:Cx iJ}{qp O0:Nat->Prop}{w0:World}{gL gR gA:ByteArray->Option ByteArray}{dv:Value}{K bd:Nat}{Rd:World->Prop}{fr:Frame}{cs:List Frame}
def va (X:Cx iJ)(qp O0:Nat->Prop)(w0:World)(bd:Nat)(dv:Value)(fr:Frame)(cs:List Frame):Gh iJ->Goroutine->World->Prop:=λ_ g w=>
 (∃bs bs',av PP true g (cA (fT3 X.Wg X.Fd bd bs bs' X.M dv fr cs) (fr::cs) U))/\(∃o,w.heap[X.M]? =some o/\FF (X.fin .a) (X.fin .b) o)/\RX X qp O0 w0 w
structure Reads (X:Cx iJ)(qp:Nat->Prop)(Rd:World->Prop)(dv:Value)(gL gR gA:ByteArray->Option ByteArray)(K:Nat):Prop where
 keep:∀ro own w w',(∀b,qp b->ro b)->Rd w->RX X ro own w w'->Rd w'
 ca:∀ro,(∀b,qp b->ro b)->Cont X .a ro Rd dv 0 gL K
 cao:∀ro,(∀b,qp b->ro b)->Cont X .a ro Rd dv 2 gA K
 cb:∀ro,(∀b,qp b->ro b)->Cont X .b ro Rd dv 1 gR K
 cbo:∀ro,(∀b,qp b->ro b)->Cont X .b ro Rd dv 2 gA K
 fa:X.fin .a=jR gL gA
 fb:X.fin .b=jR gR gA
 c0:∀r,X.c0 r=λ_=>none
 n:∀r,2*K<=X.N r
variable (hR:Reads X qp Rd dv gL gR gA K)
include hR
theorem aaC {γ:Gh iJ}{w:World}{bs bs':Nat}(hB:Base X γ w)(hro:∀b,qp b->γ.ro b)(hO:∀b,O0 b\/qp b->γ.own b\/γ.ro b)(hw:Rd w)(h0:RX X qp O0 w0 w)(GJ:γ.ro bd)(TF:w.cell? ⟨bd,0,none⟩=some dv)(obs:γ.own bs')(cbs:w.heap[bs']? =some (.cells #[.int .i64 1] 3 (0,0))):
  Zc X (va X qp O0 w0 bd dv fr cs) (at_ .g2 0) γ w (qh X.Fd bd bs') (ZK X.Wg X.Fd bd bs bs' X.M dv fr cs) (fr::cs):=by
 intro k' w' bw bf own' a1 a2 a4 a3 ow of cw cf;have B':=hB.grow a3 a2 a4;have N5:w'.cell? ⟨bd,0,none⟩=some dv:=by
  unfold World.cell? at TF⊢;rw[a3.keep bd (hB.low bd (.inr GJ)) (.inr GJ)];exact TF
 have YW:w'.cell? ⟨bs',0,none⟩=some (.int .i64 1):=by
  have:=aW a3 (.inl obs) cbs;simp[World.cell?,this]
 have Rw':Rd w':=hR.keep _ _ _ _ hro hw a3;have sub:∀b,qp b->(given {γ with own:=own'}).ro b:=λb hb=> .inl (hro b hb)
 refine⟨λKk=>?_,?_⟩
 .have:=tZ (r:= .b) (k:=Kk) (n:=X.N .b) (λw w' own hw h=>hR.keep _ own w w' sub hw h) (hR.cb _ sub) (hR.cbo _ sub) (hR.n .b) (B'.now (.inr rfl) (X.c0 .b)) rfl Rw' (hR.c0 .b) hR.fb (bw:=bw) (bf:=bf) (bd:=bd) (bs:=bs') (.inr ow) (.inr of) (.inl GJ) (.inr (a1 _ obs)) cw cf N5 YW
  exact this
 .refine aC (UM _ _ _ _ _ _ _ _ _) ?_
  have B3:=B'.given;have key:=Ij (Post:=va X qp O0 w0 bd dv fr cs) (fr:=fT3 X.Wg X.Fd bd bs bs' X.M dv fr cs) (cs:=fr::cs) (k:=k') B3.room B3.live (λw'' o g h1 h2 h3 h4=>⟨⟨bs,bs',h4⟩,⟨o,h2,hB.dat▸h3⟩,?_⟩)
  .exact key
  .have h5:RX X qp O0 w w':=⟨a3.tape,a3.output,a3.size,a3.os,λb hb ho=>a3.keep b hb (hO b ho),a3.live⟩
   have h6:RX X qp O0 w' w'':=⟨h1.tape,h1.output,h1.size,h1.os,λb hb ho=>h1.keep b hb (.inr ((hO b ho).elim (λz=> .inr (a1 b z)) .inl)),h1.live⟩
   exact(h0.trans X h5).trans X h6
theorem aaD {γ:Gh iJ}{w:World}{bs:Nat}(hB:Base X γ w)(hro:∀b,qp b->γ.ro b)(hO:∀b,O0 b\/qp b->γ.own b\/γ.ro b)(hw:Rd w)(h0:RX X qp O0 w0 w)(GJ:γ.own bd)(TF:w.cell? ⟨bd,0,none⟩=some dv)(obs:γ.own bs)(cbs:w.heap[bs]? =some (.cells #[.int .i64 0] 3 (0,0))):
  Zc X (va X qp O0 w0 bd dv fr cs) (at_ .g1 0) γ w (qh X.Fd bd bs) (fT1 X.Wg X.Fd bd bs X.M dv fr cs) (fr::cs):=by
 intro k' w' bw bf own' a1 a2 a4 a3 ow of cw cf;have B':=hB.grow a3 a2 a4;have N5:w'.cell? ⟨bd,0,none⟩=some dv:=by
  unfold World.cell? at TF⊢;rw[a3.keep bd (hB.low bd (.inl GJ)) (.inl GJ)];exact TF
 have YW:w'.cell? ⟨bs,0,none⟩=some (.int .i64 0):=by
  have:=aW a3 (.inl obs) cbs;simp[World.cell?,this]
 have Rw':Rd w':=hR.keep _ _ _ _ hro hw a3;have sub:∀b,qp b->(given {γ with own:=own'}).ro b:=λb hb=> .inl (hro b hb)
 refine⟨λKk=>?_,?_⟩
 .have:=tZ (r:= .a) (k:=Kk) (n:=X.N .a) (λw w' own hw h=>hR.keep _ own w w' sub hw h) (hR.ca _ sub) (hR.cao _ sub) (hR.n .a) (B'.now (.inl rfl) (X.c0 .a)) rfl Rw' (hR.c0 .a) hR.fa (bw:=bw) (bf:=bf) (bd:=bd) (bs:=bs) (.inr ow) (.inr of) (.inr (a1 _ GJ)) (.inr (a1 _ obs)) cw cf N5 YW
  exact this
 .have B3:=B'.given
  have hO3:∀b,O0 b\/qp b->(given {γ with own:=own'}).ro b:=λb hb=>(hO b hb).elim (λz=> .inr (a1 b z)) .inl
  have h5:RX X qp O0 w0 w':=h0.trans X ⟨a3.tape,a3.output,a3.size,a3.os,λb hb ho=>a3.keep b hb (hO b ho),a3.live⟩;refine aC (UR _ _ _ _ _ _ _ _) ?_;refine gh (f:=λb=>pb b) (UQ _ _ _ _ _ _ _ _) (λw1 h1=>⟨#[],mB Sy,by simp⟩) λw1 bs' h1 hbs wbs=>?_
  refine aC (UP _ _ _ _ bs' _ _ _ _) ?_;obtain⟨s,hs⟩:=B3.live;have n1:bs'≠X.Fd/\bs'≠X.Wg:=⟨λe=>by have:=lt_of_some hs.1;omega,λe=>by have:=lt_of_some hs.2;omega⟩
  have Md:¬(given {γ with own:=own'}).ro bs':=λe=>by have:=B3.low bs' (.inr e);omega
  have o':(λb=>False\/b=bs') bs':= .inr rfl;refine jw (b:=bs') (A:=λo x=>x=undef/\o= .cells #[.int .i64 1] 3 (0,0)) o' n1 (UN _ _ _ _ _ _ _ _ _) (λw2 h2=>?_) (λw2 o x _ Z5 ha h2=>?_) Md
  .obtain⟨w',ev,r1,r2,r3⟩:=fK (t:=3) (off:=0) (v:= .int .i64 1) (aW h2 (.inl o') wbs) Td (by simp[Value.cells]) (by simp[Value.cells,lk])
   exact⟨undef,_,w',ev,.inr ⟨r1,rfl⟩,r2,⟨rfl,rfl⟩,λe he=>⟨bs',r3 e he,.inl o'⟩⟩
  obtain⟨rfl,rfl⟩:=ha;have h12:RX X (given {γ with own:=own'}).ro (λ_=>False) w' w2:=h1.trans X (h2.sub λb e=>e.elim);have B2:Base X {given {γ with own:=own'} with own:=λb=>False\/b=bs'} w2:=B3.grow h12 (λb hb=>by
   rcases hb with hb|rfl
   .exact hb.elim
   .exact .inr hbs) (λb hb=>by
   rcases hb with hb|rfl
   .exact hb.elim
   .exact lt_of_some Z5)
  have YX:w2.cell? ⟨bd,0,none⟩=some dv:=by
   unfold World.cell? at N5⊢;rw[h12.keep bd (B3.low bd (.inr (.inr (a1 _ GJ)))) (.inr (.inr (a1 _ GJ)))];exact N5
  refine aC (UO _ _ _ _ _ _ _ _ _) ?_;have key:=G7 (Post:=va X qp O0 w0 bd dv fr cs) (Tk:=at_ .k2 0) (Tg:=at_ .g2 0) (k:=k') rfl (.inr rfl) B2.room B2.low B2.live (f:=qh X.Fd bd bs') (fr:=ZK X.Wg X.Fd bd bs bs' X.M dv fr cs) (cs:=fr::cs) ⟨_,rfl,rfl⟩ (λγ' k w fr cs R live go=>aik R live go) rfl
   (aaC hR B2 (λb hb=>sub b hb) (λb hb=> .inr (hO3 b hb)) (hR.keep _ _ _ _ sub Rw' h12) (h5.trans X ⟨h12.tape,h12.output,h12.size,h12.os,λb hb ho=>h12.keep b hb (.inr (hO3 b ho)),h12.live⟩) (.inr (a1 _ GJ)) YX (.inr rfl) Z5)
  exact key
theorem Ai {γ:Gh iJ}{w:World}{k:Nat}(hB:Base X γ w)(hro:∀b,qp b->γ.ro b)(hO:∀b,O0 b\/qp b->γ.own b\/γ.ro b)(hw:Rd w)(h0:RX X qp O0 w0 w)(GJ:γ.own bd)(TF:w.cell? ⟨bd,0,none⟩=some dv):
  LS X (va X qp O0 w0 bd dv fr cs) γ k (at_ .k1 0) (resume (Zl X.Fd bd X.M dv fr cs) (pb X.Wg)) w:=by
 refine aC (Uz _ _ _ _ _ _ _) ?_;refine gh (f:=λb=>pb b) (Uy _ _ _ _ _ _ _) (λw1 h1=>⟨#[],mB Sy,by simp⟩) λw1 bs h1 hbs wbs=>?_
 refine aC (Ux _ _ _ bs _ _ _ _) ?_;obtain⟨s,hs⟩:=hB.live;have n1:bs≠X.Fd/\bs≠X.Wg:=⟨λe=>by have:=lt_of_some hs.1;omega,λe=>by have:=lt_of_some hs.2;omega⟩
 have Md:¬γ.ro bs:=λe=>by have:=hB.low bs (.inr e);omega
 have now:∀b,γ.own b->b≠bs:=λb hb e=>by have:=hB.low b (.inl hb);omega
 have o':(λb=>γ.own b\/b=bs) bs:= .inr rfl;refine jw (b:=bs) (A:=λo x=>x=undef/\o= .cells #[.int .i64 0] 3 (0,0)) o' n1 (Uv _ _ _ _ _ _ _ _) (λw2 h2=>?_) (λw2 o x _ Z5 ha h2=>?_) Md
 .obtain⟨w',ev,r1,r2,r3⟩:=fK (t:=3) (off:=0) (v:= .int .i64 0) (aW h2 (.inl o') wbs) Td (by simp[Value.cells]) (by simp[Value.cells,lk])
  exact⟨undef,_,w',ev,.inr ⟨r1,rfl⟩,r2,⟨rfl,rfl⟩,λe he=>⟨bs,r3 e he,.inl o'⟩⟩
 obtain⟨rfl,rfl⟩:=ha;have h12:RX X γ.ro γ.own w w2:=h1.trans X (h2.sub λb e=>⟨.inl e,now b e⟩);have B2:Base X {γ with own:=λb=>γ.own b\/b=bs} w2:=hB.grow h12 (λb hb=>by
  rcases hb with hb|rfl
  .exact .inl hb
  .exact .inr hbs) (λb hb=>by
  rcases hb with hb|rfl
  .exact Nat.lt_of_lt_of_le (hB.low b (.inl hb)) h12.size
  .exact lt_of_some Z5)
 have YX:w2.cell? ⟨bd,0,none⟩=some dv:=by
  unfold World.cell? at TF⊢;rw[h12.keep bd (hB.low bd (.inl GJ)) (.inl GJ)];exact TF
 refine aC (Uw _ _ _ _ _ _ _ _) ?_;have key:=G7 (Post:=va X qp O0 w0 bd dv fr cs) (Tk:=at_ .k1 0) (Tg:=at_ .g1 0) (k:=k) rfl (.inl rfl) B2.room B2.low B2.live (f:=qh X.Fd bd bs) (fr:=fT1 X.Wg X.Fd bd bs X.M dv fr cs) (cs:=fr::cs) ⟨_,rfl,rfl⟩ (λγ' k w fr cs R live go=>add1 R live go) rfl
  (aaD hR B2 hro (λb hb=>(hO b hb).imp .inl id) (hR.keep _ _ _ _ hro hw h12) (h0.trans X ⟨h12.tape,h12.output,h12.size,h12.os,λb hb ho=>h12.keep b hb (hO b ho),h12.live⟩) (.inl GJ) YX (.inr rfl) Z5)
 exact key
end
end aF
end
section
open Go.Conc Go.RowKit Go.Lib
open Go.ConcM (OsLater)
namespace aF
section
variable {X:Cx iJ}{ro:Nat->Prop}
theorem Xr:OE (eY X false ro) (λs=>s) ro:=
 ⟨λs w w₁ h=>⟨h.size,h.tape,h.keep⟩,λs w w' es h=>⟨h.tape,h.output,h.size,by rw[h.os];exact .refl _,h.keep,λe he=>by
  rcases h.ev e he with⟨b,hb,hl⟩|⟨m,hm⟩
  .exact .inl ⟨b,hb,hl⟩
  .exact .inr (.inr ⟨m,hm⟩),by simp⟩,λs w w' b=>Iff.rfl⟩
theorem Dc {main:Bool}{Stop:(Nat->Prop)->Goroutine->World->Prop}{own:Nat->Prop}{w0:World}(hown:∀b,own b->b<w0.heap.size)(hF:X.Fd<w0.heap.size)(hW:X.Wg<w0.heap.size)(hro:∀b,ro b->b<w0.heap.size):
  ∀(r:Rk) {s:Nat->Prop} {g:Goroutine} {w:World},(∀b,s b->w0.heap.size<=b/\b<w.heap.size)->RX X ro own w0 w->gB PP main (eY X false ro) Stop r s g w->
   aD PP main (eY X false ro) (λo g w'=>∃s',o=(λb=>own b\/s' b)/\Stop s' g w'/\(∀b,s' b->w0.heap.size<=b/\b<w'.heap.size)/\RX X ro own w0 w') (λb=>own b\/s b) g w:=by
 intro r;have sub:∀{s:Nat->Prop} {w w₁:World},RX X ro (λb=>own b\/s b) w w₁->RX X ro s w w₁/\RX X ro own w w₁:=λh=>
  ⟨⟨h.tape,h.output,h.size,h.os,λb hb ho=>h.keep b hb (ho.imp .inr id),h.live⟩,⟨h.tape,h.output,h.size,h.os,λb hb ho=>h.keep b hb (ho.imp .inl id),h.live⟩⟩
 induction r with
 |zero=>
  intro s g w hs h0 h;refine .stop λw₁ hr=>?_
  have hr':RX X ro (λb=>own b\/s b) w w₁:=hr;exact⟨s,rfl,h w₁ (sub hr').1,λb hb=>⟨(hs b hb).1,Nat.lt_of_lt_of_le (hs b hb).2 hr'.size⟩,h0.trans X (sub hr').2⟩
 |mk f ih=>
  intro s g w hs h0 h;rcases h with h|⟨hrun,h⟩
  .refine .stop λw₁ hr=>?_
   have hr':RX X ro (λb=>own b\/s b) w w₁:=hr;exact⟨s,rfl,h w₁ (sub hr').1,λb hb=>⟨(hs b hb).1,Nat.lt_of_lt_of_le (hs b hb).2 hr'.size⟩,h0.trans X (sub hr').2⟩
  .refine aD.step hrun λw₁ hr=>?_
   have hr':RX X ro (λb=>own b\/s b) w w₁:=hr;obtain⟨g',w',es,h1,h2,h3⟩:=h w₁ (sub hr').1;have h2':DX X false ro s w₁ w' es:=h2;have h01:=h0.trans X (sub hr').2;have old:∀b,b<w0.heap.size->w'.heap[b]? =w₁.heap[b]? :=λb hb=>h2'.keep b (Nat.lt_of_lt_of_le hb h01.size) λhsb=>by have:=(hs b hsb).1;omega
   have h02:RX X ro own w0 w':=by
    refine h01.trans X ⟨h2'.tape,h2'.output,h2'.size,h2'.os,λb hb ho=>old b (ho.elim (hown b) (hro b)),λ⟨s,h1,h2⟩=>⟨s,?_,?_⟩⟩
    .rw[old _ hF];exact h1
    .rw[old _ hW];exact h2
   have hup:(eY X false ro).up (λb=>own b\/s b) w₁ w'=λb=>own b\/(eY X false ro).up s w₁ w' b:=funext λb=>propext or_assoc
   refine⟨g',w',es,h1,⟨h2'.tape,h2'.output,h2'.size,h2'.os,λb hb ho=>h2'.keep b hb λx=>ho (.inr x),λe he=>?_,h2'.mute⟩,?_⟩
   .rcases h2'.ev e he with⟨c,hc,hl⟩|h
    .exact .inl ⟨c,hc.imp .inr id,hl⟩
    .exact .inr h
   .rw[hup]
    refine ih w₁ (λb hb=>?_) h02 h3;rcases hb with hb|hb
    .exact⟨(hs b hb).1,Nat.lt_of_lt_of_le (Nat.lt_of_lt_of_le (hs b hb).2 hr'.size) h2'.size⟩
    .exact⟨Nat.le_trans h01.size hb.1,hb.2⟩
end
structure fx (d bl n:Nat)(x:DS)(w:World):Prop where
 row:∃f,w.heap[d]? =some (.cells (ir bl n (.slice none 0 0) x) 134 f)
 last:∃f,w.heap[bl]? =some (.cells (byteCells x.aR).toArray 148 f)
 yZ:∃c t f,w.heap[0]? =some (.cells c t f)/\∀v∈c,∀r,¬Value.Has r v
 len:x.aR.length=64*n
 lo:16<=n
 hi:n<=400
 none:x.waiting=[]
def u9 (d bl:Nat)(b:Nat):Prop:=b=0\/b=d\/b=bl
theorem fx.keep {X:Cx iJ}{ro own:Nat->Prop}{d bl n:Nat}{x:DS}{w w':World}(h:fx d bl n x w)(hro:∀b,u9 d bl b->ro b)(hr:RX X ro own w w'):fx d bl n x w':=by
 have k:∀b o,u9 d bl b->w.heap[b]? =some o->w'.heap[b]? =some o:=λb o hb ho=>by rw[hr.keep b (Array.getElem?_eq_some_iff.1 ho).1 (.inr (hro b hb))];exact ho
 obtain⟨⟨f1,h1⟩,⟨f2,h2⟩,⟨c,t,f3,h3,h4⟩,a,b,c',e⟩:=h;exact⟨⟨f1,k _ _ (.inr (.inl rfl)) h1⟩,⟨f2,k _ _ (.inr (.inr rfl)) h2⟩,⟨c,t,f3,k _ _ (.inl rfl) h3,h4⟩,a,b,c',e⟩
section
variable (w:World)(d bl:Nat)
open Classical in
def mask:World:={w with heap:=w.heap.mapIdx λb o=>if u9 d bl b then(match o with|.cells c t _=> .cells c t (0,c.size)|o=>o) else .cells #[] 1000000 (0,0)}
theorem tE:(mask w d bl).heap.size=w.heap.size:=by simp[mask]
theorem Ml {b:Nat}{o:Obj}(hb:¬u9 d bl b)(h:(mask w d bl).heap[b]? =some o):o= .cells #[] 1000000 (0,0):=by
 simp only[mask,Array.getElem?_mapIdx,if_neg hb] at h;obtain⟨_,_,rfl⟩:=Option.map_eq_some_iff.1 h;rfl
theorem sa {b:Nat}{c:Array Value}{t:TypeId}{f:Nat×Nat}(hb:u9 d bl b)(h:w.heap[b]? =some (.cells c t f)):(mask w d bl).heap[b]? =some (.cells c t (0,c.size)):=by
 simp only[mask,Array.getElem?_mapIdx,if_pos hb,h,Option.map_some]
end
def Ec (w:World)(d bl:Nat)(b:Nat):Prop:=b<w.heap.size/\¬u9 d bl b
theorem Aa {l:List UInt8}{v:Value}(h:v∈(byteCells l).toArray):∀r,¬Value.Has r v:=by
 simp only[List.mem_toArray,byteCells,List.mem_map] at h;obtain⟨b,_,rfl⟩:=h;intro r hr;cases hr
section
variable {d bl n:Nat}{x:DS}{w:World}
theorem fx.cells (h:fx d bl n x w){b:Nat}(hb:u9 d bl b):∃c t f,w.heap[b]? =some (.cells c t f)/\∀v∈c,∀r,Value.Has r v->u9 d bl r:=by
 obtain⟨⟨f1,h1⟩,⟨f2,h2⟩,⟨c,t,f3,h3,h4⟩,_⟩:=h;rcases hb with rfl|rfl|rfl
 .exact⟨c,t,f3,h3,λv hv r hr=>absurd hr (h4 v hv r)⟩
 .refine⟨_,_,f1,h1,λv hv r hr=>?_⟩
  simp only[ir,List.mem_toArray,List.mem_cons,List.not_mem_nil,or_false] at hv;rcases hv with rfl|rfl|rfl|rfl|rfl|rfl|rfl<;>cases hr
  rename_i e;exact .inr (.inr e.symm)
 .exact⟨_,_,f2,h2,λv hv r hr=>absurd hr (Aa hv r)⟩
theorem fx.size (h:fx d bl n x w){b:Nat}(hb:u9 d bl b):b<w.heap.size:=by
 obtain⟨c,t,f,h1,_⟩:=h.cells hb;exact(Array.getElem?_eq_some_iff.1 h1).1
theorem Jd (h:fx d bl n x w){ro:Nat->Prop}(hro:∀b,u9 d bl b->ro b):Link (Ec w d bl) (u9 d bl) (λ_=>False) ro id (mask w d bl) w:=by
 have hz:∀b,u9 d bl b->¬Ec w d bl b:=λb hb hh=>hh.2 hb
 have sz:=tE w d bl;have cas:∀b,b<w.heap.size->Ec w d bl b\/u9 d bl b:=λb hb=>by
  by_cases hr:u9 d bl b
  .exact .inr hr
  .exact .inl ⟨hb,hr⟩
 have lw:Go.Proofs.YtchcmhodnkgojaaGreat.LW (Ec w d bl) (u9 d bl) (mask w d bl):=by
  refine⟨λb o hb h1 h2=>?_,λb o hb hh=>Ml w d bl hh.2 hb,λb o hb hZ=>?_,λb hb=>?_,hz,⟨?_,hz 0 (.inl rfl)⟩,λb o hb hH r hr=>?_⟩
  .exact absurd (cas b (sz▸(Array.getElem?_eq_some_iff.1 hb).1)) (by simp[h1,h2])
  .obtain⟨c,t,f,h1,_⟩:=h.cells hZ
   rw[sa w d bl hZ h1] at hb;exact⟨c,t,(Option.some.inj hb).symm⟩
  .rw[sz];exact hb.elim (·.1) h.size
  .rw[sz];exact h.size (.inl rfl)
  .have hZ:u9 d bl b:=(cas b (sz▸(Array.getElem?_eq_some_iff.1 hb).1)).resolve_left hH
   obtain⟨c,t,f,h1,h2⟩:=h.cells hZ;rw[sa w d bl hZ h1] at hb;obtain rfl:=Option.some.inj hb;cases hr with
   |cells hv hr=>
    have:=h2 _ hv _ hr;exact⟨by rw[sz];exact h.size this,hz _ this⟩
 refine⟨λi j e=>e,rfl,λb hb=>by rw[<-sz];exact hb,lw,⟨λi j e=>e,rfl,rfl,λb hb _=>by rw[<-sz];exact hb,λb o hb h1 h2=>?_,lw.hid,λb o hb hZ=>?_,lw.low,λb o hb i hi=>?_⟩,λb hb hZ=>?_,hro⟩
 .exact absurd (cas b (sz▸(Array.getElem?_eq_some_iff.1 hb).1)) (by simp[h1,h2])
 .obtain⟨c,t,f,h1,_⟩:=h.cells hZ
  have hb':(mask w d bl).heap[b]? =some o:=hb;rw[sa w d bl hZ h1] at hb';refine⟨c,t,f,(Option.some.inj hb').symm,?_⟩;rw[cg (f:=Value.ren id) λv _=>eQ v λr _=>rfl];exact h1
 .exfalso
  by_cases hH:Ec w d bl b
  .rw[lw.hid b o hb hH] at hi;exact hi
  .obtain⟨c,t,rfl⟩:=lw.nU b o hb ((cas b (sz▸(Array.getElem?_eq_some_iff.1 hb).1)).resolve_left hH)
   exact hi
 .exact absurd (cas b (sz▸hb.1)) (by simp[hb.2,hZ])
theorem Qz (h:fx d bl n x w):fy (mask w d bl) d bl n (.slice none 0 0) x:=by
 obtain⟨⟨f1,h1⟩,⟨f2,h2⟩,_,a,b,c,e⟩:=h;exact⟨⟨_,sa w d bl (.inr (.inl rfl)) h1⟩,⟨_,sa w d bl (.inr (.inr rfl)) h2⟩,a,b,c,rfl,e,⟨none,0,by rw[e];rfl⟩⟩
theorem _root_.Go.Proofs.YtchcmhodnkgojaaGreat.fy.ax {w:World}{d bl n:Nat}{vw:Value}{x:DS}(h:fy w d bl n vw x)(t:dX)(k:Nat):fy (ax w t k) d bl n vw x:=⟨h.row,h.last,h.len,h.lo,h.hi,h.nil,h.none,h.vw⟩
end
def NU (set:Int)(x:DS)(n n0:Nat)(e:Exit)(a:Act)(w':World):Prop:=
 (e= .normal\/e= .ret)/\∃m es c,a.tmps.getD 4 undef= .map (some m)/\n0<=m/\w'.heap[m]? =some (.map es c)/\di es c (uG (qm set (aP x n)))/\es.size<=54
theorem NT (set:Int)(x:DS)(n n0:Nat):QOk none (NU set x n n0):=⟨λe a w t d=>Iff.rfl,λe a w h=>h.1.elim .inl λh=> .inr (.inl h)⟩
theorem RW:xl PP S1 (λ_=>false) false (qU 166)=true:=by kernel_rfl
theorem x5:Tryz.f166.results=#[.tmp 4]:=by kernel_rfl
theorem J0 {set:Int}{x:DS}{n:Nat}{w:World}{e:Exit}{a:Act}{w':World}(h:bodyPost PP Tryz.f166 (x6 set x n w) e a w'):NU set x n w.heap.size e a w':=by
 have go:∀{v},(results Tryz.f166 a.tmps).run PP w'= .ok v w'->x6 set x n w (.returned v) w'->∃m es c,a.tmps.getD 4 undef= .map (some m)/\w.heap.size<=m/\w'.heap[m]? =some (.map es c)/\di es c (uG (qm set (aP x n)))/\es.size<=54:=by
  rintro v hr ⟨m,es,c,h1,h2,h3,h4,h5,_⟩;rw[results_tmp x5] at hr;cases hr;exact⟨m,es,c,Ending.returned.inj h1,h2,h3,h4,h5⟩
 cases e with
 |normal=>obtain⟨_,v,hr,hR⟩:=h;exact⟨.inl rfl,go hr hR⟩
 |ret=>obtain⟨_,v,hr,hR⟩:=h;exact⟨.inr rfl,go hr hR⟩
 |panic ch=>obtain⟨_,m,es,c,h1,_⟩:=h;cases h1
 |outgrown=>obtain⟨m,es,c,h1,_⟩:=h;cases h1
 |_=>exact h.elim
theorem QY {es:Array MapEntry}{c:Nat}{g:ByteArray->Option ByteArray}(h:di es c (uG g))(π:Nat->Nat):es.map (lY π)=es:=by
 have:∀e∈es,lY π e=e:=λe he=>by
  obtain⟨s,hs⟩:=iE (h.keys e (by simpa using he));have hv:=(h.has s e.val).2 ⟨e,by simpa using he,hs,rfl⟩;unfold uG at hv;obtain⟨b,_,hb⟩:=Option.map_eq_some_iff.1 hv;obtain⟨k,v,bo⟩:=e;simp only at hs hb;subst hs;subst hb;simp[lY,aF.hv]
 conv=>rhs;rw[<-Array.map_id es]
 exact Array.map_congr_left λe he=>this e he
theorem pN {X:Cx iJ}{d bl n:Nat}{x:DS}{ro:Nat->Prop}(hro:∀b,u9 d bl b->ro b)(r:bh)(set:Int):Cont X r ro (fx d bl n x) (.pointer (some ⟨d,0,none⟩)) set (qm set (aP x n)) 54:=by
 intro γ k T w fr cs hT hN aha hw hk;subst aha;obtain⟨s0,hs0⟩:=hN.live;have hfz:=Qz hw;have hbody:Tryz.f166.body=some (qU 166):=by kernel_rfl
 let act:Act:={tmps:=#[.pointer (some ⟨d,0,none⟩),.int .i64 set]++Array.replicate 28 undef,defers:=[]}
 have hwp:∀t k,WpT PP [.code (qU 166)] (NU set x n w.heap.size) act (ax (mask w d bl) t k):=λt k=>by
  obtain⟨cd,h1,h2⟩:=zd (VW (hfz.ax t k)) set (ax (mask w d bl) t k) (hfz.ax t k);rw[hbody] at h1;obtain rfl:=Option.some.inj h1;intro b kk css;obtain⟨e,a',w',q,hr⟩:=h2 b kk css;have q':=J0 q;have e0:(ax (mask w d bl) t k).heap.size=w.heap.size:=tE w d bl;rw[e0] at q';exact⟨e,a',w',q',hr⟩
 have Fc:∀v∈act.tmps,VV (gp (Ec w d bl) (mask w d bl)) v:=λv hv=>by
  rcases Array.mem_append.1 hv with hv|hv
  .simp only[List.mem_toArray,List.mem_cons,List.not_mem_nil,or_false] at hv
   rcases hv with rfl|rfl
   .intro r hr
    cases hr with
    |ptr e=>subst e;exact⟨by rw[tE];exact hw.size (.inr (.inl rfl)),λhh=>hh.2 (.inr (.inl rfl))⟩
   .intro r hr;cases hr
  .rw[(Array.mem_replicate.1 hv).2];exact gG
 have key:=Mr aaz (H:=Ec w d bl) (Z:=u9 d bl) (by simp) (f0:=166) ⟨_,Tryz.func166⟩ (Xr (X:=X) (ro:=γ.ro)) (NT set x n w.heap.size) (B:=base 166) (D0:=[]) (CS:=fr::cs) (kT:=[]) rfl (by simp[base]) (by simp)
  (t0:=[.code (qU 166)]) (λit hit=>by
   simp at hit;subst hit;exact RW) (a:=act) (s:=λ_=>False) (Jd hw hro) Fc rfl hwp (main:=false)
 obtain⟨rk,key⟩:=key;have hfresh:=Dc (X:=X) (own:=γ.own) (ro:=γ.ro) (w0:=w) (λb hb=>hN.low b (.inl hb)) (lt_of_some hs0.1) (lt_of_some hs0.2) (λb hb=>hN.low b (.inr hb)) rk (s:=λ_=>False) (by simp) (RX.refl X _ _ w) key;have e1:(λb=>γ.own b\/False)=γ.own:=funext λb=>by simp
 rw[e1] at hfresh;have e2:G ((base 166).at (aY id act []) ([.code (qU 166)]++[])) (fr::cs)=gC0 (.pointer (some ⟨d,0,none⟩)) set fr cs:=by
  unfold aY;rw[cg (f:=Value.ren id) λv _=>eQ v λr _=>rfl];rfl
 rw[e2] at hfresh;show aD PP false (eY X (eI T.pc) γ.ro) _ γ.own _ w;rw[hT];refine hfresh.bind ?_;rintro o g w' ⟨s',rfl,⟨e,a,bu,π,⟨acN,m,es,c,hm,hn0,hrow,his,hsz⟩,hl,hd,hvv,hg,hag,hsize⟩,hs',hrx⟩;have hmv:gp (Ec w d bl) bu m:=⟨(Array.getElem?_eq_some_iff.1 hrow).1,λhh=>by have:=hh.1;omega⟩
 have hmz:¬u9 d bl m:=λhz=>by have:=hw.size hz;omega
 have hown:s' (π m):=hl.own m hmv hmz;have hrow':w'.heap[π m]? =some (.map es c):=by
  have:=(hl.wr.ok m _ hrow hmv.2 hmz).2;simp only[dA,QY his] at this;exact this
 have cont:=hk w' (π m) es c (λb=>γ.own b\/s' b) (λb hb=> .inl hb) (λb hb=>hb.imp id λh=>(hs' b h).1) (λb hb=>hb.elim (λh=>Nat.lt_of_lt_of_le (hN.low b (.inl h)) hrx.size) λh=>(hs' b h).2) hrx (.inr hown)
  (λhb=>by have:=(hs' _ hown).1;have:=hN.low _ (.inl hb);omega) hrow' his hsz
 have cont':aD PP false (eY X false γ.ro) (dM (Hy X PP k r) T γ) (λb=>γ.own b\/s' b) (G (fr.finish (.map (some (π m)))) cs) w':=by
  have c2:aD PP false (eY X (eI T.pc) γ.ro) (dM (Hy X PP k r) T γ) (λb=>γ.own b\/s' b) (G (fr.finish (.map (some (π m)))) cs) w':=cont;rw[hT] at c2;exact c2
 have ret:∀todo,aD PP false (eY X false γ.ro) (dM (Hy X PP k r) T γ) (λb=>γ.own b\/s' b) (G {(base 166).at (aY π a []) todo with mode:= .returning} (fr::cs)) w':=λtodo=>by
  refine aD.silent rfl (λw₁=>?_) (λw₁ _=>(jO (X:=X) false γ.ro _ w₁).1) (λw₁=>(jO (X:=X) false γ.ro _ w₁).2) cont';have hres:(results Tryz.f166 (aY π a []).tmps).run PP w₁= .ok (.map (some (π m))) w₁:=by
   rw[results_tmp x5];show Result.ok ((a.tmps.map (Value.ren π)).getD 4 undef) w₁=_;rw[jQ,hm];simp
  have hev:(results Tryz.f166 (aY π a []).tmps).events PP w₁ #[]=#[]:=by
   have e:results Tryz.f166 (aY π a []).tmps=pure ((aY π a []).tmps.getD 4 undef):=by simp[results,x5]
   rw[e];rfl
  exact stepG_leave (b:=base 166) (a:=aY π a []) (todo:=todo) rfl rfl Tryz.func166 hres hev
 rcases acN with rfl|rfl
 .obtain rfl:g=_:=hg
  exact aD.silent rfl (λw₁=>stepG_end) (λw₁ _=>(jO (X:=X) false γ.ro _ w₁).1) (λw₁=>(jO (X:=X) false γ.ro _ w₁).2) (ret _)
 .obtain⟨todo,rfl⟩:=hg
  exact ret todo
end aF
end
section
open Go.Conc Go.RowKit Go.Lib
open Go.ConcM (OsLater)
open Go.ConcN (sumTo)
namespace aF
section
variable {own:Nat->Prop}{w:World}{g g':Goroutine}{v:kd}{Stop:(Nat->Prop)->Goroutine->World->Prop}
theorem qa (own:Nat->Prop)(w:World):kv own (λ_=>False) w w #[]:=⟨Nat.le_refl _,λ_ _ _=>rfl,rfl,rfl,rfl,by simp⟩
theorem idle0:Idle li:=λs w=>⟨qa s w,funext λb=>propext ⟨λh=>h.elim id λh=>by omega,.inl⟩⟩
theorem ed (h:av PP true g g')(k:aD PP true li Stop own g' w):aD PP true li Stop own g w:=j0 idle0 h k
theorem Mg {o:Obj}{f:Nat->Value}(h:aS g=some v)(hr:∀w,RT v.sem w (.value (f w.heap.size)) {w with heap:=w.heap.push o} #[])
  (k:∀w',w'.heap=w.heap.push o->w'.os=w.os->w'.tape=w.tape->aD PP true li Stop (λb=>own b\/b=w.heap.size) (resume g (f w.heap.size)) w'):aD PP true li Stop own g w:=by
 refine aD.step (cT h).1 λw₁ h1=>?_
 obtain⟨d,rfl⟩:=h1;obtain⟨es,e1,e2⟩:=e9 (main:=true) h (hr (w.at d));have hup:li.up own (w.at d) {w.at d with heap:=(w.at d).heap.push o}=λb=>own b\/b=w.heap.size:=by
  funext b
  refine propext (or_congr Iff.rfl ?_);show(w.heap.size<=b/\b<(w.heap.push o).size)↔_;simp;omega
 refine⟨_,_,es,e1,⟨by show w.heap.size<=(w.heap.push o).size;simp,λb hb _=>?_,rfl,rfl,rfl,λe he=>by have:=e2 e he;simp at this⟩,?_⟩
 .have hb':b<w.heap.size:=hb
  show(w.heap.push o)[b]? =w.heap[b]?;rw[Array.getElem?_push_lt hb'];exact(Array.getElem?_eq_getElem hb').symm
 .rw[hup]
  exact k _ rfl rfl rfl
theorem af3 {x:Value}(h:aS g=some v)(hr:∀w,RT v.sem w (.value x) w #[])(k:aD PP true li Stop own (resume g x) w):aD PP true li Stop own g w:=by
 refine aD.step (cT h).1 λw₁ h1=>?_
 obtain⟨es,e1,e2⟩:=e9 (main:=true) h (hr w₁);have e0:es=#[]:=by
  apply Array.eq_empty_of_size_eq_zero
  refine Nat.eq_zero_of_not_pos λhp=>?_
  have:=e2 es[0] (Array.getElem_mem hp);simp at this
 subst e0;refine⟨_,_,_,e1,qa _ _,?_⟩;rw[(idle0 own w₁).2];exact k.rely h1
theorem af5 {b:Nat}{o:Obj}(hb:own b)(h:aS g=some v)
  (hr:∀d,∃w' ev,RT v.sem (w.at d) .skip w' ev/\zl b o (w.at d) w'/\∀e∈ev,EvB b e)
  (k:∀w',w'.heap.size=w.heap.size->w'.heap[b]? =some o->(∀c,c≠b->w'.heap[c]? =w.heap[c]?)->w'.os=w.os->w'.tape=w.tape->aD PP true li Stop own (resume g undef) w'):aD PP true li Stop own g w:=by
 refine aD.step (cT h).1 λw₁ h1=>?_
 obtain⟨d,rfl⟩:=h1;obtain⟨w',ev,r,u,a5⟩:=hr d;obtain⟨es,e1,e2⟩:=BV (main:=true) h r;have hup:li.up own (w.at d) w'=own:=funext λc=>propext ⟨λx=>x.elim id λx=>by have:=u.size;omega,.inl⟩
 refine⟨_,w',es,e1,⟨by rw[u.size];exact Nat.le_refl _,λc _ hc=>u.rest c λe=>hc (e▸hb),u.os,u.output,u.tape,λe he=> .inl ⟨b,.inl hb,(a5 e (e2 e he)).2⟩⟩,?_⟩;rw[hup];exact k w' u.size u.at_ u.rest u.os u.tape
end
theorem TV:(PP.info? KB).bind (·.zero)=some (.agg #[.int .i32 0,.int .u32 0,.map none]):=by kernel_rfl
theorem TU:(PP.info? TWg).bind (·.zero)=some (.agg #[.int .u64 0,.int .u32 0]):=by kernel_rfl
theorem Xm:(PP.info? KB).map (·.size)=some 3:=by kernel_rfl
theorem aaY (M:Nat)(w:World):RT (kd.build KB #[(1,.map (some M))]).sem w (.value (fd0 M)) w #[]:=λes=>by
 have:(kd.build KB #[(1,.map (some M))]).sem.runT PP w es=(.ok (.value (fd0 M)) w,es):=by kernel_rfl
 rw[this,Array.append_empty]
structure Laid (d:Nat)(w w':World):Prop where
 size:w'.heap.size=w.heap.size+4
 box:w'.heap[w.heap.size]? =some (.cells #[pb d] 94 (0,0))
 map:w'.heap[w.heap.size+1]? =some (.map #[] 0)
 fd:w'.heap[w.heap.size+2]? =some (.cells #[.int .i32 0,.int .u32 0,.map (some (w.heap.size+1))] KB (0,0))
 wg:w'.heap[w.heap.size+3]? =some (.cells #[.int .u64 0,.int .u32 0] TWg (0,0))
 old:∀b,b<w.heap.size->w'.heap[b]? =w.heap[b]?
 os:w'.os=w.os
 tape:w'.tape=w.tape
theorem Jm {own:Nat->Prop}{d:Nat}{w:World}{fr:Frame}{cs:List Frame}:
  aD PP true li (λs g w'=>s=(λb=>own b\/(w.heap.size<=b/\b<w.heap.size+4))/\g=resume (Zl (w.heap.size+2) w.heap.size (w.heap.size+1) (pb d) fr cs) (pb (w.heap.size+3))/\Laid d w w') own (sT0 (pb d) fr cs) w:=by
 refine ed (UL _ _ _) (Mg (f:=pb) (UK _ _ _) (λw=>wP _ _) λw1 h1 o1 t1=>?_);refine ed (UJ _ _ _ _) (Mg (f:=λb=> .map (some b)) (UI _ _ _ _) (λw=>EI _) λw2 h2 o2 t2=>?_);have s1:w1.heap.size=w.heap.size+1:=by rw[h1];simp
 have s2:w2.heap.size=w.heap.size+2:=by rw[h2];simp[s1]
 rw[s1];refine ed (UH _ _ _ _ _) (af3 (UG _ _ _ _ _) (λw=>aaY _ w) ?_);refine ed (UF _ _ _ _ _) (Mg (f:=pb) (UE _ _ _ _ _) (λw=>mB TV) λw3 h3 o3 t3=>?_);have s3:w3.heap.size=w.heap.size+3:=by rw[h3];simp[s2]
 rw[s2];refine ed (UD _ _ _ _ _ _) (af5 (b:=w.heap.size+2) (o:= .cells #[.int .i32 0,.int .u32 0,.map (some (w.heap.size+1))] KB (0,0)) (.inr rfl) (UC _ _ _ _ _ _) (λd=>?_) λw4 s4 r4 k4 o4 t4=>?_)
 .have h3':(w3.at d).heap[w.heap.size+2]? =some (.cells #[.int .i32 0,.int .u32 0,.map none] KB (0,0)):=by
   show w3.heap[w.heap.size+2]? =_;rw[h3,<-s2];simp[Value.cells]
  obtain⟨w',ev,r1,r2,r3⟩:=fK (t:=KB) (off:=0) (v:=fd0 (w.heap.size+1)) h3' Xm (by simp[fd0,Value.cells]) (by simp[fd0,Value.cells,lk]);exact⟨w',ev,r1,r2,r3⟩
 refine ed (UB _ _ _ _ _ _) (Mg (f:=pb) (UA _ _ _ _ _ _) (λw=>mB TU) λw5 h5 o5 t5=>?_);rw[s4,s3];refine .stop λw₁ ⟨d,e⟩=>?_
 subst e;have Wn:∀b,b<w2.heap.size->w5.heap[b]? =w2.heap[b]? :=λb hb=>by
  rw[h5,Array.getElem?_push_lt (by omega),<-Array.getElem?_eq_getElem,k4 b (by omega),h3,Array.getElem?_push_lt hb,<-Array.getElem?_eq_getElem]
 refine⟨funext λb=>propext (by constructor<;>intro h<;>(by_cases ho:own b<;>simp[ho] at h⊢<;>omega)),rfl,⟨by show w5.heap.size=_;rw[h5];simp[s4,s3],?_,?_,?_,?_,λb hb=>?_,by show w5.os=_;rw[o5,o4,o3,o2,o1],by show w5.tape=_;rw[t5,t4,t3,t2,t1]⟩⟩
 .show w5.heap[w.heap.size]? =_
  rw[Wn _ (by omega),h2,Array.getElem?_push_lt (by omega),<-Array.getElem?_eq_getElem,h1];simp[pb,Value.cells]
 .show w5.heap[w.heap.size+1]? =_
  rw[Wn _ (by omega),h2,<-s1];simp
 .show w5.heap[w.heap.size+2]? =_
  rw[h5,Array.getElem?_push_lt (by omega),<-Array.getElem?_eq_getElem];exact r4
 .show w5.heap[w.heap.size+3]? =_
  rw[h5,show w.heap.size+3=w4.heap.size by omega];simp[Value.cells]
 .show w5.heap[b]? =_
  rw[Wn _ (by omega),h2,Array.getElem?_push_lt (by omega),<-Array.getElem?_eq_getElem,h1,Array.getElem?_push_lt hb,<-Array.getElem?_eq_getElem]
abbrev no:Nat->Prop:=λ_=>False
section
variable {Δ:Type}{X:Cx Δ}{P:Program}{Post:Gh Δ->Goroutine->World->Prop}{Shun:Loc->Prop}{own:Nat->Prop}{M:Machine}{t:Trace}{g:Goroutine}{w:World}{γ:Gh Δ}
def TP (X:Cx Δ):bh->Lo
 |.m=>at_ .k1 0
 |r=>at_ .un (X.N r)
def OZ (X:Cx Δ)(γ:Gh Δ):bh->Gh Δ
 |.m=>{γ with mine:=X.c0 .m}
 |r=>⟨no,no,X.c0 r,X.c0 r⟩
def Ga (Shun:Loc->Prop)(b:Nat):Prop:=∃l,Shun l/\ll b l
theorem Oh {r:bh}:born (TP X) r↔r= .m:=by cases r<;>simp[born,TP]
theorem agN (hA:Apart Shun own w)(hn:X.Fd≠X.Wg)(hfm:X.Fd≠X.M)(hmw:X.M≠X.Wg)(hoF:own X.Fd)(hoW:own X.Wg)(xE:own X.M)
  (hin:∀b,γ.own b\/γ.ro b->own b/\b≠X.Fd/\b≠X.Wg/\b≠X.M) (hd:∀b,γ.own b->¬γ.ro b):Lay X (Ga Shun) (OZ X γ) (TP X) w.heap.size:=by
 have nS:∀b,own b->¬Ga Shun b:=λb hb ⟨l,h1,h2⟩=>hA.off b hb l h2 h1
 have gm:∀r c,(OZ X γ r).own c\/(OZ X γ r).ro c->r= .m/\(γ.own c\/γ.ro c):=λr c h=>by
  cases r with
  |m=>exact⟨rfl,h⟩
  |a=>exact h.elim False.elim False.elim
  |b=>exact h.elim False.elim False.elim
 refine⟨λr c h=>?_,λr h=>?_,λr=>⟨λh=>?_,λh=>?_⟩,λr r' c h h'=>?_,λr r' c h h'=>?_,λr c h=>?_,hfm,hn,hmw,λc hc=>?_,hA.lt _ hoF,hA.lt _ xE,hA.lt _ hoW⟩
 .obtain⟨rfl,h⟩:=gm r c h
  obtain⟨h1,h2,h3,h4⟩:=hin c h;exact⟨h2,h3,nS c h1,hA.lt c h1⟩
 .exact(hin _ (gm r _ (.inr h)).2).2.2.2 rfl
 .exact absurd rfl (hin _ (gm r _ (.inl h)).2).2.2.2
 .cases r<;>cases h
 .rw[(gm r c (.inl h)).1,(gm r' c (.inl h')).1]
 .obtain⟨rfl,_⟩:=gm r c (.inl h)
  obtain⟨rfl,_⟩:=gm r' c (.inr h');exact hd c h h'
 .exact Oh.2 (gm r c h).1
 .have hlt:c<w.heap.size:=by obtain⟨l,h1,h2⟩:=hc;exact hA.low l c h1 h2
  exact⟨hlt,λe=>nS _ hoF (e▸hc),λe=>nS _ xE (e▸hc),λe=>nS _ hoW (e▸hc)⟩
theorem Jr (hz:Zero P Shun M t g w)(hA:Apart Shun own w)(hn:X.Fd≠X.Wg)(hfm:X.Fd≠X.M)(hmw:X.M≠X.Wg)(hoF:own X.Fd)(hoW:own X.Wg)(xE:own X.M)
  (hin:∀b,γ.own b\/γ.ro b->own b/\b≠X.Fd/\b≠X.Wg/\b≠X.M) (hd:∀b,γ.own b->¬γ.ro b) (hsh:ShAt X w ⟨0,0,0,0⟩) {o:Obj} (hM:w.heap[X.M]? =some o) (hD:X.Dat (X.c0 .a) (X.c0 .b) o)
  (Qt:NoRelease (mA X) t) (nrW:NoRelease (wA X) t) (hm:γ.mine=X.c0 .m)
  (hL:∀k,aD P true (eY X (eI .k1) γ.ro) (dM (zo X P Post k) (at_ .k1 0) γ) γ.own g w):
  ∃n0 μ,Bs X P Post (Ga Shun) n0 μ M t:=by
 obtain⟨gs,sl,q,rfl,hg,hV,hI⟩:=hz.ex;have hP:=hz.past;obtain⟨ρ,hρ⟩:=hL (nT (TP X) 0 15+1);have eγ:OZ X γ .m=γ:=by show({γ with mine:=X.c0 .m}:Gh Δ)=γ;rw[<-hm]
 have JI:0<gs.size:=(Array.getElem?_eq_some_iff.1 hg).1;have bl:=λr (h:born (TP X) r)=>Oh.1 h
 let C:Cf Δ:=⟨gs.size,TP X,OZ X γ,λ_=>nT (TP X) 0 15+1,λ_=>ρ,λ_=>1,λ_=>0,q,⟨0,0,0,0⟩,0,15⟩
 have kX:∀{a:Addr},ll a.block (.cell a):=fun {a}=> .inl ⟨a,rfl,rfl⟩
 have toSh:∀l,Shun l->yC X (Ga Shun) l:=λl hl=>by
  obtain⟨a,rfl⟩:=hA.cell l hl;exact⟨a,rfl,.inl ⟨_,hl,kX⟩⟩
 have kn:∀b,own b->∀i x,touchAt t i=some x->ll b x.loc->Knows t 0 i:=λb hb i x hx hl=>(hP.known i x hx hl.mem).elim id λh=>absurd h.1 (hA.off b hb _ hl)
 have ac7:∀r c,(OZ X γ r).own c\/(OZ X γ r).ro c->r= .m/\(γ.own c\/γ.ro c):=λr c h=>by
  cases r with
  |m=>exact⟨rfl,h⟩
  |a=>exact h.elim False.elim False.elim
  |b=>exact h.elim False.elim False.elim
 refine⟨gs.size,C.ms gs.size,C,gs,w,sl,rfl,rfl,⟨JI,rfl,⟨Jw,by show(0:Nat)<27;omega,Jx,rfl,rfl,rfl⟩,λr h=>Nat.lt_succ_self _,hsh,λr h=>?_,λr h=>?_,λi g' h0 h1 hgi=>hV.old i g' h0 hgi,hV.above,λr h=>?_,λh1 h2=>⟨o,hM,hD⟩,λr h=>?_,λr h=>?_,λr h=>?_,agN hA hn hfm hmw hoF hoW xE hin hd,?_⟩,rfl⟩
 .obtain rfl:=bl r h
  refine⟨g,hg,.inl ⟨by simp[C,TP],rfl,rfl,?_⟩⟩;show gB P true (eY X (eI .k1) (OZ X γ .m).ro) (dM (AtR X P Post _ .m) (at_ .k1 0) (OZ X γ .m)) ρ (OZ X γ .m).own g w;rw[eγ];exact hρ
 .cases r with
  |m=>exact absurd (Oh.2 rfl) h
  |a=>exact⟨rfl,rfl⟩
  |b=>exact⟨rfl,rfl⟩
 .obtain rfl:=bl r h
  exact hP.hears
 .cases r<;>cases h
 .cases r<;>cases h
 .cases r<;>cases h
 .refine⟨hP.clean,λi x hx hs=>?_,λr c ho i x hx hb=>?_,λr i x hx hr hw=>?_,λ_ i x hx hb=> .inl λr hr=>?_,λi x hx hm=>?_,λi x hx hm r hr h _=>absurd (bl r h) hr,λi g' hg' h0 hc=> .inr (hP.over i g' hg' h0 hc),λi g' hg' hge=>?_,Qt,nrW,hP.seen⟩
  .rcases hP.known i x hx (Gt hs) with h|h
   .exact .inr (.inr λr hr=>by obtain rfl:=bl r hr;exact h)
   .exact .inl h.2
  .obtain⟨rfl,h⟩:=ac7 r c (.inl ho)
   exact kn c (hin c h).1 i x hx hb
  .obtain⟨hb,h|⟨sp,h⟩⟩:=hr
   .obtain rfl:=bl r hb
    obtain⟨c,hc,hl⟩:=h;exact kn c (hin c (ac7 .m c (.inr hc)).2).1 i x hx hl
   .obtain rfl:=bl r hb
    exact kn X.Fd hoF i x hx (by rw[h];exact kX)
  .obtain rfl:=bl r hr
   exact kn X.M xE i x hx hb
  .rcases hP.known i x hx hm with h|h
   .exact .inr (.inl h)
   .exact .inr (.inr ⟨toSh _ h.1,h.2⟩)
  .obtain⟨op,ho,e⟩:=Option.map_eq_some_iff.1 hg'
   have:=hI op (mem_of_getElem? ho);have e':gs.size<=g':=hge;omega
end
theorem Joined.zero {Δ:Type}{X:Cx Δ}{P:Program}{Post:Gh Δ->Goroutine->World->Prop}{S0:Nat->Prop}{n0:Nat}{gs:Array Goroutine}{w:World}{t:Trace}{sl:Option (Nat×Nat)}(h:Joined X P Post S0 n0 gs w t):
  ∃g γ,Zero P (yC X S0) (crowd gs w sl) t g w/\Post γ g w:=by
 obtain⟨g,γ,h0,hp⟩:=h.post;obtain⟨q,hq⟩:=h.agM;exact⟨g,γ,⟨⟨gs,sl,q,rfl,h0,hq,λop ho=>by rw[h.size];exact h.ids op ho⟩,h.past⟩,hp⟩
abbrev OA:TypeId:=153
section
variable (W F bd bs bs' M:Nat)(dv:Value)(fr:Frame)(cs:List Frame)
def sX1:Goroutine:=OT (cA (fT3 W F bd bs bs' M dv fr cs) (fr::cs) U)
theorem Uu:av PP true (cA (fT3 W F bd bs bs' M dv fr cs) (fr::cs) U) (sX1 W F bd bs bs' M dv fr cs):=bm λws=>by kernel_rfl
theorem Ut:aS (sX1 W F bd bs bs' M dv fr cs)=some (.load OA (.pointer (some ⟨F,2,none⟩))):=by kernel_rfl
theorem PD (M':Nat):av PP true (resume (sX1 W F bd bs bs' M dv fr cs) (.map (some M'))) (cA fr cs (.map (some M'))):=bD 4 (bJ PP true 4 (resume (sX1 W F bd bs bs' M dv fr cs) (.map (some M')))) λws=>by kernel_rfl
end
section
variable {Shun:Loc->Prop}{Stop:Unit->Goroutine->World->Prop}{g g':Goroutine}{w:World}
theorem Fr (h:av PP true g g')(k:aD PP true (O1 Shun) Stop () g' w):aD PP true (O1 Shun) Stop () g w:=j0 (acl Shun) h k
theorem ab5 {t:TypeId}{a:Addr}{v:Value}(h:aS g=some (.load t (.pointer (some a))))(ha:(PP.underlying t).map (λd=>match d with|.struct _|.array _ _=>true|_=>false)=some false)(hS:¬Shun (.cell a))(hc:w.cell? a=some v)
  (k:aD PP true (O1 Shun) Stop () (resume g v) w):aD PP true (O1 Shun) Stop () g w:=by
 have hlt:a.block<w.heap.size:=by
  unfold World.cell? at hc;cases hh:w.heap[a.block]? with
  |none=>rw[hh] at hc;simp at hc
  |some o=>exact lt_of_some hh
 refine aD.step (cT h).1 λw₁ h1=>?_
 obtain⟨d,rfl⟩:=h1;have hr:RT (kd.load t (.pointer (some a))).sem (w.at d) (.value v) (w.at d) #[⟨.cell a,false,false⟩]:=by
  refine RT.eD (x:=v) ?_ (.pure _);show RT (do if<-isAgg t then Pure.pure (.agg (<-loadCells a (<-Go.sizeOf t))) else load a) _ _ _ _;refine(fM (h:=ha)).aN ?_;simp only[Bool.false_eq_true,if_false];exact jD hc
 obtain⟨es,e1,e2⟩:=e9 (main:=true) h hr;refine⟨_,_,es,e1,⟨Nat.le_refl _,rfl,λe he=>?_,λe he a'=>?_⟩,?_⟩
 .have:=e2 e he
  simp at this;subst this;refine⟨λx hx hs=>?_,by simp,by simp,hlt⟩;simp[MemAct.ofEvent,MemAct.touch?] at hx;subst hx;exact absurd hs hS
 .have:=e2 e he
  simp at this;subst this;simp
 .exact(k.rely (⟨d,rfl⟩:AtRel w (w.at d)))
theorem JN {X:Cx iJ}{S0:Nat->Prop}{bd:Nat}{dv:Value}{fr:Frame}{cs:List Frame}{qp O0:Nat->Prop}{w0:World}{γ:Gh iJ}{s:Sh}(hP:va X qp O0 w0 bd dv fr cs γ g w)(hF:ShAt X w s)(hn:X.Fd≠X.Wg)(h0:¬S0 X.Fd):
  aD PP true (O1 (yC X S0)) (λ_ g' w'=>g'=cA fr cs (.map (some X.M))/\w'.heap=w.heap/\w'.output=w.output) () g w:=by
 obtain⟨⟨bs,bs',hg⟩,_⟩:=hP;refine Fr hg (Fr (Uu _ _ _ _ _ _ _ _ _) (ab5 (Ut _ _ _ _ _ _ _ _ _) (by kernel_rfl) (v:= .map (some X.M)) ?_ ?_ (Fr (PD _ _ _ _ _ _ _ _ _ _) (.stop λw₁ h1=>⟨rfl,by obtain⟨d,rfl⟩:=h1;rfl,by obtain⟨d,rfl⟩:=h1;rfl⟩))))
 .rintro⟨a,e,ha⟩
  cases e;rcases ha with ha|ha|ha
  .exact h0 ha
  .exact hn ha
  .exact ha.2 rfl
 .have:=hF.1
  simp[World.cell?,this]
end
theorem xu {H own:Nat->Prop}{π:Nat->Nat}{wL w w':World}{m:Nat}{o0:Obj}(h:Link H no own no π wL w)(hs:w.heap.size<=w'.heap.size)(hk:∀b,own b->w'.heap[b]? =w.heap[b]?)
  (hm:w.heap.size<=m) (hm':m<w'.heap.size) (hrow:w'.heap[m]? =some o0) (hok:nK o0) (noH:∀r,¬j6 r o0) (hin:∀i,¬inner o0 i):
  ∃ce,Link H no (λb=>own b\/b=m) no ce {wL with heap:=wL.heap.push o0} w'/\(∀b,b<wL.heap.size->ce b=π b)/\ce wL.heap.size=m:=by
 let ce:Nat->Nat:=λi=>if i<wL.heap.size then π i else if i=wL.heap.size then m else w'.heap.size+i
 have e1:∀b,b<wL.heap.size->ce b=π b:=λb hb=>if_pos hb
 have e2:ce wL.heap.size=m:=by show(if _ then _ else _)=_;rw[if_neg (by omega),if_pos rfl]
 have lo:∀b,H b\/no b->b<wL.heap.size:=h.lw.low;have hz0:0<wL.heap.size:=h.lw.zero.1;have e3:∀i,wL.heap.size<i->ce i=w'.heap.size+i:=λi hi=>by show(if _ then _ else _)=_;rw[if_neg (by omega),if_neg (by omega)]
 have hinj:∀i j,ce i=ce j->i=j:=λi j hij=>by
  have hi:=h.lt i;have hj:=h.lt j;rcases Nat.lt_trichotomy i wL.heap.size with a1|rfl|a1<;>rcases Nat.lt_trichotomy j wL.heap.size with a2|a2|a2
  .rw[e1 i a1,e1 j a2] at hij;exact h.inj _ _ hij
  .subst a2;rw[e1 i a1,e2] at hij;have:=hi a1;omega
  .rw[e1 i a1,e3 j a2] at hij;have:=hi a1;omega
  .rw[e2,e1 j a2] at hij;have:=hj a2;omega
  .omega
  .rw[e2,e3 j a2] at hij;omega
  .rw[e3 i a1,e1 j a2] at hij;have:=hj a2;omega
  .subst a2;rw[e3 i a1,e2] at hij;omega
  .rw[e3 i a1,e3 j a2] at hij;omega
 have old:∀b o,(wL.heap.push o0)[b]? =some o->(b<wL.heap.size/\wL.heap[b]? =some o)\/(b=wL.heap.size/\o=o0):=λb o hb=>by
  rw[Array.getElem?_push] at hb;split at hb
  .exact .inr ⟨by assumption,(Option.some.inj hb).symm⟩
  .exact .inl ⟨(Array.getElem?_eq_some_iff.1 hb).1,hb⟩
 have sz:(wL.heap.push o0).size=wL.heap.size+1:=by simp
 have vis:∀r,gp H wL r->gp H {wL with heap:=wL.heap.push o0} r:=λr hr=>⟨by show r<(wL.heap.push o0).size;rw[sz];have:=hr.1;omega,hr.2⟩
 have nH:¬H wL.heap.size:=λhh=>by have:=lo _ (.inl hh);omega
 have rn:∀b o,wL.heap[b]? =some o->¬H b->dA ce o=dA π o:=λb o hb hH=>wR λr hr=>e1 r (h.lw.RY b o hb hH r hr).1
 refine⟨ce,⟨hinj,by rw[e1 0 hz0];exact h.zero,λb hb=>?_,?_,?_,λb hb _=>?_,λb hb=>hb.elim⟩,e1,e2⟩
 .have hb:b<(wL.heap.push o0).size:=hb
  rw[sz] at hb;rcases Nat.lt_or_ge b wL.heap.size with hl|hl
  .rw[e1 b hl];have:=h.lt b hl;omega
  .rw[show b=wL.heap.size by omega,e2];exact hm'
 .refine⟨λb o hb h1 h2=>?_,λb o hb h1=>?_,λb o hb h1=>h1.elim,λb hb=>?_,λb hb=>hb.elim,vis 0 h.lw.zero,λb o hb h1 r hr=>?_⟩
  .rcases old b o hb with⟨_,hb⟩|⟨_,rfl⟩
   .exact h.lw.ok b o hb h1 h2
   .exact hok
  .rcases old b o hb with⟨_,hb⟩|⟨rfl,rfl⟩
   .exact h.lw.hid b o hb h1
   .exact absurd h1 nH
  .show b<(wL.heap.push o0).size
   rw[sz];have:=lo b hb;omega
  .rcases old b o hb with⟨_,hb⟩|⟨rfl,rfl⟩
   .exact vis r (h.lw.RY b o hb h1 r hr)
   .exact absurd hr (noH r)
 .refine⟨hinj,rfl,rfl,λb hb hH=>?_,λb o hb h1 h2=>?_,λb o hb h1=>?_,λb o hb h1=>h1.elim,λb hb=>?_,λb o hb i hi=>?_⟩
  .have hb:b<(wL.heap.push o0).size:=hb
   rw[sz] at hb;rcases Nat.lt_or_ge b wL.heap.size with hl|hl
   .rw[e1 b hl];have:=h.lt b hl;omega
   .rw[show b=wL.heap.size by omega,e2];exact hm'
  .rcases old b o hb with⟨hl,hb⟩|⟨rfl,rfl⟩
   .obtain⟨r1,r2⟩:=h.wr.ok b o hb h1 h2
    refine⟨r1,?_⟩;rw[e1 b hl,rn b o hb h1,hk _ (h.own b ⟨hl,h1⟩ id)];exact r2
   .refine⟨hok,?_⟩
    rw[e2,oF λr hr=>absurd hr (noH r)];exact hrow
  .rcases old b o hb with⟨_,hb⟩|⟨rfl,rfl⟩
   .exact h.lw.hid b o hb h1
   .exact absurd h1 nH
  .show b<(wL.heap.push o0).size
   rw[sz];have:=lo b hb;omega
  .rcases old b o hb with⟨_,hb⟩|⟨rfl,rfl⟩
   .have:=h.wr.yy b o hb i hi
    exact⟨by show i<(wL.heap.push o0).size;rw[sz];have h3:i<wL.heap.size:=this.1;omega,this.2⟩
   .exact absurd hi (hin i)
 .rcases Nat.lt_or_ge b wL.heap.size with hl|hl
  .rw[e1 b hl];exact .inl (h.own b ⟨hl,hb.2⟩ id)
  .have hb:b<(wL.heap.push o0).size:=hb.1
   rw[sz] at hb;rw[show b=wL.heap.size by omega,e2];exact .inr rfl
theorem Jk {H own:Nat->Prop}{π:Nat->Nat}{wL w w':World}{m:Nat}{es:Array MapEntry}{c:Nat}(h:Link H no own no π wL w)(hs:w.heap.size<=w'.heap.size)(hk:∀b,own b->w'.heap[b]? =w.heap[b]?)
  (hm:w.heap.size<=m) (hm':m<w'.heap.size) (hrow:w'.heap[m]? =some (.map es c)) (hfix:∀e∈es,∀r,¬Value.Has r e.key/\¬Value.Has r e.val):
  ∃ce,Link H no (λb=>own b\/b=m) no ce {wL with heap:=wL.heap.push (.map es c)} w'/\(∀b,b<wL.heap.size->ce b=π b)/\ce wL.heap.size=m:=
 xu h hs hk hm hm' hrow trivial (λr hr=>by
  cases hr with
  |key he hh=>exact(hfix _ he r).1 hh
  |val he hh=>exact(hfix _ he r).2 hh) λi hi=>hi
theorem fx.ren {H own:Nat->Prop}{π:Nat->Nat}{wL w:World}{d bl n:Nat}{x:DS}(h:fx d bl n x wL)(hl:Link H no own no π wL w)(hd:gp H wL d):gp H wL bl/\fx (π d) (π bl) n x w:=by
 obtain⟨⟨f1,h1⟩,⟨f2,h2⟩,⟨c,t,f3,h3,h4⟩,a,b,c',e⟩:=h;have hb:gp H wL bl:=hl.lw.RY d _ h1 hd.2 bl (.cells (v:= .slice (some ⟨bl,0,Option.none⟩) n n) (by simp[ir]) (.slice rfl));refine⟨hb,⟨f1,?_⟩,⟨f2,?_⟩,⟨c,t,f3,?_,h4⟩,a,b,c',e⟩
 .rw[(hl.wr.ok d _ h1 hd.2 id).2]
  simp[dA,ir,aZ]
 .rw[(hl.wr.ok bl _ h2 hb.2 id).2]
  simp only[dA];rw[cg λv hv=>eQ v λr hr=>absurd hr (Aa hv r)]
 .have:=(hl.wr.ok 0 _ h3 hl.lw.zero.2 id).2
  rw[hl.zero] at this;rw[this];simp only[dA];rw[cg λv hv=>eQ v λr hr=>absurd hr (h4 v hv r)]
theorem DD {a b:iJ}{es:Array MapEntry}{c:Nat}(h:FF a b (.map es c)):∀e∈es,∀r,¬Value.Has r e.key/\¬Value.Has r e.val:=by
 obtain⟨es',c',f,e0,h1,h2⟩:=h;cases e0;intro e he r;obtain⟨s,hs⟩:=iE (h1.keys e (by simpa using he));have hv:=(h1.has s e.val).2 ⟨e,by simpa using he,hs,rfl⟩;rw[h2] at hv;refine⟨λhr=>by(rw[hs] at hr;cases hr),λhr=>?_⟩;unfold comb at hv;split at hv
 .rw[<-Option.some.inj hv] at hr
  cases hr with
  |agg hm hr=>
   simp only[bR,List.mem_toArray,List.mem_cons,List.not_mem_nil,or_false] at hm;rcases hm with rfl|rfl|rfl|rfl|rfl|rfl<;>cases hr
 .cases hv
def aei (x:DS)(n:Nat)(wL:World)(v:Value)(w':World):Prop:=∃es c,v= .map (some wL.heap.size)/\(∃t d,w'=ax {wL with heap:=wL.heap.push (.map es c)} t d)/\
 FF (jR (qm 0 (aP x n)) (qm 2 (aP x n))) (jR (qm 1 (aP x n)) (qm 2 (aP x n))) (.map es c)
theorem y7 (v:Value)(c:Frame)(CS:List Frame):G (Frame.enter PP 88 #[v] .normal) (c::CS)=sT0 v c CS:=by
 unfold sT0 MY;rfl
theorem FO {E:ah.Env}{wL:World}{d bl n:Nat}{x:DS}(hd:fx d bl n x wL):ah.CC E 88 #[.pointer (some ⟨d,0,none⟩)] (aei x n wL) wL:=by
 intro c CS π M tr hp ha hk;obtain⟨Shun,We,w,hz,hl0,ZC,ho,KA⟩:=hp.ex
 let KK:Nat->Prop:=λq=>∃o,E.K q=some o
 have kk:∀q,KK q->q<w.heap.size/\∀l,ll q l->¬Shun l:=λq ⟨o,hq⟩=>⟨(Array.getElem?_eq_some_iff.1 (KA q o hq).2.1).1,(KA q o hq).2.2⟩
 obtain⟨own,hown⟩:∃own:Nat->Prop,own=λb=>We b\/KK b:=⟨_,rfl⟩
 have hl:Link E.H ah.no own ah.no π wL w:=by rw[hown];exact hl0.wider λb hb=> .inl hb
 have hA:Apart Shun own w:=by rw[hown];exact ZC.union KK kk
 have L5:∀q,KK q->own q:=λq hq=>by rw[hown];exact .inr hq
 have hvd:gp E.H wL d:=ha (.pointer (some ⟨d,0,none⟩)) (by simp) d (.ptr rfl);obtain⟨hvb,Tj⟩:=hd.ren hl hvd;have NO:(#[Value.pointer (some ⟨d,0,none⟩)]:Array Value).map (Value.ren π)=#[pb (π d)]:=by simp[aZ,pb]
 rw[NO,y7] at hz;have rdo:∀b,u9 (π d) (π bl) b->own b:=λb hb=>by
  rcases hb with rfl|rfl|rfl
  .have:=hl.own 0 hl.lw.zero id;rwa [hl.zero] at this
  .exact hl.own d hvd id
  .exact hl.own bl hvb id
 obtain⟨N1,M1,t1,g1,w1,r1,hz1,⟨s,⟨⟨rfl,rfl,hL⟩,_,u1⟩,hA1⟩,o1,nr1⟩:=kW hz (vL (oP (λ_=>False) Jm λ_ h=>h.elim) hA);have yQ:∀b,own b->b<w.heap.size:=hA.lt;have aay:∀b,own b->w1.heap[b]? =w.heap[b]? :=λb hb=>hL.old b (yQ b hb)
 have hR2:fx (π d) (π bl) n x w1:=by
  have k:∀b o,u9 (π d) (π bl) b->w.heap[b]? =some o->w1.heap[b]? =some o:=λb o hb hbo=>by rw[aay b (rdo b hb)];exact hbo
  obtain⟨⟨f1,h1⟩,⟨f2,h2⟩,⟨c,t,f3,h3,h4⟩,a,b,c',e⟩:=Tj;exact⟨⟨f1,k _ _ (.inr (.inl rfl)) h1⟩,⟨f2,k _ _ (.inr (.inr rfl)) h2⟩,⟨c,t,f3,k _ _ (.inl rfl) h3,h4⟩,a,b,c',e⟩
 let X:Cx iJ:={Fd:=w.heap.size+2,M:=w.heap.size+1,Wg:=w.heap.size+3,tF:=KB,tW:=TWg,Dat:=FF,fin:=λr=>match r with|.b=>jR (qm 1 (aP x n)) (qm 2 (aP x n))|_=>jR (qm 0 (aP x n)) (qm 2 (aP x n)),c0:=λ_ _=>none,N:=λ_=>108}
 let γ:Gh iJ:=⟨u9 (π d) (π bl),λb=>(own b\/b=w.heap.size)/\¬u9 (π d) (π bl) b,λ_=>none,λ_=>none⟩
 have ol:∀b,γ.own b\/γ.ro b->own b\/b=w.heap.size:=λb hb=>hb.elim (·.1) λh=> .inl (rdo b h)
 have ol1:∀b,γ.own b\/γ.ro b->b<w.heap.size+1:=λb hb=>(ol b hb).elim (λh=>by have:=yQ b h;omega) λh=>by omega
 have hsh:ShAt X w1 ⟨0,0,0,0⟩:=⟨hL.fd,hL.wg⟩
 have ahB:Reads X (u9 (π d) (π bl)) (fx (π d) (π bl) n x) (pb (π d)) (qm 0 (aP x n)) (qm 1 (aP x n)) (qm 2 (aP x n)) 54:=
  ⟨λro own w w' hro h hr=>h.keep hro hr,λro hro=>pN hro .a 0,λro hro=>pN hro .a 2,λro hro=>pN hro .b 1,λro hro=>pN hro .b 2,rfl,rfl,λ_=>rfl,λ_=>Nat.le_refl _⟩
 have hB:Base X γ w1:=⟨rfl,⟨by show w.heap.size+2≠w.heap.size+3;omega,λb hb=>by
   have:=ol1 b hb;exact⟨by show b≠w.heap.size+2;omega,by show b≠w.heap.size+3;omega⟩⟩,λhb=>by have:=ol1 _ (.inl hb);simp[X] at this,λhb=>by have:=ol1 _ (.inr hb);simp[X] at this,by show w.heap.size+1≠w.heap.size+2;omega,by show w.heap.size+1≠w.heap.size+3;omega,λb hb=>by
   have:=ol1 b hb;have:=hL.size;omega,by show w.heap.size+1<_;have:=hL.size;omega,⟨_,hsh⟩⟩
 have abT:∀a:Addr,w.heap.size<=a.block->NoRelease a t1:=λa hlow i hi=>by
  obtain⟨op,hop,e⟩:=Option.map_eq_some_iff.1 hi;rcases nr1 op (mem_of_getElem? hop) with h|h
  .have:=hz.past.seen op h
   rw[e] at this;have:a.block<w.heap.size:=this;omega
  .exact h a e
 have s1:w1.heap.size=w.heap.size+4:=hL.size;obtain⟨n0,μ,hI⟩:=Jr (X:=X) (γ:=γ) (Post:=va X (u9 (π d) (π bl)) γ.own w1 w.heap.size (pb (π d)) c CS) hz1 hA1 (by show w.heap.size+2≠w.heap.size+3;omega) (by show w.heap.size+2≠w.heap.size+1;omega) (by show w.heap.size+1≠w.heap.size+3;omega)
  (.inr ⟨by show w.heap.size<=w.heap.size+2;omega,by show w.heap.size+2<_;omega⟩) (.inr ⟨by show w.heap.size<=w.heap.size+3;omega,by show w.heap.size+3<_;omega⟩) (.inr ⟨by show w.heap.size<=w.heap.size+1;omega,by show w.heap.size+1<_;omega⟩)
  (λb hb=>by
   have h1:=ol b hb;have h2:=ol1 b hb;exact⟨h1.imp id λe=>⟨by omega,by omega⟩,by show b≠w.heap.size+2;omega,by show b≠w.heap.size+3;omega,by show b≠w.heap.size+1;omega⟩)
  (λb hb=>hb.2) hsh hL.map ⟨#[],0,λ_=>none,rfl,.empty 0,λ_=>rfl⟩ (abT _ (by show w.heap.size<=w.heap.size+2;omega)) (abT _ (by show w.heap.size<=w.heap.size+3;omega)) rfl
  (λk=>Ai ahB hB (λb hb=>hb) (λb hb=>hb) hR2 (.refl X _ _ w1) ⟨.inr rfl,λhb=>by have:=yQ _ (rdo _ hb);omega⟩ (by show w1.cell? ⟨w.heap.size,0,none⟩=_;simp[World.cell?,hL.box,pb]))
 obtain⟨N2,gs2,w2,sl2,t2,r2,hJ⟩:=In μ M1 t1 hI;obtain⟨g2,γ2,hz2,hP⟩:=hJ.zero (sl:=sl2);have hrx:=hP.2.2;obtain⟨s2,hs2⟩:=hrx.live ⟨_,hsh⟩;obtain⟨o,xE,hoD⟩:=hP.2.1;obtain⟨es,cl,f,rfl,hM1,hM2⟩:=hoD;have nS:∀b,own b\/(w.heap.size<=b/\b<w.heap.size+4)->¬Ga Shun b:=λb hb ⟨l,h1,h2⟩=>hA1.off b hb l h2 h1
 obtain⟨N3,M3,t3,g3,w3,r3,hz3,⟨rfl,hw3,u3⟩,o3,_⟩:=kW hz2 (JN hP hs2 (by show w.heap.size+2≠w.heap.size+3;omega) (nS _ (.inr ⟨by show w.heap.size<=w.heap.size+2;omega,by show w.heap.size+2<_;omega⟩)));have s2':w1.heap.size<=w2.heap.size:=hrx.size
 have dF:FF (jR (qm 0 (aP x n)) (qm 2 (aP x n))) (jR (qm 1 (aP x n)) (qm 2 (aP x n))) (.map es cl):=⟨es,cl,f,rfl,hM1,hM2⟩
 have Tc:∀b,own b->w3.heap[b]? =w.heap[b]? :=(λb hb=>by
   rw[hw3,hrx.keep b (by have:=yQ b hb;omega) (by
    by_cases hr:u9 (π d) (π bl) b
    .exact .inr hr
    .exact .inl ⟨.inl hb,hr⟩)]
   exact aay b hb)
 obtain⟨ce,hl',ag,em⟩:=Jk (m:=w.heap.size+1) hl (w':=w3) (by rw[hw3];omega) Tc (by omega) (by rw[hw3];omega) (by rw[hw3];exact xE) (DD dF);have fin:=hk (.map (some wL.heap.size)) {wL with heap:=wL.heap.push (.map es cl)} ce M3 t3 ⟨wL.tape,wL.drawn,es,cl,rfl,⟨wL.tape,wL.drawn,rfl⟩,dF⟩ ?_ ?_ ag (by simp)
 .exact E.back _ _ _ _ _ r1 (E.back _ _ _ _ _ r2 (E.back _ _ _ _ _ r3 fin))
 .have Fc:∀b,gp E.H {wL with heap:=wL.heap.push (.map es cl)} b->¬KK (ce b):=λb hb hq=>by
   have hb1:b<wL.heap.size+1:=by have:=hb.1;simpa using this
   have hlt:=(kk _ hq).1
   by_cases hlt2:b<wL.heap.size
   .rw[ag b hlt2] at hq
    obtain⟨o',hq⟩:=hq;exact(KA _ o' hq).1 (hl0.own b ⟨hlt2,hb.2⟩ id)
   .have:b=wL.heap.size:=by omega
    rw[this,em] at hlt;omega
  have hAp:Apart (yC X (Ga Shun)) (λb=>own b\/b=w.heap.size+1) w3:=by
   refine⟨λb hb l hlb hS=>?_,λb hb=>?_,λl b hS hlb=>?_,λl hS=>?_⟩
   .obtain⟨a,rfl,ha⟩:=hS
    have eb:=kX hlb;have hb':own b\/(w.heap.size<=b/\b<w.heap.size+4):=hb.imp id λe=>⟨by omega,by omega⟩
    have lt1:b<=w.heap.size+1:=hb.elim (λh=>by have:=yQ b h;omega) λe=>by omega
    rcases ha with ha|ha|ha
    .rw[eb] at ha;exact nS b hb' ha
    .have:a.block=w.heap.size+3:=ha;omega
    .have:a.block=w.heap.size+2:=ha.1;omega
   .rw[hw3]
    rcases hb with hb|hb
    .have:=yQ b hb;omega
    .omega
   .obtain⟨a,rfl,ha⟩:=hS
    have eb:=kX hlb;rw[hw3];rcases ha with ha|ha|ha
    .obtain⟨l',h1,h2⟩:=ha
     have:=hA.low l' _ h1 h2;omega
    .have:a.block=w.heap.size+3:=ha;omega
    .have:a.block=w.heap.size+2:=ha.1;omega
   .obtain⟨a,rfl,_⟩:=hS
    exact⟨a,rfl⟩
  refine⟨yC X (Ga Shun),_,w3,?_,hl'.less KK Fc,hAp.part λb hb=>hb.1,?_,λq o hq=>⟨λhb=>hb.2 ⟨o,hq⟩,(Tc q (L5 q ⟨o,hq⟩)).trans (KA q o hq).2.1,λl hl=>hAp.off q (.inl (L5 q ⟨o,hq⟩)) l hl⟩⟩
  .have e:Value.ren ce (.map (some wL.heap.size))= .map (some (w.heap.size+1)):=by simp[em]
   rw[e];exact hz3
  .refine⟨?_,u3.trans (hrx.output.trans (u1.trans ho.2))⟩
   rw[o3];have h1:OsLater E.os w1.os:=by rw[o1];exact ho.1
   exact h1.trans hrx.os
 .intro r hr
  cases hr;exact⟨by show wL.heap.size<(wL.heap.push _).size;simp,λhh=>by have:=hl.lw.low _ (.inl hh);omega⟩
end aF
end
section
open Go.Conc
open Go.ConcM (OsLater)
namespace aF
section
variable {P:Program}{main:Bool}{b:Frame}{a:Act}{k:List Item}{cs:List Frame}{w w':World}{l:Nat}{mark:List Deferred}
theorem vG {w:World}{l:Nat}{r:Loop}(h:w.heap[l]? =some (.loop r)):RT (Instr.getLoop l) w r w #[⟨.obj l,false,false⟩]:=RT.eD (x:= .loop r) (fX h) (.pure _)
theorem LB {w:World}{l:Nat}{r:Loop}(h:w.heap[l]? =some (.loop r))(hr:r.state= .ready):RT (Instr.beginRound l) w () {w with heap:=w.heap.setIfInBounds l (.loop {r with state:= .busy})} #[⟨.obj l,false,false⟩,⟨.obj l,true,false⟩]:=by
 refine RT.bind (x:=r) (e1:=#[⟨.obj l,false,false⟩]) (e2:=#[⟨.obj l,true,false⟩]) (vG h) ?_;refine RT.eD (x:=()) (jp h) ?_;rw[hr];exact .pure _
theorem PX {w:World}{l:Nat}{r:Loop}(h:w.heap[l]? =some (.loop r)):RT (Instr.endRound l none) w (.bool true) {w with heap:=w.heap.setIfInBounds l (.loop {r with state:= .ready,pending:=none})} #[⟨.obj l,false,false⟩,⟨.obj l,true,false⟩]:=by
 refine RT.bind (x:=r) (e1:=#[⟨.obj l,false,false⟩]) (e2:=#[⟨.obj l,true,false⟩]) (vG h) ?_;exact RT.eD (x:=()) (jp h) (.pure _)
theorem PY {w:World}{l:Nat}{r:Loop}(h:w.heap[l]? =some (.loop r))(hr:r.state= .ready):RT (Instr.endLoop l) w r.pending {w with heap:=w.heap.setIfInBounds l (.loop {r with state:= .exhausted})} #[⟨.obj l,false,false⟩,⟨.obj l,true,false⟩]:=by
 refine RT.bind (x:=r) (e1:=#[⟨.obj l,false,false⟩]) (e2:=#[⟨.obj l,true,false⟩]) (vG h) ?_;have hb:(r.state==LoopState.busy)=false:=by rw[hr];rfl
 rw[hb];exact RT.eD (x:=()) (jp h) (.pure _)
theorem PV {w:World}{D:Nat}(h:w.heap[D]? =some (.deferred (some []))):RT (Instr.takeDeferred D) w [] {w with heap:=w.heap.setIfInBounds D (.deferred none)} #[⟨.obj D,false,false⟩,⟨.obj D,true,false⟩]:=by
 refine RT.bind (x:= .deferred (some [])) (e1:=#[⟨.obj D,false,false⟩]) (e2:=#[⟨.obj D,true,false⟩]) (fX h) ?_;exact RT.eD (x:=()) (jp h) (.pure _)
theorem Lz {w:World}{l:Nat}{r:Loop}{args:Array Value}(h:w.heap[l]? =some (.loop r))(hs:args.size=r.params.size):
  RT (Instr.yield l args) w (.round l r.fn ((r.params.zip args).foldl (λtmps (t,a)=>tmps.setIfInBounds t a) r.tmps) r.assign r.body) w #[⟨.obj l,false,false⟩]:=by
 refine RT.eD (x:=r) (vG h) ?_;rw[if_neg (by simpa using hs)];exact .pure _
theorem AG (fn:FuncId)(tmps:Array Value)(ps:Array Tmp)(assign body:Code):
  RT (Instr.enterLoop fn tmps ps assign body none) w (w.heap.size+1,[{target:= .collected w.heap.size,args:=#[]}])
   {w with heap:=(w.heap.push (.deferred (some []))).push (.loop {state:= .ready,pending:=none,fn,tmps,params:=ps,assign,body,defers:=w.heap.size})} #[]:=by
 have h2:=oz (w:={w with heap:=w.heap.push (.deferred (some []))}) (.loop {state:= .ready,pending:=none,fn,tmps,params:=ps,assign,body,defers:=w.heap.size});have e:(w.heap.push (.deferred (some []))).size=w.heap.size+1:=by simp
 rw[e] at h2;exact RT.aN (x:=w.heap.size) (oz _) (RT.aN (x:=(w.heap.size,[({target:= .collected w.heap.size,args:=#[]}:Deferred)])) (.pure _) (RT.aN h2 (.pure _)))
theorem vM:(CallKind.normal==CallKind.early)=false:=rfl
theorem ifT {α:Type}(a b:α):(if(true=true) then a else b)=a:=if_pos rfl
section
variable {fr:Frame}{s:Sem Next}{ev:Array Event}{listen:Bool}
theorem D5 {f:FuncId}{args:Array Value}(h:RT s w (.enter f args) w' ev)(hk:fr.kind= .normal)(ht:∀d r x k,fr.todo≠.call d true r x::k):
  stepG.apply PP true fr cs none s w= .go (G (Frame.enter PP f args .normal) (fr::cs)) w' (seen PP fr.fn ev):=by
 have h1:=h #[];rw[Array.empty_append] at h1;unfold stepG.apply;simp only[ifT,h1,hk,vM];have:(match fr.todo with|.call _ true _ _::_=>CallKind.wrapped|_=> .normal)= .normal:=by
  split
  .exact absurd (by assumption) (ht _ _ _ _)
  .rfl
 simp[GStep.after,G]
theorem pi {v:Value}(h:RT s w (.value v) w' ev)(hk:fr.kind= .normal):stepG.apply PP true fr cs none s w= .go (G (fr.finish v) cs) w' (seen PP fr.fn ev):=by
 have h1:=h #[];rw[Array.empty_append] at h1;unfold stepG.apply;simp only[ifT,h1,hk,vM];simp[GStep.after,G]
theorem yp (h:RT s w .skip w' ev)(hk:fr.kind= .normal):stepG.apply PP true fr cs none s w= .go (G (fr.finish undef) cs) w' (seen PP fr.fn ev):=by
 have h1:=h #[];rw[Array.empty_append] at h1;unfold stepG.apply;simp only[ifT,h1,hk,vM];simp[GStep.after,G]
theorem D4 {f:FuncId}{tm:Array Value}{vT body:Code}(h:RT s w (.round l f tm vT body) w' ev)(hk:fr.kind= .normal):stepG.apply PP true fr cs none s w= .go (G (Frame.round l f tm vT body .normal) (fr::cs)) w' (seen PP fr.fn ev):=by
 have h1:=h #[];rw[Array.empty_append] at h1;unfold stepG.apply;simp only[ifT,h1,hk,vM];simp[GStep.after,G]
end
theorem yI {g:Operand}{ps:Array Tmp}{vT body:Code}{gf:Nat}{lb:Array Value}{fn:Func}(hg:a.eval g= .func (.func gf) #[] lb)(hf:PP.funcs[gf]? =some fn)(hb:fn.body.isNone=false)(hn:(fn.name== "runtime.NumGoroutine")=false)(hk:b.kind= .normal)
  (h:RT (Instr.enterLoop b.fn a.tmps ps vT body none) w (l,mark) w' #[]):
  stepG PP main (G (b.at a (.code (.rangeFunc g ps vT body)::k)) cs) w= .go (G (Frame.enter PP gf (#[.func (.yield l) #[] #[]]++lb) .normal) (b.at {a with defers:=mark++a.defers} (.inRangeFunc l::k)::cs)) w' #[]:=by
 have h1:=h #[];have hev:Frame.eval {fn:=b.fn,tmps:=a.tmps,todo:= .inRangeFunc l::k,defers:=mark++a.defers,mode:= .run,kind:=b.kind} g= .func (.func gf) #[] lb:=by
  rw[<-hg];cases g<;>rfl
 have h2:RT (callFunc gf (#[.func (.yield l) #[] #[]]++lb)) w' (.enter gf (#[.func (.yield l) #[] #[]]++lb)) w' #[]:=by
  refine fL.aN ?_;rw[hf];simp only[hn,hb];exact .pure _
 have h3:RT (do let d <-resolve (Frame.eval {fn:=b.fn,tmps:=a.tmps,todo:= .inRangeFunc l::k,defers:=mark++a.defers,mode:= .run,kind:=b.kind}) {callee:= .value g,args:=#[.const (.func (.yield l) #[] #[])],argTypes:=#[]} 0;invoke d.target d.args) w' (.enter gf (#[.func (.yield l) #[] #[]]++lb)) w' #[]:=by
  refine RT.aN (x:={target:= .fn (.func gf) lb,args:=#[.func (.yield l) #[] #[]]}) ?_ (show RT (invoke (.fn (.func gf) lb) #[.func (.yield l) #[] #[]]) _ _ _ _ from h2);unfold resolve;simp only[List.map_toArray,List.map_cons,List.map_nil,hev];exact .pure _
 rw[Array.append_empty] at h1;unfold stepG stepG.exec;simp only[G,Frame.at];rw[h1];dsimp only;have h5:=D5 (cs:=cs) (fr:={fn:=b.fn,tmps:=a.tmps,todo:= .inRangeFunc l::k,defers:=mark++a.defers,mode:= .run,kind:=b.kind}) h3 hk (by simp);rw[h5];simp[seen_none,GStep.after,G]
section
variable {fr:Frame}{ev:Array Event}{c:Frame}
theorem stepG_op {ops:Array Oper}{i:Nat}{rest:List Nat}{o:Oper}(hm:fr.mode= .run)(ht:fr.todo= .inRegion ops (i::rest)::k)(ho:ops[i]? =some o)(hw:Region.wanted o (yielded ops fr.tmps)=true)(hnd:∀c,o.op≠.defer c):
  stepG PP main (G fr cs) w=stepG.apply PP true fr cs none (execOp fr.eval o) w:=by
 have h1:fr.oper? =some o:=by simp[Frame.oper?,ht,ho]
 unfold stepG stepG.exec;simp only[G,hm,ht,ho,Option.map_some,hw,Option.getD_some,if_true];unfold stepG.oper;rw[h1];dsimp only;split
 .exact absurd (by assumption) (hnd _)
 .rfl
theorem BX (hm:fr.mode= .run)(ht:fr.todo= .beginRound::k)(hr:fr.roundOf=some l)(hk:fr.kind= .normal)(h:RT (Instr.beginRound l) w () w' ev):
  stepG PP main (G fr cs) w= .go (G (fr.finish undef) cs) w' (seen PP fr.fn ev):=by
 unfold stepG stepG.exec;simp only[G,hm,ht,hr,Option.elim_some];exact yp (RT.eD h (.pure _)) hk
theorem Es (hm:fr.mode= .run)(ht:fr.todo=[])(hr:fr.roundOf=some l)(hk:fr.kind= .normal)(h:RT (Instr.endRound l none) w (.bool true) w' ev):
  stepG PP main (G fr (c::cs)) w= .go (G (c.finish (.bool true)) cs) w' (seen PP fr.fn ev):=by
 have h1:=h #[];rw[Array.empty_append] at h1;unfold stepG stepG.exec;simp only[G,hm,ht,hr,h1,doReturn,hk,GStep.after];simp
theorem Et (hm:fr.mode= .run)(ht:fr.todo= .endRangeFunc l::k)(h:RT (Instr.endLoop l) w none w' ev):
  stepG PP main (G fr cs) w= .go (G {fr with todo:=k} cs) w' (seen PP fr.fn ev):=by
 have h1:=h #[];rw[Array.empty_append] at h1;unfold stepG stepG.exec;simp only[G,hm,ht,h1,GStep.after];simp
theorem Er {D:Nat}{ar:Array Value}{ds calls:List Deferred}(hm:fr.mode= .returning)(hd:fr.defers={target:= .collected D,args:=ar}::ds)(h:RT (Instr.takeDeferred D) w calls w' ev):
  stepG PP main (G fr cs) w= .go (G {fr with defers:=calls++ds} cs) w' (seen PP fr.fn ev):=by
 have h1:=h #[];rw[Array.empty_append] at h1;unfold stepG unwind;simp only[G,hm,hd,h1,GStep.after];simp
end
end
abbrev jT:TypeId:=9
abbrev lQ:TypeId:=45
theorem BM:PP.underlying lQ=some (.slice jT):=by kernel_rfl
theorem A3:(PP.info? jT).map (·.size)=some 1:=by kernel_rfl
theorem Gf:(PP.info? jT).bind (·.zero)=some (.string ⟨#[]⟩):=by kernel_rfl
def GV:TypeInfo:=(PP.info? jT).getD default
theorem xB:PP.info? jT=some GV:=by kernel_rfl
theorem uF:GV.bytes=16:=by kernel_rfl
section
variable {w:World}{k:ByteArray}
theorem CA:RT (Instr.buildSlice lQ 1 #[(0,.string k)]) w (.slice (some ⟨w.heap.size,0,none⟩) 1 1) {w with heap:=w.heap.push (.cells #[.string k] jT (0,0))} #[]:=by
 unfold Instr.buildSlice;refine(fJ BM).aN ?_;dsimp only;refine(pp A3).aN ?_;simp only[Nat.reduceMul,Nat.reducePow,Nat.reduceGT,if_false,Nat.reduceEqDiff,Nat.one_ne_zero];refine(vF Gf).aN (RT.aN (x:=#[.string ⟨#[]⟩]) (.pure _) ?_)
 have h3:Instr.fill (λi=>some (i*1,1)) ((Array.range 1).map (λx=>(#[(.string ⟨#[]⟩:Value)]:Array Value)[x%(#[(.string ⟨#[]⟩:Value)]:Array Value).size]!)) [(0,.string k)]=some #[.string k]:=by
  have e:(Array.map (λx=>(#[(.string ⟨#[]⟩:Value)]:Array Value)[x%(#[(.string ⟨#[]⟩:Value)]:Array Value).size]!) (Array.range 1))=#[.string ⟨#[]⟩]:=by
   rw[show Array.range 1=#[0] from Array.ext (by simp) λi h1 h2=>by simp at h1;subst h1;simp];simp
  rw[e];simp[Instr.fill,Value.cells]
 rw[h3];exact RT.aN (x:=⟨w.heap.size,0,none⟩) (RT.aN (oz _) (.pure _)) (.pure _)
def Strs (w:World)(own:Nat->Prop)(v:Value)(ks:List ByteArray):Prop:=
 (v= .slice none 0 0/\ks=[])\/∃sk cap,v= .slice (some ⟨sk,0,none⟩) ks.length cap/\own sk/\ks.length<=cap/\w.heap[sk]? =some (.cells (ks.map Value.string++List.replicate (cap-ks.length) (Value.string ⟨#[]⟩)).toArray jT (0,0))
structure App (own:Nat->Prop)(ks:List ByteArray)(w:World)(v:Value)(w':World)(ev:Array Event):Prop where
 tape:w'.tape=w.tape
 output:w'.output=w.output
 os:w'.os=w.os
 size:w.heap.size<=w'.heap.size
 keep:∀b,b<w.heap.size->¬own b->w'.heap[b]? =w.heap[b]?
 strs:Strs w' (λb=>own b\/(w.heap.size<=b/\b<w'.heap.size)) v ks
 ev:∀e∈ev,(∃b,own b/\EvB b e)\/∃m,e.loc= .mark m/\oN m
theorem EE (cs:Array Value)(v:Value)(i:Nat):kO cs [v] i=cs.setIfInBounds i v:=rfl
theorem uk {b:Nat}{f:Nat×Nat}(h:w.heap[b]? =some (.cells #[.string k] jT f)):∃ev,RT (Builtin.firstCells 1 1 (.slice (some ⟨b,0,none⟩) 1 1)) w #[.string k] w ev/\∀e∈ev,EvB b e:=by
 obtain⟨ev,h1,h2⟩:=ko h 0 1 0 #[] (by simp);refine⟨ev,?_,λe he=>?_⟩
 .have e1:(#[]:Array Value)++(#[Value.string k]:Array Value).extract (0+0) (0+0+1)=#[.string k]:=by simp
  rw[e1] at h1;exact h1
 .obtain⟨a,rfl,ha⟩:=h2 e he
  exact i6 ha
theorem Cz {b n cap:Nat}{cs:Array Value}{f:Nat×Nat}(h:w.heap[b]? =some (.cells cs jT f))(hn:n<=cs.size):∃ev,RT (Builtin.firstCells 1 n (.slice (some ⟨b,0,none⟩) n cap)) w (cs.extract 0 n) w ev/\∀e∈ev,EvB b e:=by
 obtain⟨ev,h1,h2⟩:=ko h 0 n 0 #[] (by omega);refine⟨ev,?_,λe he=>?_⟩
 .have e1:(#[]:Array Value)++cs.extract (0+0) (0+0+n)=cs.extract 0 n:=by simp
  rw[e1] at h1;show RT (loadCells ⟨b,0,none⟩ (n*1)) _ _ _ _;rw[Nat.mul_one];exact h1
 .obtain⟨a,rfl,ha⟩:=h2 e he
  exact i6 ha
theorem GB {a:Option Addr}{n c:Nat}:RT (Builtin.lenOf (.slice a n c)) w n w #[]:= .pure _
theorem Kp {base:Option Addr}{n cap xb:Nat}{ty:TypeId}{sv:Value}{w':World}{ev:Array Event}(hc:n+1<=cap)
  (h:RT (do
    let new <-Builtin.firstCells 1 1 (.slice (some ⟨xb,0,none⟩) 1 1)
    if let some a:=base then storeCells (a.add (n*1)) new.toList
    pure (.slice base (n+1) cap)) w sv w' ev):
  RT (Builtin.append_ #[lQ,lQ] ty #[.slice base n cap,.slice (some ⟨xb,0,none⟩) 1 1]) w sv w' ev:=by
 unfold Builtin.append_;show RT (underlying lQ>>=_) _ _ _ _;refine(fJ BM).aN ?_;dsimp only;refine(pp A3).aN ?_;show RT (underlying lQ>>=_) _ _ _ _;refine(fJ BM).aN ?_;refine RT.aN (x:=false) (.pure _) ?_;simp only[Bool.false_eq_true,if_false,Bool.not_false,if_true];refine GB.aN ?_;rw[if_pos hc];exact h
theorem FY {base:Option Addr}{n cap xb:Nat}{ty:TypeId}{sv:Value}{w':World}{ev:Array Event}(hc:¬n+1<=cap)(hl:n<2^40)(hcap:cap<=n)
  (h:RT (do
    let newCap <-choose (.appendCap (n+1) cap jT)
    askRoom (newCap*(<-typeInfo jT).bytes)
    let old <-Builtin.firstCells 1 n (.slice base n cap)
    let new <-Builtin.firstCells 1 1 (.slice (some ⟨xb,0,none⟩) 1 1)
    let rest:=Builtin.zeroCells (<-zeroValue jT).cells (newCap-(n+1))
    pure (.slice (some (<-newRow jT (old++new++rest))) (n+1) newCap)) w sv w' ev):
  RT (Builtin.append_ #[lQ,lQ] ty #[.slice base n cap,.slice (some ⟨xb,0,none⟩) 1 1]) w sv w' ev:=by
 unfold Builtin.append_;show RT (underlying lQ>>=_) _ _ _ _;refine(fJ BM).aN ?_;dsimp only;refine(pp A3).aN ?_;show RT (underlying lQ>>=_) _ _ _ _;refine(fJ BM).aN ?_;refine RT.aN (x:=false) (.pure _) ?_;simp only[Bool.false_eq_true,if_false,Bool.not_false,if_true,false_or];refine GB.aN ?_;rw[if_neg hc];refine(rN xB).aN ?_
 have hcap2:Builtin.nextslicecap (n+1) cap*GV.bytes<=2^48:=by
  rw[uF];unfold Builtin.nextslicecap;have g:∀(r c:Nat),c<=2^41->Builtin.growBy (n+1) r c<=2^42:=by
   intro r
   induction r with
   |zero=>intro c hc';unfold Builtin.growBy;omega
   |succ r ih=>
    intro c hc';unfold Builtin.growBy;split
    .omega
    .refine ih _ ?_;omega
  split
  .omega
  .split
   .omega
   .have:=g 4 cap (by omega);omega
 rw[if_neg (by rw[uF];omega)];refine(rN xB).aN ?_;rw[if_neg (by omega)];exact h
theorem set_mid {α:Type}(A:List α)(b c:α)(B:List α):(A++b::B).set A.length c=A++c::B:=by
 induction A with
 |nil=>rfl
 |cons x A ih=>simp[ih]
theorem yE (m:Nat):Builtin.zeroCells #[.string ⟨#[]⟩] m=Array.replicate m (Value.string ⟨#[]⟩):=by
 unfold Builtin.zeroCells
 apply Array.ext
 .simp
 .intro i h1 h2
  simp[Nat.mod_one]
theorem IR {own:Nat->Prop}{s:Value}{ks:List ByteArray}{xb:Nat}{f:Nat×Nat}(ty:TypeId)(hs:Strs w own s ks)(hx:w.heap[xb]? =some (.cells #[.string k] jT f))(ox:own xb)(hl:ks.length<2^40):
  ∃v w' ev,RT (Builtin.append_ #[lQ,lQ] ty #[s,.slice (some ⟨xb,0,none⟩) 1 1]) w v w' ev/\App own (ks++[k]) w v w' ev:=by
 have grow:∀{base:Option Addr} {cap:Nat} {ZN:Array Event},¬ks.length+1<=cap->cap<=ks.length->(∀w1,w1.heap=w.heap->∃ZN,RT (Builtin.firstCells 1 ks.length (.slice base ks.length cap)) w1 (ks.map Value.string).toArray w1 ZN/\∀e∈ZN,∃b,own b/\EvB b e)->
   ∃v w' ev,RT (Builtin.append_ #[lQ,lQ] ty #[.slice base ks.length cap,.slice (some ⟨xb,0,none⟩) 1 1]) w v w' ev/\App own (ks++[k]) w v w' ev:=by
  intro base cap ZN hc hcap hold;obtain⟨c0,w1,hch,t1,o1,s1,h1,hcut⟩:=pr (w:=w) (q:= .appendCap (ks.length+1) cap jT);have acR:ks.length+1<=c0:=by
   rcases hcut with⟨hf,_⟩|⟨x,rfl⟩
   .simp[Question.forced] at hf
   .simp[Question.cut]
  obtain⟨ev1,r1,e1⟩:=hold w1 h1;obtain⟨ev2,r2,e2⟩:=uk (w:=w1) (by rw[h1];exact hx);have room:∃ev,RT (askRoom (c0*GV.bytes)) w1 () w1 ev/\∀e∈ev,∃m,e.loc= .mark m/\oN m:=by
   unfold askRoom;split
   .exact⟨#[⟨.mark .noRoom,false,true⟩],λes=>by show(Result.ok () w1,es.push _)=_;simp,λe he=>by simp at he;subst he;exact⟨_,rfl,trivial⟩⟩
   .exact⟨#[],.pure _,by simp⟩
  obtain⟨ev3,r3,e3⟩:=room;have hrow:=oz (w:=w1) (.cells ((ks.map Value.string).toArray++#[.string k]++Array.replicate (c0-(ks.length+1)) (Value.string ⟨#[]⟩)) jT (0,0))
  refine⟨.slice (some ⟨w1.heap.size,0,none⟩) (ks.length+1) c0,{w1 with heap:=w1.heap.push (.cells ((ks.map Value.string).toArray++#[.string k]++Array.replicate (c0-(ks.length+1)) (Value.string ⟨#[]⟩)) jT (0,0))},ev3++(ev1++ev2),FY hc hl hcap ?_,?_⟩
  .refine hch.aN ((rN xB).aN (r3.bind (r1.bind ?_)))
   refine RT.eD (x:=#[.string k]) r2 ?_;refine(vF Gf).aN ?_;show RT (newRow jT ((ks.map Value.string).toArray++#[.string k]++Builtin.zeroCells #[.string ⟨#[]⟩] (c0-(ks.length+1)))>>=_) _ _ _ _;rw[yE];exact RT.aN (x:=⟨w1.heap.size,0,none⟩) (RT.aN hrow (.pure _)) (.pure _)
  .refine⟨t1,o1,s1,by show w.heap.size<=(w1.heap.push _).size;rw[h1];simp,λb hb _=>by show(w1.heap.push _)[b]? =_;rw[h1,Array.getElem?_push_lt hb];exact(Array.getElem?_eq_getElem hb).symm,.inr ⟨w1.heap.size,c0,by simp,.inr ⟨by rw[h1];exact Nat.le_refl _,by show _<(w1.heap.push _).size;simp⟩,by simpa using acR,?_⟩,λe he=>?_⟩
   .show(w1.heap.push _)[w1.heap.size]? =_
    simp
   .rcases Array.mem_append.1 he with he|he
    .exact .inr (e3 e he)
    .rcases Array.mem_append.1 he with he|he
     .exact .inl (e1 e he)
     .exact .inl ⟨xb,ox,e2 e he⟩
 rcases hs with⟨rfl,rfl⟩|⟨sk,cap,rfl,osk,hle,hsk⟩
 .exact grow (base:=none) (cap:=0) (ZN:=#[]) (by simp) (by simp) λw1 _=>⟨#[],.pure _,by simp⟩
 .by_cases hc:ks.length+1<=cap
  .obtain⟨ev2,r2,e2⟩:=uk hx
   obtain⟨w',ev,r3,u,e3⟩:=lX (ks.length*1) [.string k] 0 hsk (by simp;omega) (by simp[lk]);refine⟨.slice (some ⟨sk,0,none⟩) (ks.length+1) cap,w',ev2++ev,Kp hc (r2.bind ?_),?_⟩
   .show RT (storeCells (Addr.add ⟨sk,0,none⟩ (ks.length*1)) [.string k]>>=_) _ _ _ _
    rw[yu,Nat.zero_add];exact RT.eD (x:=()) r3 (.pure _)
   .refine⟨u.tape,u.output,u.os,by rw[u.size];exact Nat.le_refl _,λb _ hb=>u.rest b λe=>hb (e▸osk),.inr ⟨sk,cap,by simp,.inl osk,by simpa using hc,?_⟩,λe he=>?_⟩
    .rw[u.at_,EE]
     congr 2
     apply Array.ext'
     simp only[Nat.mul_one,Nat.add_zero,List.setIfInBounds_toArray];obtain⟨m,hm⟩:∃m,cap-ks.length=m+1:=⟨cap-ks.length-1,by omega⟩
     have hm2:cap-(ks++[k]).length=m:=by simp;omega
     rw[hm,hm2,List.replicate_succ];have:=set_mid (ks.map Value.string) (Value.string ⟨#[]⟩) (Value.string k) (List.replicate m (Value.string ⟨#[]⟩));rw[List.length_map] at this;rw[this];simp
    .rcases Array.mem_append.1 he with he|he
     .exact .inl ⟨xb,ox,e2 e he⟩
     .obtain⟨a,rfl,ha⟩:=e3 e he
      exact .inl ⟨sk,osk,i6 ha⟩
  .have hcap:cap=ks.length:=by omega
   refine grow (base:=some ⟨sk,0,none⟩) (cap:=cap) (ZN:=#[]) hc (by omega) λw1 hw1=>?_
   obtain⟨ev,r,e⟩:=Cz (w:=w1) (n:=ks.length) (cap:=cap) (by rw[hw1];exact hsk) (by simp);refine⟨ev,?_,λx hx=>⟨sk,osk,e x hx⟩⟩;have:((ks.map Value.string++List.replicate (cap-ks.length) (Value.string ⟨#[]⟩)).toArray).extract 0 ks.length=(ks.map Value.string).toArray:=by
    apply Array.ext'
    rw[hcap];simp[List.extract_eq_drop_take,List.take_of_length_le]
   rw[this] at r;exact r
end
namespace Sq
abbrev Dv:Nat:=178
abbrev Tx:Nat:=135
def cH (tm:Array Value)(vT body:Code)(st:LoopState)(D:Nat):Loop:={state:=st,pending:=none,fn:=Dv,tmps:=tm,params:=#[7],assign:=vT,body:=body,defers:=D}
section
variable {tm:Array Value}{vT body:Code}{D l:Nat}{w:World}{st:LoopState}
theorem HU {x:Value}(h:w.heap[l]? =some (.loop (cH tm vT body st D))):RT (Instr.yield l #[x]) w (.round l Dv (tm.setIfInBounds 7 x) vT body) w #[⟨.obj l,false,false⟩]:=by
 have:=Lz (args:=#[x]) h rfl;simpa [cH] using this
theorem Km (h:w.heap[l]? =some (.loop (cH tm vT body .ready D))):RT (Instr.beginRound l) w () {w with heap:=w.heap.setIfInBounds l (.loop (cH tm vT body .busy D))} #[⟨.obj l,false,false⟩,⟨.obj l,true,false⟩]:=LB h rfl
theorem NI (h:w.heap[l]? =some (.loop (cH tm vT body .busy D))):RT (Instr.endRound l none) w (.bool true) {w with heap:=w.heap.setIfInBounds l (.loop (cH tm vT body .ready D))} #[⟨.obj l,false,false⟩,⟨.obj l,true,false⟩]:=PX h
theorem NJ (h:w.heap[l]? =some (.loop (cH tm vT body .ready D))):RT (Instr.endLoop l) w none {w with heap:=w.heap.setIfInBounds l (.loop (cH tm vT body .exhausted D))} #[⟨.obj l,false,false⟩,⟨.obj l,true,false⟩]:=PY h rfl
theorem JQ (tm:Array Value)(vT body:Code):RT (Instr.enterLoop Dv tm #[7] vT body none) w (w.heap.size+1,[{target:= .collected w.heap.size,args:=#[]}]) {w with heap:=(w.heap.push (.deferred (some []))).push (.loop (cH tm vT body .ready w.heap.size))} #[]:=AG Dv tm #[7] vT body
end
def mV (bx:Nat):Value:= .func (.func Tx) #[] #[pb bx]
section
variable (bx bS M it D l:Nat)(k:ByteArray)(v:Value)(fr:Frame)(cs:List Frame)(y:Nat->Value)
def sQ0:Goroutine:=MY Dv #[.slice none 0 0,mV bx] 11 fr cs
def Iq9:Goroutine:=OT (sQ0 bx fr cs)
theorem EG:av PP true (sQ0 bx fr cs) (Iq9 bx fr cs):=bm λws=>by kernel_rfl
theorem UV:aS (Iq9 bx fr cs)=some (.box lQ (.slice none 0 0)):=by kernel_rfl
def UU:Goroutine:=OT (resume (Iq9 bx fr cs) (pb bS))
theorem UT:av PP true (resume (Iq9 bx fr cs) (pb bS)) (UU bx bS fr cs):=bm λws=>by kernel_rfl
def Ot:Code:=match(UU 0 0 default []).frame.todo with|.code (.rangeFunc _ _ a _)::_=>a|_=> .skip
def Kl:Code:=match(UU 0 0 default []).frame.todo with|.code (.rangeFunc _ _ _ b)::_=>b|_=> .skip
def GC:List Item:=(UU 0 0 default []).frame.todo.tail
def tmS:Array Value:=(UU bx bS default []).frame.tmps
theorem US:UU bx bS fr cs=G ((base Dv).at ⟨tmS bx bS,[]⟩ (.code (.rangeFunc (.tmp 6) #[7] Ot Kl)::GC)) (fr::cs):=by kernel_rfl
theorem Pd:(⟨tmS bx bS,[]⟩:Act).eval (.tmp 6)= .func (.func Tx) #[] #[pb bx]:=by kernel_rfl
def lZ (st:LoopState)(bx bS D:Nat):Loop:=cH (tmS bx bS) Ot Kl st D
def He:Frame:=(base Dv).at ⟨tmS bx bS,[{target:= .collected D,args:=#[]}]⟩ (.inRangeFunc l::GC)
def sK0:Goroutine:=G (Frame.enter PP Tx #[.func (.yield l) #[] #[],pb bx] .normal) (He bx bS D l::fr::cs)
def sK1:Goroutine:=OT (sK0 bx bS D l fr cs)
theorem Va:av PP true (sK0 bx bS D l fr cs) (sK1 bx bS D l fr cs):=bm λws=>by kernel_rfl
theorem Ln:aS (sK1 bx bS D l fr cs)=some (.load OA (pb bx)):=by kernel_rfl
def U9:Goroutine:=OT (resume (sK1 bx bS D l fr cs) (.map (some M)))
theorem U8:av PP true (resume (sK1 bx bS D l fr cs) (.map (some M))) (U9 bx bS M D l fr cs):=bm λws=>by kernel_rfl
theorem Ll:aS (U9 bx bS M D l fr cs)=some (.range OA (.map (some M))):=by kernel_rfl
end
def aao:List Item:=(OT (resume (U9 0 0 0 0 0 default []) (pb 0))).frame.todo
def gK (tm:Array Value)(F1:Frame)(cs1:List Frame):Goroutine:=G ((base Tx).at ⟨tm,[]⟩ aao) (F1::cs1)
structure HK (l it:Nat)(tm:Array Value):Prop where
 size:tm.size=14
 s0:tm[0]? =some (.func (.yield l) #[] #[])
 s5:tm[5]? =some (pb it)
section
variable (bx bS M it D l xb:Nat)(k:ByteArray)(v sv nv:Value)(fr F1:Frame)(cs cs1:List Frame)(y:Nat->Value)
def tmK:Array Value:=#[.func (.yield l) #[] #[],y 1,y 2,y 3,y 4,pb it,y 6,y 7,y 8,y 9,y 10,y 11,y 12,y 13]
theorem Pv (tm:Array Value)(h:tm.size=14):tm=#[tm.getD 0 undef,tm.getD 1 undef,tm.getD 2 undef,tm.getD 3 undef,tm.getD 4 undef,tm.getD 5 undef,tm.getD 6 undef,tm.getD 7 undef,tm.getD 8 undef,tm.getD 9 undef,tm.getD 10 undef,tm.getD 11 undef,tm.getD 12 undef,tm.getD 13 undef]:=by
 have e:tm=((List.range 14).map λi=>tm.getD i undef).toArray:=by
  apply Array.ext
  .simp[h]
  .intro i h1 h2
   simp[Array.getD_eq_getD_getElem?,h1]
 exact e.trans (by kernel_rfl)
theorem HK.eq {l it:Nat}{tm:Array Value}(h:HK l it tm):tm=tmK it l λi=>tm.getD i undef:=by
 have h1:=Pv tm h.size;rw[bX h.s0,bX h.s5] at h1;exact h1
theorem U7:∃tm,HK l it tm/\av PP true (resume (U9 bx bS M D l fr cs) (pb it)) (gK tm (He bx bS D l) (fr::cs)):=
 ⟨(OT (resume (U9 bx bS M D l fr cs) (pb it))).frame.tmps,⟨by kernel_rfl,by kernel_rfl,by kernel_rfl⟩,bD 200 (bJ PP true 200 (resume (U9 bx bS M D l fr cs) (pb it))) λws=>by kernel_rfl⟩
abbrev kl:Goroutine:=gK (tmK it l y) F1 cs1
def nxK:TypeId:=match aS (kl 0 0 default [] λ_=>undef) with|some (.next _ _ t)=>t|_=>0
theorem ace:aS (kl it l F1 cs1 y)=some (.next (pb it) false nxK):=by kernel_rfl
def kA:Goroutine:=OT (resume (kl it l F1 cs1 y) (.tuple #[.bool true,.string k,v]))
theorem ach:av PP true (resume (kl it l F1 cs1 y) (.tuple #[.bool true,.string k,v])) (kA it l k v F1 cs1 y):=bm λws=>by kernel_rfl
theorem acg:aS (kA it l k v F1 cs1 y)=some (.entry (pb it)):=by kernel_rfl
def FB:Frame:=(OT (resume (kA it l k v default [] y) (.tuple #[.string k,v]))).frame
theorem acf:av PP true (resume (kA it l k v F1 cs1 y) (.tuple #[.string k,v])) (G (FB it l k v y) (F1::cs1)):=bD 200 (bJ PP true 200 (resume (kA it l k v F1 cs1 y) (.tuple #[.string k,v]))) λws=>by kernel_rfl
theorem Sx:∃tm,HK l it tm/\av PP true (G ((FB it l k v y).finish (.bool true)) (F1::cs1)) (gK tm F1 cs1):=
 ⟨(OT (G ((FB it l k v y).finish (.bool true)) (F1::cs1))).frame.tmps,⟨by kernel_rfl,by kernel_rfl,by kernel_rfl⟩,bD 200 (bJ PP true 200 (G ((FB it l k v y).finish (.bool true)) (F1::cs1))) λws=>by kernel_rfl⟩
end
section
variable (bx bS M it D l xb:Nat)(k:ByteArray)(v sv nv:Value)(fr F1:Frame)(cs cs1:List Frame)(y:Nat->Value)
theorem QP:av PP true (resume (kl it l F1 cs1 y) (.tuple #[.bool false])) (cA F1 cs1 U):=bD 7 (bJ PP true 7 (resume (kl it l F1 cs1 y) (.tuple #[.bool false]))) λws=>by kernel_rfl
def Qi:Array Oper:=match(FB 0 0 ⟨#[]⟩ undef λ_=>undef).todo with|.inRegion ops _::_=>ops|_=>#[]
def iB:Nat:=match(FB 0 0 ⟨#[]⟩ undef λ_=>undef).todo with|.inRegion _ (i::_)::_=>i|_=>0
def rB:List Nat:=match(FB 0 0 ⟨#[]⟩ undef λ_=>undef).todo with|.inRegion _ (_::r)::_=>r|_=>[]
def kB:List Item:=(FB 0 0 ⟨#[]⟩ undef λ_=>undef).todo.tail
def oY:Oper:=(Qi[iB]?).getD default
theorem Sv:(FB it l k v y).mode= .run:=by kernel_rfl
theorem Sw:(FB it l k v y).kind= .normal:=by kernel_rfl
theorem Su:(FB it l k v y).todo= .inRegion Qi (iB::rB)::kB:=by kernel_rfl
theorem abO:Qi[iB]? =some oY:=by kernel_rfl
theorem Qo:Region.wanted oY (yielded Qi (FB it l k v y).tmps)=true:=by kernel_rfl
theorem SW:oY.op= .call {callee:= .value (.tmp 10),args:=#[.tmp 11],argTypes:=#[9]}:=by kernel_rfl
theorem aer:(FB it l k v y).eval (.tmp 10)= .func (.yield l) #[] #[]:=by kernel_rfl
theorem aeq:(FB it l k v y).eval (.tmp 11)= .string k:=by kernel_rfl
def SI:Array Value:=(tmS bx bS).setIfInBounds 7 (.string k)
def gR0:Goroutine:=G (Frame.round l Dv (SI bx bS k) Ot Kl .normal) (F1::cs1)
def OU:Frame:=(OT (gR0 bx bS l k default [])).frame
theorem X7:av PP true (gR0 bx bS l k F1 cs1) (G (OU bx bS l k) (F1::cs1)):=bD 200 (bJ PP true 200 (gR0 bx bS l k F1 cs1)) λws=>by kernel_rfl
theorem NA:(OU bx bS l k).mode= .run:=by kernel_rfl
theorem NB:(OU bx bS l k).kind= .normal:=by kernel_rfl
theorem Nz:(OU bx bS l k).todo= .beginRound::[.code Kl]:=by kernel_rfl
theorem JL:(OU bx bS l k).roundOf=some l:=by kernel_rfl
end
section
variable (bx bS M it D l xb:Nat)(k:ByteArray)(v sv nv:Value)(fr F1:Frame)(cs cs1:List Frame)(y:Nat->Value)
def Du:Frame:=(OT (G ((OU bx bS l k).finish undef) (default::[]))).frame
theorem YC:av PP true (G ((OU bx bS l k).finish undef) (F1::cs1)) (G (Du bx bS l k) (F1::cs1)):=bD 200 (bJ PP true 200 (G ((OU bx bS l k).finish undef) (F1::cs1))) λws=>by kernel_rfl
def Qm:Array Oper:=match(Du 0 0 0 ⟨#[]⟩).todo with|.inRegion ops _::_=>ops|_=>#[]
def i2:Nat:=match(Du 0 0 0 ⟨#[]⟩).todo with|.inRegion _ (i::_)::_=>i|_=>0
def r2:List Nat:=match(Du 0 0 0 ⟨#[]⟩).todo with|.inRegion _ (_::r)::_=>r|_=>[]
def k2:List Item:=(Du 0 0 0 ⟨#[]⟩).todo.tail
def o2:Oper:=(Qm[i2]?).getD default
theorem Nw:(Du bx bS l k).mode= .run:=by kernel_rfl
theorem Ny:(Du bx bS l k).kind= .normal:=by kernel_rfl
theorem Nv:(Du bx bS l k).todo= .inRegion Qm (i2::r2)::k2:=by kernel_rfl
theorem abS:Qm[i2]? =some o2:=by kernel_rfl
theorem Qs:Region.wanted o2 (yielded Qm (Du bx bS l k).tmps)=true:=by kernel_rfl
theorem S3:o2.op= .load lQ (.tmp 2):=by kernel_rfl
theorem adG:(Du bx bS l k).eval (.tmp 2)=pb bS:=by kernel_rfl
def Bz:Frame:=(OT (G ((Du bx bS l k).finish sv) (default::[]))).frame
theorem YB:av PP true (G ((Du bx bS l k).finish sv) (F1::cs1)) (G (Bz bx bS l k sv) (F1::cs1)):=bD 200 (bJ PP true 200 (G ((Du bx bS l k).finish sv) (F1::cs1))) λws=>by kernel_rfl
def Ql:Array Oper:=match(Bz 0 0 0 ⟨#[]⟩ undef).todo with|.inRegion ops _::_=>ops|_=>#[]
def i3:Nat:=match(Bz 0 0 0 ⟨#[]⟩ undef).todo with|.inRegion _ (i::_)::_=>i|_=>0
def r3:List Nat:=match(Bz 0 0 0 ⟨#[]⟩ undef).todo with|.inRegion _ (_::r)::_=>r|_=>[]
def k3:List Item:=(Bz 0 0 0 ⟨#[]⟩ undef).todo.tail
def o3:Oper:=(Ql[i3]?).getD default
theorem Nt:(Bz bx bS l k sv).mode= .run:=by kernel_rfl
theorem Nu:(Bz bx bS l k sv).kind= .normal:=by kernel_rfl
theorem Ns:(Bz bx bS l k sv).todo= .inRegion Ql (i3::r3)::k3:=by kernel_rfl
theorem abR:Ql[i3]? =some o3:=by kernel_rfl
theorem Qr:Region.wanted o3 (yielded Ql (Bz bx bS l k sv).tmps)=true:=by kernel_rfl
theorem SZ:o3.op= .buildSlice lQ 1 #[(0,.tmp 9)]:=by kernel_rfl
theorem adF:(Bz bx bS l k sv).eval (.tmp 9)= .string k:=by kernel_rfl
def Bd:Frame:=(OT (G ((Bz bx bS l k sv).finish (.slice (some ⟨xb,0,none⟩) 1 1)) (default::[]))).frame
theorem Yz:av PP true (G ((Bz bx bS l k sv).finish (.slice (some ⟨xb,0,none⟩) 1 1)) (F1::cs1)) (G (Bd bx bS l xb k sv) (F1::cs1)):=bD 200 (bJ PP true 200 (G ((Bz bx bS l k sv).finish (.slice (some ⟨xb,0,none⟩) 1 1)) (F1::cs1))) λws=>by kernel_rfl
def Qk:Array Oper:=match(Bd 0 0 0 0 ⟨#[]⟩ undef).todo with|.inRegion ops _::_=>ops|_=>#[]
def i4:Nat:=match(Bd 0 0 0 0 ⟨#[]⟩ undef).todo with|.inRegion _ (i::_)::_=>i|_=>0
def r4:List Nat:=match(Bd 0 0 0 0 ⟨#[]⟩ undef).todo with|.inRegion _ (_::r)::_=>r|_=>[]
def k4:List Item:=(Bd 0 0 0 0 ⟨#[]⟩ undef).todo.tail
def o4:Oper:=(Qk[i4]?).getD default
theorem Np:(Bd bx bS l xb k sv).mode= .run:=by kernel_rfl
theorem Nq:(Bd bx bS l xb k sv).kind= .normal:=by kernel_rfl
theorem No:(Bd bx bS l xb k sv).todo= .inRegion Qk (i4::r4)::k4:=by kernel_rfl
theorem abQ:Qk[i4]? =some o4:=by kernel_rfl
theorem Qq:Region.wanted o4 (yielded Qk (Bd bx bS l xb k sv).tmps)=true:=by kernel_rfl
theorem SY:o4.op= .call {callee:= .builtin .append,args:=#[.tmp 8,.tmp 10],argTypes:=#[lQ,lQ]}:=by kernel_rfl
theorem adE:(Bd bx bS l xb k sv).eval (.tmp 8)=sv:=by kernel_rfl
theorem YA:(Bd bx bS l xb k sv).eval (.tmp 10)= .slice (some ⟨xb,0,none⟩) 1 1:=by kernel_rfl
def By:Frame:=(OT (G ((Bd bx bS l xb k sv).finish nv) (default::[]))).frame
theorem Yx:av PP true (G ((Bd bx bS l xb k sv).finish nv) (F1::cs1)) (G (By bx bS l xb k sv nv) (F1::cs1)):=bD 200 (bJ PP true 200 (G ((Bd bx bS l xb k sv).finish nv) (F1::cs1))) λws=>by kernel_rfl
def Qj:Array Oper:=match(By 0 0 0 0 ⟨#[]⟩ undef undef).todo with|.inRegion ops _::_=>ops|_=>#[]
def i5:Nat:=match(By 0 0 0 0 ⟨#[]⟩ undef undef).todo with|.inRegion _ (i::_)::_=>i|_=>0
def r5:List Nat:=match(By 0 0 0 0 ⟨#[]⟩ undef undef).todo with|.inRegion _ (_::r)::_=>r|_=>[]
def k5:List Item:=(By 0 0 0 0 ⟨#[]⟩ undef undef).todo.tail
def o5:Oper:=(Qj[i5]?).getD default
theorem Nm:(By bx bS l xb k sv nv).mode= .run:=by kernel_rfl
theorem Nn:(By bx bS l xb k sv nv).kind= .normal:=by kernel_rfl
theorem Nl:(By bx bS l xb k sv nv).todo= .inRegion Qj (i5::r5)::k5:=by kernel_rfl
theorem abP:Qj[i5]? =some o5:=by kernel_rfl
theorem Qp:Region.wanted o5 (yielded Qj (By bx bS l xb k sv nv).tmps)=true:=by kernel_rfl
theorem SX:o5.op= .store lQ (.tmp 2) (.tmp 11):=by kernel_rfl
theorem adD:(By bx bS l xb k sv nv).eval (.tmp 2)=pb bS:=by kernel_rfl
theorem Yy:(By bx bS l xb k sv nv).eval (.tmp 11)=nv:=by kernel_rfl
def ZL:Frame:=(AQ PP true 2 (G ((By bx bS l xb k sv nv).finish undef) (default::[]))).frame
theorem Yw:av PP true (G ((By bx bS l xb k sv nv).finish undef) (F1::cs1)) (G (ZL bx bS l xb k sv nv) (F1::cs1)):=bD 2 (bJ PP true 2 (G ((By bx bS l xb k sv nv).finish undef) (F1::cs1))) λws=>by kernel_rfl
theorem Nj:(ZL bx bS l xb k sv nv).mode= .run:=by kernel_rfl
theorem Nk:(ZL bx bS l xb k sv nv).kind= .normal:=by kernel_rfl
theorem Ni:(ZL bx bS l xb k sv nv).todo=[]:=by kernel_rfl
theorem JK:(ZL bx bS l xb k sv nv).roundOf=some l:=by kernel_rfl
def fE0:Frame:={(He bx bS D l).finish U with todo:=GC}
theorem RE:((He bx bS D l).finish U).todo= .endRangeFunc l::GC:=by kernel_rfl
theorem RF:((He bx bS D l).finish U).mode= .run:=by kernel_rfl
def Zn:Goroutine:=OT (G (fE0 bx bS D l) (fr::cs))
theorem Vz:av PP true (G (fE0 bx bS D l) (fr::cs)) (Zn bx bS D l fr cs):=bm λws=>by kernel_rfl
theorem Lp:aS (Zn bx bS D l fr cs)=some (.load lQ (pb bS)):=by kernel_rfl
def YG:Frame:=(OT (resume (Zn bx bS D l default []) sv)).frame
theorem YF:av PP true (resume (Zn bx bS D l fr cs) sv) (G (YG bx bS D l sv) (fr::cs)):=bD 200 (bJ PP true 200 (resume (Zn bx bS D l fr cs) sv)) λws=>by kernel_rfl
theorem NC:(YG bx bS D l sv).mode= .returning:=by kernel_rfl
theorem Fy:(YG bx bS D l sv).defers=[{target:= .collected D,args:=#[]}]:=by kernel_rfl
theorem YE:av PP true (G {YG bx bS D l sv with defers:=[]} (fr::cs)) (cA fr cs sv):=bD 1 (bJ PP true 1 (G {YG bx bS D l sv with defers:=[]} (fr::cs))) λws=>by kernel_rfl
end
end Sq
end aF
end
section
open Go.Conc
open Go.MapKept
open Go.ConcM (OsLater)
namespace aF
namespace Sq
section
variable {own:Nat->Prop}{w:World}{g g':Goroutine}{Stop:(Nat->Prop)->Goroutine->World->Prop}
theorem uK {O:Nat->Prop}{n n' b:Nat}{e:Event}(hb:O b)(h:EvB b e):TN O no n n' e:= .inl ⟨b,.inl hb,h.2⟩
theorem En (hs:g.status= .running)(h:∀d,∃es,stepG PP true g (w.at d)= .go g' (w.at d) es/\∀e∈es,∃b,own b/\EvB b e)(k:aD PP true li Stop own g' w):aD PP true li Stop own g w:=by
 refine aD.step hs λw₁ h1=>?_
 obtain⟨d,rfl⟩:=h1;obtain⟨es,e1,e2⟩:=h d;refine⟨_,_,es,e1,⟨Nat.le_refl _,λ_ _ _=>rfl,rfl,rfl,rfl,λe he=>by obtain⟨b,h1,h2⟩:=e2 e he;exact uK h1 h2⟩,?_⟩;rw[(idle0 own (w.at d)).2];exact k.rely ⟨d,rfl⟩
theorem af4 {b:Nat}{o:Obj}(hs:g.status= .running)(hb:own b)(h:∀d,∃w' es,stepG PP true g (w.at d)= .go g' w' es/\zl b o (w.at d) w'/\∀e∈es,∃b,own b/\EvB b e)
  (k:∀w',w'.heap.size=w.heap.size->w'.heap[b]? =some o->(∀c,c≠b->w'.heap[c]? =w.heap[c]?)->w'.os=w.os->aD PP true li Stop own g' w'):aD PP true li Stop own g w:=by
 refine aD.step hs λw₁ h1=>?_
 obtain⟨d,rfl⟩:=h1;obtain⟨w',es,e1,u,e2⟩:=h d;have hup:li.up own (w.at d) w'=own:=funext λc=>propext ⟨λx=>x.elim id λx=>by have:=u.size;omega,.inl⟩
 refine⟨_,w',es,e1,⟨by rw[u.size];exact Nat.le_refl _,λc _ hc=>u.rest c λe=>hc (e▸hb),u.os,u.output,u.tape,λe he=>by obtain⟨b,h1,h2⟩:=e2 e he;exact uK h1 h2⟩,?_⟩;rw[hup];exact k w' u.size u.at_ u.rest u.os
theorem new1 {os:List Obj}(hs:g.status= .running)(h:∀d,stepG PP true g (w.at d)= .go g' {w.at d with heap:=os.foldl Array.push (w.at d).heap} #[])
  (k:∀w',w'.heap=os.foldl Array.push w.heap->w'.os=w.os->aD PP true li Stop (λb=>own b\/(w.heap.size<=b/\b<w'.heap.size)) g' w'):aD PP true li Stop own g w:=by
 have hsz:∀(l:List Obj) (a:Array Obj),a.size<=(l.foldl Array.push a).size:=λl=>by
  induction l with
  |nil=>intro a;exact Nat.le_refl _
  |cons x l ih=>intro a;exact Nat.le_trans (by simp) (ih (a.push x))
 have hget:∀(l:List Obj) (a:Array Obj) (b:Nat),b<a.size->(l.foldl Array.push a)[b]? =a[b]? :=λl=>by
  induction l with
  |nil=>intro a b _;rfl
  |cons x l ih=>intro a b hb;exact(ih (a.push x) b (by simp;omega)).trans (by rw[Array.getElem?_push_lt hb];exact(Array.getElem?_eq_getElem hb).symm)
 refine aD.step hs λw₁ h1=>?_
 obtain⟨d,rfl⟩:=h1;refine⟨_,_,_,h d,⟨hsz os _,λb hb _=>hget os _ b hb,rfl,rfl,rfl,by simp⟩,?_⟩;exact k _ rfl rfl
theorem app1 {mine:Nat->Prop}{ks:List ByteArray}(hs:g.status= .running)(hm:∀b,mine b->own b){gx:Value->Goroutine}(h:∀d,∃v w' es ev,stepG PP true g (w.at d)= .go (gx v) w' es/\(∀e∈es,e∈ev)/\App mine ks (w.at d) v w' ev)
  (k:∀v w',w.heap.size<=w'.heap.size->(∀b,b<w.heap.size->¬mine b->w'.heap[b]? =w.heap[b]?)->Strs w' (λb=>mine b\/(w.heap.size<=b/\b<w'.heap.size)) v ks->w'.os=w.os->aD PP true li Stop (λb=>own b\/(w.heap.size<=b/\b<w'.heap.size)) (gx v) w'):aD PP true li Stop own g w:=by
 refine aD.step hs λw₁ h1=>?_
 obtain⟨d,rfl⟩:=h1;obtain⟨v,w',es,ev,e1,e2,a⟩:=h d;refine⟨_,w',es,e1,⟨a.size,λb hb ho=>a.keep b hb λx=>ho (hm b x),a.os,a.output,a.tape,λe he=>?_⟩,k v w' a.size a.keep a.strs a.os⟩;rcases a.ev e (e2 e he) with⟨b,h1,h2⟩|h
 .exact uK (hm b h1) h2
 .exact .inr h
end
section
variable {bx bS D l it xb:Nat}{k:ByteArray}{v sv nv:Value}{F1:Frame}{cs0:List Frame}{y:Nat->Value}{w:World}{st:LoopState}
theorem AR {b:Nat}{es:Array Event}{f:FuncId}{x y:Bool}(h:es=seen PP f #[⟨.obj b,x,false⟩,⟨.obj b,y,false⟩]):∀e∈es,EvB b e:=by
 intro e he;subst h;have:=mem_seen he;simp at this;rcases this with rfl|rfl<;>exact dQ
theorem K5 (hl:w.heap[l]? =some (.loop (lZ st bx bS D))):∃es,stepG PP true (G (FB it l k v y) cs0) w= .go (G (Frame.round l Dv (SI bx bS k) Ot Kl .normal) (FB it l k v y::cs0)) w es/\∀e∈es,EvB l e:=by
 have h1:RT (execOp (FB it l k v y).eval oY) w (.round l Dv (SI bx bS k) Ot Kl) w #[⟨.obj l,false,false⟩]:=by
  have e:execOp (FB it l k v y).eval oY=(do let d <-resolve (FB it l k v y).eval {callee:= .value (.tmp 10),args:=#[.tmp 11],argTypes:=#[9]} oY.type;invoke d.target d.args):=by
   unfold execOp;rw[SW]
  rw[e];refine RT.aN (w1:=w) (x:={target:= .fn (.yield l) #[],args:=#[.string k]}) ?_ ?_
  .unfold resolve
   simp only[List.map_toArray,List.map_cons,List.map_nil,aer,aeq];exact .pure _
  .unfold lZ at hl
   unfold SI;exact HU hl
 refine⟨_,(stepG_op (Sv it l k v y) (Su it l k v y) abO (Qo it l k v y) (by rw[SW];simp)).trans (D4 h1 (Sw it l k v y)),λe he=>?_⟩;have:=mem_seen he;simp at this;subst this;exact dQ
theorem K8 (hl:w.heap[l]? =some (.loop (lZ .ready bx bS D))):∃w' es,stepG PP true (G (OU bx bS l k) cs0) w= .go (G ((OU bx bS l k).finish undef) cs0) w' es/\zl l (.loop (lZ .busy bx bS D)) w w'/\∀e∈es,EvB l e:=by
 unfold lZ at hl⊢;have h:=Km hl;exact⟨_,_,BX (NA bx bS l k) (Nz bx bS l k) (JL bx bS l k) (NB bx bS l k) h,mO hl,AR rfl⟩
theorem Pn (hb:w.heap[bS]? =some (.cells #[sv] lQ (0,0))):∃es,stepG PP true (G (Du bx bS l k) cs0) w= .go (G ((Du bx bS l k).finish sv) cs0) w es/\∀e∈es,EvB bS e:=by
 have h1:RT (execOp (Du bx bS l k).eval o2) w (.value sv) w #[⟨.cell ⟨bS,0,none⟩,false,false⟩]:=by
  have e:execOp (Du bx bS l k).eval o2=(do pure (.value (<-Instr.loadAt lQ (pb bS)))):=by
   unfold execOp;rw[S3];simp only[adG]
  rw[e];refine RT.eD (x:=sv) ?_ (.pure _);show RT (do if<-isAgg lQ then Pure.pure (.agg (<-loadCells ⟨bS,0,none⟩ (<-Go.sizeOf lQ))) else load ⟨bS,0,none⟩) _ _ _ _;refine(fM (b:=false)).aN ?_;simp only[Bool.false_eq_true,if_false];exact jD (cell_of hb rfl)
 refine⟨_,(stepG_op (Nw ..) (Nv ..) abS (Qs bx bS l k) (by rw[S3];simp)).trans (pi h1 (Ny ..)),λe he=>?_⟩;have:=mem_seen he;simp at this;subst this;exact i6 rfl
theorem K7:stepG PP true (G (Bz bx bS l k sv) cs0) w= .go (G ((Bz bx bS l k sv).finish (.slice (some ⟨w.heap.size,0,none⟩) 1 1)) cs0) {w with heap:=w.heap.push (.cells #[.string k] jT (0,0))} #[]:=by
 have h1:RT (execOp (Bz bx bS l k sv).eval o3) w (.value (.slice (some ⟨w.heap.size,0,none⟩) 1 1)) {w with heap:=w.heap.push (.cells #[.string k] jT (0,0))} #[]:=by
  have e:execOp (Bz bx bS l k sv).eval o3=(do pure (.value (<-Instr.buildSlice lQ 1 #[(0,.string k)]))):=by
   unfold execOp;rw[SZ];simp only[List.map_toArray,List.map_cons,List.map_nil,adF]
  rw[e];exact RT.aN CA (.pure _)
 have:=(stepG_op (main:=true) (cs:=cs0) (w:=w) (Nt bx bS l k sv) (Ns bx bS l k sv) abR (Qr bx bS l k sv) (by rw[SZ];simp)).trans (pi h1 (Nu ..));rw[seen_none] at this;exact this
theorem Is {mine:Nat->Prop}{ks:List ByteArray}{f:Nat×Nat}(hs:Strs w mine sv ks)(hx:w.heap[xb]? =some (.cells #[.string k] jT f))(ox:mine xb)(hl:ks.length<2^40):
  ∃v w' es ev,stepG PP true (G (Bd bx bS l xb k sv) cs0) w= .go (G ((Bd bx bS l xb k sv).finish v) cs0) w' es/\(∀e∈es,e∈ev)/\App mine (ks++[k]) w v w' ev:=by
 obtain⟨v,w',ev,h1,h2⟩:=IR o4.type hs hx ox hl;have h3:RT (execOp (Bd bx bS l xb k sv).eval o4) w (.value v) w' ev:=by
  have e:execOp (Bd bx bS l xb k sv).eval o4=(do let d <-resolve (Bd bx bS l xb k sv).eval {callee:= .builtin .append,args:=#[.tmp 8,.tmp 10],argTypes:=#[lQ,lQ]} o4.type;invoke d.target d.args):=by
   unfold execOp;rw[SY]
  rw[e];refine RT.aN (w1:=w) (x:={target:= .builtin .append #[lQ,lQ] o4.type #[false,false],args:=#[sv,.slice (some ⟨xb,0,none⟩) 1 1]}) ?_ ?_
  .unfold resolve
   simp only[List.map_toArray,List.map_cons,List.map_nil,adE,YA];exact .pure _
  .show RT (do Pure.pure (Next.value (<-Builtin.append_ #[lQ,lQ] o4.type #[sv,.slice (some ⟨xb,0,none⟩) 1 1]))) _ _ _ _
   exact RT.eD h1 (.pure _)
 exact⟨v,w',_,ev,(stepG_op (Np ..) (No ..) abQ (Qq bx bS l xb k sv) (by rw[SY];simp)).trans (pi h3 (Nq ..)),λe he=>mem_seen he,h2⟩
theorem Xk:(PP.info? lQ).map (·.size)=some 1:=by kernel_rfl
theorem K6 {ov:Value}(hb:w.heap[bS]? =some (.cells #[ov] lQ (0,0)))(h1:nv.cells=#[nv])(h2:lk nv=true):∃w' es,stepG PP true (G (By bx bS l xb k sv nv) cs0) w= .go (G ((By bx bS l xb k sv nv).finish undef) cs0) w' es/\zl bS (.cells #[nv] lQ (0,0)) w w'/\∀e∈es,EvB bS e:=by
 obtain⟨w',ev,r1,r2,r3⟩:=fK (t:=lQ) (off:=0) (v:=nv) hb (by rw[h1];exact Xk) (by rw[h1];simp) (by rw[h1];simpa using h2);have h3:RT (execOp (By bx bS l xb k sv nv).eval o5) w .skip w' ev:=by
  have e:execOp (By bx bS l xb k sv nv).eval o5=(kd.store lQ (pb bS) nv).sem:=by
   unfold execOp;rw[SX];simp only[adD,Yy];rfl
  rw[e];exact r1
 refine⟨w',_,(stepG_op (Nm ..) (Nl ..) abP (Qp bx bS l xb k sv nv) (by rw[SX];simp)).trans (yp h3 (Nn ..)),?_,λe he=>r3 e (mem_seen he)⟩;rw[h1] at r2;simpa [kO] using r2
theorem Po (hl:w.heap[l]? =some (.loop (lZ .busy bx bS D))){c:Frame}:∃w' es,stepG PP true (G (ZL bx bS l xb k sv nv) (c::cs0)) w= .go (G (c.finish (.bool true)) cs0) w' es/\zl l (.loop (lZ .ready bx bS D)) w w'/\∀e∈es,EvB l e:=by
 unfold lZ at hl⊢;have h:=NI hl;exact⟨_,_,Es (Nj bx bS l xb k sv nv) (Ni bx bS l xb k sv nv) (JK bx bS l xb k sv nv) (Nk bx bS l xb k sv nv) h,mO hl,AR rfl⟩
theorem Pp (hl:w.heap[l]? =some (.loop (lZ .ready bx bS D))):∃w' es,stepG PP true (G ((He bx bS D l).finish U) cs0) w= .go (G (fE0 bx bS D l) cs0) w' es/\zl l (.loop (lZ .exhausted bx bS D)) w w'/\∀e∈es,EvB l e:=by
 unfold lZ at hl⊢;have h:=NJ hl;exact⟨_,_,Et (RF bx bS D l) (RE bx bS D l) h,mO hl,AR rfl⟩
theorem Pm (hD:w.heap[D]? =some (.deferred (some []))):∃w' es,stepG PP true (G (YG bx bS D l sv) cs0) w= .go (G {YG bx bS D l sv with defers:=[]} cs0) w' es/\zl D (.deferred none) w w'/\∀e∈es,EvB D e:=
 ⟨_,_,Er (NC bx bS D l sv) (Fy bx bS D l sv) (PV hD),mO hD,AR rfl⟩
theorem Xn {tm:Array Value}{vT body:Code}{k:List Item}{cs:List Frame}(hseq:(⟨tm,[]⟩:Act).eval (.tmp 6)= .func (.func Tx) #[] #[pb bx]):
  stepG PP true (G ((base Dv).at ⟨tm,[]⟩ (.code (.rangeFunc (.tmp 6) #[7] vT body)::k)) cs) w= .go (G (Frame.enter PP Tx #[.func (.yield (w.heap.size+1)) #[] #[],pb bx] .normal) ((base Dv).at ⟨tm,[{target:= .collected w.heap.size,args:=#[]}]⟩ (.inRangeFunc (w.heap.size+1)::k)::cs))
   {w with heap:=(w.heap.push (.deferred (some []))).push (.loop (cH tm vT body .ready w.heap.size))} #[]:=by
 have h:=JQ (w:=w) tm vT body;have key:=yI (main:=true) (b:=base Dv) (k:=k) (cs:=cs) (gf:=Tx) (lb:=#[pb bx]) hseq Tryz.func135 (by kernel_rfl) (by kernel_rfl) rfl h;have e1:(#[.func (.yield (w.heap.size+1)) #[] #[]]++#[pb bx]:Array Value)=#[.func (.yield (w.heap.size+1)) #[] #[],pb bx]:=by simp
 rw[e1] at key;exact key
theorem aaA {fr:Frame}{cs:List Frame}:stepG PP true (UU bx bS fr cs) w= .go (sK0 bx bS w.heap.size (w.heap.size+1) fr cs) {w with heap:=(w.heap.push (.deferred (some []))).push (.loop (lZ .ready bx bS w.heap.size))} #[]:=by
 rw[US];unfold lZ sK0 He;exact Xn (Pd bx bS)
end
theorem _root_.Go.Proofs.YtchcmhodnkgojaaGreat.aF.Strs.keep {w w':World}{own own':Nat->Prop}{v:Value}{ks:List ByteArray}(h:Strs w own v ks)(hk:∀b,own b->w'.heap[b]? =w.heap[b]?)(ho:∀b,own b->own' b):Strs w' own' v ks:=by
 rcases h with h|⟨sk,cap,h1,h2,h3,h4⟩
 .exact .inl h
 .exact .inr ⟨sk,cap,h1,ho sk h2,h3,by rw[hk sk h2];exact h4⟩
theorem _root_.Go.Proofs.YtchcmhodnkgojaaGreat.aF.Strs.one {w:World}{own:Nat->Prop}{v:Value}{ks:List ByteArray}(h:Strs w own v ks):v.cells=#[v]/\lk v=true:=by
 rcases h with⟨rfl,_⟩|⟨sk,cap,rfl,_⟩<;>exact⟨rfl,rfl⟩
def iS (O0:Nat->Prop)(n0:Nat)(w:World):Nat->Prop:=λb=>O0 b\/(n0<=b/\b<w.heap.size)
theorem tC {O0:Nat->Prop}{n0:Nat}{w w':World}(h0:n0<=w.heap.size)(h:w.heap.size<=w'.heap.size):(λb=>iS O0 n0 w b\/(w.heap.size<=b/\b<w'.heap.size))=iS O0 n0 w':=funext λb=>propext (by
 unfold iS;constructor
 .rintro((h|h)|h)
  .exact .inl h
  .exact .inr ⟨h.1,by omega⟩
  .exact .inr ⟨by omega,h.2⟩
 .rintro(h|h)
  .exact .inl (.inl h)
  .by_cases hb:b<w.heap.size
   .exact .inl (.inr ⟨h.1,hb⟩)
   .exact .inr ⟨by omega,h.2⟩)
theorem LZ {O0:Nat->Prop}{n0:Nat}{w w':World}(h:w'.heap.size=w.heap.size):iS O0 n0 w'=iS O0 n0 w:=by unfold iS;rw[h]
section
variable (O0:Nat->Prop)(w0:World)(bx M c:Nat)(f:ByteArray->Option Value)(fr:Frame)(cs:List Frame)
structure J (st:LoopState)(sv:Value)(ks:List ByteArray)(seen:Array Nat)(w:World):Prop where
 hs:w0.heap.size+4<=w.heap.size
 old:∀b,b<w0.heap.size->w.heap[b]? =w0.heap[b]?
 os:w.os=w0.os
 box:w.heap[w0.heap.size]? =some (.cells #[sv] lQ (0,0))
 YO:w.heap[w0.heap.size+1]? =some (.deferred (some []))
 lop:w.heap[w0.heap.size+2]? =some (.loop (lZ st bx w0.heap.size (w0.heap.size+1)))
 Xj:w.heap[w0.heap.size+3]? =some (.mapIter (some M) c seen c)
 strs:Strs w (λb=>w0.heap.size+4<=b/\b<w.heap.size) sv ks
def Fin (s:Nat->Prop)(g:Goroutine)(w:World):Prop:=∃sv ks,g=cA fr cs sv/\s=iS O0 w0.heap.size w/\w0.heap.size<=w.heap.size/\(∀b,b<w0.heap.size->w.heap[b]? =w0.heap[b]?)/\w.os=w0.os/\
 Strs w (λb=>w0.heap.size+4<=b/\b<w.heap.size) sv ks/\ks.Nodup/\∀s,s∈ks↔f s≠none
end
section
variable {O0:Nat->Prop}{w0 w w':World}{bx M c:Nat}{es:Array MapEntry}{f:ByteArray->Option Value}{fr:Frame}{cs:List Frame}{st st':LoopState}{sv nv:Value}{ks:List ByteArray}{seen:Array Nat}
theorem J.at (h:J w0 bx M c st sv ks seen w)(d:Nat):J w0 bx M c st sv ks seen (w.at d):=⟨h.hs,h.old,h.os,h.box,h.YO,h.lop,h.Xj,h.strs⟩
theorem J.loop (h:J w0 bx M c st sv ks seen w)(h1:w'.heap.size=w.heap.size)(h2:w'.heap[w0.heap.size+2]? =some (.loop (lZ st' bx w0.heap.size (w0.heap.size+1))))(h3:∀b,b≠w0.heap.size+2->w'.heap[b]? =w.heap[b]?)(h4:w'.os=w.os):J w0 bx M c st' sv ks seen w':=
 ⟨by rw[h1];exact h.hs,λb hb=>by rw[h3 b (by omega)];exact h.old b hb,h4.trans h.os,by rw[h3 _ (by omega)];exact h.box,by rw[h3 _ (by omega)];exact h.YO,h2,by rw[h3 _ (by omega)];exact h.Xj,h.strs.keep (λb hb=>h3 b (by omega)) λb hb=>by rw[h1];exact hb⟩
theorem J.next {seen':Array Nat}(h:J w0 bx M c st sv ks seen w)(h1:w'.heap.size=w.heap.size)(h2:w'.heap[w0.heap.size+3]? =some (.mapIter (some M) c seen' c))(h3:∀b,b≠w0.heap.size+3->w'.heap[b]? =w.heap[b]?)(h4:w'.os=w.os):J w0 bx M c st sv ks seen' w':=
 ⟨by rw[h1];exact h.hs,λb hb=>by rw[h3 b (by omega)];exact h.old b hb,h4.trans h.os,by rw[h3 _ (by omega)];exact h.box,by rw[h3 _ (by omega)];exact h.YO,by rw[h3 _ (by omega)];exact h.lop,h2,h.strs.keep (λb hb=>h3 b (by omega)) λb hb=>by rw[h1];exact hb⟩
theorem J.push {o:Obj}(h:J w0 bx M c st sv ks seen w)(h1:w'.heap=w.heap.push o)(h4:w'.os=w.os):J w0 bx M c st sv ks seen w':=by
 have hs:=h.hs;have hk:∀b,b<w.heap.size->w'.heap[b]? =w.heap[b]? :=λb hb=>by rw[h1,Array.getElem?_push_lt hb];exact(Array.getElem?_eq_getElem hb).symm
 have sz:w'.heap.size=w.heap.size+1:=by rw[h1];simp
 exact⟨by omega,λb hb=>by rw[hk b (by omega)];exact h.old b hb,h4.trans h.os,by rw[hk _ (by omega)];exact h.box,by rw[hk _ (by omega)];exact h.YO,by rw[hk _ (by omega)];exact h.lop,by rw[hk _ (by omega)];exact h.Xj,h.strs.keep (λb hb=>hk b hb.2) λb hb=>⟨hb.1,by omega⟩⟩
theorem vY {b:Nat}{o:Obj}{g g':Goroutine}{Stop:(Nat->Prop)->Goroutine->World->Prop}(hs:g.status= .running)(hb:iS O0 w0.heap.size w b)(h:∀d,∃w' es,stepG PP true g (w.at d)= .go g' w' es/\zl b o (w.at d) w'/\∀e∈es,EvB b e)
  (k:∀w',w'.heap.size=w.heap.size->w'.heap[b]? =some o->(∀c,c≠b->w'.heap[c]? =w.heap[c]?)->w'.os=w.os->aD PP true li Stop (iS O0 w0.heap.size w') g' w'):aD PP true li Stop (iS O0 w0.heap.size w) g w:=
 af4 hs hb (λd=>by obtain⟨w',es,h1,h2,h3⟩:=h d;exact⟨w',es,h1,h2,λe he=>⟨b,hb,h3 e he⟩⟩) λw' h1 h2 h3 h4=>by
  have:=k w' h1 h2 h3 h4
  rwa [LZ h1] at this
theorem wl {b:Nat}{g g':Goroutine}{Stop:(Nat->Prop)->Goroutine->World->Prop}(hs:g.status= .running)(hb:iS O0 w0.heap.size w b)(h:∀d,∃es,stepG PP true g (w.at d)= .go g' (w.at d) es/\∀e∈es,EvB b e)
  (k:aD PP true li Stop (iS O0 w0.heap.size w) g' w):aD PP true li Stop (iS O0 w0.heap.size w) g w:=
 En hs (λd=>by obtain⟨es,h1,h2⟩:=h d;exact⟨es,h1,λe he=>⟨b,hb,h2 e he⟩⟩) k
theorem L7 (hJ:J w0 bx M c .ready sv ks seen w)(hn:ks.Nodup)(hm:∀s,s∈ks↔f s≠none):
  aD PP true li (Fin O0 w0 f fr cs) (iS O0 w0.heap.size w) (cA (He bx w0.heap.size (w0.heap.size+1) (w0.heap.size+2)) (fr::cs) U) w:=by
 have hs:=hJ.hs;have nw:∀{w':World} {b:Nat},w0.heap.size+4<=w'.heap.size->w0.heap.size<=b->b<w0.heap.size+4->iS O0 w0.heap.size w' b:=λa b c=> .inr ⟨b,by omega⟩
 refine vY (o:= .loop (lZ .exhausted bx w0.heap.size (w0.heap.size+1))) rfl (nw hs (by omega) (by omega):iS O0 w0.heap.size w (w0.heap.size+2)) (λd=>Pp (hJ.at d).lop) λw1 a1 a2 a3 a4=>?_
 have J1:=hJ.loop a1 a2 a3 a4;refine ed (Vz _ _ _ _ _ _) ?_;refine wl (b:=w0.heap.size) (g':=resume (Zn bx w0.heap.size (w0.heap.size+1) (w0.heap.size+2) fr cs) sv) (cT (Lp _ _ _ _ _ _)).1 (nw J1.hs (by omega) (by omega)) (λd=>?_) ?_
 .have hr:RT (kd.load lQ (pb w0.heap.size)).sem (w1.at d) (.value sv) (w1.at d) #[⟨.cell ⟨w0.heap.size,0,none⟩,false,false⟩]:=by
   refine RT.eD (x:=sv) ?_ (.pure _);show RT (do if<-isAgg lQ then Pure.pure (.agg (<-loadCells ⟨w0.heap.size,0,none⟩ (<-Go.sizeOf lQ))) else load ⟨w0.heap.size,0,none⟩) _ _ _ _;refine(fM (b:=false)).aN ?_;simp only[Bool.false_eq_true,if_false];exact jD (cell_of (J1.at d).box rfl)
  obtain⟨es,e1,e2⟩:=e9 (main:=true) (Lp _ _ _ _ _ _) hr;refine⟨es,e1,λe he=>?_⟩;have:=e2 e he;simp at this;subst this;exact i6 rfl
 refine ed (YF _ _ _ _ _ _ _) ?_;refine vY (o:= .deferred none) rfl (nw J1.hs (by omega) (by omega):iS O0 w0.heap.size w1 (w0.heap.size+1)) (λd=>Pm (J1.at d).YO) λw2 b1 b2 b3 b4=>?_
 refine ed (YE _ _ _ _ _ _ _) (.stop λw3 h3=>?_);obtain⟨d,rfl⟩:=h3;refine⟨sv,ks,rfl,rfl,by show _<=w2.heap.size;omega,λb hb=>?_,by show w2.os=_;rw[b4];exact J1.os,?_,hn,hm⟩
 .show w2.heap[b]? =_
  rw[b3 b (by omega)];exact J1.old b hb
 .exact J1.strs.keep (λb hb=>b3 b (by omega)) λb hb=>⟨hb.1,by show b<w2.heap.size;omega⟩
theorem rounds (hO:∀b,O0 b->b<w0.heap.size)(oM:O0 M)(hM:w0.heap[M]? =some (.map es c))(hm:di es c f)(hes:es.size<2^40)(L:Nat):∀(seen:Array Nat) (w:World) (tm:Array Value) (sv:Value) (ks:List ByteArray),(leftOf es seen).size=L->J w0 bx M c .ready sv ks seen w->
  ks.Nodup->(∀s,s∈ks↔Bo es seen s)->ks.length+L<=es.size->HK (w0.heap.size+2) (w0.heap.size+3) tm->
  aD PP true li (Fin O0 w0 f fr cs) (iS O0 w0.heap.size w) (gK tm (He bx w0.heap.size (w0.heap.size+1) (w0.heap.size+2)) (fr::cs)) w:=by
 induction L using Nat.strongRecOn with
 |_ L ih=>
 intro seen w tm sv ks hL hJ hn hk hlen hH;have nw:∀{w':World} {b:Nat},w0.heap.size+4<=w'.heap.size->w0.heap.size<=b->b<w0.heap.size+4->iS O0 w0.heap.size w' b:=λa b c=> .inr ⟨b,by omega⟩
 have nM:∀{w':World},iS O0 w0.heap.size w' M:= .inl oM;have Mlt:=hO M oM;rw[hH.eq]
 have nx:=ace (w0.heap.size+3) (w0.heap.size+2) (He bx w0.heap.size (w0.heap.size+1) (w0.heap.size+2)) (fr::cs) λi=>tm.getD i undef
 refine aD.step (cT nx).1 λw1 h1=>?_
 obtain⟨d,rfl⟩:=h1;have hMw:(w.at d).heap[M]? =some (.map es c):=(hJ.old M Mlt).trans hM;rcases Gz (w:=w.at d) (ty:=nxK) (hJ.at d).Xj hMw hm with⟨hl,w',ev,rt,a1,a2,a3,a4,a5⟩|⟨e,he,w',ev,rt,u,a5⟩
 .obtain⟨es',e1,e2⟩:=e9 (main:=true) nx rt
  have sz:w'.heap.size=(w.at d).heap.size:=by rw[a4]
  refine⟨_,w',es',e1,⟨by rw[sz];exact Nat.le_refl _,λb _ _=>by rw[a4],a3,a2,a1,λx hx=>?_⟩,?_⟩
  .rcases(a5 x (e2 x hx)).1 with q|q
   .exact uK (nw hJ.hs (by omega) (by omega)) q
   .exact uK nM q
  .have hup:li.up (iS O0 w0.heap.size w) (w.at d) w'=iS O0 w0.heap.size w':=tC (w:=w) (by have:=hJ.hs;omega) (by show(w.at d).heap.size<=_;rw[sz];exact Nat.le_refl _)
   rw[hup];refine ed (QP _ _ _ _ _) ?_;have J':J w0 bx M c .ready sv ks seen w':=⟨by rw[sz];exact hJ.hs,λb hb=>by rw[a4];exact hJ.old b hb,a3.trans hJ.os,by rw[a4];exact hJ.box,by rw[a4];exact hJ.YO,by rw[a4];exact hJ.lop,by rw[a4];exact hJ.Xj,hJ.strs.keep (λb _=>by rw[a4];rfl) λb hb=>by rw[sz];exact hb⟩
   refine L7 J' hn λs=>(hk s).trans ⟨λ⟨x,hx,h1,_⟩=>?_,λhs=>Af hm hl hs⟩
   rw[(hm.has s x.val).2 ⟨x,hx,h1,rfl⟩];simp
 .obtain⟨es',e1,e2⟩:=e9 (main:=true) nx rt
  have hmem:=xw he;obtain⟨path,hkey⟩:=iE (hm.keys e hmem);have hless:=tJ he;have hV:=λs=>vX (seen:=seen) hm hmem hkey s
  have hnew:path∉ks:=λhin=>by
   obtain⟨x,hx,h1,h2⟩:=(hk path).1 hin;have:=hm.uniq hx hmem (by rw[h1,hkey]);subst this;have:=(Array.mem_filter.1 he).2;simp[h2] at this
  have J1:J w0 bx M c .ready sv ks (seen.push e.born) w':=(hJ.at d).next u.size u.at_ u.rest u.os;refine⟨_,w',es',e1,⟨by rw[u.size];exact Nat.le_refl _,λb _ hb=>u.rest b λq=>hb (q▸nw hJ.hs (by omega) (by omega)),u.os,u.output,u.tape,λx hx=>?_⟩,?_⟩
  .rcases a5 x (e2 x hx) with q|q
   .exact uK (nw hJ.hs (by omega) (by omega)) q
   .exact uK nM q.1
  have hup:li.up (iS O0 w0.heap.size w) (w.at d) w'=iS O0 w0.heap.size w':=tC (w:=w) (by have:=hJ.hs;omega) (by show(w.at d).heap.size<=_;rw[u.size];exact Nat.le_refl _);rw[hup,hkey];clear hup e1 e2 rt hMw
  refine ed (ach _ _ _ _ _ _ _) ?_;have hMw:∀d,(w'.at d).heap[M]? =some (.map es c):=λd=>(J1.old M Mlt).trans hM
  have en:=acg (w0.heap.size+3) (w0.heap.size+2) path e.val (He bx w0.heap.size (w0.heap.size+1) (w0.heap.size+2)) (fr::cs) λi=>tm.getD i undef
  refine En (cT en).1 (g':=resume (kA (w0.heap.size+3) (w0.heap.size+2) path e.val (He bx w0.heap.size (w0.heap.size+1) (w0.heap.size+2)) (fr::cs) λi=>tm.getD i undef) (.tuple #[.string path,e.val])) (λd=>?_) ?_
  .have hr:=wO (J1.at d).Xj (hMw d) hm hmem
   rw[hkey] at hr;obtain⟨es',e1,e2⟩:=e9 (main:=true) en hr;refine⟨es',e1,λx hx=>?_⟩;have:=e2 x hx;simp at this;rcases this with rfl|rfl
   .exact⟨_,nw J1.hs (by omega) (by omega),dQ⟩
   .exact⟨M,nM,dQ⟩
  refine ed (acf _ _ _ _ _ _ _) ?_
  refine wl (b:=w0.heap.size+2) rfl (nw J1.hs (by omega) (by omega)) (λd=>K5 (J1.at d).lop) ?_;refine ed (X7 _ _ _ _ _ _) ?_;refine vY (o:= .loop (lZ .busy bx w0.heap.size (w0.heap.size+1))) rfl (nw J1.hs (by omega) (by omega):iS O0 w0.heap.size w' (w0.heap.size+2)) (λd=>K8 (J1.at d).lop) λw2 b1 b2 b3 b4=>?_
  have J2:=J1.loop b1 b2 b3 b4;clear J1 b1 b2 b3 b4 hMw hJ u;refine ed (YC _ _ _ _ _ _) ?_;refine wl (b:=w0.heap.size) rfl (nw J2.hs (by omega) (by omega)) (λd=>Pn (J2.at d).box) ?_;refine ed (YB _ _ _ _ _ _ _) ?_
  refine new1 (g':=G ((Bz bx w0.heap.size (w0.heap.size+2) path sv).finish (.slice (some ⟨w2.heap.size,0,none⟩) 1 1)) (FB (w0.heap.size+3) (w0.heap.size+2) path e.val (λi=>tm.getD i undef)::He bx w0.heap.size (w0.heap.size+1) (w0.heap.size+2)::fr::cs)) (os:=[.cells #[.string path] jT (0,0)]) rfl (λd=>K7 (w:=w2.at d)) λw3 a1 a2=>?_
  have J3:=J2.push a1 a2;have sz3:w3.heap.size=w2.heap.size+1:=by rw[a1];simp
  have hs2:=J2.hs;rw[tC (by omega) (by omega)];have hx:w3.heap[w2.heap.size]? =some (.cells #[.string path] jT (0,0)):=by rw[a1];simp
  refine ed (Yz _ _ _ _ _ _ _ _) ?_;refine app1 (ks:=ks++[path]) (mine:=λb=>w0.heap.size+4<=b/\b<w3.heap.size) rfl (λb hb=> .inr ⟨by omega,hb.2⟩) (λd=>Is (J3.at d).strs hx ⟨hs2,by omega⟩ (by omega)) λnv w4 c1 c2 c3 c4=>?_
  rw[tC (by omega) c1];have J4:Strs w4 (λb=>w0.heap.size+4<=b/\b<w4.heap.size) nv (ks++[path]):=c3.keep (λ_ _=>rfl) λb hb=>by omega
  have k4:∀b,b<w0.heap.size+4->w4.heap[b]? =w3.heap[b]? :=λb hb=>c2 b (by omega) λq=>by omega
  have b4:w4.heap[w0.heap.size]? =some (.cells #[sv] lQ (0,0)):=by rw[k4 _ (by omega)];exact J3.box
  refine ed (Yx _ _ _ _ _ _ _ _ _) ?_;refine vY (o:= .cells #[nv] lQ (0,0)) rfl (.inr ⟨Nat.le_refl _,by omega⟩:iS O0 w0.heap.size w4 w0.heap.size) (λd=>K6 (w:=w4.at d) b4 J4.one.1 J4.one.2) λw5 d1 d2 d3 d4=>?_
  have J5:J w0 bx M c .busy nv (ks++[path]) (seen.push e.born) w5:=by
   have r:∀b,b<w0.heap.size+4->b≠w0.heap.size->w5.heap[b]? =w3.heap[b]? :=λb hb hne=>by rw[d3 b hne,k4 b hb]
   refine⟨by omega,λb hb=>?_,by rw[d4,c4,J3.os],d2,?_,?_,?_,J4.keep (λb hb=>d3 b (by omega)) λb hb=>⟨hb.1,by rw[d1];exact hb.2⟩⟩
   .rw[r b (by omega) (by omega)];exact J3.old b hb
   .rw[r _ (by omega) (by omega)];exact J3.YO
   .rw[r _ (by omega) (by omega)];exact J3.lop
   .rw[r _ (by omega) (by omega)];exact J3.Xj
  clear J2 J3 J4 k4 b4 d1 d2 d3 d4 c1 c2 c3 c4 hx;refine ed (Yw _ _ _ _ _ _ _ _ _) ?_;refine vY (o:= .loop (lZ .ready bx w0.heap.size (w0.heap.size+1))) rfl (nw J5.hs (by omega) (by omega):iS O0 w0.heap.size w5 (w0.heap.size+2)) (λd=>Po (J5.at d).lop) λw6 f1 f2 f3 f4=>?_
  have J6:=J5.loop f1 f2 f3 f4;obtain⟨tm',JG,hg⟩:=Sx (w0.heap.size+3) (w0.heap.size+2) path e.val (He bx w0.heap.size (w0.heap.size+1) (w0.heap.size+2)) (fr::cs) λi=>tm.getD i undef
  refine ed hg (ih _ (hL▸hless) (seen.push e.born) w6 tm' nv (ks++[path]) rfl J6 ?_ (λs=>?_) ?_ JG)
  .rw[List.nodup_append]
   exact⟨hn,by simp,λa ha b hb=>by simp at hb;subst hb;exactλq=>hnew (q▸ha)⟩
  .rw[List.mem_append,hV s,hk s];simp
  .simp;omega
end
section
variable {own:Nat->Prop}{w:World}{g g':Goroutine}{Stop:(Nat->Prop)->Goroutine->World->Prop}
theorem new2 {o:Obj}(hs:g.status= .running)(h:∀d,∃es,stepG PP true g (w.at d)= .go g' {w.at d with heap:=(w.at d).heap.push o} es/\∀e∈es,∃b,own b/\EvB b e)
  (k:∀w',w'.heap=w.heap.push o->w'.os=w.os->aD PP true li Stop (λb=>own b\/(w.heap.size<=b/\b<w'.heap.size)) g' w'):aD PP true li Stop own g w:=by
 refine aD.step hs λw₁ h1=>?_
 obtain⟨d,rfl⟩:=h1;obtain⟨es,e1,e2⟩:=h d;refine⟨_,_,es,e1,⟨by show w.heap.size<=(w.heap.push o).size;simp,λb hb _=>by show(w.heap.push o)[b]? =w.heap[b]?;rw[Array.getElem?_push_lt (show b<w.heap.size from hb)];exact(Array.getElem?_eq_getElem _).symm,rfl,rfl,rfl,λe he=>by obtain⟨b,h1,h2⟩:=e2 e he;exact uK h1 h2⟩,?_⟩;exact k _ rfl rfl
end
section
variable {O0:Nat->Prop}{w0:World}{bx M c:Nat}{es:Array MapEntry}{f:ByteArray->Option Value}{fr:Frame}{cs:List Frame}
theorem Lf (hO:∀b,O0 b->b<w0.heap.size)(oM:O0 M)(obx:O0 bx){tt:TypeId}{ff:Nat×Nat}(hbx:w0.heap[bx]? =some (.cells #[.map (some M)] tt ff))(hM:w0.heap[M]? =some (.map es c))(hm:di es c f)(hes:es.size<2^40):
  aD PP true li (Fin O0 w0 f fr cs) O0 (sQ0 bx fr cs) w0:=by
 have lbx:=hO bx obx;have lM:=hO M oM;refine ed (EG _ _ _) (Mg (f:=pb) (UV _ _ _) (λw=>wP _ _) λw1 h1 o1 t1=>?_);have s1:w1.heap.size=w0.heap.size+1:=by rw[h1];simp
 have e1:(λb=>O0 b\/b=w0.heap.size)=iS O0 w0.heap.size w1:=funext λb=>propext (by
  unfold iS;exact or_congr Iff.rfl ⟨λh=>⟨by omega,by omega⟩,λh=>by omega⟩)
 rw[e1];refine ed (UT _ _ _ _) ?_;refine new1 (g':=sK0 bx w0.heap.size (w0.heap.size+1) (w0.heap.size+2) fr cs) (os:=[.deferred (some []),.loop (lZ .ready bx w0.heap.size (w0.heap.size+1))]) rfl (λd=>?_) λw2 h2 o2=>?_
 .have:=aaA (bx:=bx) (bS:=w0.heap.size) (w:=w1.at d) (fr:=fr) (cs:=cs)
  have e:(w1.at d).heap.size=w0.heap.size+1:=s1;rw[e] at this;exact this
 have h2':w2.heap=(w1.heap.push (.deferred (some []))).push (.loop (lZ .ready bx w0.heap.size (w0.heap.size+1))):=h2;have s2:w2.heap.size=w0.heap.size+3:=by rw[h2'];simp[s1]
 rw[tC (by omega) (by omega)];have Wo:∀b,b<w0.heap.size->w2.heap[b]? =w0.heap[b]? :=λb hb=>by
  rw[h2',Array.getElem?_push_lt (by simp;omega),<-Array.getElem?_eq_getElem,Array.getElem?_push_lt (by omega),<-Array.getElem?_eq_getElem,h1,Array.getElem?_push_lt hb,<-Array.getElem?_eq_getElem]
 have r0:w2.heap[w0.heap.size]? =some (.cells #[.slice none 0 0] lQ (0,0)):=by
  rw[h2',Array.getElem?_push_lt (by simp;omega),<-Array.getElem?_eq_getElem,Array.getElem?_push_lt (by omega),<-Array.getElem?_eq_getElem,h1];simp[Value.cells]
 have r1:w2.heap[w0.heap.size+1]? =some (.deferred (some [])):=by
  rw[h2',Array.getElem?_push_lt (by simp;omega),<-Array.getElem?_eq_getElem,<-s1];simp
 have r2:w2.heap[w0.heap.size+2]? =some (.loop (lZ .ready bx w0.heap.size (w0.heap.size+1))):=by
  have e:w0.heap.size+2=(w1.heap.push (Obj.deferred (some []))).size:=by simp[s1]
  rw[h2',e];exact Array.getElem?_push_size
 refine ed (Va _ _ _ _ _ _) ?_;refine En (g':=resume (sK1 bx w0.heap.size (w0.heap.size+1) (w0.heap.size+2) fr cs) (.map (some M))) (cT (Ln _ _ _ _ _ _)).1 (λd=>?_) ?_
 .have hr:RT (kd.load OA (pb bx)).sem (w2.at d) (.value (.map (some M))) (w2.at d) #[⟨.cell ⟨bx,0,none⟩,false,false⟩]:=by
   refine RT.eD (x:= .map (some M)) ?_ (.pure _);show RT (do if<-isAgg OA then Pure.pure (.agg (<-loadCells ⟨bx,0,none⟩ (<-Go.sizeOf OA))) else load ⟨bx,0,none⟩) _ _ _ _;refine(fM (b:=false)).aN ?_;simp only[Bool.false_eq_true,if_false];exact jD (cell_of (w:=w2.at d) ((Wo bx lbx).trans hbx) rfl)
  obtain⟨es,e1,e2⟩:=e9 (main:=true) (Ln _ _ _ _ _ _) hr;refine⟨es,e1,λe he=>?_⟩;have:=e2 e he;simp at this;subst this;exact⟨bx,.inl obx,i6 rfl⟩
 refine ed (U8 _ _ _ _ _ _ _) ?_;refine new2 (o:= .mapIter (some M) c #[] c) (g':=resume (U9 bx w0.heap.size M (w0.heap.size+1) (w0.heap.size+2) fr cs) (pb (w0.heap.size+3))) (cT (Ll _ _ _ _ _ _ _)).1 (λd=>?_) λw3 h3 o3=>?_
 .have hr:=wM (w:=w2.at d) (t:=OA) (kt:=9) (vt:=164) (by kernel_rfl) ((Wo M lM).trans hM)
  have e:(w2.at d).heap.size=w0.heap.size+3:=s2;rw[e] at hr;obtain⟨es,e1,e2⟩:=e9 (main:=true) (Ll _ _ _ _ _ _ _) hr;refine⟨es,e1,λx hx=>?_⟩;have:=e2 x hx;simp at this;subst this;exact⟨M,.inl oM,dQ⟩
 have s3:w3.heap.size=w0.heap.size+4:=by rw[h3];simp[s2]
 rw[tC (by omega) (by omega)];obtain⟨tm,hH,hg⟩:=U7 bx w0.heap.size M (w0.heap.size+3) (w0.heap.size+1) (w0.heap.size+2) fr cs;have k3:∀b,b<w0.heap.size+3->w3.heap[b]? =w2.heap[b]? :=λb hb=>by rw[h3,Array.getElem?_push_lt (by omega)];exact(Array.getElem?_eq_getElem (by omega)).symm
 refine ed hg (rounds hO oM hM hm hes es.size #[] w3 tm (.slice none 0 0) [] (by simp[leftOf]) ⟨by omega,λb hb=>by rw[k3 b (by omega)];exact Wo b hb,by rw[o3,o2,o1],by rw[k3 _ (by omega)];exact r0,by rw[k3 _ (by omega)];exact r1,by rw[k3 _ (by omega)];exact r2,by rw[h3,<-s2];simp,.inl ⟨rfl,rfl⟩⟩ (by simp) (λs=>by simp;exact Ae s) (by simp) hH)
end
theorem Jl {H own:Nat->Prop}{π:Nat->Nat}{wL w w':World}(h:Link H no own no π wL w)(hs:w.heap.size<=w'.heap.size)(hk:∀b,own b->w'.heap[b]? =w.heap[b]?):
  ∃ce,Link H no own no ce wL w'/\∀b,b<wL.heap.size->ce b=π b:=by
 obtain⟨ce,h1,h2,_⟩:=h.rely (w₁:={w' with tape:=w.tape}) hs rfl λb _ hb=>hb.elim (hk b) False.elim
 exact⟨ce,⟨h1.inj,h1.zero,h1.lt,h1.lw,⟨h1.wr.inj,rfl,rfl,h1.wr.lt,h1.wr.ok,h1.wr.hid,h1.wr.nU,h1.wr.low,h1.wr.yy⟩,h1.own,h1.ro⟩,λb hb=>(h2 b hb).symm⟩
def Ks (f:ByteArray->Option Value)(wL:World)(v:Value)(w':World):Prop:=∃ks:List ByteArray,ks.Nodup/\(∀s,s∈ks↔f s≠none)/\
 ((
   v= .slice none 0 0/\ks=[]/\∃t d,w'=ax wL t d)\/∃cap,v= .slice (some ⟨wL.heap.size,0,none⟩) ks.length cap/\ks.length<=cap/\
   ∃t d,w'=ax {wL with heap:=wL.heap.push (.cells (ks.map Value.string++List.replicate (cap-ks.length) (Value.string ⟨#[]⟩)).toArray jT (0,0))} t d)
theorem JP (bx:Nat)(c:Frame)(CS:List Frame):G (Frame.enter PP Dv #[.slice none 0 0,mV bx] .normal) (c::CS)=sQ0 bx c CS:=by
 unfold sQ0 MY;rfl
theorem YV {E:ah.Env}{wL:World}{bx m c:Nat}{es:Array MapEntry}{f:ByteArray->Option Value}{tt:TypeId}{ff:Nat×Nat}(hbx:wL.heap[bx]? =some (.cells #[.map (some m)] tt ff))(hM:wL.heap[m]? =some (.map es c))(hm:di es c f)
  (hfix:∀e∈es,∀r,¬Value.Has r e.key/\¬Value.Has r e.val) (hes:es.size<2^40):ah.CC E Dv #[.slice none 0 0,mV bx] (Ks f wL) wL:=by
 intro fr CS π M tr hp ha hk;have vbx:gp E.H wL bx:=ha (mV bx) (by simp) bx (.FQ (x:=pb bx) (by simp) (.ptr rfl));have NO:(#[.slice none 0 0,mV bx]:Array Value).map (Value.ren π)=#[.slice none 0 0,mV (π bx)]:=by simp[mV,oG,aZ,pb]
 rw[NO,JP] at hp;obtain⟨Shun,We,w,hz,hl0,ZC,ho,KA⟩:=hp.ex
 let KK:Nat->Prop:=λq=>∃o,E.K q=some o
 have kk:∀q,KK q->q<w.heap.size/\∀l,ll q l->¬Shun l:=λq ⟨o,hq⟩=>⟨(Array.getElem?_eq_some_iff.1 (KA q o hq).2.1).1,(KA q o hq).2.2⟩
 obtain⟨own,hown⟩:∃own:Nat->Prop,own=λb=>We b\/KK b:=⟨_,rfl⟩
 have hl:Link E.H ah.no own ah.no π wL w:=by rw[hown];exact hl0.wider λb hb=> .inl hb
 have hA:Apart Shun own w:=by rw[hown];exact ZC.union KK kk
 have L5:∀q,KK q->own q:=λq hq=>by rw[hown];exact .inr hq
 have vm:gp E.H wL m:=hl.lw.RY bx _ hbx vbx.2 m (.cells (v:= .map (some m)) (by simp) .map);have ahv:=(hl.wr.ok bx _ hbx vbx.2 id).2;have hM':=(hl.wr.ok m _ hM vm.2 id).2;rw[oF (o:= .map es c) λr hr=>absurd hr (by
  intro hr;cases hr with
  |key he h=>exact(hfix _ he r).1 h
  |val he h=>exact(hfix _ he r).2 h)] at hM'
 have ahu:w.heap[π bx]? =some (.cells #[.map (some (π m))] tt ff):=by rw[ahv];simp[dA]
 obtain⟨N1,M1,t1,g1,w1,r1,hz1,⟨s,⟨⟨sv,ks,rfl,rfl,hsz,hold,hos,hstr,hn,hmem⟩,_,u1⟩,hA1⟩,o1,_⟩:=kW hz (vL (oP (λ_=>False) (Lf (f:=f) (fr:=fr) (cs:=CS) hA.lt (hl.own m vm id) (hl.own bx vbx id) ahu hM' hm hes) λ_ h=>h.elim) hA);have hk1:∀b,own b->w1.heap[b]? =w.heap[b]? :=λb hb=>hold b (hA.lt b hb)
 have abE:∀(ce:Nat->Nat),(∀b,b<wL.heap.size->ce b=π b)->∀b,b<wL.heap.size->¬E.H b->¬KK (ce b):=λce ag b hb hh ⟨o,hq⟩=>by
  rw[ag b hb] at hq;exact(KA _ o hq).1 (hl0.own b ⟨hb,hh⟩ id)
 rcases hstr with⟨rfl,rfl⟩|⟨sk,cap,rfl,hsk,hle,hrow⟩
 .obtain⟨ce,hl',ag⟩:=Jl hl hsz hk1
  have fin:=hk (.slice none 0 0) wL ce M1 t1 ⟨wL.tape,wL.drawn,[],hn,hmem,.inl ⟨rfl,rfl,wL.tape,wL.drawn,rfl⟩⟩ ⟨Shun,_,w1,(by
   have e:Value.ren ce (.slice none 0 0)= .slice none 0 0:=by simp
   rw[e];exact hz1),(hl'.wider (λb hb=> .inl hb)).less KK (λb hb=>abE ce ag b hb.1 hb.2),hA1.part (λb hb=>hb.1),⟨by rw[o1];exact ho.1,u1.trans ho.2⟩,λq o hq=>⟨λhb=>hb.2 ⟨o,hq⟩,(hk1 q (L5 q ⟨o,hq⟩)).trans (KA q o hq).2.1,(KA q o hq).2.2⟩⟩ (λr hr=>by cases hr) ag (Nat.le_refl _)
  exact E.back _ _ _ _ _ r1 fin
 .obtain⟨ce,hl',ag,em⟩:=xu (m:=sk) hl hsz hk1 (by omega) hsk.2 hrow trivial (λr hr=>by
   cases hr with
   |cells hv h=>
    simp only[List.mem_toArray,List.mem_append,List.mem_map,List.mem_replicate] at hv;rcases hv with⟨x,_,rfl⟩|⟨_,rfl⟩<;>cases h) (λi hi=>hi)
  have fin:=hk (.slice (some ⟨wL.heap.size,0,none⟩) ks.length cap) _ ce M1 t1 ⟨wL.tape,wL.drawn,ks,hn,hmem,.inr ⟨cap,rfl,hle,wL.tape,wL.drawn,rfl⟩⟩ ⟨Shun,_,w1,(by
   have e:Value.ren ce (.slice (some ⟨wL.heap.size,0,none⟩) ks.length cap)= .slice (some ⟨sk,0,none⟩) ks.length cap:=by simp[aZ,em]
   rw[e];exact hz1),(hl'.wider (λb hb=>hb.elim .inl λe=> .inr ⟨by omega,e▸hsk.2⟩)).less KK (λb hb hq=>by
    have hb1:b<wL.heap.size+1:=by have:=hb.1;simpa using this
    have hlt:=(kk _ hq).1
    by_cases hlt2:b<wL.heap.size
    .exact abE ce ag b hlt2 hb.2 hq
    .have:b=wL.heap.size:=by omega
     rw[this,em] at hlt;omega),hA1.part (λb hb=>hb.1),⟨by rw[o1];exact ho.1,u1.trans ho.2⟩,λq o hq=>⟨λhb=>hb.2 ⟨o,hq⟩,(hk1 q (L5 q ⟨o,hq⟩)).trans (KA q o hq).2.1,(KA q o hq).2.2⟩⟩ (λr hr=>by
    cases hr with
    |slice e=>
     have e:wL.heap.size=r:=e;subst e;exact⟨by show wL.heap.size<(wL.heap.push _).size;simp,λhh=>by have:=hl.lw.low _ (.inl hh);omega⟩) ag (by simp)
  exact E.back _ _ _ _ _ r1 fin
theorem ej {E:ah.Env}{f:FuncId}{k:List Item}{R:Act->World->Prop}{a:Act}{wL:World}{ops:Array Oper}{i:Nat}{rest:List Nat}{o:Oper}(x:Operand)(ho:ops[i]? =some o)(hop:o.op= .assign x\/o.op= .move x)(hg:o.guard=none)(h:ah.CI E f (.inRegion ops rest::k) R (a.put o.dst (a.eval x)) wL)(qk:jZ PP S0 E0 true o=true:=by kernel_rfl):ah.CI E f (.inRegion ops (i::rest)::k) R a wL:=by
 refine ah.TD ho qk hg λt d=>?_
 have e:(execOp a.eval o).run PP (ax wL t d)= .ok (.value (a.eval x)) (ax wL t d):=by
  unfold execOp;rcases hop with hop|hop<;>rw[hop]<;>rfl
 rw[e];exact(ah.nr t d).2 h
theorem jb {E:ah.Env}{f:FuncId}{k:List Item}{R:Act->World->Prop}{a:Act}{wL:World}{ops:Array Oper}{i:Nat}{rest:List Nat}{o:Oper}{f2:FuncId}(xs:Array Operand)(args:Array Value){R2:Value->World->Prop}(ho:ops[i]? =some o)(hg:o.guard=none)(hxs:xs.all nJ=true)
  (hrun:∀(b:Act) (w:World),(execOp b.eval o).runT PP w #[]=(.ok (.enter f2 (xs.map b.eval)) w,#[])) (ha:xs.map a.eval=args) (hcc:ah.CC E f2 args R2 wL)
  (h:∀v w',R2 v w'->wL.heap.size<=w'.heap.size->ah.CI E f (.inRegion ops rest::k) R (a.put o.dst v) w'):ah.CI E f (.inRegion ops (i::rest)::k) R a wL:=
 ah.R4 ho hg hxs hrun (ha▸hcc) h
theorem FP {E:ah.Env}{wL:World}{bx:Nat}{f:ByteArray->Option Value}(h:ah.CC E Dv #[.slice none 0 0,mV bx] (Ks f wL) wL):ah.CC E 134 #[mV bx] (Ks f wL) wL:=by
 refine ah.k9 Tryz.func134 rfl ?_;refine ah.cQ (ah.dz (ej _ rfl (.inl rfl) rfl (ah.co ?_)));refine ah.cQ (ah.dz (ej _ rfl (.inr rfl) rfl ?_))
 refine jb (f2:=Dv) #[.const (.slice none 0 0),.tmp 3] #[.slice none 0 0,mV bx] (R2:=Ks f wL) rfl rfl (by kernel_rfl) (λe w=>by kernel_rfl) (by kernel_rfl) h λv w' hR _=>?_
 refine ej _ rfl (.inl rfl) rfl (ah.co (ah.FK ?_));exact⟨v,by kernel_rfl,hR⟩
end Sq
end aF
end
section
open Go.RowKit Go.Lib Go.Sort
def ec (l:List cV):List (List UInt8):=(l.filter λf=>f.set !=3).map (·.path)
def eZ (l:List (List UInt8)):List Value:=l.map encStr
def oW (l:List cV):Nat:=(compact ((ec l).mergeSort λx y=>decide (x<=y))).length
theorem iG:Elem Tryz.prog 45 9 1 16:=⟨Tryz.underlying45,by kernel_rfl,by omega⟩
theorem AN (fs:List cV)(k:Nat)(hk:k<fs.length):ec (fs.take (k+1))=if fs[k].set=3 then ec (fs.take k) else ec (fs.take k)++[fs[k].path]:=by
 unfold ec;rw[List.take_succ_eq_append_getElem hk,List.filter_append,List.map_append]
 by_cases h:fs[k].set=3
 .simp[h]
 .simp[h]
theorem uw (l:List cV):(ec l).length<=l.length:=by unfold ec;rw[List.length_map];exact List.length_filter_le _ _
theorem xK (w:World)(os:Array Obj):aO [] w (grow w os):=
 ⟨rfl,rfl,rfl,by simp[grow],λk hk _=>by simp only[grow];rw[Array.getElem?_append_left hk]⟩
theorem pI (w:World)(n:Nat):aO [] w (Sort.ahead w n):=⟨rfl,rfl,rfl,Nat.le_refl _,λ_ _ _=>rfl⟩
theorem nm {α:Type}[Inhabited α](enc:α->Value)(w:World)(blk off:Nat)(d:Array α):aO [blk] w (putRow enc w blk off d):=
 ⟨rfl,rfl,rfl,by rw[size_putRow];exact Nat.le_refl _,λk hk hS=>by
  simp only[putRow,mapBlock,Array.getElem?_modify];rw[if_neg (by simpa usingλe=>hS (by simp[e]))]⟩
theorem JZ (base:Nat)(v:Value)(fs:List cV)(w:World)(hv:w.ownsRow base 107 3 v fs.length (gU fs))(hl:fs.length<=1000):
  Calls Tryz.prog 75 #[v] w λe w'=>e= .returned (.int .i64 (oW fs))/\aO [] w w':=by
 obtain⟨ad,cap,hv'⟩:=bQ hv;subst hv';go_enter Tryz.func75,Tryz.ntmps75;go_wp2_with fail
 go_loopw [3,8] (λu c wr=>∃k:Nat,c= .int .i64 k/\k<=fs.length/\aO [] w wr/\wr.ownsRow w.heap.size 9 1 u (ec (fs.take k)).length (eZ (ec (fs.take k)))) (λ_ c _=>fs.length-(intOf c).toNat)
 case atStart=>exact⟨0,rfl,by omega,aO.refl _ _,World.ownsRow_nil _ _ _ _⟩
 case round=>
  obtain⟨k,rfl,hk,fk,ho⟩:=hrel;have hvk:=fk.owns hv
  by_cases hlt:k<fs.length
  .obtain⟨g,cur,rfl,hg,hle,_,hcs,htk⟩:=eU hvk
   have hat:((cur.toList.drop (k*3)).take 3)=bR fs[k].set fs[k].path fs[k].content:=by
    rw[ck htk _ _,xJ fs k hlt]
   have hstep:=AN fs k hlt;have hpl:(ec (fs.take k)).length<=1000:=by have:=uw (fs.take k);rw[List.length_take] at this;omega
   generalize fs[k]=f at hat hstep;have HST:Hid (ec (fs.take (k+1))=if f.set=3 then ec (fs.take k) else ec (fs.take k)++[f.path]):=hstep;generalize ec (fs.take k)=ps at*;clear hstep hcs htk;go_wp2_with (with_reducible first|refine ay 107 rfl ?_|refine az rfl ?_|refine af 107 rfl ?_)
   refine al.go (bU rfl 107 _ rfl g (k*3) rfl kP 3 eK _ _ hg (bR f.set f.path f.content) hat rfl ?_);clear hat hg;go_wp2_with (with_reducible first|refine az rfl ?_|refine af 107 rfl ?_);refine al.go (bi rfl 107 rfl zr mj ?_);intro w4 b5 l5 f4 r5;go_wp2_with (with_reducible first|refine az rfl ?_|refine af 107 rfl ?_)
   refine al.go (bK rfl 107 _ _ rfl _ 0 rfl _ rfl 3 eK ?_ ?_ _ _ r5 ?_ ?_)
   .rfl
   .simp[bR,Value.oneCell']
   .decide
   intro w5 f5 q5;rw[bH _ _ (by rfl)] at q5;have nF:Row w5 b5 (bR f.set f.path f.content).toArray 107:=q5;have f45:=f4.trans f5 (by simpa using l5);have mL:=fk.trans f45;have Bx:=f45.owns ho;have c0:w5.cell? ⟨b5,0,none⟩=some (.int .i64 f.set):=by rw[nF.cell];rfl
   have c1:w5.cell? ⟨b5,1,none⟩=some (.string (aB f.path)):=by rw[nF.cell];rfl
   clear q5 r5 f4 f5 f45 fk ho l5 hvk nF
   by_cases h3:f.set=3
   .have Gb:Hid (ec (fs.take (k+1))=ps):=by show _=_;rw[HST.out,if_pos h3]
    have h3':((f.set:Int))=3:=by omega
    rw[h3'] at c0;clear HST;go_wp2_with fail
    go_roundw
    case rel=>exact⟨k+1,by go_num,by omega,mL,by rw[Gb.out];exact Bx⟩
    case measure=>simp[intOf];omega
   .have Gb:Hid (ec (fs.take (k+1))=ps++[f.path]):=by show _=_;rw[HST.out,if_neg h3]
    have h3':((f.set:Int)==3)=false:=by rw[beq_eq_false_iff_ne];omega
    clear HST;go_wp2_with (with_reducible first|refine bO rfl ?_|refine bP rfl ?_);refine al.go (fU rfl 45 9 1 16 iG _ rfl (.string (aB f.path)) rfl rfl ?_);intro w8 b8 l8 f8 r8;go_wp2_with (with_reducible first|refine bO rfl ?_|refine bP rfl ?_);have Ee:=f8.owns Bx
    have hbase:w.heap.size<=w8.heap.size:=by have:=mL.size;have:=f8.size;omega
    refine al.go (iz rfl 45 9 1 16 iG _ _ rfl w.heap.size u3 _ _ rfl Ee b8 1 1 [.string (aB f.path)] rfl _ _ r8 rfl rfl (by simp[Value.oneCell']) (by omega) (by omega) (by omega) hbase ?_);intro g' cap' w9 JB f9 _;have Ry:=(mL.trans f8).trans f9 (by intro j hj;right;simp at hj;exact(Ee.lt j hj).1);clear Bx Ee r8 f8 f9 l8 mL hbase c0 c1;go_wp2_with fail
    go_roundw
    case rel=>
     refine⟨k+1,by go_num,by omega,Ry,?_⟩;rw[Gb.out];simpa [eZ,aB] using JB
    case measure=>simp[intOf];omega
  .have HC:Hid (oW fs=(compact ((ec fs).mergeSort λx y=>decide (x<=y))).length):=rfl
   rw[List.take_of_length_le (by omega)] at ho;have hpl:=uw fs;generalize ec fs=ps at*;have hsz:∀k,u3.ownBlock=some k->w.heap.size<=k/\k<wr.heap.size:=λk hk=>ho.lt k hk
   rcases ho.2 with⟨rfl,h0⟩|⟨g,c,cur,rfl,hgb,hgh,hnc,_,hcs,htk⟩
   .have hp0:ps=[]:=List.length_eq_zero_iff.1 h0
    subst hp0;have HZ:Hid (oW fs=0):=by show _=_;rw[HC.out,List.mergeSort_nil];rfl
    go_wp2_with fail;refine(Tryz.slices_Sort_string_none none 0 wr).mono ?_;rintro e w6 ⟨rfl,rfl⟩;go_wp2_with fail;refine(Tryz.slices_Compact_string_empty none 0 w6).mono ?_;rintro e w7 ⟨rfl,rfl⟩;go_wp2_with fail;go_ret;exact⟨by rw[HZ.out];rfl,fk⟩
   .have hfg:w.heap.size<=g:=hgb
    have hlt2:g<wr.heap.size:=(Array.getElem?_eq_some_iff.1 hgh).1;have hH:Holds encStr wr g 0 ps.toArray:=λj hj=>by
     have hj':j<ps.length:=by simpa using hj
     refine⟨?_,Lib.frozen_of_heap hgh _⟩;rw[Lib.cell_of_heap hgh];have h1:(cur.toList.take (ps.length*1))[j]? =(eZ ps)[j]? :=by rw[htk]
     rw[List.getElem?_take_of_lt (by omega)] at h1;rw[Nat.zero_add,<-Array.getElem?_toList,h1,getElem!_pos ps.toArray j hj];simp[eZ,hj']
    clear ho hsz hcs htk hgh;go_wp2_with fail;refine(Tryz.slices_Sort_string g 0 c ps wr hH hlt2 (by omega)).mono ?_;rintro e w6 ⟨rfl,m,os,OR⟩;have hsl:(ps.mergeSort λx y=>decide (x<=y)).length=ps.length:=List.length_mergeSort _;have hH6:Holds encStr w6 g 0 (ps.mergeSort λx y=>decide (x<=y)).toArray:=by
     rw[OR];exact holds_grow _ _ _ _ _ _ (by rw[size_putRow];exact hlt2) (holds_putRow _ _ _ _ _ _ (holds_ahead _ _ _ _ _ _ hH) (by simp))
    have f6:aO [g] wr w6:=by
     rw[OR];exact(((pI wr m).mono (T:=[g]) (by simp)).trans (nm encStr _ g 0 _) (λi hi=> .inl hi)).trans (xK _ _)
    have vo:aO [] w w6:=fk.trans f6 (by simpa using hfg);generalize (ps.mergeSort λx y=>decide (x<=y))=qs at*;clear OR hH f6;go_wp2_with fail;have hc:=Tryz.slices_Compact_string g 0 c qs w6 hH6 (by omega) (by omega);rw[hsl] at hc;refine hc.mono ?_;rintro e w7 ⟨rfl,q,hw7⟩;have f7:aO [g] w6 w7:=by
     rw[hw7];exact((pI w6 q).mono (T:=[g]) (by simp)).trans (nm encStr _ g 0 _) (λi hi=> .inl hi)
    have yB:aO [] w w7:=vo.trans f7 (by simpa using hfg);clear hw7 f7 hc hH6;go_wp2_with fail;go_ret;exact⟨by rw[HC.out];rfl,yB⟩
end
section
open Go.RowKit Go.Lib
theorem zi:Tryz.prog.built 103 [(0,.int .i64 3)]=some (dL 3 ⟨#[]⟩):=by kernel_rfl
def KG:Value:= .agg (dL 0 ⟨#[]⟩)
theorem zq:(Tryz.prog.info? 103).map (·.zero)=some (some KG):=by kernel_rfl
def DS.pending (x:DS)(n:Nat):Bool:=(x.content n 3 ⟨#[]⟩).isSome
theorem ib (w:World):Calls Tryz.prog 93 #[] w λe w'=>e= .returned (.agg (dL 3 ⟨#[]⟩))/\aO [] w w':=by
 go_enter Tryz.func93,Tryz.ntmps93;go_wp2_with (with_reducible first|refine az rfl ?_|refine bC 103 rfl ?_|refine af 103 rfl ?_);refine al.go (bi rfl 103 rfl KG zq ?_);intro w1 b l1 f1 r1;go_wp2_with (with_reducible first|refine az rfl ?_|refine bC 103 rfl ?_|refine af 103 rfl ?_)
 refine al.go (cx rfl (.agg (dL 3 ⟨#[]⟩)) w1 (gV _ _ rfl _ zi) ?_);go_wp2_with (with_reducible first|refine af 103 rfl ?_);refine al.go (bK rfl 103 _ _ rfl _ 0 rfl _ rfl 2 eJ ?_ ?_ _ _ r1 ?_ ?_)
 .rfl
 .simp[dL,Value.oneCell']
 .decide
 intro w2 f2 q2;rw[bH _ _ (by rfl)] at q2;have q2':Row w2 b (dL 3 ⟨#[]⟩) 103:=q2;have fw:=f1.trans f2 (by simp;exact l1);clear q2;go_wp2_with fail;exact lA rfl b rfl rfl _ _ q2' gP (by exact eJ) ⟨rfl,fw⟩
theorem CW (d bl n:Nat)(vw:Value)(x:DS)(w:World)(h:bv w d bl n vw x):Calls Tryz.prog 57 #[.pointer (some ⟨d,0,none⟩)] w λe w'=>e= .returned (.bool (x.pending n))/\aO [] w w':=by
 have HP:Hid (x.pending n=(x.content n 3 ⟨#[]⟩).isSome):=rfl;go_enter Tryz.func57,Tryz.ntmps57;go_wp2_with fail;refine(ib w).mono ?_;rintro e w1 ⟨rfl,f1⟩;have h1:=h.new f1;go_wp2_with fail;refine(sw d bl n vw x 3 ⟨#[]⟩ w1 h1).mono ?_;rintro e w2 ⟨rfl,f2⟩;have fw:=f1.trans f2;generalize x.content n 3 ⟨#[]⟩=r at*;go_wp2_with fail;go_ret
 exact⟨by rw[HP.out];rfl,fw⟩
structure aQ (w:World)(F:List Nat)(s d n:Nat)(x:DS):Prop where
 row:Row w s #[.pointer (some ⟨d,0,none⟩)] 96
 disk:bI w F d n x
 ne:s∉F
theorem aQ.new {w w':World}{F:List Nat}{s d n:Nat}{x:DS}(h:aQ w F s d n x)(f:aO [] w w'):aQ w' F s d n x:=
 ⟨f.row h.row,h.disk.new f,h.ne⟩
theorem aQ.cell {w:World}{F:List Nat}{s d n:Nat}{x:DS}(h:aQ w F s d n x):w.cell? ⟨s,0,none⟩=some (.pointer (some ⟨d,0,none⟩)):=by rw[h.row.cell];rfl
theorem aQ.xW {w:World}{F:List Nat}{s d n:Nat}{x:DS}(h:aQ w F s d n x):∃bl vw,bv w d bl n vw x:=by
 obtain⟨bl,vw,h,_⟩:=h.disk;exact⟨bl,vw,h⟩
theorem Fa (n:Int)(w:World):Calls Tryz.prog 71 #[.int .i64 n] w λe w'=>e= .returned (.bool (decide (16<=n)&&decide (n<=400)))/\w'=w:=by
 go_enter Tryz.func71,Tryz.ntmps71
 by_cases h1:16<=n<;>by_cases h2:n<=400
 all_goals
  have e1:Hid ((decide (16<=n)&&decide (n<=400))=(decide (16<=n)&&decide (n<=400))):=rfl;simp only[h1,h2,decide_true,decide_false] at e1⊢;go_wp2_with fail;go_ret;simp
theorem qH (n:Int)(w:World):Calls Tryz.prog 74 #[.int .i64 n] w λe w'=>e= .returned (.bool (n==0||n==1))/\w'=w:=by
 go_enter Tryz.func74,Tryz.ntmps74;cases h1:(n==0)<;>cases h2:(n==1)
 all_goals
  go_wp2_with fail;go_ret;simp[h1,h2]
theorem gT (F:List Nat)(s d n:Nat)(x:DS)(w:World)(h:aQ w F s d n x):Calls Tryz.prog 44 #[.pointer (some ⟨s,0,none⟩)] w λe w'=>e= .returned (.bool false)/\w'=w:=by
 have c0:=h.cell;go_enter Tryz.func44,Tryz.ntmps44;go_wp2_with fail;go_ret;exact⟨rfl,rfl⟩
theorem qI (F:List Nat)(s d n:Nat)(x:DS)(w:World)(h:aQ w F s d n x):Calls Tryz.prog 46 #[.pointer (some ⟨s,0,none⟩)] w λe w'=>e= .returned (.bool x.failed)/\w'=w:=by
 have c0:=h.cell;obtain⟨bl,vw,hd⟩:=h.xW;go_enter Tryz.func46,Tryz.ntmps46;go_wp2_with fail;refine(gT F s d n x w h).mono ?_;rintro e w1 ⟨rfl,rfl⟩;go_wp2_with fail;refine(Fx d bl n vw x w1 hd).mono ?_;rintro e w2 ⟨rfl,rfl⟩;go_wp2_with fail;go_ret;exact⟨rfl,rfl⟩
theorem ma (F:List Nat)(s d n:Nat)(x:DS)(w:World)(h:aQ w F s d n x):Calls Tryz.prog 54 #[.pointer (some ⟨s,0,none⟩)] w λe w'=>e= .returned (.int .i64 (if x.failed then 3 else if x.pending n then 4 else 0))/\aO [] w w':=by
 have c0:=h.cell;obtain⟨bl,vw,hd⟩:=h.xW;go_enter Tryz.func54,Tryz.ntmps54;go_wp2_with fail;refine(qI F s d n x w h).mono ?_;rintro e w1 ⟨rfl,rfl⟩;have HO:Hid ((if x.failed then(3:Int) else if x.pending n then 4 else 0)=(if x.failed then(3:Int) else if x.pending n then 4 else 0)):=rfl;cases hf:x.failed with
 |true=>
  go_wp2_with fail;go_ret;exact⟨by simp,aO.refl _ _⟩
 |false=>
  go_wp2_with fail;refine(CW d bl n vw x w1 hd).mono ?_;rintro e w2 ⟨rfl,f2⟩;cases hp:x.pending n with
  |true=>
   go_wp2_with fail
   all_goals
    go_ret;exact⟨by simp,f2⟩
  |false=>
   go_wp2_with fail
   all_goals
    go_ret;exact⟨by simp,f2⟩
theorem DU (d:Nat):Tryz.prog.built 96 [(0,.pointer (some ⟨d,0,none⟩))]=some #[.pointer (some ⟨d,0,none⟩)]:=by kernel_rfl
theorem AA (b:ByteArray)(n:Nat)(w:World)(hb:b.size=64*n)(h16:16<=n)(JH:n<=400):
  Calls Tryz.prog 72 #[.string b] w λe w'=>∃s d F,e= .returned (.pointer (some ⟨s,0,none⟩))/\aQ w' F s d n (DS.fresh b.data.toList)/\aO [] w w'/\bL [] F w/\w.heap.size<=s:=by
 go_enter Tryz.func72,Tryz.ntmps72;go_wp2_with (with_reducible first|refine bC 96 rfl ?_|refine bG rfl ?_);refine(Dk b n w hb h16 JH).mono ?_;rintro e w1 ⟨d,F,rfl,hd,f1,g1⟩;go_wp2_with (with_reducible first|refine bC 96 rfl ?_|refine bG rfl ?_);refine al.go (cx rfl (.agg #[.pointer (some ⟨d,0,none⟩)]) w1 (gV _ _ rfl _ (DU d)) ?_)
 go_wp2_with (with_reducible first|refine bG rfl ?_);refine al.go (ij rfl 96 _ rfl (.agg #[.pointer (some ⟨d,0,none⟩)]) rfl ?_);intro w2 s l2 f2 r2;have hd2:=hd.new f2;have fw:=f1.trans f2;have hs:s∉F:=λhF=>by have:=hd.lt s hF;omega
 go_wp2_with fail;go_ret;exact⟨s,d,F,rfl,⟨r2,hd2,hs⟩,fw,g1,by have:=f1.size;omega⟩
theorem yX (n:Nat)(h:1<=n):(ez n).length=64*n:=by
 unfold ez;rw[List.length_append,m7,List.length_replicate];omega
theorem GN (n:Nat)(w:World)(h16:16<=n)(JH:n<=400):
  Calls Tryz.prog 40 #[.int .i64 n] w λe w'=>∃s d F,e= .returned (.tuple #[.pointer (some ⟨s,0,none⟩),.int .i64 0])/\aQ w' F s d n (DS.fresh (ez n))/\aO [] w w'/\bL [] F w/\w.heap.size<=s:=by
 go_enter Tryz.func40,Tryz.ntmps40;go_wp2_with fail;refine(Fa n w).mono ?_;rintro e w1 ⟨rfl,rfl⟩;have e1:(decide (16<=(n:Int))&&decide ((n:Int)<=400))=true:=by
  rw[decide_eq_true (by omega),decide_eq_true (by omega)];rfl
 rw[e1];go_wp2_with fail;refine(JR n w1 (by omega) JH).mono ?_;rintro e w2 ⟨rfl,f2⟩;have hl:=yX n (by omega);go_wp2_with fail;refine(AA ⟨(ez n).toArray⟩ n w2 (by rw[<-hl];rfl) h16 JH).mono ?_;rintro e w3 ⟨s,d,F,rfl,hs,f3,g3,l3⟩;have fw:=f2.trans f3;have hs':aQ w3 F s d n (DS.fresh (ez n)):=hs;have hsz:=f2.size
 have gw:bL [] F w1:=λi hi=>(g3 i hi).imp id (λh=>by omega)
 clear hs f2 f3 g3;go_wp2_with fail
 all_goals
  go_ret2
  exact⟨s,d,F,rfl,hs',fw,gw,by omega⟩
theorem zX (n:Nat)(w:World)(hn:n<=2):Calls Tryz.prog 48 #[.int .i64 n] w λe w'=>e= .returned (.bool true)/\w'=w:=by
 go_enter Tryz.func48,Tryz.ntmps48;rcases(by omega:n=0\/n=1\/n=2) with rfl|rfl|rfl
 all_goals
  go_wp2_with fail;refine(qH _ w).mono ?_;rintro e w1 ⟨rfl,rfl⟩;go_wp2_with fail;go_ret;exact⟨rfl,rfl⟩
def DS.get (x:DS)(n s:Nat)(p:ByteArray):Value×Int:=if x.failed then(.string ⟨#[]⟩,3) else match x.content n s p with
 |none=>(.string ⟨#[]⟩,5)
 |some c=>(.string (aB c),0)
theorem yh (s:Int)(p:ByteArray):Tryz.prog.built 103 [(0,.int .i64 s),(1,.string p)]=some (dL s p):=by kernel_rfl
theorem A9 (F:List Nat)(s d n:Nat)(x:DS)(side:Nat)(p:ByteArray)(w:World)(h:aQ w F s d n x)(hs:side<=2)(hp:cC p.data.toList=true)(hpl:p.size<=8):
  Calls Tryz.prog 22 #[.pointer (some ⟨s,0,none⟩),.int .i64 side,.string p] w λe w'=>e= .returned (.tuple #[(x.get n side p).1,.int .i64 (x.get n side p).2])/\aO [] w w':=by
 have c0:=h.cell;obtain⟨bl,vw,hd⟩:=h.xW;have HG:Hid (x.get n side p=(if x.failed then((Value.string ⟨#[]⟩,3):Value×Int) else match x.content n side p with|none=>(Value.string ⟨#[]⟩,5)|some c=>(Value.string (aB c),0))):=rfl;go_enter Tryz.func22,Tryz.ntmps22;go_wp2_with fail;refine(gT F s d n x w h).mono ?_;rintro e w1 ⟨rfl,rfl⟩;go_wp2_with fail;refine(zX side w1 hs).mono ?_
 rintro e w2 ⟨rfl,rfl⟩;go_wp2_with fail;refine(nh p w2 (by omega)).mono ?_;rintro e w3 ⟨rfl,f3⟩;rw[hp];have h3:=h.new f3;have hd3:=hd.new f3;have c0:=h3.cell;go_wp2_with fail;refine(qI F s d n x w3 h3).mono ?_;rintro e w4 ⟨rfl,rfl⟩;cases hf:x.failed with
 |true=>
  rw[hf] at HG;go_wp2_with fail
  all_goals
   go_ret2
   rw[HG.out];exact⟨rfl,f3⟩
 |false=>
  rw[hf] at HG;go_wp2_with (with_reducible first|refine bC 103 rfl ?_);refine al.go (cx rfl (.agg (dL side p)) w4 (gV _ _ rfl _ (yh side p)) ?_);go_wp2_with fail;refine(sw d bl n vw x side p w4 hd3).mono ?_;rintro e w5 ⟨rfl,f5⟩;have fw:=f3.trans f5;generalize x.content n side p=r at*;cases r with
  |none=>
   go_wp2_with fail
   all_goals
    go_ret2
    rw[HG.out];exact⟨rfl,fw⟩
  |some c=>
   go_wp2_with fail
   all_goals
    go_ret2
    rw[HG.out];exact⟨rfl,fw⟩
def DS.fV (x:DS)(n s:Nat)(p:ByteArray):DS×Value:=
 if x.failed then(x,.int .i64 3) else if x.pending n then(x,.int .i64 4) else x.remove n s p
theorem Ao (F:List Nat)(s d n:Nat)(x:DS)(side:Nat)(p:ByteArray)(w:World)(h:aQ w F s d n x)(hx:x.Fit 2)(iI:x.waiting.length<60)(hs:side<=1)(hp:cC p.data.toList=true)(hpl:p.size<=8):
  Calls Tryz.prog 42 #[.pointer (some ⟨s,0,none⟩),.int .i64 side,.string p] w λe w'=>e= .returned (x.fV n side p).2/\(∃F',aQ w' F' s d n (x.fV n side p).1/\bL F F' w)/\aO F w w':=by
 have HG:Hid (x.fV n side p=if x.failed then(x,.int .i64 3) else if x.pending n then(x,.int .i64 4) else x.remove n side p):=rfl;have e1:((side:Int)==0||(side:Int)==1)=true:=by
  rcases(by omega:side=0\/side=1) with rfl|rfl<;>rfl
 go_enter Tryz.func42,Tryz.ntmps42;go_wp2_with fail;refine(gT F s d n x w h).mono ?_;rintro e w1 ⟨rfl,rfl⟩;go_wp2_with fail;refine(qH side w1).mono ?_;rintro e w2 ⟨rfl,rfl⟩;rw[e1];go_wp2_with fail;refine(nh p w2 (by omega)).mono ?_;rintro e w3 ⟨rfl,f3⟩;rw[hp];have h3:=h.new f3;go_wp2_with fail;refine(ma F s d n x w3 h3).mono ?_;rintro e w4 ⟨rfl,f4⟩
 have h4:=h3.new f4;have fw:=f3.trans f4;have c0:=h4.cell;cases hf:x.failed with
 |true=>
  rw[hf] at HG;have HG2:Hid (x.fV n side p=(x,.int .i64 3)):=by show _=_;rw[HG.out];rfl
  simp only[if_true];go_wp2_with fail
  all_goals
   go_ret;rw[HG2.out];exact⟨rfl,⟨F,h4,bL.refl _ _⟩,fw.mono⟩
 |false=>
  rw[hf] at HG;cases hpd:x.pending n with
  |true=>
   rw[hpd] at HG;have HG2:Hid (x.fV n side p=(x,.int .i64 4)):=by show _=_;rw[HG.out];rfl
   simp only[if_true,Bool.false_eq_true,if_false];go_wp2_with fail
   all_goals
    go_ret;rw[HG2.out];exact⟨rfl,⟨F,h4,bL.refl _ _⟩,fw.mono⟩
  |false=>
   rw[hpd] at HG;have HG2:Hid (x.fV n side p=x.remove n side p):=by show _=_;rw[HG.out];rfl
   simp only[Bool.false_eq_true,if_false];go_wp2_with (with_reducible first|refine bC 103 rfl ?_);refine al.go (cx rfl (.agg (dL side p)) w4 (gV _ _ rfl _ (yh side p)) ?_);go_wp2_with fail;refine(oH F d n x side p w4 h4.disk hx iI).mono ?_;rintro e w5 ⟨rfl,F5,h5,f5,g5⟩;have gw:=(bL.refl F w2).trans g5 fw.size
   have hs5:aQ w5 F5 s d n (x.remove n side p).1:=⟨f5.row h4.row h4.ne,h5,λhF=>(gw s hF).elim h.ne (λhh=>by have:=h.row.lt;omega)⟩
   have f15:aO F w2 w5:=(fw.mono (T:=F) (by simp)).trans f5 (λi hi=> .inl hi);go_wp2_with fail
   all_goals
    go_ret;rw[HG2.out];exact⟨rfl,⟨F5,hs5,gw⟩,f15⟩
end
section
open Go.RowKit Go.Lib Go.Sort
def bF (l:List cV)(s:Nat):List (List UInt8):=(l.filter λf=>f.set==s).map (·.path)
theorem Ct (fs:List cV)(s k:Nat)(hk:k<fs.length):bF (fs.take (k+1)) s=if fs[k].set=s then bF (fs.take k) s++[fs[k].path] else bF (fs.take k) s:=by
 unfold bF;rw[List.take_succ_eq_append_getElem hk,List.filter_append,List.map_append]
 by_cases h:fs[k].set=s
 .simp[h]
 .simp[h]
theorem wJ (l:List cV)(s:Nat):(bF l s).length<=l.length:=by unfold bF;rw[List.length_map];exact List.length_filter_le _ _
theorem Mq (F:List Nat)(s d n:Nat)(x:DS)(side:Nat)(w:World)(h:aQ w F s d n x)(hs:side<=2):
  Calls Tryz.prog 23 #[.pointer (some ⟨s,0,none⟩),.int .i64 side] w λe w'=>
   (∃ad cap,e= .returned (if x.failed then .tuple #[.slice none 0 0,.int .i64 3] else .tuple #[.slice ad (bF (aP x n) side).length cap,.int .i64 0]))/\aO [] w w':=by
 have c0:=h.cell;obtain⟨bl,vw,hd⟩:=h.xW;have hfl:(aP x n).length<=54:=by unfold aP;rw[List.length_map];exact iA x n
 go_enter Tryz.func23,Tryz.ntmps23;go_wp2_with fail;refine(gT F s d n x w h).mono ?_;rintro e w1 ⟨rfl,rfl⟩;go_wp2_with fail;refine(zX side w1 hs).mono ?_;rintro e w2 ⟨rfl,rfl⟩;go_wp2_with fail;refine(qI F s d n x w2 h).mono ?_;rintro e w3 ⟨rfl,rfl⟩;cases hf:x.failed with
 |true=>
  go_wp2_with fail
  all_goals
   go_ret2
   refine⟨?_,aO.refl _ _⟩
   first|rfl|exact⟨none,0,rfl⟩
 |false=>
  go_wp2_with fail;refine(Hu d bl n vw x w3 hd).mono ?_;rintro e wa ⟨v,rfl,hv,fa⟩;generalize hfs:aP x n=fs at*;have HFS:Hid (aP x n=fs):=hfs;clear hfs;obtain⟨ad,cap,hv'⟩:=bQ hv;subst hv';have hba:w3.heap.size<=wa.heap.size:=fa.size;clear h hd c0;go_wp2_with fail
  go_loopw [6,22] (λu c wr=>∃k:Nat,c= .int .i64 k/\k<=fs.length/\aO [] wa wr/\wr.ownsRow wa.heap.size 9 1 u (bF (fs.take k) side).length (eZ (bF (fs.take k) side))) (λ_ c _=>fs.length-(intOf c).toNat)
  case atStart=>exact⟨0,rfl,by omega,aO.refl _ _,World.ownsRow_nil _ _ _ _⟩
  case round=>
   obtain⟨k,rfl,hk,fk,ho⟩:=hrel;have hvk:=fk.owns hv
   by_cases hlt:k<fs.length
   .obtain⟨g,cur,rfl,hg,hle,_,hcs,htk⟩:=eU hvk
    have hat:((cur.toList.drop (k*3)).take 3)=bR fs[k].set fs[k].path fs[k].content:=by
     rw[ck htk _ _,xJ fs k hlt]
    have hstep:=Ct fs side k hlt;have hpl:(bF (fs.take k) side).length<=1000:=by have:=wJ (fs.take k) side;rw[List.length_take] at this;omega
    generalize fs[k]=f at hat hstep;have HST:Hid (bF (fs.take (k+1)) side=if f.set=side then bF (fs.take k) side++[f.path] else bF (fs.take k) side):=hstep;generalize bF (fs.take k) side=ps at*;clear hstep hcs htk;go_wp2_with (with_reducible first|refine ay 107 rfl ?_|refine az rfl ?_|refine af 107 rfl ?_)
    refine al.go (bU rfl 107 _ rfl g (k*3) rfl kP 3 eK _ _ hg (bR f.set f.path f.content) hat rfl ?_);clear hat hg;go_wp2_with (with_reducible first|refine az rfl ?_|refine af 107 rfl ?_);refine al.go (bi rfl 107 rfl zr mj ?_);intro w4 b5 l5 f4 r5;go_wp2_with (with_reducible first|refine az rfl ?_|refine af 107 rfl ?_)
    refine al.go (bK rfl 107 _ _ rfl _ 0 rfl _ rfl 3 eK ?_ ?_ _ _ r5 ?_ ?_)
    .rfl
    .simp[bR,Value.oneCell']
    .decide
    intro w5 f5 q5;rw[bH _ _ (by rfl)] at q5;have nF:Row w5 b5 (bR f.set f.path f.content).toArray 107:=q5;have f45:=f4.trans f5 (by simpa using l5);have mL:=fk.trans f45;have Bx:=f45.owns ho;have c0:w5.cell? ⟨b5,0,none⟩=some (.int .i64 f.set):=by rw[nF.cell];rfl
    have c1:w5.cell? ⟨b5,1,none⟩=some (.string (aB f.path)):=by rw[nF.cell];rfl
    clear q5 r5 f4 f5 f45 fk ho l5 hvk nF
    by_cases h3:f.set=side
    .have Gb:Hid (bF (fs.take (k+1)) side=ps++[f.path]):=by show _=_;rw[HST.out,if_pos h3]
     rw[h3] at c0;clear HST h3;go_wp2_with (with_reducible first|refine bO rfl ?_|refine bP rfl ?_);refine al.go (fU rfl 45 9 1 16 iG _ rfl (.string (aB f.path)) rfl rfl ?_);intro w8 b8 l8 f8 r8;go_wp2_with (with_reducible first|refine bO rfl ?_|refine bP rfl ?_);have Ee:=f8.owns Bx
     have hbase:wa.heap.size<=w8.heap.size:=by have:=mL.size;have:=f8.size;omega
     refine al.go (iz rfl 45 9 1 16 iG _ _ rfl wa.heap.size u6 _ _ rfl Ee b8 1 1 [.string (aB f.path)] rfl _ _ r8 rfl rfl (by simp[Value.oneCell']) (by omega) (by omega) (by omega) hbase ?_);intro g' cap' w9 JB f9 _;have Ry:=(mL.trans f8).trans f9 (by intro j hj;right;simp at hj;exact(Ee.lt j hj).1);clear Bx Ee r8 f8 f9 l8 mL hbase c0 c1;go_wp2_with fail
     go_roundw
     case rel=>
      refine⟨k+1,by go_num,by omega,Ry,?_⟩;rw[Gb.out];simpa [eZ,aB] using JB
     case measure=>simp[intOf];omega
    .have Gb:Hid (bF (fs.take (k+1)) side=ps):=by show _=_;rw[HST.out,if_neg h3]
     have h3':((f.set:Int)==(side:Int))=false:=by rw[beq_eq_false_iff_ne];omega
     clear HST;go_wp2_with fail
     go_roundw
     case rel=>exact⟨k+1,by go_num,by omega,mL,by rw[Gb.out];exact Bx⟩
     case measure=>simp[intOf];omega
   .rw[List.take_of_length_le (by omega)] at ho
    have hpl:=wJ fs side;have fw:aO [] w3 wr:=fa.trans fk;generalize hps:bF fs side=ps at*;have HPS:Hid (bF fs side=ps):=hps;clear hps;rcases ho.2 with⟨rfl,h0⟩|⟨g,c,cur,rfl,hgb,hgh,hnc,_,hcs,htk⟩
    .have hp0:ps=[]:=List.length_eq_zero_iff.1 h0
     subst hp0;go_wp2_with fail;refine(Tryz.slices_Sort_string_none none 0 wr).mono ?_;rintro e w6 ⟨rfl,rfl⟩;go_wp2_with fail
     all_goals
      go_ret2
      exact⟨⟨none,0,by rw[HFS.out,HPS.out];rfl⟩,fw⟩
    .have hlt2:g<wr.heap.size:=(Array.getElem?_eq_some_iff.1 hgh).1
     have hH:Holds encStr wr g 0 ps.toArray:=λj hj=>by
      have hj':j<ps.length:=by simpa using hj
      refine⟨?_,Lib.frozen_of_heap hgh _⟩;rw[Lib.cell_of_heap hgh];have h1:(cur.toList.take (ps.length*1))[j]? =(eZ ps)[j]? :=by rw[htk]
      rw[List.getElem?_take_of_lt (by omega)] at h1;rw[Nat.zero_add,<-Array.getElem?_toList,h1,getElem!_pos ps.toArray j hj];simp[eZ,hj']
     clear ho hcs htk hgh;go_wp2_with fail;refine(Tryz.slices_Sort_string g 0 c ps wr hH hlt2 (by omega)).mono ?_;rintro e w6 ⟨rfl,m,os,OR⟩;have f6:aO [g] wr w6:=by
      rw[OR];exact(((pI wr m).mono (T:=[g]) (by simp)).trans (nm encStr _ g 0 _) (λi hi=> .inl hi)).trans (xK _ _)
     have vo:aO [] w3 w6:=fw.trans f6 (by simp;omega);clear OR hH f6;go_wp2_with fail
     all_goals
      go_ret2
      exact⟨⟨some ⟨g,0,none⟩,c,by rw[HFS.out,HPS.out];rfl⟩,vo⟩
end
section
open Go.RowKit Go.Lib
structure Step (P:Program)(ops:Array Oper)(Q:Exit->Act->World->Prop)(n m:Nat)(l:List Nat)(i:Nat)(a:Act)(w:World):Prop where
 ex:∃oi,ops[i]? =some oi/\oi.guard=none/\∀K:Act->World->Prop,(∀a w,yw P ops Q n m (i::l) a w->K a w)->oi.wp P a w K Q
section
variable {P:Program}{ops:Array Oper}{Q:Exit->Act->World->Prop}{n m:Nat}{l:List Nat}{a:Act}{w:World}
theorem fl (i:Nat){oi:Oper}(hi:ops[i]? =some oi)(hg:oi.guard=none)(dst:Option Tmp)(hd:oi.dst=dst)(v:Value)(w1:World)(hr:(execOp a.eval oi).run P w= .ok (.value v) w1)(h:yw P ops Q n m (i::l) (a.put dst v) w1):Step P ops Q n m l i a w:=
 ⟨oi,hi,hg,λK hK=>by
  subst hd;unfold Oper.wp;rw[hr];exact hK _ _ h⟩
theorem K2 (i:Nat){oi:Oper}(hi:ops[i]? =some oi)(hg:oi.guard=none)(dst:Option Tmp)(hd:oi.dst=dst)(v:Value)(hr:(execOp a.eval oi).run P w= .ok (.value v) w)(h:yw P ops Q n m (i::l) (a.put dst v) w):Step P ops Q n m l i a w:=fl i hi hg dst hd v w hr h
theorem mo (i:Nat){oi:Oper}(hi:ops[i]? =some oi)(hg:oi.guard=none)(dst:Option Tmp)(hd:oi.dst=dst)(f:FuncId)(args:Array Value)(hr:(execOp a.eval oi).run P w= .ok (.enter f args) w)(R:Ending->World->Prop)(hc:Calls P f args w R)
  (h:∀e w',R e w'->∃v,e= .returned v/\yw P ops Q n m (i::l) (a.put dst v) w'):Step P ops Q n m l i a w:=
 ⟨oi,hi,hg,λK hK=>by
  subst hd;unfold Oper.wp;rw[hr];simp only[Oper.upon];refine hc.mono ?_;intro e w' he;obtain⟨v,rfl,hv⟩:=h e w' he;exact hK _ _ hv⟩
theorem nY (i:Nat){oi:Oper}(hi:ops[i]? =some oi)(hg:oi.guard=none)(dst:Option Tmp)(hd:oi.dst=dst)(f:FuncId)(args:Array Value)(hr:(execOp a.eval oi).run P w= .ok (.enter f args) w){v:Value}(hc:Calls P f args w λe w'=>e= .returned v/\w'=w)
  (h:yw P ops Q n m (i::l) (a.put dst v) w):Step P ops Q n m l i a w:=
 mo i hi hg dst hd f args hr _ hc (by rintro e w' ⟨rfl,rfl⟩;exact⟨_,rfl,h⟩)
theorem Pj (i:Nat){oi:Oper}(hi:ops[i]? =some oi)(hg:oi.guard=none)(h:∀K:Act->World->Prop,(∀a w,yw P ops Q n m (i::l) a w->K a w)->oi.wp P a w K Q):Step P ops Q n m l i a w:=⟨oi,hi,hg,h⟩
theorem F4 (is:List Nat)(hne:is≠[])(hr:Region.ready .any ops (marks n l)=is)(hlt:∀i∈is,i<n)(h:∀i∈is,Step P ops Q n m l i a w):yw P ops Q n (m+1) l a w:=
 wpAny_all hr (by simpa using hne) λi hi=>by
  obtain⟨oi,h1,h2,h3⟩:=h i hi;unfold wpOp;simp only[h1];rw[if_pos (by simp[Region.wanted,h2])];exact .inl (h3 _ λa w x=>by rw[tG n i l (hlt i hi)];exact x)
theorem dD (i:Nat)(h:Step P ops Q n m l i a w)(hr:Region.ready .any ops (marks n l)=[i]:=by kernel_rfl)(hlt:i<n:=by omega):yw P ops Q n (m+1) l a w:=
 F4 [i] (by simp) hr (by simpa using hlt) (by simpa using h)
theorem j5 (i j:Nat)(hr:Region.ready .any ops (marks n l)=[i,j])(h1:Step P ops Q n m l i a w)(h2:Step P ops Q n m l j a w)(hi:i<n:=by omega)(hj:j<n:=by omega):yw P ops Q n (m+1) l a w:=
 F4 [i,j] (by simp) hr (by simp[hi,hj]) (by simp[h1,h2])
end
theorem YJ {P:Program}{ρ:Operand->Value}{w:World}{o:Oper}(t e:TypeId)(size bytes:Nat)(E:Elem P t e size bytes)(x:Operand)(ho:o.op= .buildSlice t 1 #[(0,x)])(h24:size<=1000)(v:Value)(hx:ρ x=v)(hv:v.cells.size=size):
  (execOp ρ o).run P w= .ok (.value (.slice (some ⟨w.heap.size,0,none⟩) 1 1)) (w.alloc (.cells v.cells e)):=by
 obtain⟨i,z,h1,h2,h3,h4,h5⟩:=E.open;exact tM t e x ho E.slice i z v h1 h2 (by have:=E.pos;omega) (by omega) hx (by omega)
theorem KZ {P:Program}{ops:Array Oper}{Q:Exit->Act->World->Prop}{n m:Nat}{l:List Nat}{a:Act}{w:World}(i:Nat){oi:Oper}(hi:ops[i]? =some oi)(hg:oi.guard=none)(dst:Option Tmp)(hd:oi.dst=dst)(t e:TypeId)(size bytes:Nat)(E:Elem P t e size bytes)(x:Operand)(ho:oi.op= .buildSlice t 1 #[(0,x)])(h24:size<=1000)(v:Value)(hx:a.eval x=v)(hv:v.cells.size=size)
  (h:∀b w',aO [] w w'->Row w' b v.cells e->yw P ops Q n m (i::l) (a.put dst (.slice (some ⟨b,0,none⟩) 1 1)) w'):Step P ops Q n m l i a w:=
 fl i hi hg dst hd _ _ (YJ t e size bytes E x ho h24 v hx hv) (h _ _ (aO.alloc _ _ _) (Row.new _ _ _))
theorem Bm {P:Program}{ops:Array Oper}{Q:Exit->Act->World->Prop}{n m k:Nat}{l0:List Nat}{a:Act}{w:World}{Y:Type}(l:List Nat)(C:Y->Prop)(A:Y->Act->Act)(W:Y->World)
  (h:∀y,C y->yw P ops Q n m l (A y a) (W y)) (t:(∀y l',marks n l'=marks n l->C y->yw P ops Q n m l' (A y a) (W y))->yw P ops Q n k l0 a w):yw P ops Q n k l0 a w:=
 t λy l' hl hy=>by have:=h y hy;unfold yw at this⊢;rw[hl];exact this
theorem L4 {w:World}{b b':Nat}{e:TypeId}{size:Nat}{v:Value}{n:Nat}{xs:List Value}(h:w.ownsRow b e size v n xs)(hb:b'<=b):w.ownsRow b' e size v n xs:=by
 obtain⟨h1,h2⟩:=h;refine⟨h1,?_⟩;rcases h2 with h2|⟨g,cap,cur,e1,e2,e3⟩
 .exact .inl h2
 .exact .inr ⟨g,cap,cur,e1,by omega,e3⟩
theorem Og (s:Int)(p c:ByteArray):Tryz.prog.built 107 [(0,.agg (dL s p)),(1,.string c)]=some #[.int .i64 s,.string p,.string c]:=by kernel_rfl
def DS.pR (x:DS)(n s:Nat)(p c:ByteArray):DS×Value:=
 if x.failed then(x,.int .i64 3) else if x.pending n then(x,.int .i64 4)
 else if 7<oW (aP x n++[⟨s,p.data.toList,c.data.toList⟩]) then(x,.int .i64 6) else x.put n s p c
theorem tg (F:List Nat)(s d n:Nat)(x:DS)(side:Nat)(p c:ByteArray)(w:World)(h:aQ w F s d n x)(hx:x.Fit 5)(iI:x.waiting.length<55)(hs:side<=1)(hp:cC p.data.toList=true)(hpl:p.size<=8)(hcl:c.size<=96):
  Calls Tryz.prog 39 #[.pointer (some ⟨s,0,none⟩),.int .i64 side,.string p,.string c] w λe w'=>e= .returned (x.pR n side p c).2/\(∃F',aQ w' F' s d n (x.pR n side p c).1/\bL F F' w)/\aO F w w':=by
 have HG:Hid (x.pR n side p c=if x.failed then(x,.int .i64 3) else if x.pending n then(x,.int .i64 4) else if 7<oW (aP x n++[⟨side,p.data.toList,c.data.toList⟩]) then(x,.int .i64 6) else x.put n side p c):=rfl;have e1:((side:Int)==0||(side:Int)==1)=true:=by
  rcases(by omega:side=0\/side=1) with rfl|rfl<;>rfl
 go_enter Tryz.func39,Tryz.ntmps39;go_wp2_with fail;refine(gT F s d n x w h).mono ?_;rintro e w1 ⟨rfl,rfl⟩;go_wp2_with fail;refine(qH side w1).mono ?_;rintro e w2 ⟨rfl,rfl⟩;rw[e1];go_wp2_with fail;refine(nh p w2 (by omega)).mono ?_;rintro e w3 ⟨rfl,f3⟩;rw[hp];have h3:=h.new f3;have hc96:¬(c.size:Int)>96:=by omega
 go_wp2_with fail;refine(ma F s d n x w3 h3).mono ?_;rintro e w4 ⟨rfl,f4⟩;have h4:=h3.new f4;have fw:=f3.trans f4;cases hf:x.failed with
 |true=>
  rw[hf] at HG;have HG2:Hid (x.pR n side p c=(x,.int .i64 3)):=by show _=_;rw[HG.out];rfl
  simp only[if_true];go_wp2_with fail
  all_goals
   go_ret;rw[HG2.out];exact⟨rfl,⟨F,h4,bL.refl _ _⟩,fw.mono⟩
 |false=>
  rw[hf] at HG;cases hpd:x.pending n with
  |true=>
   rw[hpd] at HG;have HG2:Hid (x.pR n side p c=(x,.int .i64 4)):=by show _=_;rw[HG.out];rfl
   simp only[if_true,Bool.false_eq_true,if_false];go_wp2_with fail
   all_goals
    go_ret;rw[HG2.out];exact⟨rfl,⟨F,h4,bL.refl _ _⟩,fw.mono⟩
  |false=>
   rw[hpd] at HG;simp only[Bool.false_eq_true,if_false];go_wp2_with (with_reducible first|refine bC 103 rfl ?_|refine bC 107 rfl ?_|refine az rfl ?_|refine af 107 rfl ?_);refine al.go (cx rfl (.agg (dL side p)) w4 (gV _ _ rfl _ (yh side p)) ?_)
   go_wp2_with (with_reducible first|refine bC 107 rfl ?_|refine az rfl ?_|refine af 107 rfl ?_);refine al.go (cx rfl (.agg #[.int .i64 side,.string p,.string c]) w4 (gV _ _ rfl _ (Og side p c)) ?_);go_wp2_with (with_reducible first|refine az rfl ?_|refine af 107 rfl ?_);refine al.go (bi rfl 107 rfl zr mj ?_)
   intro w5 b10 l5 f5 r5;go_wp2_with (with_reducible first|refine az rfl ?_|refine af 107 rfl ?_);refine al.go (bK rfl 107 _ _ rfl _ 0 rfl _ rfl 3 eK ?_ ?_ _ _ r5 ?_ ?_)
   .rfl
   .simp[Value.oneCell']
   .decide
   intro w6 f6 q6;rw[bH _ _ (by rfl)] at q6;have V3:Row w6 b10 #[.int .i64 side,.string p,.string c] 107:=q6;have f46:=f5.trans f6 (by simpa using l5);have h6:=h4.new f46;have vo:=fw.trans f46;clear q6 r5 f5 f6 f46 h4 h3 l5;go_wp2_with fail;refine fq 10 rfl ?_;refine sS ?_;have fd:aO [] w6 w6.drew:=aO.drew _ _;have h7:=h6.new fd
   have q7:=fd.row V3;have yB:=vo.trans fd;generalize w6.drew=w7 at h7 q7 yB;clear fd h6 V3 vo fw f3 f4;have fb:=yB;replace yB:aO [] w7 w7:=aO.refl _ _;refine dZ 0 (some 36) rfl rfl (λ_ _ _ h=>h) rfl (v:= .pointer (some ⟨s,0,none⟩)) (λ_=>rfl) ?_
   refine dZ 1 (some 37) rfl rfl (λ_ _ _ h=>h) rfl (v:= .pointer (some ⟨s,0,none⟩)) (λ_=>by go_simp) ?_;refine dZ 2 (some 38) rfl rfl (λ_ _ _ h=>h) rfl (v:= .pointer (some ⟨s,0,none⟩)) (λ_=>by go_simp) ?_;simp only[Act.put,bZ,b6,bY]
   refine Bm (m:=3) [6,5,4,3,2,1,0] (λ(y:Value×Nat×World)=>aQ y.2.2 F s d n x/\Row y.2.2 b10 #[.int .i64 side,.string p,.string c] 107/\aO [] w7 y.2.2/\y.2.2.ownsRow w7.heap.size 107 3 y.1 (aP x n).length (gU (aP x n))/\Row y.2.2 y.2.1 #[.int .i64 side,.string p,.string c] 107) (λy a=>((((a.put (some 39) (.pointer (some ⟨d,0,none⟩))).put (some 40) y.1).put (some 41) (.agg #[.int .i64 side,.string p,.string c])).put (some 42) (.slice (some ⟨y.2.1,0,none⟩) 1 1))) (λy=>y.2.2) ?_ ?_
   .rintro⟨v,bz,w8⟩ ⟨h8,q8,qY,o8,r8⟩
    simp only at h8 q8 qY o8 r8;simp only[Act.put,bZ,b6,bY];have hfl:(aP x n).length<=54:=by unfold aP;rw[List.length_map];exact iA x n
    have HF:Hid (gU (aP x n++[⟨side,p.data.toList,c.data.toList⟩])=gU (aP x n)++[.int .i64 side,.string p,.string c]):=by
     show _=_;rw[sr];rfl
    have hv8:∀k,v.ownBlock=some k->w7.heap.size<=k:=λk hk=>(o8.lt k hk).1
    have hs7:=h7.row.lt;have hF7:=λk hk=>h7.disk.lt k hk
    have hb7:=q7.lt;clear h7 q7;refine dD 7 (Pj 7 rfl rfl λK hK=>zt 104 107 3 40 pM _ _ rfl w7.heap.size v _ _ rfl o8 bz 1 1 [.int .i64 side,.string p,.string c] rfl _ _ r8 rfl rfl (by simp[Value.oneCell']) (by omega) (by omega) (by omega) qY.size λg cap w9 o9 f9 _=>hK _ _ ?_)
    have q9:=f9.row q8 (by intro hk;have:=hv8 b10 (by simpa using hk);omega);have h9:aQ w9 F s d n x:=⟨f9.row h8.row (by intro hk;have:=hv8 s (by simpa using hk);omega),h8.disk.vO f9 (λk hk hF=>by have:=hv8 k (by simpa using hk);have:=hF7 k hF;omega),h8.ne⟩
    have ZJ:aO [] w7 w9:=qY.trans f9 (λk hk=> .inr (hv8 k (by simpa using hk)));have fx9:aO [] w2 w9:=fb.trans ZJ;clear h8 q8 qY o8 r8 f9 hv8 hs7 hF7 hb7 fb yB ZJ
    change yw _ _ _ _ _ _ (Act.put _ (some 43) _) _
    simp only[Act.put,bZ,b6,bY];have hlen:(aP x n++[(⟨side,p.data.toList,c.data.toList⟩:cV)]).length=(aP x n).length+1:=by simp
    have hcount:=JZ w7.heap.size (.slice (some ⟨g,0,none⟩) ((aP x n).length+1) cap) (aP x n++[⟨side,p.data.toList,c.data.toList⟩]) w9 (by rw[hlen,HF.out];exact o9) (by omega);clear o9 HF hlen hfl;generalize (aP x n).length+1=ln at*;refine dD 8 (mo 8 rfl rfl (some 44) rfl 75 #[.slice (some ⟨g,0,none⟩) ln cap] (by go_simp) _ hcount ?_)
    rintro e wc ⟨rfl,fc⟩;refine⟨_,rfl,?_⟩;have hc:=h9.new fc;have qc:=fc.row q9;have fxc:=fx9.trans fc;clear hcount h9 q9 fx9 fc;generalize oW (aP x n++[⟨side,p.data.toList,c.data.toList⟩])=m at*;simp only[Act.put,bZ,b6,bY]
    by_cases hm:7<m
    .have HG2:Hid (x.pR n side p c=(x,.int .i64 6)):=by show _=_;rw[HG.out];simp[hm]
     refine dD 9 (fl 9 rfl rfl (some 45) rfl (.bool true) wc (by go_simp;omega) ?_);refine sR ?_;simp only[Act.put,bZ,b6,bY];go_wp2_with fail
     all_goals
      go_ret;rw[HG2.out];exact⟨rfl,⟨F,hc,bL.refl _ _⟩,fxc.mono⟩
    .have HG2:Hid (x.pR n side p c=x.put n side p c):=by show _=_;rw[HG.out];simp[hm]
     refine dD 9 (fl 9 rfl rfl (some 45) rfl (.bool false) wc (by go_simp;omega) ?_);refine sR ?_;simp only[Act.put,bZ,b6,bY];clear hm;go_wp2_with fail;refine fq 7 rfl ?_;have fdd:aO [] wc wc.drew:=aO.drew _ _;have hd:=hc.new fdd;have qd:=fdd.row qc;have fxd:=fxc.trans fdd
     generalize wc.drew=wd at hd qd fxd;clear fdd hc qc fxc HG hK;have hL1:Lets (λw':World=>Row w' s #[.pointer (some ⟨d,0,none⟩)] 96):=⟨λw o h=>(aO.alloc [] w o).row h,λw h=>h⟩
     have hL2:Lets (λw':World=>Row w' b10 #[.int .i64 side,.string p,.string c] 107):=⟨λw o h=>(aO.alloc [] w o).row h,λw h=>h⟩
     refine bM 0 (some 46) rfl rfl (λ_ _ _ h=>h) rfl (v:= .pointer (some ⟨s,0,none⟩)) (λ_=>rfl) ?_;refine bM 1 (some 47) rfl rfl (λ_ _ _ h=>h) rfl (v:= .pointer (some ⟨s,0,none⟩)) (λ_=>by go_simp) ?_
     refine bM 2 (some 48) rfl rfl (λ_ _ _ h=>h) rfl (v:= .pointer (some ⟨s,0,none⟩)) (λ_=>by go_simp) ?_;simp only[Act.put,bZ,b6,bY]
     refine lN 3 _ hL1 hd.row (some 49) rfl rfl (λ_ _ _ h=>h) rfl (v:= .pointer (some ⟨d,0,none⟩)) (λw' hw'=>by have:=hw'.cell 0;go_simp) ?_;simp only[Act.put,bZ,b6,bY]
     refine lN 4 _ hL2 qd (some 50) rfl rfl (λ_ _ _ h=>h) rfl (v:= .agg #[.int .i64 side,.string p,.string c]) (λw' hw'=>sC 107 _ rfl b10 0 rfl kP 3 eK _ _ hw' [.int .i64 side,.string p,.string c] rfl rfl) ?_;simp only[Act.put,bZ,b6,bY]
     refine D3 5 (by omega) (some 51) rfl rfl (by kernel_rfl) rfl 76 #[.pointer (some ⟨d,0,none⟩),.agg #[.int .i64 side,.string p,.string c]] (by go_simp) _ (xa F d n x side p c wd hd.disk hx iI (by omega) (by omega) (by omega)) ?_;rintro e we ⟨rfl,Fe,he,fe,ge⟩;refine⟨_,rfl,?_⟩;have gw:=(bL.refl F w2).trans ge fxd.size
     have hse:aQ we Fe s d n (x.put n side p c).1:=⟨fe.row hd.row hd.ne,he,λhF=>(gw s hF).elim h.ne (λhh=>by have:=h.row.lt;omega)⟩
     have YI:aO F w2 we:=(fxd.mono (T:=F) (by simp)).trans fe (λi hi=> .inl hi);clear hL1 hL2 hd qd fxd he fe ge;refine bM 6 (some 8) rfl rfl (λ_ _ _ h=>h) rfl (v:=(x.put n side p c).2) (λ_=>rfl) ?_;simp only[Act.put,bZ,b6,bY];refine lP ?_;generalize hpx:x.put n side p c=y at*
     have HPX:Hid (x.put n side p c=y):=hpx;clear hpx;go_wp2_with fail
     all_goals
      go_ret;rw[HG2.out];exact⟨rfl,⟨Fe,hse,gw⟩,YI⟩
   intro t7;have tail:∀v bz l,marks 10 l=marks 10 [6,5,4,3,2,1,0]->∀wk,aQ wk F s d n x->Row wk b10 #[.int .i64 side,.string p,.string c] 107->aO [] w7 wk->wk.ownsRow w7.heap.size 107 3 v (aP x n).length (gU (aP x n))->Row wk bz #[.int .i64 side,.string p,.string c] 107->_:=λv bz l hl wk a1 a2 a3 a4 a5=>t7 (v,bz,wk) l hl ⟨a1,a2,a3,a4,a5⟩
   simp only[Act.put,bZ,b6,bY] at tail;clear t7;have r7:True:=trivial;have o7:True:=trivial
   repeat' first
    |((
      first
      |refine j5 3 5 (by decide+kernel) ?_ ?_
      |refine j5 4 5 (by decide+kernel) ?_ ?_
      |refine j5 4 6 (by decide+kernel) ?_ ?_
      |refine j5 3 6 (by decide+kernel) ?_ ?_
      |refine dD 3 (hr:=(by decide+kernel)) ?_
      |refine dD 4 (hr:=(by decide+kernel)) ?_
      |refine dD 5 (hr:=(by decide+kernel)) ?_
      |refine dD 6 (hr:=(by decide+kernel)) ?_)<;>first
      |(
        show Step _ _ _ _ _ _ 3 _ _;refine K2 3 rfl rfl (some 39) rfl (.pointer (some ⟨d,0,none⟩)) (by have c0:=h7.cell;go_simp) ?_;simp only[Act.put,bZ,b6,bY])
      |(
        show Step _ _ _ _ _ _ 4 _ _;obtain⟨bl8,vw8,hd8⟩:=h7.xW;refine mo 4 rfl rfl (some 40) rfl 51 #[.pointer (some ⟨d,0,none⟩)] (by go_simp) _ (Hu d bl8 n vw8 x _ hd8) ?_;rintro e w8 ⟨v,rfl,o8,f8⟩;refine⟨v,rfl,?_⟩;replace o7:=L4 o8 yB.size;replace h7:=h7.new f8;replace q7:=f8.row q7;replace yB:=yB.trans f8
        try replace r7:=f8.row r7
        clear f8 hd8;simp only[Act.put,bZ,b6,bY])
      |(
        show Step _ _ _ _ _ _ 5 _ _;refine fl 5 rfl rfl (some 41) rfl (.agg #[.int .i64 side,.string p,.string c]) _ (sC 107 _ rfl b10 0 rfl kP 3 eK _ _ q7 [.int .i64 side,.string p,.string c] rfl rfl) ?_;simp only[Act.put,bZ,b6,bY])
      |(
        show Step _ _ _ _ _ _ 6 _ _;refine KZ 6 rfl rfl (some 42) rfl 104 107 3 40 pM _ rfl (by omega) (.agg #[.int .i64 side,.string p,.string c]) rfl rfl ?_;intro bz w9 f9 r9;replace h7:=h7.new f9;replace q7:=f9.row q7;replace yB:=yB.trans f9
        try replace o7:=f9.owns o7
        replace r7:=r9;clear f9;simp only[Act.put,bZ,b6,bY]))
    |exact tail _ _ _ (by kernel_rfl) _ h7 q7 yB o7 r7
def ba (c:Int)(n:Nat):Nat:=((if c<0 then -(c+1) else c)%(n:Int)).toNat
theorem iR (c:Int)(n:Nat)(h:0<n:=by omega):ba c n<n:=by
 unfold ba;have h1:=Int.emod_lt_of_pos (if c<0 then -(c+1) else c) (show(0:Int)<n by omega);have h2:=Int.emod_nonneg (if c<0 then -(c+1) else c) (show(n:Int)≠0 by omega);omega
theorem ET (c:Int)(n:Nat)(h:0<n):((ba c n:Nat):Int)=(if c<0 then -(c+1) else c)%(n:Int):=by
 unfold ba;have h2:=Int.emod_nonneg (if c<0 then -(c+1) else c) (show(n:Int)≠0 by omega);omega
theorem oJ (c:Int)(n:Nat)(w:World)(h0:-9223372036854775808<=c)(h1:c<=9223372036854775807)(hn:0<n:=by omega)(hn2:n<=1000000000:=by omega):
  Calls Tryz.prog 19 #[.int .i64 c,.int .i64 n] w λe w'=>e= .returned (.int .i64 (ba c n))/\w'=w:=by
 have HP:Hid (((ba c n:Nat):Int)=(if c<0 then -(c+1) else c)%(n:Int)):=ET c n hn;have hne:((n:Int)==0)=false:=by rw[beq_eq_false_iff_ne];omega
 have hne':(n:Int)≠0:=by omega
 go_enter Tryz.func19,Tryz.ntmps19
 by_cases hc:c<0
 .have HQ:Hid (((ba c n:Nat):Int)=-((c+1).tmod (n:Int))):=by
   show _=_;rw[HP.out,if_pos hc,<-Int.neg_tmod,Int.tmod_eq_emod_of_nonneg (by omega)]
  go_wp2_with fail;go_ret;exact⟨by rw[HQ.out];rfl,rfl⟩
 .have HQ:Hid (((ba c n:Nat):Int)=c%(n:Int)):=by
   show _=_;rw[HP.out,if_neg hc]
  go_wp2_with fail;go_ret;exact⟨by rw[HQ.out];rfl,rfl⟩
def dg (s:ByteArray):ByteArray:=if s.size>96 then s.extract 0 96 else s
theorem DG (s:ByteArray)(w:World):Calls Tryz.prog 43 #[.string s] w λe w'=>e= .returned (.string (dg s))/\w'=w:=by
 go_enter Tryz.func43,Tryz.ntmps43
 by_cases hc:s.size>96
 .have HQ:Hid (dg s=s.extract 0 96):=by show _=_;unfold dg;rw[if_pos hc]
  have hc':(s.size:Int)>96:=by omega
  go_wp2_with fail;go_ret;exact⟨by rw[HQ.out];rfl,rfl⟩
 .have HQ:Hid (dg s=s):=by show _=_;unfold dg;rw[if_neg hc]
  have hc':¬(s.size:Int)>96:=by omega
  go_wp2_with fail;go_ret;exact⟨by rw[HQ.out];rfl,rfl⟩
def dN (i:Nat):ByteArray:=(⟨#[97,98,99,100,101,102,103]⟩:ByteArray).extract i (i+1)
theorem xh (i:Nat)(h:i<7):cC (dN i).data.toList=true/\(dN i).size=1:=by
 rcases(by omega:i=0\/i=1\/i=2\/i=3\/i=4\/i=5\/i=6) with rfl|rfl|rfl|rfl|rfl|rfl|rfl<;>exact⟨by decide,by decide⟩
theorem xg (c:Int)(w:World)(h0:-9223372036854775808<=c)(h1:c<=9223372036854775807):Calls Tryz.prog 41 #[.int .i64 c] w λe w'=>e= .returned (.string (dN (ba c 7)))/\w'=w:=by
 have hlt:=iR c 7;go_enter Tryz.func41,Tryz.ntmps41;go_wp2_with fail;refine(oJ c 7 w h0 h1).mono ?_;rintro e w1 ⟨rfl,rfl⟩;generalize hi:ba c 7=i at*;have HI:Hid (ba c 7=i):=hi;clear hi;rcases(by omega:i=0\/i=1\/i=2\/i=3\/i=4\/i=5\/i=6) with rfl|rfl|rfl|rfl|rfl|rfl|rfl
 all_goals
  go_wp2_with fail;go_ret;exact⟨by rw[HI.out];rfl,rfl⟩
def kj (L:List UInt8)(j:Nat):List UInt8:=(L.drop (64*j)).take 64
theorem Cv (L:List UInt8)(j k:Nat):(kj L j)[k]? =if k<64 then L[64*j+k]? else none:=by
 unfold kj;rw[List.getElem?_take];split
 .rw[List.getElem?_drop]
 .rfl
theorem Qb (L:List UInt8)(n:Nat)(hL:L.length=64*n)(i:Nat)(hi:i<n)(b:List UInt8)(hb:b.length=64)(m:Nat):
  (bB L ((i:Int),b))[m]? =if m<64*i then L[m]? else if m<64*i+64 then b[m-64*i]? else L[m]? :=by
 unfold bB;simp only[Int.toNat_natCast];rw[List.getElem?_append,List.getElem?_append];simp only[List.length_append,List.length_take,hb,List.getElem?_take,List.getElem?_drop];have h1:min (64*i) L.length=64*i:=by omega
 rw[h1]
 by_cases h2:m<64*i
 .simp[h2];omega
 .by_cases h3:m<64*i+64
  .simp[h2,h3]
  .simp only[h2,h3,if_false]
   congr 1
   omega
theorem jL (L:List UInt8)(n:Nat)(hL:L.length=64*n)(i:Nat)(hi:i<n)(b:List UInt8)(hb:b.length=64)(j:Nat):kj (bB L ((i:Int),b)) j=if j=i then b else kj L j:=by
 apply List.ext_getElem?
 intro k;rw[Cv,Qb L n hL i hi b hb]
 by_cases hj:j=i
 .subst hj
  simp only[if_true]
  by_cases hk:k<64
  .rw[if_pos hk,if_neg (by omega),if_pos (by omega)]
   congr 1;omega
  .rw[if_neg hk,List.getElem?_eq_none (by omega)]
 .rw[if_neg hj,Cv]
  by_cases hk:k<64
  .rw[if_pos hk,if_pos hk]
   by_cases h2:64*j+k<64*i
   .rw[if_pos h2]
   .rw[if_neg h2,if_neg (by omega)]
  .rw[if_neg hk,if_neg hk]
theorem GR (L:List UInt8)(n:Nat)(hL:L.length=64*n)(i:Nat)(hi:i<n)(b:List UInt8)(hb:b.length=64):(bB L ((i:Int),b)).length=64*n:=by
 unfold bB;simp only[Int.toNat_natCast,List.length_append,List.length_take,List.length_drop,hb];omega
theorem wW (x:DS)(h:x.waiting=[])(j:Nat):x.read j=kj x.aR j:=by
 unfold DS.read seenIn kj;rw[h];simp
theorem tA (x:DS)(h:x.waiting=[]):x.read 0=kj x.aR 0:=wW x h 0
abbrev dO:=Nat->Option cV
def Dl (n:Nat):List UInt8:=mb++[UInt8.ofNat (n/256),UInt8.ofNat n]
def ei (n:Nat)(m:dO):List UInt8:=Dl n++(List.range 54).map λi=>if(m i).isSome then(1:UInt8) else 0
theorem m9 (n:Nat):(Dl n).length=10:=rfl
theorem iV (n:Nat)(m:dO):(ei n m).length=64:=by simp[ei,m9]
theorem pu (n:Nat)(m:dO)(k:Nat):(ei n m)[k]? =if k<10 then(Dl n)[k]? else if k<64 then some (if(m (k-10)).isSome then(1:UInt8) else 0) else none:=by
 unfold ei;rw[List.getElem?_append,m9];split
 .rfl
 .rename_i h
  rw[List.getElem?_map]
  by_cases h2:k<64
  .rw[List.getElem?_range (by omega),if_pos h2];rfl
  .rw[List.getElem?_eq_none (by simp;omega),if_neg h2];rfl
theorem IS (n k:Nat):(lz n)[k]? =if k<10 then(Dl n)[k]? else if k<64 then some 0 else none:=by
 unfold lz;rw[show mb++[UInt8.ofNat (n/256),UInt8.ofNat n]=Dl n from rfl,List.getElem?_append,m9];split
 .rfl
 .rw[List.getElem?_replicate]
  by_cases h2:k<64
  .rw[if_pos h2,if_pos (by omega)]
  .rw[if_neg h2,if_neg (by omega)]
theorem tH (n:Nat)(m:dO)(i:Nat)(hi:i<54):dc (ei n m) i=if(m i).isSome then 1 else 0:=by
 unfold dc;rw[List.getD_eq_getElem?_getD,pu,if_neg (by omega),if_pos (by omega)];simp
theorem El (n:Nat)(m:dO)(k:Nat)(hk:k<=54):iL (ei n m) k=(List.range k).filter λi=>(m i).isSome:=by
 unfold iL
 apply List.filter_congr
 intro i hi;rw[List.mem_range] at hi;rw[tH n m i (by omega)];cases (m i).isSome<;>rfl
theorem yV (l:List Nat):∀(r:List UInt8) (j:Nat),(mH r l)[j]? =if(∃i∈l,10+i=j)/\j<r.length then some 1 else r[j]? :=by
 induction l with
 |nil=>intro r j;simp[mH]
 |cons a l ih=>
  intro r j;unfold mH;rw[List.foldl_cons];have:=ih (r.set (10+a) 1) j;unfold mH at this;rw[this,List.length_set,List.getElem?_set]
  by_cases h1:(∃i∈l,10+i=j)/\j<r.length
  .rw[if_pos h1,if_pos ⟨by obtain⟨⟨i,hi,e⟩,_⟩:=h1;exact⟨i,List.mem_cons_of_mem _ hi,e⟩,h1.2⟩]
  .rw[if_neg h1]
   by_cases h2:10+a=j
   .rw[if_pos h2]
    by_cases h3:j<r.length
    .rw[if_pos (by omega),if_pos ⟨⟨a,List.mem_cons_self,h2⟩,h3⟩]
    .rw[if_neg (by omega),if_neg (by omega),List.getElem?_eq_none (by omega)]
   .rw[if_neg h2,if_neg]
    rintro⟨⟨i,hi,e⟩,h3⟩;rcases List.mem_cons.1 hi with rfl|hi
    .exact h2 e
    .exact h1 ⟨⟨i,hi,e⟩,h3⟩
theorem jE (n:Nat):(lz n).length=64:=by simp[lz,mb]
theorem EM (n:Nat)(m:dO)(k:Nat)(hm:∀i,(m i).isSome->i<k):mH (lz n) ((List.range k).filter λi=>(m i).isSome)=ei n m:=by
 apply List.ext_getElem?
 intro j;rw[yV,pu,IS,jE]
 by_cases h1:j<10
 .rw[if_pos h1,if_pos h1,if_neg (by rintro⟨⟨i,_,e⟩,_⟩;omega)]
 .rw[if_neg h1,if_neg h1]
  by_cases h2:j<64
  .rw[if_pos h2,if_pos h2]
   cases h3:(m (j-10)).isSome with
   |true=>
    rw[if_pos ⟨⟨j-10,by rw[List.mem_filter,List.mem_range];exact⟨hm _ h3,h3⟩,by omega⟩,h2⟩];rfl
   |false=>
    rw[if_neg]
    .rfl
    .rintro⟨⟨i,hi,e⟩,_⟩
     rw[List.mem_filter] at hi;obtain rfl:i=j-10:=by omega
     rw[h3] at hi;exact absurd hi.2 (by decide)
  .rw[if_neg h2,if_neg h2,if_neg (by omega)]
def upd (m:dO)(i:Nat)(v:Option cV):dO:=λj=>if j=i then v else m j
theorem Cu (n:Nat)(m:dO)(i:Nat)(hi:i<54)(v:Option cV):(ei n m).set (10+i) (if v.isSome then 1 else 0)=ei n (upd m i v):=by
 apply List.ext_getElem?
 intro j;rw[List.getElem?_set,iV,pu,pu]
 by_cases h1:10+i=j
 .have h3:j-10=i:=by omega
  have h4:¬(j<10):=by omega
  have h5:j<64:=by omega
  have h6:10+i<64:=by omega
  simp[upd,h3,h4,h5,h6,h1]
 .rw[if_neg h1]
  by_cases h2:j<10
  .rw[if_pos h2,if_pos h2]
  .rw[if_neg h2,if_neg h2]
   have:¬(j-10=i):=by omega
   simp[upd,this]
theorem wo (l:List UInt8)(o:Nat)(v:List UInt8)(h:o+v.length<=l.length)(k:Nat):(splice l o v)[k]? =if k<o then l[k]? else if k<o+v.length then v[k-o]? else l[k]? :=by
 unfold splice;rw[List.getElem?_append,List.getElem?_append];simp only[List.length_append,List.length_take,List.getElem?_take,List.getElem?_drop];have h1:min o l.length=o:=by omega
 rw[h1]
 by_cases h2:k<o
 .simp[h2];omega
 .by_cases h3:k<o+v.length
  .simp[h2,h3]
  .simp only[h2,h3,if_false]
   congr 1
   omega
theorem nd (l:List UInt8)(o:Nat)(v:List UInt8)(h:o+v.length<=l.length):(splice l o v).length=l.length:=by
 unfold splice;simp only[List.length_append,List.length_take,List.length_drop];omega
theorem sG (s:Nat)(p c:List UInt8)(hp:p.length<=8)(hc:c.length<=96)(k:Nat):
  (cK s p c)[k]? =if k<3 then(dR s p.length c.length)[k]? else if k<3+p.length then p[k-3]? else if k<11 then(dR s p.length c.length)[k]? else if k<11+c.length then c[k-11]? else(dR s p.length c.length)[k]? :=by
 have hh:(dR s p.length c.length).length=128:=by simp[dR]
 unfold cK;rw[List.take_of_length_le hp,List.take_of_length_le (by omega:c.length<=117)];rw[wo _ _ _ (by rw[nd _ _ _ (by omega)];omega),wo _ _ _ (by omega)]
 by_cases h1:k<3
 .rw[if_pos (by omega),if_pos h1,if_pos h1]
 .rw[if_neg h1,if_neg h1]
  by_cases h2:k<3+p.length
  .rw[if_pos (by omega),if_pos h2,if_pos h2]
  .rw[if_neg h2,if_neg h2]
theorem QI (s:Nat)(p c:List UInt8)(hp:p.length<=8)(hc:c.length<=96):(cK s p c).length=128:=by
 have hh:(dR s p.length c.length).length=128:=by simp[dR]
 unfold cK;rw[List.take_of_length_le hp,List.take_of_length_le (by omega:c.length<=117)];rw[nd _ _ _ (by rw[nd _ _ _ (by omega)];omega),nd _ _ _ (by omega),hh]
theorem xG (s p c:Nat):(dR s p c)[0]? =some (UInt8.ofNat s)/\(dR s p c)[1]? =some (UInt8.ofNat p)/\(dR s p c)[2]? =some (UInt8.ofNat c):=by
 refine⟨?_,?_,?_⟩<;>simp[dR,List.getElem?_set]
theorem RH (s:Nat)(p c:List UInt8)(hs:s<256)(hp:p.length<=8)(hc:c.length<=96):gv (cK s p c)=s:=by
 unfold gv eC;rw[List.getD_eq_getElem?_getD,sG s p c hp hc,if_pos (by omega),(xG _ _ _).1];simp;omega
theorem NL (s:Nat)(p c:List UInt8)(hp:p.length<=8)(hc:c.length<=96):eC (cK s p c) 1=p.length:=by
 unfold eC;rw[List.getD_eq_getElem?_getD,sG s p c hp hc,if_pos (by omega),(xG _ _ _).2.1];simp;omega
theorem NN (s:Nat)(p c:List UInt8)(hp:p.length<=8)(hc:c.length<=96):eC (cK s p c) 2=c.length:=by
 unfold eC;rw[List.getD_eq_getElem?_getD,sG s p c hp hc,if_pos (by omega),(xG _ _ _).2.2];simp;omega
theorem NM (s:Nat)(p c:List UInt8)(hp:p.length<=8)(hc:c.length<=96):dY (cK s p c)=p:=by
 unfold dY;rw[NL s p c hp hc,Nat.min_eq_left hp]
 apply List.ext_getElem?
 intro k;rw[List.getElem?_take]
 by_cases h:k<p.length
 .rw[if_pos h,List.getElem?_drop,sG s p c hp hc,if_neg (by omega),if_pos (by omega)]
  congr 1;omega
 .rw[if_neg h,List.getElem?_eq_none (by omega)]
theorem uM (s:Nat)(p c:List UInt8)(hp:p.length<=8)(hc:c.length<=96):bN (cK s p c)=c:=by
 unfold bN;rw[NN s p c hp hc,Nat.min_eq_left hc]
 apply List.ext_getElem?
 intro k;rw[List.getElem?_take]
 by_cases h:k<c.length
 .rw[if_pos h,List.getElem?_drop,sG s p c hp hc,if_neg (by omega),if_neg (by omega),if_neg (by omega),if_pos (by omega)]
  congr 1;omega
 .rw[if_neg h,List.getElem?_eq_none (by omega)]
theorem mP {α:Type}[BEq α][LawfulBEq α]:∀(l r:List α),l.Nodup->(∀a∈l,a∈r)->l.length<=r.length
 |[],_,_,_=>by simp
 |a::l,r,hn,hs=>by
  rw[List.nodup_cons] at hn;have ha:a∈r:=hs a List.mem_cons_self;have h:=mP l (r.erase a) hn.2 λb hb=>by
   have hne:b≠a:=λe=>hn.1 (e▸hb)
   exact(List.mem_erase_of_ne hne).2 (hs b (List.mem_cons_of_mem _ hb))
  rw[List.length_erase_of_mem ha] at h;have:=List.length_pos_of_mem ha;rw[List.length_cons];omega
structure nC (L:List UInt8)(n:Nat)(m:dO):Prop where
 len:L.length=64*n
 lo:16<=n
 root:kj L 0=ei n m
 recs:∀i f,m i=some f->kj L (1+2*i)++kj L (2+2*i)=cK f.set f.path f.content
 lt:∀i f,m i=some f->i<aK n
 good:∀i f,m i=some f->iY f.set f.path=true/\f.content.length<=96
 inj:∀i j f g,m i=some f->m j=some g->nameOf f=nameOf g->i=j
theorem pD (n:Nat):aK n<=54:=Nat.min_le_right _ _
theorem Ja (n i:Nat)(h:i<aK n):2+2*i<n:=by
 unfold aK at h;omega
theorem xn {s:Nat}{p:List UInt8}(h:iY s p=true):p.length<=8/\s<=3:=by
 unfold iY at h;split at h
 .unfold cC at h
  simp only[Bool.and_eq_true,decide_eq_true_eq] at h;omega
 .split at h
  .have:p=[]:=by simpa using h
   subst this;simp;omega
  .cases h
def iZ (n:Nat)(m:dO):List cV:=(List.range (aK n)).filterMap m
section
variable {L:List UInt8}{n:Nat}{m:dO}{x:DS}
theorem zI (h:nC x.aR n m)(hw:x.waiting=[]):taken x n=(List.range (aK n)).filter λi=>(m i).isSome:=by
 unfold taken;rw[tA x hw,h.root,El n m _ (pD n)]
theorem GD (h:nC x.aR n m)(hw:x.waiting=[]){i:Nat}{f:cV}(hf:m i=some f):cH x i=cK f.set f.path f.content:=by
 unfold cH DS.sec;rw[wW x hw,wW x hw,h.recs i f hf]
theorem CD (h:nC x.aR n m)(hw:x.waiting=[]){i:Nat}{f:cV}(hf:m i=some f):fileAt x i=f:=by
 have hg:=h.good i f hf;have hl:=xn hg.1;unfold fileAt;rw[GD h hw hf,RH _ _ _ (by omega) hl.1 hg.2,NM _ _ _ hl.1 hg.2,uM _ _ _ hl.1 hg.2]
theorem nN (g:Nat->cV):∀(l:List Nat),(∀i∈l,∀f,m i=some f->g i=f)->(l.filter λi=>(m i).isSome).map g=l.filterMap m
 |[],_=>rfl
 |a::l,h=>by
  have ih:=nN g l λi hi=>h i (List.mem_cons_of_mem _ hi)
  cases hm:m a with
  |none=>rw[List.filter_cons_of_neg (by simp[hm]),List.filterMap_cons_none hm,ih]
  |some f=>rw[List.filter_cons_of_pos (by simp[hm]),List.map_cons,List.filterMap_cons_some hm,ih,h a List.mem_cons_self f hm]
theorem pA (h:nC x.aR n m)(hw:x.waiting=[]):aP x n=iZ n m:=by
 unfold aP iZ;rw[zI h hw];exact nN _ _ λi _ f hf=>CD h hw hf
theorem zJ (h:nC x.aR n m)(hw:x.waiting=[]){i:Nat}{f:cV}(hf:m i=some f)(s:Int)(p:ByteArray):named x s p i=((f.set:Int)==s&&aB f.path==p):=by
 have:=CD h hw hf;unfold fileAt at this;unfold named;rw[<-this]
theorem Gq (s:Int)(p:ByteArray)(i:Nat):∀(l:List Nat),i∈l->(∀j∈l,named x s p j=decide (j=i))->cD x s p l=i
 |[],h,_=>by simp at h
 |a::l,h,hn=>by
  unfold cD;rw[hn a List.mem_cons_self]
  by_cases ha:a=i
  .simp[ha]
  .rw[decide_eq_false ha]
   rcases List.mem_cons.1 h with e|h'
   .exact absurd e.symm ha
   .simpa using Gq s p i l h' λj hj=>hn j (List.mem_cons_of_mem _ hj)
theorem Cb (s:Int)(p:ByteArray):∀(l:List Nat),(∀j∈l,named x s p j=false)->cD x s p l=-1
 |[],_=>rfl
 |a::l,hn=>by
  unfold cD;rw[hn a List.mem_cons_self];simpa using Cb s p l λj hj=>hn j (List.mem_cons_of_mem _ hj)
theorem AI (h:nC x.aR n m)(hw:x.waiting=[]){i:Nat}:i∈taken x n↔∃f,m i=some f:=by
 rw[zI h hw,List.mem_filter,List.mem_range,Option.isSome_iff_exists];exact⟨λh=>h.2,λ⟨f,hf⟩=>⟨h.lt i f hf,f,hf⟩⟩
theorem CB (h:nC x.aR n m)(hw:x.waiting=[]){i:Nat}{f:cV}(hf:m i=some f):cD x f.set (aB f.path) (taken x n)=i:=by
 refine Gq _ _ i _ ((AI h hw).2 ⟨f,hf⟩) λj hj=>?_
 obtain⟨g,hg⟩:=(AI h hw).1 hj;rw[zJ h hw hg]
 by_cases hji:j=i
 .subst hji
  rw[hf] at hg;obtain rfl:=Option.some.inj hg;rw[yj];simp
 .rw[decide_eq_false hji,Bool.and_eq_false_iff]
  by_cases h1:g.set=f.set
  .right
   rw[yj,beq_eq_false_iff_ne];intro e;exact hji (h.inj j i g f hg hf (by unfold nameOf;rw[h1,e]))
  .left
   rw[beq_eq_false_iff_ne];omega
theorem qC (h:nC x.aR n m)(hw:x.waiting=[])(s:Nat)(p:List UInt8)(hn:∀i f,m i=some f->nameOf f≠(s,p)):cD x s (aB p) (taken x n)=-1:=by
 refine Cb _ _ _ λj hj=>?_
 obtain⟨g,hg⟩:=(AI h hw).1 hj;rw[zJ h hw hg,Bool.and_eq_false_iff]
 by_cases h1:g.set=s
 .right
  rw[yj,beq_eq_false_iff_ne];intro e;exact hn j g hg (by unfold nameOf;rw[h1,e])
 .left
  rw[beq_eq_false_iff_ne];omega
theorem P1 (h:nC x.aR n m)(hw:x.waiting=[]){i:Nat}{f:cV}(hf:m i=some f):x.content n f.set (aB f.path)=some f.content:=by
 have hg:=h.good i f hf;have hl:=xn hg.1;unfold DS.content;rw[CB h hw hf];show some (bN (cH x i))=_;rw[GD h hw hf,uM _ _ _ hl.1 hg.2]
theorem wQ (h:nC x.aR n m)(hw:x.waiting=[])(s:Nat)(p:List UInt8)(hn:∀i f,m i=some f->nameOf f≠(s,p)):x.content n s (aB p)=none:=by
 unfold DS.content;rw[qC h hw s p hn];rfl
def holds (m:dO)(s:Nat)(p:List UInt8)(r:Option (List UInt8)):Prop:=
 match r with
 |some c=>∃i,m i=some ⟨s,p,c⟩
 |none=>∀i f,m i=some f->nameOf f≠(s,p)
theorem uo (h:nC x.aR n m)(hw:x.waiting=[]){s:Nat}{p:List UInt8}{r:Option (List UInt8)}(hr:holds m s p r):x.content n s (aB p)=r:=by
 cases r with
 |none=>exact wQ h hw s p hr
 |some c=>
  obtain⟨i,hi⟩:=hr;exact P1 h hw hi
theorem JA (m:dO)(s:Nat)(p:List UInt8):∃r,holds m s p r:=by
 by_cases h:∃i f,m i=some f/\nameOf f=(s,p)
 .obtain⟨i,f,hf,e⟩:=h
  refine⟨some f.content,i,?_⟩;obtain⟨fs,fp,fc⟩:=f;simp only[nameOf,Prod.mk.injEq] at e;rw[hf,e.1,e.2]
 .exact⟨none,λi f hf e=>h ⟨i,f,hf,e⟩⟩
theorem nC.mem (h:nC L n m){f:cV}:f∈iZ n m↔∃i,m i=some f:=by
 unfold iZ;rw[List.mem_filterMap];exact⟨λ⟨i,_,hf⟩=>⟨i,hf⟩,λ⟨i,hf⟩=>⟨i,List.mem_range.2 (h.lt i f hf),hf⟩⟩
theorem nC.nodup (h:nC L n m):((iZ n m).map nameOf).Nodup:=by
 unfold iZ List.Nodup;rw[List.pairwise_map,List.pairwise_filterMap];refine List.Pairwise.imp ?_ List.pairwise_lt_range;intro i j hij f hf g hg e;have:=h.inj i j f g hf hg e;omega
end
theorem uI (root:List UInt8)(M:Nat):∀(f k:Nat),dW root M f k=-1->∀i,k<=i->i<M->i<k+f->dc root i≠0
 |0,k,_,i,h1,_,h3=>by omega
 |f+1,k,h,i,h1,h2,h3=>by
  unfold dW at h;rw[if_pos (by omega)] at h;split at h
  .omega
  .rename_i hk
   by_cases e:i=k
   .subst e
    intro h0;exact hk (by simp[h0])
   .exact uI root M f (k+1) h i (by omega) h2 (by omega)
theorem su (root:List UInt8)(M:Nat):∀(f k:Nat),dW root M f k≠-1->∃i:Nat,i<M/\dW root M f k=i/\dc root i=0
 |0,k,h=>absurd rfl h
 |f+1,k,h=>by
  unfold dW at h⊢
  by_cases h1:k<M
  .rw[if_pos h1] at h⊢
   by_cases h2:(dc root k==0)=true
   .rw[if_pos h2]
    exact⟨k,h1,rfl,by simpa using h2⟩
   .rw[if_neg h2] at h⊢
    exact su root M f (k+1) h
  .rw[if_neg h1] at h
   exact absurd rfl h
theorem LG {n:Nat}{m:dO}{x:DS}(h:nC x.aR n m)(hw:x.waiting=[])(hroom:∃i,i<aK n/\m i=none):∃i:Nat,i<aK n/\dV x n=i/\m i=none:=by
 have hle:=pD n;unfold dV;rw[tA x hw,h.root];have hne:dW (ei n m) (aK n) (aK n) 0≠-1:=by
  intro e;obtain⟨i,hi,hm⟩:=hroom;have:=uI _ _ _ _ e i (by omega) hi (by omega);rw[tH n m i (by omega),hm] at this;exact this rfl
 obtain⟨i,hi,e,hm⟩:=su _ _ _ _ hne;refine⟨i,hi,e,?_⟩;rw[tH n m i (by omega)] at hm;cases hq:m i with
 |none=>rfl
 |some f=>rw[hq] at hm;simp at hm
end
section
open Go.RowKit Go.Lib Go.Sort
def fC (k:Nat):List UInt8:=(dN k).data.toList
def P7:List (List UInt8):=(List.range 7).map fC
theorem AV {p:List UInt8}:p∈P7↔∃k,k<7/\p=fC k:=by
 unfold P7;rw[List.mem_map];exact⟨λ⟨k,hk,e⟩=>⟨k,List.mem_range.1 hk,e.symm⟩,λ⟨k,hk,e⟩=>⟨k,List.mem_range.2 hk,e.symm⟩⟩
theorem lg (k:Nat):aB (fC k)=dN k:=rfl
theorem I4:∀a,a<7->∀b,b<7->fC a=fC b->a=b:=by decide
theorem zB {ps:List (List UInt8)}:(ps.mergeSort λx y=>decide (x<=y)).Pairwise λx y=>x<=y:=by
 have h:=List.pairwise_mergeSort (le:=λx y:List UInt8=>decide (x<=y)) (λa b c h1 h2=>by simp only[decide_eq_true_eq] at*;exact List.le_trans h1 h2)
  (λa b=>by simp only[Bool.or_eq_true,decide_eq_true_eq];exact List.le_total a b) ps
 exact h.imp λh=>by simpa using h
theorem DJ {qs:List (List UInt8)}{a:List UInt8}(h:a∈compact qs):a∈qs:=by
 unfold compact compactUpTo at h;obtain⟨i,hi,e⟩:=List.mem_map.1 h;have hi':=List.mem_range.1 (List.mem_filter.1 hi).1;rw[getElem!_pos qs.toArray i (by simpa using hi')] at e;rw[<-e];simp
theorem zg {qs:List (List UInt8)}(hs:qs.Pairwise λx y=>x<=y):(compact qs).Nodup:=by
 unfold compact compactUpTo List.Nodup;rw[List.pairwise_map];refine(List.pairwise_lt_range.filter _).imp_of_mem ?_;intro i j hi hj hij e;have hi':=List.mem_range.1 (List.mem_filter.1 hi).1;have hj':=List.mem_range.1 (List.mem_filter.1 hj).1;have hk:=(List.mem_filter.1 hj).2;unfold keeps at hk;rw[decide_eq_true_eq] at hk;rcases hk with hk|hk
 .omega
 rw[getElem!_pos qs.toArray i (by simpa using hi'),getElem!_pos qs.toArray j (by simpa using hj')] at e;rw[getElem!_pos qs.toArray (j-1) (by simp;omega),getElem!_pos qs.toArray j (by simpa using hj')] at hk;simp only[List.getElem_toArray] at e hk;rw[List.pairwise_iff_getElem] at hs;have h1:qs[i]<=qs[j-1]:=by
  by_cases hc:i=j-1
  .subst hc;exact List.le_refl _
  .exact hs i (j-1) hi' (by omega) (by omega)
 have h2:qs[j-1]<=qs[j]:=hs (j-1) j (by omega) hj' (by omega);exact hk (List.le_antisymm (e▸h1) h2)
theorem JY (fs:List cV)(h:∀f∈fs,f.set≠3->f.path∈P7):oW fs<=7:=by
 unfold oW;refine Nat.le_trans (mP _ P7 (zg zB) λa ha=>?_) (Nat.le_of_eq (by rfl));have h1:=DJ ha;rw[List.mem_mergeSort] at h1;unfold ec at h1;obtain⟨f,hf,e⟩:=List.mem_map.1 h1;rw[List.mem_filter] at hf;rw[<-e];exact h f hf.1 (by simpa using hf.2)
def Seven (m:dO):Prop:=∀i f,m i=some f->f.set<=2/\f.path∈P7
section
variable {L:List UInt8}{n:Nat}{m:dO}{x:DS}
theorem Seven.files (h7:Seven m)(h:nC L n m):∀f∈iZ n m,f.set<=2/\f.path∈P7:=λf hf=>by
 obtain⟨i,hi⟩:=h.mem.1 hf;exact h7 i f hi
theorem oD (h:nC x.aR n m)(hw:x.waiting=[])(h7:Seven m):x.pending n=false:=by
 have:=wQ h hw 3 [] λi f hf e=>by
  have:=h7 i f hf;unfold nameOf at e;simp only[Prod.mk.injEq] at e;omega
 unfold DS.pending;rw[show(⟨#[]⟩:ByteArray)=aB [] from rfl];rw[show((3:Int))=((3:Nat):Int) from rfl,this];rfl
theorem EC (h:nC x.aR n m)(hw:x.waiting=[])(h7:Seven m)(s:Nat):
  (bF (aP x n) s).length=((List.range 7).filter λk=>(x.content n s (dN k)).isSome).length:=by
 rw[pA h hw];have hmem:∀p,p∈bF (iZ n m) s↔∃i f,m i=some f/\nameOf f=(s,p):=by
  intro p;unfold bF;rw[List.mem_map];constructor
  .rintro⟨f,hf,e⟩
   rw[List.mem_filter] at hf;obtain⟨i,hi⟩:=h.mem.1 hf.1;exact⟨i,f,hi,by unfold nameOf;rw[<-e];have:=hf.2;simp at this;rw[this]⟩
  .rintro⟨i,f,hf,e⟩
   unfold nameOf at e;simp only[Prod.mk.injEq] at e;exact⟨f,List.mem_filter.2 ⟨h.mem.2 ⟨i,hf⟩,by simp[e.1]⟩,e.2⟩
 have hnd:(bF (iZ n m) s).Nodup:=by
  have h1:=h.nodup;unfold List.Nodup at h1⊢;unfold bF;rw[List.pairwise_map] at h1⊢;refine(h1.filter _).imp_of_mem ?_;intro a b ha hb hab e;have e1:=(List.mem_filter.1 ha).2;have e2:=(List.mem_filter.1 hb).2;simp at e1 e2;exact hab (by unfold nameOf;rw[e,e1,e2])
 have hc:∀k,(x.content n s (dN k)).isSome=true↔fC k∈bF (iZ n m) s:=by
  intro k;rw[hmem];obtain⟨r,hr⟩:=JA m s (fC k);rw[<-lg,uo h hw hr];cases r with
  |none=>
   simp only[Option.isSome_none,Bool.false_eq_true,false_iff];rintro⟨i,f,hf,e⟩;exact hr i f hf e
  |some c=>
   obtain⟨i,hi⟩:=hr;simp only[Option.isSome_some,true_iff];exact⟨i,_,hi,rfl⟩
 have ahj:(((List.range 7).filter λk=>(x.content n s (dN k)).isSome).map fC).Nodup:=by
  unfold List.Nodup;rw[List.pairwise_map];refine(List.pairwise_lt_range.filter _).imp_of_mem ?_;intro a b ha hb hab e;have e1:=List.mem_range.1 (List.mem_filter.1 ha).1;have e2:=List.mem_range.1 (List.mem_filter.1 hb).1;have:=I4 a e1 b e2 e;omega
 rw[show((List.range 7).filter λk=>(x.content n s (dN k)).isSome).length=(((List.range 7).filter λk=>(x.content n s (dN k)).isSome).map fC).length from(List.length_map _).symm]
 apply Nat.le_antisymm
 .refine mP _ _ hnd λp hp=>?_
  obtain⟨i,f,hf,e⟩:=(hmem p).1 hp;unfold nameOf at e;simp only[Prod.mk.injEq] at e;obtain⟨k,hk,e2⟩:=AV.1 (h7 i f hf).2;have e3:fC k=p:=by rw[<-e2,e.2]
  exact List.mem_map.2 ⟨k,List.mem_filter.2 ⟨List.mem_range.2 hk,(hc k).2 (e3▸hp)⟩,e3⟩
 .refine mP _ _ ahj λp hp=>?_
  obtain⟨k,hk,e⟩:=List.mem_map.1 hp;rw[<-e];exact(hc k).1 (List.mem_filter.1 hk).2
end
end
end
end Go.Proofs.YtchcmhodnkgojaaGreat
