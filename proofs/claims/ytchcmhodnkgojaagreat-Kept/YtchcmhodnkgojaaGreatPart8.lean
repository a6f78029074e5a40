/- On the way to the last text; put together and shortened by program. -/
import Derived.Test.YtchcmhodnkgojaaGreatPart7
import Derived.MapKept
set_option linter.all false
set_option maxRecDepth 100000
set_option maxHeartbeats 8000000
namespace Go.Proofs.YtchcmhodnkgojaaGreat
noncomputable section
section
open Go.Conc
open Go.ConcM (OsLater)
namespace aH
section
variable {Δ:Type}{X:Cx Δ}{r:bk}{k:Nat}{T T':Lo}{γ:Gh Δ}{g g':Goroutine}{w w':World}
theorem RX.dx {deaf:Bool}{ro own:Nat->Prop}{w w':World}(e:ConcM.Eff X.Fd X.Wg w w')(ht:∀b:Nat,w'.heap[b]? =w.heap[b]?):DX X deaf ro own w w' #[]:=
 ⟨e.tape,e.output,Nat.le_of_eq e.size.symm,e.os,fun b _ _=>ht b,by simp,fun _=>rfl⟩
variable (hm:uk r=false)(R:Room X γ)
include hm R
theorem qU {f:FuncId}{fn:Func}(hX:Ext PP f fn){v:Value}(he:Extern.find fn=some (fun _=>pure v)){args:Array Value}(hc:aF g=some (f,args))(go:LW X r γ k T (resume g v) w):LW X r γ k T g w:=by
 refine aD.step (aU hc).1 fun w₁ hr=>⟨_,w₁,#[],yL hX v he hc,(jE _ _ γ.own w₁).1,?_⟩
 have:=(jE (X:=X) (eD T.pc) γ.ro γ.own w₁).2;rw[this];exact go.rely hr
theorem oQ {args:Array Value}(hc:aF g=some (224,args))(go:∀m w',RR X γ w w'->LW X r γ k T (resume g (.int .i64 ((m:Nat):Int))) w')(live:∃s,ShAt X w s):LW X r γ k T g w:=by
 refine aD.step (aU hc).1 fun w₁ hr=>?_
 have ef:=ConcM.Eff.later (Mu:=X.Fd) (Wg:=X.Wg) w₁;obtain⟨s,hs⟩:=hr.live live;have hs':ShAt X w₁.later s:=⟨hs.1,hs.2⟩
 refine⟨_,w₁.later,#[],yM (P:=PP) (main:=false) (w:=w₁) Rx Sw RU hc,RX.dx ef fun _=>rfl,?_⟩;have e:(eT X (eD T.pc) γ.ro).up γ.own w₁ w₁.later=γ.own:=by
  funext b
  exact propext ⟨fun h=>h.elim id fun z=>by have:w₁.later.heap.size=w₁.heap.size:=rfl;omega,.inl⟩
 rw[e];exact go _ _ (hr.trans X (R.rx ef hs'))
theorem tV (hpc:T.pc= .c2){old nw:Int}(ho:T.old=old)(hn:T.nw=nw)(hc:aF g=some (217,#[pt X.Fd,.int .i32 old,.int .i32 nw]))
  (hit:(old=0\/old=2)->∀k' w',k'<k->RR X γ w w'->LW X r γ k' (at_ .le T.n) (resume g (.bool true)) w')
  (slp:¬(old=0\/old=2)->∀k' w',k'<k->RR X γ w w'->LW X r γ k' {pc:= .s1,sv:=T.sv,n:=T.n} (resume g (.bool true)) w')
  (miss:∀k' w',k'<k->RR X γ w w'->LW X r γ k' {T with pc:= .r3,old:=0,nw:=0} (resume g (.bool false)) w'):LW X r γ k T g w:=by
 by_cases h02:old=0\/old=2
 .refine AP hm R (T1:=at_ .le T.n) (T2:={T with pc:= .r3,old:=0,nw:=0}) (.inl hpc) hc (fun s e=>?_) (fun s _ e=>?_) (by unfold ja;rw[hpc]) (by simp) (by unfold ja;rw[hpc]) (by simp) (hit h02) (fun _=>miss)
  .unfold mv
   rw[hpc];simp[ho,hn,e,h02]
  .refine⟨({T with pc:= .r3,old:=0,nw:=0},s),?_,.inr rfl⟩
   unfold mv;rw[hpc];simp[ho,e]
 .refine AP hm R (T1:={pc:= .s1,sv:=T.sv,n:=T.n}) (T2:={T with pc:= .r3,old:=0,nw:=0}) (.inl hpc) hc (fun s e=>?_) (fun s _ e=>?_) (by unfold ja;rw[hpc]) (by simp) (by unfold ja;rw[hpc]) (by simp) (slp h02) (fun _=>miss)
  .unfold mv
   rw[hpc];simp[ho,hn,e,h02]
  .refine⟨({T with pc:= .r3,old:=0,nw:=0},s),?_,.inr rfl⟩
   unfold mv;rw[hpc];simp[ho,e]
end
section
variable {Δ:Type}{X:Cx Δ}{r:bk}{γ:Gh Δ}{g:Goroutine}{w0 w:World}{n:Nat}{fr:Frame}{cs:List Frame}
def ju (X:Cx Δ)(r:bk)(γ:Gh Δ)(n:Nat)(fr:Frame)(cs:List Frame)(w0:World)(k:Nat):Prop:=
 ∀(aJ:Nat) (tm:Array Value) (w:World) (T:Lo),RR X γ w0 w->T.n=n->HH X.Fd aJ T.sv T.aw T.it T.old tm->(hd T).pc≠.bad->LW X r γ k (hd T) (gH X.Fd fr cs tm) w
variable (hm:uk r=false)(R:Room X γ)(live:∃s,ShAt X w0 s)(tk:Taken X r γ n fr cs w0)
include hm R
theorem ig {k:Nat}{T:Lo}(ih:∀k',k'<k->ju X r γ n fr cs w0 k')(h0:RR X γ w0 w)(hpc:T.pc= .r0\/T.pc= .r1\/T.pc= .r3)(hn:T.n=n)(h00:T.pc= .r0->T.aw=false/\T.sv=false/\T.it=0){aJ:Nat}{it':Int}
  (hit:it'=if T.pc= .r1 then IntKind.i64.wrap (T.it+1) else T.it) (hv:aR g=some (.load 21 (pt X.Fd))) (hq:(PP.funcs[g.frame.fn]?).any (·.norace)=true)
  (go:∀v,∃tm,HH X.Fd aJ T.sv T.aw it' v tm/\au PP false (resume g (.int .i32 v)) (gH X.Fd fr cs tm)):LW X r γ k T g w:=by
 refine AO hm R (by rcases hpc with h|h|h<;>simp[h]) hv hq fun s hf=>?_
 obtain⟨tm,hH,hg⟩:=go s.mu;have hne:∀T1:Lo,(hd T1).pc≠.quit:=fun T1=>by rcases CR T1 with h|h|h<;>rw[h]<;>simp
 rcases hpc with h|h|h
 .obtain⟨a1,a2,a3⟩:=h00 h
  refine⟨(hd {pc:= .r0,old:=s.mu,n:=T.n},s),by unfold mv;rw[h];simp,?_⟩
  by_cases hb:(hd {pc:= .r0,old:=s.mu,n:=T.n}).pc= .bad
  .exact .inl hb
  .refine .inr ⟨rfl,by unfold ja;rw[h],hne _,fun k' w' hk hr=>aC hg (ih k' hk aJ tm w' {pc:= .r0,old:=s.mu,n:=T.n} (h0.trans X hr) hn ?_ hb)⟩
   rw[if_neg (by rw[h];simp)] at hit;rw[hit,a1,a2,a3] at hH;exact hH
 .refine⟨(hd {T with old:=s.mu,it:=IntKind.i64.wrap (T.it+1)},s),by unfold mv;rw[h];simp,?_⟩
  by_cases hb:(hd {T with old:=s.mu,it:=IntKind.i64.wrap (T.it+1)}).pc= .bad
  .exact .inl hb
  .refine .inr ⟨rfl,by unfold ja;rw[h],hne _,fun k' w' hk hr=>aC hg (ih k' hk aJ tm w' {T with old:=s.mu,it:=IntKind.i64.wrap (T.it+1)} (h0.trans X hr) hn ?_ hb)⟩
   rw[if_pos h] at hit;rw[hit] at hH;exact hH
 .refine⟨(hd {T with old:=s.mu},s),by unfold mv;rw[h];simp,?_⟩
  by_cases hb:(hd {T with old:=s.mu}).pc= .bad
  .exact .inl hb
  .refine .inr ⟨rfl,by unfold ja;rw[h],hne _,fun k' w' hk hr=>aC hg (ih k' hk aJ tm w' {T with old:=s.mu} (h0.trans X hr) hn ?_ hb)⟩
   rw[if_neg (by rw[h];simp)] at hit;rw[hit] at hH;exact hH
include live tk
theorem Ds {k:Nat}{tm:Array Value}(h0:RR X γ w0 w)(h:HR X.Fd tm):LW X r γ k (at_ .le n) (gR X.Fd fr cs tm) w:=by
 rw[h.eq];exact aC (aan _ _ _ _) (Dr hm R (aam _ _ _ _) (aal _ _ _ _) (aak _ _ _ _) afB afC afA (aaj _ _ _ _) (U3 _ _ _ _) (aao _ _ _ _) (h0.live live) fun k w1 d o hr=>tk k w1 d o (h0.trans X hr))
theorem SH {k:Nat}{T:Lo}(ih:∀k',k'<k->ju X r γ n fr cs w0 k'){tm:Array Value}{aJ:Nat}(h0:RR X γ w0 w)(h:HQ X.Fd aJ T.sv tm)(hpc:T.pc= .r2)(hn:T.n=n)(hT:T.old=0/\T.nw=0/\T.aw=false/\T.it=0):
  LW X r γ k T (gN X.Fd fr cs tm) w:=by
 rw[h.eq];have hne:∀T1:Lo,(hd T1).pc≠.quit:=fun T1=>by rcases CR T1 with h|h|h<;>rw[h]<;>simp
 have add:∀{k1:Nat} {w1:World} {d:Int} {gg:Goroutine} {T1:Lo},RR X γ w0 w1->T1.n=n->T1.pc= .a1->T1.nw=d->(d=-11\/d=-7)->aF gg=some (219,#[pt X.Fd,.int .i32 d])->
   (∀v,∃tm,HR X.Fd tm/\au PP false (resume gg (.int .i32 v)) (gR X.Fd fr cs tm))->LW X r γ k1 T1 gg w1:=by
  intro k1 w1 d gg T1 h1 hn1 hp1 hd1 hdd hc hgo;refine Np hm R (.inl hp1) hc fun s hf=>?_
  by_cases hcase:(s.mu=12/\T1.nw=-11)\/(s.mu=20/\(T1.nw=-7\/T1.nw=-11))
  .refine⟨(at_ .le T1.n,{s with mu:=s.mu+T1.nw}),by unfold mv;rw[hp1];simp[hcase],.inr ⟨?_,by unfold ja;rw[hp1],by simp,fun k' w' hk hr=>?_⟩⟩
   .have:IntKind.i32.wrap (s.mu+d)=s.mu+T1.nw:=by
     rw[hd1];rw[hd1] at hcase;rcases hcase with⟨a,b⟩|⟨a,b|b⟩<;>rw[a,b]<;>decide
    rw[this]
   .obtain⟨tm,hR,hg⟩:=hgo (IntKind.i32.wrap (s.mu+d))
    have:(at_ .le T1.n)=at_ .le n:=by rw[hn1]
    dsimp only;rw[this];exact aC hg (Ds hm R live tk (h1.trans X hr) hR)
  .exact⟨(at_ .bad T1.n,s),by unfold mv;rw[hp1];simp[hcase],.inl rfl⟩
 obtain⟨pc,old,nw,aw,sv,it,n'⟩:=T;simp only at hpc hn hT;obtain⟨rfl,rfl,rfl,rfl⟩:=hT;subst hpc;subst hn;cases sv with
 |false=>
  refine aC (ag8 _ _ _ _ _) (AO hm R (by simp) (ag7 _ _ _ _ _) (acI _ _ _ _ _) fun s hf=>?_)
  by_cases h23:s.mu=2\/s.mu=3
  .refine⟨(hd {pc:= .r2,old:=s.mu,aw:=true,it:=0,n:=n'},s),by simp[mv,h23],.inr ⟨rfl,rfl,hne _,fun k' w' hk hr=>?_⟩⟩
   rcases h23 with e|e
   .rw[e]
    obtain⟨tm,hH,hg⟩:=f_2 X.Fd fr cs aJ fun i=>tm.getD i undef
    exact aC hg (ih k' hk aJ tm w' {pc:= .r2,old:=2,aw:=true,it:=0,n:=n'} (h0.trans X hr) rfl hH (by simp[hd]))
   .rw[e]
    obtain⟨tm,hH,hg⟩:=f_3 X.Fd fr cs aJ fun i=>tm.getD i undef
    exact aC hg (ih k' hk aJ tm w' {pc:= .r2,old:=3,aw:=true,it:=0,n:=n'} (h0.trans X hr) rfl hH (by simp[hd]))
  .by_cases h12:s.mu=12
   .refine⟨({pc:= .a1,nw:=-11,n:=n'},s),by simp[mv,h12],.inr ⟨rfl,rfl,by simp,fun k' w' hk hr=>?_⟩⟩
    rw[h12];exact aC (aha _ _ _ _ _) (add (h0.trans X hr) rfl rfl rfl (.inl rfl) (P0 _ _ _ _ _) fun v=>Wp _ _ _ _ _ _)
   .by_cases h20:s.mu=20
    .refine⟨({pc:= .a1,nw:=-11,n:=n'},s),by simp[mv,h20],.inr ⟨rfl,rfl,by simp,fun k' w' hk hr=>?_⟩⟩
     rw[h20];exact aC (ag9 _ _ _ _ _) (add (h0.trans X hr) rfl rfl rfl (.inl rfl) (PZ _ _ _ _ _) fun v=>Wo _ _ _ _ _ _)
    .exact⟨(at_ .bad n',s),by simp[mv,h23,h12,h20],.inl rfl⟩
 |true=>
  refine aC (acB _ _ _ _ _) (AO hm R (by simp) (acA _ _ _ _ _) (XB _ _ _ _ _) fun s hf=>?_)
  by_cases h23:s.mu=2\/s.mu=3
  .refine⟨(hd {pc:= .r2,old:=s.mu,aw:=true,sv:=true,it:=0,n:=n'},s),by simp[mv,h23],.inr ⟨rfl,rfl,hne _,fun k' w' hk hr=>?_⟩⟩
   rcases h23 with e|e
   .rw[e]
    obtain⟨tm,hH,hg⟩:=ag0 X.Fd fr cs aJ fun i=>tm.getD i undef
    exact aC hg (ih k' hk aJ tm w' {pc:= .r2,old:=2,aw:=true,sv:=true,it:=0,n:=n'} (h0.trans X hr) rfl hH (by simp[hd]))
   .rw[e]
    obtain⟨tm,hH,hg⟩:=agZ X.Fd fr cs aJ fun i=>tm.getD i undef
    exact aC hg (ih k' hk aJ tm w' {pc:= .r2,old:=3,aw:=true,sv:=true,it:=0,n:=n'} (h0.trans X hr) rfl hH (by simp[hd]))
  .by_cases h12:s.mu=12
   .refine⟨({pc:= .a1,nw:=-11,n:=n'},s),by simp[mv,h12],.inr ⟨rfl,rfl,by simp,fun k' w' hk hr=>?_⟩⟩
    rw[h12];exact aC (acD _ _ _ _ _) (add (h0.trans X hr) rfl rfl rfl (.inl rfl) (Lw _ _ _ _ _) fun v=>PY _ _ _ _ _ _)
   .by_cases h20:s.mu=20
    .refine⟨({pc:= .a1,nw:=-7,n:=n'},s),by simp[mv,h20],.inr ⟨rfl,rfl,by simp,fun k' w' hk hr=>?_⟩⟩
     rw[h20];exact aC (acC _ _ _ _ _) (add (h0.trans X hr) rfl rfl rfl (.inr rfl) (Lu _ _ _ _ _) fun v=>PX _ _ _ _ _ _)
    .exact⟨(at_ .bad n',s),by simp[mv,h23,h12,h20],.inl rfl⟩
theorem adh {k:Nat}{T:Lo}(ih:∀k',k'<k->ju X r γ n fr cs w0 k'){tm:Array Value}{aJ:Nat}(h0:RR X γ w0 w)(h:HQ X.Fd aJ T.sv tm)(hn:T.n=n)(hT:T.pc=(if T.sv then .r2 else .t2)/\T.old=0/\T.nw=0/\T.aw=false/\T.it=0):
  LW X r γ k T (gQ X.Fd fr cs tm) w:=by
 rw[h.eq];obtain⟨pc,old,nw,aw,sv,it,n'⟩:=T;simp only at hT hn;obtain⟨hpc,rfl,rfl,rfl,rfl⟩:=hT;subst hn;cases sv with
 |true=>
  obtain rfl:pc= .r2:=by simpa using hpc
  obtain⟨tm',hQ,hg⟩:=aaq X.Fd fr cs aJ fun i=>tm.getD i undef
  exact aC hg (SH hm R live tk ih h0 hQ rfl rfl ⟨rfl,rfl,rfl,rfl⟩)
 |false=>
  obtain rfl:pc= .t2:=by simpa using hpc
  refine aC (aas _ _ _ _ _) (No hm R rfl (O5 _ _ _ _ _) (late X.Fd fr cs aJ fun i=>tm.getD i undef) fun k' w' m hk hr=>?_);obtain⟨tm',hQ,hg⟩:=aar X.Fd fr cs aJ (fun i=>tm.getD i undef) m
  refine aC hg (SH hm R live tk (fun k1 h1=>ih k1 (by omega)) (aJ:=aJ) (h0.trans X hr) (T:={pc:= .r2,sv:=if late X.Fd fr cs aJ (fun i=>tm.getD i undef) m then true else false,n:=n'}) ?_ rfl rfl ⟨rfl,rfl,rfl,rfl⟩);have e:(if late X.Fd fr cs aJ (fun i=>tm.getD i undef) m=true then true else false)=late X.Fd fr cs aJ (fun i=>tm.getD i undef) m:=by
   cases late X.Fd fr cs aJ (fun i=>tm.getD i undef) m<;>rfl
  simp only[e];exact hQ
theorem tU {k:Nat}{sv:Bool}(ih:∀k',k'<k->ju X r γ n fr cs w0 k'){aJ:Nat}{u v:Value}(h0:RR X γ w0 w)(hc:aF g=some (225,#[pE X.Fd,u,v]))
  (go:∃tm,HQ X.Fd aJ sv tm/\au PP false (resume g U) (gQ X.Fd fr cs tm)):LW X r γ k {pc:= .s1,sv:=sv,n:=n} g w:=by
 refine Yg hm R rfl hc rfl fun k' w' hk hr=>?_
 obtain⟨tm,hQ,hg⟩:=go;exact aC hg (adh hm R live tk (fun k1 h1=>ih k1 (by omega)) (h0.trans X hr) hQ rfl ⟨rfl,rfl,rfl,rfl,rfl⟩)
theorem WF {k:Nat}{tm:Array Value}{aJ:Nat}{it:Int}(ih:∀k',k'<k->ju X r γ n fr cs w0 k')(h0:RR X γ w0 w)(h:HH X.Fd aJ false false it 0 tm):LW X r γ k {pc:= .c2,old:=0,nw:=1,aw:=false,sv:=false,it:=it,n:=n} (gH X.Fd fr cs tm) w:=by
 rw[h.eq];refine aC (ach _ _ _ _ _ _) ?_;refine tV hm R rfl rfl rfl (Yc _ _ _ _ _ _) (fun _ k2 w2 hk hr=>?_) (fun h=>absurd (by simp) h) (fun k2 w2 hk hr=>?_)
 .obtain⟨tm',hR,hg⟩:=Yb X.Fd fr cs aJ it (fun i=>tm.getD i undef)
  exact aC hg (Ds hm R live tk (h0.trans X hr) hR)
 .exact aC (Ra _ _ _ _ _ _) (ig hm R (fun k1 h1=>ih k1 (by omega)) (h0.trans X hr) (.inr (.inr rfl)) rfl (by simp) (it':=it) (by simp) (abc _ _ _ _ _ _) (VK _ _ _ _ _ _) fun v=>abd _ _ _ _ _ v _)
theorem WE {k:Nat}{tm:Array Value}{aJ:Nat}{it:Int}(ih:∀k',k'<k->ju X r γ n fr cs w0 k')(h0:RR X γ w0 w)(h:HH X.Fd aJ false false it 1 tm):LW X r γ k {pc:= .sq,old:=1,nw:=0,aw:=false,sv:=false,it:=it,n:=n} (gH X.Fd fr cs tm) w:=by
 rw[h.eq];refine aC (acg _ _ _ _ _ _) (AN hm R rfl rfl (ade _ _ _ _ _ _) (fun k1 w1 hk1 hr1=>?_) rfl (fun k1 w1 hk1 hr1=>?_))
 .have e:cl {pc:= .sq,old:=1,nw:=0,aw:=false,sv:=false,it:=it,n:=n}={pc:= .c2,old:=1,nw:=9,aw:=false,sv:=false,it:=it,n:=n}:=rfl
  rw[e];have h0:=h0.trans X hr1;refine aC (adf _ _ _ _ _ _) ?_;refine tV hm R rfl rfl rfl (Ya _ _ _ _ _ _) (fun h=>absurd h (by simp)) (fun _ k2 w2 hk hr=>?_) (fun k2 w2 hk hr=>?_)
  .have h0:=h0.trans X hr
   cases aJ with
   |zero=>exact aC (Q8 _ _ _ _ _) (oQ hm R (PA _ _ _ _ _) (fun m w3 hr3=>aC (aa6 X.Fd fr cs m it (fun i=>tm.getD i undef)) (tU hm R live tk (fun k1 h1=>ih k1 (by omega)) (h0.trans X hr3) (Vg _ _ _ _ _ _) (aaA _ _ _ _ _ _))) (h0.live live))
   |succ aJ=>exact aC (Q7 _ _ _ _ _ _) (tU hm R live tk (fun k1 h1=>ih k1 (by omega)) h0 (Va _ _ _ _ _ _) (aaw _ _ _ _ _ _))
  .exact aC (Q6 _ _ _ _ _ _) (ig hm R (fun k1 h1=>ih k1 (by omega)) (h0.trans X hr) (.inr (.inr rfl)) rfl (by simp) (it':=it) (by simp) (aba _ _ _ _ _ _) (VH _ _ _ _ _ _) fun v=>abb _ _ _ _ _ v _)
 .exact aC (Yf _ _ _ _ _ _) (qU hm R xDo fDo (ac3 _ _ _ _ _ _) (aC (ac2 _ _ _ _ _ _) (ig hm R (fun k2 h2=>ih k2 (by omega)) (h0.trans X hr1) (.inr (.inl rfl)) rfl (by simp) (it':=IntKind.i64.wrap (it+1)) (by simp) (ac0 _ _ _ _ _ _) (XV _ _ _ _ _ _) fun v=>ac1 _ _ _ _ _ v _)))
theorem Qb {k:Nat}{tm:Array Value}{aJ:Nat}{it:Int}(ih:∀k',k'<k->ju X r γ n fr cs w0 k')(h0:RR X γ w0 w)(h:HH X.Fd aJ false true it 2 tm):LW X r γ k {pc:= .c2,old:=2,nw:=1,aw:=true,sv:=false,it:=it,n:=n} (gH X.Fd fr cs tm) w:=by
 rw[h.eq];refine aC (WP _ _ _ _ _ _) ?_;refine tV hm R rfl rfl rfl (Q4 _ _ _ _ _ _) (fun _ k2 w2 hk hr=>?_) (fun h=>absurd (by simp) h) (fun k2 w2 hk hr=>?_)
 .obtain⟨tm',hR,hg⟩:=Q3 X.Fd fr cs aJ it (fun i=>tm.getD i undef)
  exact aC hg (Ds hm R live tk (h0.trans X hr) hR)
 .exact aC (Nf _ _ _ _ _ _) (ig hm R (fun k1 h1=>ih k1 (by omega)) (h0.trans X hr) (.inr (.inr rfl)) rfl (by simp) (it':=it) (by simp) (VE _ _ _ _ _ _) (PJ _ _ _ _ _ _) fun v=>VF _ _ _ _ _ v _)
theorem LJ {k:Nat}{tm:Array Value}{aJ:Nat}{it:Int}(ih:∀k',k'<k->ju X r γ n fr cs w0 k')(h0:RR X γ w0 w)(h:HH X.Fd aJ true true it 2 tm):LW X r γ k {pc:= .c2,old:=2,nw:=1,aw:=true,sv:=true,it:=it,n:=n} (gH X.Fd fr cs tm) w:=by
 rw[h.eq];refine aC (Qj _ _ _ _ _ _) ?_;refine tV hm R rfl rfl rfl (Nd _ _ _ _ _ _) (fun _ k2 w2 hk hr=>?_) (fun h=>absurd (by simp) h) (fun k2 w2 hk hr=>?_)
 .obtain⟨tm',hR,hg⟩:=Nc X.Fd fr cs aJ it (fun i=>tm.getD i undef)
  exact aC hg (Ds hm R live tk (h0.trans X hr) hR)
 .exact aC (Jo _ _ _ _ _ _) (ig hm R (fun k1 h1=>ih k1 (by omega)) (h0.trans X hr) (.inr (.inr rfl)) rfl (by simp) (it':=it) (by simp) (PH _ _ _ _ _ _) (Lj _ _ _ _ _ _) fun v=>PI _ _ _ _ _ v _)
theorem WD {k:Nat}{tm:Array Value}{aJ:Nat}{it:Int}(ih:∀k',k'<k->ju X r γ n fr cs w0 k')(h0:RR X γ w0 w)(h:HH X.Fd aJ false false it 2 tm):LW X r γ k {pc:= .c2,old:=2,nw:=3,aw:=false,sv:=false,it:=it,n:=n} (gH X.Fd fr cs tm) w:=by
 rw[h.eq];refine aC (acf _ _ _ _ _ _) ?_;refine tV hm R rfl rfl rfl (X9 _ _ _ _ _ _) (fun _ k2 w2 hk hr=>?_) (fun h=>absurd (by simp) h) (fun k2 w2 hk hr=>?_)
 .obtain⟨tm',hR,hg⟩:=X8 X.Fd fr cs aJ it (fun i=>tm.getD i undef)
  exact aC hg (Ds hm R live tk (h0.trans X hr) hR)
 .exact aC (Q5 _ _ _ _ _ _) (ig hm R (fun k1 h1=>ih k1 (by omega)) (h0.trans X hr) (.inr (.inr rfl)) rfl (by simp) (it':=it) (by simp) (aa8 _ _ _ _ _ _) (VG _ _ _ _ _ _) fun v=>aa9 _ _ _ _ _ v _)
theorem Qa {k:Nat}{tm:Array Value}{aJ:Nat}{it:Int}(ih:∀k',k'<k->ju X r γ n fr cs w0 k')(h0:RR X γ w0 w)(h:HH X.Fd aJ false true it 3 tm):LW X r γ k {pc:= .sq,old:=3,nw:=0,aw:=true,sv:=false,it:=it,n:=n} (gH X.Fd fr cs tm) w:=by
 rw[h.eq];refine aC (WO _ _ _ _ _ _) (AN hm R rfl rfl (Yd _ _ _ _ _ _) (fun k1 w1 hk1 hr1=>?_) rfl (fun k1 w1 hk1 hr1=>?_))
 .have e:cl {pc:= .sq,old:=3,nw:=0,aw:=true,sv:=false,it:=it,n:=n}={pc:= .c2,old:=3,nw:=9,aw:=true,sv:=false,it:=it,n:=n}:=rfl
  rw[e];have h0:=h0.trans X hr1;refine aC (Ye _ _ _ _ _ _) ?_;refine tV hm R rfl rfl rfl (Q2 _ _ _ _ _ _) (fun h=>absurd h (by simp)) (fun _ k2 w2 hk hr=>?_) (fun k2 w2 hk hr=>?_)
  .have h0:=h0.trans X hr
   cases aJ with
   |zero=>exact aC (Nb _ _ _ _ _) (oQ hm R (Lb _ _ _ _ _) (fun m w3 hr3=>aC (Vw X.Fd fr cs m it (fun i=>tm.getD i undef)) (tU hm R live tk (fun k1 h1=>ih k1 (by omega)) (h0.trans X hr3) (Pe _ _ _ _ _ _) (Vf _ _ _ _ _ _))) (h0.live live))
   |succ aJ=>exact aC (Na _ _ _ _ _ _) (tU hm R live tk (fun k1 h1=>ih k1 (by omega)) h0 (O7 _ _ _ _ _ _) (U9 _ _ _ _ _ _))
  .exact aC (M4 _ _ _ _ _ _) (ig hm R (fun k1 h1=>ih k1 (by omega)) (h0.trans X hr) (.inr (.inr rfl)) rfl (by simp) (it':=it) (by simp) (VC _ _ _ _ _ _) (PG _ _ _ _ _ _) fun v=>VD _ _ _ _ _ v _)
 .exact aC (Re _ _ _ _ _ _) (qU hm R xDo fDo (XY _ _ _ _ _ _) (aC (XX _ _ _ _ _ _) (ig hm R (fun k2 h2=>ih k2 (by omega)) (h0.trans X hr1) (.inr (.inl rfl)) rfl (by simp) (it':=IntKind.i64.wrap (it+1)) (by simp) (XT _ _ _ _ _ _) (QL _ _ _ _ _ _) fun v=>XU _ _ _ _ _ v _)))
theorem LI {k:Nat}{tm:Array Value}{aJ:Nat}{it:Int}(ih:∀k',k'<k->ju X r γ n fr cs w0 k')(h0:RR X γ w0 w)(h:HH X.Fd aJ true true it 3 tm):LW X r γ k {pc:= .sq,old:=3,nw:=0,aw:=true,sv:=true,it:=it,n:=n} (gH X.Fd fr cs tm) w:=by
 rw[h.eq];refine aC (Qi _ _ _ _ _ _) (AN hm R rfl rfl (Rb _ _ _ _ _ _) (fun k1 w1 hk1 hr1=>?_) rfl (fun k1 w1 hk1 hr1=>?_))
 .have e:cl {pc:= .sq,old:=3,nw:=0,aw:=true,sv:=true,it:=it,n:=n}={pc:= .c2,old:=3,nw:=13,aw:=true,sv:=true,it:=it,n:=n}:=rfl
  rw[e];have h0:=h0.trans X hr1;refine aC (Rc _ _ _ _ _ _) ?_;refine tV hm R rfl rfl rfl (M0 _ _ _ _ _ _) (fun h=>absurd h (by simp)) (fun _ k2 w2 hk hr=>?_) (fun k2 w2 hk hr=>?_)
  .have h0:=h0.trans X hr
   cases aJ with
   |zero=>exact aC (Jm _ _ _ _ _) (oQ hm R (Ir _ _ _ _ _) (fun m w3 hr3=>aC (Py X.Fd fr cs m it (fun i=>tm.getD i undef)) (tU hm R live tk (fun k1 h1=>ih k1 (by omega)) (h0.trans X hr3) (KU _ _ _ _ _ _) (Pd _ _ _ _ _ _))) (h0.live live))
   |succ aJ=>exact aC (Jl _ _ _ _ _ _) (tU hm R live tk (fun k1 h1=>ih k1 (by omega)) h0 (KL _ _ _ _ _ _) (O6 _ _ _ _ _ _))
  .exact aC (Jk _ _ _ _ _ _) (ig hm R (fun k1 h1=>ih k1 (by omega)) (h0.trans X hr) (.inr (.inr rfl)) rfl (by simp) (it':=it) (by simp) (PE _ _ _ _ _ _) (Li _ _ _ _ _ _) fun v=>PF _ _ _ _ _ v _)
 .exact aC (Nl _ _ _ _ _ _) (qU hm R xDo fDo (QQ _ _ _ _ _ _) (aC (QP _ _ _ _ _ _) (ig hm R (fun k2 h2=>ih k2 (by omega)) (h0.trans X hr1) (.inr (.inl rfl)) rfl (by simp) (it':=IntKind.i64.wrap (it+1)) (by simp) (QJ _ _ _ _ _ _) (MJ _ _ _ _ _ _) fun v=>QK _ _ _ _ _ v _)))
theorem Qc {k:Nat}{tm:Array Value}{aJ:Nat}{it:Int}(ih:∀k',k'<k->ju X r γ n fr cs w0 k')(h0:RR X γ w0 w)(h:HH X.Fd aJ false false it 12 tm):LW X r γ k {pc:= .c2,old:=12,nw:=20,aw:=false,sv:=false,it:=it,n:=n} (gH X.Fd fr cs tm) w:=by
 rw[h.eq];refine aC (WQ _ _ _ _ _ _) ?_;refine tV hm R rfl rfl rfl (Q9 _ _ _ _ _ _) (fun h=>absurd h (by simp)) (fun _ k2 w2 hk hr=>?_) (fun k2 w2 hk hr=>?_)
 .have h0:=h0.trans X hr
  cases aJ with
  |zero=>exact aC (Ni _ _ _ _ _) (oQ hm R (Ld _ _ _ _ _) (fun m w3 hr3=>aC (Vx X.Fd fr cs m it (fun i=>tm.getD i undef)) (tU hm R live tk (fun k1 h1=>ih k1 (by omega)) (h0.trans X hr3) (Pf _ _ _ _ _ _) (Vh _ _ _ _ _ _))) (h0.live live))
  |succ aJ=>exact aC (Nh _ _ _ _ _ _) (tU hm R live tk (fun k1 h1=>ih k1 (by omega)) h0 (O8 _ _ _ _ _ _) (Vb _ _ _ _ _ _))
 .exact aC (Ng _ _ _ _ _ _) (ig hm R (fun k1 h1=>ih k1 (by omega)) (h0.trans X hr) (.inr (.inr rfl)) rfl (by simp) (it':=it) (by simp) (VI _ _ _ _ _ _) (PK _ _ _ _ _ _) fun v=>VJ _ _ _ _ _ v _)
theorem heads:∀k,ju X r γ n fr cs w0 k:=by
 intro k
 induction k using Nat.strongRecOn with
 |_ k ih=>
 intro aJ tm w T h0 hn hH hb;obtain⟨pc,old,nw,aw,sv,it,n'⟩:=T;simp only at hn hH;subst hn
 by_cases c0:old=0/\aw=false/\sv=false
 .obtain⟨rfl,rfl,rfl⟩:=c0
  exact WF hm R live tk ih h0 hH
 by_cases c1:old=1/\aw=false/\sv=false
 .obtain⟨rfl,rfl,rfl⟩:=c1
  exact WE hm R live tk ih h0 hH
 by_cases SF:old=2/\aw=true/\sv=false
 .obtain⟨rfl,rfl,rfl⟩:=SF
  exact Qb hm R live tk ih h0 hH
 by_cases Dl:old=2/\aw=true/\sv=true
 .obtain⟨rfl,rfl,rfl⟩:=Dl
  exact LJ hm R live tk ih h0 hH
 by_cases c2:old=2/\aw=false/\sv=false
 .obtain⟨rfl,rfl,rfl⟩:=c2
  exact WD hm R live tk ih h0 hH
 by_cases NT:old=3/\aw=true/\sv=false
 .obtain⟨rfl,rfl,rfl⟩:=NT
  exact Qa hm R live tk ih h0 hH
 by_cases yt:old=3/\aw=true/\sv=true
 .obtain⟨rfl,rfl,rfl⟩:=yt
  exact LI hm R live tk ih h0 hH
 by_cases c12:old=12/\aw=false/\sv=false
 .obtain⟨rfl,rfl,rfl⟩:=c12
  exact Qc hm R live tk ih h0 hH
 exfalso
 apply hb
 have nt:∀b:Bool,b=true\/b=false:=fun b=>by cases b<;>simp
 rcases nt aw with rfl|rfl<;>rcases nt sv with rfl|rfl<;>simp_all [hd]
theorem Ix {k:Nat}(h0:RR X γ w0 w):LW X r γ k (at_ .r0 n) (Qn X.Fd fr cs) w:=
 ig hm R (fun k' _=>heads hm R live tk k') h0 (.inl rfl) rfl (by simp) (it':=0) (by simp) (lS0 _ _ _) (afY _ _ _) fun v=>aap _ _ _ v
theorem fast {k:Nat}(h0:RR X γ w0 w):LW X r γ k (at_ .l0 n) (resume (XA X.Fd fr cs) U) w:=by
 refine aC ⟨200,_,af0 _ _ _⟩ ?_;refine AP hm R (T1:=at_ .le n) (T2:=at_ .r0 n) (.inr (.inl rfl)) (lC1 _ _ _) (fun s e=>by simp[mv,e]) (fun s _ e=>⟨(at_ .r0 n,s),by simp[mv,e],.inr rfl⟩) rfl (by simp) rfl (by simp) (fun k' w' hk hr=>?_) (fun _ k' w' hk hr=>?_)
 .exact aC ⟨200,_,af3 _ _ _⟩ (Dr hm R (lE1 _ _ _) ⟨200,_,afZ _ _ _⟩ (lV1 _ _ _) afV afW afU ⟨200,_,afX _ _ _⟩ (lA1 _ _ _) ⟨6,_,af4 _ _ _⟩ ((h0.trans X hr).live live) fun k w1 d o hr1=>tk k w1 d o ((h0.trans X hr).trans X hr1))
 .exact aC ⟨200,_,af2 _ _ _⟩ (Ix hm R live tk (h0.trans X hr))
theorem Iy {k:Nat}:LW X r γ k (at_ .out (n+1)) (gL0 X.Fd fr cs) w0:=by
 refine aC ⟨200,_,lL0 _ _ _⟩ (iu fun k' w₁ hk hr=>?_);refine⟨(aU (lD1 _ _ _)).1,(aU (lD1 _ _ _)).2,by simp,by simp,fun s hsh hf=>⟨by simp[mv],fun d hd _=>?_⟩⟩;refine⟨(at_ .l0 n,s),by simp[mv],fun _=>⟨by simp,resume (XA X.Fd fr cs) U,w₁,#[pJ .disable],?_,hsh,.refl _,by simp[EvStop,ja],?_⟩⟩
 .rw[hm]
  exact jg GR .disable IX (lD1 _ _ _)
 .unfold After
  rw[if_neg (by simp),hm];have:=fast hm R live tk (k:=k') hr;exact this
end
section
variable (F:Nat)(pf:Frame)(cs:List Frame)(v:Int)
def gU0:Goroutine:=G {(base 202).at ⟨#[pt F]++Array.replicate 5 undef,[]⟩ [.code (qo 202)] with kind:= .deferred} ({pf with mode:= .returning}::cs)
def uL:Goroutine:=O (gU0 F pf cs)
theorem Zu:au PP false (gU0 F pf cs) (uL F pf cs):=⟨200,bN PP false 200 (gU0 F pf cs),fun ws=>by kernel_rfl⟩
theorem RE:aR (uL F pf cs)=some (.load 21 (pt F)):=by kernel_rfl
theorem afj:(PP.funcs[(uL F pf cs).frame.fn]?).any (·.norace)=true:=by kernel_rfl
def uV:Goroutine:=O (resume (uL F pf cs) (.int .i32 v))
theorem Zp:au PP false (resume (uL F pf cs) (.int .i32 v)) (uV F pf cs v):=⟨200,bN PP false 200 (resume (uL F pf cs) (.int .i32 v)),fun ws=>by kernel_rfl⟩
theorem Zm:aR (uV F pf cs v)=some (.conv (yn (uV 0 default [] 0)) (zt (uV 0 default [] 0)) (pt F)):=by kernel_rfl
theorem afh:PP.underlying (yn (uV 0 default [] 0))=some (.pointer (zr (uV 0 default [] 0))):=by kernel_rfl
theorem afi:PP.underlying (zt (uV 0 default [] 0))=some .unsafePointer:=by kernel_rfl
theorem afg:(PP.info? (zr (uV 0 default [] 0))).map (fun i=>decide (i.size=0))=some false:=by kernel_rfl
def uR:Goroutine:=O (resume (uV F pf cs v) (pt F))
theorem Zl:au PP false (resume (uV F pf cs v) (pt F)) (uR F pf cs v):=⟨200,bN PP false 200 (resume (uV F pf cs v) (pt F)),fun ws=>by kernel_rfl⟩
theorem JV:aF (uR F pf cs v)=some (193,#[pt F]):=by kernel_rfl
def uD:Goroutine:=O (resume (uR F pf cs v) U)
theorem Zo:au PP false (resume (uR F pf cs v) U) (uD F pf cs v):=⟨200,bN PP false 200 (resume (uR F pf cs v) U),fun ws=>by kernel_rfl⟩
theorem S2:aF (uD F pf cs v)=some (168,#[]):=by kernel_rfl
def uA:Goroutine:=O (resume (uD F pf cs v) U)
theorem Zr:au PP false (resume (uD F pf cs v) U) (uA F pf cs v):=⟨200,bN PP false 200 (resume (uD F pf cs v) U),fun ws=>by kernel_rfl⟩
theorem S3:aF (uA F pf cs v)=some (219,#[pt F,.int .i32 (-1)]):=by kernel_rfl
def uE (x:Int):Goroutine:=O (resume (uA F pf cs v) (.int .i32 x))
theorem afp:au PP false (resume (uA F pf cs v) (.int .i32 0)) (uE F pf cs v 0):=⟨200,bN PP false 200 (resume (uA F pf cs v) (.int .i32 0)),fun ws=>by kernel_rfl⟩
theorem afo:au PP false (resume (uA F pf cs v) (.int .i32 2)) (uE F pf cs v 2):=⟨200,bN PP false 200 (resume (uA F pf cs v) (.int .i32 2)),fun ws=>by kernel_rfl⟩
theorem afn:au PP false (resume (uA F pf cs v) (.int .i32 8)) (uE F pf cs v 8):=⟨200,bN PP false 200 (resume (uA F pf cs v) (.int .i32 8)),fun ws=>by kernel_rfl⟩
theorem Zs:au PP false (resume (uA F pf cs v) (.int .i32 12)) (uE F pf cs v 12):=⟨200,bN PP false 200 (resume (uA F pf cs v) (.int .i32 12)),fun ws=>by kernel_rfl⟩
theorem afm:aF (uE F pf cs v 0)=some (170,#[]):=by kernel_rfl
theorem afl:aF (uE F pf cs v 2)=some (170,#[]):=by kernel_rfl
theorem afk:aF (uE F pf cs v 8)=some (217,#[pt F,.int .i32 8,.int .i32 2]):=by kernel_rfl
theorem Zq:aF (uE F pf cs v 12)=some (227,#[pE F,.bool true,.int .i64 2]):=by kernel_rfl
def uS:Goroutine:=O (resume (uE F pf cs v 8) (.bool true))
theorem Zt:au PP false (resume (uE F pf cs v 8) (.bool true)) (uS F pf cs v):=⟨200,bN PP false 200 (resume (uE F pf cs v 8) (.bool true)),fun ws=>by kernel_rfl⟩
theorem SV:aF (uS F pf cs v)=some (227,#[pE F,.bool false,.int .i64 2]):=by kernel_rfl
def uF8:Goroutine:=O (resume (uS F pf cs v) U)
theorem Zn:au PP false (resume (uS F pf cs v) U) (uF8 F pf cs v):=⟨200,bN PP false 200 (resume (uS F pf cs v) U),fun ws=>by kernel_rfl⟩
theorem SX:aF (uF8 F pf cs v)=some (170,#[]):=by kernel_rfl
def Oa:Goroutine:=O (resume (uE F pf cs v 12) U)
theorem S4:au PP false (resume (uE F pf cs v 12) U) (Oa F pf cs v):=⟨200,bN PP false 200 (resume (uE F pf cs v 12) U),fun ws=>by kernel_rfl⟩
theorem N9:aF (Oa F pf cs v)=some (170,#[]):=by kernel_rfl
theorem SZ:au PP false (resume (uE F pf cs v 0) U) (G {pf with mode:= .returning} cs):=⟨6,bN PP false 6 (resume (uE F pf cs v 0) U),fun ws=>by kernel_rfl⟩
theorem SY:au PP false (resume (uE F pf cs v 2) U) (G {pf with mode:= .returning} cs):=⟨6,bN PP false 6 (resume (uE F pf cs v 2) U),fun ws=>by kernel_rfl⟩
theorem SW:au PP false (resume (uF8 F pf cs v) U) (G {pf with mode:= .returning} cs):=⟨6,bN PP false 6 (resume (uF8 F pf cs v) U),fun ws=>by kernel_rfl⟩
theorem N8:au PP false (resume (Oa F pf cs v) U) (G {pf with mode:= .returning} cs):=⟨6,bN PP false 6 (resume (Oa F pf cs v) U),fun ws=>by kernel_rfl⟩
end
theorem VN {Δ:Type}{X:Cx Δ}{g:Goroutine}{w:World}{s:Sh}(hv:aR g=some (.load 21 (pt X.Fd)))(hq:(PP.funcs[g.frame.fn]?).any (·.norace)=true)(hs:ShAt X w s):stepG PP false g w= .go (resume g (.int .i32 s.mu)) w #[]:=by
 refine R7 hv hs.X6 ?_ ?_ hq
 .intro w
  cases hcc:w.cell? ⟨X.Fd,0,none⟩ with
  |none=>simp[mA]
  |some x=>simp[go_sem,hcc,mA,pt]
 .intro w x hx
  simp[go_sem,hx,mA,pt]
section
variable {Δ:Type}{X:Cx Δ}{r:bk}{k n:Nat}{γ:Gh Δ}{w:World}{pf:Frame}{cs:List Frame}{c d:Δ}
theorem Bf (hm:uk r=false)(R:Room X γ)(hM:¬γ.own X.M)(live:∃s,ShAt X w s)(hD:∃o,w.heap[X.M]? =some o/\AY X r c d o)
  (back:∀k w',RR X γ w w'->LW X r {γ with mine:=c,other:=d} k (at_ .out n) (G {pf with mode:= .returning} cs) w'):
  aD PP false (eT X false γ.ro) (dH (GP X PP k r) (at_ .ur n) {γ with own:=fun b=>γ.own b\/b=X.M,other:=d}) (fun b=>γ.own b\/b=X.M) (gU0 X.Fd pf cs) w:=by
 have sub:∀{w w':World},RX X γ.ro (fun b=>γ.own b\/b=X.M) w w'->RR X γ w w':=fun h=>⟨h.tape,h.output,h.size,h.os,fun b hb ho=>h.keep b hb (ho.imp .inl id),h.live⟩
 have R':Room X {γ with mine:=c,other:=d}:=⟨R.ne,R.off⟩
 refine aC (Zu _ _ _) (aD.step (cU (RE _ _ _)).1 fun w₁ hr=>?_);obtain⟨s0,hs⟩:=hr.live live;refine⟨_,w₁,#[],VN (RE _ _ _) (afj _ _ _) hs,(jE _ _ _ w₁).1,?_⟩;have e0:=(jE (X:=X) false γ.ro (fun b=>γ.own b\/b=X.M) w₁).2;rw[e0];refine aC (Zp _ _ _ _) (p9 (Zm _ _ _ _) afh afi afg (fun w₂ hr2=>?_) (aC (Zl _ _ _ _) ?_))
 .obtain⟨s,hs⟩:=(hr.trans X hr2).live live
  exact⟨_,hs.X6⟩
 cases k with
 |zero=>exact aD.stop fun w₂ hr2=>⟨c,fun h=>absurd rfl h,trivial⟩
 |succ k=>
 refine aD.stop fun w₂ hr2=>⟨c,fun h=>absurd rfl h,?_⟩
 obtain⟨o,ho,hDo⟩:=hD;have hlt:=(Array.getElem?_eq_some_iff.1 ho).1;have abI:=hr.trans X hr2;have ho2:w₂.heap[X.M]? =some o:=(abI.keep X.M hlt (.inl (.inr rfl))).trans ho;refine⟨(aU (JV _ _ _ _)).1,(aU (JV _ _ _ _)).2,by simp,fun _=>⟨o,ho2,hDo⟩,fun s hsh hf=>⟨by simp[mv],fun d' _ _=>?_⟩⟩
 refine⟨(at_ .ud n,s),by simp[mv],fun _=>⟨by simp,resume (uR X.Fd pf cs s0.mu) U,w₂,#[pJ (.releaseMerge (mA X))],?_,hsh,.refl _,by simp[EvStop,ja],?_⟩⟩
 .rw[hm]
  exact fA xRm .releaseMerge fRm (JV _ _ _ _)
 unfold After;rw[if_neg (by simp),hm];have eo:iS X .ur (fun b=>γ.own b\/b=X.M)=γ.own:=by
  funext b
  show((γ.own b\/b=X.M)/\b≠X.M)=γ.own b;exact propext ⟨fun h=>h.1.resolve_right h.2,fun h=>⟨.inl h,fun e=>hM (e▸h)⟩⟩
 have key:LW X r {γ with mine:=c,other:=d} k (at_ .ud n) (uD X.Fd pf cs s0.mu) w₂:=?_
 .have:=aC (Zo X.Fd pf cs _) key
  rw[<-eo] at this;exact this
 have R12:RR X γ w w₂:=sub abI;have fin:∀{k1:Nat} {w1:World} {g1:Goroutine},RR X γ w w1->aF g1=some (170,#[])->au PP false (resume g1 U) (G {pf with mode:= .returning} cs)->LW X r {γ with mine:=c,other:=d} k1 (at_ .ue n) g1 w1:=by
  intro k1 w1 g1 h1 hc hg;exact uY hm R' (T':=at_ .out n) (m:= .enable) Ys (by simp) YX hc (by simp[mv]) (by simp[EvStop,ja]) (by simp) (by simp) (by simp) (by simp) (by simp) (by simp) fun k' w' hk hr=>aC hg (back k' w' (h1.trans X hr))
 refine uY hm R' (T':=at_ .u0 n) (m:= .disable) GR (by simp) IX (S2 _ _ _ _) (by simp[mv]) (by simp[EvStop,ja]) (by simp) (by simp) (by simp) (by simp) (by simp) (by simp) fun k1 w1 hk1 hr1=>?_
 refine aC (Zr _ _ _ _) (Np hm R' (.inr rfl) (S3 _ _ _ _) fun s hf=>?_)
 by_cases h1:s.mu=1
 .refine⟨(at_ .ue n,{s with mu:=0}),by simp[mv,h1],.inr ⟨by rw[h1];rfl,rfl,by simp,fun k2 w2 hk2 hr2=>?_⟩⟩
  rw[h1];exact aC (afp _ _ _ _) (fin ((R12.trans X hr1).trans X hr2) (afm _ _ _ _) (SZ _ _ _ _))
 by_cases h3:s.mu=3
 .refine⟨(at_ .ue n,{s with mu:=2}),by simp[mv,h1,h3],.inr ⟨by rw[h3];rfl,rfl,by simp,fun k2 w2 hk2 hr2=>?_⟩⟩
  rw[h3];exact aC (afo _ _ _ _) (fin ((R12.trans X hr1).trans X hr2) (afl _ _ _ _) (SY _ _ _ _))
 by_cases h9:s.mu=9
 .refine⟨({pc:= .uc,old:=8,nw:=2,n:=n},{s with mu:=8}),by simp[mv,h1,h3,h9],.inr ⟨by rw[h9];rfl,rfl,by simp,fun k2 w2 hk2 hr2=>?_⟩⟩
  rw[h9];refine aC (afn _ _ _ _) (AP hm R' (T1:=at_ .us n) (T2:=at_ .bad n) (.inr (.inr rfl)) (afk _ _ _ _) (fun s e=>by simp[mv,e]) (fun s _ e=>⟨(at_ .bad n,s),by simp[mv,e],.inl rfl⟩) rfl (by simp) rfl (by simp) (fun k3 w3 hk3 hr3=>?_) (fun h=>absurd rfl h));refine aC (Zt _ _ _ _) (Nm hm R' rfl (SV _ _ _ _) rfl fun k4 w4 hk4 hr4=>aC (Zn _ _ _ _) ?_)
  exact fin ((((R12.trans X hr1).trans X hr2).trans X hr3).trans X hr4) (SX _ _ _ _) (SW _ _ _ _)
 by_cases h13:s.mu=13
 .refine⟨(at_ .us n,{s with mu:=12}),by simp[mv,h1,h3,h9,h13],.inr ⟨by rw[h13];rfl,rfl,by simp,fun k2 w2 hk2 hr2=>?_⟩⟩
  rw[h13];refine aC (Zs _ _ _ _) (Nm hm R' rfl (Zq _ _ _ _) rfl fun k4 w4 hk4 hr4=>aC (S4 _ _ _ _) ?_);exact fin (((R12.trans X hr1).trans X hr2).trans X hr4) (N9 _ _ _ _) (N8 _ _ _ _)
 .exact⟨(at_ .bad n,s),by simp[mv,h1,h3,h9,h13],.inl rfl⟩
end
section
variable {Δ:Type}{X:Cx Δ}{r:bk}{k n:Nat}{T:Lo}{γ:Gh Δ}{own:Nat->Prop}{g:Goroutine}{w:World}
theorem mK {deaf:Bool}(hd:deaf=false){ro:Nat->Prop}{Stop:(Nat->Prop)->Goroutine->World->Prop}{t:TypeId}{a:Addr}{v:Value}(h:aR g=some (.load t (.pointer (some a))))
  (ha:∀w,(isAgg t).run PP w= .ok false w) (hae:∀w,(isAgg t).events PP w #[]=#[]) (hb:own a.block\/ro a.block) (hc:w.cell? a=some v) (k:aD PP false (eT X deaf ro) Stop own (resume g v) w):aD PP false (eT X deaf ro) Stop own g w:=by
 subst hd;refine aD.step (cU h).1 fun w₁ hr=>?_
 have hlt:a.block<w.heap.size:=by
  unfold World.cell? at hc;cases hh:w.heap[a.block]? with
  |none=>rw[hh] at hc;simp at hc
  |some o=>exact(Array.getElem?_eq_some_iff.1 hh).1
 have hc1:w₁.cell? a=some v:=by
  unfold World.cell? at hc⊢;rw[hr.keep a.block hlt hb];exact hc
 obtain⟨es,e1,e2⟩:=mn (P:=PP) (main:=false) (w:=w₁) (w':=w₁) (x:=v) h (by simp[kP.sem,go_sem,ha,hc1]);refine⟨_,w₁,es,e1,⟨rfl,rfl,Nat.le_refl _,.refl _,fun _ _ _=>rfl,fun e he=>?_,fun h=>absurd h (by simp)⟩,?_⟩
 .have:=e2 e he
  simp[kP.sem,go_sem,ha,hae,hc1] at this;subst this;rcases hb with hb|hb
  .exact .inl ⟨a.block,.inl hb,.inl ⟨a,rfl,rfl⟩⟩
  .exact .inl ⟨a.block,.inr (.inr ⟨hb,rfl⟩),.inl ⟨a,rfl,rfl⟩⟩
 .have:=(jE (X:=X) false ro own w₁).2
  rw[this];exact k.rely hr
end
section
variable (bw bf F W bd bs:Nat)(dv:Value)(sd:Int)
def pb (b:Nat):Value:= .pointer (some ⟨b,0,none⟩)
def ldT (g:Goroutine):TypeId:=match aR g with|some (.load t _)=>t|_=>0
def pK:Value:= .func (.func 131) #[] #[pb F,pb bd,pb bs]
def YQ:Goroutine:=Go.Conc.born PP {target:= .fn (.func 163) #[pb bw,pb bf],args:=#[]}
def gW1:Goroutine:=O (YQ bw bf)
theorem Xe:au PP false (YQ bw bf) (gW1 bw bf):=aI fun ws=>by kernel_rfl
theorem Xc:aR (gW1 bw bf)=some (.load (ldT (gW1 0 0)) (.pointer (some ⟨bf,0,none⟩))):=by kernel_rfl
def gW2:Goroutine:=O (resume (gW1 bw bf) (pK F bd bs))
theorem Xd:au PP false (resume (gW1 bw bf) (pK F bd bs)) (gW2 bw bf F bd bs):=aI fun ws=>by kernel_rfl
theorem Xa:aR (gW2 bw bf F bd bs)=some (.load (ldT (gW2 0 0 0 0 0)) (.pointer (some ⟨bd,0,none⟩))):=by kernel_rfl
def YP:Goroutine:=O (resume (gW2 bw bf F bd bs) dv)
theorem Xb:au PP false (resume (gW2 bw bf F bd bs) dv) (YP bw bf F bd bs dv):=aI fun ws=>by kernel_rfl
theorem W8:aR (YP bw bf F bd bs dv)=some (.load (ldT (YP 0 0 0 0 0 dv)) (.pointer (some ⟨bs,0,none⟩))):=by kernel_rfl
def cW:List Frame:=(On 1 (resume (YP bw bf F bd bs dv) (.int .i64 sd))).callers
def fW:Frame:=(cW bw bf F bd bs dv sd).head?.getD default
def tW:List Frame:=(cW bw bf F bd bs dv sd).tail
def YS (fr:Frame)(cs:List Frame):Goroutine:=LV 132 #[pb F,dv,.int .i64 sd] 46 fr cs
theorem W9:au PP false (resume (YP bw bf F bd bs dv) (.int .i64 sd)) (YS F dv sd (fW bw bf F bd bs dv sd) (tW bw bf F bd bs dv sd)):=aM 1 (bN PP false 1 (resume (YP bw bf F bd bs dv) (.int .i64 sd))) fun ws=>by kernel_rfl
def gX0:Goroutine:=cC (fW bw bf F bd bs dv sd) (tW bw bf F bd bs dv sd) U
def gX1:Goroutine:=O (gX0 bw bf F bd bs dv sd)
theorem W7:au PP false (gX0 bw bf F bd bs dv sd) (gX1 bw bf F bd bs dv sd):=aI fun ws=>by kernel_rfl
theorem W5:aR (gX1 bw bf F bd bs dv sd)=some (.load (ldT (gX1 0 0 0 0 0 dv 0)) (.pointer (some ⟨bw,0,none⟩))):=by kernel_rfl
def NR:Goroutine:=O (resume (gX1 bw bf F bd bs dv sd) (pb W))
theorem W6:au PP false (resume (gX1 bw bf F bd bs dv sd) (pb W)) (NR bw bf F W bd bs dv sd):=aI fun ws=>by kernel_rfl
theorem W4:aR (NR bw bf F W bd bs dv sd)=some (.conv (yn (NR 0 0 0 0 0 0 dv 0)) (zt (NR 0 0 0 0 0 0 dv 0)) (pb W)):=by kernel_rfl
theorem acl:PP.underlying (yn (NR 0 0 0 0 0 0 dv 0))=some (.pointer (zr (NR 0 0 0 0 0 0 dv 0))):=by kernel_rfl
theorem acm:PP.underlying (zt (NR 0 0 0 0 0 0 dv 0))=some .unsafePointer:=by kernel_rfl
theorem ack:(PP.info? (zr (NR 0 0 0 0 0 0 dv 0))).map (fun i=>decide (i.size=0))=some false:=by kernel_rfl
def W2:Goroutine:=O (resume (NR bw bf F W bd bs dv sd) (pb W))
theorem W3:au PP false (resume (NR bw bf F W bd bs dv sd) (pb W)) (W2 bw bf F W bd bs dv sd):=aI fun ws=>by kernel_rfl
theorem EO:aF (W2 bw bf F W bd bs dv sd)=some (193,#[pb W]):=by kernel_rfl
def gX4:Goroutine:=O (resume (W2 bw bf F W bd bs dv sd) U)
theorem W1:au PP false (resume (W2 bw bf F W bd bs dv sd) U) (gX4 bw bf F W bd bs dv sd):=aI fun ws=>by kernel_rfl
theorem Qm:aF (gX4 bw bf F W bd bs dv sd)=some (168,#[]):=by kernel_rfl
def gX5:Goroutine:=O (resume (gX4 bw bf F W bd bs dv sd) U)
theorem W0:au PP false (resume (gX4 bw bf F W bd bs dv sd) U) (gX5 bw bf F W bd bs dv sd):=aI fun ws=>by kernel_rfl
theorem Ql:aF (gX5 bw bf F W bd bs dv sd)=some (176,#[]):=by kernel_rfl
def yf:Goroutine:=O (resume (gX5 bw bf F W bd bs dv sd) (.bool false))
theorem WZ:au PP false (resume (gX5 bw bf F W bd bs dv sd) (.bool false)) (yf bw bf F W bd bs dv sd):=aI fun ws=>by kernel_rfl
end
section
variable (bw bf F W bd bs:Nat)(dv:Value)(sd:Int)
theorem Gs:aF (yf bw bf F W bd bs dv sd)=some (213,#[pb W,.int .u64 18446744069414584320]):=by kernel_rfl
def gY (n:Int):Goroutine:=O (resume (yf bw bf F W bd bs dv sd) (.int .u64 n))
theorem WX:au PP false (resume (yf bw bf F W bd bs dv sd) (.int .u64 1)) (gY bw bf F W bd bs dv sd 1):=aI fun ws=>by kernel_rfl
theorem WY:ie (gY bw bf F W bd bs dv sd 0)=some (170,#[]):=by kernel_rfl
theorem WW:ie (gY bw bf F W bd bs dv sd 4294967296)=some (170,#[]):=by kernel_rfl
theorem WV:ie (gY bw bf F W bd bs dv sd 4294967297)=some (170,#[]):=by kernel_rfl
theorem LP:aF (gY bw bf F W bd bs dv sd 1)=some (203,#[pb W]):=by kernel_rfl
def gZ1:Goroutine:=O (resume (gY bw bf F W bd bs dv sd 1) (.int .u64 1))
theorem Qk:au PP false (resume (gY bw bf F W bd bs dv sd 1) (.int .u64 1)) (gZ1 bw bf F W bd bs dv sd):=aI fun ws=>by kernel_rfl
theorem LO:aF (gZ1 bw bf F W bd bs dv sd)=some (214,#[pb W,.int .u64 0]):=by kernel_rfl
def So:Goroutine:=O (resume (gZ1 bw bf F W bd bs dv sd) U)
theorem WU:au PP false (resume (gZ1 bw bf F W bd bs dv sd) U) (So bw bf F W bd bs dv sd):=aI fun ws=>by kernel_rfl
theorem AA:aF (So bw bf F W bd bs dv sd)=some (200,#[pE W,.bool false,.int .i64 0]):=by kernel_rfl
def YO:Goroutine:=O (resume (So bw bf F W bd bs dv sd) U)
theorem WT:ie (YO bw bf F W bd bs dv sd)=some (170,#[]):=by kernel_rfl
end
def EM (P:Program):Nat->Goroutine->(Nat->World)->Option (List (Goroutine×World))
 |0,_,_=>some []
 |n+1,g,ws=>
  match g.status,stepG P false g (ws 0) with
  |.running,.go g' w' es=>if es.isEmpty then(match EM P n g' (fun i=>ws (i+1)) with|some l=>some ((g',w')::l)|none=>none) else none
  |_,_=>none
def pairs:List Goroutine->(Nat->World)->List (Goroutine×World)
 |[],_=>[]
 |x::l,ws=>(x,ws 0)::pairs l (fun i=>ws (i+1))
def ze (n:Nat)(g:Goroutine):List Goroutine:=match EM PP n g (fun _=>default) with|some l=>l.map (·.1)|none=>[]
theorem fU {m d:Nat}:∀{n:Nat} {g:Goroutine} {L:List Goroutine},(∀ws,EM PP n g ws=some (pairs L ws))->QuitsD PP m d (L.getLastD g)->QuitsD PP (n+m) d g
 |0,g,L,h,q=>by
  have:=h fun _=>default
  simp only[EM,Option.some.injEq] at this;cases L with
  |nil=>rw[Nat.zero_add];exact q
  |cons x l=>simp[pairs] at this
 |n+1,g,L,h,q=>by
  have key:∀w:World,g.status= .running/\∃x L',L=x::L'/\stepG PP false g w= .go x w #[]/\∀ws':Nat->World,EM PP n x ws'=some (pairs L' ws'):=by
   intro w;have h0:∀ws':Nat->World,g.status= .running/\∃x L',L=x::L'/\stepG PP false g w= .go x w #[]/\EM PP n x ws'=some (pairs L' ws'):=by
    intro ws';have:=h fun i=>match i with|0=>w|i+1=>ws' i
    simp only[EM] at this;cases hs:g.status<;>rw[hs] at this<;>(try cases this;done)
    cases hst:stepG PP false g w<;>rw[hst] at this<;>simp only at this<;>(try cases this;done)
    rename_i g1 w' es;split at this
    .rename_i he
     have he:es=#[]:=by simpa using he
     subst he;split at this
     .rename_i l hx
      cases L with
      |nil=>simp[pairs] at this
      |cons x L'=>
       simp only[pairs,Option.some.injEq,List.cons.injEq,Prod.mk.injEq] at this;obtain⟨⟨rfl,rfl⟩,rfl⟩:=this;exact⟨rfl,_,L',rfl,rfl,hx⟩
     .cases this
    .cases this
   obtain⟨hs,x,L',e1,e2,_⟩:=h0 fun _=>w
   refine⟨hs,x,L',e1,e2,fun ws'=>?_⟩;obtain⟨_,y,M',f1,f2,f3⟩:=h0 ws';rw[e1] at f1;cases f1;exact f3
  obtain⟨hs,x,L',e1,e2,e3⟩:=key default;rw[show n+1+m=n+m+1 by omega];refine QuitsD.ctl hs (fun w=>?_) (fU (L:=L') e3 ?_)
  .obtain⟨_,y,M',f1,f2,_⟩:=key w
   rw[e1] at f1;cases f1;exact f2
  .rw[e1] at q
   cases L' with
   |nil=>exact q
   |cons z l=>exact q
theorem qP {g:Goroutine}{n:Nat}(h:ie g=some (170,#[]))(q:QuitsD PP n 0 (cX g)):QuitsD PP (n+1) 1 g:=
 .said ⟨.mark .enable,false,true⟩ rfl (oy h).1 (fun w=>jh Ys .enable (by simp) YX h) q
section
variable (bw bf F W bd bs:Nat)(dv:Value)(sd:Int)
theorem aaF (ws:Nat->World):EM PP 9 (cX (gY bw bf F W bd bs dv sd 0)) ws=some (pairs (ze 9 (cX (gY bw bf F W bd bs dv sd 0))) ws):=by kernel_rfl
theorem aaD (ws:Nat->World):EM PP 9 (cX (gY bw bf F W bd bs dv sd 4294967296)) ws=some (pairs (ze 9 (cX (gY bw bf F W bd bs dv sd 4294967296))) ws):=by kernel_rfl
theorem aaC (ws:Nat->World):EM PP 9 (cX (gY bw bf F W bd bs dv sd 4294967297)) ws=some (pairs (ze 9 (cX (gY bw bf F W bd bs dv sd 4294967297))) ws):=by kernel_rfl
theorem aaE (ws:Nat->World):EM PP 9 (cX (YO bw bf F W bd bs dv sd)) ws=some (pairs (ze 9 (cX (YO bw bf F W bd bs dv sd))) ws):=by kernel_rfl
theorem acH:((ze 9 (cX (gY bw bf F W bd bs dv sd 0))).getLastD (cX (gY bw bf F W bd bs dv sd 0))).status= .finished:=by kernel_rfl
theorem acF:((ze 9 (cX (gY bw bf F W bd bs dv sd 4294967296))).getLastD (cX (gY bw bf F W bd bs dv sd 4294967296))).status= .finished:=by kernel_rfl
theorem acE:((ze 9 (cX (gY bw bf F W bd bs dv sd 4294967297))).getLastD (cX (gY bw bf F W bd bs dv sd 4294967297))).status= .finished:=by kernel_rfl
theorem acG:((ze 9 (cX (YO bw bf F W bd bs dv sd))).getLastD (cX (YO bw bf F W bd bs dv sd))).status= .finished:=by kernel_rfl
theorem Zg (ws:Nat->World):EM PP 87 (resume (yf bw bf F W bd bs dv sd) (.int .u64 0)) ws=some (pairs (ze 87 (resume (yf bw bf F W bd bs dv sd) (.int .u64 0))) ws):=by kernel_rfl
theorem acZ:(ze 87 (resume (yf bw bf F W bd bs dv sd) (.int .u64 0))).getLastD (resume (yf bw bf F W bd bs dv sd) (.int .u64 0))=gY bw bf F W bd bs dv sd 0:=by kernel_rfl
theorem U7:∃n,QuitsD PP n 1 (resume (yf bw bf F W bd bs dv sd) (.int .u64 0)):=⟨_,fU (Zg bw bf F W bd bs dv sd) (by rw[acZ];exact qP (WY bw bf F W bd bs dv sd) (fU (m:=0) (aaF bw bf F W bd bs dv sd) ⟨acH bw bf F W bd bs dv sd,rfl⟩))⟩
theorem Ze (ws:Nat->World):EM PP 87 (resume (yf bw bf F W bd bs dv sd) (.int .u64 4294967296)) ws=some (pairs (ze 87 (resume (yf bw bf F W bd bs dv sd) (.int .u64 4294967296))) ws):=by kernel_rfl
theorem acX:(ze 87 (resume (yf bw bf F W bd bs dv sd) (.int .u64 4294967296))).getLastD (resume (yf bw bf F W bd bs dv sd) (.int .u64 4294967296))=gY bw bf F W bd bs dv sd 4294967296:=by kernel_rfl
theorem U5:∃n,QuitsD PP n 1 (resume (yf bw bf F W bd bs dv sd) (.int .u64 4294967296)):=⟨_,fU (Ze bw bf F W bd bs dv sd) (by rw[acX];exact qP (WW bw bf F W bd bs dv sd) (fU (m:=0) (aaD bw bf F W bd bs dv sd) ⟨acF bw bf F W bd bs dv sd,rfl⟩))⟩
theorem Zd (ws:Nat->World):EM PP 87 (resume (yf bw bf F W bd bs dv sd) (.int .u64 4294967297)) ws=some (pairs (ze 87 (resume (yf bw bf F W bd bs dv sd) (.int .u64 4294967297))) ws):=by kernel_rfl
theorem acW:(ze 87 (resume (yf bw bf F W bd bs dv sd) (.int .u64 4294967297))).getLastD (resume (yf bw bf F W bd bs dv sd) (.int .u64 4294967297))=gY bw bf F W bd bs dv sd 4294967297:=by kernel_rfl
theorem U4:∃n,QuitsD PP n 1 (resume (yf bw bf F W bd bs dv sd) (.int .u64 4294967297)):=⟨_,fU (Zd bw bf F W bd bs dv sd) (by rw[acW];exact qP (WV bw bf F W bd bs dv sd) (fU (m:=0) (aaC bw bf F W bd bs dv sd) ⟨acE bw bf F W bd bs dv sd,rfl⟩))⟩
theorem Zf (ws:Nat->World):EM PP 17 (resume (So bw bf F W bd bs dv sd) U) ws=some (pairs (ze 17 (resume (So bw bf F W bd bs dv sd) U)) ws):=by kernel_rfl
theorem acY:(ze 17 (resume (So bw bf F W bd bs dv sd) U)).getLastD (resume (So bw bf F W bd bs dv sd) U)=YO bw bf F W bd bs dv sd:=by kernel_rfl
theorem U6:∃n,QuitsD PP n 1 (resume (So bw bf F W bd bs dv sd) U):=⟨_,fU (Zf bw bf F W bd bs dv sd) (by rw[acY];exact qP (WT bw bf F W bd bs dv sd) (fU (m:=0) (aaE bw bf F W bd bs dv sd) ⟨acG bw bf F W bd bs dv sd,rfl⟩))⟩
end
theorem ST:Ext PP 176 Tryz.f176:=⟨Tryz.func176,by kernel_rfl,by kernel_rfl,by kernel_rfl⟩
theorem XP:Extern.find Tryz.f176=some (fun _=>pure (.bool false)):=by kernel_rfl
theorem JK:Ext PP 213 Tryz.f213:=⟨Tryz.func213,by kernel_rfl,by kernel_rfl,by kernel_rfl⟩
theorem Mv:Extern.find Tryz.f213=some (Extern.Atomic.update (Op.intArith .add) .u64 true):=by kernel_rfl
theorem SS:Ext PP 203 Tryz.f203:=⟨Tryz.func203,by kernel_rfl,by kernel_rfl,by kernel_rfl⟩
theorem XL:Extern.find Tryz.f203=some (Extern.Atomic.loadT (.int .u64)):=by kernel_rfl
theorem ae2:Ext PP 214 Tryz.f214:=⟨Tryz.func214,by kernel_rfl,by kernel_rfl,by kernel_rfl⟩
theorem ahb:Extern.find Tryz.f214=some Extern.Atomic.storeT:=by kernel_rfl
theorem Rw:Ext PP 200 Tryz.f200:=⟨Tryz.func200,by kernel_rfl,by kernel_rfl,by kernel_rfl⟩
theorem acM:Extern.find Tryz.f200=some Extern.Sync.semrelease:=by kernel_rfl
section
variable {Δ:Type}{X:Cx Δ}{r:bk}{k n:Nat}{γ:Gh Δ}{w:World}{bw bf F bd bs:Nat}{dv:Value}{sd:Int}
variable (hm:uk r=false)(R:Room X γ)
include hm R
theorem adi:LW X r γ k (at_ .d1 n) (yf bw bf F X.Wg bd bs dv sd) w:=by
 refine iu fun k1 w1 hk1 hr1=>cZ (aU (Gs _ _ _ _ _ _ _ _)) (by simp) (by simp) (by simp) (by simp) (fun s _ hf hn=>?_) (fun s hsh hf _=>?_)
 .exfalso
  rcases hf.2.2.1 with h|h|h|h|h|h<;>simp[mv,h,KKi] at hn
 rw[hm];have st:=qz (P:=PP) (main:=false) (w:=w1) (ad:=wA X) JK .u64 Mv (Gs bw bf F X.Wg bd bs dv sd) hsh.Jj (hsh.NL 0);have hsh':=hsh.setWg R.ne (IntKind.u64.wrap (s.wg+18446744069414584320));have ef:=ConcM.Eff.set (w:=w1) (Mu:=X.Fd) (Wg:=X.Wg) (wA X) (.int .u64 (IntKind.u64.wrap (s.wg+18446744069414584320))) (.inr rfl)
 have bad:∀{q:Lo×Sh},q∈mv (at_ .d1 n) s->q.1.pc= .bad->∃q∈mv (at_ .d1 n) s,q.1.pc≠.bad->∃g' w' es,stepG PP false (yf bw bf F X.Wg bd bs dv sd) w1= .go g' w' es/\ShAt X w' q.2/\ConcM.Eff X.Fd X.Wg w1 w'/\EvStop X (at_ .d1 n) q.1 es/\
   (if q.1.pc= .quit then ∃n,QuitsD PP n 1 g' else aD PP false (eT X (eD q.1.pc) γ.ro) (dH (GP X PP k1 r) q.1 γ) γ.own g' w'):=fun hq hb=>⟨_,hq,fun h=>absurd hb h⟩
 rcases hf.2.2.1 with h|h|h|h|h|h
 .exact bad (q:=(at_ .bad n,s)) (by simp[mv,h,KKi]) rfl
 .exact bad (q:=(at_ .bad n,s)) (by simp[mv,h,KKi]) rfl
 .have e:IntKind.u64.wrap (s.wg+18446744069414584320)=0:=by rw[h];decide
  rw[e] at st hsh' ef;refine⟨(at_ .quit n,{s with wg:=0}),by simp[mv,h,KKi],fun _=>⟨_,_,_,st,hsh',ef,ot (okW R.ne) rfl,?_⟩⟩;rw[if_pos rfl];exact U7 _ _ _ _ _ _ _ _
 .have e:IntKind.u64.wrap (s.wg+18446744069414584320)=1:=by rw[h];decide
  rw[e] at st hsh' ef;refine⟨(at_ .d2 n,{s with wg:=1}),by simp[mv,h,KKi],fun _=>⟨_,_,_,st,hsh',ef,ot (okW R.ne) rfl,?_⟩⟩;rw[if_neg (by simp)]
  refine aC (WX _ _ _ _ _ _ _ _) (iu (T:=at_ .d2 n) fun k2 w2 hk2 hr2=>cZ (aU (LP _ _ _ _ _ _ _ _)) (by simp) (by simp) (by simp) (by simp) (fun s _ hf hn=>?_) (fun s hsh hf _=>?_))
  .exfalso
   by_cases h1:s.wg=1<;>simp[mv,h1] at hn
  rw[hm]
  by_cases h1:¬s.wg=1
  .exact⟨(at_ .bad n,s),by simp[mv,h1],fun h=>absurd rfl h⟩
  have h1:s.wg=1:=Decidable.not_not.1 h1;have st:=pV (P:=PP) (main:=false) (w:=w2) (ad:=wA X) SS .u64 XL (LP bw bf F X.Wg bd bs dv sd) hsh.Jj;rw[h1] at st;refine⟨(at_ .d3 n,s),by simp[mv,h1],fun _=>⟨_,_,_,st,hsh,.refl _,C2 (okW R.ne) rfl,?_⟩⟩;rw[if_neg (by simp)]
  refine aC (Qk _ _ _ _ _ _ _ _) (iu (T:=at_ .d3 n) fun k3 w3 hk3 hr3=>cZ (aU (LO _ _ _ _ _ _ _ _)) (by simp) (by simp) (by simp) (by simp) (fun s _ hf hn=>?_) (fun s hsh hf _=>?_))
  .exfalso
   by_cases h1:s.wg=1<;>simp[mv,h1] at hn
  rw[hm]
  by_cases h1:¬s.wg=1
  .exact⟨(at_ .bad n,s),by simp[mv,h1],fun h=>absurd rfl h⟩
  have h1:s.wg=1:=Decidable.not_not.1 h1;have st:=Bn (P:=PP) (main:=false) (w:=w3) (ad:=wA X) ae2 ahb (LO bw bf F X.Wg bd bs dv sd) hsh.Jj (hsh.NL 0);have hsh':=hsh.setWg R.ne 0;have ef:=ConcM.Eff.set (w:=w3) (Mu:=X.Fd) (Wg:=X.Wg) (wA X) (.int .u64 0) (.inr rfl);refine⟨(at_ .d4 n,{s with wg:=0}),by simp[mv,h1],fun _=>⟨_,_,_,st,hsh',ef,ahh (okW R.ne) rfl,?_⟩⟩;rw[if_neg (by simp)]
  refine aC (WU _ _ _ _ _ _ _ _) (iu (T:=at_ .d4 n) fun k4 w4 hk4 hr4=>cZ (aU (AA _ _ _ _ _ _ _ _)) (by simp) (by simp) (by simp) (fun _=>Ba Rw (AA _ _ _ _ _ _ _ _)) (fun s _ hf hn=>by simp[mv] at hn) (fun s hsh hf _=>?_));rw[hm];have hw:IntKind.u32.wrap (s.ws+1)=s.ws+1:=by
   rcases hf.2.2.2 with h|h<;>rw[h]<;>decide
  have st:=Bq (P:=PP) (main:=false) (w:=w4) (ad:=JB X) Rw acM (AA bw bf F X.Wg bd bs dv sd) hsh.Y1 (hsh.NL 1);rw[hw] at st;have hsh':=hsh.setWs R.ne (s.ws+1);have ef:=ConcM.Eff.set (w:=w4) (Mu:=X.Fd) (Wg:=X.Wg) (JB X) (.int .u32 (s.ws+1)) (.inr rfl);refine⟨(at_ .quit n,{s with ws:=s.ws+1}),by simp[mv],fun _=>⟨_,_,_,st,hsh',ef,AE (aaR R.ne) rfl,?_⟩⟩;rw[if_pos rfl]
  exact U6 _ _ _ _ _ _ _ _
 .have e:IntKind.u64.wrap (s.wg+18446744069414584320)=4294967296:=by rw[h];decide
  rw[e] at st hsh' ef;refine⟨(at_ .quit n,{s with wg:=KKi}),by simp[mv,h,KKi],fun _=>⟨_,_,_,st,hsh',ef,ot (okW R.ne) rfl,?_⟩⟩;rw[if_pos rfl];exact U5 _ _ _ _ _ _ _ _
 .have e:IntKind.u64.wrap (s.wg+18446744069414584320)=4294967297:=by rw[h];decide
  rw[e] at st hsh' ef;refine⟨(at_ .quit n,{s with wg:=KKi+1}),by simp[mv,h,KKi],fun _=>⟨_,_,_,st,hsh',ef,ot (okW R.ne) rfl,?_⟩⟩;rw[if_pos rfl];exact U4 _ _ _ _ _ _ _ _
theorem I5 (hfin:γ.mine=X.fin r):LW X r γ k (at_ .out n) (W2 bw bf F X.Wg bd bs dv sd) w:=by
 refine iu fun k' w₁ hk hr=>?_
 refine⟨(aU (EO _ _ _ _ _ _ _ _)).1,(aU (EO _ _ _ _ _ _ _ _)).2,by simp,by simp,fun s hsh hf=>⟨by simp[mv],fun d hd _=>?_⟩⟩;refine⟨(at_ .wk n,s),by simp[mv],fun _=>⟨fun _=>hfin,resume (W2 bw bf F X.Wg bd bs dv sd) U,w₁,#[pJ (.releaseMerge (wA X))],?_,hsh,.refl _,by simp[EvStop,ja],?_⟩⟩
 .rw[hm]
  exact fA xRm .releaseMerge fRm (EO _ _ _ _ _ _ _ _)
 .unfold After
  rw[if_neg (by simp),hm];have key:LW X r γ k' (at_ .wk n) (resume (W2 bw bf F X.Wg bd bs dv sd) U) w₁:=by
   refine aC (W1 _ _ _ _ _ _ _ _) (uY hm R (T':=at_ .d1 n) (m:= .disable) GR (by simp) IX (Qm _ _ _ _ _ _ _ _) (by simp[mv]) (by simp[EvStop,ja]) (by simp) (by simp) (by simp) (by simp) (by simp) (by simp) fun k2 w2 hk2 hr2=>?_);exact aC (W0 _ _ _ _ _ _ _ _) (qU hm R ST XP (Ql _ _ _ _ _ _ _ _) (aC (WZ _ _ _ _ _ _ _ _) (adi hm R)))
  exact key
end
section
variable {Δ:Type}{X:Cx Δ}{r:bk}{k n:Nat}{γ:Gh Δ}{w:World}{bw bf bd bs:Nat}{dv:Value}{sd:Int}
theorem JM (hm:uk r=false)(R:Room X γ)(live:∃s,ShAt X w s)(hb:γ.ro bw)(hw:w.cell? ⟨bw,0,none⟩=some (pb X.Wg))(hfin:γ.mine=X.fin r):LW X r γ k (at_ .out n) (gX0 bw bf X.Fd bd bs dv sd) w:=by
 refine aC (W7 _ _ _ _ _ _ _) (mK rfl (W5 _ _ _ _ _ _ _) (fun w=>by kernel_rfl) (fun w=>by kernel_rfl) (.inr hb) hw ?_);refine aC (W6 _ _ _ _ _ _ _ _) (p9 (W4 _ _ _ _ _ _ _ _) (acl dv) (acm dv) (ack dv) (fun w₁ hr=>?_) (aC (W3 _ _ _ _ _ _ _ _) (I5 hm R hfin)));obtain⟨s,hs⟩:=hr.live live;exact⟨_,hs.Jj⟩
theorem N0 {T:Lo}(hT:eD T.pc=false)(hf:γ.ro bf)(hd:γ.ro bd)(hs:γ.ro bs)(hwf:w.cell? ⟨bf,0,none⟩=some (pK X.Fd bd bs))(hwd:w.cell? ⟨bd,0,none⟩=some dv)(hws:w.cell? ⟨bs,0,none⟩=some (.int .i64 sd))
  (go:LW X r γ k T (YS X.Fd dv sd (fW bw bf X.Fd bd bs dv sd) (tW bw bf X.Fd bd bs dv sd)) w):LW X r γ k T (YQ bw bf) w:=by
 refine aC (Xe _ _) (mK hT (Xc _ _) (fun w=>by kernel_rfl) (fun w=>by kernel_rfl) (.inr hf) hwf ?_);refine aC (Xd _ _ _ _ _) (mK hT (Xa _ _ _ _ _) (fun w=>by kernel_rfl) (fun w=>by kernel_rfl) (.inr hd) hwd ?_);refine aC (Xb _ _ _ _ _ _) (mK hT (W8 _ _ _ _ _ _) (fun w=>by kernel_rfl) (fun w=>by kernel_rfl) (.inr hs) hws ?_)
 exact aC (W9 _ _ _ _ _ _ _) go
end
def RT {α:Type}(s:Sem α)(w:World)(x:α)(w':World)(ev:Array Event):Prop:=∀es,s.runT PP w es=(.ok x w',es++ev)
section
variable {α β:Type}{s:Sem α}{f:α->Sem β}{w w1 w2:World}{x:α}{y:β}{e1 e2:Array Event}
theorem RT.bind' (h:RT s w x w1 e1)(k:RT (f x) w1 y w2 e2):RT (s.bind f) w y w2 (e1++e2):=fun es=>by
 rw[Sem.runT_bind',h es];dsimp only;rw[k,Array.append_assoc]
theorem RT.bind (h:RT s w x w1 e1)(k:RT (f x) w1 y w2 e2):RT (s>>=f) w y w2 (e1++e2):=h.bind' k
theorem RT.aN (h:RT s w x w1 #[])(k:RT (f x) w1 y w2 e2):RT (s>>=f) w y w2 e2:=by
 have:=h.bind k
 rwa [Array.empty_append] at this
theorem RT.eC (h:RT s w x w1 e1)(k:RT (f x) w1 y w2 #[]):RT (s>>=f) w y w2 e1:=by
 have:=h.bind k
 rwa [Array.append_empty] at this
theorem RT.pure (x:α):RT (Pure.pure x:Sem α) w x w #[]:=fun es=>by show(Result.ok x w,es)=_;rw[Array.append_empty]
theorem RT.run (h:RT s w x w1 e1):s.run PP w= .ok x w1:=by rw[<-Sem.runT_fst PP s w #[],h #[]]
theorem RT.ev (h:RT s w x w1 e1):s.events PP w #[]=e1:=by
 show(s.runT PP w #[]).2=e1;rw[h #[]];simp
end
theorem fH {w:World}:RT program w PP w #[]:=fun es=>by show(Result.ok PP w,es)=_;rw[Array.append_empty]
theorem qN {w:World}{t:TypeId}{i:TypeInfo}(h:PP.info? t=some i):RT (typeInfo t) w i w #[]:=fH.aN (by rw[h];exact .pure i)
theorem fD {w:World}{t:TypeId}{d:TypeDesc}(h:PP.underlying t=some d):RT (underlying t) w d w #[]:=fH.aN (by rw[h];exact .pure d)
theorem oI {w:World}{t:TypeId}{n:Nat}(h:(PP.info? t).map (·.size)=some n):RT (Go.sizeOf t) w n w #[]:=by
 obtain⟨i,h1,h2⟩:=Option.map_eq_some_iff.1 h;exact(qN h1).aN (h2▸.pure _)
theorem uF {w:World}{t:TypeId}{z:Value}(h:(PP.info? t).bind (·.zero)=some z):RT (zeroValue t) w z w #[]:=by
 obtain⟨i,h1,h2⟩:=Option.bind_eq_some_iff.1 h;exact(qN h1).aN (by rw[h2];exact .pure _)
theorem gO {w:World}{t:TypeId}{b:Bool}(h:(PP.underlying t).map (fun d=>match d with|.struct _|.array _ _=>true|_=>false)=some b:=by kernel_rfl):RT (isAgg t) w b w #[]:=by
 obtain⟨d,h1,h2⟩:=Option.map_eq_some_iff.1 h;refine(fD h1).aN ?_;cases d<;>simp only at h2⊢<;>subst h2<;>exact .pure _
theorem fT {w:World}{r:Nat}{o:Obj}(h:w.heap[r]? =some o)(hc:∀c t f,o≠.cells c t f:=by simp):RT (getObj r) w o w #[⟨.obj r,false,o.isChan⟩]:=fun es=>by
 unfold getObj;simp only[Sem.runT,h];cases o<;>first|(exact absurd rfl (hc _ _ _))|simp
theorem jj {w:World}{r:Nat}{o o':Obj}(h:w.heap[r]? =some o')(hc:∀c t f,o'≠.cells c t f:=by simp):RT (setObj r o) w () {w with heap:=w.heap.setIfInBounds r o} #[⟨.obj r,true,o.isChan⟩]:=fun es=>by
 show(match w.heap[r]? with
  |some (.cells ..)=>_
  |some _=>_
  |none=>_)=_
 rw[h];cases o'<;>first|(exact absurd rfl (hc _ _ _))|(show(Result.ok _ _,es.push _)=_;simp)
theorem nR {w:World}(o:Obj):RT (newObj o) w w.heap.size {w with heap:=w.heap.push o} #[]:=fun es=>by show(Result.ok _ _,es)=_;rw[Array.append_empty]
theorem j4 {w:World}{a:Addr}{v:Value}(h:w.cell? a=some v):RT (load a) w v w #[⟨.cell a,false,false⟩]:=fun es=>by
 unfold load;simp only[Sem.runT,h];simp;rfl
theorem Kz {w:World}{a:Addr}{u v:Value}(h:w.cell? a=some u)(hz:w.frozen? a=false)(hv:kS v=true):RT (store a v) w () (w.setCell a v) #[⟨.cell a,true,false⟩]:=fun es=>by
 show(Sem.store .plain a v (.pure ())).runT PP w es=_;rw[tn hv,h];simp only[hz];show(Result.ok _ _,es.push _)=_;simp;rfl
structure yy (b:Nat)(o:Obj)(w w':World):Prop where
 tape:w'.tape=w.tape
 output:w'.output=w.output
 os:w'.os=w.os
 size:w'.heap.size=w.heap.size
 at_:w'.heap[b]? =some o
 rest:∀c,c≠b->w'.heap[c]? =w.heap[c]?
theorem mm {w:World}{b:Nat}{o o':Obj}(h:w.heap[b]? =some o'):yy b o w {w with heap:=w.heap.setIfInBounds b o}:=by
 have hlt:=(Array.getElem?_eq_some_iff.1 h).1;exact⟨rfl,rfl,rfl,by simp,by simp[hlt],fun c hc=>by simp[Array.getElem?_setIfInBounds_ne hc.symm]⟩
theorem JS {w:World}{b i:Nat}{cs:Array Value}{t:TypeId}{f:Nat×Nat}{v:Value}(h:w.heap[b]? =some (.cells cs t f)):yy b (.cells (cs.setIfInBounds i v) t f) w (w.setCell ⟨b,i,none⟩ v):=
 ⟨rfl,rfl,rfl,by simp[World.setCell],by rw[setCell_eq_setRow w b i cs t f v h,setRow_heap w b cs _ t f h],fun c hc=>(aside_setCell w ⟨b,i,none⟩ v).block c hc⟩
theorem yy.trans {b:Nat}{o o':Obj}{w w1 w2:World}(h:yy b o w w1)(k:yy b o' w1 w2):yy b o' w w2:=
 ⟨k.tape.trans h.tape,k.output.trans h.output,k.os.trans h.os,k.size.trans h.size,k.at_,fun c hc=>(k.rest c hc).trans (h.rest c hc)⟩
theorem cell_of {w:World}{b i:Nat}{cs:Array Value}{t:TypeId}{f:Nat×Nat}{v:Value}(h:w.heap[b]? =some (.cells cs t f))(hi:cs[i]? =some v):w.cell? ⟨b,i,none⟩=some v:=by simp[World.cell?,h,hi]
theorem Od {w:World}{b i:Nat}{cs:Array Value}{t:TypeId}(h:w.heap[b]? =some (.cells cs t (0,0))):w.frozen? ⟨b,i,none⟩=false:=by simp[World.frozen?,h]
theorem xD (b off i:Nat):Addr.add ⟨b,off,none⟩ i=⟨b,off+i,none⟩:=by
 unfold Addr.add
 by_cases h:i=0
 .subst h;rfl
 .rw[if_neg h]
theorem j3 {w:World}{b:Nat}{cs:Array Value}{t:TypeId}{f:Nat×Nat}(h:w.heap[b]? =some (.cells cs t f))(off:Nat):∀(n i:Nat) (acc:Array Value),off+i+n<=cs.size->
  ∃ev,RT (loadCellsFrom ⟨b,off,none⟩ i n acc) w (acc++cs.extract (off+i) (off+i+n)) w ev/\∀e∈ev,∃a:Addr,e=⟨.cell a,false,false⟩/\a.block=b
 |0,i,acc,_=>⟨#[],by
   have e:acc++cs.extract (off+i) (off+i+0)=acc:=by simp;omega
   rw[e];exact RT.pure (w:=w) acc,by simp⟩
 |n+1,i,acc,hn=>by
  have hlt:off+i<cs.size:=by omega
  obtain⟨ev,h1,h2⟩:=j3 h off n (i+1) (acc.push cs[off+i]) (by omega);refine⟨#[⟨.cell ⟨b,off+i,none⟩,false,false⟩]++ev,?_,?_⟩
  .have e:acc++cs.extract (off+i) (off+i+(n+1))=acc.push cs[off+i]++cs.extract (off+(i+1)) (off+(i+1)+n):=by
    apply Array.ext'
    simp[List.extract_eq_drop_take];rw[show off+(i+1)=off+i+1 by omega,List.drop_eq_getElem_cons (by simpa using hlt)];simp
   have e2:loadCellsFrom ⟨b,off,none⟩ i (n+1) acc=(load (Addr.add ⟨b,off,none⟩ i)>>=fun v=>loadCellsFrom ⟨b,off,none⟩ (i+1) n (acc.push v)):=by rw[loadCellsFrom]
   rw[e,e2,xD];exact(j4 (w:=w) (a:=⟨b,off+i,none⟩) (cell_of h (Array.getElem?_eq_getElem hlt))).bind (f:=fun v=>loadCellsFrom ⟨b,off,none⟩ (i+1) n (acc.push v)) h1
  .intro e he
   rcases Array.mem_append.1 he with he|he
   .simp at he
    subst he;exact⟨_,rfl,rfl⟩
   .exact h2 e he
def kr (cs:Array Value):List Value->Nat->Array Value
 |[],_=>cs
 |v::vs,i=>kr (cs.setIfInBounds i v) vs (i+1)
theorem lH {b:Nat}{t:TypeId}(off:Nat):∀(vs:List Value) (i:Nat) {w:World} {cs:Array Value},w.heap[b]? =some (.cells cs t (0,0))->off+i+vs.length<=cs.size->(∀v∈vs,kS v=true)->
  ∃w' ev,RT (storeCells ⟨b,off,none⟩ vs i) w () w' ev/\yy b (.cells (kr cs vs (off+i)) t (0,0)) w w'/\∀e∈ev,∃a:Addr,e=⟨.cell a,true,false⟩/\a.block=b
 |[],i,w,cs,h,_,_=>⟨w,#[],by simpa [storeCells] using RT.pure (w:=w) (),⟨rfl,rfl,rfl,rfl,h,fun _ _=>rfl⟩,by simp⟩
 |v::vs,i,w,cs,h,hn,hv=>by
  simp only[List.length_cons] at hn;have hlt:off+i<cs.size:=by omega
  have u:=JS (i:=off+i) (v:=v) h;obtain⟨w',ev,h1,h2,h3⟩:=lH off vs (i+1) u.at_ (by simp;omega) fun x hx=>hv x (by simp[hx])
  have e2:storeCells ⟨b,off,none⟩ (v::vs) i=(store (Addr.add ⟨b,off,none⟩ i) v>>=fun _=>storeCells ⟨b,off,none⟩ vs (i+1)):=by rw[storeCells]
  rw[e2,xD];refine⟨w',#[⟨.cell ⟨b,off+i,none⟩,true,false⟩]++ev,(Kz (w:=w) (a:=⟨b,off+i,none⟩) (cell_of h (Array.getElem?_eq_getElem hlt)) (Od h) (hv v (by simp))).bind (f:=fun _=>storeCells ⟨b,off,none⟩ vs (i+1)) h1,u.trans h2,fun e he=>?_⟩;rcases Array.mem_append.1 he with he|he
  .simp at he
   subst he;exact⟨_,rfl,rfl⟩
  .exact h3 e he
def EvB (b:Nat)(e:Event):Prop:=e.sync=false/\lA b e.loc
theorem iY {b:Nat}{a:Addr}{x:Bool}(h:a.block=b):EvB b ⟨.cell a,x,false⟩:=⟨rfl,.inl ⟨a,rfl,h⟩⟩
theorem dL {b:Nat}{x:Bool}:EvB b ⟨.obj b,x,false⟩:=⟨rfl,.inr rfl⟩
section
variable {w:World}{b:Nat}{t:TypeId}
theorem jC {cs:Array Value}{u:TypeId}{f:Nat×Nat}{off n:Nat}(h:w.heap[b]? =some (.cells cs u f))(ha:(PP.underlying t).map (fun d=>match d with|.struct _|.array _ _=>true|_=>false)=some true)(hn:(PP.info? t).map (·.size)=some n)(hle:off+n<=cs.size):
  ∃ev,RT (kP.load t (.pointer (some ⟨b,off,none⟩))).sem w (.value (.agg (cs.extract off (off+n)))) w ev/\∀e∈ev,EvB b e/\e.write=false:=by
 obtain⟨ev,h1,h2⟩:=j3 h off n 0 #[] (by omega);refine⟨ev,RT.eC (x:= .agg (cs.extract off (off+n))) ?_ (.pure _),fun e he=>?_⟩
 .show RT (do if<-isAgg t then Pure.pure (.agg (<-loadCells ⟨b,off,none⟩ (<-Go.sizeOf t))) else load ⟨b,off,none⟩) w _ w ev
  refine(gO (h:=ha)).aN ?_;simp only[if_true];refine(oI hn).aN ?_;refine RT.eC ?_ (.pure _);simpa [loadCells] using h1
 .obtain⟨a,rfl,hb⟩:=h2 e he
  exact⟨iY hb,rfl⟩
theorem fE {cs:Array Value}{u:TypeId}{off:Nat}{v:Value}(h:w.heap[b]? =some (.cells cs u (0,0)))(hn:(PP.info? t).map (·.size)=some v.cells.size)(hle:off+v.cells.size<=cs.size)(h1:∀x∈v.cells.toList,kS x=true):
  ∃w' ev,RT (kP.store t (.pointer (some ⟨b,off,none⟩)) v).sem w .skip w' ev/\yy b (.cells (kr cs v.cells.toList off) u (0,0)) w w'/\∀e∈ev,EvB b e:=by
 obtain⟨w',ev,h2,h3,h4⟩:=lH off v.cells.toList 0 h (by simpa using hle) h1;refine⟨w',ev,RT.eC (x:=()) ?_ (.pure _),h3,fun e he=>?_⟩
 .show RT (do
   if v.cells.size≠(<-Go.sizeOf t) then stuck "storeVar: the value has not the size of the variable"
   storeCells ⟨b,off,none⟩ v.cells.toList) w _ w' ev
  refine(oI hn).aN ?_;simp only[ne_eq,not_true,if_false];exact RT.aN (.pure _) h2
 .obtain⟨a,rfl,hb⟩:=h4 e he
  exact iY hb
theorem vJ (t:TypeId)(v:Value):RT (kP.box t v).sem w (.value (.pointer (some ⟨w.heap.size,0,none⟩))) {w with heap:=w.heap.push (.cells v.cells t (0,0))} #[]:=
 RT.aN (x:= .pointer (some ⟨w.heap.size,0,none⟩)) (RT.aN (x:=⟨w.heap.size,0,none⟩) (RT.aN (nR _) (.pure _)) (.pure _)) (.pure _)
theorem lX {z:Value}(h:(PP.info? t).bind (·.zero)=some z):RT (kP.alloc t).sem w (.value (.pointer (some ⟨w.heap.size,0,none⟩))) {w with heap:=w.heap.push (.cells z.cells t (0,0))} #[]:=
 RT.aN (x:= .pointer (some ⟨w.heap.size,0,none⟩)) ((uF h).aN (RT.aN (x:=⟨w.heap.size,0,none⟩) (RT.aN (nR _) (.pure _)) (.pure _))) (.pure _)
theorem Ea (t:TypeId):RT (kP.makeMap t).sem w (.value (.map (some w.heap.size))) {w with heap:=w.heap.push (.map #[] 0)} #[]:=
 RT.aN (x:= .map (some w.heap.size)) (RT.aN (nR _) (.pure _)) (.pure _)
end
open Go.MapKept in
structure dh (es:Array MapEntry)(c:Nat)(f:ByteArray->Option Value):Prop where
 stamped:Stamped es c
 keys:∀e∈es.toList,IsKey .string e.key
 has:∀s v,f s=some v↔∃e∈es.toList,e.key= .string s/\e.val=v
section
open Go.MapKept
variable {w:World}{m:Nat}{t kt vt:TypeId}{es:Array MapEntry}{c:Nat}{f:ByteArray->Option Value}{s:ByteArray}{z v:Value}
theorem iC {k:Value}(h:IsKey .string k):∃s,k= .string s:=by cases k<;>simp_all [IsKey]
theorem dh.uniq (h:dh es c f){x y:MapEntry}(hx:x∈es.toList)(hy:y∈es.toList)(hk:x.key=y.key):x=y:=by
 have hp:=((stamped_iff es c).1 h.stamped).2.2;rw[List.pairwise_iff_getElem] at hp;obtain⟨i,hi,rfl⟩:=List.mem_iff_getElem.1 hx;obtain⟨j,hj,rfl⟩:=List.mem_iff_getElem.1 hy;rcases Nat.lt_trichotomy i j with hlt|rfl|hlt
 .exact absurd hk (hp i j hi hj hlt)
 .rfl
 .exact absurd hk.symm (hp j i hj hi hlt)
theorem dh.empty (c:Nat):dh #[] c fun _=>none:=⟨stamped_empty c,by simp,by simp⟩
theorem tv {w:World}{e:Bool}{n:Nat}{kt:TypeId}{s:ByteArray}(hk:PP.underlying kt=some .string):RT (Instr.checkKey e (n+1) kt (.string s)) w () w #[]:=
 (fD hk).aN (.pure _)
theorem vH (hk:PP.underlying kt=some .string)(h:dh es c f):
  (RT (Instr.findKey kt (.string s) es.toList) w none w #[]/\f s=none/\∀e∈es.toList,e.key≠.string s)\/∃j e,es[j]? =some e/\RT (Instr.findKey kt (.string s) es.toList) w (some (j,e.val)) w #[]/\e.key= .string s/\f s=some e.val:=by
 rcases findNow_spec (d:= .string) (k:= .string s) trivial es.toList 0 h.keys with⟨h1,h2⟩|⟨j,e,h1,h2,h3⟩
 .refine .inl ⟨(fD hk).aN (by rw[h1];exact .pure _),?_,h2⟩
  cases hf:f s with
  |none=>rfl
  |some v=>
   obtain⟨e,he,h3,_⟩:=(h.has s v).1 hf;exact absurd h3 (h2 e he)
 .have hm:e∈es.toList:=List.mem_of_getElem? h2
  exact .inr ⟨j,e,by simpa using h2,(fD hk).aN (by rw[h1,Nat.zero_add];exact .pure _),h3,(h.has s e.val).2 ⟨e,hm,h3,rfl⟩⟩
theorem oJ (ht:PP.underlying t=some (.map kt vt))(hk:PP.underlying kt=some .string)(hz:(PP.info? vt).bind (·.zero)=some z)(h:w.heap[m]? =some (.map es c))(hm:dh es c f):
  RT (kP.lookup t (.map (some m)) (.string s) false).sem w (.value ((f s).getD z)) w #[⟨.obj m,false,false⟩]:=by
 refine RT.eC (x:=(f s).getD z) ((fD ht).aN ?_) (.pure _);refine RT.eC (x:= .map es c) (fT h) ?_;refine RT.aN (x:=es) (.pure _) ?_;refine RT.aN (tv hk) ?_;rcases vH (w:=w) (s:=s) hk hm with⟨h1,h2,_⟩|⟨j,e,_,h1,_,h2⟩
 .rw[h2]
  exact RT.aN h1 ((uF hz).aN (RT.aN (x:=(z,false)) (.pure _) (.pure _)))
 .rw[h2]
  exact RT.aN h1 (RT.aN (x:=(e.val,true)) (.pure _) (.pure _))
theorem pB (ht:PP.underlying t=some (.map kt vt))(hk:PP.underlying kt=some .string)(h:w.heap[m]? =some (.map es c))(hm:dh es c f):
  ∃es' c' w' ev,RT (kP.mapUpdate t (.map (some m)) (.string s) v).sem w .skip w' ev/\yy m (.map es' c') w w'/\(∀e∈ev,EvB m e)/\es'.size<=es.size+1/\dh es' c' fun s'=>if s'=s then some v else f s':=by
 have pre:∀{w':World} {ev:Array Event},RT (do
   match<-Instr.findKey kt (.string s) es.toList with
   |some (i,_)=>do
    let key <-Instr.keyThatStays (((es[i]?).map (·.key)).getD (.string s)) (.string s)
    setObj m (.map (es.modify i fun e=>{e with key,val:=v}) c)
   |none=>setObj m (.map (es.push {key:= .string s,val:=v,born:=c}) (c+1))) w () w' ev->RT (kP.mapUpdate t (.map (some m)) (.string s) v).sem w .skip w' (#[⟨.obj m,false,false⟩]++ev):=by
  intro w' ev h2;refine RT.eC (x:=()) ((fD ht).aN ?_) (.pure _);refine RT.bind (x:= .map es c) (fT h) ?_;exact RT.aN (tv hk) h2
 rcases vH (w:=w) (s:=s) hk hm with⟨h1,h2,h3⟩|⟨j,e,hj,h1,h2,h3⟩
 .refine⟨es.push {key:= .string s,val:=v,born:=c},c+1,_,_,pre (RT.aN h1 (jj h)),mm h,?_,by simp,stamped_push hm.stamped h3,?_,?_⟩
  .intro e he
   simp at he;rcases he with rfl|rfl
   .exact dL
   .exact⟨rfl,.inr rfl⟩
  .intro x hx
   simp only[Array.toList_push,List.mem_append,List.mem_singleton] at hx;rcases hx with hx|rfl
   .exact hm.keys x hx
   .trivial
  .intro s' v'
   by_cases hs:s'=s
   .subst hs
    simp only[if_true];constructor
    .intro q
     have q:=Option.some.inj q;subst q;exact⟨{key:= .string s',val:=v,born:=c},by simp,rfl,rfl⟩
    .rintro⟨x,hx,h5,h6⟩
     simp only[Array.toList_push,List.mem_append,List.mem_singleton] at hx;rcases hx with hx|rfl
     .exact absurd h5 (h3 x hx)
     .rw[<-h6]
   .rw[if_neg hs,hm.has]
    constructor
    .rintro⟨x,hx,h5,h6⟩
     exact⟨x,by simp[hx],h5,h6⟩
    .rintro⟨x,hx,h5,h6⟩
     simp only[Array.toList_push,List.mem_append,List.mem_singleton] at hx;rcases hx with hx|rfl
     .exact⟨x,hx,h5,h6⟩
     .exact absurd (by simpa using h5.symm) hs
 .have hk2:RT (Instr.keyThatStays (((es[j]?).map (·.key)).getD (.string s)) (.string s)) w (.string s) w #[]:=by
   rw[hj];simp only[Option.map_some,Option.getD_some,h2];unfold Instr.keyThatStays;rw[if_pos (sameBits_self (d:= .string) (k:= .string s) trivial 10000)];exact .pure _
  have hkey:∀e',es[j]? =some e'->({e' with key:= .string s,val:=v}:MapEntry).key=e'.key:=fun e' he'=>by rw[hj] at he';cases he';exact h2.symm
  have hmem:e∈es.toList:=by
   have:es.toList[j]? =some e:=by simpa using hj
   exact List.mem_of_getElem? this
  refine⟨es.modify j fun e=>{e with key:= .string s,val:=v},c,_,_,pre (RT.aN h1 (RT.aN hk2 (jj h))),mm h,?_,by simp,stamped_modify hm.stamped _ _ (fun _ _=>rfl) (fun e' _ he'=>hkey e' he'),isKey_modify hm.keys _ _ hkey,?_⟩
  .intro e he
   simp at he;rcases he with rfl|rfl
   .exact dL
   .exact⟨rfl,.inr rfl⟩
  .have PC:∀x:MapEntry,x∈(es.modify j fun e=>{e with key:= .string s,val:=v}).toList↔(∃i,i≠j/\es[i]? =some x)\/x={e with key:= .string s,val:=v}:=by
    intro x;rw[List.mem_iff_getElem?];simp only[Array.getElem?_toList,Array.getElem?_modify];constructor
    .rintro⟨i,hi⟩
     by_cases hij:j=i
     .subst hij
      simp[hj] at hi;exact .inr hi.symm
     .simp[hij] at hi
      exact .inl ⟨i,fun q=>hij q.symm,hi⟩
    .rintro(⟨i,h5,h6⟩|rfl)
     .have hne:¬j=i:=fun q=>h5 q.symm
      exact⟨i,by rw[if_neg hne];exact h6⟩
     .exact⟨j,by rw[if_pos rfl,hj];rfl⟩
   have others:∀i x,i≠j->es[i]? =some x->x.key≠.string s:=by
    intro i x hij hx hxk;have hp:=((stamped_iff es c).1 hm.stamped).2.2;rw[List.pairwise_iff_getElem] at hp;have hxi:=Array.getElem?_eq_some_iff.1 hx;have hei:=Array.getElem?_eq_some_iff.1 hj;rcases Nat.lt_or_gt_of_ne hij with hlt|hlt
    .have:=hp i j (by simpa using hxi.1) (by simpa using hei.1) hlt
     simp only[Array.getElem_toList] at this;rw[hxi.2,hei.2] at this;exact this (hxk.trans h2.symm)
    .have:=hp j i (by simpa using hei.1) (by simpa using hxi.1) hlt
     simp only[Array.getElem_toList] at this;rw[hxi.2,hei.2] at this;exact this (h2.trans hxk.symm)
   intro s' v'
   by_cases hs:s'=s
   .subst hs
    simp only[if_true];constructor
    .intro q
     have q:=Option.some.inj q;subst q;exact⟨{e with key:= .string s',val:=v},(PC _).2 (.inr rfl),rfl,rfl⟩
    .rintro⟨x,hx,h5,h6⟩
     rcases(PC x).1 hx with⟨i,h7,h8⟩|rfl
     .exact absurd h5 (others i x h7 h8)
     .rw[<-h6]
   .rw[if_neg hs,hm.has]
    constructor
    .rintro⟨x,hx,h5,h6⟩
     obtain⟨i,hi⟩:=List.mem_iff_getElem?.1 hx;have hi':es[i]? =some x:=by simpa using hi
     refine⟨x,(PC x).2 (.inl ⟨i,fun q=>?_,hi'⟩),h5,h6⟩;subst q;rw[hj] at hi';cases hi';rw[h2] at h5;exact hs (by simpa using h5.symm)
    .rintro⟨x,hx,h5,h6⟩
     rcases(PC x).1 hx with⟨i,h7,h8⟩|rfl
     .have:es.toList[i]? =some x:=by simpa using h8
      exact⟨x,List.mem_of_getElem? this,h5,h6⟩
     .exact absurd (by simpa using h5.symm) hs
theorem z6 (ht:PP.underlying t=some (.map kt vt))(hk:PP.underlying kt=some .string)(h:w.heap[m]? =some (.map es c))(hm:dh es c f):
  ∃es' c' w' ev,RT (kP.mapUpdate t (.map (some m)) (.string s) v).sem w .skip w' ev/\yy m (.map es' c') w w'/\(∀e∈ev,EvB m e)/\dh es' c' fun s'=>if s'=s then some v else f s':=
 let⟨es',c',w',ev,h1,h2,h3,_,h4⟩:=pB ht hk h hm
 ⟨es',c',w',ev,h1,h2,h3,h4⟩
theorem vG (ht:PP.underlying t=some (.map kt vt))(h:w.heap[m]? =some (.map es c)):
  RT (kP.range t (.map (some m))).sem w (.value (.pointer (some ⟨w.heap.size,0,none⟩))) {w with heap:=w.heap.push (.mapIter (some m) c #[] c)} #[⟨.obj m,false,false⟩]:=by
 refine RT.eC (x:= .pointer (some ⟨w.heap.size,0,none⟩)) ((fD ht).aN ?_) (.pure _);refine RT.eC (x:= .map es c) (fT h) ?_;refine RT.aN (x:= .mapIter (some m) c #[] c) (.pure _) ?_;exact RT.aN (nR _) (.pure _)
theorem oK {q:Question}:∃n w',RT (choose q) w n w' #[]/\w'.tape=w.tape/\w'.output=w.output/\w'.os=w.os/\w'.heap=w.heap/\((q.forced=true/\n=0)\/∃x,n=q.cut x):=by
 by_cases hq:q.forced=true
 .refine⟨0,w,fun es=>?_,rfl,rfl,rfl,rfl,.inl ⟨hq,rfl⟩⟩
  unfold choose;simp only[Sem.runT,hq,if_true];simp
 .refine⟨q.cut (w.tape w.drawn q),{w with drawn:=w.drawn+1},fun es=>?_,rfl,rfl,rfl,rfl,.inr ⟨_,rfl⟩⟩
  unfold choose;simp only[Sem.runT,hq];simp
def leftOf (es:Array MapEntry)(seen:Array Nat):Array MapEntry:=es.filter fun e=>!seen.contains e.born
theorem Lq {seen:Array Nat}(hm:dh es c f):(leftOf es seen).filter (fun e=>decide (e.born<c))=leftOf es seen/\(leftOf es seen).filter (fun e=>decide (e.born>=c))=#[]:=by
 have hlow:∀e∈leftOf es seen,e.born<c:=fun e he=>hm.stamped.1 e (by
  have:=(Array.mem_filter.1 he).1;simpa using this)
 constructor
 .rw[Array.filter_eq_self]
  exact fun e he=>by simpa using hlow e he
 .rw[Array.filter_eq_empty_iff]
  exact fun e he=>by simpa using hlow e he
theorem FO {it:Nat}{seen:Array Nat}{ty:TypeId}(hit:w.heap[it]? =some (.mapIter (some m) c seen c))(h:w.heap[m]? =some (.map es c))(hm:dh es c f):
  (leftOf es seen=#[]/\∃w' ev,RT (kP.next (.pointer (some ⟨it,0,none⟩)) false ty).sem w (.value (.tuple #[.bool false])) w' ev/\w'.tape=w.tape/\w'.output=w.output/\w'.os=w.os/\w'.heap=w.heap/\∀e∈ev,(EvB it e\/EvB m e)/\e.write=false)\/
  ∃e∈leftOf es seen,∃w' ev,RT (kP.next (.pointer (some ⟨it,0,none⟩)) false ty).sem w (.value (.tuple #[.bool true,e.key,e.val])) w' ev/\yy it (.mapIter (some m) c (seen.push e.born) c) w w'/\∀e∈ev,EvB it e\/(EvB m e/\e.write=false):=by
 obtain⟨l1,l2⟩:=Lq (seen:=seen) hm;have hcond:(!seen.isEmpty&&!es.isEmpty&&es.all fun e=>decide (e.born>=c))=false:=by
  by_cases he:es.isEmpty=true
  .simp[he]
  .have:∃e,e∈es:=by
    cases hes:es.toList with
    |nil=>exact absurd (by simpa using hes) he
    |cons x l=>exact⟨x,by
      have:x∈es.toList:=by rw[hes];simp
      simpa using this⟩
   obtain⟨x,hx⟩:=this;have hlt:=hm.stamped.1 x (by simpa using hx);have:(es.all fun e=>decide (e.born>=c))=false:=by
    cases hall:es.all fun e=>decide (e.born>=c) with
    |false=>rfl
    |true=>
     have:=(Array.all_eq_true_iff_forall_mem.1 hall) x hx;have:c<=x.born:=by simpa using this
     omega
   rw[this];simp
 have pre:∀{x:Value} {w':World} {ev:Array Event},RT (do
   match(((if(leftOf es seen).isEmpty then #[none] else #[])++(leftOf es seen++#[]).map some)[<-choose (.mapNext ((if(leftOf es seen).isEmpty then #[none] else #[])++(leftOf es seen++#[]).map some).size)]? :Option (Option MapEntry)) with
   |some (some e)=>
    setObj it (.mapIter (some m) c (seen.push e.born) c)
    Pure.pure (.tuple #[.bool true,e.key,e.val])
   |some none=>Pure.pure (.tuple #[.bool false])
   |none=>stuck "Next: no such candidate") w x w' ev->RT (kP.next (.pointer (some ⟨it,0,none⟩)) false ty).sem w (.value x) w' (#[⟨.obj it,false,false⟩]++(#[⟨.obj m,false,false⟩]++ev)):=by
  intro x w' ev h2;refine RT.eC (x:=x) ?_ (.pure _);refine RT.bind (x:= .mapIter (some m) c seen c) (fT hit) ?_;refine RT.bind (x:= .map es c) (fT h) ?_;show RT (if(!seen.isEmpty&&!es.isEmpty&&es.all fun e=>decide (e.born>=c))=true then _ else _) _ _ _ _;rw[hcond];simp only[Bool.false_eq_true,if_false]
  have e1:(es.filter fun e=>!seen.contains e.born)=leftOf es seen:=rfl;rw[e1,l1,l2];exact h2
 by_cases hl:leftOf es seen=#[]
 .left
  refine⟨hl,?_⟩;obtain⟨n,w',c1,c2,c3,c4,c5,c6⟩:=oK (w:=w) (q:= .mapNext 1);have hn:n=0:=by
   rcases c6 with⟨_,e⟩|⟨x,e⟩
   .exact e
   .rw[e];simp[Question.cut,Nat.mod_one]
  subst hn;refine⟨w',_,pre (ev:=#[]) ?_,c2,c3,c4,c5,?_⟩
  .have hc:((if(leftOf es seen).isEmpty then #[none] else #[])++(leftOf es seen++#[]).map some:Array (Option MapEntry))=#[none]:=by rw[hl];simp
   rw[hc];exact RT.aN (x:=0) c1 (.pure _)
  .intro e he
   simp at he;rcases he with rfl|rfl
   .exact⟨.inl dL,rfl⟩
   .exact⟨.inr dL,rfl⟩
 .right
  have hpos:0<(leftOf es seen).size:=Nat.pos_of_ne_zero fun e=>hl (Array.eq_empty_of_size_eq_zero e)
  have hem:(leftOf es seen).isEmpty=false:=by simpa [Array.isEmpty] using Nat.pos_iff_ne_zero.1 hpos
  have ab3:((if(leftOf es seen).isEmpty then #[none] else #[])++(leftOf es seen++#[]).map some:Array (Option MapEntry))=(leftOf es seen).map some:=by simp[hem]
  obtain⟨n,w1,c1,c2,c3,c4,c5,c6⟩:=oK (w:=w) (q:= .mapNext (leftOf es seen).size);have hn:n<(leftOf es seen).size:=by
   rcases c6 with⟨_,e⟩|⟨x,e⟩
   .omega
   .rw[e];exact Nat.mod_lt _ hpos
  have yd:w1.heap[it]? =some (.mapIter (some m) c seen c):=by rw[c5];exact hit
  have u:=mm (o:= .mapIter (some m) c (seen.push (leftOf es seen)[n].born) c) yd;refine⟨(leftOf es seen)[n],Array.getElem_mem hn,_,_,pre (ev:=#[⟨.obj it,true,false⟩]) ?_,⟨u.tape.trans c2,u.output.trans c3,u.os.trans c4,u.size.trans (by rw[c5]),u.at_,fun b hb=>(u.rest b hb).trans (by rw[c5])⟩,?_⟩
  .rw[ab3]
   simp only[Array.size_map];refine RT.aN c1 ?_;have:((leftOf es seen).map some)[n]? =some (some (leftOf es seen)[n]):=by simp[hn]
   rw[this];exact RT.eC (jj yd) (.pure _)
  .intro e he
   simp at he;rcases he with rfl|rfl|rfl
   .exact .inl dL
   .exact .inr ⟨dL,rfl⟩
   .exact .inl dL
theorem vI {it:Nat}{seen:Array Nat}{e:MapEntry}(hit:w.heap[it]? =some (.mapIter (some m) c (seen.push e.born) c))(h:w.heap[m]? =some (.map es c))(hm:dh es c f)(he:e∈es.toList):
  RT (kP.entry (.pointer (some ⟨it,0,none⟩))).sem w (.value (.tuple #[e.key,e.val])) w (#[⟨.obj it,false,false⟩]++#[⟨.obj m,false,false⟩]):=by
 refine RT.eC (x:= .tuple #[e.key,e.val]) ?_ (.pure _);refine RT.bind (x:= .mapIter (some m) c (seen.push e.born) c) (fT hit) ?_;have hb:(seen.push e.born).back? =some e.born:=by simp
 have hf:es.find? (fun x=>x.born==e.born)=some e:=by
  cases hf:es.find? (fun x=>x.born==e.born) with
  |none=>
   rw[Array.find?_eq_none] at hf;exact absurd (by simp) (hf e (by simpa using he))
  |some x=>
   have hx:=Array.mem_of_find?_eq_some hf;have hb2:x.born=e.born:=by simpa using Array.find?_some hf
   have hp:=hm.stamped.2.1;rw[List.Nodup,List.pairwise_map,List.pairwise_iff_getElem] at hp;obtain⟨i,hi,rfl⟩:=List.mem_iff_getElem.1 (show x∈es.toList by simpa using hx);obtain⟨j,hj,rfl⟩:=List.mem_iff_getElem.1 he;rcases Nat.lt_trichotomy i j with hlt|rfl|hlt
   .exact absurd hb2 (hp i j hi hj hlt)
   .rfl
   .exact absurd hb2.symm (hp j i hj hi hlt)
 dsimp only;rw[hb];refine RT.eC (x:= .map es c) (fT h) ?_;show RT (if(c !=c)=true then _ else _) _ _ _ _;simp only[bne_self_eq_false,Bool.false_eq_true,if_false];rw[hf];exact .pure _
end
theorem XC {α β:Type}(a b:α)(ini:β)(f:α->β->Sem (ForInStep β)):forIn (#[a,b]:Array α) ini f=(do
  match<-f a ini with
  |.done x=>Pure.pure x
  |.yield x=>match<-f b x with
   |.done x=>Pure.pure x
   |.yield x=>Pure.pure x):=by
 rfl
abbrev TH:TypeId:=161
def po (i:Nat):Field:=match PP.underlying TH with|some (.struct fs)=>fs.getD i default|_=>default
theorem afe:PP.underlying TH=some (.struct #[po 0,po 1]):=by kernel_rfl
def hv (b:Bool)(s:ByteArray):Value:= .agg #[.bool b,.string s]
theorem FN {w:World}{t:TypeId}{cs:Array Value}{off:Nat}{v:Value}(ha:(PP.underlying t).map (fun d=>match d with|.struct _|.array _ _=>true|_=>false)=some false)(h:cs[off]? =some v):RT (part t cs off) w v w #[]:=by
 refine(gO (h:=ha)).aN ?_;simp only[Bool.false_eq_true,if_false];rw[h];exact .pure _
theorem yV {w:World}(n:Nat)(b1 b2:Bool)(s1 s2:ByteArray):RT (Op.equalIn (n+2) TH (hv b1 s1) (hv b2 s2)) w (b1==b2&&s1==s2) w #[]:=by
 have f0:po 0={name:=(po 0).name,type:=4,offset:=0,embedded:=(po 0).embedded,tag:=(po 0).tag,pkgPath:=(po 0).pkgPath,byteOffset:=(po 0).byteOffset}:=by kernel_rfl
 have n0:((po 0).name== "_")=false:=by kernel_rfl
 have n1:((po 1).name== "_")=false:=by kernel_rfl
 have t0:(po 0).type=4:=by kernel_rfl
 have t1:(po 1).type=9:=by kernel_rfl
 have o0:(po 0).offset=0:=by kernel_rfl
 have o1:(po 1).offset=1:=by kernel_rfl
 have e0:RT (Op.equalIn (n+1) 4 (.bool b1) (.bool b2)) w (b1==b2) w #[]:=(fD (d:= .bool) (by kernel_rfl)).aN (.pure _);have e1:RT (Op.equalIn (n+1) 9 (.string s1) (.string s2)) w (s1==s2) w #[]:=(fD (d:= .string) (by kernel_rfl)).aN (.pure _);refine(fD afe).aN ?_;refine fH.aN ?_;have hst:PP.stoodInHeld TH=false:=by kernel_rfl
 show RT (if PP.stoodInHeld TH=true then _ else _) _ _ _ _;rw[hst];simp only[Bool.false_eq_true,if_false];rw[XC];have m0:(po 0).name≠ "_":=by simpa using n0
 have m1:(po 1).name≠ "_":=by simpa using n1
 simp only[if_pos m0,if_pos m1,t0,t1,o0,o1];have p0:∀(b:Bool) (s:ByteArray),RT (part 4 #[.bool b,.string s] 0) w (.bool b) w #[]:=fun b s=>FN (by kernel_rfl) rfl
 have p1:∀(b:Bool) (s:ByteArray),RT (part 9 #[.bool b,.string s] 1) w (.string s) w #[]:=fun b s=>FN (by kernel_rfl) rfl
 cases hb:b1==b2 with
 |false=>
  rw[hb] at e0;exact RT.aN (x:=(some false,())) (RT.aN (x:=ForInStep.done (some false,())) ((p0 _ _).aN ((p0 _ _).aN (e0.aN (.pure _)))) (.pure _)) (.pure _)
 |true=>
  rw[hb] at e0;cases hs:s1==s2 with
  |false=>
   rw[hs] at e1;exact RT.aN (x:=(some false,())) (RT.aN (x:=ForInStep.yield (none,())) ((p0 _ _).aN ((p0 _ _).aN (e0.aN (.pure _)))) (RT.aN (x:=ForInStep.done (some false,())) ((p1 _ _).aN ((p1 _ _).aN (e1.aN (.pure _)))) (.pure _))) (.pure _)
  |true=>
   rw[hs] at e1;exact RT.aN (x:=(none,())) (RT.aN (x:=ForInStep.yield (none,())) ((p0 _ _).aN ((p0 _ _).aN (e0.aN (.pure _)))) (RT.aN (x:=ForInStep.yield (none,())) ((p1 _ _).aN ((p1 _ _).aN (e1.aN (.pure _)))) (.pure _))) (.pure _)
theorem FP {w:World}(b1 b2:Bool)(s1 s2:ByteArray):RT (kP.bin .neq TH (hv b1 s1) (hv b2 s2)).sem w (.value (.bool (!(b1==b2&&s1==s2)))) w #[]:=by
 have hg:PP.eqGuardType PP.depth TH=false:=by kernel_rfl
 refine RT.aN (x:= .bool (!(b1==b2&&s1==s2))) (RT.aN (x:=()) (w1:=w) ?_ ?_) (.pure _)
 .unfold eqGuard
  simp only[hv];refine fH.aN (fH.aN ?_);rw[hg];exact .pure _
 .exact RT.aN (yV 9998 b1 b2 s1 s2) (.pure _)
section
variable {Δ:Type}{X:Cx Δ}{ro own:Nat->Prop}{Stop:(Nat->Prop)->Goroutine->World->Prop}{v:kP}{g:Goroutine}{w:World}{main:Bool}
theorem eX {x:Value}{w':World}{ev:Array Event}(h:aR g=some v)(hr:RT v.sem w (.value x) w' ev):∃es,stepG PP main g w= .go (resume g x) w' es/\∀e∈es,e∈ev:=by
 obtain⟨es,e1,e2⟩:=mn (P:=PP) (main:=main) h hr.run;exact⟨es,e1,fun e he=>hr.ev▸e2 e he⟩
theorem Bp {w':World}{ev:Array Event}(h:aR g=some v)(hr:RT v.sem w .skip w' ev):∃es,stepG PP main g w= .go (resume g undef) w' es/\∀e∈es,e∈ev:=by
 obtain⟨es,e1,e2⟩:=step_skip (P:=PP) (main:=main) h hr.run;exact⟨es,e1,fun e he=>hr.ev▸e2 e he⟩
theorem qk {b n n':Nat}{e:Event}(hb:own b\/(ro b/\e.write=false))(h:EvB b e):EvX X ro own n n' e:= .inl ⟨b,hb.imp id fun h=> .inr h,h.2⟩
theorem cY {x:Value}(h:aR g=some v)(hr:∀w₁,RX X ro own w w₁->∃w' ev,RT v.sem w₁ (.value x) w' ev/\w'.tape=w₁.tape/\w'.output=w₁.output/\w'.os=w₁.os/\w'.heap=w₁.heap/\∀e∈ev,∃b,EvB b e/\(own b\/(ro b/\e.write=false)))
  (k:∀w',RX X ro own w w'->aD PP main (eT X false ro) Stop own (resume g x) w'):aD PP main (eT X false ro) Stop own g w:=by
 refine aD.step (cU h).1 fun w₁ h1=>?_
 obtain⟨w',ev,r,a1,a2,a3,a4,a5⟩:=hr w₁ h1;obtain⟨es,e1,e2⟩:=eX (main:=main) h r;have hup:(eT X false ro).up own w₁ w'=own:=by
  funext b
  exact propext ⟨fun h=>h.elim id fun z=>by rw[a4] at z;omega,.inl⟩
 refine⟨_,w',es,e1,⟨a1,a2,by rw[a4];exact Nat.le_refl _,by rw[a3];exact .refl _,fun b _ _=>by rw[a4],fun e he=>?_,fun h=>absurd h (by simp)⟩,?_⟩
 .obtain⟨b,h2,h3⟩:=a5 e (e2 e he)
  exact qk h3 h2
 .rw[hup]
  exact k w' (h1.trans X ⟨a1,a2,by rw[a4];exact Nat.le_refl _,by rw[a3];exact .refl _,fun b _ _=>by rw[a4],fun⟨s,hs⟩=>⟨s,by rw[ShAt,a4];exact hs⟩⟩)
theorem fX {o:Obj}{f:Nat->Value}(h:aR g=some v)(hr:∀w₁,RX X ro own w w₁->∃ev,RT v.sem w₁ (.value (f w₁.heap.size)) {w₁ with heap:=w₁.heap.push o} ev/\∀e∈ev,∃b,EvB b e/\(own b\/(ro b/\e.write=false)))
  (k:∀w' B,RX X ro own w w'->w.heap.size<=B->w'.heap[B]? =some o->aD PP main (eT X false ro) Stop (fun b=>own b\/b=B) (resume g (f B)) w'):aD PP main (eT X false ro) Stop own g w:=by
 refine aD.step (cU h).1 fun w₁ h1=>?_
 obtain⟨ev,r,a5⟩:=hr w₁ h1;obtain⟨es,e1,e2⟩:=eX (main:=main) h r;have hup:(eT X false ro).up own w₁ {w₁ with heap:=w₁.heap.push o}=fun b=>own b\/b=w₁.heap.size:=by
  funext b
  show(own b\/(w₁.heap.size<=b/\b<(w₁.heap.push o).size))=_;rw[Array.size_push];exact propext ⟨fun h=>h.imp id fun z=>by omega,fun h=>h.imp id fun z=>by omega⟩
 have old:∀b,b<w₁.heap.size->(w₁.heap.push o)[b]? =w₁.heap[b]? :=fun b hb=>by rw[Array.getElem?_push];rw[if_neg (by omega)]
 refine⟨_,_,es,e1,⟨rfl,rfl,by simp,.refl _,fun b hb _=>old b hb,fun e he=>?_,fun h=>absurd h (by simp)⟩,?_⟩
 .obtain⟨b,h2,h3⟩:=a5 e (e2 e he)
  exact qk h3 h2
 .rw[hup]
  refine k _ _ (h1.trans X ⟨rfl,rfl,by simp,.refl _,fun b hb _=>old b hb,fun⟨s,hs⟩=>⟨s,?_,?_⟩⟩) h1.size (by simp)
  .rw[<-hs.1];exact old _ (Array.getElem?_eq_some_iff.1 hs.1).1
  .rw[<-hs.2];exact old _ (Array.getElem?_eq_some_iff.1 hs.2).1
theorem jo {b:Nat}{A:Obj->Value->Prop}(hb:own b)(hX:b≠X.Fd/\b≠X.Wg)(h:aR g=some v)
  (hr:∀w₁,RX X ro own w w₁->∃x o w' ev,(RT v.sem w₁ (.value x) w' ev\/(RT v.sem w₁ .skip w' ev/\x=undef))/\yy b o w₁ w'/\A o x/\∀e∈ev,∃c,EvB c e/\(own c\/(ro c/\e.write=false)))
  (k:∀w' o x,(∀c,c<w.heap.size->c≠b->own c\/ro c->w'.heap[c]? =w.heap[c]?)->w'.heap[b]? =some o->A o x->RX X ro (fun c=>own c/\c≠b) w w'->aD PP main (eT X false ro) Stop own (resume g x) w') (hro:¬ro b):aD PP main (eT X false ro) Stop own g w:=by
 refine aD.step (cU h).1 fun w₁ h1=>?_
 obtain⟨x,o,w',ev,r,u,a,a5⟩:=hr w₁ h1;have hst:∃es,stepG PP main g w₁= .go (resume g x) w' es/\∀e∈es,e∈ev:=by
  rcases r with r|⟨r,rfl⟩
  .exact eX (main:=main) h r
  .exact Bp (main:=main) h r
 obtain⟨es,e1,e2⟩:=hst;have hup:(eT X false ro).up own w₁ w'=own:=by
  funext c
  exact propext ⟨fun h=>h.elim id fun z=>by rw[u.size] at z;omega,.inl⟩
 refine⟨_,w',es,e1,⟨u.tape,u.output,Nat.le_of_eq u.size.symm,by rw[u.os];exact .refl _,fun c _ hc=>u.rest c fun e=>hc (e▸hb),fun e he=>?_,fun h=>absurd h (by simp)⟩,?_⟩
 .obtain⟨c,h2,h3⟩:=a5 e (e2 e he)
  exact qk h3 h2
 .rw[hup]
  refine k w' o x (fun c hc hne ho=>(u.rest c hne).trans (h1.keep c hc ho)) u.at_ a ?_;refine⟨u.tape.trans h1.tape,u.output.trans h1.output,Nat.le_trans h1.size (Nat.le_of_eq u.size.symm),by rw[u.os];exact h1.os,fun c hc ho=>?_,fun l=>?_⟩
  .have hne:c≠b:=fun e=>ho.elim (fun h=>h.2 e) fun h=>hro (e▸h)
   exact(u.rest c hne).trans (h1.keep c hc (ho.imp (·.1) id))
  .obtain⟨s,hs⟩:=h1.live l
   exact⟨s,(u.rest _ hX.1.symm).trans hs.1,(u.rest _ hX.2.symm).trans hs.2⟩
end
abbrev TM:TypeId:=153
abbrev Jw:TypeId:=164
section
variable (F M B7 B8:Nat)(side:Nat)(path:ByteArray)(hb:Bool)(hc:ByteArray)(x:Value)(fr:Frame)(cs:List Frame)
def gP0:Goroutine:=LV 167 #[pt F,.string path,.int .i64 (side:Int),hv hb hc] 31 fr cs
def gP1:Goroutine:=O (gP0 F side path hb hc fr cs)
theorem Xu:au PP false (gP0 F side path hb hc fr cs) (gP1 F side path hb hc fr cs):=aI fun ws=>by kernel_rfl
theorem Qp:aR (gP1 F side path hb hc fr cs)=some (.box TH (hv hb hc)):=by kernel_rfl
def fP:Frame:=(On 7 (resume (gP1 F side path hb hc fr cs) (pb B7))).callers.head?.getD default
theorem Xt:au PP false (resume (gP1 F side path hb hc fr cs) (pb B7)) (gL0 F (fP F B7 side path hb hc fr cs) (fr::cs)):=aM 7 (bN PP false 7 (resume (gP1 F side path hb hc fr cs) (pb B7))) fun ws=>by kernel_rfl
def gP3:Goroutine:=cC (fP F B7 side path hb hc fr cs) (fr::cs) U
def gP4:Goroutine:=O (gP3 F B7 side path hb hc fr cs)
theorem Xs:au PP false (gP3 F B7 side path hb hc fr cs) (gP4 F B7 side path hb hc fr cs):=aI fun ws=>by kernel_rfl
theorem Xq:aR (gP4 F B7 side path hb hc fr cs)=some (.load TM (.pointer (some ⟨F,2,none⟩))):=by kernel_rfl
def gP5:Goroutine:=O (resume (gP4 F B7 side path hb hc fr cs) (.map (some M)))
theorem Xr:au PP false (resume (gP4 F B7 side path hb hc fr cs) (.map (some M))) (gP5 F M B7 side path hb hc fr cs):=aI fun ws=>by kernel_rfl
theorem Xo:aR (gP5 F M B7 side path hb hc fr cs)=some (.lookup TM (.map (some M)) (.string path) false):=by kernel_rfl
def gP6:Goroutine:=O (resume (gP5 F M B7 side path hb hc fr cs) x)
theorem Xp:au PP false (resume (gP5 F M B7 side path hb hc fr cs) x) (gP6 F M B7 side path hb hc x fr cs):=aI fun ws=>by kernel_rfl
theorem Xn:aR (gP6 F M B7 side path hb hc x fr cs)=some (.alloc Jw):=by kernel_rfl
def gP7:Goroutine:=O (resume (gP6 F M B7 side path hb hc x fr cs) (pb B8))
theorem Xm:au PP false (resume (gP6 F M B7 side path hb hc x fr cs) (pb B8)) (gP7 F M B7 B8 side path hb hc x fr cs):=aI fun ws=>by kernel_rfl
theorem Xk:aR (gP7 F M B7 B8 side path hb hc x fr cs)=some (.store Jw (pb B8) x):=by kernel_rfl
def gP8:Goroutine:=O (resume (gP7 F M B7 B8 side path hb hc x fr cs) undef)
theorem Xl:au PP false (resume (gP7 F M B7 B8 side path hb hc x fr cs) undef) (gP8 F M B7 B8 side path hb hc x fr cs):=aI fun ws=>by kernel_rfl
theorem Xi:aR (gP8 F M B7 B8 side path hb hc x fr cs)=some (.indexAddr 159 (pb B8) (.int .i64 (side:Int))):=by kernel_rfl
def gP9:Goroutine:=O (resume (gP8 F M B7 B8 side path hb hc x fr cs) (.pointer (some ⟨B8,side,none⟩)))
theorem Xj:au PP false (resume (gP8 F M B7 B8 side path hb hc x fr cs) (.pointer (some ⟨B8,side,none⟩))) (gP9 F M B7 B8 side path hb hc x fr cs):=aI fun ws=>by kernel_rfl
theorem Xg:aR (gP9 F M B7 B8 side path hb hc x fr cs)=some (.store 4 (.pointer (some ⟨B8,side,none⟩)) (.bool true)):=by kernel_rfl
def Qz:Goroutine:=O (resume (gP9 F M B7 B8 side path hb hc x fr cs) undef)
theorem Xh:au PP false (resume (gP9 F M B7 B8 side path hb hc x fr cs) undef) (Qz F M B7 B8 side path hb hc x fr cs):=aI fun ws=>by kernel_rfl
theorem Qx:aR (Qz F M B7 B8 side path hb hc x fr cs)=some (.load TH (pb B7)):=by kernel_rfl
def Qw:Goroutine:=O (resume (Qz F M B7 B8 side path hb hc x fr cs) (hv hb hc))
theorem Qy:au PP false (resume (Qz F M B7 B8 side path hb hc x fr cs) (hv hb hc)) (Qw F M B7 B8 side path hb hc x fr cs):=aI fun ws=>by kernel_rfl
theorem Qu:aR (Qw F M B7 B8 side path hb hc x fr cs)=some (.indexAddr 162 (.pointer (some ⟨B8,2,none⟩)) (.int .i64 (side:Int))):=by kernel_rfl
def Qt:Goroutine:=O (resume (Qw F M B7 B8 side path hb hc x fr cs) (.pointer (some ⟨B8,2+2*side,none⟩)))
theorem Qv:au PP false (resume (Qw F M B7 B8 side path hb hc x fr cs) (.pointer (some ⟨B8,2+2*side,none⟩))) (Qt F M B7 B8 side path hb hc x fr cs):=aI fun ws=>by kernel_rfl
theorem Qr:aR (Qt F M B7 B8 side path hb hc x fr cs)=some (.store TH (.pointer (some ⟨B8,2+2*side,none⟩)) (hv hb hc)):=by kernel_rfl
def LR:Goroutine:=O (resume (Qt F M B7 B8 side path hb hc x fr cs) undef)
theorem Qs:au PP false (resume (Qt F M B7 B8 side path hb hc x fr cs) undef) (LR F M B7 B8 side path hb hc x fr cs):=aI fun ws=>by kernel_rfl
def ZF:Array Value:=(LR F M B7 B8 side path hb hc x fr cs).frame.tmps
def np:Array Oper:=match(LR 0 0 0 0 0 default false default undef default []).frame.todo with|.code (.region _ ops _)::_=>ops|_=>#[]
def idP:Nat:=match(LR 0 0 0 0 0 default false default undef default []).frame.todo with|.code (.region id _ _)::_=>id|_=>0
def mN (F:Nat)(tm:Array Value)(l:List Nat)(fr:Frame)(cs:List Frame):Goroutine:=G ((base 167).at ⟨tm,[dcall 202 #[pt F]]⟩ [.inRegion np l]) (fr::cs)
theorem Qq:LR F M B7 B8 side path hb hc x fr cs=G ((base 167).at ⟨ZF F M B7 B8 side path hb hc x fr cs,[dcall 202 #[pt F]]⟩ [.code (.region idP np true)]) (fr::cs):=by kernel_rfl
theorem JW:(ZF F M B7 B8 side path hb hc x fr cs).size=35:=by kernel_rfl
theorem ZE:(ZF F M B7 B8 side path hb hc x fr cs)[0]? =some (pt F):=by kernel_rfl
theorem ZD:(ZF F M B7 B8 side path hb hc x fr cs)[1]? =some (.string path):=by kernel_rfl
theorem ZC:(ZF F M B7 B8 side path hb hc x fr cs)[8]? =some (pb B8):=by kernel_rfl
end
section
variable (F:Nat)(y:Nat->Value)(l:List Nat)(fr:Frame)(cs:List Frame)
def Bi (y:Nat->Value):Array Value:=#[y 0,y 1,y 2,y 3,y 4,y 5,y 6,y 7,y 8,y 9,y 10,y 11,y 12,y 13,y 14,y 15,y 16,y 17,y 18,y 19,y 20,y 21,y 22,y 23,y 24,y 25,y 26,y 27,y 28,y 29,y 30,y 31,y 32,y 33,y 34]
theorem oH (tm:Array Value)(h:tm.size=35):tm=Bi fun i=>tm.getD i undef:=by
 have e:tm=((List.range 35).map fun i=>tm.getD i undef).toArray:=by
  apply Array.ext
  .simp[h]
  .intro i h1 h2
   simp[Array.getD_eq_getD_getElem?,h1]
 exact e.trans (by kernel_rfl)
theorem Bx (tm:Array Value)(h:tm.size=35):tm=#[tm.getD 0 undef,tm.getD 1 undef,tm.getD 2 undef,tm.getD 3 undef,tm.getD 4 undef,tm.getD 5 undef,tm.getD 6 undef,tm.getD 7 undef,tm.getD 8 undef,tm.getD 9 undef,tm.getD 10 undef,tm.getD 11 undef,tm.getD 12 undef,tm.getD 13 undef,tm.getD 14 undef,tm.getD 15 undef,tm.getD 16 undef,tm.getD 17 undef,tm.getD 18 undef,tm.getD 19 undef,tm.getD 20 undef,tm.getD 21 undef,tm.getD 22 undef,tm.getD 23 undef,tm.getD 24 undef,tm.getD 25 undef,tm.getD 26 undef,tm.getD 27 undef,tm.getD 28 undef,tm.getD 29 undef,tm.getD 30 undef,tm.getD 31 undef,tm.getD 32 undef,tm.getD 33 undef,tm.getD 34 undef]:=oH tm h
theorem aaO:au PP false (mN F (Bi y) (0::l) fr cs) (mN F ((Bi y).setIfInBounds 29 (y 0)) l fr cs):=aM 1 1 fun ws=>by kernel_rfl
theorem aaN:au PP false (mN F (#[y 0,y 1,y 2,y 3,y 4,y 5,y 6,y 7,y 8,y 9,y 10,y 11,y 12,y 13,y 14,y 15,y 16,y 17,y 18,y 19,y 20,y 21,y 22,y 23,y 24,y 25,y 26,y 27,y 28,pt F,y 30,y 31,y 32,y 33,y 34]) (1::l) fr cs) (mN F ((#[y 0,y 1,y 2,y 3,y 4,y 5,y 6,y 7,y 8,y 9,y 10,y 11,y 12,y 13,y 14,y 15,y 16,y 17,y 18,y 19,y 20,y 21,y 22,y 23,y 24,y 25,y 26,y 27,y 28,pt F,y 30,y 31,y 32,y 33,y 34]:Array Value).setIfInBounds 30 (pt F)) l fr cs):=aM 1 1 fun ws=>by kernel_rfl
theorem aaM:au PP false (mN F (#[y 0,y 1,y 2,y 3,y 4,y 5,y 6,y 7,y 8,y 9,y 10,y 11,y 12,y 13,y 14,y 15,y 16,y 17,y 18,y 19,y 20,y 21,y 22,y 23,y 24,y 25,y 26,y 27,y 28,y 29,pt F,y 31,y 32,y 33,y 34]) (2::l) fr cs) (mN F ((#[y 0,y 1,y 2,y 3,y 4,y 5,y 6,y 7,y 8,y 9,y 10,y 11,y 12,y 13,y 14,y 15,y 16,y 17,y 18,y 19,y 20,y 21,y 22,y 23,y 24,y 25,y 26,y 27,y 28,y 29,pt F,y 31,y 32,y 33,y 34]:Array Value).setIfInBounds 31 (.pointer (some ⟨F,2,none⟩))) l fr cs):=aM 1 1 fun ws=>by kernel_rfl
theorem aaL:aR (mN F (Bi y) (3::l) fr cs)=some (.load TM (y 31)):=by kernel_rfl
theorem Vr (v:Value):resume (mN F (Bi y) (3::l) fr cs) v=mN F ((Bi y).setIfInBounds 32 v) l fr cs:=by kernel_rfl
theorem aaK:au PP false (mN F (Bi y) (4::l) fr cs) (mN F ((Bi y).setIfInBounds 33 (y 1)) l fr cs):=aM 1 1 fun ws=>by kernel_rfl
theorem aaJ:aR (mN F (Bi y) (5::l) fr cs)=some (.load Jw (y 8)):=by kernel_rfl
theorem Vq (v:Value):resume (mN F (Bi y) (5::l) fr cs) v=mN F ((Bi y).setIfInBounds 34 v) l fr cs:=by kernel_rfl
theorem aaI:aR (mN F (Bi y) (6::l) fr cs)=some (.mapUpdate TM (y 32) (y 33) (y 34)):=by kernel_rfl
theorem Vp:resume (mN F (Bi y) (6::l) fr cs) undef=mN F (Bi y) l fr cs:=by kernel_rfl
def pfP (tm:Array Value):Frame:=(base 167).at ⟨tm,[]⟩ []
theorem Qo (tm:Array Value):au PP false (mN F tm [] fr cs) (gU0 F (pfP tm) (fr::cs)):=aM 3 (bN PP false 3 (mN F tm [] fr cs)) fun ws=>by kernel_rfl
theorem KT (tm:Array Value):au PP false (G {pfP tm with mode:= .returning} (fr::cs)) (cC fr cs U):=aM 1 1 fun ws=>by kernel_rfl
def bits (n:Nat):Array Bool:=#[n%2==1,n/2%2==1,n/4%2==1,n/8%2==1,n/16%2==1,n/32%2==1,n/64%2==1]
def needs:Nat->List Nat
 |1=>[0]|2=>[1]|3=>[2]|6=>[3,4,5]|_=>[]
def rN (b:Array Bool):Bool:=(List.range 7).all fun i=>!b.getD i false||(needs i).all fun j=>b.getD j false
theorem In:np.size=7:=by kernel_rfl
theorem U0:((List.range 128).all fun n=>(Region.ready .any np (bits n)).all fun i=>decide (i<7)&&!(bits n).getD i true&&(needs i).all fun j=>(bits n).getD j false)=true:=by kernel_rfl
theorem O3:((List.range 128).all fun n=>!(Region.ready .any np (bits n)).isEmpty||!rN (bits n)||(bits n).all id)=true:=by kernel_rfl
def cntF (n:Nat):Nat:=((List.range 7).filter fun i=>!(bits n).getD i true).length
theorem O2:((List.range 128).all fun n=>(Region.ready .any np (bits n)).all fun i=>(bits n).setIfInBounds i true==bits (n+2^i)&&decide (cntF (n+2^i)+1=cntF n)&&decide (n+2^i<128)&&
  (!rN (bits n)||rN (bits (n+2^i)))&&(i !=6||!rN (bits n)||cntF n==1)&&(i==6||(bits (n+2^i)).getD 6 true==(bits n).getD 6 true))=true:=by kernel_rfl
end
theorem RT.of0 {α:Type}{s:Sem α}{w w':World}{x:α}(h:∀es,s.runT PP w es=(.ok x w',es)):RT s w x w' #[]:=fun es=>by rw[h,Array.append_empty]
theorem UW {w:World}(B:Nat):∀side:Nat,side<2->RT (kP.indexAddr 159 (pb B) (.int .i64 (side:Int))).sem w (.value (.pointer (some ⟨B,side,none⟩))) w #[]
 |0,_=> .of0 fun es=>by kernel_rfl
 |1,_=> .of0 fun es=>by kernel_rfl
theorem UV {w:World}(B:Nat):∀side:Nat,side<2->RT (kP.indexAddr 162 (.pointer (some ⟨B,2,none⟩)) (.int .i64 (side:Int))).sem w (.value (.pointer (some ⟨B,2+2*side,none⟩))) w #[]
 |0,_=> .of0 fun es=>by kernel_rfl
 |1,_=> .of0 fun es=>by kernel_rfl
theorem JT:PP.underlying TM=some (.map 9 Jw):=by kernel_rfl
theorem JU:PP.underlying 9=some .string:=by kernel_rfl
def zF:Value:= .agg #[.bool false,.bool false,.bool false,.string ⟨#[]⟩,.bool false,.string ⟨#[]⟩]
theorem JI:(PP.info? Jw).bind (·.zero)=some zF:=by kernel_rfl
theorem LN (md:Region.Mode)(ops:Array Oper)(fuel t:Nat)(listed:Array Bool)(hlt:t%(Region.ready md ops listed).length<(Region.ready md ops listed).length):
  Region.linearise.go md ops (fuel+1) t listed []=(Region.ready md ops listed)[t%(Region.ready md ops listed).length]::
   Region.linearise.go md ops fuel (t/(Region.ready md ops listed).length) (listed.setIfInBounds ((Region.ready md ops listed)[t%(Region.ready md ops listed).length]) true) []:=by
 simp only[Region.linearise.go]
 change (match(Region.ready md ops listed)[t%(Region.ready md ops listed).length]? with
  |some i=>Region.linearise.go md ops fuel (t/(Region.ready md ops listed).length) (listed.setIfInBounds i true) [i]
  |none=>[].reverse)=_
 rw[List.getElem?_eq_getElem hlt];simp only;rw[Go.linearise_go_acc,List.reverse_singleton,List.singleton_append]
structure Kept (n:Nat)(F M:Nat)(path:ByteArray)(fc:Array Value)(B8:Nat)(tm:Array Value):Prop where
 size:tm.size=35
 s0:tm[0]? =some (pt F)
 s1:tm[1]? =some (.string path)
 s8:tm[8]? =some (pb B8)
 r0:(bits n).getD 0 false=true->tm[29]? =some (pt F)
 r1:(bits n).getD 1 false=true->tm[30]? =some (pt F)
 r2:(bits n).getD 2 false=true->tm[31]? =some (.pointer (some ⟨F,2,none⟩))
 r3:(bits n).getD 3 false=true->tm[32]? =some (.map (some M))
 r4:(bits n).getD 4 false=true->tm[33]? =some (.string path)
 r5:(bits n).getD 5 false=true->tm[34]? =some (.agg fc)
section
variable {F M B8:Nat}{path:ByteArray}{fc:Array Value}{tm:Array Value}{n i:Nat}
theorem Kept.set (h:Kept n F M path fc B8 tm)(hb:(bits n).setIfInBounds i true=bits (n+2^i))(hi:i<6){v:Value}
  (hv:v=match i with|0=>pt F|1=>pt F|2=> .pointer (some ⟨F,2,none⟩)|3=> .map (some M)|4=> .string path|_=> .agg fc):Kept (n+2^i) F M path fc B8 (tm.setIfInBounds (29+i) v):=by
 have hs:=h.size;have at_:∀j,j≠29+i->(tm.setIfInBounds (29+i) v)[j]? =tm[j]? :=fun j hj=>by rw[Array.getElem?_setIfInBounds_ne hj.symm]
 have self:(tm.setIfInBounds (29+i) v)[29+i]? =some v:=by rw[Array.getElem?_setIfInBounds_self_of_lt (by omega)]
 have bt:∀j,(bits (n+2^i)).getD j false=true->j=i\/(bits n).getD j false=true:=by
  intro j hj
  by_cases e:j=i
  .exact .inl e
  .right
   rw[<-hb,Array.getD_eq_getD_getElem?,Array.getElem?_setIfInBounds_ne (fun q=>e q.symm),<-Array.getD_eq_getD_getElem?] at hj;exact hj
 refine⟨by simp[hs],by rw[at_ 0 (by omega)];exact h.s0,by rw[at_ 1 (by omega)];exact h.s1,by rw[at_ 8 (by omega)];exact h.s8,?_,?_,?_,?_,?_,?_⟩<;>intro hj<;>rcases bt _ hj with e|e
 .subst e;subst hv;exact self
 .by_cases q:i=0
  .subst q;subst hv;exact self
  .rw[at_ 29 (by omega)];exact h.r0 e
 .subst e;subst hv;exact self
 .by_cases q:i=1
  .subst q;subst hv;exact self
  .rw[at_ 30 (by omega)];exact h.r1 e
 .subst e;subst hv;exact self
 .by_cases q:i=2
  .subst q;subst hv;exact self
  .rw[at_ 31 (by omega)];exact h.r2 e
 .subst e;subst hv;exact self
 .by_cases q:i=3
  .subst q;subst hv;exact self
  .rw[at_ 32 (by omega)];exact h.r3 e
 .subst e;subst hv;exact self
 .by_cases q:i=4
  .subst q;subst hv;exact self
  .rw[at_ 33 (by omega)];exact h.r4 e
 .subst e;subst hv;exact self
 .by_cases q:i=5
  .subst q;subst hv;exact self
  .rw[at_ 34 (by omega)];exact h.r5 e
end
theorem zh {Δ:Type}{X:Cx Δ}{ro own:Nat->Prop}{Stop:(Nat->Prop)->Goroutine->World->Prop}{w:World}{g:Goroutine}{v:Value}(h:aR g=some (.load TM v))(hv:v= .pointer (some ⟨X.Fd,2,none⟩))(live:∃s,ShAt X w s)
  (k:∀w2,RX X ro own w w2->aD PP false (eT X false ro) Stop own (resume g (.map (some X.M))) w2):aD PP false (eT X false ro) Stop own g w:=by
 subst hv;refine aD.step (cU h).1 fun w1 h1=>?_
 obtain⟨s,hs⟩:=h1.live live;have hc:w1.cell? ⟨X.Fd,2,none⟩=some (.map (some X.M)):=by simp[World.cell?,hs.1]
 have r:RT (kP.load TM (.pointer (some ⟨X.Fd,2,none⟩))).sem w1 (.value (.map (some X.M))) w1 #[⟨.cell ⟨X.Fd,2,none⟩,false,false⟩]:=by
  refine RT.eC (x:= .map (some X.M)) ?_ (.pure _);show RT (do if<-isAgg TM then Pure.pure (.agg (<-loadCells ⟨X.Fd,2,none⟩ (<-Go.sizeOf TM))) else load ⟨X.Fd,2,none⟩) _ _ _ _;refine(gO (b:=false)).aN ?_;simp only[Bool.false_eq_true,if_false];exact j4 hc
 obtain⟨es,e1,e2⟩:=eX (main:=false) h r;refine⟨_,w1,es,e1,⟨rfl,rfl,Nat.le_refl _,.refl _,fun _ _ _=>rfl,fun e he=>?_,fun h=>absurd h (by simp)⟩,?_⟩
 .have:=e2 e he
  simp at this;subst this;exact .inr (.inl ⟨rfl,rfl,rfl⟩)
 .have e:=(jE (X:=X) false ro own w1).2
  rw[e];exact k w1 h1
section
variable {Δ:Type}{X:Cx Δ}{ro own:Nat->Prop}{Stop:(Nat->Prop)->Goroutine->World->Prop}{w:World}{M B8:Nat}{path:ByteArray}{fc:Array Value}{fr:Frame}{cs:List Frame}{es:Array MapEntry}{c:Nat}{f:ByteArray->Option Value}
variable (hXM:X.M=M)(hne:M≠X.Fd/\M≠X.Wg)(wJ:own M)(Gj:own B8)(P5:¬ro M)(hm:dh es c f)(hfc:fc.size=6)
structure Mid (X:Cx Δ)(ro own:Nat->Prop)(M B8:Nat)(fc:Array Value)(es:Array MapEntry)(c:Nat)(w w1:World):Prop where
 r:RX X ro own w w1
 live:∃s,ShAt X w1 s
 at8:w1.heap[B8]? =some (.cells fc Jw (0,0))
 atM:w1.heap[M]? =some (.map es c)
include wJ Gj
theorem Mid.rely {w1 w2:World}(h:Mid X ro own M B8 fc es c w w1)(h2:RX X ro own w1 w2):Mid X ro own M B8 fc es c w w2:=
 ⟨h.r.trans X h2,h2.live h.live,(h2.keep B8 (Array.getElem?_eq_some_iff.1 h.at8).1 (.inl Gj)).trans h.at8,(h2.keep M (Array.getElem?_eq_some_iff.1 h.atM).1 (.inl wJ)).trans h.atM⟩
variable {n:Nat}{tm:Array Value}{L:List Nat}{w1:World}(hK:Kept n X.Fd M path fc B8 tm)(hA:Mid X ro own M B8 fc es c w w1)
include hK hA
theorem VW (hset:(bits n).setIfInBounds 0 true=bits (n+2^0))(IH:∀{xQ:Array Value} {w2:World},Mid X ro own M B8 fc es c w w2->Kept (n+2^0) X.Fd M path fc B8 xQ->aD PP false (eT X false ro) Stop own (mN X.Fd xQ L fr cs) w2):
  aD PP false (eT X false ro) Stop own (mN X.Fd tm (0::L) fr cs) w1:=by
 have hy:=oH tm hK.size;rw[hy];refine aC (aaO _ _ _ _ _) ?_;rw[<-hy,cg hK.s0];exact IH hA (hK.set hset (by decide) rfl)
theorem VU (hset:(bits n).setIfInBounds 1 true=bits (n+2^1))(d0:(bits n).getD 0 false=true)(IH:∀{xQ:Array Value} {w2:World},Mid X ro own M B8 fc es c w w2->Kept (n+2^1) X.Fd M path fc B8 xQ->aD PP false (eT X false ro) Stop own (mN X.Fd xQ L fr cs) w2):
  aD PP false (eT X false ro) Stop own (mN X.Fd tm (1::L) fr cs) w1:=by
 have hy:=Bx tm hK.size;have e29:=cg (hK.r0 d0);rw[e29] at hy;have h:=aaN X.Fd (fun i=>tm.getD i undef) L fr cs;dsimp only at h;rw[<-hy] at h;refine aC h ?_;exact IH hA (hK.set hset (by decide) rfl)
theorem VT (hset:(bits n).setIfInBounds 2 true=bits (n+2^2))(d1:(bits n).getD 1 false=true)(IH:∀{xQ:Array Value} {w2:World},Mid X ro own M B8 fc es c w w2->Kept (n+2^2) X.Fd M path fc B8 xQ->aD PP false (eT X false ro) Stop own (mN X.Fd xQ L fr cs) w2):
  aD PP false (eT X false ro) Stop own (mN X.Fd tm (2::L) fr cs) w1:=by
 have hy:=Bx tm hK.size;have e30:=cg (hK.r1 d1);rw[e30] at hy;have h:=aaM X.Fd (fun i=>tm.getD i undef) L fr cs;dsimp only at h;rw[<-hy] at h;refine aC h ?_;exact IH hA (hK.set hset (by decide) rfl)
include hXM in
theorem VS (hset:(bits n).setIfInBounds 3 true=bits (n+2^3))(d2:(bits n).getD 2 false=true)(IH:∀{xQ:Array Value} {w2:World},Mid X ro own M B8 fc es c w w2->Kept (n+2^3) X.Fd M path fc B8 xQ->aD PP false (eT X false ro) Stop own (mN X.Fd xQ L fr cs) w2):
  aD PP false (eT X false ro) Stop own (mN X.Fd tm (3::L) fr cs) w1:=by
 have hy:=oH tm hK.size;have e31:=cg (hK.r2 d2);rw[hy];refine zh (X:=X) (aaL _ _ _ _ _) e31 hA.live fun w2 h2=>?_
 rw[Vr,<-hy,hXM];exact IH (hA.rely wJ Gj h2) (hK.set hset (by decide) rfl)
theorem VR (hset:(bits n).setIfInBounds 4 true=bits (n+2^4))(IH:∀{xQ:Array Value} {w2:World},Mid X ro own M B8 fc es c w w2->Kept (n+2^4) X.Fd M path fc B8 xQ->aD PP false (eT X false ro) Stop own (mN X.Fd xQ L fr cs) w2):
  aD PP false (eT X false ro) Stop own (mN X.Fd tm (4::L) fr cs) w1:=by
 have hy:=oH tm hK.size;rw[hy];refine aC (aaK _ _ _ _ _) ?_;rw[<-hy,cg hK.s1];exact IH hA (hK.set hset (by decide) rfl)
include hfc in
theorem VQ (hset:(bits n).setIfInBounds 5 true=bits (n+2^5))(IH:∀{xQ:Array Value} {w2:World},Mid X ro own M B8 fc es c w w2->Kept (n+2^5) X.Fd M path fc B8 xQ->aD PP false (eT X false ro) Stop own (mN X.Fd xQ L fr cs) w2):
  aD PP false (eT X false ro) Stop own (mN X.Fd tm (5::L) fr cs) w1:=by
 have hy:=oH tm hK.size;rw[hy];have e8:=cg hK.s8;have hv:aR (mN X.Fd (Bi fun i=>tm.getD i undef) (5::L) fr cs)=some (.load Jw (.pointer (some ⟨B8,0,none⟩))):=by
  rw[aaJ,e8];rfl
 refine cY hv (x:= .agg fc) (fun w2 h2=>?_) fun w2 h2=>?_
 .obtain⟨ev,r1,r2⟩:=jC (t:=Jw) (off:=0) (n:=6) (hA.rely wJ Gj h2).at8 (by kernel_rfl) (by kernel_rfl) (by omega)
  have e:fc.extract 0 (0+6)=fc:=by rw[show 0+6=fc.size by omega];simp
  rw[e] at r1;exact⟨w2,ev,r1,rfl,rfl,rfl,rfl,fun e he=>⟨B8,(r2 e he).1,.inl Gj⟩⟩
 .rw[Vq,<-hy]
  exact IH (hA.rely wJ Gj h2) (hK.set hset (by decide) rfl)
include hne P5 hm in
theorem VP (d3:(bits n).getD 3 false=true)(d4:(bits n).getD 4 false=true)(d5:(bits n).getD 5 false=true)
  (k:∀tm' w' es' c',tm'.size=35->w'.heap[M]? =some (.map es' c')->dh es' c' (fun s=>if s=path then some (.agg fc) else f s)->RX X ro (fun c=>own c/\c≠M) w w'->aD PP false (eT X false ro) Stop own (mN X.Fd tm' [] fr cs) w'):
  aD PP false (eT X false ro) Stop own (mN X.Fd tm (6::[]) fr cs) w1:=by
 have hy:=oH tm hK.size;rw[hy];have e32:=cg (hK.r3 d3);have e33:=cg (hK.r4 d4);have e34:=cg (hK.r5 d5);have hv:aR (mN X.Fd (Bi fun i=>tm.getD i undef) (6::[]) fr cs)=some (.mapUpdate TM (.map (some M)) (.string path) (.agg fc)):=by
  rw[aaI,e32,e33,e34]
 refine jo (A:=fun o x=>x=undef/\∃es' c',o= .map es' c'/\dh es' c' fun s=>if s=path then some (.agg fc) else f s) wJ hne hv (fun w2 h2=>?_) (fun w2 o x h2 h3 h4 h5=>?_) P5
 .obtain⟨es',c',w',ev,r1,r2,r3,r4⟩:=z6 (t:=TM) (v:= .agg fc) (s:=path) JT JU (hA.rely wJ Gj h2).atM hm
  exact⟨undef,_,w',ev,.inr ⟨r1,rfl⟩,r2,⟨rfl,es',c',rfl,r4⟩,fun e he=>⟨M,r3 e he,.inl wJ⟩⟩
 .obtain⟨rfl,es',c',rfl,h6⟩:=h4
  rw[Vp];have hr:=hA.r;exact k _ w2 es' c' (by simp[Bi]) h3 h6 (RX.trans X (b:=w1) ⟨hr.tape,hr.output,hr.size,hr.os,fun b hb ho=>hr.keep b hb (ho.imp (·.1) id),hr.live⟩ h5)
omit hK hA
include hXM hne P5 hm hfc
theorem Ey (k:∀tm' w' es' c',tm'.size=35->w'.heap[M]? =some (.map es' c')->dh es' c' (fun s=>if s=path then some (.agg fc) else f s)->RX X ro (fun c=>own c/\c≠M) w w'->aD PP false (eT X false ro) Stop own (mN X.Fd tm' [] fr cs) w')
  (fuel:Nat):∀(t n:Nat) (tm:Array Value) (w1:World),Mid X ro own M B8 fc es c w w1->n<128->rN (bits n)=true->(bits n).getD 6 true=false->cntF n=fuel->Kept n X.Fd M path fc B8 tm->
   aD PP false (eT X false ro) Stop own (mN X.Fd tm (Region.linearise.go .any np fuel t (bits n) []) fr cs) w1:=by
 induction fuel with
 |zero=>
  intro t n tm w1 _ hn hcl h6 hc _;exfalso;have:(6:Nat)∈(List.range 7).filter fun i=>!(bits n).getD i true:=List.mem_filter.2 ⟨by simp,by rw[h6];rfl⟩
  unfold cntF at hc;rw[List.length_eq_zero_iff] at hc;rw[hc] at this;cases this
 |succ fuel ih=>
  intro t n tm w1 hA hn hcl h6 hc hK;have r7:=List.all_eq_true.1 U0 n (List.mem_range.2 hn);have r7n:=List.all_eq_true.1 O3 n (List.mem_range.2 hn);have r7s:=List.all_eq_true.1 O2 n (List.mem_range.2 hn);have hnil:Region.ready .any np (bits n)≠[]:=by
   intro e;rw[e,hcl] at r7n;simp only[List.isEmpty_nil,Bool.not_true,Bool.false_or] at r7n;have:(bits n)[6]? =some true:=by
    have hs:(bits n).size=7:=rfl;have:=Array.all_eq_true_iff_forall_mem.1 r7n ((bits n)[6]'(by rw[hs];decide)) (Array.getElem_mem _);rw[Array.getElem?_eq_getElem (by rw[hs];decide)];exact congrArg some this
   rw[Array.getD_eq_getD_getElem?,this] at h6;cases h6
  have hlen:0<(Region.ready .any np (bits n)).length:=List.length_pos_iff.2 hnil;have hlt:=Nat.mod_lt t hlen;have hgo:=LN .any np fuel t (bits n) hlt;rw[hgo];generalize hi:(Region.ready .any np (bits n))[t%(Region.ready .any np (bits n)).length]=i;have him:i∈Region.ready .any np (bits n):=hi▸List.getElem_mem hlt;have q1:=List.all_eq_true.1 r7 i him
  have q2:=List.all_eq_true.1 r7s i him;simp only[Bool.and_eq_true,decide_eq_true_eq,Bool.or_eq_true,Bool.not_eq_true',beq_iff_eq,bne_iff_ne] at q1 q2;obtain⟨⟨hi7,hif⟩,abP⟩:=q1;obtain⟨⟨⟨⟨⟨hset,hcnt⟩,hlt2⟩,WH⟩,h6c⟩,h6k⟩:=q2;have WH:=WH.resolve_left (by rw[hcl];simp);have dep:∀j,j∈needs i->(bits n).getD j false=true:=List.all_eq_true.1 abP
  have IH:i≠6->∀{xQ:Array Value} {w2:World},Mid X ro own M B8 fc es c w w2->Kept (n+2^i) X.Fd M path fc B8 xQ->
    aD PP false (eT X false ro) Stop own (mN X.Fd xQ (Region.linearise.go .any np fuel (t/(Region.ready .any np (bits n)).length) ((bits n).setIfInBounds i true) []) fr cs) w2:=fun hi6 {xQ w2} a g=>by
   rw[hset];exact ih _ _ _ _ a hlt2 WH ((h6k.resolve_left hi6).trans h6) (by omega) g
  clear hi hgo r7 r7n r7s;have X5:i=0\/i=1\/i=2\/i=3\/i=4\/i=5\/i=6:=by omega
  rcases X5 with rfl|rfl|rfl|rfl|rfl|rfl|rfl
  .exact VW wJ Gj hK hA hset (IH (by decide))
  .exact VU wJ Gj hK hA hset (dep 0 (by simp[needs])) (IH (by decide))
  .exact VT wJ Gj hK hA hset (dep 1 (by simp[needs])) (IH (by decide))
  .exact VS hXM wJ Gj hK hA hset (dep 2 (by simp[needs])) (IH (by decide))
  .exact VR wJ Gj hK hA hset (IH (by decide))
  .exact VQ wJ Gj hfc hK hA hset (IH (by decide))
  .have hf0:fuel=0:=by
    have:=(h6c.resolve_left (by simp[hcl]));omega
   subst hf0;exact VP hne wJ Gj P5 hm hK hA (dep 3 (by simp[needs])) (dep 4 (by simp[needs])) (dep 5 (by simp[needs])) k
end
abbrev iI:=ByteArray->Option (Bool×ByteArray)
def bV (a b:Option (Bool×ByteArray)):Array Value:=
 #[.bool a.isSome,.bool b.isSome,.bool (a.getD (false,⟨#[]⟩)).1,.string (a.getD (false,⟨#[]⟩)).2,.bool (b.getD (false,⟨#[]⟩)).1,.string (b.getD (false,⟨#[]⟩)).2]
def comb (a b:Option (Bool×ByteArray)):Option Value:=if a.isSome||b.isSome then some (.agg (bV a b)) else none
theorem xl (a b:Option (Bool×ByteArray)):(comb a b).getD zF= .agg (bV a b):=by
 cases a<;>cases b<;>rfl
def E2 (a b:iI)(o:Obj):Prop:=∃es c f,o= .map es c/\dh es c f/\∀s,f s=comb (a s) (b s)
def bJ:bk->Nat
 |.b=>1
 |_=>0
def iA (m:iI)(path:ByteArray)(h:Bool×ByteArray):iI:=fun s=>if s=path then some h else m s
def zo (r:bk)(mine other:Option (Bool×ByteArray)):Array Value:=match r with
 |.a=>bV mine other
 |_=>bV other mine
theorem XD (r:bk)(hr:r= .a\/r= .b)(mine other:Option (Bool×ByteArray))(hb:Bool)(hc:ByteArray):
  kr (kr (zo r mine other) [.bool true] (bJ r)) [.bool hb,.string hc] (2+2*bJ r)=zo r (some (hb,hc)) other:=by
 rcases hr with rfl|rfl<;>rfl
theorem th:∀(l:List Value) (cs:Array Value) (i:Nat),(kr cs l i).size=cs.size
 |[],_,_=>rfl
 |v::l,cs,i=>by unfold kr;rw[th l];simp
theorem oq (r:bk)(a b:Option (Bool×ByteArray)):(zo r a b).size=6:=by cases r<;>rfl
theorem QD (r:bk)(a b:Option (Bool×ByteArray)):∀x∈(Value.agg (zo r a b)).cells.toList,kS x=true:=by
 have:(Value.agg (zo r a b)).cells=zo r a b:=rfl;rw[this];cases r<;>simp[zo,bV,kS]
theorem QC (r:bk)(a b:Option (Bool×ByteArray)):kr zF.cells (Value.agg (zo r a b)).cells.toList 0=zo r a b:=by
 cases r<;>rfl
theorem Ws:(PP.info? Jw).map (·.size)=some 6:=by kernel_rfl
theorem abw:(PP.info? 4).map (·.size)=some 1:=by kernel_rfl
theorem Gd:(PP.info? TH).map (·.size)=some 2:=by kernel_rfl
theorem adk:(PP.underlying TH).map (fun d=>match d with|.struct _|.array _ _=>true|_=>false)=some true:=by kernel_rfl
theorem DQ {P:Program}{main:Bool}{b:Frame}{a:Act}{id:Nat}{ops:Array Oper}{k:List Item}{cs:List Frame}{w w':World}{t:Nat}(h:(choose (.order b.fn id)).run P w= .ok t w'):
  stepG P main (G (b.at a (.code (.region id ops true)::k)) cs) w= .go (G (b.at a (.inRegion ops (Region.schedule (P.follows .mixedOrders) ops t)::k)) cs) w' #[]:=by
 first
  |(simp[stepG,stepG.exec,G,Frame.at,h];done)
  |(simp[stepG,stepG.exec,G,Frame.at];simp at h;rw[h])
theorem Hx {ops:Array Oper}{mixed:Bool}(hm:mixed=true)(t:Nat):Region.schedule mixed ops t=Region.linearise.go .any ops ops.size t (Array.replicate ops.size false) []:=by
 unfold Region.schedule Region.linearise;rw[hm];rfl
theorem adb:Array.replicate 7 false=bits 0:=by rfl
theorem Ez {Δ:Type}{X:Cx Δ}{ro own:Nat->Prop}{Stop:(Nat->Prop)->Goroutine->World->Prop}{w:World}{fr:Frame}{cs:List Frame}{tm:Array Value}{F:Nat}
  (k:∀w' t,RX X ro own w w'->aD PP false (eT X false ro) Stop own (mN F tm (Region.linearise.go .any np 7 t (bits 0) []) fr cs) w'):
  aD PP false (eT X false ro) Stop own (G ((base 167).at ⟨tm,[dcall 202 #[pt F]]⟩ [.code (.region idP np true)]) (fr::cs)) w:=by
 refine aD.step rfl fun w1 h1=>?_
 obtain⟨t,w',c1,c2,c3,c4,c5,_⟩:=oK (w:=w1) (q:= .order 167 idP);have hrun:=c1.run;have hm:PP.follows .mixedOrders=true:=by kernel_rfl
 have hs:=DQ (main:=false) (b:=base 167) (a:=⟨tm,[dcall 202 #[pt F]]⟩) (ops:=np) (k:=[]) (cs:=fr::cs) hrun;rw[Hx hm,In,adb] at hs;have hup:(eT X false ro).up own w1 w'=own:=by
  funext b
  exact propext ⟨fun h=>h.elim id fun z=>by rw[c5] at z;omega,.inl⟩
 refine⟨_,w',#[],hs,⟨c2,c3,by rw[c5];exact Nat.le_refl _,by rw[c4];exact .refl _,fun b _ _=>by rw[c5],by simp,fun h=>absurd h (by simp)⟩,?_⟩;rw[hup];exact k w' t (h1.trans X ⟨c2,c3,by rw[c5];exact Nat.le_refl _,by rw[c4];exact .refl _,fun b _ _=>by rw[c5],fun⟨s,hs⟩=>⟨s,by rw[ShAt,c5];exact hs⟩⟩)
theorem RX.sub {Δ:Type}{X:Cx Δ}{ro own own':Nat->Prop}{w w':World}(h:RX X ro own w w')(hs:∀b,own' b->own b):RX X ro own' w w':=
 ⟨h.tape,h.output,h.size,h.os,fun b hb ho=>h.keep b hb (ho.imp (hs b) id),h.live⟩
theorem aV {Δ:Type}{X:Cx Δ}{ro own:Nat->Prop}{w w':World}{b:Nat}{o:Obj}(h:RX X ro own w w')(hb:own b\/ro b)(ho:w.heap[b]? =some o):w'.heap[b]? =some o:=
 (h.keep b (Array.getElem?_eq_some_iff.1 ho).1 hb).trans ho
theorem lt_of_some {w:World}{b:Nat}{o:Obj}(ho:w.heap[b]? =some o):b<w.heap.size:=(Array.getElem?_eq_some_iff.1 ho).1
section
variable {X:Cx iI}{r:bk}{γ:Gh iI}{w:World}{n:Nat}{path:ByteArray}{hb:Bool}{hc:ByteArray}{fr:Frame}{cs:List Frame}
structure yz (X:Cx iI)(r:bk)(γ:Gh iI):Prop where
 dat:X.Dat=E2
 role:r= .a\/r= .b
 room:Room X γ
 om:¬γ.own X.M
 rm:¬γ.ro X.M
 mf:X.M≠X.Fd
 mw:X.M≠X.Wg
theorem yz.worker (h:yz X r γ):uk r=false:=by rcases h.role with rfl|rfl<;>rfl
theorem yz.ahj (h:yz X r γ){mine other:iI}{o:Obj}(ho:AY X r mine other o):∃es c f,o= .map es c/\dh es c f/\∀s,(f s).getD zF= .agg (zo r (mine s) (other s))/\(f s=none↔mine s=none/\other s=none):=by
 have hd:=h.dat;have key:∀a b:Option (Bool×ByteArray),comb a b=none↔a=none/\b=none:=fun a b=>by cases a<;>cases b<;>simp[comb]
 rcases h.role with rfl|rfl
 .have ho:X.Dat mine other o:=ho
  rw[hd] at ho;obtain⟨es,c,f,h1,h2,h3⟩:=ho;exact⟨es,c,f,h1,h2,fun s=>⟨by rw[h3,xl];rfl,by rw[h3];exact key _ _⟩⟩
 .have ho:X.Dat other mine o:=ho
  rw[hd] at ho;obtain⟨es,c,f,h1,h2,h3⟩:=ho;exact⟨es,c,f,h1,h2,fun s=>⟨by rw[h3,xl];rfl,by rw[h3,key];exact and_comm⟩⟩
theorem yz.put (h:yz X r γ){mine other:iI}{o:Obj}{es es':Array MapEntry}{c c':Nat}{f:ByteArray->Option Value}(ho:AY X r mine other o)(he:o= .map es c)(hm:dh es c f)
  (hm':dh es' c' fun s=>if s=path then some (.agg (zo r (some (hb,hc)) (other path))) else f s):AY X r (iA mine path (hb,hc)) other (.map es' c'):=by
 have hd:=h.dat;rcases h.role with rfl|rfl
 .have ho:X.Dat mine other o:=ho
  show X.Dat (iA mine path (hb,hc)) other _;rw[hd] at ho⊢;obtain⟨es1,c1,f1,h1,h2,h3⟩:=ho;rw[he] at h1;cases h1;refine⟨es',c',_,rfl,hm',fun s=>?_⟩;have hf:f s=f1 s:=Option.ext fun v=>(hm.has s v).trans (h2.has s v).symm
  by_cases hs:s=path
  .subst hs;simp[iA,comb,zo]
  .simp only[if_neg hs,iA];rw[hf,h3]
 .have ho:X.Dat other mine o:=ho
  show X.Dat other (iA mine path (hb,hc)) _;rw[hd] at ho⊢;obtain⟨es1,c1,f1,h1,h2,h3⟩:=ho;rw[he] at h1;cases h1;refine⟨es',c',_,rfl,hm',fun s=>?_⟩;have hf:f s=f1 s:=Option.ext fun v=>(hm.has s v).trans (h2.has s v).symm
  by_cases hs:s=path
  .subst hs;simp[iA,comb,zo]
  .simp only[if_neg hs,iA];rw[hf,h3]
theorem Vc (hS:yz X r γ)(hlow:∀b,γ.own b\/γ.ro b->b<w.heap.size)(live:∃s,ShAt X w s){B7:Nat}(h7:γ.own B7)(w7:w.heap[B7]? =some (.cells #[.bool hb,.string hc] TH (0,0)))
  (back:∀k w' own' d,(∀b,γ.own b->own' b)->(∀b,own' b->γ.own b\/w.heap.size<=b)->(∀b,own' b->b<w'.heap.size)->RR X γ w w'->LW X r {γ with own:=own',mine:=iA γ.mine path (hb,hc),other:=d} k (at_ .out n) (cC fr cs U) w'):
  Taken X r γ n (fP X.Fd B7 (bJ r) path hb hc fr cs) (fr::cs) w:=by
 intro k w1 d o hr1 ho hD;have hm:=hS.worker;obtain⟨es,c,f,rfl,hmap,hf⟩:=hS.ahj hD;have zg:=hr1.live live;have w71:=aV hr1 (.inl h7) w7;have akz:B7≠X.M:=fun e=>hS.om (e▸h7)
 refine aC (Xs X.Fd B7 (bJ r) path hb hc fr cs) (zh (Xq _ _ _ _ _ _ _ _) rfl zg fun w2 h2=>?_);refine aC (Xr _ _ _ _ _ _ _ _ _) ?_;have hM2:=aV h2 (.inl (.inr rfl)) ho;refine cY (Xo _ _ _ _ _ _ _ _ _) (x:= .agg (zo r (γ.mine path) (d path))) (fun w3 h3=>?_) fun w3 h3=>?_
 .have WM:=aV h3 (.inl (.inr rfl)) hM2
  have:=oJ (t:=TM) (s:=path) JT JU JI WM hmap;rw[(hf path).1] at this;exact⟨w3,_,this,rfl,rfl,rfl,rfl,fun e he=>⟨X.M,by simp at he;subst he;exact dL,.inl (.inr rfl)⟩⟩
 have WM:=aV h3 (.inl (.inr rfl)) hM2;refine aC (Xp _ _ _ _ _ _ _ _ _ _) ?_;refine fX (f:=fun b=>pb b) (Xn _ _ _ _ _ _ _ _ _ _) (fun w4 h4=>⟨#[],lX JI,by simp⟩) fun w4 B8 h4 hB8 w84=>?_
 refine aC (Xm _ _ _ B8 _ _ _ _ _ _ _) ?_;have hM4:=aV h4 (.inl (.inr rfl)) WM;have w74:=aV h4 (.inl (.inl h7)) (aV h3 (.inl (.inl h7)) (aV h2 (.inl (.inl h7)) w71));have h14:=(h2.trans X h3).trans X h4;have Sd:=h14.live zg;have hlo:w.heap.size<=B8:=Nat.le_trans hr1.size (Nat.le_trans (h2.trans X h3).size hB8);have akq:X.M<w1.heap.size:=lt_of_some ho
 have agM:=(h2.trans X h3).size;have n8M:B8≠X.M:=fun e=>by omega
 have n87:B8≠B7:=fun e=>by have:=lt_of_some w7;omega
 obtain⟨s1,hs1⟩:=zg;have n8F:B8≠X.Fd/\B8≠X.Wg:=⟨fun e=>by have:=lt_of_some hs1.1;omega,fun e=>by have:=lt_of_some hs1.2;omega⟩
 have ro8:¬γ.ro B8:=fun e=>by have:=hlow B8 (.inr e);omega
 have ow8:∀b,γ.own b->b≠B8:=fun b e q=>by have:=hlow b (.inl e);omega
 have e4:∀b,γ.own b->((γ.own b\/b=X.M)\/b=B8):=fun b e=> .inl (.inl e)
 have m4:(fun b=>(γ.own b\/b=X.M)\/b=B8) X.M:= .inl (.inr rfl);have FX:(fun b=>(γ.own b\/b=X.M)\/b=B8) B8:= .inr rfl;have H4:RX X γ.ro γ.own w w4:=hr1.trans X ((h2.sub fun b e=> .inl e).trans X ((h3.sub fun b e=> .inl e).trans X (h4.sub fun b e=> .inl e)));clear h2 h3 h4 h14 hM2 WM hB8 agM
 have S7:∀{w' w'':World},RX X γ.ro (fun b=>((γ.own b\/b=X.M)\/b=B8)/\b≠B8) w' w''->RX X γ.ro γ.own w' w'':=fun h=>h.sub fun b e=>⟨e4 b e,ow8 b e⟩
 refine jo (b:=B8) (A:=fun o x=>x=undef/\o= .cells (zo r (γ.mine path) (d path)) Jw (0,0)) FX n8F (Xk _ _ _ _ _ _ _ _ _ _ _) (fun w5 h5=>?_) (fun w5 o x _ w85 ha h5=>?_) ro8
 .have e8:=aV h5 (.inl FX) w84
  obtain⟨w',ev,r1,r2,r3⟩:=fE (t:=Jw) (off:=0) (v:= .agg (zo r (γ.mine path) (d path))) e8 (by
   have:(Value.agg (zo r (γ.mine path) (d path))).cells.size=6:=oq _ _ _;rw[this];exact Ws) (by
   have:(Value.agg (zo r (γ.mine path) (d path))).cells.size=6:=oq _ _ _;rw[this];simp[zF,Value.cells]) (QD _ _ _)
  rw[QC] at r2;exact⟨undef,_,w',ev,.inr ⟨r1,rfl⟩,r2,⟨rfl,rfl⟩,fun e he=>⟨B8,r3 e he,.inl FX⟩⟩
 obtain⟨rfl,rfl⟩:=ha;have M5:=aV h5 (.inl ⟨m4,n8M.symm⟩) hM4;have w75:=aV h5 (.inl ⟨e4 B7 h7,n87.symm⟩) w74;have Sc:=h5.live Sd;have H5:=H4.trans X (S7 h5);refine aC (Xl _ _ _ _ _ _ _ _ _ _ _) ?_;have hside:bJ r<2:=by rcases hS.role with rfl|rfl<;>decide
 refine cY (Xi _ _ _ _ _ _ _ _ _ _ _) (x:= .pointer (some ⟨B8,bJ r,none⟩)) (fun w6 h6=>⟨w6,#[],UW B8 _ hside,rfl,rfl,rfl,rfl,by simp⟩) fun w6 h6=>?_
 have w86:=aV h6 (.inl FX) w85;have M6:=aV h6 (.inl m4) M5;have w76:=aV h6 (.inl (e4 B7 h7)) w75;have Sb:=h6.live Sc;have H6:=H5.trans X (h6.sub e4);clear h5 h6 M5 w75 Sc H5 w85 w84 hM4 w74 Sd H4;refine aC (Xj _ _ _ _ _ _ _ _ _ _ _) ?_
 refine jo (b:=B8) (A:=fun o x=>x=undef/\o= .cells (kr (zo r (γ.mine path) (d path)) [.bool true] (bJ r)) Jw (0,0)) FX n8F (Xg _ _ _ _ _ _ _ _ _ _ _) (fun w7' WN=>?_) (fun w7' o x _ w87 ha WN=>?_) ro8
 .have e8:=aV WN (.inl FX) w86
  obtain⟨w',ev,r1,r2,r3⟩:=fE (t:=4) (off:=bJ r) (v:= .bool true) e8 abw (by
   rw[oq];show bJ r+1<=6;omega) (by simp[Value.cells,kS])
  exact⟨undef,_,w',ev,.inr ⟨r1,rfl⟩,r2,⟨rfl,rfl⟩,fun e he=>⟨B8,r3 e he,.inl FX⟩⟩
 obtain⟨rfl,rfl⟩:=ha;have M7:=aV WN (.inl ⟨m4,n8M.symm⟩) M6;have w77:=aV WN (.inl ⟨e4 B7 h7,n87.symm⟩) w76;have Sa:=WN.live Sb;have H7:=H6.trans X (S7 WN);refine aC (Xh _ _ _ _ _ _ _ _ _ _ _) ?_;refine cY (Qx _ _ _ _ _ _ _ _ _ _ _) (x:=hv hb hc) (fun w8 h8=>?_) fun w8 h8=>?_
 .obtain⟨ev,r1,r2⟩:=jC (t:=TH) (off:=0) (n:=2) (aV h8 (.inl (e4 B7 h7)) w77) adk Gd (by simp)
  exact⟨w8,ev,r1,rfl,rfl,rfl,rfl,fun e he=>⟨B7,(r2 e he).1,.inl (e4 B7 h7)⟩⟩
 have w88:=aV h8 (.inl FX) w87;have M8:=aV h8 (.inl m4) M7;have R9:=h8.live Sa;have H8:=H7.trans X (h8.sub e4);refine aC (Qy _ _ _ _ _ _ _ _ _ _ _) ?_;refine cY (Qu _ _ _ _ _ _ _ _ _ _ _) (x:= .pointer (some ⟨B8,2+2*bJ r,none⟩)) (fun w9 h9=>⟨w9,#[],UV B8 _ hside,rfl,rfl,rfl,rfl,by simp⟩) fun w9 h9=>?_
 have w89:=aV h9 (.inl FX) w88;have M9:=aV h9 (.inl m4) M8;have abj:=h9.live R9;have H9:=H8.trans X (h9.sub e4);clear WN h8 h9 M6 M7 M8 w76 w77 Sb Sa R9 H6 H7 H8 w86 w87 w88;refine aC (Qv _ _ _ _ _ _ _ _ _ _ _) ?_
 refine jo (b:=B8) (A:=fun o x=>x=undef/\o= .cells (zo r (some (hb,hc)) (d path)) Jw (0,0)) FX n8F (Qr _ _ _ _ _ _ _ _ _ _ _) (fun wA hA=>?_) (fun wA o x _ w8A ha hA=>?_) ro8
 .have e8:=aV hA (.inl FX) w89
  obtain⟨w',ev,r1,r2,r3⟩:=fE (t:=TH) (off:=2+2*bJ r) (v:=hv hb hc) e8 Gd (by
   rw[th,oq];show 2+2*bJ r+2<=6;omega) (by simp[hv,Value.cells,kS])
  have e:(hv hb hc).cells.toList=[.bool hb,.string hc]:=rfl;rw[e,XD r hS.role] at r2;exact⟨undef,_,w',ev,.inr ⟨r1,rfl⟩,r2,⟨rfl,rfl⟩,fun e he=>⟨B8,r3 e he,.inl FX⟩⟩
 obtain⟨rfl,rfl⟩:=ha;have MA:=aV hA (.inl ⟨m4,n8M.symm⟩) M9;have abi:=hA.live abj;have HA:=H9.trans X (S7 hA);refine aC (Qs _ _ _ _ _ _ _ _ _ _ _) ?_;rw[Qq];refine Ez fun wB t hB=>?_
 have w8B:=aV hB (.inl FX) w8A;have MB:=aV hB (.inl m4) MA;have R8:=hB.live abi;have HB:=HA.trans X (hB.sub e4);refine Ey (w:=wB) rfl ⟨hS.mf,hS.mw⟩ m4 FX hS.rm hmap (oq _ _ _) (fun tm' wC es' c' _ hMC hmC hC=>?_) 7 t 0 _ wB ⟨RX.refl X _ _ _,R8,w8B,MB⟩ (by decide) (by decide) (by decide) (by decide)
  ⟨JW _ _ _ _ _ _ _ _ _ _ _,ZE _ _ _ _ _ _ _ _ _ _ _,ZD _ _ _ _ _ _ _ _ _ _ _,ZC _ _ _ _ _ _ _ _ _ _ _,fun h=>absurd h (by decide),fun h=>absurd h (by decide),fun h=>absurd h (by decide),fun h=>absurd h (by decide),fun h=>absurd h (by decide),fun h=>absurd h (by decide)⟩
 have HC:RX X γ.ro γ.own w wC:=HB.trans X (hC.sub fun b e=>⟨e4 b e,fun q=>hS.om (q▸e)⟩);refine aC (Qo _ _ _ _) ?_;have eo:(fun b=>(γ.own b\/b=X.M)\/b=B8)=fun b=>(γ.own b\/b=B8)\/b=X.M:=by
  funext b
  exact propext ⟨fun h=>h.elim (fun h=>h.elim (fun h=> .inl (.inl h)) .inr) fun h=> .inl (.inr h),fun h=>h.elim (fun h=>h.elim (fun h=> .inl (.inl h)) .inr) fun h=> .inl (.inr h)⟩
 rw[eo];have R2:Room X {γ with own:=fun b=>γ.own b\/b=B8}:=⟨hS.room.ne,fun b h=>by
  rcases h with(h|rfl)|h
  .exact hS.room.off b (.inl h)
  .exact n8F
  .exact hS.room.off b (.inr h)⟩
 exact Bf (γ:={γ with own:=fun b=>γ.own b\/b=B8}) (c:=iA γ.mine path (hb,hc)) (d:=d) hm R2 (fun h=>h.elim hS.om fun e=>n8M e.symm) (hC.live R8) ⟨_,hMC,hS.put hD rfl hmap hmC⟩ fun k' wD hD'=>
  aC (KT _ _ _) (back k' wD (fun b=>γ.own b\/b=B8) d (fun b h=> .inl h) (fun b h=>Or.imp id (fun e:b=B8=>by rw[e];exact hlo) h) (fun b h=>by
   have s1:=HC.size;have s2:=hC.size;have s3:=hD'.size;rcases h with h|rfl
   .have:=hlow b (.inl h);omega
   .have:=lt_of_some w8B;omega) (HC.trans X (hD'.sub fun b h=> .inl h)))
theorem Cg (hS:yz X r γ)(hlow:∀b,γ.own b\/γ.ro b->b<w.heap.size)(hMl:X.M<w.heap.size)(live:∃s,ShAt X w s)
  (back:∀k w' own' d,(∀b,γ.own b->own' b)->(∀b,own' b->γ.own b\/w.heap.size<=b)->(∀b,own' b->b<w'.heap.size)->RR X γ w w'->LW X r {γ with own:=own',mine:=iA γ.mine path (hb,hc),other:=d} k (at_ .out n) (cC fr cs U) w') (k:Nat):
  LW X r γ k (at_ .out (n+1)) (gP0 X.Fd (bJ r) path hb hc fr cs) w:=by
 refine aC (Xu _ _ _ _ _ _ _) (fX (f:=fun b=>pb b) (Qp _ _ _ _ _ _ _) (fun w1 h1=>⟨#[],vJ _ _,by simp⟩) fun w1 B7 h1 hB w71=>?_);refine aC (Xt _ _ _ _ _ _ _ _) ?_;obtain⟨s1,hs1⟩:=live;have n7:B7≠X.Fd/\B7≠X.Wg:=⟨fun e=>by have:=lt_of_some hs1.1;omega,fun e=>by have:=lt_of_some hs1.2;omega⟩
 have S1:yz X r {γ with own:=fun b=>γ.own b\/b=B7}:=⟨hS.dat,hS.role,⟨hS.room.ne,fun b h=>by
  rcases h with(h|rfl)|h
  .exact hS.room.off b (.inl h)
  .exact n7
  .exact hS.room.off b (.inr h)⟩,fun h=>h.elim hS.om fun e=>by omega,hS.rm,hS.mf,hS.mw⟩
 have hs7:=lt_of_some w71;have afR:∀b,(γ.own b\/b=B7)\/γ.ro b->b<w1.heap.size:=fun b h=>by
  have:=h1.size;rcases h with(h|rfl)|h
  .have:=hlow b (.inl h);omega
  .exact hs7
  .have:=hlow b (.inr h);omega
 have zg:=h1.live ⟨s1,hs1⟩;refine Iy (γ:={γ with own:=fun b=>γ.own b\/b=B7}) hS.worker S1.room zg (Vc S1 afR zg (.inr rfl) w71 fun k w' own' d a1 a2 a4 a3=>?_);exact back k w' own' d (fun b h=>a1 b (.inl h)) (fun b h=>by
  rcases a2 b h with(h|rfl)|h
  .exact .inl h
  .exact .inr hB
  .exact .inr (Nat.le_trans h1.size h)) a4 (h1.trans X (RX.sub a3 fun b h=> .inl h))
end
abbrev TC:TypeId:=251
section
variable (F:Nat)(dv:Value)(side:Nat)(m1 m2:Value)(fr:Frame)(cs:List Frame)
def gC0 (dv:Value)(set:Int)(fr:Frame)(cs:List Frame):Goroutine:=LV 166 #[dv,.int .i64 set] 28 fr cs
def fK1:Frame:=(On 5 (YS F dv (side:Int) fr cs)).callers.head?.getD default
theorem Xz:au PP false (YS F dv (side:Int) fr cs) (gC0 dv (side:Int) (fK1 F dv side fr cs) (fr::cs)):=aM 5 (bN PP false 5 (YS F dv (side:Int) fr cs)) fun ws=>by kernel_rfl
def fK2:Frame:=(On 2 (cC (fK1 F dv side fr cs) (fr::cs) m1)).callers.head?.getD default
theorem Xy:au PP false (cC (fK1 F dv side fr cs) (fr::cs) m1) (gC0 dv 2 (fK2 F dv side m1 fr cs) (fr::cs)):=aM 2 (bN PP false 2 (cC (fK1 F dv side fr cs) (fr::cs) m1)) fun ws=>by kernel_rfl
def YR:Goroutine:=O (cC (fK2 F dv side m1 fr cs) (fr::cs) m2)
theorem Xx:au PP false (cC (fK2 F dv side m1 fr cs) (fr::cs) m2) (YR F dv side m1 m2 fr cs):=aI fun ws=>by kernel_rfl
theorem Xv:aR (YR F dv side m1 m2 fr cs)=some (.range TC m1):=by kernel_rfl
end
def S6:List Item:=(O (resume (YR 0 default 0 undef undef default []) (pb 0))).frame.todo
def gL1 (tm:Array Value)(fr:Frame)(cs:List Frame):Goroutine:=G ((base 132).at ⟨tm,[]⟩ S6) (fr::cs)
section
variable (F:Nat)(dv:Value)(side M1 M2 it:Nat)(path s s2:ByteArray)(b2:Bool)(B9:Nat)(fr:Frame)(cs:List Frame)(y:Nat->Value)
def ZH:Array Value:=#[pt F,dv,.int .i64 (side:Int),y 3,y 4,y 5,.map (some M1),.map (some M2),y 8,y 9,y 10,y 11,y 12,y 13,y 14,y 15,y 16,pb it,y 18,y 19,y 20,y 21,y 22,y 23,y 24,y 25,y 26,y 27,y 28,y 29,y 30,y 31,y 32,y 33,y 34,y 35,y 36,y 37,y 38,y 39,y 40,y 41,y 42,y 43,y 44,y 45,y 46,y 47,y 48]
def ZG:Array Value:=#[pt F,dv,.int .i64 (side:Int),y 3,y 4,y 5,.map (some M1),.map (some M2),y 8,y 9,y 10,y 11,y 12,y 13,y 14,y 15,y 16,y 17,y 18,y 19,y 20,y 21,y 22,y 23,y 24,y 25,y 26,y 27,y 28,y 29,y 30,y 31,y 32,y 33,pb it,y 35,y 36,y 37,y 38,y 39,y 40,y 41,y 42,y 43,y 44,y 45,y 46,y 47,y 48]
structure Rn (F:Nat)(dv:Value)(side M1 M2 it:Nat)(tm:Array Value):Prop where
 size:tm.size=49
 s0:tm[0]? =some (pt F)
 s1:tm[1]? =some (dv)
 s2:tm[2]? =some (.int .i64 (side:Int))
 s6:tm[6]? =some (.map (some M1))
 s7:tm[7]? =some (.map (some M2))
 s17:tm[17]? =some (pb it)
structure HL2 (F:Nat)(dv:Value)(side M1 M2 it:Nat)(tm:Array Value):Prop where
 size:tm.size=49
 s0:tm[0]? =some (pt F)
 s1:tm[1]? =some (dv)
 s2:tm[2]? =some (.int .i64 (side:Int))
 s6:tm[6]? =some (.map (some M1))
 s7:tm[7]? =some (.map (some M2))
 s34:tm[34]? =some (pb it)
theorem FC (tm:Array Value)(h:tm.size=49):tm=#[tm.getD 0 undef,tm.getD 1 undef,tm.getD 2 undef,tm.getD 3 undef,tm.getD 4 undef,tm.getD 5 undef,tm.getD 6 undef,tm.getD 7 undef,tm.getD 8 undef,tm.getD 9 undef,tm.getD 10 undef,tm.getD 11 undef,tm.getD 12 undef,tm.getD 13 undef,tm.getD 14 undef,tm.getD 15 undef,tm.getD 16 undef,tm.getD 17 undef,tm.getD 18 undef,tm.getD 19 undef,tm.getD 20 undef,tm.getD 21 undef,tm.getD 22 undef,tm.getD 23 undef,tm.getD 24 undef,tm.getD 25 undef,tm.getD 26 undef,tm.getD 27 undef,tm.getD 28 undef,tm.getD 29 undef,tm.getD 30 undef,tm.getD 31 undef,tm.getD 32 undef,tm.getD 33 undef,tm.getD 34 undef,tm.getD 35 undef,tm.getD 36 undef,tm.getD 37 undef,tm.getD 38 undef,tm.getD 39 undef,tm.getD 40 undef,tm.getD 41 undef,tm.getD 42 undef,tm.getD 43 undef,tm.getD 44 undef,tm.getD 45 undef,tm.getD 46 undef,tm.getD 47 undef,tm.getD 48 undef]:=by
 have e:tm=((List.range 49).map fun i=>tm.getD i undef).toArray:=by
  apply Array.ext
  .simp[h]
  .intro i h1 h2
   simp[Array.getD_eq_getD_getElem?,h1]
 exact e.trans (by kernel_rfl)
theorem Rn.eq {F:Nat}{dv:Value}{side M1 M2 it:Nat}{tm:Array Value}(h:Rn F dv side M1 M2 it tm):tm=ZH F dv side M1 M2 it fun i=>tm.getD i undef:=by
 have h1:=FC tm h.size;rw[cg h.s0,cg h.s1,cg h.s2,cg h.s6,cg h.s7,cg h.s17] at h1;exact h1
theorem HL2.eq {F:Nat}{dv:Value}{side M1 M2 it:Nat}{tm:Array Value}(h:HL2 F dv side M1 M2 it tm):tm=ZG F dv side M1 M2 it fun i=>tm.getD i undef:=by
 have h1:=FC tm h.size;rw[cg h.s0,cg h.s1,cg h.s2,cg h.s6,cg h.s7,cg h.s34] at h1;exact h1
theorem Xw (m1':Value)(h1:m1'= .map (some M1)):∃tm,Rn F dv side M1 M2 it tm/\au PP false (resume (YR F dv side m1' (.map (some M2)) fr cs) (pb it)) (gL1 tm fr cs):=by
 subst h1;exact⟨(O (resume (YR F dv side (.map (some M1)) (.map (some M2)) fr cs) (pb it))).frame.tmps,⟨by kernel_rfl,by kernel_rfl,by kernel_rfl,by kernel_rfl,by kernel_rfl,by kernel_rfl,by kernel_rfl⟩,aM 200 (bN PP false 200 (resume (YR F dv side (.map (some M1)) (.map (some M2)) fr cs) (pb it))) fun ws=>by kernel_rfl⟩
abbrev l1:Goroutine:=gL1 (ZH F dv side M1 M2 it y) fr cs
def nxT (g:Goroutine):TypeId:=match aR g with|some (.next _ _ t)=>t|_=>0
theorem abo:aR (l1 F dv side M1 M2 it fr cs y)=some (.next (pb it) false (nxT (l1 0 default 0 0 0 0 default [] fun _=>undef))):=by kernel_rfl
def YF:Goroutine:=O (resume (l1 F dv side M1 M2 it fr cs y) (.tuple #[.bool false]))
theorem PT:au PP false (resume (l1 F dv side M1 M2 it fr cs y) (.tuple #[.bool false])) (YF F dv side M1 M2 it fr cs y):=aI fun ws=>by kernel_rfl
theorem V5:aR (YF F dv side M1 M2 it fr cs y)=some (.range TC (.map (some M2))):=by kernel_rfl
def l1a:Goroutine:=O (resume (l1 F dv side M1 M2 it fr cs y) (.tuple #[.bool true,.string path,hv true s]))
theorem PU:au PP false (resume (l1 F dv side M1 M2 it fr cs y) (.tuple #[.bool true,.string path,hv true s])) (l1a F dv side M1 M2 it path s fr cs y):=aI fun ws=>by kernel_rfl
theorem Wm:aR (l1a F dv side M1 M2 it path s fr cs y)=some (.entry (pb it)):=by kernel_rfl
def l1b:Goroutine:=O (resume (l1a F dv side M1 M2 it path s fr cs y) (.tuple #[.string path,hv true s]))
theorem Wl:au PP false (resume (l1a F dv side M1 M2 it path s fr cs y) (.tuple #[.string path,hv true s])) (l1b F dv side M1 M2 it path s fr cs y):=aI fun ws=>by kernel_rfl
theorem Wk:aR (l1b F dv side M1 M2 it path s fr cs y)=some (.alloc TH):=by kernel_rfl
def l1c:Goroutine:=O (resume (l1b F dv side M1 M2 it path s fr cs y) (pb B9))
theorem Wj:au PP false (resume (l1b F dv side M1 M2 it path s fr cs y) (pb B9)) (l1c F dv side M1 M2 it path s B9 fr cs y):=aI fun ws=>by kernel_rfl
theorem Wh:aR (l1c F dv side M1 M2 it path s B9 fr cs y)=some (.store TH (pb B9) (hv true s)):=by kernel_rfl
def l1d:Goroutine:=O (resume (l1c F dv side M1 M2 it path s B9 fr cs y) undef)
theorem Wi:au PP false (resume (l1c F dv side M1 M2 it path s B9 fr cs y) undef) (l1d F dv side M1 M2 it path s B9 fr cs y):=aI fun ws=>by kernel_rfl
theorem We:aR (l1d F dv side M1 M2 it path s B9 fr cs y)=some (.load TH (pb B9)):=by kernel_rfl
def l1e:Goroutine:=O (resume (l1d F dv side M1 M2 it path s B9 fr cs y) (hv true s))
theorem Wf:au PP false (resume (l1d F dv side M1 M2 it path s B9 fr cs y) (hv true s)) (l1e F dv side M1 M2 it path s B9 fr cs y):=aI fun ws=>by kernel_rfl
theorem Wc:aR (l1e F dv side M1 M2 it path s B9 fr cs y)=some (.lookup TC (.map (some M2)) (.string path) false):=by kernel_rfl
def Wb:Goroutine:=O (resume (l1e F dv side M1 M2 it path s B9 fr cs y) (hv b2 s2))
theorem Wd:au PP false (resume (l1e F dv side M1 M2 it path s B9 fr cs y) (hv b2 s2)) (Wb F dv side M1 M2 it path s s2 b2 B9 fr cs y):=aI fun ws=>by kernel_rfl
theorem Wa:aR (Wb F dv side M1 M2 it path s s2 b2 B9 fr cs y)=some (.bin .neq TH (hv true s) (hv b2 s2)):=by kernel_rfl
theorem V9:∃tm,Rn F dv side M1 M2 it tm/\au PP false (resume (Wb F dv side M1 M2 it path s s2 b2 B9 fr cs y) (.bool false)) (gL1 tm fr cs):=⟨(O (resume (Wb F dv side M1 M2 it path s s2 b2 B9 fr cs y) (.bool false))).frame.tmps,⟨by kernel_rfl,by kernel_rfl,by kernel_rfl,by kernel_rfl,by kernel_rfl,by kernel_rfl,by kernel_rfl⟩,aM 200 (bN PP false 200 (resume (Wb F dv side M1 M2 it path s s2 b2 B9 fr cs y) (.bool false))) fun ws=>by kernel_rfl⟩
def l1g:Goroutine:=O (resume (Wb F dv side M1 M2 it path s s2 b2 B9 fr cs y) (.bool true))
theorem PS:au PP false (resume (Wb F dv side M1 M2 it path s s2 b2 B9 fr cs y) (.bool true)) (l1g F dv side M1 M2 it path s s2 b2 B9 fr cs y):=aI fun ws=>by kernel_rfl
theorem V7:aR (l1g F dv side M1 M2 it path s s2 b2 B9 fr cs y)=some (.load TH (pb B9)):=by kernel_rfl
def l1F:Frame:=(On 1 (resume (l1g F dv side M1 M2 it path s s2 b2 B9 fr cs y) (hv true s))).callers.head?.getD default
theorem V8:au PP false (resume (l1g F dv side M1 M2 it path s s2 b2 B9 fr cs y) (hv true s)) (gP0 F side path true s (l1F F dv side M1 M2 it path s s2 b2 B9 fr cs y) (fr::cs)):=aM 1 (bN PP false 1 (resume (l1g F dv side M1 M2 it path s s2 b2 B9 fr cs y) (hv true s))) fun ws=>by kernel_rfl
theorem Wn:∃tm,Rn F dv side M1 M2 it tm/\au PP false (cC (l1F F dv side M1 M2 it path s s2 b2 B9 fr cs y) (fr::cs) U) (gL1 tm fr cs):=⟨(O (cC (l1F F dv side M1 M2 it path s s2 b2 B9 fr cs y) (fr::cs) U)).frame.tmps,⟨by kernel_rfl,by kernel_rfl,by kernel_rfl,by kernel_rfl,by kernel_rfl,by kernel_rfl,by kernel_rfl⟩,aM 200 (bN PP false 200 (cC (l1F F dv side M1 M2 it path s s2 b2 B9 fr cs y) (fr::cs) U)) fun ws=>by kernel_rfl⟩
end
def S5:List Item:=(O (resume (YF 0 default 0 0 0 0 default [] fun _=>undef) (pb 0))).frame.todo
def gL2 (tm:Array Value)(fr:Frame)(cs:List Frame):Goroutine:=G ((base 132).at ⟨tm,[]⟩ S5) (fr::cs)
section
variable (F:Nat)(dv:Value)(side M1 M2 it it2:Nat)(path s s2:ByteArray)(b2:Bool)(B9:Nat)(fr:Frame)(cs:List Frame)(y:Nat->Value)
theorem V6:∃tm,HL2 F dv side M1 M2 it2 tm/\au PP false (resume (YF F dv side M1 M2 it fr cs y) (pb it2)) (gL2 tm fr cs):=⟨(O (resume (YF F dv side M1 M2 it fr cs y) (pb it2))).frame.tmps,⟨by kernel_rfl,by kernel_rfl,by kernel_rfl,by kernel_rfl,by kernel_rfl,by kernel_rfl,by kernel_rfl⟩,aM 200 (bN PP false 200 (resume (YF F dv side M1 M2 it fr cs y) (pb it2))) fun ws=>by kernel_rfl⟩
abbrev l2:Goroutine:=gL2 (ZG F dv side M1 M2 it y) fr cs
theorem abm:aR (l2 F dv side M1 M2 it fr cs y)=some (.next (pb it) false (nxT (l2 0 default 0 0 0 0 default [] fun _=>undef))):=by kernel_rfl
theorem PO:au PP false (resume (l2 F dv side M1 M2 it fr cs y) (.tuple #[.bool false])) (cC fr cs U):=aM 7 (bN PP false 7 (resume (l2 F dv side M1 M2 it fr cs y) (.tuple #[.bool false]))) fun ws=>by kernel_rfl
def l2a:Goroutine:=O (resume (l2 F dv side M1 M2 it fr cs y) (.tuple #[.bool true,.string path,hv true s]))
theorem PR:au PP false (resume (l2 F dv side M1 M2 it fr cs y) (.tuple #[.bool true,.string path,hv true s])) (l2a F dv side M1 M2 it path s fr cs y):=aI fun ws=>by kernel_rfl
theorem V3:aR (l2a F dv side M1 M2 it path s fr cs y)=some (.entry (pb it)):=by kernel_rfl
def V1:Goroutine:=O (resume (l2a F dv side M1 M2 it path s fr cs y) (.tuple #[.string path,hv true s]))
theorem V2:au PP false (resume (l2a F dv side M1 M2 it path s fr cs y) (.tuple #[.string path,hv true s])) (V1 F dv side M1 M2 it path s fr cs y):=aI fun ws=>by kernel_rfl
theorem V0:aR (V1 F dv side M1 M2 it path s fr cs y)=some (.lookup TC (.map (some M1)) (.string path) false):=by kernel_rfl
theorem PN:∃tm,HL2 F dv side M1 M2 it tm/\au PP false (resume (V1 F dv side M1 M2 it path s fr cs y) (hv true s2)) (gL2 tm fr cs):=⟨(O (resume (V1 F dv side M1 M2 it path s fr cs y) (hv true s2))).frame.tmps,⟨by kernel_rfl,by kernel_rfl,by kernel_rfl,by kernel_rfl,by kernel_rfl,by kernel_rfl,by kernel_rfl⟩,aM 200 (bN PP false 200 (resume (V1 F dv side M1 M2 it path s fr cs y) (hv true s2))) fun ws=>by kernel_rfl⟩
def l2c:Goroutine:=O (resume (V1 F dv side M1 M2 it path s fr cs y) (hv false s2))
theorem VZ:au PP false (resume (V1 F dv side M1 M2 it path s fr cs y) (hv false s2)) (l2c F dv side M1 M2 it path s s2 fr cs y):=aI fun ws=>by kernel_rfl
theorem VY:aR (l2c F dv side M1 M2 it path s s2 fr cs y)=some (.build TH #[]):=by kernel_rfl
def l2F:Frame:=(On 1 (resume (l2c F dv side M1 M2 it path s s2 fr cs y) (hv false ⟨#[]⟩))).callers.head?.getD default
theorem VX:au PP false (resume (l2c F dv side M1 M2 it path s s2 fr cs y) (hv false ⟨#[]⟩)) (gP0 F side path false ⟨#[]⟩ (l2F F dv side M1 M2 it path s s2 fr cs y) (fr::cs)):=aM 1 (bN PP false 1 (resume (l2c F dv side M1 M2 it path s s2 fr cs y) (hv false ⟨#[]⟩))) fun ws=>by kernel_rfl
theorem V4:∃tm,HL2 F dv side M1 M2 it tm/\au PP false (cC (l2F F dv side M1 M2 it path s s2 fr cs y) (fr::cs) U) (gL2 tm fr cs):=⟨(O (cC (l2F F dv side M1 M2 it path s s2 fr cs y) (fr::cs) U)).frame.tmps,⟨by kernel_rfl,by kernel_rfl,by kernel_rfl,by kernel_rfl,by kernel_rfl,by kernel_rfl,by kernel_rfl⟩,aM 200 (bN PP false 200 (cC (l2F F dv side M1 M2 it path s s2 fr cs y) (fr::cs) U)) fun ws=>by kernel_rfl⟩
end
section
variable {X:Cx iI}{r:bk}{γ:Gh iI}{w w':World}
structure Now (X:Cx iI)(r:bk)(γ:Gh iI)(w:World):Prop where
 spot:yz X r γ
 low:∀b,γ.own b\/γ.ro b->b<w.heap.size
 ml:X.M<w.heap.size
 live:∃s,ShAt X w s
theorem Now.rely (h:Now X r γ w)(hr:RR X γ w w'):Now X r γ w':=
 ⟨h.spot,fun b hb=>Nat.lt_of_lt_of_le (h.low b hb) hr.size,Nat.lt_of_lt_of_le h.ml hr.size,hr.live h.live⟩
theorem Now.grow (h:Now X r γ w)(hr:RR X γ w w'){own':Nat->Prop}{m d:iI}(h1:∀b,own' b->γ.own b\/w.heap.size<=b)(h2:∀b,own' b->b<w'.heap.size):Now X r {γ with own:=own',mine:=m,other:=d} w':=by
 obtain⟨s,hs⟩:=h.live;have lf:=lt_of_some hs.1;have lw:=lt_of_some hs.2;have lm:=h.ml;refine⟨⟨h.spot.dat,h.spot.role,⟨h.spot.room.ne,fun b hb=>?_⟩,fun hb=>?_,h.spot.rm,h.spot.mf,h.spot.mw⟩,fun b hb=>?_,Nat.lt_of_lt_of_le h.ml hr.size,hr.live h.live⟩
 .rcases hb with hb|hb
  .rcases h1 b hb with hb|hb
   .exact h.spot.room.off b (.inl hb)
   .exact⟨by omega,by omega⟩
  .exact h.spot.room.off b (.inr hb)
 .rcases h1 _ hb with hb|hb
  .exact h.spot.om hb
  .omega
 .rcases hb with hb|hb
  .exact h2 b hb
  .exact Nat.lt_of_lt_of_le (h.low b (.inr hb)) hr.size
end
theorem ww {Δ:Type}{X:Cx Δ}{ro own:Nat->Prop}{Stop:(Nat->Prop)->Goroutine->World->Prop}{w:World}{g:Goroutine}{it m c:Nat}{seen:Array Nat}{es:Array MapEntry}{f:ByteArray->Option Value}{ty:TypeId}
  (h:aR g=some (.next (pb it) false ty)) (oi:own it) (om:own m) (hX:it≠X.Fd/\it≠X.Wg) (hro:¬ro it) (hit:w.heap[it]? =some (.mapIter (some m) c seen c)) (hmw:w.heap[m]? =some (.map es c)) (hm:dh es c f)
  (over:leftOf es seen=#[]->∀w',RX X ro own w w'->aD PP false (eT X false ro) Stop own (resume g (.tuple #[.bool false])) w')
  (more:∀e∈leftOf es seen,∀w',RX X ro (fun b=>own b/\b≠it) w w'->w'.heap[it]? =some (.mapIter (some m) c (seen.push e.born) c)->aD PP false (eT X false ro) Stop own (resume g (.tuple #[.bool true,e.key,e.val])) w'):
  aD PP false (eT X false ro) Stop own g w:=by
 refine aD.step (cU h).1 fun w1 h1=>?_
 rcases FO (w:=w1) (ty:=ty) (aV h1 (.inl oi) hit) (aV h1 (.inl om) hmw) hm with⟨hl,w',ev,rt,a1,a2,a3,a4,a5⟩|⟨e,he,w',ev,rt,u,a5⟩
 .obtain⟨es',e1,e2⟩:=eX (main:=false) h rt
  have hup:(eT X false ro).up own w1 w'=own:=by
   funext b
   exact propext ⟨fun h=>h.elim id fun z=>by rw[a4] at z;omega,.inl⟩
  refine⟨_,w',es',e1,⟨a1,a2,by rw[a4];exact Nat.le_refl _,by rw[a3];exact .refl _,fun b _ _=>by rw[a4],fun x hx=>?_,fun h=>absurd h (by simp)⟩,?_⟩
  .rcases(a5 x (e2 x hx)).1 with q|q
   .exact qk (.inl oi) q
   .exact qk (.inl om) q
  .rw[hup]
   exact over hl w' (h1.trans X ⟨a1,a2,by rw[a4];exact Nat.le_refl _,by rw[a3];exact .refl _,fun b _ _=>by rw[a4],fun⟨s,hs⟩=>⟨s,by rw[ShAt,a4];exact hs⟩⟩)
 .obtain⟨es',e1,e2⟩:=eX (main:=false) h rt
  have hup:(eT X false ro).up own w1 w'=own:=by
   funext b
   exact propext ⟨fun h=>h.elim id fun z=>by rw[u.size] at z;omega,.inl⟩
  refine⟨_,w',es',e1,⟨u.tape,u.output,Nat.le_of_eq u.size.symm,by rw[u.os];exact .refl _,fun b _ hb=>u.rest b fun q=>hb (q▸oi),fun x hx=>?_,fun h=>absurd h (by simp)⟩,?_⟩
  .rcases a5 x (e2 x hx) with q|q
   .exact qk (.inl oi) q
   .exact qk (.inl om) q.1
  .rw[hup]
   refine more e he w' ?_ u.at_;refine⟨u.tape.trans h1.tape,u.output.trans h1.output,Nat.le_trans h1.size (Nat.le_of_eq u.size.symm),by rw[u.os];exact h1.os,fun b hb ho=>?_,fun l=>?_⟩
   .have hne:b≠it:=fun q=>ho.elim (fun h=>h.2 q) fun h=>hro (q▸h)
    exact(u.rest b hne).trans (h1.keep b hb (ho.imp (·.1) id))
   .obtain⟨s,hs⟩:=h1.live l
    exact⟨s,(u.rest _ hX.1.symm).trans hs.1,(u.rest _ hX.2.symm).trans hs.2⟩
section
variable (gN gA:ByteArray->Option ByteArray)
open Classical in
def jG:iI:=fun s=>if gN s=gA s then none else some (match gN s with|some c=>(true,c)|none=>(false,⟨#[]⟩))
def JA (V:ByteArray->Prop)(mine:iI):Prop:=∀s,(∃c,gN s=some c/\gA s≠some c/\V s/\mine s=some (true,c))\/((gN s=none\/gA s=gN s\/¬V s)/\mine s=none)
def NW (V:ByteArray->Prop)(mine:iI):Prop:=∀s,(∃c,gN s=some c/\gA s≠some c/\mine s=some (true,c))\/(gN s=none/\gA s≠none/\V s/\mine s=some (false,⟨#[]⟩))\/((gA s=gN s\/(gN s=none/\¬V s))/\mine s=none)
variable {gN gA}{V V':ByteArray->Prop}{mine:iI}{path:ByteArray}{c:ByteArray}
theorem JA.start:JA gN gA (fun _=>False) fun _=>none:=fun _=> .inr ⟨.inr (.inr id),rfl⟩
theorem JA.put (h:JA gN gA V mine)(hV:∀s,V' s↔V s\/s=path)(h1:gN path=some c)(h2:gA path≠some c):JA gN gA V' (iA mine path (true,c)):=fun s=>by
 by_cases hs:s=path
 .subst hs
  exact .inl ⟨c,h1,h2,(hV s).2 (.inr rfl),by simp[iA]⟩
 .have e:iA mine path (true,c) s=mine s:=by simp[iA,hs]
  rw[e];have hv:V' s↔V s:=(hV s).trans ⟨fun h=>h.resolve_right hs,.inl⟩;rcases h s with⟨x,a1,a2,a3,a4⟩|⟨a1,a2⟩
  .exact .inl ⟨x,a1,a2,hv.2 a3,a4⟩
  .exact .inr ⟨a1.imp id fun a=>a.imp id fun a b=>a (hv.1 b),a2⟩
theorem JA.skip (h:JA gN gA V mine)(hV:∀s,V' s↔V s\/s=path)(h1:gA path=gN path):JA gN gA V' mine:=fun s=>by
 rcases h s with⟨x,a1,a2,a3,a4⟩|⟨a1,a2⟩
 .exact .inl ⟨x,a1,a2,(hV s).2 (.inl a3),a4⟩
 .refine .inr ⟨?_,a2⟩
  by_cases hs:s=path
  .subst hs;exact .inr (.inl h1)
  .exact a1.imp id fun a=>a.imp id fun a b=>a (((hV s).1 b).resolve_right hs)
theorem JA.done (h:JA gN gA V mine)(hV:∀s,gN s≠none->V s):NW gN gA (fun _=>False) mine:=fun s=>by
 rcases h s with⟨x,a1,a2,a3,a4⟩|⟨a1,a2⟩
 .exact .inl ⟨x,a1,a2,a4⟩
 .refine .inr (.inr ⟨?_,a2⟩)
  rcases a1 with a1|a1|a1
  .exact .inr ⟨a1,id⟩
  .exact .inl a1
  .exact .inr ⟨Classical.byContradiction fun q=>a1 (hV s q),id⟩
theorem NW.put (h:NW gN gA V mine)(hV:∀s,V' s↔V s\/s=path)(h1:gN path=none)(h2:gA path≠none):NW gN gA V' (iA mine path (false,⟨#[]⟩)):=fun s=>by
 by_cases hs:s=path
 .subst hs
  exact .inr (.inl ⟨h1,h2,(hV s).2 (.inr rfl),by simp[iA]⟩)
 .have e:iA mine path (false,⟨#[]⟩) s=mine s:=by simp[iA,hs]
  rw[e];have hv:V' s↔V s:=(hV s).trans ⟨fun h=>h.resolve_right hs,.inl⟩;rcases h s with a|⟨a1,a2,a3,a4⟩|⟨a1,a2⟩
  .exact .inl a
  .exact .inr (.inl ⟨a1,a2,hv.2 a3,a4⟩)
  .exact .inr (.inr ⟨a1.imp id fun a=>⟨a.1,fun b=>a.2 (hv.1 b)⟩,a2⟩)
theorem NW.skip (h:NW gN gA V mine)(hV:∀s,V' s↔V s\/s=path)(h1:gN path≠none):NW gN gA V' mine:=fun s=>by
 rcases h s with a|⟨a1,a2,a3,a4⟩|⟨a1,a2⟩
 .exact .inl a
 .exact .inr (.inl ⟨a1,a2,(hV s).2 (.inl a3),a4⟩)
 .refine .inr (.inr ⟨a1.imp id fun a=>⟨a.1,fun b=>?_⟩,a2⟩)
  rcases(hV s).1 b with b|b
  .exact a.2 b
  .subst b;exact h1 a.1
theorem NW.done (h:NW gN gA V mine)(hV:∀s,gA s≠none->V s):mine=jG gN gA:=by
 funext s
 unfold jG;rcases h s with⟨x,a1,a2,a4⟩|⟨a1,a2,a3,a4⟩|⟨a1,a2⟩
 .rw[if_neg (by rw[a1];exact fun q=>a2 q.symm),a1,a4]
 .rw[if_neg (by rw[a1];exact fun q=>a2 q.symm),a1,a4]
 .by_cases q:gN s=gA s
  .rw[if_pos q,a2]
  .exfalso
   rcases a1 with a1|⟨a1,a3⟩
   .exact q a1.symm
   .exact a3 (hV s fun z=>q (a1.trans z.symm))
end
section
open Go.MapKept
variable {es:Array MapEntry}{c:Nat}{f:ByteArray->Option Value}{seen:Array Nat}{e:MapEntry}{path:ByteArray}
def AT (es:Array MapEntry)(seen:Array Nat)(s:ByteArray):Prop:=∃e∈es.toList,e.key= .string s/\e.born∈seen
theorem dh.Jp (h:dh es c f){x y:MapEntry}(hx:x∈es.toList)(hy:y∈es.toList)(hk:x.born=y.born):x=y:=by
 have hp:=h.stamped.2.1;rw[List.Nodup,List.pairwise_map,List.pairwise_iff_getElem] at hp;obtain⟨i,hi,rfl⟩:=List.mem_iff_getElem.1 hx;obtain⟨j,hj,rfl⟩:=List.mem_iff_getElem.1 hy;rcases Nat.lt_trichotomy i j with hlt|rfl|hlt
 .exact absurd hk (hp i j hi hj hlt)
 .rfl
 .exact absurd hk.symm (hp j i hj hi hlt)
theorem vc (h:dh es c f)(he:e∈es.toList)(hk:e.key= .string path)(s:ByteArray):AT es (seen.push e.born) s↔AT es seen s\/s=path:=by
 constructor
 .rintro⟨x,hx,h1,h2⟩
  rcases Array.mem_push.1 h2 with h2|h2
  .exact .inl ⟨x,hx,h1,h2⟩
  .have:=h.Jp hx he h2
   subst this;rw[hk] at h1;exact .inr (by simpa using h1.symm)
 .rintro(⟨x,hx,h1,h2⟩|rfl)
  .exact⟨x,hx,h1,Array.mem_push.2 (.inl h2)⟩
  .exact⟨e,he,hk,Array.mem_push.2 (.inr rfl)⟩
theorem zC (s:ByteArray):¬AT es #[] s:=fun⟨_,_,_,h⟩=>by simp at h
theorem zD (h:dh es c f)(hl:leftOf es seen=#[]){s:ByteArray}(hs:f s≠none):AT es seen s:=by
 obtain⟨v,hv⟩:=Option.ne_none_iff_exists'.1 hs;obtain⟨x,hx,h1,_⟩:=(h.has s v).1 hv;refine⟨x,hx,h1,?_⟩;refine Classical.byContradiction fun q=>?_
 have:x∈leftOf es seen:=Array.mem_filter.2 ⟨by simpa using hx,by simpa using q⟩;rw[hl] at this;simp at this
theorem wv (he:e∈leftOf es seen):e∈es.toList:=by simpa using(Array.mem_filter.1 he).1
theorem sI (he:e∈leftOf es seen):(leftOf es (seen.push e.born)).size<(leftOf es seen).size:=by
 have h1:(leftOf es (seen.push e.born)).toList=(leftOf es seen).toList.filter fun x=>!(x.born==e.born):=by
  unfold leftOf;rw[Array.toList_filter,Array.toList_filter,List.filter_filter]
  congr 1
  funext x
  rw[Array.contains_push];cases seen.contains x.born<;>cases (x.born==e.born)<;>rfl
 rw[<-Array.length_toList,<-Array.length_toList,h1];refine List.length_filter_lt_length_iff_exists.2 ⟨e,by simpa using he,by simp⟩
end
section
variable {X:Cx iI}{r:bk}{ro O0:Nat->Prop}{w0:World}{gN gA:ByteArray->Option ByteArray}{es1 es2:Array MapEntry}{c1 c2 M1 M2:Nat}{fr:Frame}{cs:List Frame}{dv:Value}
def tK (g:ByteArray->Option ByteArray):ByteArray->Option Value:=fun s=>(g s).map (hv true)
structure Two (X:Cx iI)(r:bk)(ro O0:Nat->Prop)(w0:World)(gN gA:ByteArray->Option ByteArray)(es1 es2:Array MapEntry)(c1 c2 M1 M2:Nat)(γ:Gh iI)(w:World):Prop where
 now:Now X r γ w
 YA:γ.ro=ro
 own:∀b,O0 b->γ.own b
 old:∀b,γ.own b->O0 b\/w0.heap.size<=b
 hr:RX X ro O0 w0 w
 o1:γ.own M1
 o2:γ.own M2
 w1:w.heap[M1]? =some (.map es1 c1)
 w2:w.heap[M2]? =some (.map es2 c2)
 i1:dh es1 c1 (tK gN)
 i2:dh es2 c2 (tK gA)
variable {γ:Gh iI}{w w':World}
theorem Two.rely (h:Two X r ro O0 w0 gN gA es1 es2 c1 c2 M1 M2 γ w)(hr:RX X γ.ro γ.own w w'):Two X r ro O0 w0 gN gA es1 es2 c1 c2 M1 M2 γ w':=
 ⟨h.now.rely hr,h.YA,h.own,h.old,h.hr.trans X (by rw[h.YA] at hr;exact hr.sub h.own),h.o1,h.o2,aV hr (.inl h.o1) h.w1,aV hr (.inl h.o2) h.w2,h.i1,h.i2⟩
theorem Two.grow (h:Two X r ro O0 w0 gN gA es1 es2 c1 c2 M1 M2 γ w)(hr:RX X γ.ro γ.own w w'){own':Nat->Prop}{m d:iI}(h0:∀b,γ.own b->own' b)(h1:∀b,own' b->γ.own b\/w.heap.size<=b)(h2:∀b,own' b->b<w'.heap.size):
  Two X r ro O0 w0 gN gA es1 es2 c1 c2 M1 M2 {γ with own:=own',mine:=m,other:=d} w':=by
 have k:=h.rely hr;refine⟨h.now.grow hr h1 h2,h.YA,fun b hb=>h0 b (h.own b hb),fun b hb=>?_,k.hr,h0 _ h.o1,h0 _ h.o2,k.w1,k.w2,h.i1,h.i2⟩;rcases h1 b hb with hb|hb
 .exact h.old b hb
 .exact .inr (Nat.le_trans h.hr.size hb)
theorem Two.turn (h:Two X r ro O0 w0 gN gA es1 es2 c1 c2 M1 M2 γ w){it:Nat}(hr:RX X γ.ro (fun b=>γ.own b/\b≠it) w w')(n1:it≠M1)(n2:it≠M2)(n0:¬O0 it):Two X r ro O0 w0 gN gA es1 es2 c1 c2 M1 M2 γ w':=by
 have k:Now X r γ w':=⟨h.now.spot,fun b hb=>Nat.lt_of_lt_of_le (h.now.low b hb) hr.size,Nat.lt_of_lt_of_le h.now.ml hr.size,hr.live h.now.live⟩
 exact⟨k,h.YA,h.own,h.old,h.hr.trans X (by rw[h.YA] at hr;exact hr.sub fun b hb=>⟨h.own b hb,fun q=>n0 (q▸hb)⟩),h.o1,h.o2,aV hr (.inl ⟨h.o1,n1.symm⟩) h.w1,aV hr (.inl ⟨h.o2,n2.symm⟩) h.w2,h.i1,h.i2⟩
theorem Two.off (h:Two X r ro O0 w0 gN gA es1 es2 c1 c2 M1 M2 γ w){b:Nat}(hb:γ.own b):b≠X.Fd/\b≠X.Wg:=h.now.spot.room.off b (.inl hb)
def Done (X:Cx iI)(r:bk)(ro O0:Nat->Prop)(w0:World)(fin:iI)(fr:Frame)(cs:List Frame):Prop:=
 ∀k w' (γ:Gh iI) n,Now X r γ w'->γ.ro=ro->(∀b,O0 b->γ.own b)->(∀b,γ.own b->O0 b\/w0.heap.size<=b)->RX X ro O0 w0 w'->γ.mine=fin->LW X r γ k (at_ .out n) (cC fr cs U) w'
theorem Fz:PP.underlying TC=some (.map 9 TH):=by kernel_rfl
theorem JH:(PP.info? TH).bind (·.zero)=some (hv false ⟨#[]⟩):=by kernel_rfl
theorem abe (hD:Done X r ro O0 w0 (jG gN gA) fr cs)(L:Nat):∀(seen:Array Nat) (γ:Gh iI) (w:World) (tm:Array Value) (it n k:Nat),(leftOf es2 seen).size=L->L<=n->Two X r ro O0 w0 gN gA es1 es2 c1 c2 M1 M2 γ w->γ.own it->it≠M1->it≠M2->¬O0 it->¬γ.ro it->
  w.heap[it]? =some (.mapIter (some M2) c2 seen c2)->NW gN gA (AT es2 seen) γ.mine->HL2 X.Fd dv (bJ r) M1 M2 it tm->LW X r γ k (at_ .out n) (gL2 tm fr cs) w:=by
 induction L using Nat.strongRecOn with
 |_ L ih=>
 intro seen γ w tm it n k hL hn hT oi ne1 A1 Vv K7 hit hI hH;have hm:=hT.now.spot.worker;rw[hH.eq];refine ww (abm _ _ _ _ _ _ _ _ _) oi hT.o2 (hT.off oi) K7 hit hT.w2 hT.i2 (fun hl w1 h1=>?_) (fun e he w1 h1 yd=>?_)
 .refine aC (PO _ _ _ _ _ _ _ _ _) ?_
  have k1:=hT.rely h1;refine hD k w1 γ n k1.now hT.YA hT.own hT.old k1.hr (hI.done fun s hs=>zD hT.i2 hl (by simpa [tK] using hs))
 .have hmem:=wv he
  obtain⟨path,hk⟩:=iC (hT.i2.keys e hmem);have hval:=(hT.i2.has path e.val).2 ⟨e,hmem,hk,rfl⟩;obtain⟨s,hs,hev⟩:=Option.map_eq_some_iff.1 hval;have hless:=sI he;have hV:=fun s=>vc (seen:=seen) hT.i2 hmem hk s
  rw[hk,<-hev];have T1:=hT.turn h1 ne1 A1 Vv;clear h1;refine aC (PR _ _ _ _ _ _ _ _ _ _ _) ?_;refine cY (V3 _ _ _ _ _ _ _ _ _ _ _) (x:= .tuple #[.string path,hv true s]) (fun w2 h2=>?_) fun w2 h2=>?_
  .have:=vI (aV h2 (.inl oi) yd) (T1.rely h2).w2 hT.i2 hmem
   rw[hk,<-hev] at this;exact⟨w2,_,this,rfl,rfl,rfl,rfl,fun x hx=>by
    simp at hx;rcases hx with rfl|rfl
    .exact⟨it,dL,.inl oi⟩
    .exact⟨M2,dL,.inl hT.o2⟩⟩
  have T2:=T1.rely h2;have hit2:=aV h2 (.inl oi) yd;refine aC (V2 _ _ _ _ _ _ _ _ _ _ _) ?_;refine cY (V0 _ _ _ _ _ _ _ _ _ _ _) (x:=(tK gN path).getD (hv false ⟨#[]⟩)) (fun w3 h3=>?_) fun w3 h3=>?_
  .exact⟨w3,_,oJ (t:=TC) Fz JU JH (T2.rely h3).w1 hT.i1,rfl,rfl,rfl,rfl,fun x hx=>by
    simp at hx;subst hx;exact⟨M1,dL,.inl hT.o1⟩⟩
  have T3:=T2.rely h3;have hit3:=aV h3 (.inl oi) hit2;clear h2 h3 yd hit2 T1 T2;have hLe:(leftOf es2 (seen.push e.born)).size<L:=hL▸hless;have hA:gA path≠none:=by rw[hs];simp
  cases hN:gN path with
  |some s2=>
   have ex:(tK gN path).getD (hv false ⟨#[]⟩)=hv true s2:=by simp[tK,hN]
   rw[ex];obtain⟨tm',IR,hg⟩:=PN X.Fd dv (bJ r) M1 M2 it path s s2 fr cs fun i=>tm.getD i undef
   exact aC hg (ih _ hLe (seen.push e.born) γ w3 tm' it n k rfl (by omega) T3 oi ne1 A1 Vv K7 hit3 (hI.skip hV (by rw[hN];simp)) IR)
  |none=>
   have ex:(tK gN path).getD (hv false ⟨#[]⟩)=hv false ⟨#[]⟩:=by simp[tK,hN]
   rw[ex];refine aC (VZ _ _ _ _ _ _ _ _ _ _ _ _) ?_;refine cY (VY _ _ _ _ _ _ _ _ _ _ _ _) (x:=hv false ⟨#[]⟩) (fun w4 h4=>⟨w4,#[],.of0 fun es=>by kernel_rfl,rfl,rfl,rfl,rfl,by simp⟩) fun w4 h4=>?_
   have T4:=T3.rely h4;have P9:=aV h4 (.inl oi) hit3;refine aC (VX _ _ _ _ _ _ _ _ _ _ _ _) ?_;obtain⟨n',rfl⟩:∃n',n=n'+1:=⟨n-1,by omega⟩
   refine Cg T4.now.spot T4.now.low T4.now.ml T4.now.live (fun k' w5 own' d a1 a2 a4 a3=>?_) k;obtain⟨tm',IR,hg⟩:=V4 X.Fd dv (bJ r) M1 M2 it path s ⟨#[]⟩ fr cs fun i=>tm.getD i undef
   exact aC hg (ih _ hLe (seen.push e.born) {γ with own:=own',mine:=iA γ.mine path (false,⟨#[]⟩),other:=d} w5 tm' it n' k' rfl (by omega) (T4.grow a3 a1 a2 a4) (a1 _ oi) ne1 A1 Vv K7 (aV a3 (.inl oi) P9) (hI.put hV hN hA) IR)
theorem Two.more (h:Two X r ro O0 w0 gN gA es1 es2 c1 c2 M1 M2 γ w){B:Nat}{o:Obj}(hr:RX X γ.ro γ.own w w')(hB:w.heap.size<=B)(hw:w'.heap[B]? =some o):Two X r ro O0 w0 gN gA es1 es2 c1 c2 M1 M2 {γ with own:=fun b=>γ.own b\/b=B} w':=
 h.grow hr (m:=γ.mine) (d:=γ.other) (fun b hb=> .inl hb) (fun b hb=>Or.imp id (fun e:b=B=>by rw[e];exact hB) hb) (fun b hb=>by
  rcases hb with hb|rfl
  .exact Nat.lt_of_lt_of_le (h.now.low b (.inl hb)) hr.size
  .exact lt_of_some hw)
theorem Two.fresh (h:Two X r ro O0 w0 gN gA es1 es2 c1 c2 M1 M2 γ w){B:Nat}(hB:w.heap.size<=B):B≠M1/\B≠M2/\¬γ.own B/\¬γ.ro B/\(B≠X.Fd/\B≠X.Wg)/\(w0.heap.size<=w.heap.size):=by
 obtain⟨s,hs⟩:=h.now.live;exact⟨fun e=>by have:=lt_of_some h.w1;omega,fun e=>by have:=lt_of_some h.w2;omega,fun e=>by have:=h.now.low B (.inl e);omega,fun e=>by have:=h.now.low B (.inr e);omega,⟨fun e=>by have:=lt_of_some hs.1;omega,fun e=>by have:=lt_of_some hs.2;omega⟩,h.hr.size⟩
theorem abf (Sj:∀b,O0 b->b<w0.heap.size)(hD:Done X r ro O0 w0 (jG gN gA) fr cs)(L:Nat):∀(seen:Array Nat) (γ:Gh iI) (w:World) (tm:Array Value) (it n k:Nat),(leftOf es1 seen).size=L->L+es2.size<=n->Two X r ro O0 w0 gN gA es1 es2 c1 c2 M1 M2 γ w->γ.own it->it≠M1->it≠M2->¬O0 it->¬γ.ro it->
  w.heap[it]? =some (.mapIter (some M1) c1 seen c1)->JA gN gA (AT es1 seen) γ.mine->Rn X.Fd dv (bJ r) M1 M2 it tm->LW X r γ k (at_ .out n) (gL1 tm fr cs) w:=by
 induction L using Nat.strongRecOn with
 |_ L ih=>
 intro seen γ w tm it n k hL hn hT oi ne1 A1 Vv K7 hit hI hH;have hm:=hT.now.spot.worker;rw[hH.eq];refine ww (abo _ _ _ _ _ _ _ _ _) oi hT.o1 (hT.off oi) K7 hit hT.w1 hT.i1 (fun hl w1 h1=>?_) (fun e he w1 h1 yd=>?_)
 .refine aC (PT _ _ _ _ _ _ _ _ _) ?_
  have T1:=hT.rely h1;refine fX (f:=fun b=>pb b) (V5 _ _ _ _ _ _ _ _ _) (fun w2 h2=>⟨_,vG Fz (T1.rely h2).w2,fun x hx=>by simp at hx;subst hx;exact⟨M2,dL,.inl hT.o2⟩⟩) fun w2 B h2 hB hw2=>?_
  obtain⟨f1,f2,f3,f4,f5,f6⟩:=T1.fresh hB;have T2:=T1.more h2 hB hw2;obtain⟨tm',IR,hg⟩:=V6 X.Fd dv (bJ r) M1 M2 it B fr cs fun i=>tm.getD i undef
  have hl2:(leftOf es2 #[]).size=es2.size:=by
   have:leftOf es2 #[]=es2:=by unfold leftOf;rw[Array.filter_eq_self];simp
   rw[this]
  have e2:AT es2 #[]=fun _=>False:=funext fun s=>propext ⟨zC s,False.elim⟩
  exact aC hg (abe hD _ #[] {γ with own:=fun b=>γ.own b\/b=B} w2 tm' B n k rfl (by rw[hl2];omega) T2 (.inr rfl) f1 f2 (fun q=>by have:=Sj B q;omega) f4 hw2 (by
   rw[e2];exact hI.done fun s hs=>zD hT.i1 hl (by simpa [tK] using hs)) IR)
 .have hmem:=wv he
  obtain⟨path,hk⟩:=iC (hT.i1.keys e hmem);have hval:=(hT.i1.has path e.val).2 ⟨e,hmem,hk,rfl⟩;obtain⟨s,hs,hev⟩:=Option.map_eq_some_iff.1 hval;have hless:=sI he;have hV:=fun s=>vc (seen:=seen) hT.i1 hmem hk s
  rw[hk,<-hev];have T1:=hT.turn h1 ne1 A1 Vv;clear h1;refine aC (PU _ _ _ _ _ _ _ _ _ _ _) ?_;refine cY (Wm _ _ _ _ _ _ _ _ _ _ _) (x:= .tuple #[.string path,hv true s]) (fun w2 h2=>?_) fun w2 h2=>?_
  .have:=vI (aV h2 (.inl oi) yd) (T1.rely h2).w1 hT.i1 hmem
   rw[hk,<-hev] at this;exact⟨w2,_,this,rfl,rfl,rfl,rfl,fun x hx=>by
    simp at hx;rcases hx with rfl|rfl
    .exact⟨it,dL,.inl oi⟩
    .exact⟨M1,dL,.inl hT.o1⟩⟩
  have T2:=T1.rely h2;have hit2:=aV h2 (.inl oi) yd;refine aC (Wl _ _ _ _ _ _ _ _ _ _ _) ?_;refine fX (f:=fun b=>pb b) (Wk _ _ _ _ _ _ _ _ _ _ _) (fun w3 h3=>⟨#[],lX JH,by simp⟩) fun w3 B9 h3 hB9 w93=>?_
  obtain⟨f1,f2,f3,f4,f5,f6⟩:=T2.fresh hB9;have n9i:B9≠it:=fun q=>f3 (q▸oi)
  have T3:=T2.more h3 hB9 w93;have hit3:w3.heap[it]? =_:=aV h3 (.inl oi) hit2;have aj0:=T2.hr.size;clear h2 h3 yd hit2 T1 T2;have o9:(fun b=>γ.own b\/b=B9) B9:= .inr rfl;refine aC (Wj _ _ _ _ _ _ _ _ B9 _ _ _) ?_
  refine jo (b:=B9) (A:=fun o x=>x=undef/\o= .cells #[.bool true,.string s] TH (0,0)) o9 f5 (Wh _ _ _ _ _ _ _ _ _ _ _ _) (fun w4 h4=>?_) (fun w4 o x _ w94 ha h4=>?_) f4
  .obtain⟨w',ev,r1,r2,r3⟩:=fE (t:=TH) (off:=0) (v:=hv true s) (aV h4 (.inl o9) w93) Gd (by simp[hv,Value.cells]) (by simp[hv,Value.cells,kS])
   exact⟨undef,_,w',ev,.inr ⟨r1,rfl⟩,r2,⟨rfl,rfl⟩,fun e he=>⟨B9,r3 e he,.inl o9⟩⟩
  obtain⟨rfl,rfl⟩:=ha;have T4:=T3.turn h4 f1 f2 (fun q=>by have:=Sj B9 q;omega);have P9:=aV h4 (.inl ⟨.inl oi,n9i.symm⟩) hit3;clear h4 T3 hit3 w93;refine aC (Wi _ _ _ _ _ _ _ _ _ _ _ _) ?_
  have ld:∀{w5 w6:World},w5.heap[B9]? =some (.cells #[.bool true,.string s] TH (0,0))->RX X γ.ro (fun b=>γ.own b\/b=B9) w5 w6->∃w' ev,RT (kP.load TH (pb B9)).sem w6 (.value (hv true s)) w' ev/\w'.tape=w6.tape/\w'.output=w6.output/\w'.os=w6.os/\w'.heap=w6.heap/\∀e∈ev,∃b,EvB b e/\((γ.own b\/b=B9)\/(γ.ro b/\e.write=false)):=by
   intro w5 w6 a b;obtain⟨ev,r1,r2⟩:=jC (t:=TH) (off:=0) (n:=2) (aV b (.inl o9) a) adk Gd (by simp);exact⟨w6,ev,r1,rfl,rfl,rfl,rfl,fun e he=>⟨B9,(r2 e he).1,.inl o9⟩⟩
  refine cY (We _ _ _ _ _ _ _ _ _ _ _ _) (x:=hv true s) (fun w5 h5=>ld w94 h5) fun w5 h5=>?_
  have T5:=T4.rely h5;have abT:=aV h5 (.inl (.inl oi)) P9;have w95:=aV h5 (.inl o9) w94;clear h5 T4 P9 w94;refine aC (Wf _ _ _ _ _ _ _ _ _ _ _ _) ?_;have hx:∃b2 s2,(tK gA path).getD (hv false ⟨#[]⟩)=hv b2 s2/\((true==b2&&s==s2)=true↔gA path=some s):=by
   cases hA:gA path with
   |none=>exact⟨false,⟨#[]⟩,by simp[tK,hA],by simp⟩
   |some s2=>exact⟨true,s2,by simp[tK,hA],by
     simp only[beq_self_eq_true,Bool.true_and,Go.MapKept.bytes_beq,Option.some.injEq];exact eq_comm⟩
  obtain⟨b2,s2,hx1,hx2⟩:=hx;refine cY (Wc _ _ _ _ _ _ _ _ _ _ _ _) (x:=hv b2 s2) (fun w6 h6=>?_) fun w6 h6=>?_
  .have:=oJ (t:=TC) (s:=path) Fz JU JH (T5.rely h6).w2 hT.i2
   rw[hx1] at this;exact⟨w6,_,this,rfl,rfl,rfl,rfl,fun x hx=>by
    simp at hx;subst hx;exact⟨M2,dL,.inl (.inl hT.o2)⟩⟩
  have T6:=T5.rely h6;have abS:=aV h6 (.inl (.inl oi)) abT;have w96:=aV h6 (.inl o9) w95;clear h6 T5 abT w95;refine aC (Wd _ _ _ _ _ _ _ _ _ _ _ _ _ _) ?_;refine cY (Wa _ _ _ _ _ _ _ _ _ _ _ _ _ _) (x:= .bool (!(true==b2&&s==s2))) (fun w7 h7=>⟨w7,#[],FP _ _ _ _,rfl,rfl,rfl,rfl,by simp⟩) fun w7 h7=>?_
  have T7:=T6.rely h7;have abR:=aV h7 (.inl (.inl oi)) abS;have w97:=aV h7 (.inl o9) w96;clear h7 T6 abS w96;have hLe:(leftOf es1 (seen.push e.born)).size<L:=hL▸hless
  by_cases heq:(true==b2&&s==s2)=true
  .rw[heq]
   obtain⟨tm',IR,hg⟩:=V9 X.Fd dv (bJ r) M1 M2 it path s s2 b2 B9 fr cs fun i=>tm.getD i undef
   exact aC hg (ih _ hLe (seen.push e.born) {γ with own:=fun b=>γ.own b\/b=B9} w7 tm' it n k rfl (by omega) T7 (.inl oi) ne1 A1 Vv K7 abR (hI.skip hV (by rw[hx2.1 heq,hs])) IR)
  .have heq':(true==b2&&s==s2)=false:=by simpa using heq
   rw[heq'];refine aC (PS _ _ _ _ _ _ _ _ _ _ _ _ _ _) ?_;refine cY (V7 _ _ _ _ _ _ _ _ _ _ _ _ _ _) (x:=hv true s) (fun w8 h8=>ld w97 h8) fun w8 h8=>?_
   have T8:=T7.rely h8;have agv:=aV h8 (.inl (.inl oi)) abR;refine aC (V8 _ _ _ _ _ _ _ _ _ _ _ _ _ _) ?_;obtain⟨n',rfl⟩:∃n',n=n'+1:=⟨n-1,by omega⟩
   refine Cg (γ:={γ with own:=fun b=>γ.own b\/b=B9}) T8.now.spot T8.now.low T8.now.ml T8.now.live (fun k' w9 own' d a1 a2 a4 a3=>?_) k;obtain⟨tm',IR,hg⟩:=Wn X.Fd dv (bJ r) M1 M2 it path s s2 b2 B9 fr cs fun i=>tm.getD i undef
   exact aC hg (ih _ hLe (seen.push e.born) {γ with own:=own',mine:=iA γ.mine path (true,s),other:=d} w9 tm' it n' k' rfl (by omega) (T8.grow a3 a1 a2 a4) (a1 _ (.inl oi)) ne1 A1 Vv K7 (aV a3 (.inl (.inl oi)) agv) (hI.put hV hs fun q=>heq (hx2.2 q)) IR)
end
end aH
end
section
open Go.RowKit Go.Lib
def pO (set:Int)(fs:List cV):ByteArray->Option ByteArray:=fs.foldl (fun g f=>if(f.set:Int)=set then fun s=>if s=aB f.path then some (aB f.content) else g s else g) fun _=>none
theorem LU (set:Int)(fs:List cV)(k:Nat)(hk:k<fs.length):pO set (fs.take (k+1))=if(fs[k].set:Int)=set then fun s=>if s=aB fs[k].path then some (aB fs[k].content) else pO set (fs.take k) s else pO set (fs.take k):=by
 unfold pO;rw[List.take_succ_eq_append_getElem hk,List.foldl_append];rfl
theorem P3 (g:ByteArray->Option ByteArray)(p c:ByteArray):aH.tK (fun s=>if s=p then some c else g s)=fun s=>if s=p then some (aH.hv true c) else aH.tK g s:=by
 funext s
 unfold aH.tK
 by_cases h:s=p
 .simp[h]
 .simp[h]
theorem SU:Tryz.prog.underlying 251=some (.map 9 161):=by kernel_rfl
theorem aff:Tryz.prog.underlying 9=some .string:=by kernel_rfl
section
variable {P:Program}{ops:Array Oper}{Q:Exit->Act->World->Prop}{o:Oper}{rest:List Oper}{a:Act}{w:World}
theorem zI {t:TypeId}(_:o.op= .makeMap t none)(h:al (wpList P ops Q (o::rest) a w)):wpList P ops Q (o::rest) a w:=h
theorem vk {t:TypeId}{x y z:Operand}(_:o.op= .mapUpdate t x y z)(h:al (wpList P ops Q (o::rest) a w)):wpList P ops Q (o::rest) a w:=h
end
theorem DG {P:Program}{ops:Array Oper}{Q:Exit->Act->World->Prop}{a:Act}{w:World}{rest:List Oper}{o:Oper}(hg:o.guard=none)(t:TypeId)(ho:o.op= .makeMap t none)
  (h:∀w' b,w.heap.size<=b->aO [] w w'->w'.heap[b]? =some (.map #[] 0)->wpList P ops Q rest (a.put o.dst (.map (some b))) w'):wpList P ops Q (o::rest) a w:=by
 refine cM hg (.map (some w.heap.size)) (w.alloc (.map #[] 0)) (by unfold execOp;rw[ho];rfl) (h _ _ (Nat.le_refl _) (aO.alloc _ _ _) ?_);show(w.heap.push _)[w.heap.size]? =_;simp
theorem aO.upd {m:Nat}{o:Obj}{w w':World}(h:aH.yy m o w w'):aO [m] w w':=⟨h.os,h.tape,h.output,by rw[h.size];exact Nat.le_refl _,fun k _ hk=>h.rest k (by simpa using hk)⟩
theorem zB {ops:Array Oper}{Q:Exit->Act->World->Prop}{a:Act}{w:World}{rest:List Oper}{o:Oper}(hg:o.guard=none)(x y z:Operand)(ho:o.op= .mapUpdate 251 x y z){m:Nat}{p:ByteArray}{v:Value}
  (hx:a.eval x= .map (some m)) (hy:a.eval y= .string p) (hz:a.eval z=v) {es:Array MapEntry} {c:Nat} {f:ByteArray->Option Value} (hm:w.heap[m]? =some (.map es c)) (hf:aH.dh es c f)
  (h:∀w' es' c',aO [m] w w'->w'.heap[m]? =some (.map es' c')->aH.dh es' c' (fun s=>if s=p then some v else f s)->es'.size<=es.size+1->wpList Tryz.prog ops Q rest (a.put o.dst undef) w'):wpList Tryz.prog ops Q (o::rest) a w:=by
 obtain⟨es',c',w',ev,h1,h2,_,h3,h4⟩:=aH.pB (v:=v) SU aff hm hf;refine uw hg w' ?_ (h w' es' c' (aO.upd h2) h2.at_ h4 h3);have:=h1.run;unfold execOp;rw[ho];dsimp only;rw[hx,hy,hz];exact this
def xk (set:Int)(x:DS)(n:Nat)(w:World)(e:Ending)(w':World):Prop:=∃m es c,e= .returned (.map (some m))/\w.heap.size<=m/\w'.heap[m]? =some (.map es c)/\aH.dh es c (aH.tK (pO set (aP x n)))/\es.size<=54/\aO [] w w'
theorem yo {D:World->Prop}{d n:Nat}{x:DS}(R:NU D d n x)(set:Int)(w:World)(h:D w):
  ∃cd,Tryz.f166.body=some cd/\cd.wp Tryz.prog (bodyPost Tryz.prog Tryz.f166 (xk set x n w)) {tmps:=#[.pointer (some ⟨d,0,none⟩),.int .i64 set]++Array.replicate (Tryz.f166.ntmps-(#[.pointer (some ⟨d,0,none⟩),.int .i64 set]:Array Value).size) undef,defers:=[]} w:=by
 refine⟨_,rfl,?_⟩;simp only[Tryz.ntmps166,List.size_toArray,List.length_cons,List.length_nil,Nat.reduceAdd,Nat.reduceSub,Array.replicate_succ,
   Array.replicate_zero,List.push_toArray,List.append_toArray,List.nil_append,List.cons_append]
 have hfl:(aP x n).length<=54:=by unfold aP;rw[List.length_map];exact iz x n
 have hfp:Hid (∀f∈aP x n,f.set<256):=fun f hf=>by
  unfold aP at hf;rw[List.mem_map] at hf;obtain⟨i,_,rfl⟩:=hf;exact Ie _
 go_wp2_with (with_reducible first|refine zI rfl ?_);refine al.go (DG rfl 251 rfl ?_);intro w1 m l1 f1 r1;go_wp2_with fail;have h1:=R.new h f1 (by simp);refine(Nv R w1 h1).mono ?_;rintro e w2 ⟨v,rfl,hv,f2⟩;have r2:w2.heap[m]? =some (.map #[] 0):=by rw[f2.block m (Array.getElem?_eq_some_iff.1 r1).1 (by simp)];exact r1
 have f12:=f1.trans f2;have ml1:m<w1.heap.size:=(Array.getElem?_eq_some_iff.1 r1).1;have tK:∀k∈[m],v.ownBlock≠some k:=fun k hk e=>by
  simp only[List.mem_singleton] at hk;subst hk;have:=(hv.lt _ e).1;omega
 clear f1 f2 r1 h1;generalize hfs:aP x n=fs at*;have HF:Hid (aP x n=fs):=hfs;clear hfs;obtain⟨ad,cap,hv'⟩:=ci hv;subst hv';have tK:Hid (∀k∈[m],(Value.slice ad fs.length cap).ownBlock≠some k):=tK;have ml:m<w2.heap.size:=(Array.getElem?_eq_some_iff.1 r2).1;go_wp2_with fail
 go_loopw [12] (fun c wr=>∃(k:Nat) (es:Array MapEntry) (cn:Nat),c= .int .i64 k/\k<=fs.length/\aO [m] w2 wr/\wr.heap[m]? =some (.map es cn)/\Hid (aH.dh es cn (aH.tK (pO set (fs.take k)))/\es.size<=k)) (fun c _=>fs.length-(intOf c).toNat)
 case atStart=>exact⟨0,#[],0,rfl,by omega,aO.refl _ _,r2,aH.dh.empty 0,by simp⟩
 case round=>
  obtain⟨k,es,cn,rfl,hk,fk,rm,HM⟩:=hrel;clear r2;have hvk:=fk.owns hv tK.out
  by_cases hlt:k<fs.length
  .obtain⟨g,cur,rfl,hg,hle,_,hcs,htk⟩:=eQ hvk
   have hat:((cur.toList.drop (k*3)).take 3)=bV fs[k].set fs[k].path fs[k].content:=by
    rw[cu htk _ _,wP fs k hlt]
   have hT:=LU set fs k hlt;have hfk:=hfp.out fs[k] (List.getElem_mem hlt);generalize fs[k]=f at hat hT hfk;have HT:Hid (pO set (fs.take (k+1))=if(f.set:Int)=set then fun s=>if s=aB f.path then some (aB f.content) else pO set (fs.take k) s else pO set (fs.take k)):=hT;clear hT hcs htk
   go_wp2_with (with_reducible first|refine av 107 rfl ?_|refine ay rfl ?_|refine af 107 rfl ?_);refine al.go (bX rfl 107 _ rfl g (k*3) rfl ku 3 eG _ _ hg (bV f.set f.path f.content) hat rfl ?_);clear hat hg;go_wp2_with (with_reducible first|refine ay rfl ?_|refine af 107 rfl ?_)
   refine al.go (bm rfl 107 rfl yE lS ?_);intro w4 b5 l5 f4 r5;have ne5:b5≠m:=by have:=fk.size;omega
   have rm4:w4.heap[m]? =some (.map es cn):=by rw[f4.block m (Array.getElem?_eq_some_iff.1 rm).1 (by simp)];exact rm
   go_wp2_with (with_reducible first|refine ay rfl ?_|refine af 107 rfl ?_);refine al.go (bQ rfl 107 _ _ rfl _ 0 rfl _ rfl 3 eG ?_ ?_ _ _ r5 ?_ ?_)
   .rfl
   .simp[bV,Value.oneCell']
   .decide
   intro w5 f5 q5;rw[bL _ _ (by rfl)] at q5;have m9:Row w5 b5 (bV f.set f.path f.content).toArray 107:=q5;have rm5:w5.heap[m]? =some (.map es cn):=by rw[f5.block m (Array.getElem?_eq_some_iff.1 rm4).1 (by simpa using ne5.symm)];exact rm4
   have f45:=f4.trans f5 (by simpa using l5);have mh:=fk.trans f45;have c0:w5.cell? ⟨b5,0,none⟩=some (.int .i64 f.set):=by rw[m9.cell];rfl
   have c1:w5.cell? ⟨b5,1,none⟩=some (.string (aB f.path)):=by rw[m9.cell];rfl
   have c2:w5.cell? ⟨b5,2,none⟩=some (.string (aB f.content)):=by rw[m9.cell];rfl
   clear q5 r5 f4 f5 f45 fk l5 hvk rm rm4 m9;go_wp2_with (with_reducible first|refine vk rfl ?_)
   .refine al.go (zB rfl _ _ _ rfl rfl rfl rfl rm5 HM.out.1 ?_)
    intro w6 es6 c6 f6 rm6 hm6 hs6;have Gw:=mh.trans f6;go_wp2_with fail;refine⟨⟨k+1,es6,c6,by simp,by omega,Gw,rm6,?_,?_⟩,by simp[intOf];omega⟩
    .rw[HT.out,if_pos (by simpa using(‹((f.set:Int)==set)=true›)),P3]
     exact hm6
    .have:=HM.out.2;omega
   .refine⟨⟨k+1,es,cn,by simp,by omega,mh,rm5,?_,?_⟩,by simp[intOf];omega⟩
    .rw[HT.out,if_neg (by simpa using(‹((f.set:Int)==set)=false›))]
     exact HM.out.1
    .have:=HM.out.2;omega
  .obtain rfl:k=fs.length:=by omega
   go_wp2_with fail;go_ret;exact⟨m,es,cn,rfl,l1,rm,by rw[HF.out];rw[List.take_length] at HM;exact HM.out.1,by have:=HM.out.2;omega,(f12.trans fk (by simp;omega)).mono⟩
end
section
open Go.Conc
open Go.ConcM (OsLater)
namespace aH
section
variable {X:Cx iI}{r:bk}{ro:Nat->Prop}{gN gA:ByteArray->Option ByteArray}{dv:Value}{K:Nat}{Rd:World->Prop}
def Cont (X:Cx iI)(r:bk)(ro:Nat->Prop)(Rd:World->Prop)(dv:Value)(set:Int)(g:ByteArray->Option ByteArray)(K:Nat):Prop:=
 ∀(γ:Gh iI) (k:Nat) (T:Lo) (w:World) (fr:Frame) (cs:List Frame),eD T.pc=false->Now X r γ w->γ.ro=ro->Rd w->
  (∀w' m es c (own':Nat->Prop),(∀b,γ.own b->own' b)->(∀b,own' b->γ.own b\/w.heap.size<=b)->(∀b,own' b->b<w'.heap.size)->RX X γ.ro γ.own w w'->own' m->¬γ.own m->w'.heap[m]? =some (.map es c)->dh es c (tK g)->es.size<=K->
   LW X r {γ with own:=own'} k T (cC fr cs (.map (some m))) w')->LW X r γ k T (gC0 dv set fr cs) w
theorem Iw (hRd:∀w w' own,Rd w->RX X ro own w w'->Rd w')(h1:Cont X r ro Rd dv (bJ r:Int) gN K)(h2:Cont X r ro Rd dv 2 gA K){γ:Gh iI}{w:World}{fr:Frame}{cs:List Frame}{n k:Nat}(hn:2*K<=n)(hT:Now X r γ w)(hro:γ.ro=ro)(hw:Rd w)
  (h0:γ.mine=fun _=>none) (hD:Done X r ro γ.own w (jG gN gA) fr cs):LW X r γ k (at_ .out n) (YS X.Fd dv (bJ r:Int) fr cs) w:=by
 refine aC (Xz _ _ _ _ _) (h1 γ k _ w _ _ rfl hT hro hw fun w1 M1 es1 c1 x4 a1 a2 a3 a4 o1 no1 hw1 i1 s1=>?_);have T1:Now X r {γ with own:=x4} w1:=hT.grow a4 (m:=γ.mine) (d:=γ.other) a2 a3;have R1:Rd w1:=hRd w w1 γ.own hw (hro▸a4);refine aC (Xy _ _ _ _ _ _) (h2 {γ with own:=x4} k _ w1 _ _ rfl T1 hro R1 fun w2 M2 es2 c2 Vi b1 b2 b3 b4 o2 no2 hw2 i2 s2=>?_)
 have T2:Now X r {γ with own:=Vi} w2:=T1.grow b4 (m:=γ.mine) (d:=γ.other) b2 b3;have H2:RX X ro γ.own w w2:=by
  have a4':RX X ro γ.own w w1:=hro▸a4;have b4':RX X ro x4 w1 w2:=hro▸b4;exact a4'.trans X (b4'.sub a1)
 have two:Two X r ro γ.own w gN gA es1 es2 c1 c2 M1 M2 {γ with own:=Vi} w2:=by
  refine⟨T2,hro,fun b hb=>b1 b (a1 b hb),fun b hb=>?_,H2,b1 _ o1,o2,aV b4 (.inl o1) hw1,hw2,i1,i2⟩;rcases b2 b hb with hb|hb
  .exact a2 b hb
  .exact .inr (Nat.le_trans a4.size hb)
 refine aC (Xx _ _ _ _ _ _ _) ?_;refine fX (f:=fun b=>pb b) (Xv _ _ _ _ _ _ _) (fun w3 h3=>⟨_,vG Fz (two.rely h3).w1,fun x hx=>by simp at hx;subst hx;exact⟨M1,dL,.inl (b1 _ o1)⟩⟩) fun w3 B h3 hB hw3=>?_
 obtain⟨f1,f2,f3,f4,f5,f6⟩:=two.fresh hB;have T3:=two.more h3 hB hw3;obtain⟨tm',IR,hg⟩:=Xw X.Fd dv (bJ r) M1 M2 B fr cs (.map (some M1)) rfl;have hl1:leftOf es1 #[]=es1:=by unfold leftOf;rw[Array.filter_eq_self];simp
 have e1:AT es1 #[]=fun _=>False:=funext fun s=>propext ⟨zC s,False.elim⟩
 exact aC hg (abf (fun b hb=>hT.low b (.inl hb)) hD _ #[] {γ with own:=fun b=>Vi b\/b=B} w3 tm' B n k rfl (by rw[hl1];omega) T3 (.inr rfl) f1 f2 (fun q=>by have:=hT.low B (.inl q);omega) f4 hw3 (by
  rw[e1];show JA gN gA _ γ.mine;rw[h0];exact JA.start) IR)
theorem sY (hRd:∀w w' own,Rd w->RX X ro own w w'->Rd w')(h1:Cont X r ro Rd dv (bJ r:Int) gN K)(h2:Cont X r ro Rd dv 2 gA K){γ:Gh iI}{w:World}{n k bw bf bd bs:Nat}(hn:2*K<=n)(hT:Now X r γ w)(hro:γ.ro=ro)(hw:Rd w)
  (h0:γ.mine=fun _=>none) (hfin:X.fin r=jG gN gA) (rw_:ro bw) (rf:ro bf) (rd:ro bd) (rs:ro bs) (cw:w.cell? ⟨bw,0,none⟩=some (pb X.Wg)) (cf:w.cell? ⟨bf,0,none⟩=some (pK X.Fd bd bs)) (cd:w.cell? ⟨bd,0,none⟩=some dv) (cs:w.cell? ⟨bs,0,none⟩=some (.int .i64 (bJ r:Int))):
  LW X r γ k (at_ .out n) (YQ bw bf) w:=by
 subst hro;refine N0 rfl rf rd rs cf cd cs (Iw hRd h1 h2 hn hT rfl hw h0 fun k' w' γ' n' t1 t2 t3 t4 t5 t6=>?_);have hlt:bw<w.heap.size:=hT.low bw (.inr rw_);have cw':w'.cell? ⟨bw,0,none⟩=some (pb X.Wg):=by
  unfold World.cell? at cw⊢;rw[t5.keep bw hlt (.inr rw_)];exact cw
 exact JM t1.spot.worker t1.spot.room t1.live (t2▸rw_) cw' (t6.trans hfin.symm)
end
def OT (g:Goroutine):Goroutine:=Ag PP true 200 g
def OTn (n:Nat)(g:Goroutine):Goroutine:=Ag PP true n g
theorem bq {g:Goroutine}(h:∀ws:Nat->World,xK PP true 200 g ws=some (OT g,(List.range (bN PP true 200 g)).map ws)):au PP true g (OT g):=⟨200,_,h⟩
theorem bI {g g':Goroutine}(n m:Nat)(h:∀ws:Nat->World,xK PP true n g ws=some (g',(List.range m).map ws)):au PP true g g':=⟨n,m,h⟩
abbrev JG:TypeId:=219
abbrev TWg:TypeId:=225
def fd0 (M:Nat):Value:= .agg #[.int .i32 0,.int .u32 0,.map (some M)]
section
variable (W F bw bf bd bs bs' M:Nat)(dv f:Value)(fr:Frame)(cs:List Frame)(x:Int)(y:Nat->Value)
def UT:Goroutine:=LV 162 #[pb W,.int .i64 1] 115 fr cs
def Yz:Goroutine:=OT (UT W fr cs)
theorem Kx:au PP true (UT W fr cs) (Yz W fr cs):=bq fun ws=>by kernel_rfl
theorem uC:aF (Yz W fr cs)=some (168,#[]):=by kernel_rfl
def sA2:Goroutine:=OT (resume (Yz W fr cs) U)
theorem Kw:au PP true (resume (Yz W fr cs) U) (sA2 W fr cs):=bq fun ws=>by kernel_rfl
theorem FL:aF (sA2 W fr cs)=some (176,#[]):=by kernel_rfl
def Yy:Goroutine:=OT (resume (sA2 W fr cs) (.bool false))
theorem Kv:au PP true (resume (sA2 W fr cs) (.bool false)) (Yy W fr cs):=bq fun ws=>by kernel_rfl
theorem uB:aF (Yy W fr cs)=some (213,#[pb W,.int .u64 4294967296]):=by kernel_rfl
def NP:Goroutine:=OT (resume (Yy W fr cs) (.int .u64 4294967296))
theorem Ku:au PP true (resume (Yy W fr cs) (.int .u64 4294967296)) (NP W fr cs):=bq fun ws=>by kernel_rfl
theorem Kt:aR (NP W fr cs)=some (.conv (yn (NP 0 default [])) (zt (NP 0 default [])) (pE W)):=by kernel_rfl
theorem RP:PP.underlying (yn (NP 0 default []))=some (.pointer (zr (NP 0 default []))):=by kernel_rfl
theorem RQ:PP.underlying (zt (NP 0 default []))=some .unsafePointer:=by kernel_rfl
theorem RM:(PP.info? (zr (NP 0 default []))).map (fun i=>decide (i.size=0))=some false:=by kernel_rfl
def Yx:Goroutine:=OT (resume (NP W fr cs) (pE W))
theorem Ks:au PP true (resume (NP W fr cs) (pE W)) (Yx W fr cs):=bq fun ws=>by kernel_rfl
theorem z5:aF (Yx W fr cs)=some (198,#[pE W]):=by kernel_rfl
def sA6:Goroutine:=OT (resume (Yx W fr cs) U)
theorem Kr:au PP true (resume (Yx W fr cs) U) (sA6 W fr cs):=bq fun ws=>by kernel_rfl
theorem Kq:ie (sA6 W fr cs)=some (170,#[]):=by kernel_rfl
theorem FK:au PP true (cX (sA6 W fr cs)) (cC fr cs U):=bI 1 (bN PP true 1 (cX (sA6 W fr cs))) fun ws=>by kernel_rfl
def sA7:Goroutine:=OT (resume (Yy W fr cs) (.int .u64 8589934592))
theorem US:au PP true (resume (Yy W fr cs) (.int .u64 8589934592)) (sA7 W fr cs):=bq fun ws=>by kernel_rfl
theorem UR:ie (sA7 W fr cs)=some (170,#[]):=by kernel_rfl
theorem OV:au PP true (cX (sA7 W fr cs)) (cC fr cs U):=bI 1 (bN PP true 1 (cX (sA7 W fr cs))) fun ws=>by kernel_rfl
def Yv:Goroutine:=LV 130 #[pb W,f] 5 fr cs
def sG1:Goroutine:=OT (Yv W f fr cs)
theorem Ux:au PP true (Yv W f fr cs) (sG1 W f fr cs):=bq fun ws=>by kernel_rfl
theorem Uw:aR (sG1 W f fr cs)=some (.box 249 (pb W)):=by kernel_rfl
def sG2:Goroutine:=OT (resume (sG1 W f fr cs) (pb bw))
theorem Uv:au PP true (resume (sG1 W f fr cs) (pb bw)) (sG2 W bw f fr cs):=bq fun ws=>by kernel_rfl
theorem Uu:aR (sG2 W bw f fr cs)=some (.box 1 f):=by kernel_rfl
def ZW:Goroutine:=OT (resume (sG2 W bw f fr cs) (pb bf))
theorem Ut:au PP true (resume (sG2 W bw f fr cs) (pb bf)) (ZW W bw bf f fr cs):=bq fun ws=>by kernel_rfl
theorem Ur:aR (ZW W bw bf f fr cs)=some (.load 249 (pb bw)):=by kernel_rfl
def fG:Frame:=(OTn 1 (resume (ZW W bw bf f fr cs) (pb W))).callers.head?.getD default
theorem Us:au PP true (resume (ZW W bw bf f fr cs) (pb W)) (UT W (fG W bw bf f fr cs) (fr::cs)):=bI 1 (bN PP true 1 (resume (ZW W bw bf f fr cs) (pb W))) fun ws=>by kernel_rfl
def Uq:Goroutine:=OT (cC (fG W bw bf f fr cs) (fr::cs) U)
theorem Up:au PP true (cC (fG W bw bf f fr cs) (fr::cs) U) (Uq W bw bf f fr cs):=bq fun ws=>by kernel_rfl
theorem OS:au PP true (resume (Uq W bw bf f fr cs) undef) (cC fr cs U):=bI 3 (bN PP true 3 (resume (Uq W bw bf f fr cs) undef)) fun ws=>by kernel_rfl
def ZR:Goroutine:=LV 88 #[dv] 16 fr cs
def sT1:Goroutine:=OT (ZR dv fr cs)
theorem TJ:au PP true (ZR dv fr cs) (sT1 dv fr cs):=bq fun ws=>by kernel_rfl
theorem TG:aR (sT1 dv fr cs)=some (.box 94 dv):=by kernel_rfl
def sT2:Goroutine:=OT (resume (sT1 dv fr cs) (pb bd))
theorem TF:au PP true (resume (sT1 dv fr cs) (pb bd)) (sT2 bd dv fr cs):=bq fun ws=>by kernel_rfl
theorem TE:aR (sT2 bd dv fr cs)=some (.makeMap TM):=by kernel_rfl
def sT3:Goroutine:=OT (resume (sT2 bd dv fr cs) (.map (some M)))
theorem TD:au PP true (resume (sT2 bd dv fr cs) (.map (some M))) (sT3 bd M dv fr cs):=bq fun ws=>by kernel_rfl
theorem TB:aR (sT3 bd M dv fr cs)=some (.build JG #[(1,.map (some M))]):=by kernel_rfl
def sT4:Goroutine:=OT (resume (sT3 bd M dv fr cs) (fd0 M))
theorem TA:au PP true (resume (sT3 bd M dv fr cs) (fd0 M)) (sT4 bd M dv fr cs):=bq fun ws=>by kernel_rfl
theorem Tz:aR (sT4 bd M dv fr cs)=some (.alloc JG):=by kernel_rfl
def sT5:Goroutine:=OT (resume (sT4 bd M dv fr cs) (pb F))
theorem Ty:au PP true (resume (sT4 bd M dv fr cs) (pb F)) (sT5 F bd M dv fr cs):=bq fun ws=>by kernel_rfl
theorem Tx:aR (sT5 F bd M dv fr cs)=some (.store JG (pb F) (fd0 M)):=by kernel_rfl
def Yu:Goroutine:=OT (resume (sT5 F bd M dv fr cs) undef)
theorem Tw:au PP true (resume (sT5 F bd M dv fr cs) undef) (Yu F bd M dv fr cs):=bq fun ws=>by kernel_rfl
theorem Tv:aR (Yu F bd M dv fr cs)=some (.alloc TWg):=by kernel_rfl
def sT7:Goroutine:=OT (resume (Yu F bd M dv fr cs) (pb W))
theorem Tu:au PP true (resume (Yu F bd M dv fr cs) (pb W)) (sT7 W F bd M dv fr cs):=bq fun ws=>by kernel_rfl
theorem Tt:aR (sT7 W F bd M dv fr cs)=some (.alloc 3):=by kernel_rfl
def ZQ:Goroutine:=OT (resume (sT7 W F bd M dv fr cs) (pb bs))
theorem Ts:au PP true (resume (sT7 W F bd M dv fr cs) (pb bs)) (ZQ W F bd bs M dv fr cs):=bq fun ws=>by kernel_rfl
theorem Tq:aR (ZQ W F bd bs M dv fr cs)=some (.store 3 (pb bs) (.int .i64 0)):=by kernel_rfl
def fT1:Frame:=(OTn 4 (resume (ZQ W F bd bs M dv fr cs) undef)).callers.head?.getD default
theorem Tr:au PP true (resume (ZQ W F bd bs M dv fr cs) undef) (Yv W (pK F bd bs) (fT1 W F bd bs M dv fr cs) (fr::cs)):=bI 4 (bN PP true 4 (resume (ZQ W F bd bs M dv fr cs) undef)) fun ws=>by kernel_rfl
def sS7:Goroutine:=OT (cC (fT1 W F bd bs M dv fr cs) (fr::cs) U)
theorem TQ:au PP true (cC (fT1 W F bd bs M dv fr cs) (fr::cs) U) (sS7 W F bd bs M dv fr cs):=bq fun ws=>by kernel_rfl
theorem TP:aR (sS7 W F bd bs M dv fr cs)=some (.alloc 3):=by kernel_rfl
def ZS:Goroutine:=OT (resume (sS7 W F bd bs M dv fr cs) (pb bs'))
theorem TO:au PP true (resume (sS7 W F bd bs M dv fr cs) (pb bs')) (ZS W F bd bs bs' M dv fr cs):=bq fun ws=>by kernel_rfl
theorem TL:aR (ZS W F bd bs bs' M dv fr cs)=some (.store 3 (pb bs') (.int .i64 1)):=by kernel_rfl
def YV:Frame:=(OTn 4 (resume (ZS W F bd bs bs' M dv fr cs) undef)).callers.head?.getD default
theorem TN:au PP true (resume (ZS W F bd bs bs' M dv fr cs) undef) (Yv W (pK F bd bs') (YV W F bd bs bs' M dv fr cs) (fr::cs)):=bI 4 (bN PP true 4 (resume (ZS W F bd bs bs' M dv fr cs) undef)) fun ws=>by kernel_rfl
def sW0:Goroutine:=LV 133 #[pb W] 83 fr cs
def fT3:Frame:=(OTn 17 (cC (YV W F bd bs bs' M dv fr cs) (fr::cs) U)).callers.head?.getD default
theorem TK:au PP true (cC (YV W F bd bs bs' M dv fr cs) (fr::cs) U) (sW0 W (fT3 W F bd bs bs' M dv fr cs) (fr::cs)):=bI 17 (bN PP true 17 (cC (YV W F bd bs bs' M dv fr cs) (fr::cs) U)) fun ws=>by kernel_rfl
def Hy:Goroutine:=OT (sW0 W fr cs)
theorem D7:au PP true (sW0 W fr cs) (Hy W fr cs):=bq fun ws=>by kernel_rfl
theorem FI:aF (Hy W fr cs)=some (168,#[]):=by kernel_rfl
end
def Zv:List Item:=match(OT (resume (Hy 0 default []) U)).callers with|f::_=>f.todo|[]=>[]
def afr (W:Nat):Frame:=(OT (resume (Hy W default []) U)).frame
def sH (W:Nat)(tm:Array Value)(fr:Frame)(cs:List Frame):Goroutine:=G (afr W) ((base 133).at ⟨tm,[]⟩ Zv::fr::cs)
structure HW (W:Nat)(tm:Array Value):Prop where
 size:tm.size=84
 s0:tm[0]? =some (pb W)
def tmW (W:Nat)(y:Nat->Value):Array Value:=#[pb W,y 1,y 2,y 3,y 4,y 5,y 6,y 7,y 8,y 9,y 10,y 11,y 12,y 13,y 14,y 15,y 16,y 17,y 18,y 19,y 20,y 21,y 22,y 23,y 24,y 25,y 26,y 27,y 28,y 29,y 30,y 31,y 32,y 33,y 34,y 35,y 36,y 37,y 38,y 39,y 40,y 41,y 42,y 43,y 44,y 45,y 46,y 47,y 48,y 49,y 50,y 51,y 52,y 53,y 54,y 55,y 56,y 57,y 58,y 59,y 60,y 61,y 62,y 63,y 64,y 65,y 66,y 67,y 68,y 69,y 70,y 71,y 72,y 73,y 74,y 75,y 76,y 77,y 78,y 79,y 80,y 81,y 82,y 83]
theorem Ow (tm:Array Value)(h:tm.size=84):tm=#[tm.getD 0 undef,tm.getD 1 undef,tm.getD 2 undef,tm.getD 3 undef,tm.getD 4 undef,tm.getD 5 undef,tm.getD 6 undef,tm.getD 7 undef,tm.getD 8 undef,tm.getD 9 undef,tm.getD 10 undef,tm.getD 11 undef,tm.getD 12 undef,tm.getD 13 undef,tm.getD 14 undef,tm.getD 15 undef,tm.getD 16 undef,tm.getD 17 undef,tm.getD 18 undef,tm.getD 19 undef,tm.getD 20 undef,tm.getD 21 undef,tm.getD 22 undef,tm.getD 23 undef,tm.getD 24 undef,tm.getD 25 undef,tm.getD 26 undef,tm.getD 27 undef,tm.getD 28 undef,tm.getD 29 undef,tm.getD 30 undef,tm.getD 31 undef,tm.getD 32 undef,tm.getD 33 undef,tm.getD 34 undef,tm.getD 35 undef,tm.getD 36 undef,tm.getD 37 undef,tm.getD 38 undef,tm.getD 39 undef,tm.getD 40 undef,tm.getD 41 undef,tm.getD 42 undef,tm.getD 43 undef,tm.getD 44 undef,tm.getD 45 undef,tm.getD 46 undef,tm.getD 47 undef,tm.getD 48 undef,tm.getD 49 undef,tm.getD 50 undef,tm.getD 51 undef,tm.getD 52 undef,tm.getD 53 undef,tm.getD 54 undef,tm.getD 55 undef,tm.getD 56 undef,tm.getD 57 undef,tm.getD 58 undef,tm.getD 59 undef,tm.getD 60 undef,tm.getD 61 undef,tm.getD 62 undef,tm.getD 63 undef,tm.getD 64 undef,tm.getD 65 undef,tm.getD 66 undef,tm.getD 67 undef,tm.getD 68 undef,tm.getD 69 undef,tm.getD 70 undef,tm.getD 71 undef,tm.getD 72 undef,tm.getD 73 undef,tm.getD 74 undef,tm.getD 75 undef,tm.getD 76 undef,tm.getD 77 undef,tm.getD 78 undef,tm.getD 79 undef,tm.getD 80 undef,tm.getD 81 undef,tm.getD 82 undef,tm.getD 83 undef]:=by
 have e:tm=((List.range 84).map fun i=>tm.getD i undef).toArray:=by
  apply Array.ext
  .simp[h]
  .intro i h1 h2
   simp[Array.getD_eq_getD_getElem?,h1]
 exact e.trans (by kernel_rfl)
theorem HW.eq {W:Nat}{tm:Array Value}(h:HW W tm):tm=tmW W fun i=>tm.getD i undef:=by
 have h1:=Ow tm h.size;rw[cg h.s0] at h1;exact h1
section
variable (W:Nat)(fr:Frame)(cs:List Frame)(y:Nat->Value)
theorem TV:∃tm,HW W tm/\au PP true (resume (Hy W fr cs) U) (sH W tm fr cs):=⟨match(OT (resume (Hy W fr cs) U)).callers with|f::_=>f.tmps|[]=>#[],⟨by kernel_rfl,by kernel_rfl⟩,bI 200 (bN PP true 200 (resume (Hy W fr cs) U)) fun ws=>by kernel_rfl⟩
abbrev sh:Goroutine:=sH W (tmW W y) fr cs
theorem RJ:aF (sh W fr cs y)=some (203,#[pb W]):=by kernel_rfl
def sE:Goroutine:=OT (resume (sh W fr cs y) (.int .u64 0))
theorem ZY:au PP true (resume (sh W fr cs y) (.int .u64 0)) (sE W fr cs y):=bq fun ws=>by kernel_rfl
theorem ZX:aF (sE W fr cs y)=some (170,#[]):=by kernel_rfl
def NM:Goroutine:=OT (resume (sE W fr cs y) U)
theorem UF:au PP true (resume (sE W fr cs y) U) (NM W fr cs y):=bq fun ws=>by kernel_rfl
theorem UE:aR (NM W fr cs y)=some (.conv (yn (NM 0 default [] fun _=>undef)) (zt (NM 0 default [] fun _=>undef)) (pb W)):=by kernel_rfl
theorem Z0:PP.underlying (yn (NM 0 default [] fun _=>undef))=some (.pointer (zr (NM 0 default [] fun _=>undef))):=by kernel_rfl
theorem Z1:PP.underlying (zt (NM 0 default [] fun _=>undef))=some .unsafePointer:=by kernel_rfl
theorem ZZ:(PP.info? (zr (NM 0 default [] fun _=>undef))).map (fun i=>decide (i.size=0))=some false:=by kernel_rfl
def sEM:Goroutine:=OT (resume (NM W fr cs y) (pb W))
theorem UC:au PP true (resume (NM W fr cs y) (pb W)) (sEM W fr cs y):=bq fun ws=>by kernel_rfl
theorem UD:aF (sEM W fr cs y)=some (171,#[pb W]):=by kernel_rfl
theorem OU:au PP true (resume (sEM W fr cs y) U) (cC fr cs U):=bI 20 (bN PP true 20 (resume (sEM W fr cs y) U)) fun ws=>by kernel_rfl
def UQ:Goroutine:=OT (resume (sh W fr cs y) (.int .u64 4294967296))
theorem UP:au PP true (resume (sh W fr cs y) (.int .u64 4294967296)) (UQ W fr cs y):=bq fun ws=>by kernel_rfl
theorem z4:aF (UQ W fr cs y)=some (204,#[pb W,.int .u64 4294967296,.int .u64 4294967297]):=by kernel_rfl
theorem UO:∃tm,HW W tm/\au PP true (resume (UQ W fr cs y) (.bool false)) (sH W tm fr cs):=⟨match(OT (resume (UQ W fr cs y) (.bool false))).callers with|f::_=>f.tmps|[]=>#[],⟨by kernel_rfl,by kernel_rfl⟩,bI 200 (bN PP true 200 (resume (UQ W fr cs y) (.bool false))) fun ws=>by kernel_rfl⟩
def NO:Goroutine:=OT (resume (UQ W fr cs y) (.bool true))
theorem UK:au PP true (resume (UQ W fr cs y) (.bool true)) (NO W fr cs y):=bq fun ws=>by kernel_rfl
theorem UJ:aR (NO W fr cs y)=some (.conv (yn (NO 0 default [] fun _=>undef)) (zt (NO 0 default [] fun _=>undef)) (pE W)):=by kernel_rfl
theorem Z6:PP.underlying (yn (NO 0 default [] fun _=>undef))=some (.pointer (zr (NO 0 default [] fun _=>undef))):=by kernel_rfl
theorem Z7:PP.underlying (zt (NO 0 default [] fun _=>undef))=some .unsafePointer:=by kernel_rfl
theorem Z5:(PP.info? (zr (NO 0 default [] fun _=>undef))).map (fun i=>decide (i.size=0))=some false:=by kernel_rfl
def sFk:Goroutine:=OT (resume (NO W fr cs y) (pE W))
theorem UB:au PP true (resume (NO W fr cs y) (pE W)) (sFk W fr cs y):=bq fun ws=>by kernel_rfl
theorem UA:aF (sFk W fr cs y)=some (175,#[pE W]):=by kernel_rfl
def sIk:Goroutine:=OT (resume (sFk W fr cs y) U)
theorem Un:au PP true (resume (sFk W fr cs y) U) (sIk W fr cs y):=bq fun ws=>by kernel_rfl
theorem OR:aF (sIk W fr cs y)=some (177,#[pE W,.bool false]):=by kernel_rfl
def sJk:Goroutine:=OT (resume (sIk W fr cs y) U)
theorem Ul:au PP true (resume (sIk W fr cs y) U) (sJk W fr cs y):=bq fun ws=>by kernel_rfl
theorem Uk:aF (sJk W fr cs y)=some (203,#[pb W]):=by kernel_rfl
def sKk:Goroutine:=OT (resume (sJk W fr cs y) (.int .u64 0))
theorem Ua:au PP true (resume (sJk W fr cs y) (.int .u64 0)) (sKk W fr cs y):=bq fun ws=>by kernel_rfl
theorem T9:aF (sKk W fr cs y)=some (170,#[]):=by kernel_rfl
def xZ:Goroutine:=OT (resume (sKk W fr cs y) U)
theorem OP:au PP true (resume (sKk W fr cs y) U) (xZ W fr cs y):=bq fun ws=>by kernel_rfl
theorem OO:aR (xZ W fr cs y)=some (.conv (yn (xZ 0 default [] fun _=>undef)) (zt (xZ 0 default [] fun _=>undef)) (pb W)):=by kernel_rfl
theorem Uc:PP.underlying (yn (xZ 0 default [] fun _=>undef))=some (.pointer (zr (xZ 0 default [] fun _=>undef))):=by kernel_rfl
theorem Ud:PP.underlying (zt (xZ 0 default [] fun _=>undef))=some .unsafePointer:=by kernel_rfl
theorem Ub:(PP.info? (zr (xZ 0 default [] fun _=>undef))).map (fun i=>decide (i.size=0))=some false:=by kernel_rfl
def ON:Goroutine:=OT (resume (xZ W fr cs y) (pb W))
theorem OL:au PP true (resume (xZ W fr cs y) (pb W)) (ON W fr cs y):=bq fun ws=>by kernel_rfl
theorem OM:aF (ON W fr cs y)=some (171,#[pb W]):=by kernel_rfl
theorem Km:au PP true (resume (ON W fr cs y) U) (cC fr cs U):=bI 10 (bN PP true 10 (resume (ON W fr cs y) U)) fun ws=>by kernel_rfl
def UN:Goroutine:=OT (resume (sh W fr cs y) (.int .u64 8589934592))
theorem UM:au PP true (resume (sh W fr cs y) (.int .u64 8589934592)) (UN W fr cs y):=bq fun ws=>by kernel_rfl
theorem z0:aF (UN W fr cs y)=some (204,#[pb W,.int .u64 8589934592,.int .u64 8589934593]):=by kernel_rfl
theorem UL:∃tm,HW W tm/\au PP true (resume (UN W fr cs y) (.bool false)) (sH W tm fr cs):=⟨match(OT (resume (UN W fr cs y) (.bool false))).callers with|f::_=>f.tmps|[]=>#[],⟨by kernel_rfl,by kernel_rfl⟩,bI 200 (bN PP true 200 (resume (UN W fr cs y) (.bool false))) fun ws=>by kernel_rfl⟩
def NN:Goroutine:=OT (resume (UN W fr cs y) (.bool true))
theorem UI:au PP true (resume (UN W fr cs y) (.bool true)) (NN W fr cs y):=bq fun ws=>by kernel_rfl
theorem UH:aR (NN W fr cs y)=some (.conv (yn (NN 0 default [] fun _=>undef)) (zt (NN 0 default [] fun _=>undef)) (pE W)):=by kernel_rfl
theorem Z3:PP.underlying (yn (NN 0 default [] fun _=>undef))=some (.pointer (zr (NN 0 default [] fun _=>undef))):=by kernel_rfl
theorem Z4:PP.underlying (zt (NN 0 default [] fun _=>undef))=some .unsafePointer:=by kernel_rfl
theorem Z2:(PP.info? (zr (NN 0 default [] fun _=>undef))).map (fun i=>decide (i.size=0))=some false:=by kernel_rfl
def sFl:Goroutine:=OT (resume (NN W fr cs y) (pE W))
theorem Uz:au PP true (resume (NN W fr cs y) (pE W)) (sFl W fr cs y):=bq fun ws=>by kernel_rfl
theorem Uy:aF (sFl W fr cs y)=some (175,#[pE W]):=by kernel_rfl
def sIl:Goroutine:=OT (resume (sFl W fr cs y) U)
theorem Um:au PP true (resume (sFl W fr cs y) U) (sIl W fr cs y):=bq fun ws=>by kernel_rfl
theorem OQ:aF (sIl W fr cs y)=some (177,#[pE W,.bool false]):=by kernel_rfl
def sJl:Goroutine:=OT (resume (sIl W fr cs y) U)
theorem Uj:au PP true (resume (sIl W fr cs y) U) (sJl W fr cs y):=bq fun ws=>by kernel_rfl
theorem Ui:aF (sJl W fr cs y)=some (203,#[pb W]):=by kernel_rfl
def sKl:Goroutine:=OT (resume (sJl W fr cs y) (.int .u64 0))
theorem TX:au PP true (resume (sJl W fr cs y) (.int .u64 0)) (sKl W fr cs y):=bq fun ws=>by kernel_rfl
theorem TW:aF (sKl W fr cs y)=some (170,#[]):=by kernel_rfl
def xY:Goroutine:=OT (resume (sKl W fr cs y) U)
theorem OK:au PP true (resume (sKl W fr cs y) U) (xY W fr cs y):=bq fun ws=>by kernel_rfl
theorem OJ:aR (xY W fr cs y)=some (.conv (yn (xY 0 default [] fun _=>undef)) (zt (xY 0 default [] fun _=>undef)) (pb W)):=by kernel_rfl
theorem TZ:PP.underlying (yn (xY 0 default [] fun _=>undef))=some (.pointer (zr (xY 0 default [] fun _=>undef))):=by kernel_rfl
theorem T0:PP.underlying (zt (xY 0 default [] fun _=>undef))=some .unsafePointer:=by kernel_rfl
theorem TY:(PP.info? (zr (xY 0 default [] fun _=>undef))).map (fun i=>decide (i.size=0))=some false:=by kernel_rfl
def OI:Goroutine:=OT (resume (xY W fr cs y) (pb W))
theorem OG:au PP true (resume (xY W fr cs y) (pb W)) (OI W fr cs y):=bq fun ws=>by kernel_rfl
theorem OH:aF (OI W fr cs y)=some (171,#[pb W]):=by kernel_rfl
theorem Kl:au PP true (resume (OI W fr cs y) U) (cC fr cs U):=bI 10 (bN PP true 10 (resume (OI W fr cs y) U)) fun ws=>by kernel_rfl
end
theorem xRd:Ext PP 198 Tryz.f198:=⟨Tryz.func198,by kernel_rfl,by kernel_rfl,by kernel_rfl⟩
theorem fRd:Extern.find Tryz.f198=some (Extern.Race.marked .read):=by kernel_rfl
theorem xWr:Ext PP 175 Tryz.f175:=⟨Tryz.func175,by kernel_rfl,by kernel_rfl,by kernel_rfl⟩
theorem fWr:Extern.find Tryz.f175=some (Extern.Race.marked .write):=by kernel_rfl
theorem Fw:Ext PP 204 Tryz.f204:=⟨Tryz.func204,by kernel_rfl,by kernel_rfl,by kernel_rfl⟩
theorem Gy:Extern.find Tryz.f204=some (Extern.Atomic.casT (.int .u64)):=by kernel_rfl
theorem Rv:Ext PP 177 Tryz.f177:=⟨Tryz.func177,by kernel_rfl,by kernel_rfl,by kernel_rfl⟩
theorem Uo (W bw bf:Nat)(f:Value)(fr:Frame)(cs:List Frame)(w:World):stepG PP true (Uq W bw bf f fr cs) w= .spawn (resume (Uq W bw bf f fr cs) undef) (YQ bw bf) w #[]:=by kernel_rfl
theorem FJ (W bw bf:Nat)(f:Value)(fr:Frame)(cs:List Frame):(Uq W bw bf f fr cs).status= .running/\(Uq W bw bf f fr cs).offers=none:=⟨by kernel_rfl,by kernel_rfl⟩
theorem Sv:Extern.find Tryz.f177=some Extern.Sync.semacquire:=by kernel_rfl
section
variable {P:Program}{main:Bool}{g:Goroutine}{f:FuncId}{fn:Func}{w:World}
theorem Ha (X:Ext P f fn)(he:Extern.find fn=some Extern.Sync.semacquire){ad:Addr}{n:Int}{u:Value}(h:aF g=some (f,#[.pointer (some ad),u]))(hc:w.cell? ad=some (.int .u32 n))(hn:n≠0)(hz:w.frozen? ad=false):
  stepG P main g w= .go (resume g (.tuple #[])) (w.setCell ad (.int .u32 (n-1))) (semEvents ad):=by
 obtain⟨b,a,ops,i,rest,kk,cs,o,xs,ats,rfl,h2,h3,h4,h5,h6,h7⟩:=cT h;rw[h7];exact stepG_semacquire h2 h3 h4 h5 X.at_ X.name X.body X.next he (by rw[h6];rfl) hc hn hz
theorem DM (X:Ext P f fn)(he:Extern.find fn=some Extern.Sync.semacquire){ad:Addr}{u:Value}(h:aF g=some (f,#[.pointer (some ad),u]))(hc:w.cell? ad=some (.int .u32 0)):
  stepG P main g w= .go {g with status:= .blocked} w #[]:=by
 obtain⟨b,a,ops,i,rest,kk,cs,o,xs,ats,rfl,h2,h3,h4,h5,h6,h7⟩:=cT h;exact stepG_semacquire_wait h2 h3 h5 X.at_ X.name X.body X.next he (by rw[h6];rfl) hc
end
section
variable {Δ:Type}{X:Cx Δ}{ro own:Nat->Prop}{Stop:(Nat->Prop)->Goroutine->World->Prop}{g:Goroutine}{w:World}{deaf:Bool}
theorem lh {s d t:TypeId}{a:Addr}(h:aR g=some (.conv s d (.pointer (some a))))(h1:PP.underlying s=some (.pointer t))(h2:PP.underlying d=some .unsafePointer)
  (h3:(PP.info? t).map (fun i=>decide (i.size=0))=some false) (hc:∀w₁,RX X ro own w w₁->∃v,w₁.cell? a=some v) (k:aD PP true (eT X deaf ro) Stop own (resume g (.pointer (some a))) w):aD PP true (eT X deaf ro) Stop own g w:=by
 refine aD.step (cU h).1 fun w₁ hr=>?_
 obtain⟨v,hv⟩:=hc w₁ hr;obtain⟨es,e1,e2⟩:=mn (P:=PP) (main:=true) (w:=w₁) (w':=w₁) (x:= .pointer (some a)) h (by simp only[kP.sem,Sem.run_bind,run_convert_to_unsafe h1 h2 h3 hv];rfl);have e3:es=#[]:=Array.eq_empty_iff_forall_not_mem.2 fun e he=>by
  have:=e2 e he;simp only[kP.sem,Sem.events_bind,run_convert_to_unsafe h1 h2 h3 hv,events_convert_to_unsafe h1 h2 h3 hv] at this;simp at this
 subst e3;refine⟨_,w₁,#[],e1,(jE deaf ro own w₁).1,?_⟩;have:=(jE (X:=X) deaf ro own w₁).2;rw[this];exact k.rely hr
theorem tI {f:FuncId}{fn:Func}(hX:Ext PP f fn){v:Value}(he:Extern.find fn=some (fun _=>pure v)){args:Array Value}(hc:aF g=some (f,args))(go:aD PP true (eT X deaf ro) Stop own (resume g v) w):aD PP true (eT X deaf ro) Stop own g w:=by
 refine aD.step (aU hc).1 fun w₁ hr=>⟨_,w₁,#[],yL hX v he hc,(jE _ _ own w₁).1,?_⟩
 have:=(jE (X:=X) deaf ro own w₁).2;rw[this];exact go.rely hr
theorem CB {t:TypeId}{a:Addr}{v:Value}(h:aR g=some (.load t (.pointer (some a))))(ha:(PP.underlying t).map (fun d=>match d with|.struct _|.array _ _=>true|_=>false)=some false)(hb:own a.block\/ro a.block)(hc:w.cell? a=some v)
  (k:∀w',RX X ro own w w'->aD PP true (eT X false ro) Stop own (resume g v) w'):aD PP true (eT X false ro) Stop own g w:=by
 refine cY h (x:=v) (fun w₁ hr=>?_) k;have hlt:a.block<w.heap.size:=by
  unfold World.cell? at hc;cases hh:w.heap[a.block]? with
  |none=>rw[hh] at hc;simp at hc
  |some o=>exact lt_of_some hh
 have hc1:w₁.cell? a=some v:=by
  unfold World.cell? at hc⊢;rw[hr.keep a.block hlt hb];exact hc
 refine⟨w₁,#[⟨.cell a,false,false⟩],RT.eC (x:=v) ?_ (.pure _),rfl,rfl,rfl,rfl,fun e he=>⟨a.block,by simp at he;subst he;exact iY rfl,hb.imp id fun h=>⟨h,by simp at he;subst he;rfl⟩⟩⟩;show RT (do if<-isAgg t then Pure.pure (.agg (<-loadCells a (<-Go.sizeOf t))) else load a) _ _ _ _;refine(gO (h:=ha)).aN ?_;simp only[Bool.false_eq_true,if_false];exact j4 hc1
end
section
variable {Δ:Type}{X:Cx Δ}{Post:Gh Δ->Goroutine->World->Prop}{γ:Gh Δ}{k:Nat}{T T':Lo}{g:Goroutine}{w:World}
abbrev LS (X:Cx Δ)(Post:Gh Δ->Goroutine->World->Prop)(γ:Gh Δ)(k:Nat)(T:Lo)(g:Goroutine)(w:World):Prop:=aD PP true (eT X (eD T.pc) γ.ro) (dH (yB X PP Post k) T γ) γ.own g w
theorem lx (h:∀k' w₁,k'<k->RR X γ w w₁->Yl X PP (yB X PP Post k') .m T γ g w₁)(hg:¬(T.pc= .g1\/T.pc= .g2):=by simp)(ha:T.pc≠.aq:=by simp):LS X Post γ k T g w:=by
 cases k with
 |zero=>exact aD.stop fun w₁ hr=>⟨γ.mine,fun _=>rfl,trivial⟩
 |succ k=>
  refine aD.stop fun w₁ hr=>⟨γ.mine,fun _=>rfl,?_⟩
  unfold yB;rw[if_neg hg,if_neg ha];exact h k w₁ (by omega) hr
variable (R:Room X γ)
include R
theorem j7 (hg:¬(T.pc= .g1\/T.pc= .g2))(ha:T.pc≠.aq){g':Goroutine}{es:Array Event}(hrun:g.status= .running/\g.offers=none)(hst:∀w,stepG PP true g w= .go g' w es)
  (hmv:∀s,mv T s=[(T',s)]) (hev:EvStop X T T' es) (h1:T.pc≠.la) (h2:T.pc≠.ur) (h3:T'.pc≠.wk) (h4:T'.pc≠.quit) (h5:T.pc≠.us) (h6:T.pc≠.d4)
  (go:∀k' w',k'<k->RR X γ w w'->LS X Post γ k' T' g' w'):LS X Post γ k T g w:=by
 refine lx (hg:=hg) (ha:=ha) fun k' w₁ hk hr=>Gb (g':=g') hrun hmv h1 h2 h3 h4 h5 h6 fun s hsh=>?_
 exact⟨_,_,hst w₁,hsh,.refl _,hev,go k' _ hk hr⟩
theorem adj (hc:aF g=some (171,#[pb X.Wg]))(hP:∀w' o,RR X γ w w'->w'.heap[X.M]? =some o->X.Dat (X.fin .a) (X.fin .b) o->Post γ (resume g U) w'):LS X Post γ k (at_ .aq 0) g w:=by
 cases k with
 |zero=>exact aD.stop fun w₁ hr=>⟨γ.mine,fun _=>rfl,trivial⟩
 |succ k=>
  refine aD.stop fun w₁ hr=>⟨γ.mine,fun _=>rfl,?_⟩
  unfold yB;rw[if_neg (by simp),if_pos rfl];exact⟨(aU hc).1,(aU hc).2,fun o ho hD=>⟨_,fA Y9 .acquire acS hc,hP w₁ o hr ho hD⟩⟩
theorem Ar {gE gL gM:Goroutine}(live:∃s,ShAt X w s)(hen:aF gE=some (170,#[]))(g1:au PP true (resume gE U) gL){s d t:TypeId}(hv:aR gL=some (.conv s d (pb X.Wg)))(h1:PP.underlying s=some (.pointer t))
  (h2:PP.underlying d=some .unsafePointer) (h3:(PP.info? t).map (fun i=>decide (i.size=0))=some false) (g2:au PP true (resume gL (pb X.Wg)) gM) (haq:aF gM=some (171,#[pb X.Wg]))
  (hP:∀w' o,RR X γ w w'->w'.heap[X.M]? =some o->X.Dat (X.fin .a) (X.fin .b) o->Post γ (resume gM U) w'):LS X Post γ k (at_ .ke 0) gE w:=by
 refine j7 R (T':=at_ .aq 0) (g':=resume gE U) (by simp) (by simp) (aU hen) (fun w=>jg Ys .enable YX hen) (by simp[mv]) (by simp[EvStop,ja,pJ]) (by simp) (by simp) (by simp) (by simp) (by simp) (by simp) fun k' w' hk hr=>?_
 refine aC g1 (lh hv h1 h2 h3 (fun w₁ hr'=>?_) (aC g2 (adj R haq fun w'' o h=>hP w'' o (hr.trans X h))));obtain⟨s,hs⟩:=(hr.trans X hr').live live;exact⟨_,hs.Jj⟩
theorem Bb {x:Int}{gD gF gI gJ gK gL gM:Goroutine}(live:∃s,ShAt X w s){s d t:TypeId}(hv:aR gD=some (.conv s d (pE X.Wg)))(h1:PP.underlying s=some (.pointer t))(h2:PP.underlying d=some .unsafePointer)(h3:(PP.info? t).map (fun i=>decide (i.size=0))=some false)
  (g1:au PP true (resume gD (pE X.Wg)) gF) (hwr:aF gF=some (175,#[pE X.Wg])) (g2:au PP true (resume gF U) gI) (Wy:aF gI=some (177,#[pE X.Wg,.bool false]))
  (g3:au PP true (resume gI U) gJ) (hld:aF gJ=some (203,#[pb X.Wg])) (g4:au PP true (resume gJ (.int .u64 0)) gK)
  (hK:∀k' w',RR X γ w w'->LS X Post γ k' (at_ .ke 0) gK w'):LS X Post γ k (at_ .pw 0) gD w:=by
 refine lh hv h1 h2 h3 (fun w₁ hr'=>?_) (aC g1 ?_)
 .obtain⟨s,hs⟩:=hr'.live live
  exact⟨_,hs.Y1⟩
 refine j7 R (T':=at_ .w3 0) (g':=resume gF U) (by simp) (by simp) (aU hwr) (fun w=>fA xWr .write fWr hwr) (by simp[mv]) (by simp[EvStop,ja];rfl) (by simp) (by simp) (by simp) (by simp) (by simp) (by simp) fun k1 w1 hk1 hr1=>?_
 refine aC g2 (lx fun k2 w2 hk2 hr2=>cZ (aU Wy) (by simp) (by simp) (by simp) (by simp) (fun s hsh hf hn=>?_) (fun s hsh hf hne=>?_))
 .have h0:s.ws=0:=by
   by_cases h:s.ws=0
   .exact h
   .simp[mv,h] at hn
  exact DM Rv Sv Wy (by rw[<-h0];exact hsh.Y1)
 have h0:s.ws≠0:=fun h=>hne (by simp[mv,h])
 have hsh':=hsh.setWs R.ne (s.ws-1);have ef:=ConcM.Eff.set (w:=w2) (Mu:=X.Fd) (Wg:=X.Wg) (JB X) (.int .u32 (s.ws-1)) (.inr rfl);refine⟨(at_ .w4 0,{s with ws:=s.ws-1}),by simp[mv,h0],fun _=>⟨_,_,_,Ha (P:=PP) (main:=true) Rv Sv Wy hsh.Y1 h0 (hsh.NL 1),hsh',ef,AE (aaR R.ne) rfl,?_⟩⟩;rw[if_neg (by simp)]
 refine aC g3 (lx (T:=at_ .w4 0) fun k3 w3 hk3 hr3=>cZ (aU hld) (by simp) (by simp) (by simp) (by simp) (fun s _ hf hn=>?_) (fun s hsh hf _=>?_))
 .exfalso
  by_cases h:s.wg=0<;>simp[mv,h] at hn
 by_cases h:¬s.wg=0
 .exact⟨(at_ .bad 0,s),by simp[mv,h],fun q=>absurd rfl q⟩
 have h:s.wg=0:=Decidable.not_not.1 h;have st:=pV (P:=PP) (main:=true) (w:=w3) (ad:=wA X) SS .u64 XL hld hsh.Jj;rw[h] at st;refine⟨(at_ .ke 0,s),by simp[mv,h],fun _=>⟨_,_,_,st,hsh,.refl _,C2 (okW R.ne) rfl,?_⟩⟩;rw[if_neg (by simp)];exact aC g4 (hK k3 w3 (((hr1.trans X hr2).trans X (R.rx ef hsh')).trans X hr3))
end
section
variable {Δ:Type}{X:Cx Δ}{Post:Gh Δ->Goroutine->World->Prop}{γ:Gh Δ}{w:World}{fr:Frame}{cs:List Frame}
theorem G1 (R:Room X γ)(live:∃s,ShAt X w s)(hP:∀w' o g,RR X γ w w'->w'.heap[X.M]? =some o->X.Dat (X.fin .a) (X.fin .b) o->au PP true g (cC fr cs U)->Post γ g w'):
  ∀(k:Nat) (tm:Array Value) (w1:World),RR X γ w w1->HW X.Wg tm->LS X Post γ k (at_ .w1 0) (sH X.Wg tm fr cs) w1:=by
 intro k
 induction k using Nat.strongRecOn with
 |_ k ih=>
 intro tm w1 hr1 hH;rw[hH.eq];generalize hy:(fun i=>tm.getD i undef)=y;refine lx fun k2 w2 hk2 hr2=>cZ (aU (RJ _ _ _ _)) (by simp) (by simp) (by simp) (by simp) (fun s _ hf hn=>?_) (fun s hsh hf _=>?_)
 .exfalso
  rcases hf.2.2.1 with h|h|h|h|h|h<;>simp[mv,h,KKi] at hn
 have st:=pV (P:=PP) (main:=true) (w:=w2) (ad:=wA X) SS .u64 XL (RJ X.Wg fr cs y) hsh.Jj;have H2:=hr1.trans X hr2;have abk:=H2.live live;have miss:∀{k3:Nat} {w3:World} {g:Goroutine},k3<k->RR X γ w w3->(∃tm,HW X.Wg tm/\au PP true g (sH X.Wg tm fr cs))->LS X Post γ k3 (at_ .w1 0) g w3:=fun hk hr ⟨tm,hH,hg⟩=>aC hg (ih _ hk tm _ hr hH)
 rcases hf.2.2.1 with h|h|h|h|h|h
 .rw[h] at st
  refine⟨(at_ .ke 0,s),by simp[mv,h],fun _=>⟨_,_,_,st,hsh,.refl _,C2 (okW R.ne) rfl,?_⟩⟩;rw[if_neg (by simp)];exact aC (ZY _ _ _ _) (Ar R abk (ZX _ _ _ _) (UF _ _ _ _) (UE _ _ _ _) Z0 Z1 ZZ (UC _ _ _ _) (UD _ _ _ _) fun w' o hr ho hD=>hP w' o _ (H2.trans X hr) ho hD (OU _ _ _ _))
 .exact⟨(at_ .bad 0,s),by simp[mv,h,KKi],fun q=>absurd rfl q⟩
 .rw[h] at st
  refine⟨({pc:= .w2,old:=s.wg},s),by simp[mv,h,KKi],fun _=>⟨_,_,_,st,hsh,.refl _,C2 (okW R.ne) rfl,?_⟩⟩;rw[if_neg (by simp)];refine aC (UP _ _ _ _) (lx (T:={pc:= .w2,old:=s.wg}) fun k3 w3 hk3 hr3=>cZ (aU (z4 _ _ _ _)) (by simp) (by simp) (by simp) (by simp) (fun s' _ hf hn=>?_) (fun s' hsh' hf' _=>?_))
  .exfalso
   by_cases q:s'.wg=s.wg<;>simp[mv,q] at hn
  by_cases q:s'.wg=s.wg
  .have hs2:=hsh'.setWg R.ne 4294967297
   have ef:=ConcM.Eff.set (w:=w3) (Mu:=X.Fd) (Wg:=X.Wg) (wA X) (.int .u64 4294967297) (.inr rfl);refine⟨(at_ .pw 0,{s' with wg:=s'.wg+1}),by simp[mv,q],fun _=>⟨_,_,_,mo (P:=PP) (main:=true) Fw .u64 Gy (z4 _ _ _ _) (by
    have:=hsh'.Jj;rw[q,h] at this;exact this) (hsh'.NL 0),?_,ef,ot (okW R.ne) rfl,?_⟩⟩
   .rw[q,h];exact hs2
   rw[if_neg (by simp)];have H3:=(H2.trans X hr3).trans X (R.rx ef hs2);refine aC (UK _ _ _ _) (Bb (x:=0) R (H3.live live) (UJ _ _ _ _) Z6 Z7 Z5 (UB _ _ _ _) (UA _ _ _ _) (Un _ _ _ _) (OR _ _ _ _) (Ul _ _ _ _) (Uk _ _ _ _) (Ua _ _ _ _) (gL:=default) (gM:=default) fun k' w' hr=>?_)
   exact Ar R ((H3.trans X hr).live live) (T9 _ _ _ _) (OP _ _ _ _) (OO _ _ _ _) Uc Ud Ub (OL _ _ _ _) (OM _ _ _ _) fun w'' o hr' ho hD=>hP w'' o _ ((H3.trans X hr).trans X hr') ho hD (Km _ _ _ _)
  .refine⟨(at_ .w1 0,s'),by simp[mv,q],fun _=>⟨_,_,_,lC (P:=PP) (main:=true) Fw .u64 Gy (z4 _ _ _ _) hsh'.Jj (hsh'.NL 0) (by rw[h] at q;exact q),hsh',.refl _,C2 (okW R.ne) rfl,?_⟩⟩
   rw[if_neg (by simp)];exact miss (by omega) (H2.trans X hr3) (UO _ _ _ _)
 .exact⟨(at_ .bad 0,s),by simp[mv,h,KKi],fun q=>absurd rfl q⟩
 .rw[h] at st
  refine⟨({pc:= .w2,old:=s.wg},s),by simp[mv,h,KKi],fun _=>⟨_,_,_,st,hsh,.refl _,C2 (okW R.ne) rfl,?_⟩⟩;rw[if_neg (by simp)];refine aC (UM _ _ _ _) (lx (T:={pc:= .w2,old:=s.wg}) fun k3 w3 hk3 hr3=>cZ (aU (z0 _ _ _ _)) (by simp) (by simp) (by simp) (by simp) (fun s' _ hf hn=>?_) (fun s' hsh' hf' _=>?_))
  .exfalso
   by_cases q:s'.wg=s.wg<;>simp[mv,q] at hn
  by_cases q:s'.wg=s.wg
  .have hs2:=hsh'.setWg R.ne 8589934593
   have ef:=ConcM.Eff.set (w:=w3) (Mu:=X.Fd) (Wg:=X.Wg) (wA X) (.int .u64 8589934593) (.inr rfl);refine⟨(at_ .pw 0,{s' with wg:=s'.wg+1}),by simp[mv,q],fun _=>⟨_,_,_,mo (P:=PP) (main:=true) Fw .u64 Gy (z0 _ _ _ _) (by
    have:=hsh'.Jj;rw[q,h] at this;exact this) (hsh'.NL 0),?_,ef,ot (okW R.ne) rfl,?_⟩⟩
   .rw[q,h];exact hs2
   rw[if_neg (by simp)];have H3:=(H2.trans X hr3).trans X (R.rx ef hs2);refine aC (UI _ _ _ _) (Bb (x:=0) R (H3.live live) (UH _ _ _ _) Z3 Z4 Z2 (Uz _ _ _ _) (Uy _ _ _ _) (Um _ _ _ _) (OQ _ _ _ _) (Uj _ _ _ _) (Ui _ _ _ _) (TX _ _ _ _) (gL:=default) (gM:=default) fun k' w' hr=>?_)
   exact Ar R ((H3.trans X hr).live live) (TW _ _ _ _) (OK _ _ _ _) (OJ _ _ _ _) TZ T0 TY (OG _ _ _ _) (OH _ _ _ _) fun w'' o hr' ho hD=>hP w'' o _ ((H3.trans X hr).trans X hr') ho hD (Kl _ _ _ _)
  .refine⟨(at_ .w1 0,s'),by simp[mv,q],fun _=>⟨_,_,_,lC (P:=PP) (main:=true) Fw .u64 Gy (z0 _ _ _ _) hsh'.Jj (hsh'.NL 0) (by rw[h] at q;exact q),hsh',.refl _,C2 (okW R.ne) rfl,?_⟩⟩
   rw[if_neg (by simp)];exact miss (by omega) (H2.trans X hr3) (UL _ _ _ _)
 .exact⟨(at_ .bad 0,s),by simp[mv,h,KKi],fun q=>absurd rfl q⟩
theorem G2 (R:Room X γ)(live:∃s,ShAt X w s)(hP:∀w' o g,RR X γ w w'->w'.heap[X.M]? =some o->X.Dat (X.fin .a) (X.fin .b) o->au PP true g (cC fr cs U)->Post γ g w'){k:Nat}:LS X Post γ k (at_ .kw 0) (sW0 X.Wg fr cs) w:=by
 refine aC (D7 _ _ _) (j7 R (T':=at_ .w1 0) (g':=resume (Hy X.Wg fr cs) U) (by simp) (by simp) (aU (FI _ _ _)) (fun w=>jg GR .disable IX (FI _ _ _)) (by simp[mv]) (by simp[EvStop,ja,pJ]) (by simp) (by simp) (by simp) (by simp) (by simp) (by simp) fun k' w' hk hr=>?_);obtain⟨tm,hH,hg⟩:=TV X.Wg fr cs
 exact aC hg (G1 R live hP k' tm w' hr hH)
end
end aH
end
end
end Go.Proofs.YtchcmhodnkgojaaGreat
