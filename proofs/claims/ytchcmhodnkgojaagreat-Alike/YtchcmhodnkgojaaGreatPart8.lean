/- On the way to the last text; put together and shortened by program. -/
import Derived.Test.YtchcmhodnkgojaaGreatPart7
import Derived.MapKept
set_option linter.all false
set_option maxRecDepth 100000
set_option maxHeartbeats 8000000
namespace Go.Proofs.YtchcmhodnkgojaaGreat
noncomputable section
section
open Go.Conc
open Go.ConcM (OsLater)
namespace aI
section
variable {Δ:Type}{X:Cx Δ}{r:bm}{k:Nat}{T T':Lo}{γ:Gh Δ}{g g':Goroutine}{w w':World}
theorem RX.dx {deaf:Bool}{ro own:Nat->Prop}{w w':World}(e:ConcM.Eff X.Fd X.Wg w w')(ht:∀b:Nat,w'.heap[b]? =w.heap[b]?):DX X deaf ro own w w' #[]:=
 ⟨e.tape,e.output,Nat.le_of_eq e.size.symm,e.os,fun b _ _=>ht b,by simp,fun _=>rfl⟩
variable (hm:uC r=false)(R:Room X γ)
include hm R
theorem qW {f:FuncId}{fn:Func}(hX:Ext PP f fn){v:Value}(he:Extern.find fn=some (fun _=>pure v)){args:Array Value}(hc:aG g=some (f,args))(go:LW X r γ k T (resume g v) w):LW X r γ k T g w:=by
 refine aD.step (aU hc).1 fun w₁ hr=>⟨_,w₁,#[],yP hX v he hc,(jA _ _ γ.own w₁).1,?_⟩
 have:=(jA (X:=X) (eH T.pc) γ.ro γ.own w₁).2;rw[this];exact go.rely hr
theorem oR {args:Array Value}(hc:aG g=some (224,args))(go:∀m w',RR X γ w w'->LW X r γ k T (resume g (.int .i64 ((m:Nat):Int))) w')(live:∃s,ShAt X w s):LW X r γ k T g w:=by
 refine aD.step (aU hc).1 fun w₁ hr=>?_
 have ef:=ConcM.Eff.later (Mu:=X.Fd) (Wg:=X.Wg) w₁;obtain⟨s,hs⟩:=hr.live live;have hs':ShAt X w₁.later s:=⟨hs.1,hs.2⟩
 refine⟨_,w₁.later,#[],yQ (P:=PP) (main:=false) (w:=w₁) Q7 R4 Rq hc,RX.dx ef fun _=>rfl,?_⟩;have e:(eS X (eH T.pc) γ.ro).up γ.own w₁ w₁.later=γ.own:=by
  funext b
  exact propext ⟨fun h=>h.elim id fun z=>by have:w₁.later.heap.size=w₁.heap.size:=rfl;omega,.inl⟩
 rw[e];exact go _ _ (hr.trans X (R.rx ef hs'))
theorem ui (hpc:T.pc= .c2){old nw:Int}(ho:T.old=old)(hn:T.nw=nw)(hc:aG g=some (217,#[pt X.Fd,.int .i32 old,.int .i32 nw]))
  (hit:(old=0\/old=2)->∀k' w',k'<k->RR X γ w w'->LW X r γ k' (at_ .le T.n) (resume g (.bool true)) w')
  (slp:¬(old=0\/old=2)->∀k' w',k'<k->RR X γ w w'->LW X r γ k' {pc:= .s1,sv:=T.sv,n:=T.n} (resume g (.bool true)) w')
  (miss:∀k' w',k'<k->RR X γ w w'->LW X r γ k' {T with pc:= .r3,old:=0,nw:=0} (resume g (.bool false)) w'):LW X r γ k T g w:=by
 by_cases h02:old=0\/old=2
 .refine AM hm R (T1:=at_ .le T.n) (T2:={T with pc:= .r3,old:=0,nw:=0}) (.inl hpc) hc (fun s e=>?_) (fun s _ e=>?_) (by unfold iX;rw[hpc]) (by simp) (by unfold iX;rw[hpc]) (by simp) (hit h02) (fun _=>miss)
  .unfold mv
   rw[hpc];simp[ho,hn,e,h02]
  .refine⟨({T with pc:= .r3,old:=0,nw:=0},s),?_,.inr rfl⟩
   unfold mv;rw[hpc];simp[ho,e]
 .refine AM hm R (T1:={pc:= .s1,sv:=T.sv,n:=T.n}) (T2:={T with pc:= .r3,old:=0,nw:=0}) (.inl hpc) hc (fun s e=>?_) (fun s _ e=>?_) (by unfold iX;rw[hpc]) (by simp) (by unfold iX;rw[hpc]) (by simp) (slp h02) (fun _=>miss)
  .unfold mv
   rw[hpc];simp[ho,hn,e,h02]
  .refine⟨({T with pc:= .r3,old:=0,nw:=0},s),?_,.inr rfl⟩
   unfold mv;rw[hpc];simp[ho,e]
end
section
variable {Δ:Type}{X:Cx Δ}{r:bm}{γ:Gh Δ}{g:Goroutine}{w0 w:World}{n:Nat}{fr:Frame}{cs:List Frame}
def jm (X:Cx Δ)(r:bm)(γ:Gh Δ)(n:Nat)(fr:Frame)(cs:List Frame)(w0:World)(k:Nat):Prop:=
 ∀(aK:Nat) (tm:Array Value) (w:World) (T:Lo),RR X γ w0 w->T.n=n->HH X.Fd aK T.sv T.aw T.it T.old tm->(hd T).pc≠.bad->LW X r γ k (hd T) (gH X.Fd fr cs tm) w
variable (hm:uC r=false)(R:Room X γ)(live:∃s,ShAt X w0 s)(tk:Taken X r γ n fr cs w0)
include hm R
theorem ig {k:Nat}{T:Lo}(ih:∀k',k'<k->jm X r γ n fr cs w0 k')(h0:RR X γ w0 w)(hpc:T.pc= .r0\/T.pc= .r1\/T.pc= .r3)(hn:T.n=n)(h00:T.pc= .r0->T.aw=false/\T.sv=false/\T.it=0){aK:Nat}{it':Int}
  (hit:it'=if T.pc= .r1 then IntKind.i64.wrap (T.it+1) else T.it) (hv:aQ g=some (.load 21 (pt X.Fd))) (hq:(PP.funcs[g.frame.fn]?).any (·.norace)=true)
  (go:∀v,∃tm,HH X.Fd aK T.sv T.aw it' v tm/\av PP false (resume g (.int .i32 v)) (gH X.Fd fr cs tm)):LW X r γ k T g w:=by
 refine AL hm R (by rcases hpc with h|h|h<;>simp[h]) hv hq fun s hf=>?_
 obtain⟨tm,hH,hg⟩:=go s.mu;have hne:∀T1:Lo,(hd T1).pc≠.quit:=fun T1=>by rcases CJ T1 with h|h|h<;>rw[h]<;>simp
 rcases hpc with h|h|h
 .obtain⟨a1,a2,a3⟩:=h00 h
  refine⟨(hd {pc:= .r0,old:=s.mu,n:=T.n},s),by unfold mv;rw[h];simp,?_⟩
  by_cases hb:(hd {pc:= .r0,old:=s.mu,n:=T.n}).pc= .bad
  .exact .inl hb
  .refine .inr ⟨rfl,by unfold iX;rw[h],hne _,fun k' w' hk hr=>aC hg (ih k' hk aK tm w' {pc:= .r0,old:=s.mu,n:=T.n} (h0.trans X hr) hn ?_ hb)⟩
   rw[if_neg (by rw[h];simp)] at hit;rw[hit,a1,a2,a3] at hH;exact hH
 .refine⟨(hd {T with old:=s.mu,it:=IntKind.i64.wrap (T.it+1)},s),by unfold mv;rw[h];simp,?_⟩
  by_cases hb:(hd {T with old:=s.mu,it:=IntKind.i64.wrap (T.it+1)}).pc= .bad
  .exact .inl hb
  .refine .inr ⟨rfl,by unfold iX;rw[h],hne _,fun k' w' hk hr=>aC hg (ih k' hk aK tm w' {T with old:=s.mu,it:=IntKind.i64.wrap (T.it+1)} (h0.trans X hr) hn ?_ hb)⟩
   rw[if_pos h] at hit;rw[hit] at hH;exact hH
 .refine⟨(hd {T with old:=s.mu},s),by unfold mv;rw[h];simp,?_⟩
  by_cases hb:(hd {T with old:=s.mu}).pc= .bad
  .exact .inl hb
  .refine .inr ⟨rfl,by unfold iX;rw[h],hne _,fun k' w' hk hr=>aC hg (ih k' hk aK tm w' {T with old:=s.mu} (h0.trans X hr) hn ?_ hb)⟩
   rw[if_neg (by rw[h];simp)] at hit;rw[hit] at hH;exact hH
include live tk
theorem Dh {k:Nat}{tm:Array Value}(h0:RR X γ w0 w)(h:HR X.Fd tm):LW X r γ k (at_ .le n) (gR X.Fd fr cs tm) w:=by
 rw[h.eq];exact aC (Z3 _ _ _ _) (Dg hm R (Z2 _ _ _ _) (Z1 _ _ _ _) (Z0 _ _ _ _) afh afi afg (ZZ _ _ _ _) (UH _ _ _ _) (Z4 _ _ _ _) (h0.live live) fun k w1 d o hr=>tk k w1 d o (h0.trans X hr))
theorem Sf {k:Nat}{T:Lo}(ih:∀k',k'<k->jm X r γ n fr cs w0 k'){tm:Array Value}{aK:Nat}(h0:RR X γ w0 w)(h:HQ X.Fd aK T.sv tm)(hpc:T.pc= .r2)(hn:T.n=n)(hT:T.old=0/\T.nw=0/\T.aw=false/\T.it=0):
  LW X r γ k T (gN X.Fd fr cs tm) w:=by
 rw[h.eq];have hne:∀T1:Lo,(hd T1).pc≠.quit:=fun T1=>by rcases CJ T1 with h|h|h<;>rw[h]<;>simp
 have add:∀{k1:Nat} {w1:World} {d:Int} {gg:Goroutine} {T1:Lo},RR X γ w0 w1->T1.n=n->T1.pc= .a1->T1.nw=d->(d=-11\/d=-7)->aG gg=some (219,#[pt X.Fd,.int .i32 d])->
   (∀v,∃tm,HR X.Fd tm/\av PP false (resume gg (.int .i32 v)) (gR X.Fd fr cs tm))->LW X r γ k1 T1 gg w1:=by
  intro k1 w1 d gg T1 h1 hn1 hp1 hd1 hdd hc hgo;refine MV hm R (.inl hp1) hc fun s hf=>?_
  by_cases hcase:(s.mu=12/\T1.nw=-11)\/(s.mu=20/\(T1.nw=-7\/T1.nw=-11))
  .refine⟨(at_ .le T1.n,{s with mu:=s.mu+T1.nw}),by unfold mv;rw[hp1];simp[hcase],.inr ⟨?_,by unfold iX;rw[hp1],by simp,fun k' w' hk hr=>?_⟩⟩
   .have:IntKind.i32.wrap (s.mu+d)=s.mu+T1.nw:=by
     rw[hd1];rw[hd1] at hcase;rcases hcase with⟨a,b⟩|⟨a,b|b⟩<;>rw[a,b]<;>decide
    rw[this]
   .obtain⟨tm,hR,hg⟩:=hgo (IntKind.i32.wrap (s.mu+d))
    have:(at_ .le T1.n)=at_ .le n:=by rw[hn1]
    dsimp only;rw[this];exact aC hg (Dh hm R live tk (h1.trans X hr) hR)
  .exact⟨(at_ .bad T1.n,s),by unfold mv;rw[hp1];simp[hcase],.inl rfl⟩
 obtain⟨pc,old,nw,aw,sv,it,n'⟩:=T;simp only at hpc hn hT;obtain⟨rfl,rfl,rfl,rfl⟩:=hT;subst hpc;subst hn;cases sv with
 |false=>
  refine aC (agM _ _ _ _ _) (AL hm R (by simp) (agL _ _ _ _ _) (acm _ _ _ _ _) fun s hf=>?_)
  by_cases h23:s.mu=2\/s.mu=3
  .refine⟨(hd {pc:= .r2,old:=s.mu,aw:=true,it:=0,n:=n'},s),by simp[mv,h23],.inr ⟨rfl,rfl,hne _,fun k' w' hk hr=>?_⟩⟩
   rcases h23 with e|e
   .rw[e]
    obtain⟨tm,hH,hg⟩:=f_2 X.Fd fr cs aK fun i=>tm.getD i undef
    exact aC hg (ih k' hk aK tm w' {pc:= .r2,old:=2,aw:=true,it:=0,n:=n'} (h0.trans X hr) rfl hH (by simp[hd]))
   .rw[e]
    obtain⟨tm,hH,hg⟩:=f_3 X.Fd fr cs aK fun i=>tm.getD i undef
    exact aC hg (ih k' hk aK tm w' {pc:= .r2,old:=3,aw:=true,it:=0,n:=n'} (h0.trans X hr) rfl hH (by simp[hd]))
  .by_cases h12:s.mu=12
   .refine⟨({pc:= .a1,nw:=-11,n:=n'},s),by simp[mv,h12],.inr ⟨rfl,rfl,by simp,fun k' w' hk hr=>?_⟩⟩
    rw[h12];exact aC (agO _ _ _ _ _) (add (h0.trans X hr) rfl rfl rfl (.inl rfl) (PA _ _ _ _ _) fun v=>V2 _ _ _ _ _ _)
   .by_cases h20:s.mu=20
    .refine⟨({pc:= .a1,nw:=-11,n:=n'},s),by simp[mv,h20],.inr ⟨rfl,rfl,by simp,fun k' w' hk hr=>?_⟩⟩
     rw[h20];exact aC (agN _ _ _ _ _) (add (h0.trans X hr) rfl rfl rfl (.inl rfl) (Pz _ _ _ _ _) fun v=>V1 _ _ _ _ _ _)
    .exact⟨(at_ .bad n',s),by simp[mv,h23,h12,h20],.inl rfl⟩
 |true=>
  refine aC (ace _ _ _ _ _) (AL hm R (by simp) (acd _ _ _ _ _) (Xh _ _ _ _ _) fun s hf=>?_)
  by_cases h23:s.mu=2\/s.mu=3
  .refine⟨(hd {pc:= .r2,old:=s.mu,aw:=true,sv:=true,it:=0,n:=n'},s),by simp[mv,h23],.inr ⟨rfl,rfl,hne _,fun k' w' hk hr=>?_⟩⟩
   rcases h23 with e|e
   .rw[e]
    obtain⟨tm,hH,hg⟩:=agF X.Fd fr cs aK fun i=>tm.getD i undef
    exact aC hg (ih k' hk aK tm w' {pc:= .r2,old:=2,aw:=true,sv:=true,it:=0,n:=n'} (h0.trans X hr) rfl hH (by simp[hd]))
   .rw[e]
    obtain⟨tm,hH,hg⟩:=agE X.Fd fr cs aK fun i=>tm.getD i undef
    exact aC hg (ih k' hk aK tm w' {pc:= .r2,old:=3,aw:=true,sv:=true,it:=0,n:=n'} (h0.trans X hr) rfl hH (by simp[hd]))
  .by_cases h12:s.mu=12
   .refine⟨({pc:= .a1,nw:=-11,n:=n'},s),by simp[mv,h12],.inr ⟨rfl,rfl,by simp,fun k' w' hk hr=>?_⟩⟩
    rw[h12];exact aC (acg _ _ _ _ _) (add (h0.trans X hr) rfl rfl rfl (.inl rfl) (K9 _ _ _ _ _) fun v=>Py _ _ _ _ _ _)
   .by_cases h20:s.mu=20
    .refine⟨({pc:= .a1,nw:=-7,n:=n'},s),by simp[mv,h20],.inr ⟨rfl,rfl,by simp,fun k' w' hk hr=>?_⟩⟩
     rw[h20];exact aC (acf _ _ _ _ _) (add (h0.trans X hr) rfl rfl rfl (.inr rfl) (K7 _ _ _ _ _) fun v=>Px _ _ _ _ _ _)
    .exact⟨(at_ .bad n',s),by simp[mv,h23,h12,h20],.inl rfl⟩
theorem acW {k:Nat}{T:Lo}(ih:∀k',k'<k->jm X r γ n fr cs w0 k'){tm:Array Value}{aK:Nat}(h0:RR X γ w0 w)(h:HQ X.Fd aK T.sv tm)(hn:T.n=n)(hT:T.pc=(if T.sv then .r2 else .t2)/\T.old=0/\T.nw=0/\T.aw=false/\T.it=0):
  LW X r γ k T (gQ X.Fd fr cs tm) w:=by
 rw[h.eq];obtain⟨pc,old,nw,aw,sv,it,n'⟩:=T;simp only at hT hn;obtain⟨hpc,rfl,rfl,rfl,rfl⟩:=hT;subst hn;cases sv with
 |true=>
  obtain rfl:pc= .r2:=by simpa using hpc
  obtain⟨tm',hQ,hg⟩:=Z6 X.Fd fr cs aK fun i=>tm.getD i undef
  exact aC hg (Sf hm R live tk ih h0 hQ rfl rfl ⟨rfl,rfl,rfl,rfl⟩)
 |false=>
  obtain rfl:pc= .t2:=by simpa using hpc
  refine aC (Z8 _ _ _ _ _) (MU hm R rfl (OG _ _ _ _ _) (late X.Fd fr cs aK fun i=>tm.getD i undef) fun k' w' m hk hr=>?_);obtain⟨tm',hQ,hg⟩:=Z7 X.Fd fr cs aK (fun i=>tm.getD i undef) m
  refine aC hg (Sf hm R live tk (fun k1 h1=>ih k1 (by omega)) (aK:=aK) (h0.trans X hr) (T:={pc:= .r2,sv:=if late X.Fd fr cs aK (fun i=>tm.getD i undef) m then true else false,n:=n'}) ?_ rfl rfl ⟨rfl,rfl,rfl,rfl⟩);have e:(if late X.Fd fr cs aK (fun i=>tm.getD i undef) m=true then true else false)=late X.Fd fr cs aK (fun i=>tm.getD i undef) m:=by
   cases late X.Fd fr cs aK (fun i=>tm.getD i undef) m<;>rfl
  simp only[e];exact hQ
theorem uh {k:Nat}{sv:Bool}(ih:∀k',k'<k->jm X r γ n fr cs w0 k'){aK:Nat}{u v:Value}(h0:RR X γ w0 w)(hc:aG g=some (225,#[pF X.Fd,u,v]))
  (go:∃tm,HQ X.Fd aK sv tm/\av PP false (resume g U) (gQ X.Fd fr cs tm)):LW X r γ k {pc:= .s1,sv:=sv,n:=n} g w:=by
 refine XW hm R rfl hc rfl fun k' w' hk hr=>?_
 obtain⟨tm,hQ,hg⟩:=go;exact aC hg (acW hm R live tk (fun k1 h1=>ih k1 (by omega)) (h0.trans X hr) hQ rfl ⟨rfl,rfl,rfl,rfl,rfl⟩)
theorem Wk {k:Nat}{tm:Array Value}{aK:Nat}{it:Int}(ih:∀k',k'<k->jm X r γ n fr cs w0 k')(h0:RR X γ w0 w)(h:HH X.Fd aK false false it 0 tm):LW X r γ k {pc:= .c2,old:=0,nw:=1,aw:=false,sv:=false,it:=it,n:=n} (gH X.Fd fr cs tm) w:=by
 rw[h.eq];refine aC (abU _ _ _ _ _ _) ?_;refine ui hm R rfl rfl rfl (XS _ _ _ _ _ _) (fun _ k2 w2 hk hr=>?_) (fun h=>absurd (by simp) h) (fun k2 w2 hk hr=>?_)
 .obtain⟨tm',hR,hg⟩:=XR X.Fd fr cs aK it (fun i=>tm.getD i undef)
  exact aC hg (Dh hm R live tk (h0.trans X hr) hR)
 .exact aC (QL _ _ _ _ _ _) (ig hm R (fun k1 h1=>ih k1 (by omega)) (h0.trans X hr) (.inr (.inr rfl)) rfl (by simp) (it':=it) (by simp) (aaR _ _ _ _ _ _) (Vn _ _ _ _ _ _) fun v=>aaS _ _ _ _ _ v _)
theorem Wj {k:Nat}{tm:Array Value}{aK:Nat}{it:Int}(ih:∀k',k'<k->jm X r γ n fr cs w0 k')(h0:RR X γ w0 w)(h:HH X.Fd aK false false it 1 tm):LW X r γ k {pc:= .sq,old:=1,nw:=0,aw:=false,sv:=false,it:=it,n:=n} (gH X.Fd fr cs tm) w:=by
 rw[h.eq];refine aC (abT _ _ _ _ _ _) (AK hm R rfl rfl (acT _ _ _ _ _ _) (fun k1 w1 hk1 hr1=>?_) rfl (fun k1 w1 hk1 hr1=>?_))
 .have e:cl {pc:= .sq,old:=1,nw:=0,aw:=false,sv:=false,it:=it,n:=n}={pc:= .c2,old:=1,nw:=9,aw:=false,sv:=false,it:=it,n:=n}:=rfl
  rw[e];have h0:=h0.trans X hr1;refine aC (acU _ _ _ _ _ _) ?_;refine ui hm R rfl rfl rfl (XQ _ _ _ _ _ _) (fun h=>absurd h (by simp)) (fun _ k2 w2 hk hr=>?_) (fun k2 w2 hk hr=>?_)
  .have h0:=h0.trans X hr
   cases aK with
   |zero=>exact aC (QJ _ _ _ _ _) (oR hm R (O9 _ _ _ _ _) (fun m w3 hr3=>aC (aaL X.Fd fr cs m it (fun i=>tm.getD i undef)) (uh hm R live tk (fun k1 h1=>ih k1 (by omega)) (h0.trans X hr3) (UU _ _ _ _ _ _) (aag _ _ _ _ _ _))) (h0.live live))
   |succ aK=>exact aC (QI _ _ _ _ _ _) (uh hm R live tk (fun k1 h1=>ih k1 (by omega)) h0 (UO _ _ _ _ _ _) (aac _ _ _ _ _ _))
  .exact aC (QH _ _ _ _ _ _) (ig hm R (fun k1 h1=>ih k1 (by omega)) (h0.trans X hr) (.inr (.inr rfl)) rfl (by simp) (it':=it) (by simp) (aaP _ _ _ _ _ _) (Vk _ _ _ _ _ _) fun v=>aaQ _ _ _ _ _ v _)
 .exact aC (XV _ _ _ _ _ _) (qW hm R xDo fDo (acI _ _ _ _ _ _) (aC (acH _ _ _ _ _ _) (ig hm R (fun k2 h2=>ih k2 (by omega)) (h0.trans X hr1) (.inr (.inl rfl)) rfl (by simp) (it':=IntKind.i64.wrap (it+1)) (by simp) (acF _ _ _ _ _ _) (XC _ _ _ _ _ _) fun v=>acG _ _ _ _ _ v _)))
theorem PJ {k:Nat}{tm:Array Value}{aK:Nat}{it:Int}(ih:∀k',k'<k->jm X r γ n fr cs w0 k')(h0:RR X γ w0 w)(h:HH X.Fd aK false true it 2 tm):LW X r γ k {pc:= .c2,old:=2,nw:=1,aw:=true,sv:=false,it:=it,n:=n} (gH X.Fd fr cs tm) w:=by
 rw[h.eq];refine aC (Wv _ _ _ _ _ _) ?_;refine ui hm R rfl rfl rfl (QF _ _ _ _ _ _) (fun _ k2 w2 hk hr=>?_) (fun h=>absurd (by simp) h) (fun k2 w2 hk hr=>?_)
 .obtain⟨tm',hR,hg⟩:=QE X.Fd fr cs aK it (fun i=>tm.getD i undef)
  exact aC hg (Dh hm R live tk (h0.trans X hr) hR)
 .exact aC (ML _ _ _ _ _ _) (ig hm R (fun k1 h1=>ih k1 (by omega)) (h0.trans X hr) (.inr (.inr rfl)) rfl (by simp) (it':=it) (by simp) (Vh _ _ _ _ _ _) (Pj _ _ _ _ _ _) fun v=>Vi _ _ _ _ _ v _)
theorem Lq {k:Nat}{tm:Array Value}{aK:Nat}{it:Int}(ih:∀k',k'<k->jm X r γ n fr cs w0 k')(h0:RR X γ w0 w)(h:HH X.Fd aK true true it 2 tm):LW X r γ k {pc:= .c2,old:=2,nw:=1,aw:=true,sv:=true,it:=it,n:=n} (gH X.Fd fr cs tm) w:=by
 rw[h.eq];refine aC (PV _ _ _ _ _ _) ?_;refine ui hm R rfl rfl rfl (MK _ _ _ _ _ _) (fun _ k2 w2 hk hr=>?_) (fun h=>absurd (by simp) h) (fun k2 w2 hk hr=>?_)
 .obtain⟨tm',hR,hg⟩:=MJ X.Fd fr cs aK it (fun i=>tm.getD i undef)
  exact aC hg (Dh hm R live tk (h0.trans X hr) hR)
 .exact aC (I6 _ _ _ _ _ _) (ig hm R (fun k1 h1=>ih k1 (by omega)) (h0.trans X hr) (.inr (.inr rfl)) rfl (by simp) (it':=it) (by simp) (Ph _ _ _ _ _ _) (K1 _ _ _ _ _ _) fun v=>Pi _ _ _ _ _ v _)
theorem Wi {k:Nat}{tm:Array Value}{aK:Nat}{it:Int}(ih:∀k',k'<k->jm X r γ n fr cs w0 k')(h0:RR X γ w0 w)(h:HH X.Fd aK false false it 2 tm):LW X r γ k {pc:= .c2,old:=2,nw:=3,aw:=false,sv:=false,it:=it,n:=n} (gH X.Fd fr cs tm) w:=by
 rw[h.eq];refine aC (abS _ _ _ _ _ _) ?_;refine ui hm R rfl rfl rfl (XP _ _ _ _ _ _) (fun _ k2 w2 hk hr=>?_) (fun h=>absurd (by simp) h) (fun k2 w2 hk hr=>?_)
 .obtain⟨tm',hR,hg⟩:=XO X.Fd fr cs aK it (fun i=>tm.getD i undef)
  exact aC hg (Dh hm R live tk (h0.trans X hr) hR)
 .exact aC (QG _ _ _ _ _ _) (ig hm R (fun k1 h1=>ih k1 (by omega)) (h0.trans X hr) (.inr (.inr rfl)) rfl (by simp) (it':=it) (by simp) (aaN _ _ _ _ _ _) (Vj _ _ _ _ _ _) fun v=>aaO _ _ _ _ _ v _)
theorem PI {k:Nat}{tm:Array Value}{aK:Nat}{it:Int}(ih:∀k',k'<k->jm X r γ n fr cs w0 k')(h0:RR X γ w0 w)(h:HH X.Fd aK false true it 3 tm):LW X r γ k {pc:= .sq,old:=3,nw:=0,aw:=true,sv:=false,it:=it,n:=n} (gH X.Fd fr cs tm) w:=by
 rw[h.eq];refine aC (Wu _ _ _ _ _ _) (AK hm R rfl rfl (XT _ _ _ _ _ _) (fun k1 w1 hk1 hr1=>?_) rfl (fun k1 w1 hk1 hr1=>?_))
 .have e:cl {pc:= .sq,old:=3,nw:=0,aw:=true,sv:=false,it:=it,n:=n}={pc:= .c2,old:=3,nw:=9,aw:=true,sv:=false,it:=it,n:=n}:=rfl
  rw[e];have h0:=h0.trans X hr1;refine aC (XU _ _ _ _ _ _) ?_;refine ui hm R rfl rfl rfl (QD _ _ _ _ _ _) (fun h=>absurd h (by simp)) (fun _ k2 w2 hk hr=>?_) (fun k2 w2 hk hr=>?_)
  .have h0:=h0.trans X hr
   cases aK with
   |zero=>exact aC (MI _ _ _ _ _) (oR hm R (KT _ _ _ _ _) (fun m w3 hr3=>aC (Va X.Fd fr cs m it (fun i=>tm.getD i undef)) (uh hm R live tk (fun k1 h1=>ih k1 (by omega)) (h0.trans X hr3) (OO _ _ _ _ _ _) (UT _ _ _ _ _ _))) (h0.live live))
   |succ aK=>exact aC (MH _ _ _ _ _ _) (uh hm R live tk (fun k1 h1=>ih k1 (by omega)) h0 (OI _ _ _ _ _ _) (UN _ _ _ _ _ _))
  .exact aC (MG _ _ _ _ _ _) (ig hm R (fun k1 h1=>ih k1 (by omega)) (h0.trans X hr) (.inr (.inr rfl)) rfl (by simp) (it':=it) (by simp) (Vf _ _ _ _ _ _) (Pg _ _ _ _ _ _) fun v=>Vg _ _ _ _ _ v _)
 .exact aC (QP _ _ _ _ _ _) (qW hm R xDo fDo (XF _ _ _ _ _ _) (aC (XE _ _ _ _ _ _) (ig hm R (fun k2 h2=>ih k2 (by omega)) (h0.trans X hr1) (.inr (.inl rfl)) rfl (by simp) (it':=IntKind.i64.wrap (it+1)) (by simp) (XA _ _ _ _ _ _) (Qo _ _ _ _ _ _) fun v=>XB _ _ _ _ _ v _)))
theorem Lp {k:Nat}{tm:Array Value}{aK:Nat}{it:Int}(ih:∀k',k'<k->jm X r γ n fr cs w0 k')(h0:RR X γ w0 w)(h:HH X.Fd aK true true it 3 tm):LW X r γ k {pc:= .sq,old:=3,nw:=0,aw:=true,sv:=true,it:=it,n:=n} (gH X.Fd fr cs tm) w:=by
 rw[h.eq];refine aC (PU _ _ _ _ _ _) (AK hm R rfl rfl (QN _ _ _ _ _ _) (fun k1 w1 hk1 hr1=>?_) rfl (fun k1 w1 hk1 hr1=>?_))
 .have e:cl {pc:= .sq,old:=3,nw:=0,aw:=true,sv:=true,it:=it,n:=n}={pc:= .c2,old:=3,nw:=13,aw:=true,sv:=true,it:=it,n:=n}:=rfl
  rw[e];have h0:=h0.trans X hr1;refine aC (QO _ _ _ _ _ _) ?_;refine ui hm R rfl rfl rfl (MF _ _ _ _ _ _) (fun h=>absurd h (by simp)) (fun _ k2 w2 hk hr=>?_) (fun k2 w2 hk hr=>?_)
  .have h0:=h0.trans X hr
   cases aK with
   |zero=>exact aC (I5 _ _ _ _ _) (oR hm R (Ig _ _ _ _ _) (fun m w3 hr3=>aC (O7 X.Fd fr cs m it (fun i=>tm.getD i undef)) (uh hm R live tk (fun k1 h1=>ih k1 (by omega)) (h0.trans X hr3) (KB _ _ _ _ _ _) (ON _ _ _ _ _ _))) (h0.live live))
   |succ aK=>exact aC (I4 _ _ _ _ _ _) (uh hm R live tk (fun k1 h1=>ih k1 (by omega)) h0 (Kt _ _ _ _ _ _) (OH _ _ _ _ _ _))
  .exact aC (I3 _ _ _ _ _ _) (ig hm R (fun k1 h1=>ih k1 (by omega)) (h0.trans X hr) (.inr (.inr rfl)) rfl (by simp) (it':=it) (by simp) (Pe _ _ _ _ _ _) (KZ _ _ _ _ _ _) fun v=>Pf _ _ _ _ _ v _)
 .exact aC (MR _ _ _ _ _ _) (qW hm R xDo fDo (Qt _ _ _ _ _ _) (aC (Qs _ _ _ _ _ _) (ig hm R (fun k2 h2=>ih k2 (by omega)) (h0.trans X hr1) (.inr (.inl rfl)) rfl (by simp) (it':=IntKind.i64.wrap (it+1)) (by simp) (Qm _ _ _ _ _ _) (Mn _ _ _ _ _ _) fun v=>Qn _ _ _ _ _ v _)))
theorem PK {k:Nat}{tm:Array Value}{aK:Nat}{it:Int}(ih:∀k',k'<k->jm X r γ n fr cs w0 k')(h0:RR X γ w0 w)(h:HH X.Fd aK false false it 12 tm):LW X r γ k {pc:= .c2,old:=12,nw:=20,aw:=false,sv:=false,it:=it,n:=n} (gH X.Fd fr cs tm) w:=by
 rw[h.eq];refine aC (Ww _ _ _ _ _ _) ?_;refine ui hm R rfl rfl rfl (QK _ _ _ _ _ _) (fun h=>absurd h (by simp)) (fun _ k2 w2 hk hr=>?_) (fun k2 w2 hk hr=>?_)
 .have h0:=h0.trans X hr
  cases aK with
  |zero=>exact aC (MO _ _ _ _ _) (oR hm R (KU _ _ _ _ _) (fun m w3 hr3=>aC (Vb X.Fd fr cs m it (fun i=>tm.getD i undef)) (uh hm R live tk (fun k1 h1=>ih k1 (by omega)) (h0.trans X hr3) (OP _ _ _ _ _ _) (UV _ _ _ _ _ _))) (h0.live live))
  |succ aK=>exact aC (MN _ _ _ _ _ _) (uh hm R live tk (fun k1 h1=>ih k1 (by omega)) h0 (OJ _ _ _ _ _ _) (UP _ _ _ _ _ _))
 .exact aC (MM _ _ _ _ _ _) (ig hm R (fun k1 h1=>ih k1 (by omega)) (h0.trans X hr) (.inr (.inr rfl)) rfl (by simp) (it':=it) (by simp) (Vl _ _ _ _ _ _) (Pk _ _ _ _ _ _) fun v=>Vm _ _ _ _ _ v _)
theorem heads:∀k,jm X r γ n fr cs w0 k:=by
 intro k
 induction k using Nat.strongRecOn with
 |_ k ih=>
 intro aK tm w T h0 hn hH hb;obtain⟨pc,old,nw,aw,sv,it,n'⟩:=T;simp only at hn hH;subst hn
 by_cases c0:old=0/\aw=false/\sv=false
 .obtain⟨rfl,rfl,rfl⟩:=c0
  exact Wk hm R live tk ih h0 hH
 by_cases c1:old=1/\aw=false/\sv=false
 .obtain⟨rfl,rfl,rfl⟩:=c1
  exact Wj hm R live tk ih h0 hH
 by_cases Sd:old=2/\aw=true/\sv=false
 .obtain⟨rfl,rfl,rfl⟩:=Sd
  exact PJ hm R live tk ih h0 hH
 by_cases Da:old=2/\aw=true/\sv=true
 .obtain⟨rfl,rfl,rfl⟩:=Da
  exact Lq hm R live tk ih h0 hH
 by_cases c2:old=2/\aw=false/\sv=false
 .obtain⟨rfl,rfl,rfl⟩:=c2
  exact Wi hm R live tk ih h0 hH
 by_cases Nw:old=3/\aw=true/\sv=false
 .obtain⟨rfl,rfl,rfl⟩:=Nw
  exact PI hm R live tk ih h0 hH
 by_cases yy:old=3/\aw=true/\sv=true
 .obtain⟨rfl,rfl,rfl⟩:=yy
  exact Lp hm R live tk ih h0 hH
 by_cases c12:old=12/\aw=false/\sv=false
 .obtain⟨rfl,rfl,rfl⟩:=c12
  exact PK hm R live tk ih h0 hH
 exfalso
 apply hb
 have nt:∀b:Bool,b=true\/b=false:=fun b=>by cases b<;>simp
 rcases nt aw with rfl|rfl<;>rcases nt sv with rfl|rfl<;>simp_all [hd]
theorem Im {k:Nat}(h0:RR X γ w0 w):LW X r γ k (at_ .r0 n) (P0 X.Fd fr cs) w:=
 ig hm R (fun k' _=>heads hm R live tk k') h0 (.inl rfl) rfl (by simp) (it':=0) (by simp) (lS0 _ _ _) (afE _ _ _) fun v=>Z5 _ _ _ v
theorem fast {k:Nat}(h0:RR X γ w0 w):LW X r γ k (at_ .l0 n) (resume (Xg X.Fd fr cs) U) w:=by
 refine aC ⟨200,_,afG _ _ _⟩ ?_;refine AM hm R (T1:=at_ .le n) (T2:=at_ .r0 n) (.inr (.inl rfl)) (lC1 _ _ _) (fun s e=>by simp[mv,e]) (fun s _ e=>⟨(at_ .r0 n,s),by simp[mv,e],.inr rfl⟩) rfl (by simp) rfl (by simp) (fun k' w' hk hr=>?_) (fun _ k' w' hk hr=>?_)
 .exact aC ⟨200,_,afJ _ _ _⟩ (Dg hm R (lE1 _ _ _) ⟨200,_,afF _ _ _⟩ (lV1 _ _ _) afB afC afA ⟨200,_,afD _ _ _⟩ (lA1 _ _ _) ⟨6,_,afK _ _ _⟩ ((h0.trans X hr).live live) fun k w1 d o hr1=>tk k w1 d o ((h0.trans X hr).trans X hr1))
 .exact aC ⟨200,_,afI _ _ _⟩ (Im hm R live tk (h0.trans X hr))
theorem In {k:Nat}:LW X r γ k (at_ .out (n+1)) (gL0 X.Fd fr cs) w0:=by
 refine aC ⟨200,_,lL0 _ _ _⟩ (ir fun k' w₁ hk hr=>?_);refine⟨(aU (lD1 _ _ _)).1,(aU (lD1 _ _ _)).2,by simp,by simp,fun s hsh hf=>⟨by simp[mv],fun d hd _=>?_⟩⟩;refine⟨(at_ .l0 n,s),by simp[mv],fun _=>⟨by simp,resume (Xg X.Fd fr cs) U,w₁,#[pK .disable],?_,hsh,.refl _,by simp[EvStop,iX],?_⟩⟩
 .rw[hm]
  exact jb GH .disable II (lD1 _ _ _)
 .unfold After
  rw[if_neg (by simp),hm];have:=fast hm R live tk (k:=k') hr;exact this
end
section
variable (F:Nat)(pf:Frame)(cs:List Frame)(v:Int)
def gU0:Goroutine:=G {(base 202).at ⟨#[pt F]++Array.replicate 5 undef,[]⟩ [.code (qo 202)] with kind:= .deferred} ({pf with mode:= .returning}::cs)
def uL:Goroutine:=O (gU0 F pf cs)
theorem Za:av PP false (gU0 F pf cs) (uL F pf cs):=⟨200,bN PP false 200 (gU0 F pf cs),fun ws=>by kernel_rfl⟩
theorem Rc:aQ (uL F pf cs)=some (.load 21 (pt F)):=by kernel_rfl
theorem aeZ:(PP.funcs[(uL F pf cs).frame.fn]?).any (·.norace)=true:=by kernel_rfl
def uV:Goroutine:=O (resume (uL F pf cs) (.int .i32 v))
theorem Y5:av PP false (resume (uL F pf cs) (.int .i32 v)) (uV F pf cs v):=⟨200,bN PP false 200 (resume (uL F pf cs) (.int .i32 v)),fun ws=>by kernel_rfl⟩
theorem Y2:aQ (uV F pf cs v)=some (.conv (yu (uV 0 default [] 0)) (zu (uV 0 default [] 0)) (pt F)):=by kernel_rfl
theorem aeX:PP.underlying (yu (uV 0 default [] 0))=some (.pointer (zt (uV 0 default [] 0))):=by kernel_rfl
theorem aeY:PP.underlying (zu (uV 0 default [] 0))=some .unsafePointer:=by kernel_rfl
theorem aeW:(PP.info? (zt (uV 0 default [] 0))).map (fun i=>decide (i.size=0))=some false:=by kernel_rfl
def uR:Goroutine:=O (resume (uV F pf cs v) (pt F))
theorem Y1:av PP false (resume (uV F pf cs v) (pt F)) (uR F pf cs v):=⟨200,bN PP false 200 (resume (uV F pf cs v) (pt F)),fun ws=>by kernel_rfl⟩
theorem JI:aG (uR F pf cs v)=some (193,#[pt F]):=by kernel_rfl
def uD:Goroutine:=O (resume (uR F pf cs v) U)
theorem Y4:av PP false (resume (uR F pf cs v) U) (uD F pf cs v):=⟨200,bN PP false 200 (resume (uR F pf cs v) U),fun ws=>by kernel_rfl⟩
theorem SE:aG (uD F pf cs v)=some (168,#[]):=by kernel_rfl
def uA:Goroutine:=O (resume (uD F pf cs v) U)
theorem Y7:av PP false (resume (uD F pf cs v) U) (uA F pf cs v):=⟨200,bN PP false 200 (resume (uD F pf cs v) U),fun ws=>by kernel_rfl⟩
theorem SF:aG (uA F pf cs v)=some (219,#[pt F,.int .i32 (-1)]):=by kernel_rfl
def uE (x:Int):Goroutine:=O (resume (uA F pf cs v) (.int .i32 x))
theorem ae5:av PP false (resume (uA F pf cs v) (.int .i32 0)) (uE F pf cs v 0):=⟨200,bN PP false 200 (resume (uA F pf cs v) (.int .i32 0)),fun ws=>by kernel_rfl⟩
theorem ae4:av PP false (resume (uA F pf cs v) (.int .i32 2)) (uE F pf cs v 2):=⟨200,bN PP false 200 (resume (uA F pf cs v) (.int .i32 2)),fun ws=>by kernel_rfl⟩
theorem ae3:av PP false (resume (uA F pf cs v) (.int .i32 8)) (uE F pf cs v 8):=⟨200,bN PP false 200 (resume (uA F pf cs v) (.int .i32 8)),fun ws=>by kernel_rfl⟩
theorem Y8:av PP false (resume (uA F pf cs v) (.int .i32 12)) (uE F pf cs v 12):=⟨200,bN PP false 200 (resume (uA F pf cs v) (.int .i32 12)),fun ws=>by kernel_rfl⟩
theorem ae2:aG (uE F pf cs v 0)=some (170,#[]):=by kernel_rfl
theorem ae1:aG (uE F pf cs v 2)=some (170,#[]):=by kernel_rfl
theorem ae0:aG (uE F pf cs v 8)=some (217,#[pt F,.int .i32 8,.int .i32 2]):=by kernel_rfl
theorem Y6:aG (uE F pf cs v 12)=some (227,#[pF F,.bool true,.int .i64 2]):=by kernel_rfl
def uS:Goroutine:=O (resume (uE F pf cs v 8) (.bool true))
theorem Y9:av PP false (resume (uE F pf cs v 8) (.bool true)) (uS F pf cs v):=⟨200,bN PP false 200 (resume (uE F pf cs v 8) (.bool true)),fun ws=>by kernel_rfl⟩
theorem Sz:aG (uS F pf cs v)=some (227,#[pF F,.bool false,.int .i64 2]):=by kernel_rfl
def uF8:Goroutine:=O (resume (uS F pf cs v) U)
theorem Y3:av PP false (resume (uS F pf cs v) U) (uF8 F pf cs v):=⟨200,bN PP false 200 (resume (uS F pf cs v) U),fun ws=>by kernel_rfl⟩
theorem SB:aG (uF8 F pf cs v)=some (170,#[]):=by kernel_rfl
def NL:Goroutine:=O (resume (uE F pf cs v 12) U)
theorem SG:av PP false (resume (uE F pf cs v 12) U) (NL F pf cs v):=⟨200,bN PP false 200 (resume (uE F pf cs v 12) U),fun ws=>by kernel_rfl⟩
theorem NK:aG (NL F pf cs v)=some (170,#[]):=by kernel_rfl
theorem SD:av PP false (resume (uE F pf cs v 0) U) (G {pf with mode:= .returning} cs):=⟨6,bN PP false 6 (resume (uE F pf cs v 0) U),fun ws=>by kernel_rfl⟩
theorem SC:av PP false (resume (uE F pf cs v 2) U) (G {pf with mode:= .returning} cs):=⟨6,bN PP false 6 (resume (uE F pf cs v 2) U),fun ws=>by kernel_rfl⟩
theorem SA:av PP false (resume (uF8 F pf cs v) U) (G {pf with mode:= .returning} cs):=⟨6,bN PP false 6 (resume (uF8 F pf cs v) U),fun ws=>by kernel_rfl⟩
theorem NJ:av PP false (resume (NL F pf cs v) U) (G {pf with mode:= .returning} cs):=⟨6,bN PP false 6 (resume (NL F pf cs v) U),fun ws=>by kernel_rfl⟩
end
theorem Vq {Δ:Type}{X:Cx Δ}{g:Goroutine}{w:World}{s:Sh}(hv:aQ g=some (.load 21 (pt X.Fd)))(hq:(PP.funcs[g.frame.fn]?).any (·.norace)=true)(hs:ShAt X w s):stepG PP false g w= .go (resume g (.int .i32 s.mu)) w #[]:=by
 refine Ry hv hs.XN ?_ ?_ hq
 .intro w
  cases hcc:w.cell? ⟨X.Fd,0,none⟩ with
  |none=>simp[mA]
  |some x=>simp[go_sem,hcc,mA,pt]
 .intro w x hx
  simp[go_sem,hx,mA,pt]
section
variable {Δ:Type}{X:Cx Δ}{r:bm}{k n:Nat}{γ:Gh Δ}{w:World}{pf:Frame}{cs:List Frame}{c d:Δ}
theorem Bc (hm:uC r=false)(R:Room X γ)(hM:¬γ.own X.M)(live:∃s,ShAt X w s)(hD:∃o,w.heap[X.M]? =some o/\AV X r c d o)
  (back:∀k w',RR X γ w w'->LW X r {γ with mine:=c,other:=d} k (at_ .out n) (G {pf with mode:= .returning} cs) w'):
  aD PP false (eS X false γ.ro) (dL (GD X PP k r) (at_ .ur n) {γ with own:=fun b=>γ.own b\/b=X.M,other:=d}) (fun b=>γ.own b\/b=X.M) (gU0 X.Fd pf cs) w:=by
 have sub:∀{w w':World},RX X γ.ro (fun b=>γ.own b\/b=X.M) w w'->RR X γ w w':=fun h=>⟨h.tape,h.output,h.size,h.os,fun b hb ho=>h.keep b hb (ho.imp .inl id),h.live⟩
 have R':Room X {γ with mine:=c,other:=d}:=⟨R.ne,R.off⟩
 refine aC (Za _ _ _) (aD.step (cV (Rc _ _ _)).1 fun w₁ hr=>?_);obtain⟨s0,hs⟩:=hr.live live;refine⟨_,w₁,#[],Vq (Rc _ _ _) (aeZ _ _ _) hs,(jA _ _ _ w₁).1,?_⟩;have e0:=(jA (X:=X) false γ.ro (fun b=>γ.own b\/b=X.M) w₁).2;rw[e0];refine aC (Y5 _ _ _ _) (p9 (Y2 _ _ _ _) aeX aeY aeW (fun w₂ hr2=>?_) (aC (Y1 _ _ _ _) ?_))
 .obtain⟨s,hs⟩:=(hr.trans X hr2).live live
  exact⟨_,hs.XN⟩
 cases k with
 |zero=>exact aD.stop fun w₂ hr2=>⟨c,fun h=>absurd rfl h,trivial⟩
 |succ k=>
 refine aD.stop fun w₂ hr2=>⟨c,fun h=>absurd rfl h,?_⟩
 obtain⟨o,ho,hDo⟩:=hD;have hlt:=(Array.getElem?_eq_some_iff.1 ho).1;have abl:=hr.trans X hr2;have ho2:w₂.heap[X.M]? =some o:=(abl.keep X.M hlt (.inl (.inr rfl))).trans ho;refine⟨(aU (JI _ _ _ _)).1,(aU (JI _ _ _ _)).2,by simp,fun _=>⟨o,ho2,hDo⟩,fun s hsh hf=>⟨by simp[mv],fun d' _ _=>?_⟩⟩
 refine⟨(at_ .ud n,s),by simp[mv],fun _=>⟨by simp,resume (uR X.Fd pf cs s0.mu) U,w₂,#[pK (.releaseMerge (mA X))],?_,hsh,.refl _,by simp[EvStop,iX],?_⟩⟩
 .rw[hm]
  exact fv xRm .releaseMerge fRm (JI _ _ _ _)
 unfold After;rw[if_neg (by simp),hm];have eo:iO X .ur (fun b=>γ.own b\/b=X.M)=γ.own:=by
  funext b
  show((γ.own b\/b=X.M)/\b≠X.M)=γ.own b;exact propext ⟨fun h=>h.1.resolve_right h.2,fun h=>⟨.inl h,fun e=>hM (e▸h)⟩⟩
 have key:LW X r {γ with mine:=c,other:=d} k (at_ .ud n) (uD X.Fd pf cs s0.mu) w₂:=?_
 .have:=aC (Y4 X.Fd pf cs _) key
  rw[<-eo] at this;exact this
 have R12:RR X γ w w₂:=sub abl;have fin:∀{k1:Nat} {w1:World} {g1:Goroutine},RR X γ w w1->aG g1=some (170,#[])->av PP false (resume g1 U) (G {pf with mode:= .returning} cs)->LW X r {γ with mine:=c,other:=d} k1 (at_ .ue n) g1 w1:=by
  intro k1 w1 g1 h1 hc hg;exact vd hm R' (T':=at_ .out n) (m:= .enable) X9 (by simp) YD hc (by simp[mv]) (by simp[EvStop,iX]) (by simp) (by simp) (by simp) (by simp) (by simp) (by simp) fun k' w' hk hr=>aC hg (back k' w' (h1.trans X hr))
 refine vd hm R' (T':=at_ .u0 n) (m:= .disable) GH (by simp) II (SE _ _ _ _) (by simp[mv]) (by simp[EvStop,iX]) (by simp) (by simp) (by simp) (by simp) (by simp) (by simp) fun k1 w1 hk1 hr1=>?_
 refine aC (Y7 _ _ _ _) (MV hm R' (.inr rfl) (SF _ _ _ _) fun s hf=>?_)
 by_cases h1:s.mu=1
 .refine⟨(at_ .ue n,{s with mu:=0}),by simp[mv,h1],.inr ⟨by rw[h1];rfl,rfl,by simp,fun k2 w2 hk2 hr2=>?_⟩⟩
  rw[h1];exact aC (ae5 _ _ _ _) (fin ((R12.trans X hr1).trans X hr2) (ae2 _ _ _ _) (SD _ _ _ _))
 by_cases h3:s.mu=3
 .refine⟨(at_ .ue n,{s with mu:=2}),by simp[mv,h1,h3],.inr ⟨by rw[h3];rfl,rfl,by simp,fun k2 w2 hk2 hr2=>?_⟩⟩
  rw[h3];exact aC (ae4 _ _ _ _) (fin ((R12.trans X hr1).trans X hr2) (ae1 _ _ _ _) (SC _ _ _ _))
 by_cases h9:s.mu=9
 .refine⟨({pc:= .uc,old:=8,nw:=2,n:=n},{s with mu:=8}),by simp[mv,h1,h3,h9],.inr ⟨by rw[h9];rfl,rfl,by simp,fun k2 w2 hk2 hr2=>?_⟩⟩
  rw[h9];refine aC (ae3 _ _ _ _) (AM hm R' (T1:=at_ .us n) (T2:=at_ .bad n) (.inr (.inr rfl)) (ae0 _ _ _ _) (fun s e=>by simp[mv,e]) (fun s _ e=>⟨(at_ .bad n,s),by simp[mv,e],.inl rfl⟩) rfl (by simp) rfl (by simp) (fun k3 w3 hk3 hr3=>?_) (fun h=>absurd rfl h));refine aC (Y9 _ _ _ _) (MS hm R' rfl (Sz _ _ _ _) rfl fun k4 w4 hk4 hr4=>aC (Y3 _ _ _ _) ?_)
  exact fin ((((R12.trans X hr1).trans X hr2).trans X hr3).trans X hr4) (SB _ _ _ _) (SA _ _ _ _)
 by_cases h13:s.mu=13
 .refine⟨(at_ .us n,{s with mu:=12}),by simp[mv,h1,h3,h9,h13],.inr ⟨by rw[h13];rfl,rfl,by simp,fun k2 w2 hk2 hr2=>?_⟩⟩
  rw[h13];refine aC (Y8 _ _ _ _) (MS hm R' rfl (Y6 _ _ _ _) rfl fun k4 w4 hk4 hr4=>aC (SG _ _ _ _) ?_);exact fin (((R12.trans X hr1).trans X hr2).trans X hr4) (NK _ _ _ _) (NJ _ _ _ _)
 .exact⟨(at_ .bad n,s),by simp[mv,h1,h3,h9,h13],.inl rfl⟩
end
section
variable {Δ:Type}{X:Cx Δ}{r:bm}{k n:Nat}{T:Lo}{γ:Gh Δ}{own:Nat->Prop}{g:Goroutine}{w:World}
theorem mF {deaf:Bool}(hd:deaf=false){ro:Nat->Prop}{Stop:(Nat->Prop)->Goroutine->World->Prop}{t:TypeId}{a:Addr}{v:Value}(h:aQ g=some (.load t (.pointer (some a))))
  (ha:∀w,(isAgg t).run PP w= .ok false w) (hae:∀w,(isAgg t).events PP w #[]=#[]) (hb:own a.block\/ro a.block) (hc:w.cell? a=some v) (k:aD PP false (eS X deaf ro) Stop own (resume g v) w):aD PP false (eS X deaf ro) Stop own g w:=by
 subst hd;refine aD.step (cV h).1 fun w₁ hr=>?_
 have hlt:a.block<w.heap.size:=by
  unfold World.cell? at hc;cases hh:w.heap[a.block]? with
  |none=>rw[hh] at hc;simp at hc
  |some o=>exact(Array.getElem?_eq_some_iff.1 hh).1
 have hc1:w₁.cell? a=some v:=by
  unfold World.cell? at hc⊢;rw[hr.keep a.block hlt hb];exact hc
 obtain⟨es,e1,e2⟩:=mc (P:=PP) (main:=false) (w:=w₁) (w':=w₁) (x:=v) h (by simp[kJ.sem,go_sem,ha,hc1]);refine⟨_,w₁,es,e1,⟨rfl,rfl,Nat.le_refl _,.refl _,fun _ _ _=>rfl,fun e he=>?_,fun h=>absurd h (by simp)⟩,?_⟩
 .have:=e2 e he
  simp[kJ.sem,go_sem,ha,hae,hc1] at this;subst this;rcases hb with hb|hb
  .exact .inl ⟨a.block,.inl hb,.inl ⟨a,rfl,rfl⟩⟩
  .exact .inl ⟨a.block,.inr (.inr ⟨hb,rfl⟩),.inl ⟨a,rfl,rfl⟩⟩
 .have:=(jA (X:=X) false ro own w₁).2
  rw[this];exact k.rely hr
end
section
variable (bw bf F W bd bs:Nat)(dv:Value)(sd:Int)
def pb (b:Nat):Value:= .pointer (some ⟨b,0,none⟩)
def ldT (g:Goroutine):TypeId:=match aQ g with|some (.load t _)=>t|_=>0
def pL:Value:= .func (.func 131) #[] #[pb F,pb bd,pb bs]
def Yw:Goroutine:=Go.Conc.born PP {target:= .fn (.func 163) #[pb bw,pb bf],args:=#[]}
def gW1:Goroutine:=O (Yw bw bf)
theorem WU:av PP false (Yw bw bf) (gW1 bw bf):=aJ fun ws=>by kernel_rfl
theorem WS:aQ (gW1 bw bf)=some (.load (ldT (gW1 0 0)) (.pointer (some ⟨bf,0,none⟩))):=by kernel_rfl
def gW2:Goroutine:=O (resume (gW1 bw bf) (pL F bd bs))
theorem WT:av PP false (resume (gW1 bw bf) (pL F bd bs)) (gW2 bw bf F bd bs):=aJ fun ws=>by kernel_rfl
theorem WP:aQ (gW2 bw bf F bd bs)=some (.load (ldT (gW2 0 0 0 0 0)) (.pointer (some ⟨bd,0,none⟩))):=by kernel_rfl
def Yv:Goroutine:=O (resume (gW2 bw bf F bd bs) dv)
theorem WQ:av PP false (resume (gW2 bw bf F bd bs) dv) (Yv bw bf F bd bs dv):=aJ fun ws=>by kernel_rfl
theorem WN:aQ (Yv bw bf F bd bs dv)=some (.load (ldT (Yv 0 0 0 0 0 dv)) (.pointer (some ⟨bs,0,none⟩))):=by kernel_rfl
def cW:List Frame:=(On 1 (resume (Yv bw bf F bd bs dv) (.int .i64 sd))).callers
def fW:Frame:=(cW bw bf F bd bs dv sd).head?.getD default
def tW:List Frame:=(cW bw bf F bd bs dv sd).tail
def Yy (fr:Frame)(cs:List Frame):Goroutine:=LB 132 #[pb F,dv,.int .i64 sd] 46 fr cs
theorem WO:av PP false (resume (Yv bw bf F bd bs dv) (.int .i64 sd)) (Yy F dv sd (fW bw bf F bd bs dv sd) (tW bw bf F bd bs dv sd)):=aO 1 (bN PP false 1 (resume (Yv bw bf F bd bs dv) (.int .i64 sd))) fun ws=>by kernel_rfl
def gX0:Goroutine:=cB (fW bw bf F bd bs dv sd) (tW bw bf F bd bs dv sd) U
def gX1:Goroutine:=O (gX0 bw bf F bd bs dv sd)
theorem WM:av PP false (gX0 bw bf F bd bs dv sd) (gX1 bw bf F bd bs dv sd):=aJ fun ws=>by kernel_rfl
theorem WK:aQ (gX1 bw bf F bd bs dv sd)=some (.load (ldT (gX1 0 0 0 0 0 dv 0)) (.pointer (some ⟨bw,0,none⟩))):=by kernel_rfl
def Nu:Goroutine:=O (resume (gX1 bw bf F bd bs dv sd) (pb W))
theorem WL:av PP false (resume (gX1 bw bf F bd bs dv sd) (pb W)) (Nu bw bf F W bd bs dv sd):=aJ fun ws=>by kernel_rfl
theorem WJ:aQ (Nu bw bf F W bd bs dv sd)=some (.conv (yu (Nu 0 0 0 0 0 0 dv 0)) (zu (Nu 0 0 0 0 0 0 dv 0)) (pb W)):=by kernel_rfl
theorem abY:PP.underlying (yu (Nu 0 0 0 0 0 0 dv 0))=some (.pointer (zt (Nu 0 0 0 0 0 0 dv 0))):=by kernel_rfl
theorem abZ:PP.underlying (zu (Nu 0 0 0 0 0 0 dv 0))=some .unsafePointer:=by kernel_rfl
theorem abX:(PP.info? (zt (Nu 0 0 0 0 0 0 dv 0))).map (fun i=>decide (i.size=0))=some false:=by kernel_rfl
def WH:Goroutine:=O (resume (Nu bw bf F W bd bs dv sd) (pb W))
theorem WI:av PP false (resume (Nu bw bf F W bd bs dv sd) (pb W)) (WH bw bf F W bd bs dv sd):=aJ fun ws=>by kernel_rfl
theorem EF:aG (WH bw bf F W bd bs dv sd)=some (193,#[pb W]):=by kernel_rfl
def gX4:Goroutine:=O (resume (WH bw bf F W bd bs dv sd) U)
theorem WG:av PP false (resume (WH bw bf F W bd bs dv sd) U) (gX4 bw bf F W bd bs dv sd):=aJ fun ws=>by kernel_rfl
theorem PZ:aG (gX4 bw bf F W bd bs dv sd)=some (168,#[]):=by kernel_rfl
def gX5:Goroutine:=O (resume (gX4 bw bf F W bd bs dv sd) U)
theorem WF:av PP false (resume (gX4 bw bf F W bd bs dv sd) U) (gX5 bw bf F W bd bs dv sd):=aJ fun ws=>by kernel_rfl
theorem PY:aG (gX5 bw bf F W bd bs dv sd)=some (176,#[]):=by kernel_rfl
def ym:Goroutine:=O (resume (gX5 bw bf F W bd bs dv sd) (.bool false))
theorem WE:av PP false (resume (gX5 bw bf F W bd bs dv sd) (.bool false)) (ym bw bf F W bd bs dv sd):=aJ fun ws=>by kernel_rfl
end
section
variable (bw bf F W bd bs:Nat)(dv:Value)(sd:Int)
theorem Gj:aG (ym bw bf F W bd bs dv sd)=some (213,#[pb W,.int .u64 18446744069414584320]):=by kernel_rfl
def gY (n:Int):Goroutine:=O (resume (ym bw bf F W bd bs dv sd) (.int .u64 n))
theorem WC:av PP false (resume (ym bw bf F W bd bs dv sd) (.int .u64 1)) (gY bw bf F W bd bs dv sd 1):=aJ fun ws=>by kernel_rfl
theorem WD:ic (gY bw bf F W bd bs dv sd 0)=some (170,#[]):=by kernel_rfl
theorem WB:ic (gY bw bf F W bd bs dv sd 4294967296)=some (170,#[]):=by kernel_rfl
theorem WA:ic (gY bw bf F W bd bs dv sd 4294967297)=some (170,#[]):=by kernel_rfl
theorem Lx:aG (gY bw bf F W bd bs dv sd 1)=some (203,#[pb W]):=by kernel_rfl
def gZ1:Goroutine:=O (resume (gY bw bf F W bd bs dv sd 1) (.int .u64 1))
theorem PX:av PP false (resume (gY bw bf F W bd bs dv sd 1) (.int .u64 1)) (gZ1 bw bf F W bd bs dv sd):=aJ fun ws=>by kernel_rfl
theorem Lw:aG (gZ1 bw bf F W bd bs dv sd)=some (214,#[pb W,.int .u64 0]):=by kernel_rfl
def RU:Goroutine:=O (resume (gZ1 bw bf F W bd bs dv sd) U)
theorem Wz:av PP false (resume (gZ1 bw bf F W bd bs dv sd) U) (RU bw bf F W bd bs dv sd):=aJ fun ws=>by kernel_rfl
theorem AD:aG (RU bw bf F W bd bs dv sd)=some (200,#[pF W,.bool false,.int .i64 0]):=by kernel_rfl
def Yu:Goroutine:=O (resume (RU bw bf F W bd bs dv sd) U)
theorem Wy:ic (Yu bw bf F W bd bs dv sd)=some (170,#[]):=by kernel_rfl
end
def ED (P:Program):Nat->Goroutine->(Nat->World)->Option (List (Goroutine×World))
 |0,_,_=>some []
 |n+1,g,ws=>
  match g.status,stepG P false g (ws 0) with
  |.running,.go g' w' es=>if es.isEmpty then(match ED P n g' (fun i=>ws (i+1)) with|some l=>some ((g',w')::l)|none=>none) else none
  |_,_=>none
def pairs:List Goroutine->(Nat->World)->List (Goroutine×World)
 |[],_=>[]
 |x::l,ws=>(x,ws 0)::pairs l (fun i=>ws (i+1))
def ze (n:Nat)(g:Goroutine):List Goroutine:=match ED PP n g (fun _=>default) with|some l=>l.map (·.1)|none=>[]
theorem fS {m d:Nat}:∀{n:Nat} {g:Goroutine} {L:List Goroutine},(∀ws,ED PP n g ws=some (pairs L ws))->QuitsD PP m d (L.getLastD g)->QuitsD PP (n+m) d g
 |0,g,L,h,q=>by
  have:=h fun _=>default
  simp only[ED,Option.some.injEq] at this;cases L with
  |nil=>rw[Nat.zero_add];exact q
  |cons x l=>simp[pairs] at this
 |n+1,g,L,h,q=>by
  have key:∀w:World,g.status= .running/\∃x L',L=x::L'/\stepG PP false g w= .go x w #[]/\∀ws':Nat->World,ED PP n x ws'=some (pairs L' ws'):=by
   intro w;have h0:∀ws':Nat->World,g.status= .running/\∃x L',L=x::L'/\stepG PP false g w= .go x w #[]/\ED PP n x ws'=some (pairs L' ws'):=by
    intro ws';have:=h fun i=>match i with|0=>w|i+1=>ws' i
    simp only[ED] at this;cases hs:g.status<;>rw[hs] at this<;>(try cases this;done)
    cases hst:stepG PP false g w<;>rw[hst] at this<;>simp only at this<;>(try cases this;done)
    rename_i g1 w' es;split at this
    .rename_i he
     have he:es=#[]:=by simpa using he
     subst he;split at this
     .rename_i l hx
      cases L with
      |nil=>simp[pairs] at this
      |cons x L'=>
       simp only[pairs,Option.some.injEq,List.cons.injEq,Prod.mk.injEq] at this;obtain⟨⟨rfl,rfl⟩,rfl⟩:=this;exact⟨rfl,_,L',rfl,rfl,hx⟩
     .cases this
    .cases this
   obtain⟨hs,x,L',e1,e2,_⟩:=h0 fun _=>w
   refine⟨hs,x,L',e1,e2,fun ws'=>?_⟩;obtain⟨_,y,M',f1,f2,f3⟩:=h0 ws';rw[e1] at f1;cases f1;exact f3
  obtain⟨hs,x,L',e1,e2,e3⟩:=key default;rw[show n+1+m=n+m+1 by omega];refine QuitsD.ctl hs (fun w=>?_) (fS (L:=L') e3 ?_)
  .obtain⟨_,y,M',f1,f2,_⟩:=key w
   rw[e1] at f1;cases f1;exact f2
  .rw[e1] at q
   cases L' with
   |nil=>exact q
   |cons z l=>exact q
theorem qR {g:Goroutine}{n:Nat}(h:ic g=some (170,#[]))(q:QuitsD PP n 0 (cX g)):QuitsD PP (n+1) 1 g:=
 .said ⟨.mark .enable,false,true⟩ rfl (ou h).1 (fun w=>jc X9 .enable (by simp) YD h) q
section
variable (bw bf F W bd bs:Nat)(dv:Value)(sd:Int)
theorem aal (ws:Nat->World):ED PP 9 (cX (gY bw bf F W bd bs dv sd 0)) ws=some (pairs (ze 9 (cX (gY bw bf F W bd bs dv sd 0))) ws):=by kernel_rfl
theorem aaj (ws:Nat->World):ED PP 9 (cX (gY bw bf F W bd bs dv sd 4294967296)) ws=some (pairs (ze 9 (cX (gY bw bf F W bd bs dv sd 4294967296))) ws):=by kernel_rfl
theorem aai (ws:Nat->World):ED PP 9 (cX (gY bw bf F W bd bs dv sd 4294967297)) ws=some (pairs (ze 9 (cX (gY bw bf F W bd bs dv sd 4294967297))) ws):=by kernel_rfl
theorem aak (ws:Nat->World):ED PP 9 (cX (Yu bw bf F W bd bs dv sd)) ws=some (pairs (ze 9 (cX (Yu bw bf F W bd bs dv sd))) ws):=by kernel_rfl
theorem acl:((ze 9 (cX (gY bw bf F W bd bs dv sd 0))).getLastD (cX (gY bw bf F W bd bs dv sd 0))).status= .finished:=by kernel_rfl
theorem acj:((ze 9 (cX (gY bw bf F W bd bs dv sd 4294967296))).getLastD (cX (gY bw bf F W bd bs dv sd 4294967296))).status= .finished:=by kernel_rfl
theorem aci:((ze 9 (cX (gY bw bf F W bd bs dv sd 4294967297))).getLastD (cX (gY bw bf F W bd bs dv sd 4294967297))).status= .finished:=by kernel_rfl
theorem ack:((ze 9 (cX (Yu bw bf F W bd bs dv sd))).getLastD (cX (Yu bw bf F W bd bs dv sd))).status= .finished:=by kernel_rfl
theorem YV (ws:Nat->World):ED PP 87 (resume (ym bw bf F W bd bs dv sd) (.int .u64 0)) ws=some (pairs (ze 87 (resume (ym bw bf F W bd bs dv sd) (.int .u64 0))) ws):=by kernel_rfl
theorem acE:(ze 87 (resume (ym bw bf F W bd bs dv sd) (.int .u64 0))).getLastD (resume (ym bw bf F W bd bs dv sd) (.int .u64 0))=gY bw bf F W bd bs dv sd 0:=by kernel_rfl
theorem UL:∃n,QuitsD PP n 1 (resume (ym bw bf F W bd bs dv sd) (.int .u64 0)):=⟨_,fS (YV bw bf F W bd bs dv sd) (by rw[acE];exact qR (WD bw bf F W bd bs dv sd) (fS (m:=0) (aal bw bf F W bd bs dv sd) ⟨acl bw bf F W bd bs dv sd,rfl⟩))⟩
theorem YT (ws:Nat->World):ED PP 87 (resume (ym bw bf F W bd bs dv sd) (.int .u64 4294967296)) ws=some (pairs (ze 87 (resume (ym bw bf F W bd bs dv sd) (.int .u64 4294967296))) ws):=by kernel_rfl
theorem acC:(ze 87 (resume (ym bw bf F W bd bs dv sd) (.int .u64 4294967296))).getLastD (resume (ym bw bf F W bd bs dv sd) (.int .u64 4294967296))=gY bw bf F W bd bs dv sd 4294967296:=by kernel_rfl
theorem UJ:∃n,QuitsD PP n 1 (resume (ym bw bf F W bd bs dv sd) (.int .u64 4294967296)):=⟨_,fS (YT bw bf F W bd bs dv sd) (by rw[acC];exact qR (WB bw bf F W bd bs dv sd) (fS (m:=0) (aaj bw bf F W bd bs dv sd) ⟨acj bw bf F W bd bs dv sd,rfl⟩))⟩
theorem YS (ws:Nat->World):ED PP 87 (resume (ym bw bf F W bd bs dv sd) (.int .u64 4294967297)) ws=some (pairs (ze 87 (resume (ym bw bf F W bd bs dv sd) (.int .u64 4294967297))) ws):=by kernel_rfl
theorem acB:(ze 87 (resume (ym bw bf F W bd bs dv sd) (.int .u64 4294967297))).getLastD (resume (ym bw bf F W bd bs dv sd) (.int .u64 4294967297))=gY bw bf F W bd bs dv sd 4294967297:=by kernel_rfl
theorem UI:∃n,QuitsD PP n 1 (resume (ym bw bf F W bd bs dv sd) (.int .u64 4294967297)):=⟨_,fS (YS bw bf F W bd bs dv sd) (by rw[acB];exact qR (WA bw bf F W bd bs dv sd) (fS (m:=0) (aai bw bf F W bd bs dv sd) ⟨aci bw bf F W bd bs dv sd,rfl⟩))⟩
theorem YU (ws:Nat->World):ED PP 17 (resume (RU bw bf F W bd bs dv sd) U) ws=some (pairs (ze 17 (resume (RU bw bf F W bd bs dv sd) U)) ws):=by kernel_rfl
theorem acD:(ze 17 (resume (RU bw bf F W bd bs dv sd) U)).getLastD (resume (RU bw bf F W bd bs dv sd) U)=Yu bw bf F W bd bs dv sd:=by kernel_rfl
theorem UK:∃n,QuitsD PP n 1 (resume (RU bw bf F W bd bs dv sd) U):=⟨_,fS (YU bw bf F W bd bs dv sd) (by rw[acD];exact qR (Wy bw bf F W bd bs dv sd) (fS (m:=0) (aak bw bf F W bd bs dv sd) ⟨ack bw bf F W bd bs dv sd,rfl⟩))⟩
end
theorem Sx:Ext PP 176 Tryz.f176:=⟨Tryz.func176,by kernel_rfl,by kernel_rfl,by kernel_rfl⟩
theorem Xw:Extern.find Tryz.f176=some (fun _=>pure (.bool false)):=by kernel_rfl
theorem Jx:Ext PP 213 Tryz.f213:=⟨Tryz.func213,by kernel_rfl,by kernel_rfl,by kernel_rfl⟩
theorem Mc:Extern.find Tryz.f213=some (Extern.Atomic.update (Op.intArith .add) .u64 true):=by kernel_rfl
theorem Sw:Ext PP 203 Tryz.f203:=⟨Tryz.func203,by kernel_rfl,by kernel_rfl,by kernel_rfl⟩
theorem Xs:Extern.find Tryz.f203=some (Extern.Atomic.loadT (.int .u64)):=by kernel_rfl
theorem aeI:Ext PP 214 Tryz.f214:=⟨Tryz.func214,by kernel_rfl,by kernel_rfl,by kernel_rfl⟩
theorem agP:Extern.find Tryz.f214=some Extern.Atomic.storeT:=by kernel_rfl
theorem Q6:Ext PP 200 Tryz.f200:=⟨Tryz.func200,by kernel_rfl,by kernel_rfl,by kernel_rfl⟩
theorem acq:Extern.find Tryz.f200=some Extern.Sync.semrelease:=by kernel_rfl
section
variable {Δ:Type}{X:Cx Δ}{r:bm}{k n:Nat}{γ:Gh Δ}{w:World}{bw bf F bd bs:Nat}{dv:Value}{sd:Int}
variable (hm:uC r=false)(R:Room X γ)
include hm R
theorem acX:LW X r γ k (at_ .d1 n) (ym bw bf F X.Wg bd bs dv sd) w:=by
 refine ir fun k1 w1 hk1 hr1=>cZ (aU (Gj _ _ _ _ _ _ _ _)) (by simp) (by simp) (by simp) (by simp) (fun s _ hf hn=>?_) (fun s hsh hf _=>?_)
 .exfalso
  rcases hf.2.2.1 with h|h|h|h|h|h<;>simp[mv,h,KKi] at hn
 rw[hm];have st:=qB (P:=PP) (main:=false) (w:=w1) (ad:=wA X) Jx .u64 Mc (Gj bw bf F X.Wg bd bs dv sd) hsh.I2 (hsh.Nn 0);have hsh':=hsh.setWg R.ne (IntKind.u64.wrap (s.wg+18446744069414584320));have ef:=ConcM.Eff.set (w:=w1) (Mu:=X.Fd) (Wg:=X.Wg) (wA X) (.int .u64 (IntKind.u64.wrap (s.wg+18446744069414584320))) (.inr rfl)
 have bad:∀{q:Lo×Sh},q∈mv (at_ .d1 n) s->q.1.pc= .bad->∃q∈mv (at_ .d1 n) s,q.1.pc≠.bad->∃g' w' es,stepG PP false (ym bw bf F X.Wg bd bs dv sd) w1= .go g' w' es/\ShAt X w' q.2/\ConcM.Eff X.Fd X.Wg w1 w'/\EvStop X (at_ .d1 n) q.1 es/\
   (if q.1.pc= .quit then ∃n,QuitsD PP n 1 g' else aD PP false (eS X (eH q.1.pc) γ.ro) (dL (GD X PP k1 r) q.1 γ) γ.own g' w'):=fun hq hb=>⟨_,hq,fun h=>absurd hb h⟩
 rcases hf.2.2.1 with h|h|h|h|h|h
 .exact bad (q:=(at_ .bad n,s)) (by simp[mv,h,KKi]) rfl
 .exact bad (q:=(at_ .bad n,s)) (by simp[mv,h,KKi]) rfl
 .have e:IntKind.u64.wrap (s.wg+18446744069414584320)=0:=by rw[h];decide
  rw[e] at st hsh' ef;refine⟨(at_ .quit n,{s with wg:=0}),by simp[mv,h,KKi],fun _=>⟨_,_,_,st,hsh',ef,oq (okW R.ne) rfl,?_⟩⟩;rw[if_pos rfl];exact UL _ _ _ _ _ _ _ _
 .have e:IntKind.u64.wrap (s.wg+18446744069414584320)=1:=by rw[h];decide
  rw[e] at st hsh' ef;refine⟨(at_ .d2 n,{s with wg:=1}),by simp[mv,h,KKi],fun _=>⟨_,_,_,st,hsh',ef,oq (okW R.ne) rfl,?_⟩⟩;rw[if_neg (by simp)]
  refine aC (WC _ _ _ _ _ _ _ _) (ir (T:=at_ .d2 n) fun k2 w2 hk2 hr2=>cZ (aU (Lx _ _ _ _ _ _ _ _)) (by simp) (by simp) (by simp) (by simp) (fun s _ hf hn=>?_) (fun s hsh hf _=>?_))
  .exfalso
   by_cases h1:s.wg=1<;>simp[mv,h1] at hn
  rw[hm]
  by_cases h1:¬s.wg=1
  .exact⟨(at_ .bad n,s),by simp[mv,h1],fun h=>absurd rfl h⟩
  have h1:s.wg=1:=Decidable.not_not.1 h1;have st:=pW (P:=PP) (main:=false) (w:=w2) (ad:=wA X) Sw .u64 Xs (Lx bw bf F X.Wg bd bs dv sd) hsh.I2;rw[h1] at st;refine⟨(at_ .d3 n,s),by simp[mv,h1],fun _=>⟨_,_,_,st,hsh,.refl _,CW (okW R.ne) rfl,?_⟩⟩;rw[if_neg (by simp)]
  refine aC (PX _ _ _ _ _ _ _ _) (ir (T:=at_ .d3 n) fun k3 w3 hk3 hr3=>cZ (aU (Lw _ _ _ _ _ _ _ _)) (by simp) (by simp) (by simp) (by simp) (fun s _ hf hn=>?_) (fun s hsh hf _=>?_))
  .exfalso
   by_cases h1:s.wg=1<;>simp[mv,h1] at hn
  rw[hm]
  by_cases h1:¬s.wg=1
  .exact⟨(at_ .bad n,s),by simp[mv,h1],fun h=>absurd rfl h⟩
  have h1:s.wg=1:=Decidable.not_not.1 h1;have st:=Bk (P:=PP) (main:=false) (w:=w3) (ad:=wA X) aeI agP (Lw bw bf F X.Wg bd bs dv sd) hsh.I2 (hsh.Nn 0);have hsh':=hsh.setWg R.ne 0;have ef:=ConcM.Eff.set (w:=w3) (Mu:=X.Fd) (Wg:=X.Wg) (wA X) (.int .u64 0) (.inr rfl);refine⟨(at_ .d4 n,{s with wg:=0}),by simp[mv,h1],fun _=>⟨_,_,_,st,hsh',ef,agV (okW R.ne) rfl,?_⟩⟩;rw[if_neg (by simp)]
  refine aC (Wz _ _ _ _ _ _ _ _) (ir (T:=at_ .d4 n) fun k4 w4 hk4 hr4=>cZ (aU (AD _ _ _ _ _ _ _ _)) (by simp) (by simp) (by simp) (fun _=>A7 Q6 (AD _ _ _ _ _ _ _ _)) (fun s _ hf hn=>by simp[mv] at hn) (fun s hsh hf _=>?_));rw[hm];have hw:IntKind.u32.wrap (s.ws+1)=s.ws+1:=by
   rcases hf.2.2.2 with h|h<;>rw[h]<;>decide
  have st:=Bn (P:=PP) (main:=false) (w:=w4) (ad:=Jl X) Q6 acq (AD bw bf F X.Wg bd bs dv sd) hsh.YH (hsh.Nn 1);rw[hw] at st;have hsh':=hsh.setWs R.ne (s.ws+1);have ef:=ConcM.Eff.set (w:=w4) (Mu:=X.Fd) (Wg:=X.Wg) (Jl X) (.int .u32 (s.ws+1)) (.inr rfl);refine⟨(at_ .quit n,{s with ws:=s.ws+1}),by simp[mv],fun _=>⟨_,_,_,st,hsh',ef,AH (aax R.ne) rfl,?_⟩⟩;rw[if_pos rfl]
  exact UK _ _ _ _ _ _ _ _
 .have e:IntKind.u64.wrap (s.wg+18446744069414584320)=4294967296:=by rw[h];decide
  rw[e] at st hsh' ef;refine⟨(at_ .quit n,{s with wg:=KKi}),by simp[mv,h,KKi],fun _=>⟨_,_,_,st,hsh',ef,oq (okW R.ne) rfl,?_⟩⟩;rw[if_pos rfl];exact UJ _ _ _ _ _ _ _ _
 .have e:IntKind.u64.wrap (s.wg+18446744069414584320)=4294967297:=by rw[h];decide
  rw[e] at st hsh' ef;refine⟨(at_ .quit n,{s with wg:=KKi+1}),by simp[mv,h,KKi],fun _=>⟨_,_,_,st,hsh',ef,oq (okW R.ne) rfl,?_⟩⟩;rw[if_pos rfl];exact UI _ _ _ _ _ _ _ _
theorem IQ (hfin:γ.mine=X.fin r):LW X r γ k (at_ .out n) (WH bw bf F X.Wg bd bs dv sd) w:=by
 refine ir fun k' w₁ hk hr=>?_
 refine⟨(aU (EF _ _ _ _ _ _ _ _)).1,(aU (EF _ _ _ _ _ _ _ _)).2,by simp,by simp,fun s hsh hf=>⟨by simp[mv],fun d hd _=>?_⟩⟩;refine⟨(at_ .wk n,s),by simp[mv],fun _=>⟨fun _=>hfin,resume (WH bw bf F X.Wg bd bs dv sd) U,w₁,#[pK (.releaseMerge (wA X))],?_,hsh,.refl _,by simp[EvStop,iX],?_⟩⟩
 .rw[hm]
  exact fv xRm .releaseMerge fRm (EF _ _ _ _ _ _ _ _)
 .unfold After
  rw[if_neg (by simp),hm];have key:LW X r γ k' (at_ .wk n) (resume (WH bw bf F X.Wg bd bs dv sd) U) w₁:=by
   refine aC (WG _ _ _ _ _ _ _ _) (vd hm R (T':=at_ .d1 n) (m:= .disable) GH (by simp) II (PZ _ _ _ _ _ _ _ _) (by simp[mv]) (by simp[EvStop,iX]) (by simp) (by simp) (by simp) (by simp) (by simp) (by simp) fun k2 w2 hk2 hr2=>?_);exact aC (WF _ _ _ _ _ _ _ _) (qW hm R Sx Xw (PY _ _ _ _ _ _ _ _) (aC (WE _ _ _ _ _ _ _ _) (acX hm R)))
  exact key
end
section
variable {Δ:Type}{X:Cx Δ}{r:bm}{k n:Nat}{γ:Gh Δ}{w:World}{bw bf bd bs:Nat}{dv:Value}{sd:Int}
theorem Jz (hm:uC r=false)(R:Room X γ)(live:∃s,ShAt X w s)(hb:γ.ro bw)(hw:w.cell? ⟨bw,0,none⟩=some (pb X.Wg))(hfin:γ.mine=X.fin r):LW X r γ k (at_ .out n) (gX0 bw bf X.Fd bd bs dv sd) w:=by
 refine aC (WM _ _ _ _ _ _ _) (mF rfl (WK _ _ _ _ _ _ _) (fun w=>by kernel_rfl) (fun w=>by kernel_rfl) (.inr hb) hw ?_);refine aC (WL _ _ _ _ _ _ _ _) (p9 (WJ _ _ _ _ _ _ _ _) (abY dv) (abZ dv) (abX dv) (fun w₁ hr=>?_) (aC (WI _ _ _ _ _ _ _ _) (IQ hm R hfin)));obtain⟨s,hs⟩:=hr.live live;exact⟨_,hs.I2⟩
theorem NE {T:Lo}(hT:eH T.pc=false)(hf:γ.ro bf)(hd:γ.ro bd)(hs:γ.ro bs)(hwf:w.cell? ⟨bf,0,none⟩=some (pL X.Fd bd bs))(hwd:w.cell? ⟨bd,0,none⟩=some dv)(hws:w.cell? ⟨bs,0,none⟩=some (.int .i64 sd))
  (go:LW X r γ k T (Yy X.Fd dv sd (fW bw bf X.Fd bd bs dv sd) (tW bw bf X.Fd bd bs dv sd)) w):LW X r γ k T (Yw bw bf) w:=by
 refine aC (WU _ _) (mF hT (WS _ _) (fun w=>by kernel_rfl) (fun w=>by kernel_rfl) (.inr hf) hwf ?_);refine aC (WT _ _ _ _ _) (mF hT (WP _ _ _ _ _) (fun w=>by kernel_rfl) (fun w=>by kernel_rfl) (.inr hd) hwd ?_);refine aC (WQ _ _ _ _ _ _) (mF hT (WN _ _ _ _ _ _) (fun w=>by kernel_rfl) (fun w=>by kernel_rfl) (.inr hs) hws ?_)
 exact aC (WO _ _ _ _ _ _ _) go
end
def RT {α:Type}(s:Sem α)(w:World)(x:α)(w':World)(ev:Array Event):Prop:=∀es,s.runT PP w es=(.ok x w',es++ev)
section
variable {α β:Type}{s:Sem α}{f:α->Sem β}{w w1 w2:World}{x:α}{y:β}{e1 e2:Array Event}
theorem RT.bind' (h:RT s w x w1 e1)(k:RT (f x) w1 y w2 e2):RT (s.bind f) w y w2 (e1++e2):=fun es=>by
 rw[Sem.runT_bind',h es];dsimp only;rw[k,Array.append_assoc]
theorem RT.bind (h:RT s w x w1 e1)(k:RT (f x) w1 y w2 e2):RT (s>>=f) w y w2 (e1++e2):=h.bind' k
theorem RT.aP (h:RT s w x w1 #[])(k:RT (f x) w1 y w2 e2):RT (s>>=f) w y w2 e2:=by
 have:=h.bind k
 rwa [Array.empty_append] at this
theorem RT.eG (h:RT s w x w1 e1)(k:RT (f x) w1 y w2 #[]):RT (s>>=f) w y w2 e1:=by
 have:=h.bind k
 rwa [Array.append_empty] at this
theorem RT.pure (x:α):RT (Pure.pure x:Sem α) w x w #[]:=fun es=>by show(Result.ok x w,es)=_;rw[Array.append_empty]
theorem RT.run (h:RT s w x w1 e1):s.run PP w= .ok x w1:=by rw[<-Sem.runT_fst PP s w #[],h #[]]
theorem RT.ev (h:RT s w x w1 e1):s.events PP w #[]=e1:=by
 show(s.runT PP w #[]).2=e1;rw[h #[]];simp
end
theorem fD {w:World}:RT program w PP w #[]:=fun es=>by show(Result.ok PP w,es)=_;rw[Array.append_empty]
theorem qP {w:World}{t:TypeId}{i:TypeInfo}(h:PP.info? t=some i):RT (typeInfo t) w i w #[]:=fD.aP (by rw[h];exact .pure i)
theorem fB {w:World}{t:TypeId}{d:TypeDesc}(h:PP.underlying t=some d):RT (underlying t) w d w #[]:=fD.aP (by rw[h];exact .pure d)
theorem oK {w:World}{t:TypeId}{n:Nat}(h:(PP.info? t).map (·.size)=some n):RT (Go.sizeOf t) w n w #[]:=by
 obtain⟨i,h1,h2⟩:=Option.map_eq_some_iff.1 h;exact(qP h1).aP (h2▸.pure _)
theorem uO {w:World}{t:TypeId}{z:Value}(h:(PP.info? t).bind (·.zero)=some z):RT (zeroValue t) w z w #[]:=by
 obtain⟨i,h1,h2⟩:=Option.bind_eq_some_iff.1 h;exact(qP h1).aP (by rw[h2];exact .pure _)
theorem gC {w:World}{t:TypeId}{b:Bool}(h:(PP.underlying t).map (fun d=>match d with|.struct _|.array _ _=>true|_=>false)=some b:=by kernel_rfl):RT (isAgg t) w b w #[]:=by
 obtain⟨d,h1,h2⟩:=Option.map_eq_some_iff.1 h;refine(fB h1).aP ?_;cases d<;>simp only at h2⊢<;>subst h2<;>exact .pure _
theorem fR {w:World}{r:Nat}{o:Obj}(h:w.heap[r]? =some o)(hc:∀c t f,o≠.cells c t f:=by simp):RT (getObj r) w o w #[⟨.obj r,false,o.isChan⟩]:=fun es=>by
 unfold getObj;simp only[Sem.runT,h];cases o<;>first|(exact absurd rfl (hc _ _ _))|simp
theorem je {w:World}{r:Nat}{o o':Obj}(h:w.heap[r]? =some o')(hc:∀c t f,o'≠.cells c t f:=by simp):RT (setObj r o) w () {w with heap:=w.heap.setIfInBounds r o} #[⟨.obj r,true,o.isChan⟩]:=fun es=>by
 show(match w.heap[r]? with
  |some (.cells ..)=>_
  |some _=>_
  |none=>_)=_
 rw[h];cases o'<;>first|(exact absurd rfl (hc _ _ _))|(show(Result.ok _ _,es.push _)=_;simp)
theorem nP {w:World}(o:Obj):RT (newObj o) w w.heap.size {w with heap:=w.heap.push o} #[]:=fun es=>by show(Result.ok _ _,es)=_;rw[Array.append_empty]
theorem jZ {w:World}{a:Addr}{v:Value}(h:w.cell? a=some v):RT (load a) w v w #[⟨.cell a,false,false⟩]:=fun es=>by
 unfold load;simp only[Sem.runT,h];simp;rfl
theorem Kj {w:World}{a:Addr}{u v:Value}(h:w.cell? a=some u)(hz:w.frozen? a=false)(hv:kM v=true):RT (store a v) w () (w.setCell a v) #[⟨.cell a,true,false⟩]:=fun es=>by
 show(Sem.store .plain a v (.pure ())).runT PP w es=_;rw[tJ hv,h];simp only[hz];show(Result.ok _ _,es.push _)=_;simp;rfl
structure yD (b:Nat)(o:Obj)(w w':World):Prop where
 tape:w'.tape=w.tape
 output:w'.output=w.output
 os:w'.os=w.os
 size:w'.heap.size=w.heap.size
 at_:w'.heap[b]? =some o
 rest:∀c,c≠b->w'.heap[c]? =w.heap[c]?
theorem mb {w:World}{b:Nat}{o o':Obj}(h:w.heap[b]? =some o'):yD b o w {w with heap:=w.heap.setIfInBounds b o}:=by
 have hlt:=(Array.getElem?_eq_some_iff.1 h).1;exact⟨rfl,rfl,rfl,by simp,by simp[hlt],fun c hc=>by simp[Array.getElem?_setIfInBounds_ne hc.symm]⟩
theorem JF {w:World}{b i:Nat}{cs:Array Value}{t:TypeId}{f:Nat×Nat}{v:Value}(h:w.heap[b]? =some (.cells cs t f)):yD b (.cells (cs.setIfInBounds i v) t f) w (w.setCell ⟨b,i,none⟩ v):=
 ⟨rfl,rfl,rfl,by simp[World.setCell],by rw[setCell_eq_setRow w b i cs t f v h,setRow_heap w b cs _ t f h],fun c hc=>(aside_setCell w ⟨b,i,none⟩ v).block c hc⟩
theorem yD.trans {b:Nat}{o o':Obj}{w w1 w2:World}(h:yD b o w w1)(k:yD b o' w1 w2):yD b o' w w2:=
 ⟨k.tape.trans h.tape,k.output.trans h.output,k.os.trans h.os,k.size.trans h.size,k.at_,fun c hc=>(k.rest c hc).trans (h.rest c hc)⟩
theorem cell_of {w:World}{b i:Nat}{cs:Array Value}{t:TypeId}{f:Nat×Nat}{v:Value}(h:w.heap[b]? =some (.cells cs t f))(hi:cs[i]? =some v):w.cell? ⟨b,i,none⟩=some v:=by simp[World.cell?,h,hi]
theorem NO {w:World}{b i:Nat}{cs:Array Value}{t:TypeId}(h:w.heap[b]? =some (.cells cs t (0,0))):w.frozen? ⟨b,i,none⟩=false:=by simp[World.frozen?,h]
theorem xH (b off i:Nat):Addr.add ⟨b,off,none⟩ i=⟨b,off+i,none⟩:=by
 unfold Addr.add
 by_cases h:i=0
 .subst h;rfl
 .rw[if_neg h]
theorem jY {w:World}{b:Nat}{cs:Array Value}{t:TypeId}{f:Nat×Nat}(h:w.heap[b]? =some (.cells cs t f))(off:Nat):∀(n i:Nat) (acc:Array Value),off+i+n<=cs.size->
  ∃ev,RT (loadCellsFrom ⟨b,off,none⟩ i n acc) w (acc++cs.extract (off+i) (off+i+n)) w ev/\∀e∈ev,∃a:Addr,e=⟨.cell a,false,false⟩/\a.block=b
 |0,i,acc,_=>⟨#[],by
   have e:acc++cs.extract (off+i) (off+i+0)=acc:=by simp;omega
   rw[e];exact RT.pure (w:=w) acc,by simp⟩
 |n+1,i,acc,hn=>by
  have hlt:off+i<cs.size:=by omega
  obtain⟨ev,h1,h2⟩:=jY h off n (i+1) (acc.push cs[off+i]) (by omega);refine⟨#[⟨.cell ⟨b,off+i,none⟩,false,false⟩]++ev,?_,?_⟩
  .have e:acc++cs.extract (off+i) (off+i+(n+1))=acc.push cs[off+i]++cs.extract (off+(i+1)) (off+(i+1)+n):=by
    apply Array.ext'
    simp[List.extract_eq_drop_take];rw[show off+(i+1)=off+i+1 by omega,List.drop_eq_getElem_cons (by simpa using hlt)];simp
   have e2:loadCellsFrom ⟨b,off,none⟩ i (n+1) acc=(load (Addr.add ⟨b,off,none⟩ i)>>=fun v=>loadCellsFrom ⟨b,off,none⟩ (i+1) n (acc.push v)):=by rw[loadCellsFrom]
   rw[e,e2,xH];exact(jZ (w:=w) (a:=⟨b,off+i,none⟩) (cell_of h (Array.getElem?_eq_getElem hlt))).bind (f:=fun v=>loadCellsFrom ⟨b,off,none⟩ (i+1) n (acc.push v)) h1
  .intro e he
   rcases Array.mem_append.1 he with he|he
   .simp at he
    subst he;exact⟨_,rfl,rfl⟩
   .exact h2 e he
def kj (cs:Array Value):List Value->Nat->Array Value
 |[],_=>cs
 |v::vs,i=>kj (cs.setIfInBounds i v) vs (i+1)
theorem lC {b:Nat}{t:TypeId}(off:Nat):∀(vs:List Value) (i:Nat) {w:World} {cs:Array Value},w.heap[b]? =some (.cells cs t (0,0))->off+i+vs.length<=cs.size->(∀v∈vs,kM v=true)->
  ∃w' ev,RT (storeCells ⟨b,off,none⟩ vs i) w () w' ev/\yD b (.cells (kj cs vs (off+i)) t (0,0)) w w'/\∀e∈ev,∃a:Addr,e=⟨.cell a,true,false⟩/\a.block=b
 |[],i,w,cs,h,_,_=>⟨w,#[],by simpa [storeCells] using RT.pure (w:=w) (),⟨rfl,rfl,rfl,rfl,h,fun _ _=>rfl⟩,by simp⟩
 |v::vs,i,w,cs,h,hn,hv=>by
  simp only[List.length_cons] at hn;have hlt:off+i<cs.size:=by omega
  have u:=JF (i:=off+i) (v:=v) h;obtain⟨w',ev,h1,h2,h3⟩:=lC off vs (i+1) u.at_ (by simp;omega) fun x hx=>hv x (by simp[hx])
  have e2:storeCells ⟨b,off,none⟩ (v::vs) i=(store (Addr.add ⟨b,off,none⟩ i) v>>=fun _=>storeCells ⟨b,off,none⟩ vs (i+1)):=by rw[storeCells]
  rw[e2,xH];refine⟨w',#[⟨.cell ⟨b,off+i,none⟩,true,false⟩]++ev,(Kj (w:=w) (a:=⟨b,off+i,none⟩) (cell_of h (Array.getElem?_eq_getElem hlt)) (NO h) (hv v (by simp))).bind (f:=fun _=>storeCells ⟨b,off,none⟩ vs (i+1)) h1,u.trans h2,fun e he=>?_⟩;rcases Array.mem_append.1 he with he|he
  .simp at he
   subst he;exact⟨_,rfl,rfl⟩
  .exact h3 e he
def EvB (b:Nat)(e:Event):Prop:=e.sync=false/\ls b e.loc
theorem iT {b:Nat}{a:Addr}{x:Bool}(h:a.block=b):EvB b ⟨.cell a,x,false⟩:=⟨rfl,.inl ⟨a,rfl,h⟩⟩
theorem dN {b:Nat}{x:Bool}:EvB b ⟨.obj b,x,false⟩:=⟨rfl,.inr rfl⟩
section
variable {w:World}{b:Nat}{t:TypeId}
theorem jy {cs:Array Value}{u:TypeId}{f:Nat×Nat}{off n:Nat}(h:w.heap[b]? =some (.cells cs u f))(ha:(PP.underlying t).map (fun d=>match d with|.struct _|.array _ _=>true|_=>false)=some true)(hn:(PP.info? t).map (·.size)=some n)(hle:off+n<=cs.size):
  ∃ev,RT (kJ.load t (.pointer (some ⟨b,off,none⟩))).sem w (.value (.agg (cs.extract off (off+n)))) w ev/\∀e∈ev,EvB b e/\e.write=false:=by
 obtain⟨ev,h1,h2⟩:=jY h off n 0 #[] (by omega);refine⟨ev,RT.eG (x:= .agg (cs.extract off (off+n))) ?_ (.pure _),fun e he=>?_⟩
 .show RT (do if<-isAgg t then Pure.pure (.agg (<-loadCells ⟨b,off,none⟩ (<-Go.sizeOf t))) else load ⟨b,off,none⟩) w _ w ev
  refine(gC (h:=ha)).aP ?_;simp only[if_true];refine(oK hn).aP ?_;refine RT.eG ?_ (.pure _);simpa [loadCells] using h1
 .obtain⟨a,rfl,hb⟩:=h2 e he
  exact⟨iT hb,rfl⟩
theorem fC {cs:Array Value}{u:TypeId}{off:Nat}{v:Value}(h:w.heap[b]? =some (.cells cs u (0,0)))(hn:(PP.info? t).map (·.size)=some v.cells.size)(hle:off+v.cells.size<=cs.size)(h1:∀x∈v.cells.toList,kM x=true):
  ∃w' ev,RT (kJ.store t (.pointer (some ⟨b,off,none⟩)) v).sem w .skip w' ev/\yD b (.cells (kj cs v.cells.toList off) u (0,0)) w w'/\∀e∈ev,EvB b e:=by
 obtain⟨w',ev,h2,h3,h4⟩:=lC off v.cells.toList 0 h (by simpa using hle) h1;refine⟨w',ev,RT.eG (x:=()) ?_ (.pure _),h3,fun e he=>?_⟩
 .show RT (do
   if v.cells.size≠(<-Go.sizeOf t) then stuck "storeVar: the value has not the size of the variable"
   storeCells ⟨b,off,none⟩ v.cells.toList) w _ w' ev
  refine(oK hn).aP ?_;simp only[ne_eq,not_true,if_false];exact RT.aP (.pure _) h2
 .obtain⟨a,rfl,hb⟩:=h4 e he
  exact iT hb
theorem vO (t:TypeId)(v:Value):RT (kJ.box t v).sem w (.value (.pointer (some ⟨w.heap.size,0,none⟩))) {w with heap:=w.heap.push (.cells v.cells t (0,0))} #[]:=
 RT.aP (x:= .pointer (some ⟨w.heap.size,0,none⟩)) (RT.aP (x:=⟨w.heap.size,0,none⟩) (RT.aP (nP _) (.pure _)) (.pure _)) (.pure _)
theorem lR {z:Value}(h:(PP.info? t).bind (·.zero)=some z):RT (kJ.alloc t).sem w (.value (.pointer (some ⟨w.heap.size,0,none⟩))) {w with heap:=w.heap.push (.cells z.cells t (0,0))} #[]:=
 RT.aP (x:= .pointer (some ⟨w.heap.size,0,none⟩)) ((uO h).aP (RT.aP (x:=⟨w.heap.size,0,none⟩) (RT.aP (nP _) (.pure _)) (.pure _))) (.pure _)
theorem DU (t:TypeId):RT (kJ.makeMap t).sem w (.value (.map (some w.heap.size))) {w with heap:=w.heap.push (.map #[] 0)} #[]:=
 RT.aP (x:= .map (some w.heap.size)) (RT.aP (nP _) (.pure _)) (.pure _)
end
open Go.MapKept in
structure dh (es:Array MapEntry)(c:Nat)(f:ByteArray->Option Value):Prop where
 stamped:Stamped es c
 keys:∀e∈es.toList,IsKey .string e.key
 has:∀s v,f s=some v↔∃e∈es.toList,e.key= .string s/\e.val=v
section
open Go.MapKept
variable {w:World}{m:Nat}{t kt vt:TypeId}{es:Array MapEntry}{c:Nat}{f:ByteArray->Option Value}{s:ByteArray}{z v:Value}
theorem iy {k:Value}(h:IsKey .string k):∃s,k= .string s:=by cases k<;>simp_all [IsKey]
theorem dh.uniq (h:dh es c f){x y:MapEntry}(hx:x∈es.toList)(hy:y∈es.toList)(hk:x.key=y.key):x=y:=by
 have hp:=((stamped_iff es c).1 h.stamped).2.2;rw[List.pairwise_iff_getElem] at hp;obtain⟨i,hi,rfl⟩:=List.mem_iff_getElem.1 hx;obtain⟨j,hj,rfl⟩:=List.mem_iff_getElem.1 hy;rcases Nat.lt_trichotomy i j with hlt|rfl|hlt
 .exact absurd hk (hp i j hi hj hlt)
 .rfl
 .exact absurd hk.symm (hp j i hj hi hlt)
theorem dh.empty (c:Nat):dh #[] c fun _=>none:=⟨stamped_empty c,by simp,by simp⟩
theorem tL {w:World}{e:Bool}{n:Nat}{kt:TypeId}{s:ByteArray}(hk:PP.underlying kt=some .string):RT (Instr.checkKey e (n+1) kt (.string s)) w () w #[]:=
 (fB hk).aP (.pure _)
theorem vM (hk:PP.underlying kt=some .string)(h:dh es c f):
  (RT (Instr.findKey kt (.string s) es.toList) w none w #[]/\f s=none/\∀e∈es.toList,e.key≠.string s)\/∃j e,es[j]? =some e/\RT (Instr.findKey kt (.string s) es.toList) w (some (j,e.val)) w #[]/\e.key= .string s/\f s=some e.val:=by
 rcases findNow_spec (d:= .string) (k:= .string s) trivial es.toList 0 h.keys with⟨h1,h2⟩|⟨j,e,h1,h2,h3⟩
 .refine .inl ⟨(fB hk).aP (by rw[h1];exact .pure _),?_,h2⟩
  cases hf:f s with
  |none=>rfl
  |some v=>
   obtain⟨e,he,h3,_⟩:=(h.has s v).1 hf;exact absurd h3 (h2 e he)
 .have hm:e∈es.toList:=List.mem_of_getElem? h2
  exact .inr ⟨j,e,by simpa using h2,(fB hk).aP (by rw[h1,Nat.zero_add];exact .pure _),h3,(h.has s e.val).2 ⟨e,hm,h3,rfl⟩⟩
theorem oL (ht:PP.underlying t=some (.map kt vt))(hk:PP.underlying kt=some .string)(hz:(PP.info? vt).bind (·.zero)=some z)(h:w.heap[m]? =some (.map es c))(hm:dh es c f):
  RT (kJ.lookup t (.map (some m)) (.string s) false).sem w (.value ((f s).getD z)) w #[⟨.obj m,false,false⟩]:=by
 refine RT.eG (x:=(f s).getD z) ((fB ht).aP ?_) (.pure _);refine RT.eG (x:= .map es c) (fR h) ?_;refine RT.aP (x:=es) (.pure _) ?_;refine RT.aP (tL hk) ?_;rcases vM (w:=w) (s:=s) hk hm with⟨h1,h2,_⟩|⟨j,e,_,h1,_,h2⟩
 .rw[h2]
  exact RT.aP h1 ((uO hz).aP (RT.aP (x:=(z,false)) (.pure _) (.pure _)))
 .rw[h2]
  exact RT.aP h1 (RT.aP (x:=(e.val,true)) (.pure _) (.pure _))
theorem pC (ht:PP.underlying t=some (.map kt vt))(hk:PP.underlying kt=some .string)(h:w.heap[m]? =some (.map es c))(hm:dh es c f):
  ∃es' c' w' ev,RT (kJ.mapUpdate t (.map (some m)) (.string s) v).sem w .skip w' ev/\yD m (.map es' c') w w'/\(∀e∈ev,EvB m e)/\es'.size<=es.size+1/\dh es' c' fun s'=>if s'=s then some v else f s':=by
 have pre:∀{w':World} {ev:Array Event},RT (do
   match<-Instr.findKey kt (.string s) es.toList with
   |some (i,_)=>do
    let key <-Instr.keyThatStays (((es[i]?).map (·.key)).getD (.string s)) (.string s)
    setObj m (.map (es.modify i fun e=>{e with key,val:=v}) c)
   |none=>setObj m (.map (es.push {key:= .string s,val:=v,born:=c}) (c+1))) w () w' ev->RT (kJ.mapUpdate t (.map (some m)) (.string s) v).sem w .skip w' (#[⟨.obj m,false,false⟩]++ev):=by
  intro w' ev h2;refine RT.eG (x:=()) ((fB ht).aP ?_) (.pure _);refine RT.bind (x:= .map es c) (fR h) ?_;exact RT.aP (tL hk) h2
 rcases vM (w:=w) (s:=s) hk hm with⟨h1,h2,h3⟩|⟨j,e,hj,h1,h2,h3⟩
 .refine⟨es.push {key:= .string s,val:=v,born:=c},c+1,_,_,pre (RT.aP h1 (je h)),mb h,?_,by simp,stamped_push hm.stamped h3,?_,?_⟩
  .intro e he
   simp at he;rcases he with rfl|rfl
   .exact dN
   .exact⟨rfl,.inr rfl⟩
  .intro x hx
   simp only[Array.toList_push,List.mem_append,List.mem_singleton] at hx;rcases hx with hx|rfl
   .exact hm.keys x hx
   .trivial
  .intro s' v'
   by_cases hs:s'=s
   .subst hs
    simp only[if_true];constructor
    .intro q
     have q:=Option.some.inj q;subst q;exact⟨{key:= .string s',val:=v,born:=c},by simp,rfl,rfl⟩
    .rintro⟨x,hx,h5,h6⟩
     simp only[Array.toList_push,List.mem_append,List.mem_singleton] at hx;rcases hx with hx|rfl
     .exact absurd h5 (h3 x hx)
     .rw[<-h6]
   .rw[if_neg hs,hm.has]
    constructor
    .rintro⟨x,hx,h5,h6⟩
     exact⟨x,by simp[hx],h5,h6⟩
    .rintro⟨x,hx,h5,h6⟩
     simp only[Array.toList_push,List.mem_append,List.mem_singleton] at hx;rcases hx with hx|rfl
     .exact⟨x,hx,h5,h6⟩
     .exact absurd (by simpa using h5.symm) hs
 .have hk2:RT (Instr.keyThatStays (((es[j]?).map (·.key)).getD (.string s)) (.string s)) w (.string s) w #[]:=by
   rw[hj];simp only[Option.map_some,Option.getD_some,h2];unfold Instr.keyThatStays;rw[if_pos (sameBits_self (d:= .string) (k:= .string s) trivial 10000)];exact .pure _
  have hkey:∀e',es[j]? =some e'->({e' with key:= .string s,val:=v}:MapEntry).key=e'.key:=fun e' he'=>by rw[hj] at he';cases he';exact h2.symm
  have hmem:e∈es.toList:=by
   have:es.toList[j]? =some e:=by simpa using hj
   exact List.mem_of_getElem? this
  refine⟨es.modify j fun e=>{e with key:= .string s,val:=v},c,_,_,pre (RT.aP h1 (RT.aP hk2 (je h))),mb h,?_,by simp,stamped_modify hm.stamped _ _ (fun _ _=>rfl) (fun e' _ he'=>hkey e' he'),isKey_modify hm.keys _ _ hkey,?_⟩
  .intro e he
   simp at he;rcases he with rfl|rfl
   .exact dN
   .exact⟨rfl,.inr rfl⟩
  .have Pb:∀x:MapEntry,x∈(es.modify j fun e=>{e with key:= .string s,val:=v}).toList↔(∃i,i≠j/\es[i]? =some x)\/x={e with key:= .string s,val:=v}:=by
    intro x;rw[List.mem_iff_getElem?];simp only[Array.getElem?_toList,Array.getElem?_modify];constructor
    .rintro⟨i,hi⟩
     by_cases hij:j=i
     .subst hij
      simp[hj] at hi;exact .inr hi.symm
     .simp[hij] at hi
      exact .inl ⟨i,fun q=>hij q.symm,hi⟩
    .rintro(⟨i,h5,h6⟩|rfl)
     .have hne:¬j=i:=fun q=>h5 q.symm
      exact⟨i,by rw[if_neg hne];exact h6⟩
     .exact⟨j,by rw[if_pos rfl,hj];rfl⟩
   have others:∀i x,i≠j->es[i]? =some x->x.key≠.string s:=by
    intro i x hij hx hxk;have hp:=((stamped_iff es c).1 hm.stamped).2.2;rw[List.pairwise_iff_getElem] at hp;have hxi:=Array.getElem?_eq_some_iff.1 hx;have hei:=Array.getElem?_eq_some_iff.1 hj;rcases Nat.lt_or_gt_of_ne hij with hlt|hlt
    .have:=hp i j (by simpa using hxi.1) (by simpa using hei.1) hlt
     simp only[Array.getElem_toList] at this;rw[hxi.2,hei.2] at this;exact this (hxk.trans h2.symm)
    .have:=hp j i (by simpa using hei.1) (by simpa using hxi.1) hlt
     simp only[Array.getElem_toList] at this;rw[hxi.2,hei.2] at this;exact this (h2.trans hxk.symm)
   intro s' v'
   by_cases hs:s'=s
   .subst hs
    simp only[if_true];constructor
    .intro q
     have q:=Option.some.inj q;subst q;exact⟨{e with key:= .string s',val:=v},(Pb _).2 (.inr rfl),rfl,rfl⟩
    .rintro⟨x,hx,h5,h6⟩
     rcases(Pb x).1 hx with⟨i,h7,h8⟩|rfl
     .exact absurd h5 (others i x h7 h8)
     .rw[<-h6]
   .rw[if_neg hs,hm.has]
    constructor
    .rintro⟨x,hx,h5,h6⟩
     obtain⟨i,hi⟩:=List.mem_iff_getElem?.1 hx;have hi':es[i]? =some x:=by simpa using hi
     refine⟨x,(Pb x).2 (.inl ⟨i,fun q=>?_,hi'⟩),h5,h6⟩;subst q;rw[hj] at hi';cases hi';rw[h2] at h5;exact hs (by simpa using h5.symm)
    .rintro⟨x,hx,h5,h6⟩
     rcases(Pb x).1 hx with⟨i,h7,h8⟩|rfl
     .have:es.toList[i]? =some x:=by simpa using h8
      exact⟨x,List.mem_of_getElem? this,h5,h6⟩
     .exact absurd (by simpa using h5.symm) hs
theorem z7 (ht:PP.underlying t=some (.map kt vt))(hk:PP.underlying kt=some .string)(h:w.heap[m]? =some (.map es c))(hm:dh es c f):
  ∃es' c' w' ev,RT (kJ.mapUpdate t (.map (some m)) (.string s) v).sem w .skip w' ev/\yD m (.map es' c') w w'/\(∀e∈ev,EvB m e)/\dh es' c' fun s'=>if s'=s then some v else f s':=
 let⟨es',c',w',ev,h1,h2,h3,_,h4⟩:=pC ht hk h hm
 ⟨es',c',w',ev,h1,h2,h3,h4⟩
theorem vL (ht:PP.underlying t=some (.map kt vt))(h:w.heap[m]? =some (.map es c)):
  RT (kJ.range t (.map (some m))).sem w (.value (.pointer (some ⟨w.heap.size,0,none⟩))) {w with heap:=w.heap.push (.mapIter (some m) c #[] c)} #[⟨.obj m,false,false⟩]:=by
 refine RT.eG (x:= .pointer (some ⟨w.heap.size,0,none⟩)) ((fB ht).aP ?_) (.pure _);refine RT.eG (x:= .map es c) (fR h) ?_;refine RT.aP (x:= .mapIter (some m) c #[] c) (.pure _) ?_;exact RT.aP (nP _) (.pure _)
theorem oN {q:Question}:∃n w',RT (choose q) w n w' #[]/\w'.tape=w.tape/\w'.output=w.output/\w'.os=w.os/\w'.heap=w.heap/\((q.forced=true/\n=0)\/∃x,n=q.cut x):=by
 by_cases hq:q.forced=true
 .refine⟨0,w,fun es=>?_,rfl,rfl,rfl,rfl,.inl ⟨hq,rfl⟩⟩
  unfold choose;simp only[Sem.runT,hq,if_true];simp
 .refine⟨q.cut (w.tape w.drawn q),{w with drawn:=w.drawn+1},fun es=>?_,rfl,rfl,rfl,rfl,.inr ⟨_,rfl⟩⟩
  unfold choose;simp only[Sem.runT,hq];simp
def leftOf (es:Array MapEntry)(seen:Array Nat):Array MapEntry:=es.filter fun e=>!seen.contains e.born
theorem K4 {seen:Array Nat}(hm:dh es c f):(leftOf es seen).filter (fun e=>decide (e.born<c))=leftOf es seen/\(leftOf es seen).filter (fun e=>decide (e.born>=c))=#[]:=by
 have hlow:∀e∈leftOf es seen,e.born<c:=fun e he=>hm.stamped.1 e (by
  have:=(Array.mem_filter.1 he).1;simpa using this)
 constructor
 .rw[Array.filter_eq_self]
  exact fun e he=>by simpa using hlow e he
 .rw[Array.filter_eq_empty_iff]
  exact fun e he=>by simpa using hlow e he
theorem FE {it:Nat}{seen:Array Nat}{ty:TypeId}(hit:w.heap[it]? =some (.mapIter (some m) c seen c))(h:w.heap[m]? =some (.map es c))(hm:dh es c f):
  (leftOf es seen=#[]/\∃w' ev,RT (kJ.next (.pointer (some ⟨it,0,none⟩)) false ty).sem w (.value (.tuple #[.bool false])) w' ev/\w'.tape=w.tape/\w'.output=w.output/\w'.os=w.os/\w'.heap=w.heap/\∀e∈ev,(EvB it e\/EvB m e)/\e.write=false)\/
  ∃e∈leftOf es seen,∃w' ev,RT (kJ.next (.pointer (some ⟨it,0,none⟩)) false ty).sem w (.value (.tuple #[.bool true,e.key,e.val])) w' ev/\yD it (.mapIter (some m) c (seen.push e.born) c) w w'/\∀e∈ev,EvB it e\/(EvB m e/\e.write=false):=by
 obtain⟨l1,l2⟩:=K4 (seen:=seen) hm;have hcond:(!seen.isEmpty&&!es.isEmpty&&es.all fun e=>decide (e.born>=c))=false:=by
  by_cases he:es.isEmpty=true
  .simp[he]
  .have:∃e,e∈es:=by
    cases hes:es.toList with
    |nil=>exact absurd (by simpa using hes) he
    |cons x l=>exact⟨x,by
      have:x∈es.toList:=by rw[hes];simp
      simpa using this⟩
   obtain⟨x,hx⟩:=this;have hlt:=hm.stamped.1 x (by simpa using hx);have:(es.all fun e=>decide (e.born>=c))=false:=by
    cases hall:es.all fun e=>decide (e.born>=c) with
    |false=>rfl
    |true=>
     have:=(Array.all_eq_true_iff_forall_mem.1 hall) x hx;have:c<=x.born:=by simpa using this
     omega
   rw[this];simp
 have pre:∀{x:Value} {w':World} {ev:Array Event},RT (do
   match(((if(leftOf es seen).isEmpty then #[none] else #[])++(leftOf es seen++#[]).map some)[<-choose (.mapNext ((if(leftOf es seen).isEmpty then #[none] else #[])++(leftOf es seen++#[]).map some).size)]? :Option (Option MapEntry)) with
   |some (some e)=>
    setObj it (.mapIter (some m) c (seen.push e.born) c)
    Pure.pure (.tuple #[.bool true,e.key,e.val])
   |some none=>Pure.pure (.tuple #[.bool false])
   |none=>stuck "Next: no such candidate") w x w' ev->RT (kJ.next (.pointer (some ⟨it,0,none⟩)) false ty).sem w (.value x) w' (#[⟨.obj it,false,false⟩]++(#[⟨.obj m,false,false⟩]++ev)):=by
  intro x w' ev h2;refine RT.eG (x:=x) ?_ (.pure _);refine RT.bind (x:= .mapIter (some m) c seen c) (fR hit) ?_;refine RT.bind (x:= .map es c) (fR h) ?_;show RT (if(!seen.isEmpty&&!es.isEmpty&&es.all fun e=>decide (e.born>=c))=true then _ else _) _ _ _ _;rw[hcond];simp only[Bool.false_eq_true,if_false]
  have e1:(es.filter fun e=>!seen.contains e.born)=leftOf es seen:=rfl;rw[e1,l1,l2];exact h2
 by_cases hl:leftOf es seen=#[]
 .left
  refine⟨hl,?_⟩;obtain⟨n,w',c1,c2,c3,c4,c5,c6⟩:=oN (w:=w) (q:= .mapNext 1);have hn:n=0:=by
   rcases c6 with⟨_,e⟩|⟨x,e⟩
   .exact e
   .rw[e];simp[Question.cut,Nat.mod_one]
  subst hn;refine⟨w',_,pre (ev:=#[]) ?_,c2,c3,c4,c5,?_⟩
  .have hc:((if(leftOf es seen).isEmpty then #[none] else #[])++(leftOf es seen++#[]).map some:Array (Option MapEntry))=#[none]:=by rw[hl];simp
   rw[hc];exact RT.aP (x:=0) c1 (.pure _)
  .intro e he
   simp at he;rcases he with rfl|rfl
   .exact⟨.inl dN,rfl⟩
   .exact⟨.inr dN,rfl⟩
 .right
  have hpos:0<(leftOf es seen).size:=Nat.pos_of_ne_zero fun e=>hl (Array.eq_empty_of_size_eq_zero e)
  have hem:(leftOf es seen).isEmpty=false:=by simpa [Array.isEmpty] using Nat.pos_iff_ne_zero.1 hpos
  have abJ:((if(leftOf es seen).isEmpty then #[none] else #[])++(leftOf es seen++#[]).map some:Array (Option MapEntry))=(leftOf es seen).map some:=by simp[hem]
  obtain⟨n,w1,c1,c2,c3,c4,c5,c6⟩:=oN (w:=w) (q:= .mapNext (leftOf es seen).size);have hn:n<(leftOf es seen).size:=by
   rcases c6 with⟨_,e⟩|⟨x,e⟩
   .omega
   .rw[e];exact Nat.mod_lt _ hpos
  have yj:w1.heap[it]? =some (.mapIter (some m) c seen c):=by rw[c5];exact hit
  have u:=mb (o:= .mapIter (some m) c (seen.push (leftOf es seen)[n].born) c) yj;refine⟨(leftOf es seen)[n],Array.getElem_mem hn,_,_,pre (ev:=#[⟨.obj it,true,false⟩]) ?_,⟨u.tape.trans c2,u.output.trans c3,u.os.trans c4,u.size.trans (by rw[c5]),u.at_,fun b hb=>(u.rest b hb).trans (by rw[c5])⟩,?_⟩
  .rw[abJ]
   simp only[Array.size_map];refine RT.aP c1 ?_;have:((leftOf es seen).map some)[n]? =some (some (leftOf es seen)[n]):=by simp[hn]
   rw[this];exact RT.eG (je yj) (.pure _)
  .intro e he
   simp at he;rcases he with rfl|rfl|rfl
   .exact .inl dN
   .exact .inr ⟨dN,rfl⟩
   .exact .inl dN
theorem vN {it:Nat}{seen:Array Nat}{e:MapEntry}(hit:w.heap[it]? =some (.mapIter (some m) c (seen.push e.born) c))(h:w.heap[m]? =some (.map es c))(hm:dh es c f)(he:e∈es.toList):
  RT (kJ.entry (.pointer (some ⟨it,0,none⟩))).sem w (.value (.tuple #[e.key,e.val])) w (#[⟨.obj it,false,false⟩]++#[⟨.obj m,false,false⟩]):=by
 refine RT.eG (x:= .tuple #[e.key,e.val]) ?_ (.pure _);refine RT.bind (x:= .mapIter (some m) c (seen.push e.born) c) (fR hit) ?_;have hb:(seen.push e.born).back? =some e.born:=by simp
 have hf:es.find? (fun x=>x.born==e.born)=some e:=by
  cases hf:es.find? (fun x=>x.born==e.born) with
  |none=>
   rw[Array.find?_eq_none] at hf;exact absurd (by simp) (hf e (by simpa using he))
  |some x=>
   have hx:=Array.mem_of_find?_eq_some hf;have hb2:x.born=e.born:=by simpa using Array.find?_some hf
   have hp:=hm.stamped.2.1;rw[List.Nodup,List.pairwise_map,List.pairwise_iff_getElem] at hp;obtain⟨i,hi,rfl⟩:=List.mem_iff_getElem.1 (show x∈es.toList by simpa using hx);obtain⟨j,hj,rfl⟩:=List.mem_iff_getElem.1 he;rcases Nat.lt_trichotomy i j with hlt|rfl|hlt
   .exact absurd hb2 (hp i j hi hj hlt)
   .rfl
   .exact absurd hb2.symm (hp j i hj hi hlt)
 dsimp only;rw[hb];refine RT.eG (x:= .map es c) (fR h) ?_;show RT (if(c !=c)=true then _ else _) _ _ _ _;simp only[bne_self_eq_false,Bool.false_eq_true,if_false];rw[hf];exact .pure _
end
theorem Xi {α β:Type}(a b:α)(ini:β)(f:α->β->Sem (ForInStep β)):forIn (#[a,b]:Array α) ini f=(do
  match<-f a ini with
  |.done x=>Pure.pure x
  |.yield x=>match<-f b x with
   |.done x=>Pure.pure x
   |.yield x=>Pure.pure x):=by
 rfl
abbrev TH:TypeId:=161
def pp (i:Nat):Field:=match PP.underlying TH with|some (.struct fs)=>fs.getD i default|_=>default
theorem aeU:PP.underlying TH=some (.struct #[pp 0,pp 1]):=by kernel_rfl
def hv (b:Bool)(s:ByteArray):Value:= .agg #[.bool b,.string s]
theorem FD {w:World}{t:TypeId}{cs:Array Value}{off:Nat}{v:Value}(ha:(PP.underlying t).map (fun d=>match d with|.struct _|.array _ _=>true|_=>false)=some false)(h:cs[off]? =some v):RT (part t cs off) w v w #[]:=by
 refine(gC (h:=ha)).aP ?_;simp only[Bool.false_eq_true,if_false];rw[h];exact .pure _
theorem yY {w:World}(n:Nat)(b1 b2:Bool)(s1 s2:ByteArray):RT (Op.equalIn (n+2) TH (hv b1 s1) (hv b2 s2)) w (b1==b2&&s1==s2) w #[]:=by
 have f0:pp 0={name:=(pp 0).name,type:=4,offset:=0,embedded:=(pp 0).embedded,tag:=(pp 0).tag,pkgPath:=(pp 0).pkgPath,byteOffset:=(pp 0).byteOffset}:=by kernel_rfl
 have n0:((pp 0).name== "_")=false:=by kernel_rfl
 have n1:((pp 1).name== "_")=false:=by kernel_rfl
 have t0:(pp 0).type=4:=by kernel_rfl
 have t1:(pp 1).type=9:=by kernel_rfl
 have o0:(pp 0).offset=0:=by kernel_rfl
 have o1:(pp 1).offset=1:=by kernel_rfl
 have e0:RT (Op.equalIn (n+1) 4 (.bool b1) (.bool b2)) w (b1==b2) w #[]:=(fB (d:= .bool) (by kernel_rfl)).aP (.pure _);have e1:RT (Op.equalIn (n+1) 9 (.string s1) (.string s2)) w (s1==s2) w #[]:=(fB (d:= .string) (by kernel_rfl)).aP (.pure _);refine(fB aeU).aP ?_;refine fD.aP ?_;have hst:PP.stoodInHeld TH=false:=by kernel_rfl
 show RT (if PP.stoodInHeld TH=true then _ else _) _ _ _ _;rw[hst];simp only[Bool.false_eq_true,if_false];rw[Xi];have m0:(pp 0).name≠ "_":=by simpa using n0
 have m1:(pp 1).name≠ "_":=by simpa using n1
 simp only[if_pos m0,if_pos m1,t0,t1,o0,o1];have p0:∀(b:Bool) (s:ByteArray),RT (part 4 #[.bool b,.string s] 0) w (.bool b) w #[]:=fun b s=>FD (by kernel_rfl) rfl
 have p1:∀(b:Bool) (s:ByteArray),RT (part 9 #[.bool b,.string s] 1) w (.string s) w #[]:=fun b s=>FD (by kernel_rfl) rfl
 cases hb:b1==b2 with
 |false=>
  rw[hb] at e0;exact RT.aP (x:=(some false,())) (RT.aP (x:=ForInStep.done (some false,())) ((p0 _ _).aP ((p0 _ _).aP (e0.aP (.pure _)))) (.pure _)) (.pure _)
 |true=>
  rw[hb] at e0;cases hs:s1==s2 with
  |false=>
   rw[hs] at e1;exact RT.aP (x:=(some false,())) (RT.aP (x:=ForInStep.yield (none,())) ((p0 _ _).aP ((p0 _ _).aP (e0.aP (.pure _)))) (RT.aP (x:=ForInStep.done (some false,())) ((p1 _ _).aP ((p1 _ _).aP (e1.aP (.pure _)))) (.pure _))) (.pure _)
  |true=>
   rw[hs] at e1;exact RT.aP (x:=(none,())) (RT.aP (x:=ForInStep.yield (none,())) ((p0 _ _).aP ((p0 _ _).aP (e0.aP (.pure _)))) (RT.aP (x:=ForInStep.yield (none,())) ((p1 _ _).aP ((p1 _ _).aP (e1.aP (.pure _)))) (.pure _))) (.pure _)
theorem FF {w:World}(b1 b2:Bool)(s1 s2:ByteArray):RT (kJ.bin .neq TH (hv b1 s1) (hv b2 s2)).sem w (.value (.bool (!(b1==b2&&s1==s2)))) w #[]:=by
 have hg:PP.eqGuardType PP.depth TH=false:=by kernel_rfl
 refine RT.aP (x:= .bool (!(b1==b2&&s1==s2))) (RT.aP (x:=()) (w1:=w) ?_ ?_) (.pure _)
 .unfold eqGuard
  simp only[hv];refine fD.aP (fD.aP ?_);rw[hg];exact .pure _
 .exact RT.aP (yY 9998 b1 b2 s1 s2) (.pure _)
section
variable {Δ:Type}{X:Cx Δ}{ro own:Nat->Prop}{Stop:(Nat->Prop)->Goroutine->World->Prop}{v:kJ}{g:Goroutine}{w:World}{main:Bool}
theorem eV {x:Value}{w':World}{ev:Array Event}(h:aQ g=some v)(hr:RT v.sem w (.value x) w' ev):∃es,stepG PP main g w= .go (resume g x) w' es/\∀e∈es,e∈ev:=by
 obtain⟨es,e1,e2⟩:=mc (P:=PP) (main:=main) h hr.run;exact⟨es,e1,fun e he=>hr.ev▸e2 e he⟩
theorem Bm {w':World}{ev:Array Event}(h:aQ g=some v)(hr:RT v.sem w .skip w' ev):∃es,stepG PP main g w= .go (resume g undef) w' es/\∀e∈es,e∈ev:=by
 obtain⟨es,e1,e2⟩:=step_skip (P:=PP) (main:=main) h hr.run;exact⟨es,e1,fun e he=>hr.ev▸e2 e he⟩
theorem qk {b n n':Nat}{e:Event}(hb:own b\/(ro b/\e.write=false))(h:EvB b e):EvX X ro own n n' e:= .inl ⟨b,hb.imp id fun h=> .inr h,h.2⟩
theorem cY {x:Value}(h:aQ g=some v)(hr:∀w₁,RX X ro own w w₁->∃w' ev,RT v.sem w₁ (.value x) w' ev/\w'.tape=w₁.tape/\w'.output=w₁.output/\w'.os=w₁.os/\w'.heap=w₁.heap/\∀e∈ev,∃b,EvB b e/\(own b\/(ro b/\e.write=false)))
  (k:∀w',RX X ro own w w'->aD PP main (eS X false ro) Stop own (resume g x) w'):aD PP main (eS X false ro) Stop own g w:=by
 refine aD.step (cV h).1 fun w₁ h1=>?_
 obtain⟨w',ev,r,a1,a2,a3,a4,a5⟩:=hr w₁ h1;obtain⟨es,e1,e2⟩:=eV (main:=main) h r;have hup:(eS X false ro).up own w₁ w'=own:=by
  funext b
  exact propext ⟨fun h=>h.elim id fun z=>by rw[a4] at z;omega,.inl⟩
 refine⟨_,w',es,e1,⟨a1,a2,by rw[a4];exact Nat.le_refl _,by rw[a3];exact .refl _,fun b _ _=>by rw[a4],fun e he=>?_,fun h=>absurd h (by simp)⟩,?_⟩
 .obtain⟨b,h2,h3⟩:=a5 e (e2 e he)
  exact qk h3 h2
 .rw[hup]
  exact k w' (h1.trans X ⟨a1,a2,by rw[a4];exact Nat.le_refl _,by rw[a3];exact .refl _,fun b _ _=>by rw[a4],fun⟨s,hs⟩=>⟨s,by rw[ShAt,a4];exact hs⟩⟩)
theorem fU {o:Obj}{f:Nat->Value}(h:aQ g=some v)(hr:∀w₁,RX X ro own w w₁->∃ev,RT v.sem w₁ (.value (f w₁.heap.size)) {w₁ with heap:=w₁.heap.push o} ev/\∀e∈ev,∃b,EvB b e/\(own b\/(ro b/\e.write=false)))
  (k:∀w' B,RX X ro own w w'->w.heap.size<=B->w'.heap[B]? =some o->aD PP main (eS X false ro) Stop (fun b=>own b\/b=B) (resume g (f B)) w'):aD PP main (eS X false ro) Stop own g w:=by
 refine aD.step (cV h).1 fun w₁ h1=>?_
 obtain⟨ev,r,a5⟩:=hr w₁ h1;obtain⟨es,e1,e2⟩:=eV (main:=main) h r;have hup:(eS X false ro).up own w₁ {w₁ with heap:=w₁.heap.push o}=fun b=>own b\/b=w₁.heap.size:=by
  funext b
  show(own b\/(w₁.heap.size<=b/\b<(w₁.heap.push o).size))=_;rw[Array.size_push];exact propext ⟨fun h=>h.imp id fun z=>by omega,fun h=>h.imp id fun z=>by omega⟩
 have old:∀b,b<w₁.heap.size->(w₁.heap.push o)[b]? =w₁.heap[b]? :=fun b hb=>by rw[Array.getElem?_push];rw[if_neg (by omega)]
 refine⟨_,_,es,e1,⟨rfl,rfl,by simp,.refl _,fun b hb _=>old b hb,fun e he=>?_,fun h=>absurd h (by simp)⟩,?_⟩
 .obtain⟨b,h2,h3⟩:=a5 e (e2 e he)
  exact qk h3 h2
 .rw[hup]
  refine k _ _ (h1.trans X ⟨rfl,rfl,by simp,.refl _,fun b hb _=>old b hb,fun⟨s,hs⟩=>⟨s,?_,?_⟩⟩) h1.size (by simp)
  .rw[<-hs.1];exact old _ (Array.getElem?_eq_some_iff.1 hs.1).1
  .rw[<-hs.2];exact old _ (Array.getElem?_eq_some_iff.1 hs.2).1
theorem ji {b:Nat}{A:Obj->Value->Prop}(hb:own b)(hX:b≠X.Fd/\b≠X.Wg)(h:aQ g=some v)
  (hr:∀w₁,RX X ro own w w₁->∃x o w' ev,(RT v.sem w₁ (.value x) w' ev\/(RT v.sem w₁ .skip w' ev/\x=undef))/\yD b o w₁ w'/\A o x/\∀e∈ev,∃c,EvB c e/\(own c\/(ro c/\e.write=false)))
  (k:∀w' o x,(∀c,c<w.heap.size->c≠b->own c\/ro c->w'.heap[c]? =w.heap[c]?)->w'.heap[b]? =some o->A o x->RX X ro (fun c=>own c/\c≠b) w w'->aD PP main (eS X false ro) Stop own (resume g x) w') (hro:¬ro b):aD PP main (eS X false ro) Stop own g w:=by
 refine aD.step (cV h).1 fun w₁ h1=>?_
 obtain⟨x,o,w',ev,r,u,a,a5⟩:=hr w₁ h1;have hst:∃es,stepG PP main g w₁= .go (resume g x) w' es/\∀e∈es,e∈ev:=by
  rcases r with r|⟨r,rfl⟩
  .exact eV (main:=main) h r
  .exact Bm (main:=main) h r
 obtain⟨es,e1,e2⟩:=hst;have hup:(eS X false ro).up own w₁ w'=own:=by
  funext c
  exact propext ⟨fun h=>h.elim id fun z=>by rw[u.size] at z;omega,.inl⟩
 refine⟨_,w',es,e1,⟨u.tape,u.output,Nat.le_of_eq u.size.symm,by rw[u.os];exact .refl _,fun c _ hc=>u.rest c fun e=>hc (e▸hb),fun e he=>?_,fun h=>absurd h (by simp)⟩,?_⟩
 .obtain⟨c,h2,h3⟩:=a5 e (e2 e he)
  exact qk h3 h2
 .rw[hup]
  refine k w' o x (fun c hc hne ho=>(u.rest c hne).trans (h1.keep c hc ho)) u.at_ a ?_;refine⟨u.tape.trans h1.tape,u.output.trans h1.output,Nat.le_trans h1.size (Nat.le_of_eq u.size.symm),by rw[u.os];exact h1.os,fun c hc ho=>?_,fun l=>?_⟩
  .have hne:c≠b:=fun e=>ho.elim (fun h=>h.2 e) fun h=>hro (e▸h)
   exact(u.rest c hne).trans (h1.keep c hc (ho.imp (·.1) id))
  .obtain⟨s,hs⟩:=h1.live l
   exact⟨s,(u.rest _ hX.1.symm).trans hs.1,(u.rest _ hX.2.symm).trans hs.2⟩
end
abbrev TM:TypeId:=153
abbrev Jf:TypeId:=164
section
variable (F M B7 B8:Nat)(side:Nat)(path:ByteArray)(hb:Bool)(hc:ByteArray)(x:Value)(fr:Frame)(cs:List Frame)
def gP0:Goroutine:=LB 167 #[pt F,.string path,.int .i64 (side:Int),hv hb hc] 31 fr cs
def gP1:Goroutine:=O (gP0 F side path hb hc fr cs)
theorem Xa:av PP false (gP0 F side path hb hc fr cs) (gP1 F side path hb hc fr cs):=aJ fun ws=>by kernel_rfl
theorem P2:aQ (gP1 F side path hb hc fr cs)=some (.box TH (hv hb hc)):=by kernel_rfl
def fP:Frame:=(On 7 (resume (gP1 F side path hb hc fr cs) (pb B7))).callers.head?.getD default
theorem W9:av PP false (resume (gP1 F side path hb hc fr cs) (pb B7)) (gL0 F (fP F B7 side path hb hc fr cs) (fr::cs)):=aO 7 (bN PP false 7 (resume (gP1 F side path hb hc fr cs) (pb B7))) fun ws=>by kernel_rfl
def gP3:Goroutine:=cB (fP F B7 side path hb hc fr cs) (fr::cs) U
def gP4:Goroutine:=O (gP3 F B7 side path hb hc fr cs)
theorem W8:av PP false (gP3 F B7 side path hb hc fr cs) (gP4 F B7 side path hb hc fr cs):=aJ fun ws=>by kernel_rfl
theorem W6:aQ (gP4 F B7 side path hb hc fr cs)=some (.load TM (.pointer (some ⟨F,2,none⟩))):=by kernel_rfl
def gP5:Goroutine:=O (resume (gP4 F B7 side path hb hc fr cs) (.map (some M)))
theorem W7:av PP false (resume (gP4 F B7 side path hb hc fr cs) (.map (some M))) (gP5 F M B7 side path hb hc fr cs):=aJ fun ws=>by kernel_rfl
theorem W4:aQ (gP5 F M B7 side path hb hc fr cs)=some (.lookup TM (.map (some M)) (.string path) false):=by kernel_rfl
def gP6:Goroutine:=O (resume (gP5 F M B7 side path hb hc fr cs) x)
theorem W5:av PP false (resume (gP5 F M B7 side path hb hc fr cs) x) (gP6 F M B7 side path hb hc x fr cs):=aJ fun ws=>by kernel_rfl
theorem W3:aQ (gP6 F M B7 side path hb hc x fr cs)=some (.alloc Jf):=by kernel_rfl
def gP7:Goroutine:=O (resume (gP6 F M B7 side path hb hc x fr cs) (pb B8))
theorem W2:av PP false (resume (gP6 F M B7 side path hb hc x fr cs) (pb B8)) (gP7 F M B7 B8 side path hb hc x fr cs):=aJ fun ws=>by kernel_rfl
theorem W0:aQ (gP7 F M B7 B8 side path hb hc x fr cs)=some (.store Jf (pb B8) x):=by kernel_rfl
def gP8:Goroutine:=O (resume (gP7 F M B7 B8 side path hb hc x fr cs) undef)
theorem W1:av PP false (resume (gP7 F M B7 B8 side path hb hc x fr cs) undef) (gP8 F M B7 B8 side path hb hc x fr cs):=aJ fun ws=>by kernel_rfl
theorem WY:aQ (gP8 F M B7 B8 side path hb hc x fr cs)=some (.indexAddr 159 (pb B8) (.int .i64 (side:Int))):=by kernel_rfl
def gP9:Goroutine:=O (resume (gP8 F M B7 B8 side path hb hc x fr cs) (.pointer (some ⟨B8,side,none⟩)))
theorem WZ:av PP false (resume (gP8 F M B7 B8 side path hb hc x fr cs) (.pointer (some ⟨B8,side,none⟩))) (gP9 F M B7 B8 side path hb hc x fr cs):=aJ fun ws=>by kernel_rfl
theorem WW:aQ (gP9 F M B7 B8 side path hb hc x fr cs)=some (.store 4 (.pointer (some ⟨B8,side,none⟩)) (.bool true)):=by kernel_rfl
def Qd:Goroutine:=O (resume (gP9 F M B7 B8 side path hb hc x fr cs) undef)
theorem WX:av PP false (resume (gP9 F M B7 B8 side path hb hc x fr cs) undef) (Qd F M B7 B8 side path hb hc x fr cs):=aJ fun ws=>by kernel_rfl
theorem Qb:aQ (Qd F M B7 B8 side path hb hc x fr cs)=some (.load TH (pb B7)):=by kernel_rfl
def Qa:Goroutine:=O (resume (Qd F M B7 B8 side path hb hc x fr cs) (hv hb hc))
theorem Qc:av PP false (resume (Qd F M B7 B8 side path hb hc x fr cs) (hv hb hc)) (Qa F M B7 B8 side path hb hc x fr cs):=aJ fun ws=>by kernel_rfl
theorem P8:aQ (Qa F M B7 B8 side path hb hc x fr cs)=some (.indexAddr 162 (.pointer (some ⟨B8,2,none⟩)) (.int .i64 (side:Int))):=by kernel_rfl
def P6:Goroutine:=O (resume (Qa F M B7 B8 side path hb hc x fr cs) (.pointer (some ⟨B8,2+2*side,none⟩)))
theorem P9:av PP false (resume (Qa F M B7 B8 side path hb hc x fr cs) (.pointer (some ⟨B8,2+2*side,none⟩))) (P6 F M B7 B8 side path hb hc x fr cs):=aJ fun ws=>by kernel_rfl
theorem P4:aQ (P6 F M B7 B8 side path hb hc x fr cs)=some (.store TH (.pointer (some ⟨B8,2+2*side,none⟩)) (hv hb hc)):=by kernel_rfl
def Lz:Goroutine:=O (resume (P6 F M B7 B8 side path hb hc x fr cs) undef)
theorem P5:av PP false (resume (P6 F M B7 B8 side path hb hc x fr cs) undef) (Lz F M B7 B8 side path hb hc x fr cs):=aJ fun ws=>by kernel_rfl
def Zl:Array Value:=(Lz F M B7 B8 side path hb hc x fr cs).frame.tmps
def nh:Array Oper:=match(Lz 0 0 0 0 0 default false default undef default []).frame.todo with|.code (.region _ ops _)::_=>ops|_=>#[]
def idP:Nat:=match(Lz 0 0 0 0 0 default false default undef default []).frame.todo with|.code (.region id _ _)::_=>id|_=>0
def mH (F:Nat)(tm:Array Value)(l:List Nat)(fr:Frame)(cs:List Frame):Goroutine:=G ((base 167).at ⟨tm,[dcall 202 #[pt F]]⟩ [.inRegion nh l]) (fr::cs)
theorem P3:Lz F M B7 B8 side path hb hc x fr cs=G ((base 167).at ⟨Zl F M B7 B8 side path hb hc x fr cs,[dcall 202 #[pt F]]⟩ [.code (.region idP nh true)]) (fr::cs):=by kernel_rfl
theorem JJ:(Zl F M B7 B8 side path hb hc x fr cs).size=35:=by kernel_rfl
theorem Zk:(Zl F M B7 B8 side path hb hc x fr cs)[0]? =some (pt F):=by kernel_rfl
theorem Zj:(Zl F M B7 B8 side path hb hc x fr cs)[1]? =some (.string path):=by kernel_rfl
theorem Zi:(Zl F M B7 B8 side path hb hc x fr cs)[8]? =some (pb B8):=by kernel_rfl
end
section
variable (F:Nat)(y:Nat->Value)(l:List Nat)(fr:Frame)(cs:List Frame)
def Bf (y:Nat->Value):Array Value:=#[y 0,y 1,y 2,y 3,y 4,y 5,y 6,y 7,y 8,y 9,y 10,y 11,y 12,y 13,y 14,y 15,y 16,y 17,y 18,y 19,y 20,y 21,y 22,y 23,y 24,y 25,y 26,y 27,y 28,y 29,y 30,y 31,y 32,y 33,y 34]
theorem oJ (tm:Array Value)(h:tm.size=35):tm=Bf fun i=>tm.getD i undef:=by
 have e:tm=((List.range 35).map fun i=>tm.getD i undef).toArray:=by
  apply Array.ext
  .simp[h]
  .intro i h1 h2
   simp[Array.getD_eq_getD_getElem?,h1]
 exact e.trans (by kernel_rfl)
theorem Br (tm:Array Value)(h:tm.size=35):tm=#[tm.getD 0 undef,tm.getD 1 undef,tm.getD 2 undef,tm.getD 3 undef,tm.getD 4 undef,tm.getD 5 undef,tm.getD 6 undef,tm.getD 7 undef,tm.getD 8 undef,tm.getD 9 undef,tm.getD 10 undef,tm.getD 11 undef,tm.getD 12 undef,tm.getD 13 undef,tm.getD 14 undef,tm.getD 15 undef,tm.getD 16 undef,tm.getD 17 undef,tm.getD 18 undef,tm.getD 19 undef,tm.getD 20 undef,tm.getD 21 undef,tm.getD 22 undef,tm.getD 23 undef,tm.getD 24 undef,tm.getD 25 undef,tm.getD 26 undef,tm.getD 27 undef,tm.getD 28 undef,tm.getD 29 undef,tm.getD 30 undef,tm.getD 31 undef,tm.getD 32 undef,tm.getD 33 undef,tm.getD 34 undef]:=oJ tm h
theorem aau:av PP false (mH F (Bf y) (0::l) fr cs) (mH F ((Bf y).setIfInBounds 29 (y 0)) l fr cs):=aO 1 1 fun ws=>by kernel_rfl
theorem aat:av PP false (mH F (#[y 0,y 1,y 2,y 3,y 4,y 5,y 6,y 7,y 8,y 9,y 10,y 11,y 12,y 13,y 14,y 15,y 16,y 17,y 18,y 19,y 20,y 21,y 22,y 23,y 24,y 25,y 26,y 27,y 28,pt F,y 30,y 31,y 32,y 33,y 34]) (1::l) fr cs) (mH F ((#[y 0,y 1,y 2,y 3,y 4,y 5,y 6,y 7,y 8,y 9,y 10,y 11,y 12,y 13,y 14,y 15,y 16,y 17,y 18,y 19,y 20,y 21,y 22,y 23,y 24,y 25,y 26,y 27,y 28,pt F,y 30,y 31,y 32,y 33,y 34]:Array Value).setIfInBounds 30 (pt F)) l fr cs):=aO 1 1 fun ws=>by kernel_rfl
theorem aas:av PP false (mH F (#[y 0,y 1,y 2,y 3,y 4,y 5,y 6,y 7,y 8,y 9,y 10,y 11,y 12,y 13,y 14,y 15,y 16,y 17,y 18,y 19,y 20,y 21,y 22,y 23,y 24,y 25,y 26,y 27,y 28,y 29,pt F,y 31,y 32,y 33,y 34]) (2::l) fr cs) (mH F ((#[y 0,y 1,y 2,y 3,y 4,y 5,y 6,y 7,y 8,y 9,y 10,y 11,y 12,y 13,y 14,y 15,y 16,y 17,y 18,y 19,y 20,y 21,y 22,y 23,y 24,y 25,y 26,y 27,y 28,y 29,pt F,y 31,y 32,y 33,y 34]:Array Value).setIfInBounds 31 (.pointer (some ⟨F,2,none⟩))) l fr cs):=aO 1 1 fun ws=>by kernel_rfl
theorem aar:aQ (mH F (Bf y) (3::l) fr cs)=some (.load TM (y 31)):=by kernel_rfl
theorem U4 (v:Value):resume (mH F (Bf y) (3::l) fr cs) v=mH F ((Bf y).setIfInBounds 32 v) l fr cs:=by kernel_rfl
theorem aaq:av PP false (mH F (Bf y) (4::l) fr cs) (mH F ((Bf y).setIfInBounds 33 (y 1)) l fr cs):=aO 1 1 fun ws=>by kernel_rfl
theorem aap:aQ (mH F (Bf y) (5::l) fr cs)=some (.load Jf (y 8)):=by kernel_rfl
theorem U3 (v:Value):resume (mH F (Bf y) (5::l) fr cs) v=mH F ((Bf y).setIfInBounds 34 v) l fr cs:=by kernel_rfl
theorem aao:aQ (mH F (Bf y) (6::l) fr cs)=some (.mapUpdate TM (y 32) (y 33) (y 34)):=by kernel_rfl
theorem U2:resume (mH F (Bf y) (6::l) fr cs) undef=mH F (Bf y) l fr cs:=by kernel_rfl
def pfP (tm:Array Value):Frame:=(base 167).at ⟨tm,[]⟩ []
theorem P1 (tm:Array Value):av PP false (mH F tm [] fr cs) (gU0 F (pfP tm) (fr::cs)):=aO 3 (bN PP false 3 (mH F tm [] fr cs)) fun ws=>by kernel_rfl
theorem KA (tm:Array Value):av PP false (G {pfP tm with mode:= .returning} (fr::cs)) (cB fr cs U):=aO 1 1 fun ws=>by kernel_rfl
def bits (n:Nat):Array Bool:=#[n%2==1,n/2%2==1,n/4%2==1,n/8%2==1,n/16%2==1,n/32%2==1,n/64%2==1]
def needs:Nat->List Nat
 |1=>[0]|2=>[1]|3=>[2]|6=>[3,4,5]|_=>[]
def rP (b:Array Bool):Bool:=(List.range 7).all fun i=>!b.getD i false||(needs i).all fun j=>b.getD j false
theorem Ic:nh.size=7:=by kernel_rfl
theorem UE:((List.range 128).all fun n=>(Region.ready .any nh (bits n)).all fun i=>decide (i<7)&&!(bits n).getD i true&&(needs i).all fun j=>(bits n).getD j false)=true:=by kernel_rfl
theorem OE:((List.range 128).all fun n=>!(Region.ready .any nh (bits n)).isEmpty||!rP (bits n)||(bits n).all id)=true:=by kernel_rfl
def cntF (n:Nat):Nat:=((List.range 7).filter fun i=>!(bits n).getD i true).length
theorem OD:((List.range 128).all fun n=>(Region.ready .any nh (bits n)).all fun i=>(bits n).setIfInBounds i true==bits (n+2^i)&&decide (cntF (n+2^i)+1=cntF n)&&decide (n+2^i<128)&&
  (!rP (bits n)||rP (bits (n+2^i)))&&(i !=6||!rP (bits n)||cntF n==1)&&(i==6||(bits (n+2^i)).getD 6 true==(bits n).getD 6 true))=true:=by kernel_rfl
end
theorem RT.of0 {α:Type}{s:Sem α}{w w':World}{x:α}(h:∀es,s.runT PP w es=(.ok x w',es)):RT s w x w' #[]:=fun es=>by rw[h,Array.append_empty]
theorem UA {w:World}(B:Nat):∀side:Nat,side<2->RT (kJ.indexAddr 159 (pb B) (.int .i64 (side:Int))).sem w (.value (.pointer (some ⟨B,side,none⟩))) w #[]
 |0,_=> .of0 fun es=>by kernel_rfl
 |1,_=> .of0 fun es=>by kernel_rfl
theorem Uz {w:World}(B:Nat):∀side:Nat,side<2->RT (kJ.indexAddr 162 (.pointer (some ⟨B,2,none⟩)) (.int .i64 (side:Int))).sem w (.value (.pointer (some ⟨B,2+2*side,none⟩))) w #[]
 |0,_=> .of0 fun es=>by kernel_rfl
 |1,_=> .of0 fun es=>by kernel_rfl
theorem JG:PP.underlying TM=some (.map 9 Jf):=by kernel_rfl
theorem JH:PP.underlying 9=some .string:=by kernel_rfl
def zF:Value:= .agg #[.bool false,.bool false,.bool false,.string ⟨#[]⟩,.bool false,.string ⟨#[]⟩]
theorem Jv:(PP.info? Jf).bind (·.zero)=some zF:=by kernel_rfl
theorem Lv (md:Region.Mode)(ops:Array Oper)(fuel t:Nat)(listed:Array Bool)(hlt:t%(Region.ready md ops listed).length<(Region.ready md ops listed).length):
  Region.linearise.go md ops (fuel+1) t listed []=(Region.ready md ops listed)[t%(Region.ready md ops listed).length]::
   Region.linearise.go md ops fuel (t/(Region.ready md ops listed).length) (listed.setIfInBounds ((Region.ready md ops listed)[t%(Region.ready md ops listed).length]) true) []:=by
 simp only[Region.linearise.go]
 change (match(Region.ready md ops listed)[t%(Region.ready md ops listed).length]? with
  |some i=>Region.linearise.go md ops fuel (t/(Region.ready md ops listed).length) (listed.setIfInBounds i true) [i]
  |none=>[].reverse)=_
 rw[List.getElem?_eq_getElem hlt];simp only;rw[Go.linearise_go_acc,List.reverse_singleton,List.singleton_append]
structure Kept (n:Nat)(F M:Nat)(path:ByteArray)(fc:Array Value)(B8:Nat)(tm:Array Value):Prop where
 size:tm.size=35
 s0:tm[0]? =some (pt F)
 s1:tm[1]? =some (.string path)
 s8:tm[8]? =some (pb B8)
 r0:(bits n).getD 0 false=true->tm[29]? =some (pt F)
 r1:(bits n).getD 1 false=true->tm[30]? =some (pt F)
 r2:(bits n).getD 2 false=true->tm[31]? =some (.pointer (some ⟨F,2,none⟩))
 r3:(bits n).getD 3 false=true->tm[32]? =some (.map (some M))
 r4:(bits n).getD 4 false=true->tm[33]? =some (.string path)
 r5:(bits n).getD 5 false=true->tm[34]? =some (.agg fc)
section
variable {F M B8:Nat}{path:ByteArray}{fc:Array Value}{tm:Array Value}{n i:Nat}
theorem Kept.set (h:Kept n F M path fc B8 tm)(hb:(bits n).setIfInBounds i true=bits (n+2^i))(hi:i<6){v:Value}
  (hv:v=match i with|0=>pt F|1=>pt F|2=> .pointer (some ⟨F,2,none⟩)|3=> .map (some M)|4=> .string path|_=> .agg fc):Kept (n+2^i) F M path fc B8 (tm.setIfInBounds (29+i) v):=by
 have hs:=h.size;have at_:∀j,j≠29+i->(tm.setIfInBounds (29+i) v)[j]? =tm[j]? :=fun j hj=>by rw[Array.getElem?_setIfInBounds_ne hj.symm]
 have self:(tm.setIfInBounds (29+i) v)[29+i]? =some v:=by rw[Array.getElem?_setIfInBounds_self_of_lt (by omega)]
 have bt:∀j,(bits (n+2^i)).getD j false=true->j=i\/(bits n).getD j false=true:=by
  intro j hj
  by_cases e:j=i
  .exact .inl e
  .right
   rw[<-hb,Array.getD_eq_getD_getElem?,Array.getElem?_setIfInBounds_ne (fun q=>e q.symm),<-Array.getD_eq_getD_getElem?] at hj;exact hj
 refine⟨by simp[hs],by rw[at_ 0 (by omega)];exact h.s0,by rw[at_ 1 (by omega)];exact h.s1,by rw[at_ 8 (by omega)];exact h.s8,?_,?_,?_,?_,?_,?_⟩<;>intro hj<;>rcases bt _ hj with e|e
 .subst e;subst hv;exact self
 .by_cases q:i=0
  .subst q;subst hv;exact self
  .rw[at_ 29 (by omega)];exact h.r0 e
 .subst e;subst hv;exact self
 .by_cases q:i=1
  .subst q;subst hv;exact self
  .rw[at_ 30 (by omega)];exact h.r1 e
 .subst e;subst hv;exact self
 .by_cases q:i=2
  .subst q;subst hv;exact self
  .rw[at_ 31 (by omega)];exact h.r2 e
 .subst e;subst hv;exact self
 .by_cases q:i=3
  .subst q;subst hv;exact self
  .rw[at_ 32 (by omega)];exact h.r3 e
 .subst e;subst hv;exact self
 .by_cases q:i=4
  .subst q;subst hv;exact self
  .rw[at_ 33 (by omega)];exact h.r4 e
 .subst e;subst hv;exact self
 .by_cases q:i=5
  .subst q;subst hv;exact self
  .rw[at_ 34 (by omega)];exact h.r5 e
end
theorem zh {Δ:Type}{X:Cx Δ}{ro own:Nat->Prop}{Stop:(Nat->Prop)->Goroutine->World->Prop}{w:World}{g:Goroutine}{v:Value}(h:aQ g=some (.load TM v))(hv:v= .pointer (some ⟨X.Fd,2,none⟩))(live:∃s,ShAt X w s)
  (k:∀w2,RX X ro own w w2->aD PP false (eS X false ro) Stop own (resume g (.map (some X.M))) w2):aD PP false (eS X false ro) Stop own g w:=by
 subst hv;refine aD.step (cV h).1 fun w1 h1=>?_
 obtain⟨s,hs⟩:=h1.live live;have hc:w1.cell? ⟨X.Fd,2,none⟩=some (.map (some X.M)):=by simp[World.cell?,hs.1]
 have r:RT (kJ.load TM (.pointer (some ⟨X.Fd,2,none⟩))).sem w1 (.value (.map (some X.M))) w1 #[⟨.cell ⟨X.Fd,2,none⟩,false,false⟩]:=by
  refine RT.eG (x:= .map (some X.M)) ?_ (.pure _);show RT (do if<-isAgg TM then Pure.pure (.agg (<-loadCells ⟨X.Fd,2,none⟩ (<-Go.sizeOf TM))) else load ⟨X.Fd,2,none⟩) _ _ _ _;refine(gC (b:=false)).aP ?_;simp only[Bool.false_eq_true,if_false];exact jZ hc
 obtain⟨es,e1,e2⟩:=eV (main:=false) h r;refine⟨_,w1,es,e1,⟨rfl,rfl,Nat.le_refl _,.refl _,fun _ _ _=>rfl,fun e he=>?_,fun h=>absurd h (by simp)⟩,?_⟩
 .have:=e2 e he
  simp at this;subst this;exact .inr (.inl ⟨rfl,rfl,rfl⟩)
 .have e:=(jA (X:=X) false ro own w1).2
  rw[e];exact k w1 h1
section
variable {Δ:Type}{X:Cx Δ}{ro own:Nat->Prop}{Stop:(Nat->Prop)->Goroutine->World->Prop}{w:World}{M B8:Nat}{path:ByteArray}{fc:Array Value}{fr:Frame}{cs:List Frame}{es:Array MapEntry}{c:Nat}{f:ByteArray->Option Value}
variable (hXM:X.M=M)(hne:M≠X.Fd/\M≠X.Wg)(wP:own M)(Ga:own B8)(PE:¬ro M)(hm:dh es c f)(hfc:fc.size=6)
structure Mid (X:Cx Δ)(ro own:Nat->Prop)(M B8:Nat)(fc:Array Value)(es:Array MapEntry)(c:Nat)(w w1:World):Prop where
 r:RX X ro own w w1
 live:∃s,ShAt X w1 s
 at8:w1.heap[B8]? =some (.cells fc Jf (0,0))
 atM:w1.heap[M]? =some (.map es c)
include wP Ga
theorem Mid.rely {w1 w2:World}(h:Mid X ro own M B8 fc es c w w1)(h2:RX X ro own w1 w2):Mid X ro own M B8 fc es c w w2:=
 ⟨h.r.trans X h2,h2.live h.live,(h2.keep B8 (Array.getElem?_eq_some_iff.1 h.at8).1 (.inl Ga)).trans h.at8,(h2.keep M (Array.getElem?_eq_some_iff.1 h.atM).1 (.inl wP)).trans h.atM⟩
variable {n:Nat}{tm:Array Value}{L:List Nat}{w1:World}(hK:Kept n X.Fd M path fc B8 tm)(hA:Mid X ro own M B8 fc es c w w1)
include hK hA
theorem Vy (hset:(bits n).setIfInBounds 0 true=bits (n+2^0))(IH:∀{xV:Array Value} {w2:World},Mid X ro own M B8 fc es c w w2->Kept (n+2^0) X.Fd M path fc B8 xV->aD PP false (eS X false ro) Stop own (mH X.Fd xV L fr cs) w2):
  aD PP false (eS X false ro) Stop own (mH X.Fd tm (0::L) fr cs) w1:=by
 have hy:=oJ tm hK.size;rw[hy];refine aC (aau _ _ _ _ _) ?_;rw[<-hy,bZ hK.s0];exact IH hA (hK.set hset (by decide) rfl)
theorem Vx (hset:(bits n).setIfInBounds 1 true=bits (n+2^1))(d0:(bits n).getD 0 false=true)(IH:∀{xV:Array Value} {w2:World},Mid X ro own M B8 fc es c w w2->Kept (n+2^1) X.Fd M path fc B8 xV->aD PP false (eS X false ro) Stop own (mH X.Fd xV L fr cs) w2):
  aD PP false (eS X false ro) Stop own (mH X.Fd tm (1::L) fr cs) w1:=by
 have hy:=Br tm hK.size;have e29:=bZ (hK.r0 d0);rw[e29] at hy;have h:=aat X.Fd (fun i=>tm.getD i undef) L fr cs;dsimp only at h;rw[<-hy] at h;refine aC h ?_;exact IH hA (hK.set hset (by decide) rfl)
theorem Vw (hset:(bits n).setIfInBounds 2 true=bits (n+2^2))(d1:(bits n).getD 1 false=true)(IH:∀{xV:Array Value} {w2:World},Mid X ro own M B8 fc es c w w2->Kept (n+2^2) X.Fd M path fc B8 xV->aD PP false (eS X false ro) Stop own (mH X.Fd xV L fr cs) w2):
  aD PP false (eS X false ro) Stop own (mH X.Fd tm (2::L) fr cs) w1:=by
 have hy:=Br tm hK.size;have e30:=bZ (hK.r1 d1);rw[e30] at hy;have h:=aas X.Fd (fun i=>tm.getD i undef) L fr cs;dsimp only at h;rw[<-hy] at h;refine aC h ?_;exact IH hA (hK.set hset (by decide) rfl)
include hXM in
theorem Vv (hset:(bits n).setIfInBounds 3 true=bits (n+2^3))(d2:(bits n).getD 2 false=true)(IH:∀{xV:Array Value} {w2:World},Mid X ro own M B8 fc es c w w2->Kept (n+2^3) X.Fd M path fc B8 xV->aD PP false (eS X false ro) Stop own (mH X.Fd xV L fr cs) w2):
  aD PP false (eS X false ro) Stop own (mH X.Fd tm (3::L) fr cs) w1:=by
 have hy:=oJ tm hK.size;have e31:=bZ (hK.r2 d2);rw[hy];refine zh (X:=X) (aar _ _ _ _ _) e31 hA.live fun w2 h2=>?_
 rw[U4,<-hy,hXM];exact IH (hA.rely wP Ga h2) (hK.set hset (by decide) rfl)
theorem Vu (hset:(bits n).setIfInBounds 4 true=bits (n+2^4))(IH:∀{xV:Array Value} {w2:World},Mid X ro own M B8 fc es c w w2->Kept (n+2^4) X.Fd M path fc B8 xV->aD PP false (eS X false ro) Stop own (mH X.Fd xV L fr cs) w2):
  aD PP false (eS X false ro) Stop own (mH X.Fd tm (4::L) fr cs) w1:=by
 have hy:=oJ tm hK.size;rw[hy];refine aC (aaq _ _ _ _ _) ?_;rw[<-hy,bZ hK.s1];exact IH hA (hK.set hset (by decide) rfl)
include hfc in
theorem Vt (hset:(bits n).setIfInBounds 5 true=bits (n+2^5))(IH:∀{xV:Array Value} {w2:World},Mid X ro own M B8 fc es c w w2->Kept (n+2^5) X.Fd M path fc B8 xV->aD PP false (eS X false ro) Stop own (mH X.Fd xV L fr cs) w2):
  aD PP false (eS X false ro) Stop own (mH X.Fd tm (5::L) fr cs) w1:=by
 have hy:=oJ tm hK.size;rw[hy];have e8:=bZ hK.s8;have hv:aQ (mH X.Fd (Bf fun i=>tm.getD i undef) (5::L) fr cs)=some (.load Jf (.pointer (some ⟨B8,0,none⟩))):=by
  rw[aap,e8];rfl
 refine cY hv (x:= .agg fc) (fun w2 h2=>?_) fun w2 h2=>?_
 .obtain⟨ev,r1,r2⟩:=jy (t:=Jf) (off:=0) (n:=6) (hA.rely wP Ga h2).at8 (by kernel_rfl) (by kernel_rfl) (by omega)
  have e:fc.extract 0 (0+6)=fc:=by rw[show 0+6=fc.size by omega];simp
  rw[e] at r1;exact⟨w2,ev,r1,rfl,rfl,rfl,rfl,fun e he=>⟨B8,(r2 e he).1,.inl Ga⟩⟩
 .rw[U3,<-hy]
  exact IH (hA.rely wP Ga h2) (hK.set hset (by decide) rfl)
include hne PE hm in
theorem Vs (d3:(bits n).getD 3 false=true)(d4:(bits n).getD 4 false=true)(d5:(bits n).getD 5 false=true)
  (k:∀tm' w' es' c',tm'.size=35->w'.heap[M]? =some (.map es' c')->dh es' c' (fun s=>if s=path then some (.agg fc) else f s)->RX X ro (fun c=>own c/\c≠M) w w'->aD PP false (eS X false ro) Stop own (mH X.Fd tm' [] fr cs) w'):
  aD PP false (eS X false ro) Stop own (mH X.Fd tm (6::[]) fr cs) w1:=by
 have hy:=oJ tm hK.size;rw[hy];have e32:=bZ (hK.r3 d3);have e33:=bZ (hK.r4 d4);have e34:=bZ (hK.r5 d5);have hv:aQ (mH X.Fd (Bf fun i=>tm.getD i undef) (6::[]) fr cs)=some (.mapUpdate TM (.map (some M)) (.string path) (.agg fc)):=by
  rw[aao,e32,e33,e34]
 refine ji (A:=fun o x=>x=undef/\∃es' c',o= .map es' c'/\dh es' c' fun s=>if s=path then some (.agg fc) else f s) wP hne hv (fun w2 h2=>?_) (fun w2 o x h2 h3 h4 h5=>?_) PE
 .obtain⟨es',c',w',ev,r1,r2,r3,r4⟩:=z7 (t:=TM) (v:= .agg fc) (s:=path) JG JH (hA.rely wP Ga h2).atM hm
  exact⟨undef,_,w',ev,.inr ⟨r1,rfl⟩,r2,⟨rfl,es',c',rfl,r4⟩,fun e he=>⟨M,r3 e he,.inl wP⟩⟩
 .obtain⟨rfl,es',c',rfl,h6⟩:=h4
  rw[U2];have hr:=hA.r;exact k _ w2 es' c' (by simp[Bf]) h3 h6 (RX.trans X (b:=w1) ⟨hr.tape,hr.output,hr.size,hr.os,fun b hb ho=>hr.keep b hb (ho.imp (·.1) id),hr.live⟩ h5)
omit hK hA
include hXM hne PE hm hfc
theorem Em (k:∀tm' w' es' c',tm'.size=35->w'.heap[M]? =some (.map es' c')->dh es' c' (fun s=>if s=path then some (.agg fc) else f s)->RX X ro (fun c=>own c/\c≠M) w w'->aD PP false (eS X false ro) Stop own (mH X.Fd tm' [] fr cs) w')
  (fuel:Nat):∀(t n:Nat) (tm:Array Value) (w1:World),Mid X ro own M B8 fc es c w w1->n<128->rP (bits n)=true->(bits n).getD 6 true=false->cntF n=fuel->Kept n X.Fd M path fc B8 tm->
   aD PP false (eS X false ro) Stop own (mH X.Fd tm (Region.linearise.go .any nh fuel t (bits n) []) fr cs) w1:=by
 induction fuel with
 |zero=>
  intro t n tm w1 _ hn hcl h6 hc _;exfalso;have:(6:Nat)∈(List.range 7).filter fun i=>!(bits n).getD i true:=List.mem_filter.2 ⟨by simp,by rw[h6];rfl⟩
  unfold cntF at hc;rw[List.length_eq_zero_iff] at hc;rw[hc] at this;cases this
 |succ fuel ih=>
  intro t n tm w1 hA hn hcl h6 hc hK;have r7:=List.all_eq_true.1 UE n (List.mem_range.2 hn);have r7n:=List.all_eq_true.1 OE n (List.mem_range.2 hn);have r7s:=List.all_eq_true.1 OD n (List.mem_range.2 hn);have hnil:Region.ready .any nh (bits n)≠[]:=by
   intro e;rw[e,hcl] at r7n;simp only[List.isEmpty_nil,Bool.not_true,Bool.false_or] at r7n;have:(bits n)[6]? =some true:=by
    have hs:(bits n).size=7:=rfl;have:=Array.all_eq_true_iff_forall_mem.1 r7n ((bits n)[6]'(by rw[hs];decide)) (Array.getElem_mem _);rw[Array.getElem?_eq_getElem (by rw[hs];decide)];exact congrArg some this
   rw[Array.getD_eq_getD_getElem?,this] at h6;cases h6
  have hlen:0<(Region.ready .any nh (bits n)).length:=List.length_pos_iff.2 hnil;have hlt:=Nat.mod_lt t hlen;have hgo:=Lv .any nh fuel t (bits n) hlt;rw[hgo];generalize hi:(Region.ready .any nh (bits n))[t%(Region.ready .any nh (bits n)).length]=i;have him:i∈Region.ready .any nh (bits n):=hi▸List.getElem_mem hlt;have q1:=List.all_eq_true.1 r7 i him
  have q2:=List.all_eq_true.1 r7s i him;simp only[Bool.and_eq_true,decide_eq_true_eq,Bool.or_eq_true,Bool.not_eq_true',beq_iff_eq,bne_iff_ne] at q1 q2;obtain⟨⟨hi7,hif⟩,abt⟩:=q1;obtain⟨⟨⟨⟨⟨hset,hcnt⟩,hlt2⟩,Wm⟩,h6c⟩,h6k⟩:=q2;have Wm:=Wm.resolve_left (by rw[hcl];simp);have dep:∀j,j∈needs i->(bits n).getD j false=true:=List.all_eq_true.1 abt
  have IH:i≠6->∀{xV:Array Value} {w2:World},Mid X ro own M B8 fc es c w w2->Kept (n+2^i) X.Fd M path fc B8 xV->
    aD PP false (eS X false ro) Stop own (mH X.Fd xV (Region.linearise.go .any nh fuel (t/(Region.ready .any nh (bits n)).length) ((bits n).setIfInBounds i true) []) fr cs) w2:=fun hi6 {xV w2} a g=>by
   rw[hset];exact ih _ _ _ _ a hlt2 Wm ((h6k.resolve_left hi6).trans h6) (by omega) g
  clear hi hgo r7 r7n r7s;have XL:i=0\/i=1\/i=2\/i=3\/i=4\/i=5\/i=6:=by omega
  rcases XL with rfl|rfl|rfl|rfl|rfl|rfl|rfl
  .exact Vy wP Ga hK hA hset (IH (by decide))
  .exact Vx wP Ga hK hA hset (dep 0 (by simp[needs])) (IH (by decide))
  .exact Vw wP Ga hK hA hset (dep 1 (by simp[needs])) (IH (by decide))
  .exact Vv hXM wP Ga hK hA hset (dep 2 (by simp[needs])) (IH (by decide))
  .exact Vu wP Ga hK hA hset (IH (by decide))
  .exact Vt wP Ga hfc hK hA hset (IH (by decide))
  .have hf0:fuel=0:=by
    have:=(h6c.resolve_left (by simp[hcl]));omega
   subst hf0;exact Vs hne wP Ga PE hm hK hA (dep 3 (by simp[needs])) (dep 4 (by simp[needs])) (dep 5 (by simp[needs])) k
end
abbrev iD:=ByteArray->Option (Bool×ByteArray)
def cj (a b:Option (Bool×ByteArray)):Array Value:=
 #[.bool a.isSome,.bool b.isSome,.bool (a.getD (false,⟨#[]⟩)).1,.string (a.getD (false,⟨#[]⟩)).2,.bool (b.getD (false,⟨#[]⟩)).1,.string (b.getD (false,⟨#[]⟩)).2]
def comb (a b:Option (Bool×ByteArray)):Option Value:=if a.isSome||b.isSome then some (.agg (cj a b)) else none
theorem xp (a b:Option (Bool×ByteArray)):(comb a b).getD zF= .agg (cj a b):=by
 cases a<;>cases b<;>rfl
def ES (a b:iD)(o:Obj):Prop:=∃es c f,o= .map es c/\dh es c f/\∀s,f s=comb (a s) (b s)
def dZ:bm->Nat
 |.b=>1
 |_=>0
def iw (m:iD)(path:ByteArray)(h:Bool×ByteArray):iD:=fun s=>if s=path then some h else m s
def zp (r:bm)(mine other:Option (Bool×ByteArray)):Array Value:=match r with
 |.a=>cj mine other
 |_=>cj other mine
theorem Xk (r:bm)(hr:r= .a\/r= .b)(mine other:Option (Bool×ByteArray))(hb:Bool)(hc:ByteArray):
  kj (kj (zp r mine other) [.bool true] (dZ r)) [.bool hb,.string hc] (2+2*dZ r)=zp r (some (hb,hc)) other:=by
 rcases hr with rfl|rfl<;>rfl
theorem tH:∀(l:List Value) (cs:Array Value) (i:Nat),(kj cs l i).size=cs.size
 |[],_,_=>rfl
 |v::l,cs,i=>by unfold kj;rw[tH l];simp
theorem oo (r:bm)(a b:Option (Bool×ByteArray)):(zp r a b).size=6:=by cases r<;>rfl
theorem Qg (r:bm)(a b:Option (Bool×ByteArray)):∀x∈(Value.agg (zp r a b)).cells.toList,kM x=true:=by
 have:(Value.agg (zp r a b)).cells=zp r a b:=rfl;rw[this];cases r<;>simp[zp,cj,kM]
theorem Qf (r:bm)(a b:Option (Bool×ByteArray)):kj zF.cells (Value.agg (zp r a b)).cells.toList 0=zp r a b:=by
 cases r<;>rfl
theorem V5:(PP.info? Jf).map (·.size)=some 6:=by kernel_rfl
theorem aba:(PP.info? 4).map (·.size)=some 1:=by kernel_rfl
theorem FY:(PP.info? TH).map (·.size)=some 2:=by kernel_rfl
theorem ac2:(PP.underlying TH).map (fun d=>match d with|.struct _|.array _ _=>true|_=>false)=some true:=by kernel_rfl
theorem DG {P:Program}{main:Bool}{b:Frame}{a:Act}{id:Nat}{ops:Array Oper}{k:List Item}{cs:List Frame}{w w':World}{t:Nat}(h:(choose (.order b.fn id)).run P w= .ok t w'):
  stepG P main (G (b.at a (.code (.region id ops true)::k)) cs) w= .go (G (b.at a (.inRegion ops (Region.schedule (P.follows .mixedOrders) ops t)::k)) cs) w' #[]:=by
 first
  |(simp[stepG,stepG.exec,G,Frame.at,h];done)
  |(simp[stepG,stepG.exec,G,Frame.at];simp at h;rw[h])
theorem Hh {ops:Array Oper}{mixed:Bool}(hm:mixed=true)(t:Nat):Region.schedule mixed ops t=Region.linearise.go .any ops ops.size t (Array.replicate ops.size false) []:=by
 unfold Region.schedule Region.linearise;rw[hm];rfl
theorem acR:Array.replicate 7 false=bits 0:=by rfl
theorem En {Δ:Type}{X:Cx Δ}{ro own:Nat->Prop}{Stop:(Nat->Prop)->Goroutine->World->Prop}{w:World}{fr:Frame}{cs:List Frame}{tm:Array Value}{F:Nat}
  (k:∀w' t,RX X ro own w w'->aD PP false (eS X false ro) Stop own (mH F tm (Region.linearise.go .any nh 7 t (bits 0) []) fr cs) w'):
  aD PP false (eS X false ro) Stop own (G ((base 167).at ⟨tm,[dcall 202 #[pt F]]⟩ [.code (.region idP nh true)]) (fr::cs)) w:=by
 refine aD.step rfl fun w1 h1=>?_
 obtain⟨t,w',c1,c2,c3,c4,c5,_⟩:=oN (w:=w1) (q:= .order 167 idP);have hrun:=c1.run;have hm:PP.follows .mixedOrders=true:=by kernel_rfl
 have hs:=DG (main:=false) (b:=base 167) (a:=⟨tm,[dcall 202 #[pt F]]⟩) (ops:=nh) (k:=[]) (cs:=fr::cs) hrun;rw[Hh hm,Ic,acR] at hs;have hup:(eS X false ro).up own w1 w'=own:=by
  funext b
  exact propext ⟨fun h=>h.elim id fun z=>by rw[c5] at z;omega,.inl⟩
 refine⟨_,w',#[],hs,⟨c2,c3,by rw[c5];exact Nat.le_refl _,by rw[c4];exact .refl _,fun b _ _=>by rw[c5],by simp,fun h=>absurd h (by simp)⟩,?_⟩;rw[hup];exact k w' t (h1.trans X ⟨c2,c3,by rw[c5];exact Nat.le_refl _,by rw[c4];exact .refl _,fun b _ _=>by rw[c5],fun⟨s,hs⟩=>⟨s,by rw[ShAt,c5];exact hs⟩⟩)
theorem RX.sub {Δ:Type}{X:Cx Δ}{ro own own':Nat->Prop}{w w':World}(h:RX X ro own w w')(hs:∀b,own' b->own b):RX X ro own' w w':=
 ⟨h.tape,h.output,h.size,h.os,fun b hb ho=>h.keep b hb (ho.imp (hs b) id),h.live⟩
theorem aV {Δ:Type}{X:Cx Δ}{ro own:Nat->Prop}{w w':World}{b:Nat}{o:Obj}(h:RX X ro own w w')(hb:own b\/ro b)(ho:w.heap[b]? =some o):w'.heap[b]? =some o:=
 (h.keep b (Array.getElem?_eq_some_iff.1 ho).1 hb).trans ho
theorem lt_of_some {w:World}{b:Nat}{o:Obj}(ho:w.heap[b]? =some o):b<w.heap.size:=(Array.getElem?_eq_some_iff.1 ho).1
section
variable {X:Cx iD}{r:bm}{γ:Gh iD}{w:World}{n:Nat}{path:ByteArray}{hb:Bool}{hc:ByteArray}{fr:Frame}{cs:List Frame}
structure yE (X:Cx iD)(r:bm)(γ:Gh iD):Prop where
 dat:X.Dat=ES
 role:r= .a\/r= .b
 room:Room X γ
 om:¬γ.own X.M
 rm:¬γ.ro X.M
 mf:X.M≠X.Fd
 mw:X.M≠X.Wg
theorem yE.worker (h:yE X r γ):uC r=false:=by rcases h.role with rfl|rfl<;>rfl
theorem yE.agX (h:yE X r γ){mine other:iD}{o:Obj}(ho:AV X r mine other o):∃es c f,o= .map es c/\dh es c f/\∀s,(f s).getD zF= .agg (zp r (mine s) (other s))/\(f s=none↔mine s=none/\other s=none):=by
 have hd:=h.dat;have key:∀a b:Option (Bool×ByteArray),comb a b=none↔a=none/\b=none:=fun a b=>by cases a<;>cases b<;>simp[comb]
 rcases h.role with rfl|rfl
 .have ho:X.Dat mine other o:=ho
  rw[hd] at ho;obtain⟨es,c,f,h1,h2,h3⟩:=ho;exact⟨es,c,f,h1,h2,fun s=>⟨by rw[h3,xp];rfl,by rw[h3];exact key _ _⟩⟩
 .have ho:X.Dat other mine o:=ho
  rw[hd] at ho;obtain⟨es,c,f,h1,h2,h3⟩:=ho;exact⟨es,c,f,h1,h2,fun s=>⟨by rw[h3,xp];rfl,by rw[h3,key];exact and_comm⟩⟩
theorem yE.put (h:yE X r γ){mine other:iD}{o:Obj}{es es':Array MapEntry}{c c':Nat}{f:ByteArray->Option Value}(ho:AV X r mine other o)(he:o= .map es c)(hm:dh es c f)
  (hm':dh es' c' fun s=>if s=path then some (.agg (zp r (some (hb,hc)) (other path))) else f s):AV X r (iw mine path (hb,hc)) other (.map es' c'):=by
 have hd:=h.dat;rcases h.role with rfl|rfl
 .have ho:X.Dat mine other o:=ho
  show X.Dat (iw mine path (hb,hc)) other _;rw[hd] at ho⊢;obtain⟨es1,c1,f1,h1,h2,h3⟩:=ho;rw[he] at h1;cases h1;refine⟨es',c',_,rfl,hm',fun s=>?_⟩;have hf:f s=f1 s:=Option.ext fun v=>(hm.has s v).trans (h2.has s v).symm
  by_cases hs:s=path
  .subst hs;simp[iw,comb,zp]
  .simp only[if_neg hs,iw];rw[hf,h3]
 .have ho:X.Dat other mine o:=ho
  show X.Dat other (iw mine path (hb,hc)) _;rw[hd] at ho⊢;obtain⟨es1,c1,f1,h1,h2,h3⟩:=ho;rw[he] at h1;cases h1;refine⟨es',c',_,rfl,hm',fun s=>?_⟩;have hf:f s=f1 s:=Option.ext fun v=>(hm.has s v).trans (h2.has s v).symm
  by_cases hs:s=path
  .subst hs;simp[iw,comb,zp]
  .simp only[if_neg hs,iw];rw[hf,h3]
theorem UQ (hS:yE X r γ)(hlow:∀b,γ.own b\/γ.ro b->b<w.heap.size)(live:∃s,ShAt X w s){B7:Nat}(h7:γ.own B7)(w7:w.heap[B7]? =some (.cells #[.bool hb,.string hc] TH (0,0)))
  (back:∀k w' own' d,(∀b,γ.own b->own' b)->(∀b,own' b->γ.own b\/w.heap.size<=b)->(∀b,own' b->b<w'.heap.size)->RR X γ w w'->LW X r {γ with own:=own',mine:=iw γ.mine path (hb,hc),other:=d} k (at_ .out n) (cB fr cs U) w'):
  Taken X r γ n (fP X.Fd B7 (dZ r) path hb hc fr cs) (fr::cs) w:=by
 intro k w1 d o hr1 ho hD;have hm:=hS.worker;obtain⟨es,c,f,rfl,hmap,hf⟩:=hS.agX hD;have zg:=hr1.live live;have w71:=aV hr1 (.inl h7) w7;have aj4:B7≠X.M:=fun e=>hS.om (e▸h7)
 refine aC (W8 X.Fd B7 (dZ r) path hb hc fr cs) (zh (W6 _ _ _ _ _ _ _ _) rfl zg fun w2 h2=>?_);refine aC (W7 _ _ _ _ _ _ _ _ _) ?_;have hM2:=aV h2 (.inl (.inr rfl)) ho;refine cY (W4 _ _ _ _ _ _ _ _ _) (x:= .agg (zp r (γ.mine path) (d path))) (fun w3 h3=>?_) fun w3 h3=>?_
 .have Ws:=aV h3 (.inl (.inr rfl)) hM2
  have:=oL (t:=TM) (s:=path) JG JH Jv Ws hmap;rw[(hf path).1] at this;exact⟨w3,_,this,rfl,rfl,rfl,rfl,fun e he=>⟨X.M,by simp at he;subst he;exact dN,.inl (.inr rfl)⟩⟩
 have Ws:=aV h3 (.inl (.inr rfl)) hM2;refine aC (W5 _ _ _ _ _ _ _ _ _ _) ?_;refine fU (f:=fun b=>pb b) (W3 _ _ _ _ _ _ _ _ _ _) (fun w4 h4=>⟨#[],lR Jv,by simp⟩) fun w4 B8 h4 hB8 w84=>?_
 refine aC (W2 _ _ _ B8 _ _ _ _ _ _ _) ?_;have hM4:=aV h4 (.inl (.inr rfl)) Ws;have w74:=aV h4 (.inl (.inl h7)) (aV h3 (.inl (.inl h7)) (aV h2 (.inl (.inl h7)) w71));have h14:=(h2.trans X h3).trans X h4;have RG:=h14.live zg;have hlo:w.heap.size<=B8:=Nat.le_trans hr1.size (Nat.le_trans (h2.trans X h3).size hB8);have ajW:X.M<w1.heap.size:=lt_of_some ho
 have agr:=(h2.trans X h3).size;have n8M:B8≠X.M:=fun e=>by omega
 have n87:B8≠B7:=fun e=>by have:=lt_of_some w7;omega
 obtain⟨s1,hs1⟩:=zg;have n8F:B8≠X.Fd/\B8≠X.Wg:=⟨fun e=>by have:=lt_of_some hs1.1;omega,fun e=>by have:=lt_of_some hs1.2;omega⟩
 have ro8:¬γ.ro B8:=fun e=>by have:=hlow B8 (.inr e);omega
 have ow8:∀b,γ.own b->b≠B8:=fun b e q=>by have:=hlow b (.inl e);omega
 have e4:∀b,γ.own b->((γ.own b\/b=X.M)\/b=B8):=fun b e=> .inl (.inl e)
 have m4:(fun b=>(γ.own b\/b=X.M)\/b=B8) X.M:= .inl (.inr rfl);have FQ:(fun b=>(γ.own b\/b=X.M)\/b=B8) B8:= .inr rfl;have H4:RX X γ.ro γ.own w w4:=hr1.trans X ((h2.sub fun b e=> .inl e).trans X ((h3.sub fun b e=> .inl e).trans X (h4.sub fun b e=> .inl e)));clear h2 h3 h4 h14 hM2 Ws hB8 agr
 have SJ:∀{w' w'':World},RX X γ.ro (fun b=>((γ.own b\/b=X.M)\/b=B8)/\b≠B8) w' w''->RX X γ.ro γ.own w' w'':=fun h=>h.sub fun b e=>⟨e4 b e,ow8 b e⟩
 refine ji (b:=B8) (A:=fun o x=>x=undef/\o= .cells (zp r (γ.mine path) (d path)) Jf (0,0)) FQ n8F (W0 _ _ _ _ _ _ _ _ _ _ _) (fun w5 h5=>?_) (fun w5 o x _ w85 ha h5=>?_) ro8
 .have e8:=aV h5 (.inl FQ) w84
  obtain⟨w',ev,r1,r2,r3⟩:=fC (t:=Jf) (off:=0) (v:= .agg (zp r (γ.mine path) (d path))) e8 (by
   have:(Value.agg (zp r (γ.mine path) (d path))).cells.size=6:=oo _ _ _;rw[this];exact V5) (by
   have:(Value.agg (zp r (γ.mine path) (d path))).cells.size=6:=oo _ _ _;rw[this];simp[zF,Value.cells]) (Qg _ _ _)
  rw[Qf] at r2;exact⟨undef,_,w',ev,.inr ⟨r1,rfl⟩,r2,⟨rfl,rfl⟩,fun e he=>⟨B8,r3 e he,.inl FQ⟩⟩
 obtain⟨rfl,rfl⟩:=ha;have M5:=aV h5 (.inl ⟨m4,n8M.symm⟩) hM4;have w75:=aV h5 (.inl ⟨e4 B7 h7,n87.symm⟩) w74;have RF:=h5.live RG;have H5:=H4.trans X (SJ h5);refine aC (W1 _ _ _ _ _ _ _ _ _ _ _) ?_;have hside:dZ r<2:=by rcases hS.role with rfl|rfl<;>decide
 refine cY (WY _ _ _ _ _ _ _ _ _ _ _) (x:= .pointer (some ⟨B8,dZ r,none⟩)) (fun w6 h6=>⟨w6,#[],UA B8 _ hside,rfl,rfl,rfl,rfl,by simp⟩) fun w6 h6=>?_
 have w86:=aV h6 (.inl FQ) w85;have M6:=aV h6 (.inl m4) M5;have w76:=aV h6 (.inl (e4 B7 h7)) w75;have RE:=h6.live RF;have H6:=H5.trans X (h6.sub e4);clear h5 h6 M5 w75 RF H5 w85 w84 hM4 w74 RG H4;refine aC (WZ _ _ _ _ _ _ _ _ _ _ _) ?_
 refine ji (b:=B8) (A:=fun o x=>x=undef/\o= .cells (kj (zp r (γ.mine path) (d path)) [.bool true] (dZ r)) Jf (0,0)) FQ n8F (WW _ _ _ _ _ _ _ _ _ _ _) (fun w7' Wt=>?_) (fun w7' o x _ w87 ha Wt=>?_) ro8
 .have e8:=aV Wt (.inl FQ) w86
  obtain⟨w',ev,r1,r2,r3⟩:=fC (t:=4) (off:=dZ r) (v:= .bool true) e8 aba (by
   rw[oo];show dZ r+1<=6;omega) (by simp[Value.cells,kM])
  exact⟨undef,_,w',ev,.inr ⟨r1,rfl⟩,r2,⟨rfl,rfl⟩,fun e he=>⟨B8,r3 e he,.inl FQ⟩⟩
 obtain⟨rfl,rfl⟩:=ha;have M7:=aV Wt (.inl ⟨m4,n8M.symm⟩) M6;have w77:=aV Wt (.inl ⟨e4 B7 h7,n87.symm⟩) w76;have RD:=Wt.live RE;have H7:=H6.trans X (SJ Wt);refine aC (WX _ _ _ _ _ _ _ _ _ _ _) ?_;refine cY (Qb _ _ _ _ _ _ _ _ _ _ _) (x:=hv hb hc) (fun w8 h8=>?_) fun w8 h8=>?_
 .obtain⟨ev,r1,r2⟩:=jy (t:=TH) (off:=0) (n:=2) (aV h8 (.inl (e4 B7 h7)) w77) ac2 FY (by simp)
  exact⟨w8,ev,r1,rfl,rfl,rfl,rfl,fun e he=>⟨B7,(r2 e he).1,.inl (e4 B7 h7)⟩⟩
 have w88:=aV h8 (.inl FQ) w87;have M8:=aV h8 (.inl m4) M7;have RB:=h8.live RD;have H8:=H7.trans X (h8.sub e4);refine aC (Qc _ _ _ _ _ _ _ _ _ _ _) ?_;refine cY (P8 _ _ _ _ _ _ _ _ _ _ _) (x:= .pointer (some ⟨B8,2+2*dZ r,none⟩)) (fun w9 h9=>⟨w9,#[],Uz B8 _ hside,rfl,rfl,rfl,rfl,by simp⟩) fun w9 h9=>?_
 have w89:=aV h9 (.inl FQ) w88;have M9:=aV h9 (.inl m4) M8;have aaY:=h9.live RB;have H9:=H8.trans X (h9.sub e4);clear Wt h8 h9 M6 M7 M8 w76 w77 RE RD RB H6 H7 H8 w86 w87 w88;refine aC (P9 _ _ _ _ _ _ _ _ _ _ _) ?_
 refine ji (b:=B8) (A:=fun o x=>x=undef/\o= .cells (zp r (some (hb,hc)) (d path)) Jf (0,0)) FQ n8F (P4 _ _ _ _ _ _ _ _ _ _ _) (fun wA hA=>?_) (fun wA o x _ w8A ha hA=>?_) ro8
 .have e8:=aV hA (.inl FQ) w89
  obtain⟨w',ev,r1,r2,r3⟩:=fC (t:=TH) (off:=2+2*dZ r) (v:=hv hb hc) e8 FY (by
   rw[tH,oo];show 2+2*dZ r+2<=6;omega) (by simp[hv,Value.cells,kM])
  have e:(hv hb hc).cells.toList=[.bool hb,.string hc]:=rfl;rw[e,Xk r hS.role] at r2;exact⟨undef,_,w',ev,.inr ⟨r1,rfl⟩,r2,⟨rfl,rfl⟩,fun e he=>⟨B8,r3 e he,.inl FQ⟩⟩
 obtain⟨rfl,rfl⟩:=ha;have MA:=aV hA (.inl ⟨m4,n8M.symm⟩) M9;have aaX:=hA.live aaY;have HA:=H9.trans X (SJ hA);refine aC (P5 _ _ _ _ _ _ _ _ _ _ _) ?_;rw[P3];refine En fun wB t hB=>?_
 have w8B:=aV hB (.inl FQ) w8A;have MB:=aV hB (.inl m4) MA;have Rz:=hB.live aaX;have HB:=HA.trans X (hB.sub e4);refine Em (w:=wB) rfl ⟨hS.mf,hS.mw⟩ m4 FQ hS.rm hmap (oo _ _ _) (fun tm' wC es' c' _ hMC hmC hC=>?_) 7 t 0 _ wB ⟨RX.refl X _ _ _,Rz,w8B,MB⟩ (by decide) (by decide) (by decide) (by decide)
  ⟨JJ _ _ _ _ _ _ _ _ _ _ _,Zk _ _ _ _ _ _ _ _ _ _ _,Zj _ _ _ _ _ _ _ _ _ _ _,Zi _ _ _ _ _ _ _ _ _ _ _,fun h=>absurd h (by decide),fun h=>absurd h (by decide),fun h=>absurd h (by decide),fun h=>absurd h (by decide),fun h=>absurd h (by decide),fun h=>absurd h (by decide)⟩
 have HC:RX X γ.ro γ.own w wC:=HB.trans X (hC.sub fun b e=>⟨e4 b e,fun q=>hS.om (q▸e)⟩);refine aC (P1 _ _ _ _) ?_;have eo:(fun b=>(γ.own b\/b=X.M)\/b=B8)=fun b=>(γ.own b\/b=B8)\/b=X.M:=by
  funext b
  exact propext ⟨fun h=>h.elim (fun h=>h.elim (fun h=> .inl (.inl h)) .inr) fun h=> .inl (.inr h),fun h=>h.elim (fun h=>h.elim (fun h=> .inl (.inl h)) .inr) fun h=> .inl (.inr h)⟩
 rw[eo];have R2:Room X {γ with own:=fun b=>γ.own b\/b=B8}:=⟨hS.room.ne,fun b h=>by
  rcases h with(h|rfl)|h
  .exact hS.room.off b (.inl h)
  .exact n8F
  .exact hS.room.off b (.inr h)⟩
 exact Bc (γ:={γ with own:=fun b=>γ.own b\/b=B8}) (c:=iw γ.mine path (hb,hc)) (d:=d) hm R2 (fun h=>h.elim hS.om fun e=>n8M e.symm) (hC.live Rz) ⟨_,hMC,hS.put hD rfl hmap hmC⟩ fun k' wD hD'=>
  aC (KA _ _ _) (back k' wD (fun b=>γ.own b\/b=B8) d (fun b h=> .inl h) (fun b h=>Or.imp id (fun e:b=B8=>by rw[e];exact hlo) h) (fun b h=>by
   have s1:=HC.size;have s2:=hC.size;have s3:=hD'.size;rcases h with h|rfl
   .have:=hlow b (.inl h);omega
   .have:=lt_of_some w8B;omega) (HC.trans X (hD'.sub fun b h=> .inl h)))
theorem Ca (hS:yE X r γ)(hlow:∀b,γ.own b\/γ.ro b->b<w.heap.size)(hMl:X.M<w.heap.size)(live:∃s,ShAt X w s)
  (back:∀k w' own' d,(∀b,γ.own b->own' b)->(∀b,own' b->γ.own b\/w.heap.size<=b)->(∀b,own' b->b<w'.heap.size)->RR X γ w w'->LW X r {γ with own:=own',mine:=iw γ.mine path (hb,hc),other:=d} k (at_ .out n) (cB fr cs U) w') (k:Nat):
  LW X r γ k (at_ .out (n+1)) (gP0 X.Fd (dZ r) path hb hc fr cs) w:=by
 refine aC (Xa _ _ _ _ _ _ _) (fU (f:=fun b=>pb b) (P2 _ _ _ _ _ _ _) (fun w1 h1=>⟨#[],vO _ _,by simp⟩) fun w1 B7 h1 hB w71=>?_);refine aC (W9 _ _ _ _ _ _ _ _) ?_;obtain⟨s1,hs1⟩:=live;have n7:B7≠X.Fd/\B7≠X.Wg:=⟨fun e=>by have:=lt_of_some hs1.1;omega,fun e=>by have:=lt_of_some hs1.2;omega⟩
 have S1:yE X r {γ with own:=fun b=>γ.own b\/b=B7}:=⟨hS.dat,hS.role,⟨hS.room.ne,fun b h=>by
  rcases h with(h|rfl)|h
  .exact hS.room.off b (.inl h)
  .exact n7
  .exact hS.room.off b (.inr h)⟩,fun h=>h.elim hS.om fun e=>by omega,hS.rm,hS.mf,hS.mw⟩
 have hs7:=lt_of_some w71;have afx:∀b,(γ.own b\/b=B7)\/γ.ro b->b<w1.heap.size:=fun b h=>by
  have:=h1.size;rcases h with(h|rfl)|h
  .have:=hlow b (.inl h);omega
  .exact hs7
  .have:=hlow b (.inr h);omega
 have zg:=h1.live ⟨s1,hs1⟩;refine In (γ:={γ with own:=fun b=>γ.own b\/b=B7}) hS.worker S1.room zg (UQ S1 afx zg (.inr rfl) w71 fun k w' own' d a1 a2 a4 a3=>?_);exact back k w' own' d (fun b h=>a1 b (.inl h)) (fun b h=>by
  rcases a2 b h with(h|rfl)|h
  .exact .inl h
  .exact .inr hB
  .exact .inr (Nat.le_trans h1.size h)) a4 (h1.trans X (RX.sub a3 fun b h=> .inl h))
end
abbrev TC:TypeId:=251
section
variable (F:Nat)(dv:Value)(side:Nat)(m1 m2:Value)(fr:Frame)(cs:List Frame)
def gC0 (dv:Value)(set:Int)(fr:Frame)(cs:List Frame):Goroutine:=LB 166 #[dv,.int .i64 set] 28 fr cs
def fK1:Frame:=(On 5 (Yy F dv (side:Int) fr cs)).callers.head?.getD default
theorem Xf:av PP false (Yy F dv (side:Int) fr cs) (gC0 dv (side:Int) (fK1 F dv side fr cs) (fr::cs)):=aO 5 (bN PP false 5 (Yy F dv (side:Int) fr cs)) fun ws=>by kernel_rfl
def fK2:Frame:=(On 2 (cB (fK1 F dv side fr cs) (fr::cs) m1)).callers.head?.getD default
theorem Xe:av PP false (cB (fK1 F dv side fr cs) (fr::cs) m1) (gC0 dv 2 (fK2 F dv side m1 fr cs) (fr::cs)):=aO 2 (bN PP false 2 (cB (fK1 F dv side fr cs) (fr::cs) m1)) fun ws=>by kernel_rfl
def Yx:Goroutine:=O (cB (fK2 F dv side m1 fr cs) (fr::cs) m2)
theorem Xd:av PP false (cB (fK2 F dv side m1 fr cs) (fr::cs) m2) (Yx F dv side m1 m2 fr cs):=aJ fun ws=>by kernel_rfl
theorem Xb:aQ (Yx F dv side m1 m2 fr cs)=some (.range TC m1):=by kernel_rfl
end
def SI:List Item:=(O (resume (Yx 0 default 0 undef undef default []) (pb 0))).frame.todo
def gL1 (tm:Array Value)(fr:Frame)(cs:List Frame):Goroutine:=G ((base 132).at ⟨tm,[]⟩ SI) (fr::cs)
section
variable (F:Nat)(dv:Value)(side M1 M2 it:Nat)(path s s2:ByteArray)(b2:Bool)(B9:Nat)(fr:Frame)(cs:List Frame)(y:Nat->Value)
def Zn:Array Value:=#[pt F,dv,.int .i64 (side:Int),y 3,y 4,y 5,.map (some M1),.map (some M2),y 8,y 9,y 10,y 11,y 12,y 13,y 14,y 15,y 16,pb it,y 18,y 19,y 20,y 21,y 22,y 23,y 24,y 25,y 26,y 27,y 28,y 29,y 30,y 31,y 32,y 33,y 34,y 35,y 36,y 37,y 38,y 39,y 40,y 41,y 42,y 43,y 44,y 45,y 46,y 47,y 48]
def Zm:Array Value:=#[pt F,dv,.int .i64 (side:Int),y 3,y 4,y 5,.map (some M1),.map (some M2),y 8,y 9,y 10,y 11,y 12,y 13,y 14,y 15,y 16,y 17,y 18,y 19,y 20,y 21,y 22,y 23,y 24,y 25,y 26,y 27,y 28,y 29,y 30,y 31,y 32,y 33,pb it,y 35,y 36,y 37,y 38,y 39,y 40,y 41,y 42,y 43,y 44,y 45,y 46,y 47,y 48]
structure QY (F:Nat)(dv:Value)(side M1 M2 it:Nat)(tm:Array Value):Prop where
 size:tm.size=49
 s0:tm[0]? =some (pt F)
 s1:tm[1]? =some (dv)
 s2:tm[2]? =some (.int .i64 (side:Int))
 s6:tm[6]? =some (.map (some M1))
 s7:tm[7]? =some (.map (some M2))
 s17:tm[17]? =some (pb it)
structure HL2 (F:Nat)(dv:Value)(side M1 M2 it:Nat)(tm:Array Value):Prop where
 size:tm.size=49
 s0:tm[0]? =some (pt F)
 s1:tm[1]? =some (dv)
 s2:tm[2]? =some (.int .i64 (side:Int))
 s6:tm[6]? =some (.map (some M1))
 s7:tm[7]? =some (.map (some M2))
 s34:tm[34]? =some (pb it)
theorem Fr (tm:Array Value)(h:tm.size=49):tm=#[tm.getD 0 undef,tm.getD 1 undef,tm.getD 2 undef,tm.getD 3 undef,tm.getD 4 undef,tm.getD 5 undef,tm.getD 6 undef,tm.getD 7 undef,tm.getD 8 undef,tm.getD 9 undef,tm.getD 10 undef,tm.getD 11 undef,tm.getD 12 undef,tm.getD 13 undef,tm.getD 14 undef,tm.getD 15 undef,tm.getD 16 undef,tm.getD 17 undef,tm.getD 18 undef,tm.getD 19 undef,tm.getD 20 undef,tm.getD 21 undef,tm.getD 22 undef,tm.getD 23 undef,tm.getD 24 undef,tm.getD 25 undef,tm.getD 26 undef,tm.getD 27 undef,tm.getD 28 undef,tm.getD 29 undef,tm.getD 30 undef,tm.getD 31 undef,tm.getD 32 undef,tm.getD 33 undef,tm.getD 34 undef,tm.getD 35 undef,tm.getD 36 undef,tm.getD 37 undef,tm.getD 38 undef,tm.getD 39 undef,tm.getD 40 undef,tm.getD 41 undef,tm.getD 42 undef,tm.getD 43 undef,tm.getD 44 undef,tm.getD 45 undef,tm.getD 46 undef,tm.getD 47 undef,tm.getD 48 undef]:=by
 have e:tm=((List.range 49).map fun i=>tm.getD i undef).toArray:=by
  apply Array.ext
  .simp[h]
  .intro i h1 h2
   simp[Array.getD_eq_getD_getElem?,h1]
 exact e.trans (by kernel_rfl)
theorem QY.eq {F:Nat}{dv:Value}{side M1 M2 it:Nat}{tm:Array Value}(h:QY F dv side M1 M2 it tm):tm=Zn F dv side M1 M2 it fun i=>tm.getD i undef:=by
 have h1:=Fr tm h.size;rw[bZ h.s0,bZ h.s1,bZ h.s2,bZ h.s6,bZ h.s7,bZ h.s17] at h1;exact h1
theorem HL2.eq {F:Nat}{dv:Value}{side M1 M2 it:Nat}{tm:Array Value}(h:HL2 F dv side M1 M2 it tm):tm=Zm F dv side M1 M2 it fun i=>tm.getD i undef:=by
 have h1:=Fr tm h.size;rw[bZ h.s0,bZ h.s1,bZ h.s2,bZ h.s6,bZ h.s7,bZ h.s34] at h1;exact h1
theorem Xc (m1':Value)(h1:m1'= .map (some M1)):∃tm,QY F dv side M1 M2 it tm/\av PP false (resume (Yx F dv side m1' (.map (some M2)) fr cs) (pb it)) (gL1 tm fr cs):=by
 subst h1;exact⟨(O (resume (Yx F dv side (.map (some M1)) (.map (some M2)) fr cs) (pb it))).frame.tmps,⟨by kernel_rfl,by kernel_rfl,by kernel_rfl,by kernel_rfl,by kernel_rfl,by kernel_rfl,by kernel_rfl⟩,aO 200 (bN PP false 200 (resume (Yx F dv side (.map (some M1)) (.map (some M2)) fr cs) (pb it))) fun ws=>by kernel_rfl⟩
abbrev l1:Goroutine:=gL1 (Zn F dv side M1 M2 it y) fr cs
def nxT (g:Goroutine):TypeId:=match aQ g with|some (.next _ _ t)=>t|_=>0
theorem aa3:aQ (l1 F dv side M1 M2 it fr cs y)=some (.next (pb it) false (nxT (l1 0 default 0 0 0 0 default [] fun _=>undef))):=by kernel_rfl
def Ym:Goroutine:=O (resume (l1 F dv side M1 M2 it fr cs y) (.tuple #[.bool false]))
theorem Pt:av PP false (resume (l1 F dv side M1 M2 it fr cs y) (.tuple #[.bool false])) (Ym F dv side M1 M2 it fr cs y):=aJ fun ws=>by kernel_rfl
theorem VI:aQ (Ym F dv side M1 M2 it fr cs y)=some (.range TC (.map (some M2))):=by kernel_rfl
def l1a:Goroutine:=O (resume (l1 F dv side M1 M2 it fr cs y) (.tuple #[.bool true,.string path,hv true s]))
theorem Pu:av PP false (resume (l1 F dv side M1 M2 it fr cs y) (.tuple #[.bool true,.string path,hv true s])) (l1a F dv side M1 M2 it path s fr cs y):=aJ fun ws=>by kernel_rfl
theorem VZ:aQ (l1a F dv side M1 M2 it path s fr cs y)=some (.entry (pb it)):=by kernel_rfl
def l1b:Goroutine:=O (resume (l1a F dv side M1 M2 it path s fr cs y) (.tuple #[.string path,hv true s]))
theorem VY:av PP false (resume (l1a F dv side M1 M2 it path s fr cs y) (.tuple #[.string path,hv true s])) (l1b F dv side M1 M2 it path s fr cs y):=aJ fun ws=>by kernel_rfl
theorem VX:aQ (l1b F dv side M1 M2 it path s fr cs y)=some (.alloc TH):=by kernel_rfl
def l1c:Goroutine:=O (resume (l1b F dv side M1 M2 it path s fr cs y) (pb B9))
theorem VW:av PP false (resume (l1b F dv side M1 M2 it path s fr cs y) (pb B9)) (l1c F dv side M1 M2 it path s B9 fr cs y):=aJ fun ws=>by kernel_rfl
theorem VT:aQ (l1c F dv side M1 M2 it path s B9 fr cs y)=some (.store TH (pb B9) (hv true s)):=by kernel_rfl
def l1d:Goroutine:=O (resume (l1c F dv side M1 M2 it path s B9 fr cs y) undef)
theorem VU:av PP false (resume (l1c F dv side M1 M2 it path s B9 fr cs y) undef) (l1d F dv side M1 M2 it path s B9 fr cs y):=aJ fun ws=>by kernel_rfl
theorem VR:aQ (l1d F dv side M1 M2 it path s B9 fr cs y)=some (.load TH (pb B9)):=by kernel_rfl
def l1e:Goroutine:=O (resume (l1d F dv side M1 M2 it path s B9 fr cs y) (hv true s))
theorem VS:av PP false (resume (l1d F dv side M1 M2 it path s B9 fr cs y) (hv true s)) (l1e F dv side M1 M2 it path s B9 fr cs y):=aJ fun ws=>by kernel_rfl
theorem VP:aQ (l1e F dv side M1 M2 it path s B9 fr cs y)=some (.lookup TC (.map (some M2)) (.string path) false):=by kernel_rfl
def VO:Goroutine:=O (resume (l1e F dv side M1 M2 it path s B9 fr cs y) (hv b2 s2))
theorem VQ:av PP false (resume (l1e F dv side M1 M2 it path s B9 fr cs y) (hv b2 s2)) (VO F dv side M1 M2 it path s s2 b2 B9 fr cs y):=aJ fun ws=>by kernel_rfl
theorem VN:aQ (VO F dv side M1 M2 it path s s2 b2 B9 fr cs y)=some (.bin .neq TH (hv true s) (hv b2 s2)):=by kernel_rfl
theorem VM:∃tm,QY F dv side M1 M2 it tm/\av PP false (resume (VO F dv side M1 M2 it path s s2 b2 B9 fr cs y) (.bool false)) (gL1 tm fr cs):=⟨(O (resume (VO F dv side M1 M2 it path s s2 b2 B9 fr cs y) (.bool false))).frame.tmps,⟨by kernel_rfl,by kernel_rfl,by kernel_rfl,by kernel_rfl,by kernel_rfl,by kernel_rfl,by kernel_rfl⟩,aO 200 (bN PP false 200 (resume (VO F dv side M1 M2 it path s s2 b2 B9 fr cs y) (.bool false))) fun ws=>by kernel_rfl⟩
def l1g:Goroutine:=O (resume (VO F dv side M1 M2 it path s s2 b2 B9 fr cs y) (.bool true))
theorem Ps:av PP false (resume (VO F dv side M1 M2 it path s s2 b2 B9 fr cs y) (.bool true)) (l1g F dv side M1 M2 it path s s2 b2 B9 fr cs y):=aJ fun ws=>by kernel_rfl
theorem VK:aQ (l1g F dv side M1 M2 it path s s2 b2 B9 fr cs y)=some (.load TH (pb B9)):=by kernel_rfl
def l1F:Frame:=(On 1 (resume (l1g F dv side M1 M2 it path s s2 b2 B9 fr cs y) (hv true s))).callers.head?.getD default
theorem VL:av PP false (resume (l1g F dv side M1 M2 it path s s2 b2 B9 fr cs y) (hv true s)) (gP0 F side path true s (l1F F dv side M1 M2 it path s s2 b2 B9 fr cs y) (fr::cs)):=aO 1 (bN PP false 1 (resume (l1g F dv side M1 M2 it path s s2 b2 B9 fr cs y) (hv true s))) fun ws=>by kernel_rfl
theorem V0:∃tm,QY F dv side M1 M2 it tm/\av PP false (cB (l1F F dv side M1 M2 it path s s2 b2 B9 fr cs y) (fr::cs) U) (gL1 tm fr cs):=⟨(O (cB (l1F F dv side M1 M2 it path s s2 b2 B9 fr cs y) (fr::cs) U)).frame.tmps,⟨by kernel_rfl,by kernel_rfl,by kernel_rfl,by kernel_rfl,by kernel_rfl,by kernel_rfl,by kernel_rfl⟩,aO 200 (bN PP false 200 (cB (l1F F dv side M1 M2 it path s s2 b2 B9 fr cs y) (fr::cs) U)) fun ws=>by kernel_rfl⟩
end
def SH:List Item:=(O (resume (Ym 0 default 0 0 0 0 default [] fun _=>undef) (pb 0))).frame.todo
def gL2 (tm:Array Value)(fr:Frame)(cs:List Frame):Goroutine:=G ((base 132).at ⟨tm,[]⟩ SH) (fr::cs)
section
variable (F:Nat)(dv:Value)(side M1 M2 it it2:Nat)(path s s2:ByteArray)(b2:Bool)(B9:Nat)(fr:Frame)(cs:List Frame)(y:Nat->Value)
theorem VJ:∃tm,HL2 F dv side M1 M2 it2 tm/\av PP false (resume (Ym F dv side M1 M2 it fr cs y) (pb it2)) (gL2 tm fr cs):=⟨(O (resume (Ym F dv side M1 M2 it fr cs y) (pb it2))).frame.tmps,⟨by kernel_rfl,by kernel_rfl,by kernel_rfl,by kernel_rfl,by kernel_rfl,by kernel_rfl,by kernel_rfl⟩,aO 200 (bN PP false 200 (resume (Ym F dv side M1 M2 it fr cs y) (pb it2))) fun ws=>by kernel_rfl⟩
abbrev l2:Goroutine:=gL2 (Zm F dv side M1 M2 it y) fr cs
theorem aa1:aQ (l2 F dv side M1 M2 it fr cs y)=some (.next (pb it) false (nxT (l2 0 default 0 0 0 0 default [] fun _=>undef))):=by kernel_rfl
theorem Pp:av PP false (resume (l2 F dv side M1 M2 it fr cs y) (.tuple #[.bool false])) (cB fr cs U):=aO 7 (bN PP false 7 (resume (l2 F dv side M1 M2 it fr cs y) (.tuple #[.bool false]))) fun ws=>by kernel_rfl
def l2a:Goroutine:=O (resume (l2 F dv side M1 M2 it fr cs y) (.tuple #[.bool true,.string path,hv true s]))
theorem Pq:av PP false (resume (l2 F dv side M1 M2 it fr cs y) (.tuple #[.bool true,.string path,hv true s])) (l2a F dv side M1 M2 it path s fr cs y):=aJ fun ws=>by kernel_rfl
theorem VG:aQ (l2a F dv side M1 M2 it path s fr cs y)=some (.entry (pb it)):=by kernel_rfl
def VE:Goroutine:=O (resume (l2a F dv side M1 M2 it path s fr cs y) (.tuple #[.string path,hv true s]))
theorem VF:av PP false (resume (l2a F dv side M1 M2 it path s fr cs y) (.tuple #[.string path,hv true s])) (VE F dv side M1 M2 it path s fr cs y):=aJ fun ws=>by kernel_rfl
theorem VD:aQ (VE F dv side M1 M2 it path s fr cs y)=some (.lookup TC (.map (some M1)) (.string path) false):=by kernel_rfl
theorem Po:∃tm,HL2 F dv side M1 M2 it tm/\av PP false (resume (VE F dv side M1 M2 it path s fr cs y) (hv true s2)) (gL2 tm fr cs):=⟨(O (resume (VE F dv side M1 M2 it path s fr cs y) (hv true s2))).frame.tmps,⟨by kernel_rfl,by kernel_rfl,by kernel_rfl,by kernel_rfl,by kernel_rfl,by kernel_rfl,by kernel_rfl⟩,aO 200 (bN PP false 200 (resume (VE F dv side M1 M2 it path s fr cs y) (hv true s2))) fun ws=>by kernel_rfl⟩
def l2c:Goroutine:=O (resume (VE F dv side M1 M2 it path s fr cs y) (hv false s2))
theorem VC:av PP false (resume (VE F dv side M1 M2 it path s fr cs y) (hv false s2)) (l2c F dv side M1 M2 it path s s2 fr cs y):=aJ fun ws=>by kernel_rfl
theorem VB:aQ (l2c F dv side M1 M2 it path s s2 fr cs y)=some (.build TH #[]):=by kernel_rfl
def l2F:Frame:=(On 1 (resume (l2c F dv side M1 M2 it path s s2 fr cs y) (hv false ⟨#[]⟩))).callers.head?.getD default
theorem Vz:av PP false (resume (l2c F dv side M1 M2 it path s s2 fr cs y) (hv false ⟨#[]⟩)) (gP0 F side path false ⟨#[]⟩ (l2F F dv side M1 M2 it path s s2 fr cs y) (fr::cs)):=aO 1 (bN PP false 1 (resume (l2c F dv side M1 M2 it path s s2 fr cs y) (hv false ⟨#[]⟩))) fun ws=>by kernel_rfl
theorem VH:∃tm,HL2 F dv side M1 M2 it tm/\av PP false (cB (l2F F dv side M1 M2 it path s s2 fr cs y) (fr::cs) U) (gL2 tm fr cs):=⟨(O (cB (l2F F dv side M1 M2 it path s s2 fr cs y) (fr::cs) U)).frame.tmps,⟨by kernel_rfl,by kernel_rfl,by kernel_rfl,by kernel_rfl,by kernel_rfl,by kernel_rfl,by kernel_rfl⟩,aO 200 (bN PP false 200 (cB (l2F F dv side M1 M2 it path s s2 fr cs y) (fr::cs) U)) fun ws=>by kernel_rfl⟩
end
section
variable {X:Cx iD}{r:bm}{γ:Gh iD}{w w':World}
structure Now (X:Cx iD)(r:bm)(γ:Gh iD)(w:World):Prop where
 spot:yE X r γ
 low:∀b,γ.own b\/γ.ro b->b<w.heap.size
 ml:X.M<w.heap.size
 live:∃s,ShAt X w s
theorem Now.rely (h:Now X r γ w)(hr:RR X γ w w'):Now X r γ w':=
 ⟨h.spot,fun b hb=>Nat.lt_of_lt_of_le (h.low b hb) hr.size,Nat.lt_of_lt_of_le h.ml hr.size,hr.live h.live⟩
theorem Now.grow (h:Now X r γ w)(hr:RR X γ w w'){own':Nat->Prop}{m d:iD}(h1:∀b,own' b->γ.own b\/w.heap.size<=b)(h2:∀b,own' b->b<w'.heap.size):Now X r {γ with own:=own',mine:=m,other:=d} w':=by
 obtain⟨s,hs⟩:=h.live;have lf:=lt_of_some hs.1;have lw:=lt_of_some hs.2;have lm:=h.ml;refine⟨⟨h.spot.dat,h.spot.role,⟨h.spot.room.ne,fun b hb=>?_⟩,fun hb=>?_,h.spot.rm,h.spot.mf,h.spot.mw⟩,fun b hb=>?_,Nat.lt_of_lt_of_le h.ml hr.size,hr.live h.live⟩
 .rcases hb with hb|hb
  .rcases h1 b hb with hb|hb
   .exact h.spot.room.off b (.inl hb)
   .exact⟨by omega,by omega⟩
  .exact h.spot.room.off b (.inr hb)
 .rcases h1 _ hb with hb|hb
  .exact h.spot.om hb
  .omega
 .rcases hb with hb|hb
  .exact h2 b hb
  .exact Nat.lt_of_lt_of_le (h.low b (.inr hb)) hr.size
end
theorem wF {Δ:Type}{X:Cx Δ}{ro own:Nat->Prop}{Stop:(Nat->Prop)->Goroutine->World->Prop}{w:World}{g:Goroutine}{it m c:Nat}{seen:Array Nat}{es:Array MapEntry}{f:ByteArray->Option Value}{ty:TypeId}
  (h:aQ g=some (.next (pb it) false ty)) (oi:own it) (om:own m) (hX:it≠X.Fd/\it≠X.Wg) (hro:¬ro it) (hit:w.heap[it]? =some (.mapIter (some m) c seen c)) (hmw:w.heap[m]? =some (.map es c)) (hm:dh es c f)
  (over:leftOf es seen=#[]->∀w',RX X ro own w w'->aD PP false (eS X false ro) Stop own (resume g (.tuple #[.bool false])) w')
  (more:∀e∈leftOf es seen,∀w',RX X ro (fun b=>own b/\b≠it) w w'->w'.heap[it]? =some (.mapIter (some m) c (seen.push e.born) c)->aD PP false (eS X false ro) Stop own (resume g (.tuple #[.bool true,e.key,e.val])) w'):
  aD PP false (eS X false ro) Stop own g w:=by
 refine aD.step (cV h).1 fun w1 h1=>?_
 rcases FE (w:=w1) (ty:=ty) (aV h1 (.inl oi) hit) (aV h1 (.inl om) hmw) hm with⟨hl,w',ev,rt,a1,a2,a3,a4,a5⟩|⟨e,he,w',ev,rt,u,a5⟩
 .obtain⟨es',e1,e2⟩:=eV (main:=false) h rt
  have hup:(eS X false ro).up own w1 w'=own:=by
   funext b
   exact propext ⟨fun h=>h.elim id fun z=>by rw[a4] at z;omega,.inl⟩
  refine⟨_,w',es',e1,⟨a1,a2,by rw[a4];exact Nat.le_refl _,by rw[a3];exact .refl _,fun b _ _=>by rw[a4],fun x hx=>?_,fun h=>absurd h (by simp)⟩,?_⟩
  .rcases(a5 x (e2 x hx)).1 with q|q
   .exact qk (.inl oi) q
   .exact qk (.inl om) q
  .rw[hup]
   exact over hl w' (h1.trans X ⟨a1,a2,by rw[a4];exact Nat.le_refl _,by rw[a3];exact .refl _,fun b _ _=>by rw[a4],fun⟨s,hs⟩=>⟨s,by rw[ShAt,a4];exact hs⟩⟩)
 .obtain⟨es',e1,e2⟩:=eV (main:=false) h rt
  have hup:(eS X false ro).up own w1 w'=own:=by
   funext b
   exact propext ⟨fun h=>h.elim id fun z=>by rw[u.size] at z;omega,.inl⟩
  refine⟨_,w',es',e1,⟨u.tape,u.output,Nat.le_of_eq u.size.symm,by rw[u.os];exact .refl _,fun b _ hb=>u.rest b fun q=>hb (q▸oi),fun x hx=>?_,fun h=>absurd h (by simp)⟩,?_⟩
  .rcases a5 x (e2 x hx) with q|q
   .exact qk (.inl oi) q
   .exact qk (.inl om) q.1
  .rw[hup]
   refine more e he w' ?_ u.at_;refine⟨u.tape.trans h1.tape,u.output.trans h1.output,Nat.le_trans h1.size (Nat.le_of_eq u.size.symm),by rw[u.os];exact h1.os,fun b hb ho=>?_,fun l=>?_⟩
   .have hne:b≠it:=fun q=>ho.elim (fun h=>h.2 q) fun h=>hro (q▸h)
    exact(u.rest b hne).trans (h1.keep b hb (ho.imp (·.1) id))
   .obtain⟨s,hs⟩:=h1.live l
    exact⟨s,(u.rest _ hX.1.symm).trans hs.1,(u.rest _ hX.2.symm).trans hs.2⟩
section
variable (gN gA:ByteArray->Option ByteArray)
open Classical in
def jC:iD:=fun s=>if gN s=gA s then none else some (match gN s with|some c=>(true,c)|none=>(false,⟨#[]⟩))
def Jj (V:ByteArray->Prop)(mine:iD):Prop:=∀s,(∃c,gN s=some c/\gA s≠some c/\V s/\mine s=some (true,c))\/((gN s=none\/gA s=gN s\/¬V s)/\mine s=none)
def NA (V:ByteArray->Prop)(mine:iD):Prop:=∀s,(∃c,gN s=some c/\gA s≠some c/\mine s=some (true,c))\/(gN s=none/\gA s≠none/\V s/\mine s=some (false,⟨#[]⟩))\/((gA s=gN s\/(gN s=none/\¬V s))/\mine s=none)
variable {gN gA}{V V':ByteArray->Prop}{mine:iD}{path:ByteArray}{c:ByteArray}
theorem Jj.start:Jj gN gA (fun _=>False) fun _=>none:=fun _=> .inr ⟨.inr (.inr id),rfl⟩
theorem Jj.put (h:Jj gN gA V mine)(hV:∀s,V' s↔V s\/s=path)(h1:gN path=some c)(h2:gA path≠some c):Jj gN gA V' (iw mine path (true,c)):=fun s=>by
 by_cases hs:s=path
 .subst hs
  exact .inl ⟨c,h1,h2,(hV s).2 (.inr rfl),by simp[iw]⟩
 .have e:iw mine path (true,c) s=mine s:=by simp[iw,hs]
  rw[e];have hv:V' s↔V s:=(hV s).trans ⟨fun h=>h.resolve_right hs,.inl⟩;rcases h s with⟨x,a1,a2,a3,a4⟩|⟨a1,a2⟩
  .exact .inl ⟨x,a1,a2,hv.2 a3,a4⟩
  .exact .inr ⟨a1.imp id fun a=>a.imp id fun a b=>a (hv.1 b),a2⟩
theorem Jj.skip (h:Jj gN gA V mine)(hV:∀s,V' s↔V s\/s=path)(h1:gA path=gN path):Jj gN gA V' mine:=fun s=>by
 rcases h s with⟨x,a1,a2,a3,a4⟩|⟨a1,a2⟩
 .exact .inl ⟨x,a1,a2,(hV s).2 (.inl a3),a4⟩
 .refine .inr ⟨?_,a2⟩
  by_cases hs:s=path
  .subst hs;exact .inr (.inl h1)
  .exact a1.imp id fun a=>a.imp id fun a b=>a (((hV s).1 b).resolve_right hs)
theorem Jj.done (h:Jj gN gA V mine)(hV:∀s,gN s≠none->V s):NA gN gA (fun _=>False) mine:=fun s=>by
 rcases h s with⟨x,a1,a2,a3,a4⟩|⟨a1,a2⟩
 .exact .inl ⟨x,a1,a2,a4⟩
 .refine .inr (.inr ⟨?_,a2⟩)
  rcases a1 with a1|a1|a1
  .exact .inr ⟨a1,id⟩
  .exact .inl a1
  .exact .inr ⟨Classical.byContradiction fun q=>a1 (hV s q),id⟩
theorem NA.put (h:NA gN gA V mine)(hV:∀s,V' s↔V s\/s=path)(h1:gN path=none)(h2:gA path≠none):NA gN gA V' (iw mine path (false,⟨#[]⟩)):=fun s=>by
 by_cases hs:s=path
 .subst hs
  exact .inr (.inl ⟨h1,h2,(hV s).2 (.inr rfl),by simp[iw]⟩)
 .have e:iw mine path (false,⟨#[]⟩) s=mine s:=by simp[iw,hs]
  rw[e];have hv:V' s↔V s:=(hV s).trans ⟨fun h=>h.resolve_right hs,.inl⟩;rcases h s with a|⟨a1,a2,a3,a4⟩|⟨a1,a2⟩
  .exact .inl a
  .exact .inr (.inl ⟨a1,a2,hv.2 a3,a4⟩)
  .exact .inr (.inr ⟨a1.imp id fun a=>⟨a.1,fun b=>a.2 (hv.1 b)⟩,a2⟩)
theorem NA.skip (h:NA gN gA V mine)(hV:∀s,V' s↔V s\/s=path)(h1:gN path≠none):NA gN gA V' mine:=fun s=>by
 rcases h s with a|⟨a1,a2,a3,a4⟩|⟨a1,a2⟩
 .exact .inl a
 .exact .inr (.inl ⟨a1,a2,(hV s).2 (.inl a3),a4⟩)
 .refine .inr (.inr ⟨a1.imp id fun a=>⟨a.1,fun b=>?_⟩,a2⟩)
  rcases(hV s).1 b with b|b
  .exact a.2 b
  .subst b;exact h1 a.1
theorem NA.done (h:NA gN gA V mine)(hV:∀s,gA s≠none->V s):mine=jC gN gA:=by
 funext s
 unfold jC;rcases h s with⟨x,a1,a2,a4⟩|⟨a1,a2,a3,a4⟩|⟨a1,a2⟩
 .rw[if_neg (by rw[a1];exact fun q=>a2 q.symm),a1,a4]
 .rw[if_neg (by rw[a1];exact fun q=>a2 q.symm),a1,a4]
 .by_cases q:gN s=gA s
  .rw[if_pos q,a2]
  .exfalso
   rcases a1 with a1|⟨a1,a3⟩
   .exact q a1.symm
   .exact a3 (hV s fun z=>q (a1.trans z.symm))
end
section
open Go.MapKept
variable {es:Array MapEntry}{c:Nat}{f:ByteArray->Option Value}{seen:Array Nat}{e:MapEntry}{path:ByteArray}
def AQ (es:Array MapEntry)(seen:Array Nat)(s:ByteArray):Prop:=∃e∈es.toList,e.key= .string s/\e.born∈seen
theorem dh.I8 (h:dh es c f){x y:MapEntry}(hx:x∈es.toList)(hy:y∈es.toList)(hk:x.born=y.born):x=y:=by
 have hp:=h.stamped.2.1;rw[List.Nodup,List.pairwise_map,List.pairwise_iff_getElem] at hp;obtain⟨i,hi,rfl⟩:=List.mem_iff_getElem.1 hx;obtain⟨j,hj,rfl⟩:=List.mem_iff_getElem.1 hy;rcases Nat.lt_trichotomy i j with hlt|rfl|hlt
 .exact absurd hk (hp i j hi hj hlt)
 .rfl
 .exact absurd hk.symm (hp j i hj hi hlt)
theorem vj (h:dh es c f)(he:e∈es.toList)(hk:e.key= .string path)(s:ByteArray):AQ es (seen.push e.born) s↔AQ es seen s\/s=path:=by
 constructor
 .rintro⟨x,hx,h1,h2⟩
  rcases Array.mem_push.1 h2 with h2|h2
  .exact .inl ⟨x,hx,h1,h2⟩
  .have:=h.I8 hx he h2
   subst this;rw[hk] at h1;exact .inr (by simpa using h1.symm)
 .rintro(⟨x,hx,h1,h2⟩|rfl)
  .exact⟨x,hx,h1,Array.mem_push.2 (.inl h2)⟩
  .exact⟨e,he,hk,Array.mem_push.2 (.inr rfl)⟩
theorem zD (s:ByteArray):¬AQ es #[] s:=fun⟨_,_,_,h⟩=>by simp at h
theorem zE (h:dh es c f)(hl:leftOf es seen=#[]){s:ByteArray}(hs:f s≠none):AQ es seen s:=by
 obtain⟨v,hv⟩:=Option.ne_none_iff_exists'.1 hs;obtain⟨x,hx,h1,_⟩:=(h.has s v).1 hv;refine⟨x,hx,h1,?_⟩;refine Classical.byContradiction fun q=>?_
 have:x∈leftOf es seen:=Array.mem_filter.2 ⟨by simpa using hx,by simpa using q⟩;rw[hl] at this;simp at this
theorem wE (he:e∈leftOf es seen):e∈es.toList:=by simpa using(Array.mem_filter.1 he).1
theorem sP (he:e∈leftOf es seen):(leftOf es (seen.push e.born)).size<(leftOf es seen).size:=by
 have h1:(leftOf es (seen.push e.born)).toList=(leftOf es seen).toList.filter fun x=>!(x.born==e.born):=by
  unfold leftOf;rw[Array.toList_filter,Array.toList_filter,List.filter_filter]
  congr 1
  funext x
  rw[Array.contains_push];cases seen.contains x.born<;>cases (x.born==e.born)<;>rfl
 rw[<-Array.length_toList,<-Array.length_toList,h1];refine List.length_filter_lt_length_iff_exists.2 ⟨e,by simpa using he,by simp⟩
end
section
variable {X:Cx iD}{r:bm}{ro O0:Nat->Prop}{w0:World}{gN gA:ByteArray->Option ByteArray}{es1 es2:Array MapEntry}{c1 c2 M1 M2:Nat}{fr:Frame}{cs:List Frame}{dv:Value}
def tX (g:ByteArray->Option ByteArray):ByteArray->Option Value:=fun s=>(g s).map (hv true)
structure Two (X:Cx iD)(r:bm)(ro O0:Nat->Prop)(w0:World)(gN gA:ByteArray->Option ByteArray)(es1 es2:Array MapEntry)(c1 c2 M1 M2:Nat)(γ:Gh iD)(w:World):Prop where
 now:Now X r γ w
 Yh:γ.ro=ro
 own:∀b,O0 b->γ.own b
 old:∀b,γ.own b->O0 b\/w0.heap.size<=b
 hr:RX X ro O0 w0 w
 o1:γ.own M1
 o2:γ.own M2
 w1:w.heap[M1]? =some (.map es1 c1)
 w2:w.heap[M2]? =some (.map es2 c2)
 i1:dh es1 c1 (tX gN)
 i2:dh es2 c2 (tX gA)
variable {γ:Gh iD}{w w':World}
theorem Two.rely (h:Two X r ro O0 w0 gN gA es1 es2 c1 c2 M1 M2 γ w)(hr:RX X γ.ro γ.own w w'):Two X r ro O0 w0 gN gA es1 es2 c1 c2 M1 M2 γ w':=
 ⟨h.now.rely hr,h.Yh,h.own,h.old,h.hr.trans X (by rw[h.Yh] at hr;exact hr.sub h.own),h.o1,h.o2,aV hr (.inl h.o1) h.w1,aV hr (.inl h.o2) h.w2,h.i1,h.i2⟩
theorem Two.grow (h:Two X r ro O0 w0 gN gA es1 es2 c1 c2 M1 M2 γ w)(hr:RX X γ.ro γ.own w w'){own':Nat->Prop}{m d:iD}(h0:∀b,γ.own b->own' b)(h1:∀b,own' b->γ.own b\/w.heap.size<=b)(h2:∀b,own' b->b<w'.heap.size):
  Two X r ro O0 w0 gN gA es1 es2 c1 c2 M1 M2 {γ with own:=own',mine:=m,other:=d} w':=by
 have k:=h.rely hr;refine⟨h.now.grow hr h1 h2,h.Yh,fun b hb=>h0 b (h.own b hb),fun b hb=>?_,k.hr,h0 _ h.o1,h0 _ h.o2,k.w1,k.w2,h.i1,h.i2⟩;rcases h1 b hb with hb|hb
 .exact h.old b hb
 .exact .inr (Nat.le_trans h.hr.size hb)
theorem Two.turn (h:Two X r ro O0 w0 gN gA es1 es2 c1 c2 M1 M2 γ w){it:Nat}(hr:RX X γ.ro (fun b=>γ.own b/\b≠it) w w')(n1:it≠M1)(n2:it≠M2)(n0:¬O0 it):Two X r ro O0 w0 gN gA es1 es2 c1 c2 M1 M2 γ w':=by
 have k:Now X r γ w':=⟨h.now.spot,fun b hb=>Nat.lt_of_lt_of_le (h.now.low b hb) hr.size,Nat.lt_of_lt_of_le h.now.ml hr.size,hr.live h.now.live⟩
 exact⟨k,h.Yh,h.own,h.old,h.hr.trans X (by rw[h.Yh] at hr;exact hr.sub fun b hb=>⟨h.own b hb,fun q=>n0 (q▸hb)⟩),h.o1,h.o2,aV hr (.inl ⟨h.o1,n1.symm⟩) h.w1,aV hr (.inl ⟨h.o2,n2.symm⟩) h.w2,h.i1,h.i2⟩
theorem Two.off (h:Two X r ro O0 w0 gN gA es1 es2 c1 c2 M1 M2 γ w){b:Nat}(hb:γ.own b):b≠X.Fd/\b≠X.Wg:=h.now.spot.room.off b (.inl hb)
def Done (X:Cx iD)(r:bm)(ro O0:Nat->Prop)(w0:World)(fin:iD)(fr:Frame)(cs:List Frame):Prop:=
 ∀k w' (γ:Gh iD) n,Now X r γ w'->γ.ro=ro->(∀b,O0 b->γ.own b)->(∀b,γ.own b->O0 b\/w0.heap.size<=b)->RX X ro O0 w0 w'->γ.mine=fin->LW X r γ k (at_ .out n) (cB fr cs U) w'
theorem Fq:PP.underlying TC=some (.map 9 TH):=by kernel_rfl
theorem Ju:(PP.info? TH).bind (·.zero)=some (hv false ⟨#[]⟩):=by kernel_rfl
theorem aaT (hD:Done X r ro O0 w0 (jC gN gA) fr cs)(L:Nat):∀(seen:Array Nat) (γ:Gh iD) (w:World) (tm:Array Value) (it n k:Nat),(leftOf es2 seen).size=L->L<=n->Two X r ro O0 w0 gN gA es1 es2 c1 c2 M1 M2 γ w->γ.own it->it≠M1->it≠M2->¬O0 it->¬γ.ro it->
  w.heap[it]? =some (.mapIter (some M2) c2 seen c2)->NA gN gA (AQ es2 seen) γ.mine->HL2 X.Fd dv (dZ r) M1 M2 it tm->LW X r γ k (at_ .out n) (gL2 tm fr cs) w:=by
 induction L using Nat.strongRecOn with
 |_ L ih=>
 intro seen γ w tm it n k hL hn hT oi ne1 AY U9 KP hit hI hH;have hm:=hT.now.spot.worker;rw[hH.eq];refine wF (aa1 _ _ _ _ _ _ _ _ _) oi hT.o2 (hT.off oi) KP hit hT.w2 hT.i2 (fun hl w1 h1=>?_) (fun e he w1 h1 yj=>?_)
 .refine aC (Pp _ _ _ _ _ _ _ _ _) ?_
  have k1:=hT.rely h1;refine hD k w1 γ n k1.now hT.Yh hT.own hT.old k1.hr (hI.done fun s hs=>zE hT.i2 hl (by simpa [tX] using hs))
 .have hmem:=wE he
  obtain⟨path,hk⟩:=iy (hT.i2.keys e hmem);have hval:=(hT.i2.has path e.val).2 ⟨e,hmem,hk,rfl⟩;obtain⟨s,hs,hev⟩:=Option.map_eq_some_iff.1 hval;have hless:=sP he;have hV:=fun s=>vj (seen:=seen) hT.i2 hmem hk s
  rw[hk,<-hev];have T1:=hT.turn h1 ne1 AY U9;clear h1;refine aC (Pq _ _ _ _ _ _ _ _ _ _ _) ?_;refine cY (VG _ _ _ _ _ _ _ _ _ _ _) (x:= .tuple #[.string path,hv true s]) (fun w2 h2=>?_) fun w2 h2=>?_
  .have:=vN (aV h2 (.inl oi) yj) (T1.rely h2).w2 hT.i2 hmem
   rw[hk,<-hev] at this;exact⟨w2,_,this,rfl,rfl,rfl,rfl,fun x hx=>by
    simp at hx;rcases hx with rfl|rfl
    .exact⟨it,dN,.inl oi⟩
    .exact⟨M2,dN,.inl hT.o2⟩⟩
  have T2:=T1.rely h2;have hit2:=aV h2 (.inl oi) yj;refine aC (VF _ _ _ _ _ _ _ _ _ _ _) ?_;refine cY (VD _ _ _ _ _ _ _ _ _ _ _) (x:=(tX gN path).getD (hv false ⟨#[]⟩)) (fun w3 h3=>?_) fun w3 h3=>?_
  .exact⟨w3,_,oL (t:=TC) Fq JH Ju (T2.rely h3).w1 hT.i1,rfl,rfl,rfl,rfl,fun x hx=>by
    simp at hx;subst hx;exact⟨M1,dN,.inl hT.o1⟩⟩
  have T3:=T2.rely h3;have hit3:=aV h3 (.inl oi) hit2;clear h2 h3 yj hit2 T1 T2;have hLe:(leftOf es2 (seen.push e.born)).size<L:=hL▸hless;have hA:gA path≠none:=by rw[hs];simp
  cases hN:gN path with
  |some s2=>
   have ex:(tX gN path).getD (hv false ⟨#[]⟩)=hv true s2:=by simp[tX,hN]
   rw[ex];obtain⟨tm',IC,hg⟩:=Po X.Fd dv (dZ r) M1 M2 it path s s2 fr cs fun i=>tm.getD i undef
   exact aC hg (ih _ hLe (seen.push e.born) γ w3 tm' it n k rfl (by omega) T3 oi ne1 AY U9 KP hit3 (hI.skip hV (by rw[hN];simp)) IC)
  |none=>
   have ex:(tX gN path).getD (hv false ⟨#[]⟩)=hv false ⟨#[]⟩:=by simp[tX,hN]
   rw[ex];refine aC (VC _ _ _ _ _ _ _ _ _ _ _ _) ?_;refine cY (VB _ _ _ _ _ _ _ _ _ _ _ _) (x:=hv false ⟨#[]⟩) (fun w4 h4=>⟨w4,#[],.of0 fun es=>by kernel_rfl,rfl,rfl,rfl,rfl,by simp⟩) fun w4 h4=>?_
   have T4:=T3.rely h4;have PH:=aV h4 (.inl oi) hit3;refine aC (Vz _ _ _ _ _ _ _ _ _ _ _ _) ?_;obtain⟨n',rfl⟩:∃n',n=n'+1:=⟨n-1,by omega⟩
   refine Ca T4.now.spot T4.now.low T4.now.ml T4.now.live (fun k' w5 own' d a1 a2 a4 a3=>?_) k;obtain⟨tm',IC,hg⟩:=VH X.Fd dv (dZ r) M1 M2 it path s ⟨#[]⟩ fr cs fun i=>tm.getD i undef
   exact aC hg (ih _ hLe (seen.push e.born) {γ with own:=own',mine:=iw γ.mine path (false,⟨#[]⟩),other:=d} w5 tm' it n' k' rfl (by omega) (T4.grow a3 a1 a2 a4) (a1 _ oi) ne1 AY U9 KP (aV a3 (.inl oi) PH) (hI.put hV hN hA) IC)
theorem Two.more (h:Two X r ro O0 w0 gN gA es1 es2 c1 c2 M1 M2 γ w){B:Nat}{o:Obj}(hr:RX X γ.ro γ.own w w')(hB:w.heap.size<=B)(hw:w'.heap[B]? =some o):Two X r ro O0 w0 gN gA es1 es2 c1 c2 M1 M2 {γ with own:=fun b=>γ.own b\/b=B} w':=
 h.grow hr (m:=γ.mine) (d:=γ.other) (fun b hb=> .inl hb) (fun b hb=>Or.imp id (fun e:b=B=>by rw[e];exact hB) hb) (fun b hb=>by
  rcases hb with hb|rfl
  .exact Nat.lt_of_lt_of_le (h.now.low b (.inl hb)) hr.size
  .exact lt_of_some hw)
theorem Two.fresh (h:Two X r ro O0 w0 gN gA es1 es2 c1 c2 M1 M2 γ w){B:Nat}(hB:w.heap.size<=B):B≠M1/\B≠M2/\¬γ.own B/\¬γ.ro B/\(B≠X.Fd/\B≠X.Wg)/\(w0.heap.size<=w.heap.size):=by
 obtain⟨s,hs⟩:=h.now.live;exact⟨fun e=>by have:=lt_of_some h.w1;omega,fun e=>by have:=lt_of_some h.w2;omega,fun e=>by have:=h.now.low B (.inl e);omega,fun e=>by have:=h.now.low B (.inr e);omega,⟨fun e=>by have:=lt_of_some hs.1;omega,fun e=>by have:=lt_of_some hs.2;omega⟩,h.hr.size⟩
theorem aaU (RL:∀b,O0 b->b<w0.heap.size)(hD:Done X r ro O0 w0 (jC gN gA) fr cs)(L:Nat):∀(seen:Array Nat) (γ:Gh iD) (w:World) (tm:Array Value) (it n k:Nat),(leftOf es1 seen).size=L->L+es2.size<=n->Two X r ro O0 w0 gN gA es1 es2 c1 c2 M1 M2 γ w->γ.own it->it≠M1->it≠M2->¬O0 it->¬γ.ro it->
  w.heap[it]? =some (.mapIter (some M1) c1 seen c1)->Jj gN gA (AQ es1 seen) γ.mine->QY X.Fd dv (dZ r) M1 M2 it tm->LW X r γ k (at_ .out n) (gL1 tm fr cs) w:=by
 induction L using Nat.strongRecOn with
 |_ L ih=>
 intro seen γ w tm it n k hL hn hT oi ne1 AY U9 KP hit hI hH;have hm:=hT.now.spot.worker;rw[hH.eq];refine wF (aa3 _ _ _ _ _ _ _ _ _) oi hT.o1 (hT.off oi) KP hit hT.w1 hT.i1 (fun hl w1 h1=>?_) (fun e he w1 h1 yj=>?_)
 .refine aC (Pt _ _ _ _ _ _ _ _ _) ?_
  have T1:=hT.rely h1;refine fU (f:=fun b=>pb b) (VI _ _ _ _ _ _ _ _ _) (fun w2 h2=>⟨_,vL Fq (T1.rely h2).w2,fun x hx=>by simp at hx;subst hx;exact⟨M2,dN,.inl hT.o2⟩⟩) fun w2 B h2 hB hw2=>?_
  obtain⟨f1,f2,f3,f4,f5,f6⟩:=T1.fresh hB;have T2:=T1.more h2 hB hw2;obtain⟨tm',IC,hg⟩:=VJ X.Fd dv (dZ r) M1 M2 it B fr cs fun i=>tm.getD i undef
  have hl2:(leftOf es2 #[]).size=es2.size:=by
   have:leftOf es2 #[]=es2:=by unfold leftOf;rw[Array.filter_eq_self];simp
   rw[this]
  have e2:AQ es2 #[]=fun _=>False:=funext fun s=>propext ⟨zD s,False.elim⟩
  exact aC hg (aaT hD _ #[] {γ with own:=fun b=>γ.own b\/b=B} w2 tm' B n k rfl (by rw[hl2];omega) T2 (.inr rfl) f1 f2 (fun q=>by have:=RL B q;omega) f4 hw2 (by
   rw[e2];exact hI.done fun s hs=>zE hT.i1 hl (by simpa [tX] using hs)) IC)
 .have hmem:=wE he
  obtain⟨path,hk⟩:=iy (hT.i1.keys e hmem);have hval:=(hT.i1.has path e.val).2 ⟨e,hmem,hk,rfl⟩;obtain⟨s,hs,hev⟩:=Option.map_eq_some_iff.1 hval;have hless:=sP he;have hV:=fun s=>vj (seen:=seen) hT.i1 hmem hk s
  rw[hk,<-hev];have T1:=hT.turn h1 ne1 AY U9;clear h1;refine aC (Pu _ _ _ _ _ _ _ _ _ _ _) ?_;refine cY (VZ _ _ _ _ _ _ _ _ _ _ _) (x:= .tuple #[.string path,hv true s]) (fun w2 h2=>?_) fun w2 h2=>?_
  .have:=vN (aV h2 (.inl oi) yj) (T1.rely h2).w1 hT.i1 hmem
   rw[hk,<-hev] at this;exact⟨w2,_,this,rfl,rfl,rfl,rfl,fun x hx=>by
    simp at hx;rcases hx with rfl|rfl
    .exact⟨it,dN,.inl oi⟩
    .exact⟨M1,dN,.inl hT.o1⟩⟩
  have T2:=T1.rely h2;have hit2:=aV h2 (.inl oi) yj;refine aC (VY _ _ _ _ _ _ _ _ _ _ _) ?_;refine fU (f:=fun b=>pb b) (VX _ _ _ _ _ _ _ _ _ _ _) (fun w3 h3=>⟨#[],lR Ju,by simp⟩) fun w3 B9 h3 hB9 w93=>?_
  obtain⟨f1,f2,f3,f4,f5,f6⟩:=T2.fresh hB9;have n9i:B9≠it:=fun q=>f3 (q▸oi)
  have T3:=T2.more h3 hB9 w93;have hit3:w3.heap[it]? =_:=aV h3 (.inl oi) hit2;have ajt:=T2.hr.size;clear h2 h3 yj hit2 T1 T2;have o9:(fun b=>γ.own b\/b=B9) B9:= .inr rfl;refine aC (VW _ _ _ _ _ _ _ _ B9 _ _ _) ?_
  refine ji (b:=B9) (A:=fun o x=>x=undef/\o= .cells #[.bool true,.string s] TH (0,0)) o9 f5 (VT _ _ _ _ _ _ _ _ _ _ _ _) (fun w4 h4=>?_) (fun w4 o x _ w94 ha h4=>?_) f4
  .obtain⟨w',ev,r1,r2,r3⟩:=fC (t:=TH) (off:=0) (v:=hv true s) (aV h4 (.inl o9) w93) FY (by simp[hv,Value.cells]) (by simp[hv,Value.cells,kM])
   exact⟨undef,_,w',ev,.inr ⟨r1,rfl⟩,r2,⟨rfl,rfl⟩,fun e he=>⟨B9,r3 e he,.inl o9⟩⟩
  obtain⟨rfl,rfl⟩:=ha;have T4:=T3.turn h4 f1 f2 (fun q=>by have:=RL B9 q;omega);have PH:=aV h4 (.inl ⟨.inl oi,n9i.symm⟩) hit3;clear h4 T3 hit3 w93;refine aC (VU _ _ _ _ _ _ _ _ _ _ _ _) ?_
  have ld:∀{w5 w6:World},w5.heap[B9]? =some (.cells #[.bool true,.string s] TH (0,0))->RX X γ.ro (fun b=>γ.own b\/b=B9) w5 w6->∃w' ev,RT (kJ.load TH (pb B9)).sem w6 (.value (hv true s)) w' ev/\w'.tape=w6.tape/\w'.output=w6.output/\w'.os=w6.os/\w'.heap=w6.heap/\∀e∈ev,∃b,EvB b e/\((γ.own b\/b=B9)\/(γ.ro b/\e.write=false)):=by
   intro w5 w6 a b;obtain⟨ev,r1,r2⟩:=jy (t:=TH) (off:=0) (n:=2) (aV b (.inl o9) a) ac2 FY (by simp);exact⟨w6,ev,r1,rfl,rfl,rfl,rfl,fun e he=>⟨B9,(r2 e he).1,.inl o9⟩⟩
  refine cY (VR _ _ _ _ _ _ _ _ _ _ _ _) (x:=hv true s) (fun w5 h5=>ld w94 h5) fun w5 h5=>?_
  have T5:=T4.rely h5;have abz:=aV h5 (.inl (.inl oi)) PH;have w95:=aV h5 (.inl o9) w94;clear h5 T4 PH w94;refine aC (VS _ _ _ _ _ _ _ _ _ _ _ _) ?_;have hx:∃b2 s2,(tX gA path).getD (hv false ⟨#[]⟩)=hv b2 s2/\((true==b2&&s==s2)=true↔gA path=some s):=by
   cases hA:gA path with
   |none=>exact⟨false,⟨#[]⟩,by simp[tX,hA],by simp⟩
   |some s2=>exact⟨true,s2,by simp[tX,hA],by
     simp only[beq_self_eq_true,Bool.true_and,Go.MapKept.bytes_beq,Option.some.injEq];exact eq_comm⟩
  obtain⟨b2,s2,hx1,hx2⟩:=hx;refine cY (VP _ _ _ _ _ _ _ _ _ _ _ _) (x:=hv b2 s2) (fun w6 h6=>?_) fun w6 h6=>?_
  .have:=oL (t:=TC) (s:=path) Fq JH Ju (T5.rely h6).w2 hT.i2
   rw[hx1] at this;exact⟨w6,_,this,rfl,rfl,rfl,rfl,fun x hx=>by
    simp at hx;subst hx;exact⟨M2,dN,.inl (.inl hT.o2)⟩⟩
  have T6:=T5.rely h6;have aby:=aV h6 (.inl (.inl oi)) abz;have w96:=aV h6 (.inl o9) w95;clear h6 T5 abz w95;refine aC (VQ _ _ _ _ _ _ _ _ _ _ _ _ _ _) ?_;refine cY (VN _ _ _ _ _ _ _ _ _ _ _ _ _ _) (x:= .bool (!(true==b2&&s==s2))) (fun w7 h7=>⟨w7,#[],FF _ _ _ _,rfl,rfl,rfl,rfl,by simp⟩) fun w7 h7=>?_
  have T7:=T6.rely h7;have abx:=aV h7 (.inl (.inl oi)) aby;have w97:=aV h7 (.inl o9) w96;clear h7 T6 aby w96;have hLe:(leftOf es1 (seen.push e.born)).size<L:=hL▸hless
  by_cases heq:(true==b2&&s==s2)=true
  .rw[heq]
   obtain⟨tm',IC,hg⟩:=VM X.Fd dv (dZ r) M1 M2 it path s s2 b2 B9 fr cs fun i=>tm.getD i undef
   exact aC hg (ih _ hLe (seen.push e.born) {γ with own:=fun b=>γ.own b\/b=B9} w7 tm' it n k rfl (by omega) T7 (.inl oi) ne1 AY U9 KP abx (hI.skip hV (by rw[hx2.1 heq,hs])) IC)
  .have heq':(true==b2&&s==s2)=false:=by simpa using heq
   rw[heq'];refine aC (Ps _ _ _ _ _ _ _ _ _ _ _ _ _ _) ?_;refine cY (VK _ _ _ _ _ _ _ _ _ _ _ _ _ _) (x:=hv true s) (fun w8 h8=>ld w97 h8) fun w8 h8=>?_
   have T8:=T7.rely h8;have af9:=aV h8 (.inl (.inl oi)) abx;refine aC (VL _ _ _ _ _ _ _ _ _ _ _ _ _ _) ?_;obtain⟨n',rfl⟩:∃n',n=n'+1:=⟨n-1,by omega⟩
   refine Ca (γ:={γ with own:=fun b=>γ.own b\/b=B9}) T8.now.spot T8.now.low T8.now.ml T8.now.live (fun k' w9 own' d a1 a2 a4 a3=>?_) k;obtain⟨tm',IC,hg⟩:=V0 X.Fd dv (dZ r) M1 M2 it path s s2 b2 B9 fr cs fun i=>tm.getD i undef
   exact aC hg (ih _ hLe (seen.push e.born) {γ with own:=own',mine:=iw γ.mine path (true,s),other:=d} w9 tm' it n' k' rfl (by omega) (T8.grow a3 a1 a2 a4) (a1 _ (.inl oi)) ne1 AY U9 KP (aV a3 (.inl (.inl oi)) af9) (hI.put hV hs fun q=>heq (hx2.2 q)) IC)
end
end aI
end
section
open Go.RowKit Go.Lib
def pP (set:Int)(fs:List dk):ByteArray->Option ByteArray:=fs.foldl (fun g f=>if(f.set:Int)=set then fun s=>if s=aF f.path then some (aF f.content) else g s else g) fun _=>none
theorem LA (set:Int)(fs:List dk)(k:Nat)(hk:k<fs.length):pP set (fs.take (k+1))=if(fs[k].set:Int)=set then fun s=>if s=aF fs[k].path then some (aF fs[k].content) else pP set (fs.take k) s else pP set (fs.take k):=by
 unfold pP;rw[List.take_succ_eq_append_getElem hk,List.foldl_append];rfl
theorem PC (g:ByteArray->Option ByteArray)(p c:ByteArray):aI.tX (fun s=>if s=p then some c else g s)=fun s=>if s=p then some (aI.hv true c) else aI.tX g s:=by
 funext s
 unfold aI.tX
 by_cases h:s=p
 .simp[h]
 .simp[h]
theorem Sy:Tryz.prog.underlying 251=some (.map 9 161):=by kernel_rfl
theorem aeV:Tryz.prog.underlying 9=some .string:=by kernel_rfl
section
variable {P:Program}{ops:Array Oper}{Q:Exit->Act->World->Prop}{o:Oper}{rest:List Oper}{a:Act}{w:World}
theorem zJ {t:TypeId}(_:o.op= .makeMap t none)(h:ax (wpList P ops Q (o::rest) a w)):wpList P ops Q (o::rest) a w:=h
theorem vr {t:TypeId}{x y z:Operand}(_:o.op= .mapUpdate t x y z)(h:ax (wpList P ops Q (o::rest) a w)):wpList P ops Q (o::rest) a w:=h
end
theorem Dw {P:Program}{ops:Array Oper}{Q:Exit->Act->World->Prop}{a:Act}{w:World}{rest:List Oper}{o:Oper}(hg:o.guard=none)(t:TypeId)(ho:o.op= .makeMap t none)
  (h:∀w' b,w.heap.size<=b->aR [] w w'->w'.heap[b]? =some (.map #[] 0)->wpList P ops Q rest (a.put o.dst (.map (some b))) w'):wpList P ops Q (o::rest) a w:=by
 refine cN hg (.map (some w.heap.size)) (w.alloc (.map #[] 0)) (by unfold execOp;rw[ho];rfl) (h _ _ (Nat.le_refl _) (aR.alloc _ _ _) ?_);show(w.heap.push _)[w.heap.size]? =_;simp
theorem aR.upd {m:Nat}{o:Obj}{w w':World}(h:aI.yD m o w w'):aR [m] w w':=⟨h.os,h.tape,h.output,by rw[h.size];exact Nat.le_refl _,fun k _ hk=>h.rest k (by simpa using hk)⟩
theorem zC {ops:Array Oper}{Q:Exit->Act->World->Prop}{a:Act}{w:World}{rest:List Oper}{o:Oper}(hg:o.guard=none)(x y z:Operand)(ho:o.op= .mapUpdate 251 x y z){m:Nat}{p:ByteArray}{v:Value}
  (hx:a.eval x= .map (some m)) (hy:a.eval y= .string p) (hz:a.eval z=v) {es:Array MapEntry} {c:Nat} {f:ByteArray->Option Value} (hm:w.heap[m]? =some (.map es c)) (hf:aI.dh es c f)
  (h:∀w' es' c',aR [m] w w'->w'.heap[m]? =some (.map es' c')->aI.dh es' c' (fun s=>if s=p then some v else f s)->es'.size<=es.size+1->wpList Tryz.prog ops Q rest (a.put o.dst undef) w'):wpList Tryz.prog ops Q (o::rest) a w:=by
 obtain⟨es',c',w',ev,h1,h2,_,h3,h4⟩:=aI.pC (v:=v) Sy aeV hm hf;refine zB hg w' ?_ (h w' es' c' (aR.upd h2) h2.at_ h4 h3);have:=h1.run;unfold execOp;rw[ho];dsimp only;rw[hx,hy,hz];exact this
def xn (set:Int)(x:DS)(n:Nat)(w:World)(e:Ending)(w':World):Prop:=∃m es c,e= .returned (.map (some m))/\w.heap.size<=m/\w'.heap[m]? =some (.map es c)/\aI.dh es c (aI.tX (pP set (bh x n)))/\es.size<=54/\aR [] w w'
theorem yv {D:World->Prop}{d n:Nat}{x:DS}(R:Ny D d n x)(set:Int)(w:World)(h:D w):
  ∃cd,Tryz.f166.body=some cd/\cd.wp Tryz.prog (bodyPost Tryz.prog Tryz.f166 (xn set x n w)) {tmps:=#[.pointer (some ⟨d,0,none⟩),.int .i64 set]++Array.replicate (Tryz.f166.ntmps-(#[.pointer (some ⟨d,0,none⟩),.int .i64 set]:Array Value).size) undef,defers:=[]} w:=by
 refine⟨_,rfl,?_⟩;simp only[Tryz.ntmps166,List.size_toArray,List.length_cons,List.length_nil,Nat.reduceAdd,Nat.reduceSub,Array.replicate_succ,
   Array.replicate_zero,List.push_toArray,List.append_toArray,List.nil_append,List.cons_append]
 have hfl:(bh x n).length<=54:=by unfold bh;rw[List.length_map];exact i9 x n
 have hfp:Hid (∀f∈bh x n,f.set<256):=fun f hf=>by
  unfold bh at hf;rw[List.mem_map] at hf;obtain⟨i,_,rfl⟩:=hf;exact Hw _
 go_wp2_with (with_reducible first|refine zJ rfl ?_);refine ax.go (Dw rfl 251 rfl ?_);intro w1 m l1 f1 r1;go_wp2_with fail;have h1:=R.new h f1 (by simp);refine(M0 R w1 h1).mono ?_;rintro e w2 ⟨v,rfl,hv,f2⟩;have r2:w2.heap[m]? =some (.map #[] 0):=by rw[f2.block m (Array.getElem?_eq_some_iff.1 r1).1 (by simp)];exact r1
 have f12:=f1.trans f2;have ml1:m<w1.heap.size:=(Array.getElem?_eq_some_iff.1 r1).1;have tX:∀k∈[m],v.ownBlock≠some k:=fun k hk e=>by
  simp only[List.mem_singleton] at hk;subst hk;have:=(hv.lt _ e).1;omega
 clear f1 f2 r1 h1;generalize hfs:bh x n=fs at*;have HF:Hid (bh x n=fs):=hfs;clear hfs;obtain⟨ad,cap,hv'⟩:=cy hv;subst hv';have tX:Hid (∀k∈[m],(Value.slice ad fs.length cap).ownBlock≠some k):=tX;have ml:m<w2.heap.size:=(Array.getElem?_eq_some_iff.1 r2).1;go_wp2_with fail
 go_loopw [12] (fun c wr=>∃(k:Nat) (es:Array MapEntry) (cn:Nat),c= .int .i64 k/\k<=fs.length/\aR [m] w2 wr/\wr.heap[m]? =some (.map es cn)/\Hid (aI.dh es cn (aI.tX (pP set (fs.take k)))/\es.size<=k)) (fun c _=>fs.length-(intOf c).toNat)
 case atStart=>exact⟨0,#[],0,rfl,by omega,aR.refl _ _,r2,aI.dh.empty 0,by simp⟩
 case round=>
  obtain⟨k,es,cn,rfl,hk,fk,rm,HM⟩:=hrel;clear r2;have hvk:=fk.owns hv tX.out
  by_cases hlt:k<fs.length
  .obtain⟨g,cur,rfl,hg,hle,_,hcs,htk⟩:=e9 hvk
   have hat:((cur.toList.drop (k*3)).take 3)=cj fs[k].set fs[k].path fs[k].content:=by
    rw[cL htk _ _,CM fs k hlt]
   have hT:=LA set fs k hlt;have hfk:=hfp.out fs[k] (List.getElem_mem hlt);generalize fs[k]=f at hat hT hfk;have HT:Hid (pP set (fs.take (k+1))=if(f.set:Int)=set then fun s=>if s=aF f.path then some (aF f.content) else pP set (fs.take k) s else pP set (fs.take k)):=hT;clear hT hcs htk
   go_wp2_with (with_reducible first|refine az 107 rfl ?_|refine aA rfl ?_|refine ah 107 rfl ?_);refine ax.go (bY rfl 107 _ rfl g (k*3) rfl lS 3 fh _ _ hg (cj f.set f.path f.content) hat rfl ?_);clear hat hg;go_wp2_with (with_reducible first|refine aA rfl ?_|refine ah 107 rfl ?_)
   refine ax.go (bv rfl 107 rfl A1 oG ?_);intro w4 b5 l5 f4 r5;have ne5:b5≠m:=by have:=fk.size;omega
   have rm4:w4.heap[m]? =some (.map es cn):=by rw[f4.block m (Array.getElem?_eq_some_iff.1 rm).1 (by simp)];exact rm
   go_wp2_with (with_reducible first|refine aA rfl ?_|refine ah 107 rfl ?_);refine ax.go (bT rfl 107 _ _ rfl _ 0 rfl _ rfl 3 fh ?_ ?_ _ _ r5 ?_ ?_)
   .rfl
   .simp[cj,Value.oneCell']
   .decide
   intro w5 f5 q5;rw[bO _ _ (by rfl)] at q5;have oQ:Row w5 b5 (cj f.set f.path f.content).toArray 107:=q5;have rm5:w5.heap[m]? =some (.map es cn):=by rw[f5.block m (Array.getElem?_eq_some_iff.1 rm4).1 (by simpa using ne5.symm)];exact rm4
   have f45:=f4.trans f5 (by simpa using l5);have mI:=fk.trans f45;have c0:w5.cell? ⟨b5,0,none⟩=some (.int .i64 f.set):=by rw[oQ.cell];rfl
   have c1:w5.cell? ⟨b5,1,none⟩=some (.string (aF f.path)):=by rw[oQ.cell];rfl
   have c2:w5.cell? ⟨b5,2,none⟩=some (.string (aF f.content)):=by rw[oQ.cell];rfl
   clear q5 r5 f4 f5 f45 fk l5 hvk rm rm4 oQ;go_wp2_with (with_reducible first|refine vr rfl ?_)
   .refine ax.go (zC rfl _ _ _ rfl rfl rfl rfl rm5 HM.out.1 ?_)
    intro w6 es6 c6 f6 rm6 hm6 hs6;have Js:=mI.trans f6;go_wp2_with fail;refine⟨⟨k+1,es6,c6,by simp,by omega,Js,rm6,?_,?_⟩,by simp[intOf];omega⟩
    .rw[HT.out,if_pos (by simpa using(‹((f.set:Int)==set)=true›)),PC]
     exact hm6
    .have:=HM.out.2;omega
   .refine⟨⟨k+1,es,cn,by simp,by omega,mI,rm5,?_,?_⟩,by simp[intOf];omega⟩
    .rw[HT.out,if_neg (by simpa using(‹((f.set:Int)==set)=false›))]
     exact HM.out.1
    .have:=HM.out.2;omega
  .obtain rfl:k=fs.length:=by omega
   go_wp2_with fail;go_ret;exact⟨m,es,cn,rfl,l1,rm,by rw[HF.out];rw[List.take_length] at HM;exact HM.out.1,by have:=HM.out.2;omega,(f12.trans fk (by simp;omega)).mono⟩
end
section
open Go.Conc
open Go.ConcM (OsLater)
namespace aI
section
variable {X:Cx iD}{r:bm}{ro:Nat->Prop}{gN gA:ByteArray->Option ByteArray}{dv:Value}{K:Nat}{Rd:World->Prop}
def Cont (X:Cx iD)(r:bm)(ro:Nat->Prop)(Rd:World->Prop)(dv:Value)(set:Int)(g:ByteArray->Option ByteArray)(K:Nat):Prop:=
 ∀(γ:Gh iD) (k:Nat) (T:Lo) (w:World) (fr:Frame) (cs:List Frame),eH T.pc=false->Now X r γ w->γ.ro=ro->Rd w->
  (∀w' m es c (own':Nat->Prop),(∀b,γ.own b->own' b)->(∀b,own' b->γ.own b\/w.heap.size<=b)->(∀b,own' b->b<w'.heap.size)->RX X γ.ro γ.own w w'->own' m->¬γ.own m->w'.heap[m]? =some (.map es c)->dh es c (tX g)->es.size<=K->
   LW X r {γ with own:=own'} k T (cB fr cs (.map (some m))) w')->LW X r γ k T (gC0 dv set fr cs) w
theorem Il (hRd:∀w w' own,Rd w->RX X ro own w w'->Rd w')(h1:Cont X r ro Rd dv (dZ r:Int) gN K)(h2:Cont X r ro Rd dv 2 gA K){γ:Gh iD}{w:World}{fr:Frame}{cs:List Frame}{n k:Nat}(hn:2*K<=n)(hT:Now X r γ w)(hro:γ.ro=ro)(hw:Rd w)
  (h0:γ.mine=fun _=>none) (hD:Done X r ro γ.own w (jC gN gA) fr cs):LW X r γ k (at_ .out n) (Yy X.Fd dv (dZ r:Int) fr cs) w:=by
 refine aC (Xf _ _ _ _ _) (h1 γ k _ w _ _ rfl hT hro hw fun w1 M1 es1 c1 x9 a1 a2 a3 a4 o1 no1 hw1 i1 s1=>?_);have T1:Now X r {γ with own:=x9} w1:=hT.grow a4 (m:=γ.mine) (d:=γ.other) a2 a3;have R1:Rd w1:=hRd w w1 γ.own hw (hro▸a4);refine aC (Xe _ _ _ _ _ _) (h2 {γ with own:=x9} k _ w1 _ _ rfl T1 hro R1 fun w2 M2 es2 c2 UW b1 b2 b3 b4 o2 no2 hw2 i2 s2=>?_)
 have T2:Now X r {γ with own:=UW} w2:=T1.grow b4 (m:=γ.mine) (d:=γ.other) b2 b3;have H2:RX X ro γ.own w w2:=by
  have a4':RX X ro γ.own w w1:=hro▸a4;have b4':RX X ro x9 w1 w2:=hro▸b4;exact a4'.trans X (b4'.sub a1)
 have two:Two X r ro γ.own w gN gA es1 es2 c1 c2 M1 M2 {γ with own:=UW} w2:=by
  refine⟨T2,hro,fun b hb=>b1 b (a1 b hb),fun b hb=>?_,H2,b1 _ o1,o2,aV b4 (.inl o1) hw1,hw2,i1,i2⟩;rcases b2 b hb with hb|hb
  .exact a2 b hb
  .exact .inr (Nat.le_trans a4.size hb)
 refine aC (Xd _ _ _ _ _ _ _) ?_;refine fU (f:=fun b=>pb b) (Xb _ _ _ _ _ _ _) (fun w3 h3=>⟨_,vL Fq (two.rely h3).w1,fun x hx=>by simp at hx;subst hx;exact⟨M1,dN,.inl (b1 _ o1)⟩⟩) fun w3 B h3 hB hw3=>?_
 obtain⟨f1,f2,f3,f4,f5,f6⟩:=two.fresh hB;have T3:=two.more h3 hB hw3;obtain⟨tm',IC,hg⟩:=Xc X.Fd dv (dZ r) M1 M2 B fr cs (.map (some M1)) rfl;have hl1:leftOf es1 #[]=es1:=by unfold leftOf;rw[Array.filter_eq_self];simp
 have e1:AQ es1 #[]=fun _=>False:=funext fun s=>propext ⟨zD s,False.elim⟩
 exact aC hg (aaU (fun b hb=>hT.low b (.inl hb)) hD _ #[] {γ with own:=fun b=>UW b\/b=B} w3 tm' B n k rfl (by rw[hl1];omega) T3 (.inr rfl) f1 f2 (fun q=>by have:=hT.low B (.inl q);omega) f4 hw3 (by
  rw[e1];show Jj gN gA _ γ.mine;rw[h0];exact Jj.start) IC)
theorem tx (hRd:∀w w' own,Rd w->RX X ro own w w'->Rd w')(h1:Cont X r ro Rd dv (dZ r:Int) gN K)(h2:Cont X r ro Rd dv 2 gA K){γ:Gh iD}{w:World}{n k bw bf bd bs:Nat}(hn:2*K<=n)(hT:Now X r γ w)(hro:γ.ro=ro)(hw:Rd w)
  (h0:γ.mine=fun _=>none) (hfin:X.fin r=jC gN gA) (rw_:ro bw) (rf:ro bf) (rd:ro bd) (rs:ro bs) (cw:w.cell? ⟨bw,0,none⟩=some (pb X.Wg)) (cf:w.cell? ⟨bf,0,none⟩=some (pL X.Fd bd bs)) (cd:w.cell? ⟨bd,0,none⟩=some dv) (cs:w.cell? ⟨bs,0,none⟩=some (.int .i64 (dZ r:Int))):
  LW X r γ k (at_ .out n) (Yw bw bf) w:=by
 subst hro;refine NE rfl rf rd rs cf cd cs (Il hRd h1 h2 hn hT rfl hw h0 fun k' w' γ' n' t1 t2 t3 t4 t5 t6=>?_);have hlt:bw<w.heap.size:=hT.low bw (.inr rw_);have cw':w'.cell? ⟨bw,0,none⟩=some (pb X.Wg):=by
  unfold World.cell? at cw⊢;rw[t5.keep bw hlt (.inr rw_)];exact cw
 exact Jz t1.spot.worker t1.spot.room t1.live (t2▸rw_) cw' (t6.trans hfin.symm)
end
def OT (g:Goroutine):Goroutine:=Ah PP true 200 g
def OTn (n:Nat)(g:Goroutine):Goroutine:=Ah PP true n g
theorem bu {g:Goroutine}(h:∀ws:Nat->World,xO PP true 200 g ws=some (OT g,(List.range (bN PP true 200 g)).map ws)):av PP true g (OT g):=⟨200,_,h⟩
theorem bK {g g':Goroutine}(n m:Nat)(h:∀ws:Nat->World,xO PP true n g ws=some (g',(List.range m).map ws)):av PP true g g':=⟨n,m,h⟩
abbrev Jt:TypeId:=219
abbrev TWg:TypeId:=225
def fd0 (M:Nat):Value:= .agg #[.int .i32 0,.int .u32 0,.map (some M)]
section
variable (W F bw bf bd bs bs' M:Nat)(dv f:Value)(fr:Frame)(cs:List Frame)(x:Int)(y:Nat->Value)
def Ux:Goroutine:=LB 162 #[pb W,.int .i64 1] 115 fr cs
def Yg:Goroutine:=OT (Ux W fr cs)
theorem Kh:av PP true (Ux W fr cs) (Yg W fr cs):=bu fun ws=>by kernel_rfl
theorem uN:aG (Yg W fr cs)=some (168,#[]):=by kernel_rfl
def sA2:Goroutine:=OT (resume (Yg W fr cs) U)
theorem Kg:av PP true (resume (Yg W fr cs) U) (sA2 W fr cs):=bu fun ws=>by kernel_rfl
theorem FC:aG (sA2 W fr cs)=some (176,#[]):=by kernel_rfl
def Yf:Goroutine:=OT (resume (sA2 W fr cs) (.bool false))
theorem Kf:av PP true (resume (sA2 W fr cs) (.bool false)) (Yf W fr cs):=bu fun ws=>by kernel_rfl
theorem uM:aG (Yf W fr cs)=some (213,#[pb W,.int .u64 4294967296]):=by kernel_rfl
def Ns:Goroutine:=OT (resume (Yf W fr cs) (.int .u64 4294967296))
theorem Ke:av PP true (resume (Yf W fr cs) (.int .u64 4294967296)) (Ns W fr cs):=bu fun ws=>by kernel_rfl
theorem Kd:aQ (Ns W fr cs)=some (.conv (yu (Ns 0 default [])) (zu (Ns 0 default [])) (pF W)):=by kernel_rfl
theorem Rn:PP.underlying (yu (Ns 0 default []))=some (.pointer (zt (Ns 0 default []))):=by kernel_rfl
theorem Ro:PP.underlying (zu (Ns 0 default []))=some .unsafePointer:=by kernel_rfl
theorem Rm:(PP.info? (zt (Ns 0 default []))).map (fun i=>decide (i.size=0))=some false:=by kernel_rfl
def Ye:Goroutine:=OT (resume (Ns W fr cs) (pF W))
theorem Kc:av PP true (resume (Ns W fr cs) (pF W)) (Ye W fr cs):=bu fun ws=>by kernel_rfl
theorem z6:aG (Ye W fr cs)=some (198,#[pF W]):=by kernel_rfl
def sA6:Goroutine:=OT (resume (Ye W fr cs) U)
theorem Kb:av PP true (resume (Ye W fr cs) U) (sA6 W fr cs):=bu fun ws=>by kernel_rfl
theorem Ka:ic (sA6 W fr cs)=some (170,#[]):=by kernel_rfl
theorem FA:av PP true (cX (sA6 W fr cs)) (cB fr cs U):=bK 1 (bN PP true 1 (cX (sA6 W fr cs))) fun ws=>by kernel_rfl
def sA7:Goroutine:=OT (resume (Yf W fr cs) (.int .u64 8589934592))
theorem Uw:av PP true (resume (Yf W fr cs) (.int .u64 8589934592)) (sA7 W fr cs):=bu fun ws=>by kernel_rfl
theorem Uv:ic (sA7 W fr cs)=some (170,#[]):=by kernel_rfl
theorem Ox:av PP true (cX (sA7 W fr cs)) (cB fr cs U):=bK 1 (bN PP true 1 (cX (sA7 W fr cs))) fun ws=>by kernel_rfl
def Yc:Goroutine:=LB 130 #[pb W,f] 5 fr cs
def sG1:Goroutine:=OT (Yc W f fr cs)
theorem Ub:av PP true (Yc W f fr cs) (sG1 W f fr cs):=bu fun ws=>by kernel_rfl
theorem Ua:aQ (sG1 W f fr cs)=some (.box 249 (pb W)):=by kernel_rfl
def sG2:Goroutine:=OT (resume (sG1 W f fr cs) (pb bw))
theorem T9:av PP true (resume (sG1 W f fr cs) (pb bw)) (sG2 W bw f fr cs):=bu fun ws=>by kernel_rfl
theorem T0:aQ (sG2 W bw f fr cs)=some (.box 1 f):=by kernel_rfl
def ZC:Goroutine:=OT (resume (sG2 W bw f fr cs) (pb bf))
theorem TZ:av PP true (resume (sG2 W bw f fr cs) (pb bf)) (ZC W bw bf f fr cs):=bu fun ws=>by kernel_rfl
theorem TX:aQ (ZC W bw bf f fr cs)=some (.load 249 (pb bw)):=by kernel_rfl
def fG:Frame:=(OTn 1 (resume (ZC W bw bf f fr cs) (pb W))).callers.head?.getD default
theorem TY:av PP true (resume (ZC W bw bf f fr cs) (pb W)) (Ux W (fG W bw bf f fr cs) (fr::cs)):=bK 1 (bN PP true 1 (resume (ZC W bw bf f fr cs) (pb W))) fun ws=>by kernel_rfl
def TW:Goroutine:=OT (cB (fG W bw bf f fr cs) (fr::cs) U)
theorem TV:av PP true (cB (fG W bw bf f fr cs) (fr::cs) U) (TW W bw bf f fr cs):=bu fun ws=>by kernel_rfl
theorem Ov:av PP true (resume (TW W bw bf f fr cs) undef) (cB fr cs U):=bK 3 (bN PP true 3 (resume (TW W bw bf f fr cs) undef)) fun ws=>by kernel_rfl
def Zx:Goroutine:=LB 88 #[dv] 16 fr cs
def sT1:Goroutine:=OT (Zx dv fr cs)
theorem Th:av PP true (Zx dv fr cs) (sT1 dv fr cs):=bu fun ws=>by kernel_rfl
theorem Tf:aQ (sT1 dv fr cs)=some (.box 94 dv):=by kernel_rfl
def sT2:Goroutine:=OT (resume (sT1 dv fr cs) (pb bd))
theorem Te:av PP true (resume (sT1 dv fr cs) (pb bd)) (sT2 bd dv fr cs):=bu fun ws=>by kernel_rfl
theorem Td:aQ (sT2 bd dv fr cs)=some (.makeMap TM):=by kernel_rfl
def sT3:Goroutine:=OT (resume (sT2 bd dv fr cs) (.map (some M)))
theorem Tc:av PP true (resume (sT2 bd dv fr cs) (.map (some M))) (sT3 bd M dv fr cs):=bu fun ws=>by kernel_rfl
theorem Tb:aQ (sT3 bd M dv fr cs)=some (.build Jt #[(1,.map (some M))]):=by kernel_rfl
def sT4:Goroutine:=OT (resume (sT3 bd M dv fr cs) (fd0 M))
theorem Ta:av PP true (resume (sT3 bd M dv fr cs) (fd0 M)) (sT4 bd M dv fr cs):=bu fun ws=>by kernel_rfl
theorem S9:aQ (sT4 bd M dv fr cs)=some (.alloc Jt):=by kernel_rfl
def sT5:Goroutine:=OT (resume (sT4 bd M dv fr cs) (pb F))
theorem S8:av PP true (resume (sT4 bd M dv fr cs) (pb F)) (sT5 F bd M dv fr cs):=bu fun ws=>by kernel_rfl
theorem S7:aQ (sT5 F bd M dv fr cs)=some (.store Jt (pb F) (fd0 M)):=by kernel_rfl
def Yb:Goroutine:=OT (resume (sT5 F bd M dv fr cs) undef)
theorem S6:av PP true (resume (sT5 F bd M dv fr cs) undef) (Yb F bd M dv fr cs):=bu fun ws=>by kernel_rfl
theorem S5:aQ (Yb F bd M dv fr cs)=some (.alloc TWg):=by kernel_rfl
def sT7:Goroutine:=OT (resume (Yb F bd M dv fr cs) (pb W))
theorem S4:av PP true (resume (Yb F bd M dv fr cs) (pb W)) (sT7 W F bd M dv fr cs):=bu fun ws=>by kernel_rfl
theorem S3:aQ (sT7 W F bd M dv fr cs)=some (.alloc 3):=by kernel_rfl
def Zw:Goroutine:=OT (resume (sT7 W F bd M dv fr cs) (pb bs))
theorem S2:av PP true (resume (sT7 W F bd M dv fr cs) (pb bs)) (Zw W F bd bs M dv fr cs):=bu fun ws=>by kernel_rfl
theorem SY:aQ (Zw W F bd bs M dv fr cs)=some (.store 3 (pb bs) (.int .i64 0)):=by kernel_rfl
def fT1:Frame:=(OTn 4 (resume (Zw W F bd bs M dv fr cs) undef)).callers.head?.getD default
theorem SZ:av PP true (resume (Zw W F bd bs M dv fr cs) undef) (Yc W (pL F bd bs) (fT1 W F bd bs M dv fr cs) (fr::cs)):=bK 4 (bN PP true 4 (resume (Zw W F bd bs M dv fr cs) undef)) fun ws=>by kernel_rfl
def sS7:Goroutine:=OT (cB (fT1 W F bd bs M dv fr cs) (fr::cs) U)
theorem Tq:av PP true (cB (fT1 W F bd bs M dv fr cs) (fr::cs) U) (sS7 W F bd bs M dv fr cs):=bu fun ws=>by kernel_rfl
theorem Tp:aQ (sS7 W F bd bs M dv fr cs)=some (.alloc 3):=by kernel_rfl
def Zy:Goroutine:=OT (resume (sS7 W F bd bs M dv fr cs) (pb bs'))
theorem To:av PP true (resume (sS7 W F bd bs M dv fr cs) (pb bs')) (Zy W F bd bs bs' M dv fr cs):=bu fun ws=>by kernel_rfl
theorem Tj:aQ (Zy W F bd bs bs' M dv fr cs)=some (.store 3 (pb bs') (.int .i64 1)):=by kernel_rfl
def YB:Frame:=(OTn 4 (resume (Zy W F bd bs bs' M dv fr cs) undef)).callers.head?.getD default
theorem Tn:av PP true (resume (Zy W F bd bs bs' M dv fr cs) undef) (Yc W (pL F bd bs') (YB W F bd bs bs' M dv fr cs) (fr::cs)):=bK 4 (bN PP true 4 (resume (Zy W F bd bs bs' M dv fr cs) undef)) fun ws=>by kernel_rfl
def sW0:Goroutine:=LB 133 #[pb W] 83 fr cs
def fT3:Frame:=(OTn 17 (cB (YB W F bd bs bs' M dv fr cs) (fr::cs) U)).callers.head?.getD default
theorem Ti:av PP true (cB (YB W F bd bs bs' M dv fr cs) (fr::cs) U) (sW0 W (fT3 W F bd bs bs' M dv fr cs) (fr::cs)):=bK 17 (bN PP true 17 (cB (YB W F bd bs bs' M dv fr cs) (fr::cs) U)) fun ws=>by kernel_rfl
def Hj:Goroutine:=OT (sW0 W fr cs)
theorem DR:av PP true (sW0 W fr cs) (Hj W fr cs):=bu fun ws=>by kernel_rfl
theorem Fy:aG (Hj W fr cs)=some (168,#[]):=by kernel_rfl
end
def Zb:List Item:=match(OT (resume (Hj 0 default []) U)).callers with|f::_=>f.todo|[]=>[]
def ae7 (W:Nat):Frame:=(OT (resume (Hj W default []) U)).frame
def sH (W:Nat)(tm:Array Value)(fr:Frame)(cs:List Frame):Goroutine:=G (ae7 W) ((base 133).at ⟨tm,[]⟩ Zb::fr::cs)
structure HW (W:Nat)(tm:Array Value):Prop where
 size:tm.size=84
 s0:tm[0]? =some (pb W)
def tmW (W:Nat)(y:Nat->Value):Array Value:=#[pb W,y 1,y 2,y 3,y 4,y 5,y 6,y 7,y 8,y 9,y 10,y 11,y 12,y 13,y 14,y 15,y 16,y 17,y 18,y 19,y 20,y 21,y 22,y 23,y 24,y 25,y 26,y 27,y 28,y 29,y 30,y 31,y 32,y 33,y 34,y 35,y 36,y 37,y 38,y 39,y 40,y 41,y 42,y 43,y 44,y 45,y 46,y 47,y 48,y 49,y 50,y 51,y 52,y 53,y 54,y 55,y 56,y 57,y 58,y 59,y 60,y 61,y 62,y 63,y 64,y 65,y 66,y 67,y 68,y 69,y 70,y 71,y 72,y 73,y 74,y 75,y 76,y 77,y 78,y 79,y 80,y 81,y 82,y 83]
theorem N4 (tm:Array Value)(h:tm.size=84):tm=#[tm.getD 0 undef,tm.getD 1 undef,tm.getD 2 undef,tm.getD 3 undef,tm.getD 4 undef,tm.getD 5 undef,tm.getD 6 undef,tm.getD 7 undef,tm.getD 8 undef,tm.getD 9 undef,tm.getD 10 undef,tm.getD 11 undef,tm.getD 12 undef,tm.getD 13 undef,tm.getD 14 undef,tm.getD 15 undef,tm.getD 16 undef,tm.getD 17 undef,tm.getD 18 undef,tm.getD 19 undef,tm.getD 20 undef,tm.getD 21 undef,tm.getD 22 undef,tm.getD 23 undef,tm.getD 24 undef,tm.getD 25 undef,tm.getD 26 undef,tm.getD 27 undef,tm.getD 28 undef,tm.getD 29 undef,tm.getD 30 undef,tm.getD 31 undef,tm.getD 32 undef,tm.getD 33 undef,tm.getD 34 undef,tm.getD 35 undef,tm.getD 36 undef,tm.getD 37 undef,tm.getD 38 undef,tm.getD 39 undef,tm.getD 40 undef,tm.getD 41 undef,tm.getD 42 undef,tm.getD 43 undef,tm.getD 44 undef,tm.getD 45 undef,tm.getD 46 undef,tm.getD 47 undef,tm.getD 48 undef,tm.getD 49 undef,tm.getD 50 undef,tm.getD 51 undef,tm.getD 52 undef,tm.getD 53 undef,tm.getD 54 undef,tm.getD 55 undef,tm.getD 56 undef,tm.getD 57 undef,tm.getD 58 undef,tm.getD 59 undef,tm.getD 60 undef,tm.getD 61 undef,tm.getD 62 undef,tm.getD 63 undef,tm.getD 64 undef,tm.getD 65 undef,tm.getD 66 undef,tm.getD 67 undef,tm.getD 68 undef,tm.getD 69 undef,tm.getD 70 undef,tm.getD 71 undef,tm.getD 72 undef,tm.getD 73 undef,tm.getD 74 undef,tm.getD 75 undef,tm.getD 76 undef,tm.getD 77 undef,tm.getD 78 undef,tm.getD 79 undef,tm.getD 80 undef,tm.getD 81 undef,tm.getD 82 undef,tm.getD 83 undef]:=by
 have e:tm=((List.range 84).map fun i=>tm.getD i undef).toArray:=by
  apply Array.ext
  .simp[h]
  .intro i h1 h2
   simp[Array.getD_eq_getD_getElem?,h1]
 exact e.trans (by kernel_rfl)
theorem HW.eq {W:Nat}{tm:Array Value}(h:HW W tm):tm=tmW W fun i=>tm.getD i undef:=by
 have h1:=N4 tm h.size;rw[bZ h.s0] at h1;exact h1
section
variable (W:Nat)(fr:Frame)(cs:List Frame)(y:Nat->Value)
theorem Tv:∃tm,HW W tm/\av PP true (resume (Hj W fr cs) U) (sH W tm fr cs):=⟨match(OT (resume (Hj W fr cs) U)).callers with|f::_=>f.tmps|[]=>#[],⟨by kernel_rfl,by kernel_rfl⟩,bK 200 (bN PP true 200 (resume (Hj W fr cs) U)) fun ws=>by kernel_rfl⟩
abbrev sh:Goroutine:=sH W (tmW W y) fr cs
theorem Ri:aG (sh W fr cs y)=some (203,#[pb W]):=by kernel_rfl
def sE:Goroutine:=OT (resume (sh W fr cs y) (.int .u64 0))
theorem ZE:av PP true (resume (sh W fr cs y) (.int .u64 0)) (sE W fr cs y):=bu fun ws=>by kernel_rfl
theorem ZD:aG (sE W fr cs y)=some (170,#[]):=by kernel_rfl
def No:Goroutine:=OT (resume (sE W fr cs y) U)
theorem Uj:av PP true (resume (sE W fr cs y) U) (No W fr cs y):=bu fun ws=>by kernel_rfl
theorem Ui:aQ (No W fr cs y)=some (.conv (yu (No 0 default [] fun _=>undef)) (zu (No 0 default [] fun _=>undef)) (pb W)):=by kernel_rfl
theorem ZG:PP.underlying (yu (No 0 default [] fun _=>undef))=some (.pointer (zt (No 0 default [] fun _=>undef))):=by kernel_rfl
theorem ZH:PP.underlying (zu (No 0 default [] fun _=>undef))=some .unsafePointer:=by kernel_rfl
theorem ZF:(PP.info? (zt (No 0 default [] fun _=>undef))).map (fun i=>decide (i.size=0))=some false:=by kernel_rfl
def sEM:Goroutine:=OT (resume (No W fr cs y) (pb W))
theorem Ug:av PP true (resume (No W fr cs y) (pb W)) (sEM W fr cs y):=bu fun ws=>by kernel_rfl
theorem Uh:aG (sEM W fr cs y)=some (171,#[pb W]):=by kernel_rfl
theorem Ow:av PP true (resume (sEM W fr cs y) U) (cB fr cs U):=bK 20 (bN PP true 20 (resume (sEM W fr cs y) U)) fun ws=>by kernel_rfl
def Uu:Goroutine:=OT (resume (sh W fr cs y) (.int .u64 4294967296))
theorem Ut:av PP true (resume (sh W fr cs y) (.int .u64 4294967296)) (Uu W fr cs y):=bu fun ws=>by kernel_rfl
theorem z5:aG (Uu W fr cs y)=some (204,#[pb W,.int .u64 4294967296,.int .u64 4294967297]):=by kernel_rfl
theorem Us:∃tm,HW W tm/\av PP true (resume (Uu W fr cs y) (.bool false)) (sH W tm fr cs):=⟨match(OT (resume (Uu W fr cs y) (.bool false))).callers with|f::_=>f.tmps|[]=>#[],⟨by kernel_rfl,by kernel_rfl⟩,bK 200 (bN PP true 200 (resume (Uu W fr cs y) (.bool false))) fun ws=>by kernel_rfl⟩
def Nq:Goroutine:=OT (resume (Uu W fr cs y) (.bool true))
theorem Uo:av PP true (resume (Uu W fr cs y) (.bool true)) (Nq W fr cs y):=bu fun ws=>by kernel_rfl
theorem Un:aQ (Nq W fr cs y)=some (.conv (yu (Nq 0 default [] fun _=>undef)) (zu (Nq 0 default [] fun _=>undef)) (pF W)):=by kernel_rfl
theorem ZM:PP.underlying (yu (Nq 0 default [] fun _=>undef))=some (.pointer (zt (Nq 0 default [] fun _=>undef))):=by kernel_rfl
theorem ZN:PP.underlying (zu (Nq 0 default [] fun _=>undef))=some .unsafePointer:=by kernel_rfl
theorem ZL:(PP.info? (zt (Nq 0 default [] fun _=>undef))).map (fun i=>decide (i.size=0))=some false:=by kernel_rfl
def sFk:Goroutine:=OT (resume (Nq W fr cs y) (pF W))
theorem Uf:av PP true (resume (Nq W fr cs y) (pF W)) (sFk W fr cs y):=bu fun ws=>by kernel_rfl
theorem Ue:aG (sFk W fr cs y)=some (175,#[pF W]):=by kernel_rfl
def sIk:Goroutine:=OT (resume (sFk W fr cs y) U)
theorem TT:av PP true (resume (sFk W fr cs y) U) (sIk W fr cs y):=bu fun ws=>by kernel_rfl
theorem Ou:aG (sIk W fr cs y)=some (177,#[pF W,.bool false]):=by kernel_rfl
def sJk:Goroutine:=OT (resume (sIk W fr cs y) U)
theorem TR:av PP true (resume (sIk W fr cs y) U) (sJk W fr cs y):=bu fun ws=>by kernel_rfl
theorem TQ:aG (sJk W fr cs y)=some (203,#[pb W]):=by kernel_rfl
def sKk:Goroutine:=OT (resume (sJk W fr cs y) (.int .u64 0))
theorem TD:av PP true (resume (sJk W fr cs y) (.int .u64 0)) (sKk W fr cs y):=bu fun ws=>by kernel_rfl
theorem TB:aG (sKk W fr cs y)=some (170,#[]):=by kernel_rfl
def x7:Goroutine:=OT (resume (sKk W fr cs y) U)
theorem Oq:av PP true (resume (sKk W fr cs y) U) (x7 W fr cs y):=bu fun ws=>by kernel_rfl
theorem Oo:aQ (x7 W fr cs y)=some (.conv (yu (x7 0 default [] fun _=>undef)) (zu (x7 0 default [] fun _=>undef)) (pb W)):=by kernel_rfl
theorem TF:PP.underlying (yu (x7 0 default [] fun _=>undef))=some (.pointer (zt (x7 0 default [] fun _=>undef))):=by kernel_rfl
theorem TG:PP.underlying (zu (x7 0 default [] fun _=>undef))=some .unsafePointer:=by kernel_rfl
theorem TE:(PP.info? (zt (x7 0 default [] fun _=>undef))).map (fun i=>decide (i.size=0))=some false:=by kernel_rfl
def Om:Goroutine:=OT (resume (x7 W fr cs y) (pb W))
theorem Oj:av PP true (resume (x7 W fr cs y) (pb W)) (Om W fr cs y):=bu fun ws=>by kernel_rfl
theorem Ol:aG (Om W fr cs y)=some (171,#[pb W]):=by kernel_rfl
theorem J0:av PP true (resume (Om W fr cs y) U) (cB fr cs U):=bK 10 (bN PP true 10 (resume (Om W fr cs y) U)) fun ws=>by kernel_rfl
def Ur:Goroutine:=OT (resume (sh W fr cs y) (.int .u64 8589934592))
theorem Uq:av PP true (resume (sh W fr cs y) (.int .u64 8589934592)) (Ur W fr cs y):=bu fun ws=>by kernel_rfl
theorem z4:aG (Ur W fr cs y)=some (204,#[pb W,.int .u64 8589934592,.int .u64 8589934593]):=by kernel_rfl
theorem Up:∃tm,HW W tm/\av PP true (resume (Ur W fr cs y) (.bool false)) (sH W tm fr cs):=⟨match(OT (resume (Ur W fr cs y) (.bool false))).callers with|f::_=>f.tmps|[]=>#[],⟨by kernel_rfl,by kernel_rfl⟩,bK 200 (bN PP true 200 (resume (Ur W fr cs y) (.bool false))) fun ws=>by kernel_rfl⟩
def Np:Goroutine:=OT (resume (Ur W fr cs y) (.bool true))
theorem Um:av PP true (resume (Ur W fr cs y) (.bool true)) (Np W fr cs y):=bu fun ws=>by kernel_rfl
theorem Ul:aQ (Np W fr cs y)=some (.conv (yu (Np 0 default [] fun _=>undef)) (zu (Np 0 default [] fun _=>undef)) (pF W)):=by kernel_rfl
theorem ZJ:PP.underlying (yu (Np 0 default [] fun _=>undef))=some (.pointer (zt (Np 0 default [] fun _=>undef))):=by kernel_rfl
theorem ZK:PP.underlying (zu (Np 0 default [] fun _=>undef))=some .unsafePointer:=by kernel_rfl
theorem ZI:(PP.info? (zt (Np 0 default [] fun _=>undef))).map (fun i=>decide (i.size=0))=some false:=by kernel_rfl
def sFl:Goroutine:=OT (resume (Np W fr cs y) (pF W))
theorem Ud:av PP true (resume (Np W fr cs y) (pF W)) (sFl W fr cs y):=bu fun ws=>by kernel_rfl
theorem Uc:aG (sFl W fr cs y)=some (175,#[pF W]):=by kernel_rfl
def sIl:Goroutine:=OT (resume (sFl W fr cs y) U)
theorem TS:av PP true (resume (sFl W fr cs y) U) (sIl W fr cs y):=bu fun ws=>by kernel_rfl
theorem Ot:aG (sIl W fr cs y)=some (177,#[pF W,.bool false]):=by kernel_rfl
def sJl:Goroutine:=OT (resume (sIl W fr cs y) U)
theorem TP:av PP true (resume (sIl W fr cs y) U) (sJl W fr cs y):=bu fun ws=>by kernel_rfl
theorem TO:aG (sJl W fr cs y)=some (203,#[pb W]):=by kernel_rfl
def sKl:Goroutine:=OT (resume (sJl W fr cs y) (.int .u64 0))
theorem Tx:av PP true (resume (sJl W fr cs y) (.int .u64 0)) (sKl W fr cs y):=bu fun ws=>by kernel_rfl
theorem Tw:aG (sKl W fr cs y)=some (170,#[]):=by kernel_rfl
def x6:Goroutine:=OT (resume (sKl W fr cs y) U)
theorem Oi:av PP true (resume (sKl W fr cs y) U) (x6 W fr cs y):=bu fun ws=>by kernel_rfl
theorem Oh:aQ (x6 W fr cs y)=some (.conv (yu (x6 0 default [] fun _=>undef)) (zu (x6 0 default [] fun _=>undef)) (pb W)):=by kernel_rfl
theorem Tz:PP.underlying (yu (x6 0 default [] fun _=>undef))=some (.pointer (zt (x6 0 default [] fun _=>undef))):=by kernel_rfl
theorem TA:PP.underlying (zu (x6 0 default [] fun _=>undef))=some .unsafePointer:=by kernel_rfl
theorem Ty:(PP.info? (zt (x6 0 default [] fun _=>undef))).map (fun i=>decide (i.size=0))=some false:=by kernel_rfl
def Og:Goroutine:=OT (resume (x6 W fr cs y) (pb W))
theorem Oe:av PP true (resume (x6 W fr cs y) (pb W)) (Og W fr cs y):=bu fun ws=>by kernel_rfl
theorem Of:aG (Og W fr cs y)=some (171,#[pb W]):=by kernel_rfl
theorem JZ:av PP true (resume (Og W fr cs y) U) (cB fr cs U):=bK 10 (bN PP true 10 (resume (Og W fr cs y) U)) fun ws=>by kernel_rfl
end
theorem xRd:Ext PP 198 Tryz.f198:=⟨Tryz.func198,by kernel_rfl,by kernel_rfl,by kernel_rfl⟩
theorem fRd:Extern.find Tryz.f198=some (Extern.Race.marked .read):=by kernel_rfl
theorem xWr:Ext PP 175 Tryz.f175:=⟨Tryz.func175,by kernel_rfl,by kernel_rfl,by kernel_rfl⟩
theorem fWr:Extern.find Tryz.f175=some (Extern.Race.marked .write):=by kernel_rfl
theorem Fm:Ext PP 204 Tryz.f204:=⟨Tryz.func204,by kernel_rfl,by kernel_rfl,by kernel_rfl⟩
theorem Gq:Extern.find Tryz.f204=some (Extern.Atomic.casT (.int .u64)):=by kernel_rfl
theorem Q5:Ext PP 177 Tryz.f177:=⟨Tryz.func177,by kernel_rfl,by kernel_rfl,by kernel_rfl⟩
theorem TU (W bw bf:Nat)(f:Value)(fr:Frame)(cs:List Frame)(w:World):stepG PP true (TW W bw bf f fr cs) w= .spawn (resume (TW W bw bf f fr cs) undef) (Yw bw bf) w #[]:=by kernel_rfl
theorem Fz (W bw bf:Nat)(f:Value)(fr:Frame)(cs:List Frame):(TW W bw bf f fr cs).status= .running/\(TW W bw bf f fr cs).offers=none:=⟨by kernel_rfl,by kernel_rfl⟩
theorem R0:Extern.find Tryz.f177=some Extern.Sync.semacquire:=by kernel_rfl
section
variable {P:Program}{main:Bool}{g:Goroutine}{f:FuncId}{fn:Func}{w:World}
theorem GZ (X:Ext P f fn)(he:Extern.find fn=some Extern.Sync.semacquire){ad:Addr}{n:Int}{u:Value}(h:aG g=some (f,#[.pointer (some ad),u]))(hc:w.cell? ad=some (.int .u32 n))(hn:n≠0)(hz:w.frozen? ad=false):
  stepG P main g w= .go (resume g (.tuple #[])) (w.setCell ad (.int .u32 (n-1))) (semEvents ad):=by
 obtain⟨b,a,ops,i,rest,kk,cs,o,xs,ats,rfl,h2,h3,h4,h5,h6,h7⟩:=cU h;rw[h7];exact stepG_semacquire h2 h3 h4 h5 X.at_ X.name X.body X.next he (by rw[h6];rfl) hc hn hz
theorem DC (X:Ext P f fn)(he:Extern.find fn=some Extern.Sync.semacquire){ad:Addr}{u:Value}(h:aG g=some (f,#[.pointer (some ad),u]))(hc:w.cell? ad=some (.int .u32 0)):
  stepG P main g w= .go {g with status:= .blocked} w #[]:=by
 obtain⟨b,a,ops,i,rest,kk,cs,o,xs,ats,rfl,h2,h3,h4,h5,h6,h7⟩:=cU h;exact stepG_semacquire_wait h2 h3 h5 X.at_ X.name X.body X.next he (by rw[h6];rfl) hc
end
section
variable {Δ:Type}{X:Cx Δ}{ro own:Nat->Prop}{Stop:(Nat->Prop)->Goroutine->World->Prop}{g:Goroutine}{w:World}{deaf:Bool}
theorem kY {s d t:TypeId}{a:Addr}(h:aQ g=some (.conv s d (.pointer (some a))))(h1:PP.underlying s=some (.pointer t))(h2:PP.underlying d=some .unsafePointer)
  (h3:(PP.info? t).map (fun i=>decide (i.size=0))=some false) (hc:∀w₁,RX X ro own w w₁->∃v,w₁.cell? a=some v) (k:aD PP true (eS X deaf ro) Stop own (resume g (.pointer (some a))) w):aD PP true (eS X deaf ro) Stop own g w:=by
 refine aD.step (cV h).1 fun w₁ hr=>?_
 obtain⟨v,hv⟩:=hc w₁ hr;obtain⟨es,e1,e2⟩:=mc (P:=PP) (main:=true) (w:=w₁) (w':=w₁) (x:= .pointer (some a)) h (by simp only[kJ.sem,Sem.run_bind,run_convert_to_unsafe h1 h2 h3 hv];rfl);have e3:es=#[]:=Array.eq_empty_iff_forall_not_mem.2 fun e he=>by
  have:=e2 e he;simp only[kJ.sem,Sem.events_bind,run_convert_to_unsafe h1 h2 h3 hv,events_convert_to_unsafe h1 h2 h3 hv] at this;simp at this
 subst e3;refine⟨_,w₁,#[],e1,(jA deaf ro own w₁).1,?_⟩;have:=(jA (X:=X) deaf ro own w₁).2;rw[this];exact k.rely hr
theorem tU {f:FuncId}{fn:Func}(hX:Ext PP f fn){v:Value}(he:Extern.find fn=some (fun _=>pure v)){args:Array Value}(hc:aG g=some (f,args))(go:aD PP true (eS X deaf ro) Stop own (resume g v) w):aD PP true (eS X deaf ro) Stop own g w:=by
 refine aD.step (aU hc).1 fun w₁ hr=>⟨_,w₁,#[],yP hX v he hc,(jA _ _ own w₁).1,?_⟩
 have:=(jA (X:=X) deaf ro own w₁).2;rw[this];exact go.rely hr
theorem Cv {t:TypeId}{a:Addr}{v:Value}(h:aQ g=some (.load t (.pointer (some a))))(ha:(PP.underlying t).map (fun d=>match d with|.struct _|.array _ _=>true|_=>false)=some false)(hb:own a.block\/ro a.block)(hc:w.cell? a=some v)
  (k:∀w',RX X ro own w w'->aD PP true (eS X false ro) Stop own (resume g v) w'):aD PP true (eS X false ro) Stop own g w:=by
 refine cY h (x:=v) (fun w₁ hr=>?_) k;have hlt:a.block<w.heap.size:=by
  unfold World.cell? at hc;cases hh:w.heap[a.block]? with
  |none=>rw[hh] at hc;simp at hc
  |some o=>exact lt_of_some hh
 have hc1:w₁.cell? a=some v:=by
  unfold World.cell? at hc⊢;rw[hr.keep a.block hlt hb];exact hc
 refine⟨w₁,#[⟨.cell a,false,false⟩],RT.eG (x:=v) ?_ (.pure _),rfl,rfl,rfl,rfl,fun e he=>⟨a.block,by simp at he;subst he;exact iT rfl,hb.imp id fun h=>⟨h,by simp at he;subst he;rfl⟩⟩⟩;show RT (do if<-isAgg t then Pure.pure (.agg (<-loadCells a (<-Go.sizeOf t))) else load a) _ _ _ _;refine(gC (h:=ha)).aP ?_;simp only[Bool.false_eq_true,if_false];exact jZ hc1
end
section
variable {Δ:Type}{X:Cx Δ}{Post:Gh Δ->Goroutine->World->Prop}{γ:Gh Δ}{k:Nat}{T T':Lo}{g:Goroutine}{w:World}
abbrev LS (X:Cx Δ)(Post:Gh Δ->Goroutine->World->Prop)(γ:Gh Δ)(k:Nat)(T:Lo)(g:Goroutine)(w:World):Prop:=aD PP true (eS X (eH T.pc) γ.ro) (dL (yG X PP Post k) T γ) γ.own g w
theorem ll (h:∀k' w₁,k'<k->RR X γ w w₁->X1 X PP (yG X PP Post k') .m T γ g w₁)(hg:¬(T.pc= .g1\/T.pc= .g2):=by simp)(ha:T.pc≠.aq:=by simp):LS X Post γ k T g w:=by
 cases k with
 |zero=>exact aD.stop fun w₁ hr=>⟨γ.mine,fun _=>rfl,trivial⟩
 |succ k=>
  refine aD.stop fun w₁ hr=>⟨γ.mine,fun _=>rfl,?_⟩
  unfold yG;rw[if_neg hg,if_neg ha];exact h k w₁ (by omega) hr
variable (R:Room X γ)
include R
theorem j3 (hg:¬(T.pc= .g1\/T.pc= .g2))(ha:T.pc≠.aq){g':Goroutine}{es:Array Event}(hrun:g.status= .running/\g.offers=none)(hst:∀w,stepG PP true g w= .go g' w es)
  (hmv:∀s,mv T s=[(T',s)]) (hev:EvStop X T T' es) (h1:T.pc≠.la) (h2:T.pc≠.ur) (h3:T'.pc≠.wk) (h4:T'.pc≠.quit) (h5:T.pc≠.us) (h6:T.pc≠.d4)
  (go:∀k' w',k'<k->RR X γ w w'->LS X Post γ k' T' g' w'):LS X Post γ k T g w:=by
 refine ll (hg:=hg) (ha:=ha) fun k' w₁ hk hr=>FW (g':=g') hrun hmv h1 h2 h3 h4 h5 h6 fun s hsh=>?_
 exact⟨_,_,hst w₁,hsh,.refl _,hev,go k' _ hk hr⟩
theorem acY (hc:aG g=some (171,#[pb X.Wg]))(hP:∀w' o,RR X γ w w'->w'.heap[X.M]? =some o->X.Dat (X.fin .a) (X.fin .b) o->Post γ (resume g U) w'):LS X Post γ k (at_ .aq 0) g w:=by
 cases k with
 |zero=>exact aD.stop fun w₁ hr=>⟨γ.mine,fun _=>rfl,trivial⟩
 |succ k=>
  refine aD.stop fun w₁ hr=>⟨γ.mine,fun _=>rfl,?_⟩
  unfold yG;rw[if_neg (by simp),if_pos rfl];exact⟨(aU hc).1,(aU hc).2,fun o ho hD=>⟨_,fv YO .acquire acx hc,hP w₁ o hr ho hD⟩⟩
theorem As {gE gL gM:Goroutine}(live:∃s,ShAt X w s)(hen:aG gE=some (170,#[]))(g1:av PP true (resume gE U) gL){s d t:TypeId}(hv:aQ gL=some (.conv s d (pb X.Wg)))(h1:PP.underlying s=some (.pointer t))
  (h2:PP.underlying d=some .unsafePointer) (h3:(PP.info? t).map (fun i=>decide (i.size=0))=some false) (g2:av PP true (resume gL (pb X.Wg)) gM) (haq:aG gM=some (171,#[pb X.Wg]))
  (hP:∀w' o,RR X γ w w'->w'.heap[X.M]? =some o->X.Dat (X.fin .a) (X.fin .b) o->Post γ (resume gM U) w'):LS X Post γ k (at_ .ke 0) gE w:=by
 refine j3 R (T':=at_ .aq 0) (g':=resume gE U) (by simp) (by simp) (aU hen) (fun w=>jb X9 .enable YD hen) (by simp[mv]) (by simp[EvStop,iX,pK]) (by simp) (by simp) (by simp) (by simp) (by simp) (by simp) fun k' w' hk hr=>?_
 refine aC g1 (kY hv h1 h2 h3 (fun w₁ hr'=>?_) (aC g2 (acY R haq fun w'' o h=>hP w'' o (hr.trans X h))));obtain⟨s,hs⟩:=(hr.trans X hr').live live;exact⟨_,hs.I2⟩
theorem A8 {x:Int}{gD gF gI gJ gK gL gM:Goroutine}(live:∃s,ShAt X w s){s d t:TypeId}(hv:aQ gD=some (.conv s d (pF X.Wg)))(h1:PP.underlying s=some (.pointer t))(h2:PP.underlying d=some .unsafePointer)(h3:(PP.info? t).map (fun i=>decide (i.size=0))=some false)
  (g1:av PP true (resume gD (pF X.Wg)) gF) (hwr:aG gF=some (175,#[pF X.Wg])) (g2:av PP true (resume gF U) gI) (Wb:aG gI=some (177,#[pF X.Wg,.bool false]))
  (g3:av PP true (resume gI U) gJ) (hld:aG gJ=some (203,#[pb X.Wg])) (g4:av PP true (resume gJ (.int .u64 0)) gK)
  (hK:∀k' w',RR X γ w w'->LS X Post γ k' (at_ .ke 0) gK w'):LS X Post γ k (at_ .pw 0) gD w:=by
 refine kY hv h1 h2 h3 (fun w₁ hr'=>?_) (aC g1 ?_)
 .obtain⟨s,hs⟩:=hr'.live live
  exact⟨_,hs.YH⟩
 refine j3 R (T':=at_ .w3 0) (g':=resume gF U) (by simp) (by simp) (aU hwr) (fun w=>fv xWr .write fWr hwr) (by simp[mv]) (by simp[EvStop,iX];rfl) (by simp) (by simp) (by simp) (by simp) (by simp) (by simp) fun k1 w1 hk1 hr1=>?_
 refine aC g2 (ll fun k2 w2 hk2 hr2=>cZ (aU Wb) (by simp) (by simp) (by simp) (by simp) (fun s hsh hf hn=>?_) (fun s hsh hf hne=>?_))
 .have h0:s.ws=0:=by
   by_cases h:s.ws=0
   .exact h
   .simp[mv,h] at hn
  exact DC Q5 R0 Wb (by rw[<-h0];exact hsh.YH)
 have h0:s.ws≠0:=fun h=>hne (by simp[mv,h])
 have hsh':=hsh.setWs R.ne (s.ws-1);have ef:=ConcM.Eff.set (w:=w2) (Mu:=X.Fd) (Wg:=X.Wg) (Jl X) (.int .u32 (s.ws-1)) (.inr rfl);refine⟨(at_ .w4 0,{s with ws:=s.ws-1}),by simp[mv,h0],fun _=>⟨_,_,_,GZ (P:=PP) (main:=true) Q5 R0 Wb hsh.YH h0 (hsh.Nn 1),hsh',ef,AH (aax R.ne) rfl,?_⟩⟩;rw[if_neg (by simp)]
 refine aC g3 (ll (T:=at_ .w4 0) fun k3 w3 hk3 hr3=>cZ (aU hld) (by simp) (by simp) (by simp) (by simp) (fun s _ hf hn=>?_) (fun s hsh hf _=>?_))
 .exfalso
  by_cases h:s.wg=0<;>simp[mv,h] at hn
 by_cases h:¬s.wg=0
 .exact⟨(at_ .bad 0,s),by simp[mv,h],fun q=>absurd rfl q⟩
 have h:s.wg=0:=Decidable.not_not.1 h;have st:=pW (P:=PP) (main:=true) (w:=w3) (ad:=wA X) Sw .u64 Xs hld hsh.I2;rw[h] at st;refine⟨(at_ .ke 0,s),by simp[mv,h],fun _=>⟨_,_,_,st,hsh,.refl _,CW (okW R.ne) rfl,?_⟩⟩;rw[if_neg (by simp)];exact aC g4 (hK k3 w3 (((hr1.trans X hr2).trans X (R.rx ef hsh')).trans X hr3))
end
section
variable {Δ:Type}{X:Cx Δ}{Post:Gh Δ->Goroutine->World->Prop}{γ:Gh Δ}{w:World}{fr:Frame}{cs:List Frame}
theorem GQ (R:Room X γ)(live:∃s,ShAt X w s)(hP:∀w' o g,RR X γ w w'->w'.heap[X.M]? =some o->X.Dat (X.fin .a) (X.fin .b) o->av PP true g (cB fr cs U)->Post γ g w'):
  ∀(k:Nat) (tm:Array Value) (w1:World),RR X γ w w1->HW X.Wg tm->LS X Post γ k (at_ .w1 0) (sH X.Wg tm fr cs) w1:=by
 intro k
 induction k using Nat.strongRecOn with
 |_ k ih=>
 intro tm w1 hr1 hH;rw[hH.eq];generalize hy:(fun i=>tm.getD i undef)=y;refine ll fun k2 w2 hk2 hr2=>cZ (aU (Ri _ _ _ _)) (by simp) (by simp) (by simp) (by simp) (fun s _ hf hn=>?_) (fun s hsh hf _=>?_)
 .exfalso
  rcases hf.2.2.1 with h|h|h|h|h|h<;>simp[mv,h,KKi] at hn
 have st:=pW (P:=PP) (main:=true) (w:=w2) (ad:=wA X) Sw .u64 Xs (Ri X.Wg fr cs y) hsh.I2;have H2:=hr1.trans X hr2;have aaZ:=H2.live live;have miss:∀{k3:Nat} {w3:World} {g:Goroutine},k3<k->RR X γ w w3->(∃tm,HW X.Wg tm/\av PP true g (sH X.Wg tm fr cs))->LS X Post γ k3 (at_ .w1 0) g w3:=fun hk hr ⟨tm,hH,hg⟩=>aC hg (ih _ hk tm _ hr hH)
 rcases hf.2.2.1 with h|h|h|h|h|h
 .rw[h] at st
  refine⟨(at_ .ke 0,s),by simp[mv,h],fun _=>⟨_,_,_,st,hsh,.refl _,CW (okW R.ne) rfl,?_⟩⟩;rw[if_neg (by simp)];exact aC (ZE _ _ _ _) (As R aaZ (ZD _ _ _ _) (Uj _ _ _ _) (Ui _ _ _ _) ZG ZH ZF (Ug _ _ _ _) (Uh _ _ _ _) fun w' o hr ho hD=>hP w' o _ (H2.trans X hr) ho hD (Ow _ _ _ _))
 .exact⟨(at_ .bad 0,s),by simp[mv,h,KKi],fun q=>absurd rfl q⟩
 .rw[h] at st
  refine⟨({pc:= .w2,old:=s.wg},s),by simp[mv,h,KKi],fun _=>⟨_,_,_,st,hsh,.refl _,CW (okW R.ne) rfl,?_⟩⟩;rw[if_neg (by simp)];refine aC (Ut _ _ _ _) (ll (T:={pc:= .w2,old:=s.wg}) fun k3 w3 hk3 hr3=>cZ (aU (z5 _ _ _ _)) (by simp) (by simp) (by simp) (by simp) (fun s' _ hf hn=>?_) (fun s' hsh' hf' _=>?_))
  .exfalso
   by_cases q:s'.wg=s.wg<;>simp[mv,q] at hn
  by_cases q:s'.wg=s.wg
  .have hs2:=hsh'.setWg R.ne 4294967297
   have ef:=ConcM.Eff.set (w:=w3) (Mu:=X.Fd) (Wg:=X.Wg) (wA X) (.int .u64 4294967297) (.inr rfl);refine⟨(at_ .pw 0,{s' with wg:=s'.wg+1}),by simp[mv,q],fun _=>⟨_,_,_,mg (P:=PP) (main:=true) Fm .u64 Gq (z5 _ _ _ _) (by
    have:=hsh'.I2;rw[q,h] at this;exact this) (hsh'.Nn 0),?_,ef,oq (okW R.ne) rfl,?_⟩⟩
   .rw[q,h];exact hs2
   rw[if_neg (by simp)];have H3:=(H2.trans X hr3).trans X (R.rx ef hs2);refine aC (Uo _ _ _ _) (A8 (x:=0) R (H3.live live) (Un _ _ _ _) ZM ZN ZL (Uf _ _ _ _) (Ue _ _ _ _) (TT _ _ _ _) (Ou _ _ _ _) (TR _ _ _ _) (TQ _ _ _ _) (TD _ _ _ _) (gL:=default) (gM:=default) fun k' w' hr=>?_)
   exact As R ((H3.trans X hr).live live) (TB _ _ _ _) (Oq _ _ _ _) (Oo _ _ _ _) TF TG TE (Oj _ _ _ _) (Ol _ _ _ _) fun w'' o hr' ho hD=>hP w'' o _ ((H3.trans X hr).trans X hr') ho hD (J0 _ _ _ _)
  .refine⟨(at_ .w1 0,s'),by simp[mv,q],fun _=>⟨_,_,_,lx (P:=PP) (main:=true) Fm .u64 Gq (z5 _ _ _ _) hsh'.I2 (hsh'.Nn 0) (by rw[h] at q;exact q),hsh',.refl _,CW (okW R.ne) rfl,?_⟩⟩
   rw[if_neg (by simp)];exact miss (by omega) (H2.trans X hr3) (Us _ _ _ _)
 .exact⟨(at_ .bad 0,s),by simp[mv,h,KKi],fun q=>absurd rfl q⟩
 .rw[h] at st
  refine⟨({pc:= .w2,old:=s.wg},s),by simp[mv,h,KKi],fun _=>⟨_,_,_,st,hsh,.refl _,CW (okW R.ne) rfl,?_⟩⟩;rw[if_neg (by simp)];refine aC (Uq _ _ _ _) (ll (T:={pc:= .w2,old:=s.wg}) fun k3 w3 hk3 hr3=>cZ (aU (z4 _ _ _ _)) (by simp) (by simp) (by simp) (by simp) (fun s' _ hf hn=>?_) (fun s' hsh' hf' _=>?_))
  .exfalso
   by_cases q:s'.wg=s.wg<;>simp[mv,q] at hn
  by_cases q:s'.wg=s.wg
  .have hs2:=hsh'.setWg R.ne 8589934593
   have ef:=ConcM.Eff.set (w:=w3) (Mu:=X.Fd) (Wg:=X.Wg) (wA X) (.int .u64 8589934593) (.inr rfl);refine⟨(at_ .pw 0,{s' with wg:=s'.wg+1}),by simp[mv,q],fun _=>⟨_,_,_,mg (P:=PP) (main:=true) Fm .u64 Gq (z4 _ _ _ _) (by
    have:=hsh'.I2;rw[q,h] at this;exact this) (hsh'.Nn 0),?_,ef,oq (okW R.ne) rfl,?_⟩⟩
   .rw[q,h];exact hs2
   rw[if_neg (by simp)];have H3:=(H2.trans X hr3).trans X (R.rx ef hs2);refine aC (Um _ _ _ _) (A8 (x:=0) R (H3.live live) (Ul _ _ _ _) ZJ ZK ZI (Ud _ _ _ _) (Uc _ _ _ _) (TS _ _ _ _) (Ot _ _ _ _) (TP _ _ _ _) (TO _ _ _ _) (Tx _ _ _ _) (gL:=default) (gM:=default) fun k' w' hr=>?_)
   exact As R ((H3.trans X hr).live live) (Tw _ _ _ _) (Oi _ _ _ _) (Oh _ _ _ _) Tz TA Ty (Oe _ _ _ _) (Of _ _ _ _) fun w'' o hr' ho hD=>hP w'' o _ ((H3.trans X hr).trans X hr') ho hD (JZ _ _ _ _)
  .refine⟨(at_ .w1 0,s'),by simp[mv,q],fun _=>⟨_,_,_,lx (P:=PP) (main:=true) Fm .u64 Gq (z4 _ _ _ _) hsh'.I2 (hsh'.Nn 0) (by rw[h] at q;exact q),hsh',.refl _,CW (okW R.ne) rfl,?_⟩⟩
   rw[if_neg (by simp)];exact miss (by omega) (H2.trans X hr3) (Up _ _ _ _)
 .exact⟨(at_ .bad 0,s),by simp[mv,h,KKi],fun q=>absurd rfl q⟩
theorem GR (R:Room X γ)(live:∃s,ShAt X w s)(hP:∀w' o g,RR X γ w w'->w'.heap[X.M]? =some o->X.Dat (X.fin .a) (X.fin .b) o->av PP true g (cB fr cs U)->Post γ g w'){k:Nat}:LS X Post γ k (at_ .kw 0) (sW0 X.Wg fr cs) w:=by
 refine aC (DR _ _ _) (j3 R (T':=at_ .w1 0) (g':=resume (Hj X.Wg fr cs) U) (by simp) (by simp) (aU (Fy _ _ _)) (fun w=>jb GH .disable II (Fy _ _ _)) (by simp[mv]) (by simp[EvStop,iX,pK]) (by simp) (by simp) (by simp) (by simp) (by simp) (by simp) fun k' w' hk hr=>?_);obtain⟨tm,hH,hg⟩:=Tv X.Wg fr cs
 exact aC hg (GQ R live hP k' tm w' hr hH)
end
end aI
end
end
end Go.Proofs.YtchcmhodnkgojaaGreat
