/- On the way to the last text; put together and shortened by program. -/
import Derived.Test.YtchcmhodnkgojaaGreatPart7
import Derived.MapKept
set_option linter.all false
set_option maxRecDepth 100000
set_option maxHeartbeats 8000000
namespace Go.Proofs.YtchcmhodnkgojaaGreat
noncomputable section
section
open Go.Conc
open Go.ConcM (OsLater)
namespace aF
section
variable {Δ:Type}{X:Cx Δ}{r:bh}{k:Nat}{T T':Lo}{γ:Gh Δ}{g g':Goroutine}{w w':World}
theorem RX.dx {deaf:Bool}{ro own:Nat->Prop}{w w':World}(e:ConcM.Eff X.Fd X.Wg w w')(ht:∀b:Nat,w'.heap[b]? =w.heap[b]?):DX X deaf ro own w w' #[]:=
 ⟨e.tape,e.output,Nat.le_of_eq e.size.symm,e.os,λb _ _=>ht b,by simp,λ_=>rfl⟩
variable (hm:vn r=false)(R:Room X γ)
include hm R
theorem rU {f:FuncId}{fn:Func}(hX:Ext PP f fn){v:Value}(he:Extern.find fn=some (λ_=>pure v)){args:Array Value}(hc:aG g=some (f,args))(go:LW X r γ k T (resume g v) w):LW X r γ k T g w:=by
 refine aD.step (aV hc).1 λw₁ hr=>⟨_,w₁,#[],zy hX v he hc,(jO _ _ γ.own w₁).1,?_⟩
 have:=(jO (X:=X) (eI T.pc) γ.ro γ.own w₁).2;rw[this];exact go.rely hr
theorem pB {args:Array Value}(hc:aG g=some (224,args))(go:∀m w',RR X γ w w'->LW X r γ k T (resume g (.int .i64 ((m:Nat):Int))) w')(live:∃s,ShAt X w s):LW X r γ k T g w:=by
 refine aD.step (aV hc).1 λw₁ hr=>?_
 have ef:=ConcM.Eff.later (Mu:=X.Fd) (Wg:=X.Wg) w₁;obtain⟨s,hs⟩:=hr.live live;have hs':ShAt X w₁.later s:=⟨hs.1,hs.2⟩
 refine⟨_,w₁.later,#[],zz (P:=PP) (main:=false) (w:=w₁) SC Tw SU hc,RX.dx ef λ_=>rfl,?_⟩;have e:(eY X (eI T.pc) γ.ro).up γ.own w₁ w₁.later=γ.own:=by
  funext b
  exact propext ⟨λh=>h.elim id λz=>by have:w₁.later.heap.size=w₁.heap.size:=rfl;omega,.inl⟩
 rw[e];exact go _ _ (hr.trans X (R.rx ef hs'))
theorem uX (hpc:T.pc= .c2){old nw:Int}(ho:T.old=old)(hn:T.nw=nw)(hc:aG g=some (217,#[pt X.Fd,.int .i32 old,.int .i32 nw]))
  (hit:(old=0\/old=2)->∀k' w',k'<k->RR X γ w w'->LW X r γ k' (at_ .le T.n) (resume g (.bool true)) w')
  (slp:¬(old=0\/old=2)->∀k' w',k'<k->RR X γ w w'->LW X r γ k' {pc:= .s1,sv:=T.sv,n:=T.n} (resume g (.bool true)) w')
  (miss:∀k' w',k'<k->RR X γ w w'->LW X r γ k' {T with pc:= .r3,old:=0,nw:=0} (resume g (.bool false)) w'):LW X r γ k T g w:=by
 by_cases h02:old=0\/old=2
 .refine Bk hm R (T1:=at_ .le T.n) (T2:={T with pc:= .r3,old:=0,nw:=0}) (.inl hpc) hc (λs e=>?_) (λs _ e=>?_) (by unfold jf;rw[hpc]) (by simp) (by unfold jf;rw[hpc]) (by simp) (hit h02) (λ_=>miss)
  .unfold mv
   rw[hpc];simp[ho,hn,e,h02]
  .refine⟨({T with pc:= .r3,old:=0,nw:=0},s),?_,.inr rfl⟩
   unfold mv;rw[hpc];simp[ho,e]
 .refine Bk hm R (T1:={pc:= .s1,sv:=T.sv,n:=T.n}) (T2:={T with pc:= .r3,old:=0,nw:=0}) (.inl hpc) hc (λs e=>?_) (λs _ e=>?_) (by unfold jf;rw[hpc]) (by simp) (by unfold jf;rw[hpc]) (by simp) (slp h02) (λ_=>miss)
  .unfold mv
   rw[hpc];simp[ho,hn,e,h02]
  .refine⟨({T with pc:= .r3,old:=0,nw:=0},s),?_,.inr rfl⟩
   unfold mv;rw[hpc];simp[ho,e]
end
section
variable {Δ:Type}{X:Cx Δ}{r:bh}{γ:Gh Δ}{g:Goroutine}{w0 w:World}{n:Nat}{fr:Frame}{cs:List Frame}
def jB (X:Cx Δ)(r:bh)(γ:Gh Δ)(n:Nat)(fr:Frame)(cs:List Frame)(w0:World)(k:Nat):Prop:=
 ∀(aJ:Nat) (tm:Array Value) (w:World) (T:Lo),RR X γ w0 w->T.n=n->HH X.Fd aJ T.sv T.aw T.it T.old tm->(hd T).pc≠.bad->LW X r γ k (hd T) (gH X.Fd fr cs tm) w
variable (hm:vn r=false)(R:Room X γ)(live:∃s,ShAt X w0 s)(tk:Taken X r γ n fr cs w0)
include hm R
theorem ii {k:Nat}{T:Lo}(ih:∀k',k'<k->jB X r γ n fr cs w0 k')(h0:RR X γ w0 w)(hpc:T.pc= .r0\/T.pc= .r1\/T.pc= .r3)(hn:T.n=n)(h00:T.pc= .r0->T.aw=false/\T.sv=false/\T.it=0){aJ:Nat}{it':Int}
  (hit:it'=if T.pc= .r1 then IntKind.i64.wrap (T.it+1) else T.it) (hv:aS g=some (.load 21 (pt X.Fd))) (hq:(PP.funcs[g.frame.fn]?).any (·.norace)=true)
  (go:∀v,∃tm,HH X.Fd aJ T.sv T.aw it' v tm/\av PP false (resume g (.int .i32 v)) (gH X.Fd fr cs tm)):LW X r γ k T g w:=by
 refine Bj hm R (by rcases hpc with h|h|h<;>simp[h]) hv hq λs hf=>?_
 obtain⟨tm,hH,hg⟩:=go s.mu;have hne:∀T1:Lo,(hd T1).pc≠.quit:=λT1=>by rcases Dm T1 with h|h|h<;>rw[h]<;>simp
 rcases hpc with h|h|h
 .obtain⟨a1,a2,a3⟩:=h00 h
  refine⟨(hd {pc:= .r0,old:=s.mu,n:=T.n},s),by unfold mv;rw[h];simp,?_⟩
  by_cases hb:(hd {pc:= .r0,old:=s.mu,n:=T.n}).pc= .bad
  .exact .inl hb
  .refine .inr ⟨rfl,by unfold jf;rw[h],hne _,λk' w' hk hr=>aC hg (ih k' hk aJ tm w' {pc:= .r0,old:=s.mu,n:=T.n} (h0.trans X hr) hn ?_ hb)⟩
   rw[if_neg (by rw[h];simp)] at hit;rw[hit,a1,a2,a3] at hH;exact hH
 .refine⟨(hd {T with old:=s.mu,it:=IntKind.i64.wrap (T.it+1)},s),by unfold mv;rw[h];simp,?_⟩
  by_cases hb:(hd {T with old:=s.mu,it:=IntKind.i64.wrap (T.it+1)}).pc= .bad
  .exact .inl hb
  .refine .inr ⟨rfl,by unfold jf;rw[h],hne _,λk' w' hk hr=>aC hg (ih k' hk aJ tm w' {T with old:=s.mu,it:=IntKind.i64.wrap (T.it+1)} (h0.trans X hr) hn ?_ hb)⟩
   rw[if_pos h] at hit;rw[hit] at hH;exact hH
 .refine⟨(hd {T with old:=s.mu},s),by unfold mv;rw[h];simp,?_⟩
  by_cases hb:(hd {T with old:=s.mu}).pc= .bad
  .exact .inl hb
  .refine .inr ⟨rfl,by unfold jf;rw[h],hne _,λk' w' hk hr=>aC hg (ih k' hk aJ tm w' {T with old:=s.mu} (h0.trans X hr) hn ?_ hb)⟩
   rw[if_neg (by rw[h];simp)] at hit;rw[hit] at hH;exact hH
include live tk
theorem DZ {k:Nat}{tm:Array Value}(h0:RR X γ w0 w)(h:HR X.Fd tm):LW X r γ k (at_ .le n) (gR X.Fd fr cs tm) w:=by
 rw[h.eq];exact aC (abb _ _ _ _) (DY hm R (aba _ _ _ _) (aa9 _ _ _ _) (aa8 _ _ _ _) agu agv agt (aa7 _ _ _ _) (VY _ _ _ _) (abc _ _ _ _) (h0.live live) λk w1 d o hr=>tk k w1 d o (h0.trans X hr))
theorem TK {k:Nat}{T:Lo}(ih:∀k',k'<k->jB X r γ n fr cs w0 k'){tm:Array Value}{aJ:Nat}(h0:RR X γ w0 w)(h:HQ X.Fd aJ T.sv tm)(hpc:T.pc= .r2)(hn:T.n=n)(hT:T.old=0/\T.nw=0/\T.aw=false/\T.it=0):
  LW X r γ k T (gN X.Fd fr cs tm) w:=by
 rw[h.eq];have hne:∀T1:Lo,(hd T1).pc≠.quit:=λT1=>by rcases Dm T1 with h|h|h<;>rw[h]<;>simp
 have add:∀{k1:Nat} {w1:World} {d:Int} {gg:Goroutine} {T1:Lo},RR X γ w0 w1->T1.n=n->T1.pc= .a1->T1.nw=d->(d=-11\/d=-7)->aG gg=some (219,#[pt X.Fd,.int .i32 d])->
   (∀v,∃tm,HR X.Fd tm/\av PP false (resume gg (.int .i32 v)) (gR X.Fd fr cs tm))->LW X r γ k1 T1 gg w1:=by
  intro k1 w1 d gg T1 h1 hn1 hp1 hd1 hdd hc hgo;refine Oo hm R (.inl hp1) hc λs hf=>?_
  by_cases hcase:(s.mu=12/\T1.nw=-11)\/(s.mu=20/\(T1.nw=-7\/T1.nw=-11))
  .refine⟨(at_ .le T1.n,{s with mu:=s.mu+T1.nw}),by unfold mv;rw[hp1];simp[hcase],.inr ⟨?_,by unfold jf;rw[hp1],by simp,λk' w' hk hr=>?_⟩⟩
   .have:IntKind.i32.wrap (s.mu+d)=s.mu+T1.nw:=by
     rw[hd1];rw[hd1] at hcase;rcases hcase with⟨a,b⟩|⟨a,b|b⟩<;>rw[a,b]<;>decide
    rw[this]
   .obtain⟨tm,hR,hg⟩:=hgo (IntKind.i32.wrap (s.mu+d))
    have:(at_ .le T1.n)=at_ .le n:=by rw[hn1]
    dsimp only;rw[this];exact aC hg (DZ hm R live tk (h1.trans X hr) hR)
  .exact⟨(at_ .bad T1.n,s),by unfold mv;rw[hp1];simp[hcase],.inl rfl⟩
 obtain⟨pc,old,nw,aw,sv,it,n'⟩:=T;simp only at hpc hn hT;obtain⟨rfl,rfl,rfl,rfl⟩:=hT;subst hpc;subst hn;cases sv with
 |false=>
  refine aC (ah1 _ _ _ _ _) (Bj hm R (by simp) (ah0 _ _ _ _ _) (ady _ _ _ _ _) λs hf=>?_)
  by_cases h23:s.mu=2\/s.mu=3
  .refine⟨(hd {pc:= .r2,old:=s.mu,aw:=true,it:=0,n:=n'},s),by simp[mv,h23],.inr ⟨rfl,rfl,hne _,λk' w' hk hr=>?_⟩⟩
   rcases h23 with e|e
   .rw[e]
    obtain⟨tm,hH,hg⟩:=f_2 X.Fd fr cs aJ λi=>tm.getD i undef
    exact aC hg (ih k' hk aJ tm w' {pc:= .r2,old:=2,aw:=true,it:=0,n:=n'} (h0.trans X hr) rfl hH (by simp[hd]))
   .rw[e]
    obtain⟨tm,hH,hg⟩:=f_3 X.Fd fr cs aJ λi=>tm.getD i undef
    exact aC hg (ih k' hk aJ tm w' {pc:= .r2,old:=3,aw:=true,it:=0,n:=n'} (h0.trans X hr) rfl hH (by simp[hd]))
  .by_cases h12:s.mu=12
   .refine⟨({pc:= .a1,nw:=-11,n:=n'},s),by simp[mv,h12],.inr ⟨rfl,rfl,by simp,λk' w' hk hr=>?_⟩⟩
    rw[h12];exact aC (ah3 _ _ _ _ _) (add (h0.trans X hr) rfl rfl rfl (.inl rfl) (QU _ _ _ _ _) λv=>Xi _ _ _ _ _ _)
   .by_cases h20:s.mu=20
    .refine⟨({pc:= .a1,nw:=-11,n:=n'},s),by simp[mv,h20],.inr ⟨rfl,rfl,by simp,λk' w' hk hr=>?_⟩⟩
     rw[h20];exact aC (ah2 _ _ _ _ _) (add (h0.trans X hr) rfl rfl rfl (.inl rfl) (QT _ _ _ _ _) λv=>Xh _ _ _ _ _ _)
    .exact⟨(at_ .bad n',s),by simp[mv,h23,h12,h20],.inl rfl⟩
 |true=>
  refine aC (adq _ _ _ _ _) (Bj hm R (by simp) (adp _ _ _ _ _) (Yt _ _ _ _ _) λs hf=>?_)
  by_cases h23:s.mu=2\/s.mu=3
  .refine⟨(hd {pc:= .r2,old:=s.mu,aw:=true,sv:=true,it:=0,n:=n'},s),by simp[mv,h23],.inr ⟨rfl,rfl,hne _,λk' w' hk hr=>?_⟩⟩
   rcases h23 with e|e
   .rw[e]
    obtain⟨tm,hH,hg⟩:=ahT X.Fd fr cs aJ λi=>tm.getD i undef
    exact aC hg (ih k' hk aJ tm w' {pc:= .r2,old:=2,aw:=true,sv:=true,it:=0,n:=n'} (h0.trans X hr) rfl hH (by simp[hd]))
   .rw[e]
    obtain⟨tm,hH,hg⟩:=ahS X.Fd fr cs aJ λi=>tm.getD i undef
    exact aC hg (ih k' hk aJ tm w' {pc:= .r2,old:=3,aw:=true,sv:=true,it:=0,n:=n'} (h0.trans X hr) rfl hH (by simp[hd]))
  .by_cases h12:s.mu=12
   .refine⟨({pc:= .a1,nw:=-11,n:=n'},s),by simp[mv,h12],.inr ⟨rfl,rfl,by simp,λk' w' hk hr=>?_⟩⟩
    rw[h12];exact aC (ads _ _ _ _ _) (add (h0.trans X hr) rfl rfl rfl (.inl rfl) (Mz _ _ _ _ _) λv=>QS _ _ _ _ _ _)
   .by_cases h20:s.mu=20
    .refine⟨({pc:= .a1,nw:=-7,n:=n'},s),by simp[mv,h20],.inr ⟨rfl,rfl,by simp,λk' w' hk hr=>?_⟩⟩
     rw[h20];exact aC (adr _ _ _ _ _) (add (h0.trans X hr) rfl rfl rfl (.inr rfl) (Mx _ _ _ _ _) λv=>QR _ _ _ _ _ _)
    .exact⟨(at_ .bad n',s),by simp[mv,h23,h12,h20],.inl rfl⟩
theorem ad9 {k:Nat}{T:Lo}(ih:∀k',k'<k->jB X r γ n fr cs w0 k'){tm:Array Value}{aJ:Nat}(h0:RR X γ w0 w)(h:HQ X.Fd aJ T.sv tm)(hn:T.n=n)(hT:T.pc=(if T.sv then .r2 else .t2)/\T.old=0/\T.nw=0/\T.aw=false/\T.it=0):
  LW X r γ k T (gQ X.Fd fr cs tm) w:=by
 rw[h.eq];obtain⟨pc,old,nw,aw,sv,it,n'⟩:=T;simp only at hT hn;obtain⟨hpc,rfl,rfl,rfl,rfl⟩:=hT;subst hn;cases sv with
 |true=>
  obtain rfl:pc= .r2:=by simpa using hpc
  obtain⟨tm',hQ,hg⟩:=abe X.Fd fr cs aJ λi=>tm.getD i undef
  exact aC hg (TK hm R live tk ih h0 hQ rfl rfl ⟨rfl,rfl,rfl,rfl⟩)
 |false=>
  obtain rfl:pc= .t2:=by simpa using hpc
  refine aC (abg _ _ _ _ _) (Om hm R rfl (P5 _ _ _ _ _) (late X.Fd fr cs aJ λi=>tm.getD i undef) λk' w' m hk hr=>?_);obtain⟨tm',hQ,hg⟩:=abf X.Fd fr cs aJ (λi=>tm.getD i undef) m
  refine aC hg (TK hm R live tk (λk1 h1=>ih k1 (by omega)) (aJ:=aJ) (h0.trans X hr) (T:={pc:= .r2,sv:=if late X.Fd fr cs aJ (λi=>tm.getD i undef) m then true else false,n:=n'}) ?_ rfl rfl ⟨rfl,rfl,rfl,rfl⟩);have e:(if late X.Fd fr cs aJ (λi=>tm.getD i undef) m=true then true else false)=late X.Fd fr cs aJ (λi=>tm.getD i undef) m:=by
   cases late X.Fd fr cs aJ (λi=>tm.getD i undef) m<;>rfl
  simp only[e];exact hQ
theorem uW {k:Nat}{sv:Bool}(ih:∀k',k'<k->jB X r γ n fr cs w0 k'){aJ:Nat}{u v:Value}(h0:RR X γ w0 w)(hc:aG g=some (225,#[p8 X.Fd,u,v]))
  (go:∃tm,HQ X.Fd aJ sv tm/\av PP false (resume g U) (gQ X.Fd fr cs tm)):LW X r γ k {pc:= .s1,sv:=sv,n:=n} g w:=by
 refine Y8 hm R rfl hc rfl λk' w' hk hr=>?_
 obtain⟨tm,hQ,hg⟩:=go;exact aC hg (ad9 hm R live tk (λk1 h1=>ih k1 (by omega)) (h0.trans X hr) hQ rfl ⟨rfl,rfl,rfl,rfl,rfl⟩)
theorem Xx {k:Nat}{tm:Array Value}{aJ:Nat}{it:Int}(ih:∀k',k'<k->jB X r γ n fr cs w0 k')(h0:RR X γ w0 w)(h:HH X.Fd aJ false false it 0 tm):LW X r γ k {pc:= .c2,old:=0,nw:=1,aw:=false,sv:=false,it:=it,n:=n} (gH X.Fd fr cs tm) w:=by
 rw[h.eq];refine aC (ac6 _ _ _ _ _ _) ?_;refine uX hm R rfl rfl rfl (Y4 _ _ _ _ _ _) (λ_ k2 w2 hk hr=>?_) (λh=>absurd (by simp) h) (λk2 w2 hk hr=>?_)
 .obtain⟨tm',hR,hg⟩:=Y3 X.Fd fr cs aJ it (λi=>tm.getD i undef)
  exact aC hg (DZ hm R live tk (h0.trans X hr) hR)
 .exact aC (Sf _ _ _ _ _ _) (ii hm R (λk1 h1=>ih k1 (by omega)) (h0.trans X hr) (.inr (.inr rfl)) rfl (by simp) (it':=it) (by simp) (ab0 _ _ _ _ _ _) (WE _ _ _ _ _ _) λv=>ab1 _ _ _ _ _ v _)
theorem Xw {k:Nat}{tm:Array Value}{aJ:Nat}{it:Int}(ih:∀k',k'<k->jB X r γ n fr cs w0 k')(h0:RR X γ w0 w)(h:HH X.Fd aJ false false it 1 tm):LW X r γ k {pc:= .sq,old:=1,nw:=0,aw:=false,sv:=false,it:=it,n:=n} (gH X.Fd fr cs tm) w:=by
 rw[h.eq];refine aC (ac5 _ _ _ _ _ _) (Bi hm R rfl rfl (ad6 _ _ _ _ _ _) (λk1 w1 hk1 hr1=>?_) rfl (λk1 w1 hk1 hr1=>?_))
 .have e:cl {pc:= .sq,old:=1,nw:=0,aw:=false,sv:=false,it:=it,n:=n}={pc:= .c2,old:=1,nw:=9,aw:=false,sv:=false,it:=it,n:=n}:=rfl
  rw[e];have h0:=h0.trans X hr1;refine aC (ad7 _ _ _ _ _ _) ?_;refine uX hm R rfl rfl rfl (Y2 _ _ _ _ _ _) (λh=>absurd h (by simp)) (λ_ k2 w2 hk hr=>?_) (λk2 w2 hk hr=>?_)
  .have h0:=h0.trans X hr
   cases aJ with
   |zero=>exact aC (Sd _ _ _ _ _) (pB hm R (Qw _ _ _ _ _) (λm w3 hr3=>aC (abU X.Fd fr cs m it (λi=>tm.getD i undef)) (uW hm R live tk (λk1 h1=>ih k1 (by omega)) (h0.trans X hr3) (Wb _ _ _ _ _ _) (abo _ _ _ _ _ _))) (h0.live live))
   |succ aJ=>exact aC (Sc _ _ _ _ _ _) (uW hm R live tk (λk1 h1=>ih k1 (by omega)) h0 (V5 _ _ _ _ _ _) (abk _ _ _ _ _ _))
  .exact aC (Sb _ _ _ _ _ _) (ii hm R (λk1 h1=>ih k1 (by omega)) (h0.trans X hr) (.inr (.inr rfl)) rfl (by simp) (it':=it) (by simp) (abY _ _ _ _ _ _) (WB _ _ _ _ _ _) λv=>abZ _ _ _ _ _ v _)
 .exact aC (Y7 _ _ _ _ _ _) (rU hm R xDo fDo (adT _ _ _ _ _ _) (aC (adS _ _ _ _ _ _) (ii hm R (λk2 h2=>ih k2 (by omega)) (h0.trans X hr1) (.inr (.inl rfl)) rfl (by simp) (it':=IntKind.i64.wrap (it+1)) (by simp) (adQ _ _ _ _ _ _) (YN _ _ _ _ _ _) λv=>adR _ _ _ _ _ v _)))
theorem Q6 {k:Nat}{tm:Array Value}{aJ:Nat}{it:Int}(ih:∀k',k'<k->jB X r γ n fr cs w0 k')(h0:RR X γ w0 w)(h:HH X.Fd aJ false true it 2 tm):LW X r γ k {pc:= .c2,old:=2,nw:=1,aw:=true,sv:=false,it:=it,n:=n} (gH X.Fd fr cs tm) w:=by
 rw[h.eq];refine aC (XI _ _ _ _ _ _) ?_;refine uX hm R rfl rfl rfl (R9 _ _ _ _ _ _) (λ_ k2 w2 hk hr=>?_) (λh=>absurd (by simp) h) (λk2 w2 hk hr=>?_)
 .obtain⟨tm',hR,hg⟩:=R8 X.Fd fr cs aJ it (λi=>tm.getD i undef)
  exact aC hg (DZ hm R live tk (h0.trans X hr) hR)
 .exact aC (Oc _ _ _ _ _ _) (ii hm R (λk1 h1=>ih k1 (by omega)) (h0.trans X hr) (.inr (.inr rfl)) rfl (by simp) (it':=it) (by simp) (Wy _ _ _ _ _ _) (QF _ _ _ _ _ _) λv=>Wz _ _ _ _ _ v _)
theorem MO {k:Nat}{tm:Array Value}{aJ:Nat}{it:Int}(ih:∀k',k'<k->jB X r γ n fr cs w0 k')(h0:RR X γ w0 w)(h:HH X.Fd aJ true true it 2 tm):LW X r γ k {pc:= .c2,old:=2,nw:=1,aw:=true,sv:=true,it:=it,n:=n} (gH X.Fd fr cs tm) w:=by
 rw[h.eq];refine aC (Rf _ _ _ _ _ _) ?_;refine uX hm R rfl rfl rfl (Ob _ _ _ _ _ _) (λ_ k2 w2 hk hr=>?_) (λh=>absurd (by simp) h) (λk2 w2 hk hr=>?_)
 .obtain⟨tm',hR,hg⟩:=Oa X.Fd fr cs aJ it (λi=>tm.getD i undef)
  exact aC hg (DZ hm R live tk (h0.trans X hr) hR)
 .exact aC (Ki _ _ _ _ _ _) (ii hm R (λk1 h1=>ih k1 (by omega)) (h0.trans X hr) (.inr (.inr rfl)) rfl (by simp) (it':=it) (by simp) (QD _ _ _ _ _ _) (Mo _ _ _ _ _ _) λv=>QE _ _ _ _ _ v _)
theorem Xv {k:Nat}{tm:Array Value}{aJ:Nat}{it:Int}(ih:∀k',k'<k->jB X r γ n fr cs w0 k')(h0:RR X γ w0 w)(h:HH X.Fd aJ false false it 2 tm):LW X r γ k {pc:= .c2,old:=2,nw:=3,aw:=false,sv:=false,it:=it,n:=n} (gH X.Fd fr cs tm) w:=by
 rw[h.eq];refine aC (ac4 _ _ _ _ _ _) ?_;refine uX hm R rfl rfl rfl (Y1 _ _ _ _ _ _) (λ_ k2 w2 hk hr=>?_) (λh=>absurd (by simp) h) (λk2 w2 hk hr=>?_)
 .obtain⟨tm',hR,hg⟩:=Y0 X.Fd fr cs aJ it (λi=>tm.getD i undef)
  exact aC hg (DZ hm R live tk (h0.trans X hr) hR)
 .exact aC (Sa _ _ _ _ _ _) (ii hm R (λk1 h1=>ih k1 (by omega)) (h0.trans X hr) (.inr (.inr rfl)) rfl (by simp) (it':=it) (by simp) (abW _ _ _ _ _ _) (WA _ _ _ _ _ _) λv=>abX _ _ _ _ _ v _)
theorem Q5 {k:Nat}{tm:Array Value}{aJ:Nat}{it:Int}(ih:∀k',k'<k->jB X r γ n fr cs w0 k')(h0:RR X γ w0 w)(h:HH X.Fd aJ false true it 3 tm):LW X r γ k {pc:= .sq,old:=3,nw:=0,aw:=true,sv:=false,it:=it,n:=n} (gH X.Fd fr cs tm) w:=by
 rw[h.eq];refine aC (XH _ _ _ _ _ _) (Bi hm R rfl rfl (Y5 _ _ _ _ _ _) (λk1 w1 hk1 hr1=>?_) rfl (λk1 w1 hk1 hr1=>?_))
 .have e:cl {pc:= .sq,old:=3,nw:=0,aw:=true,sv:=false,it:=it,n:=n}={pc:= .c2,old:=3,nw:=9,aw:=true,sv:=false,it:=it,n:=n}:=rfl
  rw[e];have h0:=h0.trans X hr1;refine aC (Y6 _ _ _ _ _ _) ?_;refine uX hm R rfl rfl rfl (R7 _ _ _ _ _ _) (λh=>absurd h (by simp)) (λ_ k2 w2 hk hr=>?_) (λk2 w2 hk hr=>?_)
  .have h0:=h0.trans X hr
   cases aJ with
   |zero=>exact aC (N9 _ _ _ _ _) (pB hm R (Mh _ _ _ _ _) (λm w3 hr3=>aC (Wr X.Fd fr cs m it (λi=>tm.getD i undef)) (uW hm R live tk (λk1 h1=>ih k1 (by omega)) (h0.trans X hr3) (Qe _ _ _ _ _ _) (Wa _ _ _ _ _ _))) (h0.live live))
   |succ aJ=>exact aC (N8 _ _ _ _ _ _) (uW hm R live tk (λk1 h1=>ih k1 (by omega)) h0 (P8 _ _ _ _ _ _) (V4 _ _ _ _ _ _))
  .exact aC (N7 _ _ _ _ _ _) (ii hm R (λk1 h1=>ih k1 (by omega)) (h0.trans X hr) (.inr (.inr rfl)) rfl (by simp) (it':=it) (by simp) (Ww _ _ _ _ _ _) (QC _ _ _ _ _ _) λv=>Wx _ _ _ _ _ v _)
 .exact aC (Sj _ _ _ _ _ _) (rU hm R xDo fDo (YQ _ _ _ _ _ _) (aC (YP _ _ _ _ _ _) (ii hm R (λk2 h2=>ih k2 (by omega)) (h0.trans X hr1) (.inr (.inl rfl)) rfl (by simp) (it':=IntKind.i64.wrap (it+1)) (by simp) (YL _ _ _ _ _ _) (RK _ _ _ _ _ _) λv=>YM _ _ _ _ _ v _)))
theorem MN {k:Nat}{tm:Array Value}{aJ:Nat}{it:Int}(ih:∀k',k'<k->jB X r γ n fr cs w0 k')(h0:RR X γ w0 w)(h:HH X.Fd aJ true true it 3 tm):LW X r γ k {pc:= .sq,old:=3,nw:=0,aw:=true,sv:=true,it:=it,n:=n} (gH X.Fd fr cs tm) w:=by
 rw[h.eq];refine aC (Re _ _ _ _ _ _) (Bi hm R rfl rfl (Sg _ _ _ _ _ _) (λk1 w1 hk1 hr1=>?_) rfl (λk1 w1 hk1 hr1=>?_))
 .have e:cl {pc:= .sq,old:=3,nw:=0,aw:=true,sv:=true,it:=it,n:=n}={pc:= .c2,old:=3,nw:=13,aw:=true,sv:=true,it:=it,n:=n}:=rfl
  rw[e];have h0:=h0.trans X hr1;refine aC (Si _ _ _ _ _ _) ?_;refine uX hm R rfl rfl rfl (N6 _ _ _ _ _ _) (λh=>absurd h (by simp)) (λ_ k2 w2 hk hr=>?_) (λk2 w2 hk hr=>?_)
  .have h0:=h0.trans X hr
   cases aJ with
   |zero=>exact aC (Kh _ _ _ _ _) (pB hm R (Jb _ _ _ _ _) (λm w3 hr3=>aC (Qu X.Fd fr cs m it (λi=>tm.getD i undef)) (uW hm R live tk (λk1 h1=>ih k1 (by omega)) (h0.trans X hr3) (LX _ _ _ _ _ _) (Qd _ _ _ _ _ _))) (h0.live live))
   |succ aJ=>exact aC (Kg _ _ _ _ _ _) (uW hm R live tk (λk1 h1=>ih k1 (by omega)) h0 (LL _ _ _ _ _ _) (P6 _ _ _ _ _ _))
  .exact aC (Kf _ _ _ _ _ _) (ii hm R (λk1 h1=>ih k1 (by omega)) (h0.trans X hr) (.inr (.inr rfl)) rfl (by simp) (it':=it) (by simp) (QA _ _ _ _ _ _) (Mn _ _ _ _ _ _) λv=>QB _ _ _ _ _ v _)
 .exact aC (Oi _ _ _ _ _ _) (rU hm R xDo fDo (RS _ _ _ _ _ _) (aC (RQ _ _ _ _ _ _) (ii hm R (λk2 h2=>ih k2 (by omega)) (h0.trans X hr1) (.inr (.inl rfl)) rfl (by simp) (it':=IntKind.i64.wrap (it+1)) (by simp) (RI _ _ _ _ _ _) (NP _ _ _ _ _ _) λv=>RJ _ _ _ _ _ v _)))
theorem Q7 {k:Nat}{tm:Array Value}{aJ:Nat}{it:Int}(ih:∀k',k'<k->jB X r γ n fr cs w0 k')(h0:RR X γ w0 w)(h:HH X.Fd aJ false false it 12 tm):LW X r γ k {pc:= .c2,old:=12,nw:=20,aw:=false,sv:=false,it:=it,n:=n} (gH X.Fd fr cs tm) w:=by
 rw[h.eq];refine aC (XJ _ _ _ _ _ _) ?_;refine uX hm R rfl rfl rfl (Se _ _ _ _ _ _) (λh=>absurd h (by simp)) (λ_ k2 w2 hk hr=>?_) (λk2 w2 hk hr=>?_)
 .have h0:=h0.trans X hr
  cases aJ with
  |zero=>exact aC (Of _ _ _ _ _) (pB hm R (Mi _ _ _ _ _) (λm w3 hr3=>aC (Ws X.Fd fr cs m it (λi=>tm.getD i undef)) (uW hm R live tk (λk1 h1=>ih k1 (by omega)) (h0.trans X hr3) (Qf _ _ _ _ _ _) (Wc _ _ _ _ _ _))) (h0.live live))
  |succ aJ=>exact aC (Oe _ _ _ _ _ _) (uW hm R live tk (λk1 h1=>ih k1 (by omega)) h0 (P9 _ _ _ _ _ _) (V6 _ _ _ _ _ _))
 .exact aC (Od _ _ _ _ _ _) (ii hm R (λk1 h1=>ih k1 (by omega)) (h0.trans X hr) (.inr (.inr rfl)) rfl (by simp) (it':=it) (by simp) (WC _ _ _ _ _ _) (QG _ _ _ _ _ _) λv=>WD _ _ _ _ _ v _)
theorem heads:∀k,jB X r γ n fr cs w0 k:=by
 intro k
 induction k using Nat.strongRecOn with
 |_ k ih=>
 intro aJ tm w T h0 hn hH hb;obtain⟨pc,old,nw,aw,sv,it,n'⟩:=T;simp only at hn hH;subst hn
 by_cases c0:old=0/\aw=false/\sv=false
 .obtain⟨rfl,rfl,rfl⟩:=c0
  exact Xx hm R live tk ih h0 hH
 by_cases c1:old=1/\aw=false/\sv=false
 .obtain⟨rfl,rfl,rfl⟩:=c1
  exact Xw hm R live tk ih h0 hH
 by_cases TG:old=2/\aw=true/\sv=false
 .obtain⟨rfl,rfl,rfl⟩:=TG
  exact Q6 hm R live tk ih h0 hH
 by_cases DR:old=2/\aw=true/\sv=true
 .obtain⟨rfl,rfl,rfl⟩:=DR
  exact MO hm R live tk ih h0 hH
 by_cases c2:old=2/\aw=false/\sv=false
 .obtain⟨rfl,rfl,rfl⟩:=c2
  exact Xv hm R live tk ih h0 hH
 by_cases OV:old=3/\aw=true/\sv=false
 .obtain⟨rfl,rfl,rfl⟩:=OV
  exact Q5 hm R live tk ih h0 hH
 by_cases zh:old=3/\aw=true/\sv=true
 .obtain⟨rfl,rfl,rfl⟩:=zh
  exact MN hm R live tk ih h0 hH
 by_cases c12:old=12/\aw=false/\sv=false
 .obtain⟨rfl,rfl,rfl⟩:=c12
  exact Q7 hm R live tk ih h0 hH
 exfalso
 apply hb
 have nt:∀b:Bool,b=true\/b=false:=λb=>by cases b<;>simp
 rcases nt aw with rfl|rfl<;>rcases nt sv with rfl|rfl<;>simp_all [hd]
theorem Ji {k:Nat}(h0:RR X γ w0 w):LW X r γ k (at_ .r0 n) (Rj X.Fd fr cs) w:=
 ii hm R (λk' _=>heads hm R live tk k') h0 (.inl rfl) rfl (by simp) (it':=0) (by simp) (lS0 _ _ _) (agS _ _ _) λv=>abd _ _ _ v
theorem fast {k:Nat}(h0:RR X γ w0 w):LW X r γ k (at_ .l0 n) (resume (Ys X.Fd fr cs) U) w:=by
 refine aC ⟨200,_,agU _ _ _⟩ ?_;refine Bk hm R (T1:=at_ .le n) (T2:=at_ .r0 n) (.inr (.inl rfl)) (lC1 _ _ _) (λs e=>by simp[mv,e]) (λs _ e=>⟨(at_ .r0 n,s),by simp[mv,e],.inr rfl⟩) rfl (by simp) rfl (by simp) (λk' w' hk hr=>?_) (λ_ k' w' hk hr=>?_)
 .exact aC ⟨200,_,agX _ _ _⟩ (DY hm R (lE1 _ _ _) ⟨200,_,agT _ _ _⟩ (lV1 _ _ _) agP agQ agO ⟨200,_,agR _ _ _⟩ (lA1 _ _ _) ⟨6,_,agY _ _ _⟩ ((h0.trans X hr).live live) λk w1 d o hr1=>tk k w1 d o ((h0.trans X hr).trans X hr1))
 .exact aC ⟨200,_,agW _ _ _⟩ (Ji hm R live tk (h0.trans X hr))
theorem Jj {k:Nat}:LW X r γ k (at_ .out (n+1)) (gL0 X.Fd fr cs) w0:=by
 refine aC ⟨200,_,lL0 _ _ _⟩ (iu λk' w₁ hk hr=>?_);refine⟨(aV (lD1 _ _ _)).1,(aV (lD1 _ _ _)).2,by simp,by simp,λs hsh hf=>⟨by simp[mv],λd hd _=>?_⟩⟩;refine⟨(at_ .l0 n,s),by simp[mv],λ_=>⟨by simp,resume (Ys X.Fd fr cs) U,w₁,#[qg .disable],?_,hsh,.refl _,by simp[EvStop,jf],?_⟩⟩
 .rw[hm]
  exact jl HV .disable JM (lD1 _ _ _)
 .unfold After
  rw[if_neg (by simp),hm];have:=fast hm R live tk (k:=k') hr;exact this
end
section
variable (F:Nat)(pf:Frame)(cs:List Frame)(v:Int)
def gU0:Goroutine:=G {(base 202).at ⟨#[pt F]++Array.replicate 5 undef,[]⟩ [.code (qU 202)] with kind:= .deferred} ({pf with mode:= .returning}::cs)
def uL:Goroutine:=O (gU0 F pf cs)
theorem aaj:av PP false (gU0 F pf cs) (uL F pf cs):=⟨200,bJ PP false 200 (gU0 F pf cs),λws=>by kernel_rfl⟩
theorem SH:aS (uL F pf cs)=some (.load 21 (pt F)):=by kernel_rfl
theorem agb:(PP.funcs[(uL F pf cs).frame.fn]?).any (·.norace)=true:=by kernel_rfl
def uV:Goroutine:=O (resume (uL F pf cs) (.int .i32 v))
theorem aae:av PP false (resume (uL F pf cs) (.int .i32 v)) (uV F pf cs v):=⟨200,bJ PP false 200 (resume (uL F pf cs) (.int .i32 v)),λws=>by kernel_rfl⟩
theorem aab:aS (uV F pf cs v)=some (.conv (zc (uV 0 default [] 0)) (z8 (uV 0 default [] 0)) (pt F)):=by kernel_rfl
theorem af9:PP.underlying (zc (uV 0 default [] 0))=some (.pointer (z7 (uV 0 default [] 0))):=by kernel_rfl
theorem aga:PP.underlying (z8 (uV 0 default [] 0))=some .unsafePointer:=by kernel_rfl
theorem af8:(PP.info? (z7 (uV 0 default [] 0))).map (λi=>decide (i.size=0))=some false:=by kernel_rfl
def uR:Goroutine:=O (resume (uV F pf cs v) (pt F))
theorem aaa:av PP false (resume (uV F pf cs v) (pt F)) (uR F pf cs v):=⟨200,bJ PP false 200 (resume (uV F pf cs v) (pt F)),λws=>by kernel_rfl⟩
theorem KV:aG (uR F pf cs v)=some (193,#[pt F]):=by kernel_rfl
def uD:Goroutine:=O (resume (uR F pf cs v) U)
theorem aad:av PP false (resume (uR F pf cs v) U) (uD F pf cs v):=⟨200,bJ PP false 200 (resume (uR F pf cs v) U),λws=>by kernel_rfl⟩
theorem Ud:aG (uD F pf cs v)=some (168,#[]):=by kernel_rfl
def uA:Goroutine:=O (resume (uD F pf cs v) U)
theorem aag:av PP false (resume (uD F pf cs v) U) (uA F pf cs v):=⟨200,bJ PP false 200 (resume (uD F pf cs v) U),λws=>by kernel_rfl⟩
theorem Ue:aG (uA F pf cs v)=some (219,#[pt F,.int .i32 (-1)]):=by kernel_rfl
def uE (x:Int):Goroutine:=O (resume (uA F pf cs v) (.int .i32 x))
theorem agi:av PP false (resume (uA F pf cs v) (.int .i32 0)) (uE F pf cs v 0):=⟨200,bJ PP false 200 (resume (uA F pf cs v) (.int .i32 0)),λws=>by kernel_rfl⟩
theorem agh:av PP false (resume (uA F pf cs v) (.int .i32 2)) (uE F pf cs v 2):=⟨200,bJ PP false 200 (resume (uA F pf cs v) (.int .i32 2)),λws=>by kernel_rfl⟩
theorem agf:av PP false (resume (uA F pf cs v) (.int .i32 8)) (uE F pf cs v 8):=⟨200,bJ PP false 200 (resume (uA F pf cs v) (.int .i32 8)),λws=>by kernel_rfl⟩
theorem aah:av PP false (resume (uA F pf cs v) (.int .i32 12)) (uE F pf cs v 12):=⟨200,bJ PP false 200 (resume (uA F pf cs v) (.int .i32 12)),λws=>by kernel_rfl⟩
theorem age:aG (uE F pf cs v 0)=some (170,#[]):=by kernel_rfl
theorem agd:aG (uE F pf cs v 2)=some (170,#[]):=by kernel_rfl
theorem agc:aG (uE F pf cs v 8)=some (217,#[pt F,.int .i32 8,.int .i32 2]):=by kernel_rfl
theorem aaf:aG (uE F pf cs v 12)=some (227,#[p8 F,.bool true,.int .i64 2]):=by kernel_rfl
def uS:Goroutine:=O (resume (uE F pf cs v 8) (.bool true))
theorem aai:av PP false (resume (uE F pf cs v 8) (.bool true)) (uS F pf cs v):=⟨200,bJ PP false 200 (resume (uE F pf cs v 8) (.bool true)),λws=>by kernel_rfl⟩
theorem T0:aG (uS F pf cs v)=some (227,#[p8 F,.bool false,.int .i64 2]):=by kernel_rfl
def uF8:Goroutine:=O (resume (uS F pf cs v) U)
theorem aac:av PP false (resume (uS F pf cs v) U) (uF8 F pf cs v):=⟨200,bJ PP false 200 (resume (uS F pf cs v) U),λws=>by kernel_rfl⟩
theorem Ua:aG (uF8 F pf cs v)=some (170,#[]):=by kernel_rfl
def Pa:Goroutine:=O (resume (uE F pf cs v 12) U)
theorem Uf:av PP false (resume (uE F pf cs v 12) U) (Pa F pf cs v):=⟨200,bJ PP false 200 (resume (uE F pf cs v 12) U),λws=>by kernel_rfl⟩
theorem O9:aG (Pa F pf cs v)=some (170,#[]):=by kernel_rfl
theorem Uc:av PP false (resume (uE F pf cs v 0) U) (G {pf with mode:= .returning} cs):=⟨6,bJ PP false 6 (resume (uE F pf cs v 0) U),λws=>by kernel_rfl⟩
theorem Ub:av PP false (resume (uE F pf cs v 2) U) (G {pf with mode:= .returning} cs):=⟨6,bJ PP false 6 (resume (uE F pf cs v 2) U),λws=>by kernel_rfl⟩
theorem T9:av PP false (resume (uF8 F pf cs v) U) (G {pf with mode:= .returning} cs):=⟨6,bJ PP false 6 (resume (uF8 F pf cs v) U),λws=>by kernel_rfl⟩
theorem O8:av PP false (resume (Pa F pf cs v) U) (G {pf with mode:= .returning} cs):=⟨6,bJ PP false 6 (resume (Pa F pf cs v) U),λws=>by kernel_rfl⟩
end
theorem WH {Δ:Type}{X:Cx Δ}{g:Goroutine}{w:World}{s:Sh}(hv:aS g=some (.load 21 (pt X.Fd)))(hq:(PP.funcs[g.frame.fn]?).any (·.norace)=true)(hs:ShAt X w s):stepG PP false g w= .go (resume g (.int .i32 s.mu)) w #[]:=by
 refine S5 hv hs.YZ ?_ ?_ hq
 .intro w
  cases hcc:w.cell? ⟨X.Fd,0,none⟩ with
  |none=>simp[mA]
  |some x=>simp[go_sem,hcc,mA,pt]
 .intro w x hx
  simp[go_sem,hx,mA,pt]
section
variable {Δ:Type}{X:Cx Δ}{r:bh}{k n:Nat}{γ:Gh Δ}{w:World}{pf:Frame}{cs:List Frame}{c d:Δ}
theorem BK (hm:vn r=false)(R:Room X γ)(hM:¬γ.own X.M)(live:∃s,ShAt X w s)(hD:∃o,w.heap[X.M]? =some o/\Bt X r c d o)
  (back:∀k w',RR X γ w w'->LW X r {γ with mine:=c,other:=d} k (at_ .out n) (G {pf with mode:= .returning} cs) w'):
  aD PP false (eY X false γ.ro) (dM (Hy X PP k r) (at_ .ur n) {γ with own:=λb=>γ.own b\/b=X.M,other:=d}) (λb=>γ.own b\/b=X.M) (gU0 X.Fd pf cs) w:=by
 have sub:∀{w w':World},RX X γ.ro (λb=>γ.own b\/b=X.M) w w'->RR X γ w w':=λh=>⟨h.tape,h.output,h.size,h.os,λb hb ho=>h.keep b hb (ho.imp .inl id),h.live⟩
 have R':Room X {γ with mine:=c,other:=d}:=⟨R.ne,R.off⟩
 refine aC (aaj _ _ _) (aD.step (cT (SH _ _ _)).1 λw₁ hr=>?_);obtain⟨s0,hs⟩:=hr.live live;refine⟨_,w₁,#[],WH (SH _ _ _) (agb _ _ _) hs,(jO _ _ _ w₁).1,?_⟩;have e0:=(jO (X:=X) false γ.ro (λb=>γ.own b\/b=X.M) w₁).2;rw[e0];refine aC (aae _ _ _ _) (qG (aab _ _ _ _) af9 aga af8 (λw₂ hr2=>?_) (aC (aaa _ _ _ _) ?_))
 .obtain⟨s,hs⟩:=(hr.trans X hr2).live live
  exact⟨_,hs.YZ⟩
 cases k with
 |zero=>exact aD.stop λw₂ hr2=>⟨c,λh=>absurd rfl h,trivial⟩
 |succ k=>
 refine aD.stop λw₂ hr2=>⟨c,λh=>absurd rfl h,?_⟩
 obtain⟨o,ho,hDo⟩:=hD;have hlt:=(Array.getElem?_eq_some_iff.1 ho).1;have acx:=hr.trans X hr2;have ho2:w₂.heap[X.M]? =some o:=(acx.keep X.M hlt (.inl (.inr rfl))).trans ho;refine⟨(aV (KV _ _ _ _)).1,(aV (KV _ _ _ _)).2,by simp,λ_=>⟨o,ho2,hDo⟩,λs hsh hf=>⟨by simp[mv],λd' _ _=>?_⟩⟩
 refine⟨(at_ .ud n,s),by simp[mv],λ_=>⟨by simp,resume (uR X.Fd pf cs s0.mu) U,w₂,#[qg (.releaseMerge (mA X))],?_,hsh,.refl _,by simp[EvStop,jf],?_⟩⟩
 .rw[hm]
  exact fE xRm .releaseMerge fRm (KV _ _ _ _)
 unfold After;rw[if_neg (by simp),hm];have eo:iU X .ur (λb=>γ.own b\/b=X.M)=γ.own:=by
  funext b
  show((γ.own b\/b=X.M)/\b≠X.M)=γ.own b;exact propext ⟨λh=>h.1.resolve_right h.2,λh=>⟨.inl h,λe=>hM (e▸h)⟩⟩
 have key:LW X r {γ with mine:=c,other:=d} k (at_ .ud n) (uD X.Fd pf cs s0.mu) w₂:=?_
 .have:=aC (aad X.Fd pf cs _) key
  rw[<-eo] at this;exact this
 have R12:RR X γ w w₂:=sub acx;have fin:∀{k1:Nat} {w1:World} {g1:Goroutine},RR X γ w w1->aG g1=some (170,#[])->av PP false (resume g1 U) (G {pf with mode:= .returning} cs)->LW X r {γ with mine:=c,other:=d} k1 (at_ .ue n) g1 w1:=by
  intro k1 w1 g1 h1 hc hg;exact vS hm R' (T':=at_ .out n) (m:= .enable) Zj (by simp) ZM hc (by simp[mv]) (by simp[EvStop,jf]) (by simp) (by simp) (by simp) (by simp) (by simp) (by simp) λk' w' hk hr=>aC hg (back k' w' (h1.trans X hr))
 refine vS hm R' (T':=at_ .u0 n) (m:= .disable) HV (by simp) JM (Ud _ _ _ _) (by simp[mv]) (by simp[EvStop,jf]) (by simp) (by simp) (by simp) (by simp) (by simp) (by simp) λk1 w1 hk1 hr1=>?_
 refine aC (aag _ _ _ _) (Oo hm R' (.inr rfl) (Ue _ _ _ _) λs hf=>?_)
 by_cases h1:s.mu=1
 .refine⟨(at_ .ue n,{s with mu:=0}),by simp[mv,h1],.inr ⟨by rw[h1];rfl,rfl,by simp,λk2 w2 hk2 hr2=>?_⟩⟩
  rw[h1];exact aC (agi _ _ _ _) (fin ((R12.trans X hr1).trans X hr2) (age _ _ _ _) (Uc _ _ _ _))
 by_cases h3:s.mu=3
 .refine⟨(at_ .ue n,{s with mu:=2}),by simp[mv,h1,h3],.inr ⟨by rw[h3];rfl,rfl,by simp,λk2 w2 hk2 hr2=>?_⟩⟩
  rw[h3];exact aC (agh _ _ _ _) (fin ((R12.trans X hr1).trans X hr2) (agd _ _ _ _) (Ub _ _ _ _))
 by_cases h9:s.mu=9
 .refine⟨({pc:= .uc,old:=8,nw:=2,n:=n},{s with mu:=8}),by simp[mv,h1,h3,h9],.inr ⟨by rw[h9];rfl,rfl,by simp,λk2 w2 hk2 hr2=>?_⟩⟩
  rw[h9];refine aC (agf _ _ _ _) (Bk hm R' (T1:=at_ .us n) (T2:=at_ .bad n) (.inr (.inr rfl)) (agc _ _ _ _) (λs e=>by simp[mv,e]) (λs _ e=>⟨(at_ .bad n,s),by simp[mv,e],.inl rfl⟩) rfl (by simp) rfl (by simp) (λk3 w3 hk3 hr3=>?_) (λh=>absurd rfl h));refine aC (aai _ _ _ _) (Oj hm R' rfl (T0 _ _ _ _) rfl λk4 w4 hk4 hr4=>aC (aac _ _ _ _) ?_)
  exact fin ((((R12.trans X hr1).trans X hr2).trans X hr3).trans X hr4) (Ua _ _ _ _) (T9 _ _ _ _)
 by_cases h13:s.mu=13
 .refine⟨(at_ .us n,{s with mu:=12}),by simp[mv,h1,h3,h9,h13],.inr ⟨by rw[h13];rfl,rfl,by simp,λk2 w2 hk2 hr2=>?_⟩⟩
  rw[h13];refine aC (aah _ _ _ _) (Oj hm R' rfl (aaf _ _ _ _) rfl λk4 w4 hk4 hr4=>aC (Uf _ _ _ _) ?_);exact fin (((R12.trans X hr1).trans X hr2).trans X hr4) (O9 _ _ _ _) (O8 _ _ _ _)
 .exact⟨(at_ .bad n,s),by simp[mv,h1,h3,h9,h13],.inl rfl⟩
end
section
variable {Δ:Type}{X:Cx Δ}{r:bh}{k n:Nat}{T:Lo}{γ:Gh Δ}{own:Nat->Prop}{g:Goroutine}{w:World}
theorem ng {deaf:Bool}(hd:deaf=false){ro:Nat->Prop}{Stop:(Nat->Prop)->Goroutine->World->Prop}{t:TypeId}{a:Addr}{v:Value}(h:aS g=some (.load t (.pointer (some a))))
  (ha:∀w,(isAgg t).run PP w= .ok false w) (hae:∀w,(isAgg t).events PP w #[]=#[]) (hb:own a.block\/ro a.block) (hc:w.cell? a=some v) (k:aD PP false (eY X deaf ro) Stop own (resume g v) w):aD PP false (eY X deaf ro) Stop own g w:=by
 subst hd;refine aD.step (cT h).1 λw₁ hr=>?_
 have hlt:a.block<w.heap.size:=by
  unfold World.cell? at hc;cases hh:w.heap[a.block]? with
  |none=>rw[hh] at hc;simp at hc
  |some o=>exact(Array.getElem?_eq_some_iff.1 hh).1
 have hc1:w₁.cell? a=some v:=by
  unfold World.cell? at hc⊢;rw[hr.keep a.block hlt hb];exact hc
 obtain⟨es,e1,e2⟩:=mQ (P:=PP) (main:=false) (w:=w₁) (w':=w₁) (x:=v) h (by simp[kd.sem,go_sem,ha,hc1]);refine⟨_,w₁,es,e1,⟨rfl,rfl,Nat.le_refl _,.refl _,λ_ _ _=>rfl,λe he=>?_,λh=>absurd h (by simp)⟩,?_⟩
 .have:=e2 e he
  simp[kd.sem,go_sem,ha,hae,hc1] at this;subst this;rcases hb with hb|hb
  .exact .inl ⟨a.block,.inl hb,.inl ⟨a,rfl,rfl⟩⟩
  .exact .inl ⟨a.block,.inr (.inr ⟨hb,rfl⟩),.inl ⟨a,rfl,rfl⟩⟩
 .have:=(jO (X:=X) false ro own w₁).2
  rw[this];exact k.rely hr
end
section
variable (bw bf F W bd bs:Nat)(dv:Value)(sd:Int)
def pb (b:Nat):Value:= .pointer (some ⟨b,0,none⟩)
def ldT (g:Goroutine):TypeId:=match aS g with|some (.load t _)=>t|_=>0
def qh:Value:= .func (.func 131) #[] #[pb F,pb bd,pb bs]
def ZF:Goroutine:=Go.Conc.born PP {target:= .fn (.func 163) #[pb bw,pb bf],args:=#[]}
def gW1:Goroutine:=O (ZF bw bf)
theorem X6:av PP false (ZF bw bf) (gW1 bw bf):=aI λws=>by kernel_rfl
theorem X4:aS (gW1 bw bf)=some (.load (ldT (gW1 0 0)) (.pointer (some ⟨bf,0,none⟩))):=by kernel_rfl
def gW2:Goroutine:=O (resume (gW1 bw bf) (qh F bd bs))
theorem X5:av PP false (resume (gW1 bw bf) (qh F bd bs)) (gW2 bw bf F bd bs):=aI λws=>by kernel_rfl
theorem X2:aS (gW2 bw bf F bd bs)=some (.load (ldT (gW2 0 0 0 0 0)) (.pointer (some ⟨bd,0,none⟩))):=by kernel_rfl
def ZE:Goroutine:=O (resume (gW2 bw bf F bd bs) dv)
theorem X3:av PP false (resume (gW2 bw bf F bd bs) dv) (ZE bw bf F bd bs dv):=aI λws=>by kernel_rfl
theorem X0:aS (ZE bw bf F bd bs dv)=some (.load (ldT (ZE 0 0 0 0 0 dv)) (.pointer (some ⟨bs,0,none⟩))):=by kernel_rfl
def cW:List Frame:=(On 1 (resume (ZE bw bf F bd bs dv) (.int .i64 sd))).callers
def fW:Frame:=(cW bw bf F bd bs dv sd).head?.getD default
def tW:List Frame:=(cW bw bf F bd bs dv sd).tail
def ZH (fr:Frame)(cs:List Frame):Goroutine:=MY 132 #[pb F,dv,.int .i64 sd] 46 fr cs
theorem X1:av PP false (resume (ZE bw bf F bd bs dv) (.int .i64 sd)) (ZH F dv sd (fW bw bf F bd bs dv sd) (tW bw bf F bd bs dv sd)):=aM 1 (bJ PP false 1 (resume (ZE bw bf F bd bs dv) (.int .i64 sd))) λws=>by kernel_rfl
def gX0:Goroutine:=cA (fW bw bf F bd bs dv sd) (tW bw bf F bd bs dv sd) U
def gX1:Goroutine:=O (gX0 bw bf F bd bs dv sd)
theorem XZ:av PP false (gX0 bw bf F bd bs dv sd) (gX1 bw bf F bd bs dv sd):=aI λws=>by kernel_rfl
theorem XX:aS (gX1 bw bf F bd bs dv sd)=some (.load (ldT (gX1 0 0 0 0 0 dv 0)) (.pointer (some ⟨bw,0,none⟩))):=by kernel_rfl
def OS:Goroutine:=O (resume (gX1 bw bf F bd bs dv sd) (pb W))
theorem XY:av PP false (resume (gX1 bw bf F bd bs dv sd) (pb W)) (OS bw bf F W bd bs dv sd):=aI λws=>by kernel_rfl
theorem XW:aS (OS bw bf F W bd bs dv sd)=some (.conv (zc (OS 0 0 0 0 0 0 dv 0)) (z8 (OS 0 0 0 0 0 0 dv 0)) (pb W)):=by kernel_rfl
theorem ada:PP.underlying (zc (OS 0 0 0 0 0 0 dv 0))=some (.pointer (z7 (OS 0 0 0 0 0 0 dv 0))):=by kernel_rfl
theorem adb:PP.underlying (z8 (OS 0 0 0 0 0 0 dv 0))=some .unsafePointer:=by kernel_rfl
theorem ac9:(PP.info? (z7 (OS 0 0 0 0 0 0 dv 0))).map (λi=>decide (i.size=0))=some false:=by kernel_rfl
def XU:Goroutine:=O (resume (OS bw bf F W bd bs dv sd) (pb W))
theorem XV:av PP false (resume (OS bw bf F W bd bs dv sd) (pb W)) (XU bw bf F W bd bs dv sd):=aI λws=>by kernel_rfl
theorem Fs:aG (XU bw bf F W bd bs dv sd)=some (193,#[pb W]):=by kernel_rfl
def gX4:Goroutine:=O (resume (XU bw bf F W bd bs dv sd) U)
theorem XT:av PP false (resume (XU bw bf F W bd bs dv sd) U) (gX4 bw bf F W bd bs dv sd):=aI λws=>by kernel_rfl
theorem Ri:aG (gX4 bw bf F W bd bs dv sd)=some (168,#[]):=by kernel_rfl
def gX5:Goroutine:=O (resume (gX4 bw bf F W bd bs dv sd) U)
theorem XS:av PP false (resume (gX4 bw bf F W bd bs dv sd) U) (gX5 bw bf F W bd bs dv sd):=aI λws=>by kernel_rfl
theorem Rh:aG (gX5 bw bf F W bd bs dv sd)=some (176,#[]):=by kernel_rfl
def y4:Goroutine:=O (resume (gX5 bw bf F W bd bs dv sd) (.bool false))
theorem XR:av PP false (resume (gX5 bw bf F W bd bs dv sd) (.bool false)) (y4 bw bf F W bd bs dv sd):=aI λws=>by kernel_rfl
end
section
variable (bw bf F W bd bs:Nat)(dv:Value)(sd:Int)
theorem G9:aG (y4 bw bf F W bd bs dv sd)=some (213,#[pb W,.int .u64 18446744069414584320]):=by kernel_rfl
def gY (n:Int):Goroutine:=O (resume (y4 bw bf F W bd bs dv sd) (.int .u64 n))
theorem XP:av PP false (resume (y4 bw bf F W bd bs dv sd) (.int .u64 1)) (gY bw bf F W bd bs dv sd 1):=aI λws=>by kernel_rfl
theorem XQ:ie (gY bw bf F W bd bs dv sd 0)=some (170,#[]):=by kernel_rfl
theorem XO:ie (gY bw bf F W bd bs dv sd 4294967296)=some (170,#[]):=by kernel_rfl
theorem XN:ie (gY bw bf F W bd bs dv sd 4294967297)=some (170,#[]):=by kernel_rfl
theorem MU:aG (gY bw bf F W bd bs dv sd 1)=some (203,#[pb W]):=by kernel_rfl
def gZ1:Goroutine:=O (resume (gY bw bf F W bd bs dv sd 1) (.int .u64 1))
theorem Rg:av PP false (resume (gY bw bf F W bd bs dv sd 1) (.int .u64 1)) (gZ1 bw bf F W bd bs dv sd):=aI λws=>by kernel_rfl
theorem MT:aG (gZ1 bw bf F W bd bs dv sd)=some (214,#[pb W,.int .u64 0]):=by kernel_rfl
def Tq:Goroutine:=O (resume (gZ1 bw bf F W bd bs dv sd) U)
theorem XM:av PP false (resume (gZ1 bw bf F W bd bs dv sd) U) (Tq bw bf F W bd bs dv sd):=aI λws=>by kernel_rfl
theorem Bb:aG (Tq bw bf F W bd bs dv sd)=some (200,#[p8 W,.bool false,.int .i64 0]):=by kernel_rfl
def ZD:Goroutine:=O (resume (Tq bw bf F W bd bs dv sd) U)
theorem XL:ie (ZD bw bf F W bd bs dv sd)=some (170,#[]):=by kernel_rfl
end
def Fq (P:Program):Nat->Goroutine->(Nat->World)->Option (List (Goroutine×World))
 |0,_,_=>some []
 |n+1,g,ws=>
  match g.status,stepG P false g (ws 0) with
  |.running,.go g' w' es=>if es.isEmpty then(match Fq P n g' (λi=>ws (i+1)) with|some l=>some ((g',w')::l)|none=>none) else none
  |_,_=>none
def pairs:List Goroutine->(Nat->World)->List (Goroutine×World)
 |[],_=>[]
 |x::l,ws=>(x,ws 0)::pairs l (λi=>ws (i+1))
def zS (n:Nat)(g:Goroutine):List Goroutine:=match Fq PP n g (λ_=>default) with|some l=>l.map (·.1)|none=>[]
theorem fY {m d:Nat}:∀{n:Nat} {g:Goroutine} {L:List Goroutine},(∀ws,Fq PP n g ws=some (pairs L ws))->QuitsD PP m d (L.getLastD g)->QuitsD PP (n+m) d g
 |0,g,L,h,q=>by
  have:=h λ_=>default
  simp only[Fq,Option.some.injEq] at this;cases L with
  |nil=>rw[Nat.zero_add];exact q
  |cons x l=>simp[pairs] at this
 |n+1,g,L,h,q=>by
  have key:∀w:World,g.status= .running/\∃x L',L=x::L'/\stepG PP false g w= .go x w #[]/\∀ws':Nat->World,Fq PP n x ws'=some (pairs L' ws'):=by
   intro w;have h0:∀ws':Nat->World,g.status= .running/\∃x L',L=x::L'/\stepG PP false g w= .go x w #[]/\Fq PP n x ws'=some (pairs L' ws'):=by
    intro ws';have:=h λi=>match i with|0=>w|i+1=>ws' i
    simp only[Fq] at this;cases hs:g.status<;>rw[hs] at this<;>(try cases this;done)
    cases hst:stepG PP false g w<;>rw[hst] at this<;>simp only at this<;>(try cases this;done)
    rename_i g1 w' es;split at this
    .rename_i he
     have he:es=#[]:=by simpa using he
     subst he;split at this
     .rename_i l hx
      cases L with
      |nil=>simp[pairs] at this
      |cons x L'=>
       simp only[pairs,Option.some.injEq,List.cons.injEq,Prod.mk.injEq] at this;obtain⟨⟨rfl,rfl⟩,rfl⟩:=this;exact⟨rfl,_,L',rfl,rfl,hx⟩
     .cases this
    .cases this
   obtain⟨hs,x,L',e1,e2,_⟩:=h0 λ_=>w
   refine⟨hs,x,L',e1,e2,λws'=>?_⟩;obtain⟨_,y,M',f1,f2,f3⟩:=h0 ws';rw[e1] at f1;cases f1;exact f3
  obtain⟨hs,x,L',e1,e2,e3⟩:=key default;rw[show n+1+m=n+m+1 by omega];refine QuitsD.ctl hs (λw=>?_) (fY (L:=L') e3 ?_)
  .obtain⟨_,y,M',f1,f2,_⟩:=key w
   rw[e1] at f1;cases f1;exact f2
  .rw[e1] at q
   cases L' with
   |nil=>exact q
   |cons z l=>exact q
theorem rP {g:Goroutine}{n:Nat}(h:ie g=some (170,#[]))(q:QuitsD PP n 0 (cY g)):QuitsD PP (n+1) 1 g:=
 .said ⟨.mark .enable,false,true⟩ rfl (oV h).1 (λw=>jm Zj .enable (by simp) ZM h) q
section
variable (bw bf F W bd bs:Nat)(dv:Value)(sd:Int)
theorem abu (ws:Nat->World):Fq PP 9 (cY (gY bw bf F W bd bs dv sd 0)) ws=some (pairs (zS 9 (cY (gY bw bf F W bd bs dv sd 0))) ws):=by kernel_rfl
theorem abr (ws:Nat->World):Fq PP 9 (cY (gY bw bf F W bd bs dv sd 4294967296)) ws=some (pairs (zS 9 (cY (gY bw bf F W bd bs dv sd 4294967296))) ws):=by kernel_rfl
theorem abq (ws:Nat->World):Fq PP 9 (cY (gY bw bf F W bd bs dv sd 4294967297)) ws=some (pairs (zS 9 (cY (gY bw bf F W bd bs dv sd 4294967297))) ws):=by kernel_rfl
theorem abt (ws:Nat->World):Fq PP 9 (cY (ZD bw bf F W bd bs dv sd)) ws=some (pairs (zS 9 (cY (ZD bw bf F W bd bs dv sd))) ws):=by kernel_rfl
theorem adx:((zS 9 (cY (gY bw bf F W bd bs dv sd 0))).getLastD (cY (gY bw bf F W bd bs dv sd 0))).status= .finished:=by kernel_rfl
theorem adv:((zS 9 (cY (gY bw bf F W bd bs dv sd 4294967296))).getLastD (cY (gY bw bf F W bd bs dv sd 4294967296))).status= .finished:=by kernel_rfl
theorem adu:((zS 9 (cY (gY bw bf F W bd bs dv sd 4294967297))).getLastD (cY (gY bw bf F W bd bs dv sd 4294967297))).status= .finished:=by kernel_rfl
theorem adw:((zS 9 (cY (ZD bw bf F W bd bs dv sd))).getLastD (cY (ZD bw bf F W bd bs dv sd))).status= .finished:=by kernel_rfl
theorem Z4 (ws:Nat->World):Fq PP 87 (resume (y4 bw bf F W bd bs dv sd) (.int .u64 0)) ws=some (pairs (zS 87 (resume (y4 bw bf F W bd bs dv sd) (.int .u64 0))) ws):=by kernel_rfl
theorem adP:(zS 87 (resume (y4 bw bf F W bd bs dv sd) (.int .u64 0))).getLastD (resume (y4 bw bf F W bd bs dv sd) (.int .u64 0))=gY bw bf F W bd bs dv sd 0:=by kernel_rfl
theorem V2:∃n,QuitsD PP n 1 (resume (y4 bw bf F W bd bs dv sd) (.int .u64 0)):=⟨_,fY (Z4 bw bf F W bd bs dv sd) (by rw[adP];exact rP (XQ bw bf F W bd bs dv sd) (fY (m:=0) (abu bw bf F W bd bs dv sd) ⟨adx bw bf F W bd bs dv sd,rfl⟩))⟩
theorem Z2 (ws:Nat->World):Fq PP 87 (resume (y4 bw bf F W bd bs dv sd) (.int .u64 4294967296)) ws=some (pairs (zS 87 (resume (y4 bw bf F W bd bs dv sd) (.int .u64 4294967296))) ws):=by kernel_rfl
theorem adN:(zS 87 (resume (y4 bw bf F W bd bs dv sd) (.int .u64 4294967296))).getLastD (resume (y4 bw bf F W bd bs dv sd) (.int .u64 4294967296))=gY bw bf F W bd bs dv sd 4294967296:=by kernel_rfl
theorem V0:∃n,QuitsD PP n 1 (resume (y4 bw bf F W bd bs dv sd) (.int .u64 4294967296)):=⟨_,fY (Z2 bw bf F W bd bs dv sd) (by rw[adN];exact rP (XO bw bf F W bd bs dv sd) (fY (m:=0) (abr bw bf F W bd bs dv sd) ⟨adv bw bf F W bd bs dv sd,rfl⟩))⟩
theorem Z1 (ws:Nat->World):Fq PP 87 (resume (y4 bw bf F W bd bs dv sd) (.int .u64 4294967297)) ws=some (pairs (zS 87 (resume (y4 bw bf F W bd bs dv sd) (.int .u64 4294967297))) ws):=by kernel_rfl
theorem adM:(zS 87 (resume (y4 bw bf F W bd bs dv sd) (.int .u64 4294967297))).getLastD (resume (y4 bw bf F W bd bs dv sd) (.int .u64 4294967297))=gY bw bf F W bd bs dv sd 4294967297:=by kernel_rfl
theorem VZ:∃n,QuitsD PP n 1 (resume (y4 bw bf F W bd bs dv sd) (.int .u64 4294967297)):=⟨_,fY (Z1 bw bf F W bd bs dv sd) (by rw[adM];exact rP (XN bw bf F W bd bs dv sd) (fY (m:=0) (abq bw bf F W bd bs dv sd) ⟨adu bw bf F W bd bs dv sd,rfl⟩))⟩
theorem Z3 (ws:Nat->World):Fq PP 17 (resume (Tq bw bf F W bd bs dv sd) U) ws=some (pairs (zS 17 (resume (Tq bw bf F W bd bs dv sd) U)) ws):=by kernel_rfl
theorem adO:(zS 17 (resume (Tq bw bf F W bd bs dv sd) U)).getLastD (resume (Tq bw bf F W bd bs dv sd) U)=ZD bw bf F W bd bs dv sd:=by kernel_rfl
theorem V1:∃n,QuitsD PP n 1 (resume (Tq bw bf F W bd bs dv sd) U):=⟨_,fY (Z3 bw bf F W bd bs dv sd) (by rw[adO];exact rP (XL bw bf F W bd bs dv sd) (fY (m:=0) (abt bw bf F W bd bs dv sd) ⟨adw bw bf F W bd bs dv sd,rfl⟩))⟩
end
theorem TX:Ext PP 176 Tryz.f176:=⟨Tryz.func176,by kernel_rfl,by kernel_rfl,by kernel_rfl⟩
theorem YH:Extern.find Tryz.f176=some (λ_=>pure (.bool false)):=by kernel_rfl
theorem KH:Ext PP 213 Tryz.f213:=⟨Tryz.func213,by kernel_rfl,by kernel_rfl,by kernel_rfl⟩
theorem ND:Extern.find Tryz.f213=some (Extern.Atomic.update (Op.intArith .add) .u64 true):=by kernel_rfl
theorem TW:Ext PP 203 Tryz.f203:=⟨Tryz.func203,by kernel_rfl,by kernel_rfl,by kernel_rfl⟩
theorem YD:Extern.find Tryz.f203=some (Extern.Atomic.loadT (.int .u64)):=by kernel_rfl
theorem afS:Ext PP 214 Tryz.f214:=⟨Tryz.func214,by kernel_rfl,by kernel_rfl,by kernel_rfl⟩
theorem ah4:Extern.find Tryz.f214=some Extern.Atomic.storeT:=by kernel_rfl
theorem SB:Ext PP 200 Tryz.f200:=⟨Tryz.func200,by kernel_rfl,by kernel_rfl,by kernel_rfl⟩
theorem adC:Extern.find Tryz.f200=some Extern.Sync.semrelease:=by kernel_rfl
section
variable {Δ:Type}{X:Cx Δ}{r:bh}{k n:Nat}{γ:Gh Δ}{w:World}{bw bf F bd bs:Nat}{dv:Value}{sd:Int}
variable (hm:vn r=false)(R:Room X γ)
include hm R
theorem aea:LW X r γ k (at_ .d1 n) (y4 bw bf F X.Wg bd bs dv sd) w:=by
 refine iu λk1 w1 hk1 hr1=>da (aV (G9 _ _ _ _ _ _ _ _)) (by simp) (by simp) (by simp) (by simp) (λs _ hf hn=>?_) (λs hsh hf _=>?_)
 .exfalso
  rcases hf.2.2.1 with h|h|h|h|h|h<;>simp[mv,h,KKi] at hn
 rw[hm];have st:=rl (P:=PP) (main:=false) (w:=w1) (ad:=wA X) KH .u64 ND (G9 bw bf F X.Wg bd bs dv sd) hsh.Ke (hsh.OL 0);have hsh':=hsh.setWg R.ne (IntKind.u64.wrap (s.wg+18446744069414584320));have ef:=ConcM.Eff.set (w:=w1) (Mu:=X.Fd) (Wg:=X.Wg) (wA X) (.int .u64 (IntKind.u64.wrap (s.wg+18446744069414584320))) (.inr rfl)
 have bad:∀{q:Lo×Sh},q∈mv (at_ .d1 n) s->q.1.pc= .bad->∃q∈mv (at_ .d1 n) s,q.1.pc≠.bad->∃g' w' es,stepG PP false (y4 bw bf F X.Wg bd bs dv sd) w1= .go g' w' es/\ShAt X w' q.2/\ConcM.Eff X.Fd X.Wg w1 w'/\EvStop X (at_ .d1 n) q.1 es/\
   (if q.1.pc= .quit then ∃n,QuitsD PP n 1 g' else aD PP false (eY X (eI q.1.pc) γ.ro) (dM (Hy X PP k1 r) q.1 γ) γ.own g' w'):=λhq hb=>⟨_,hq,λh=>absurd hb h⟩
 rcases hf.2.2.1 with h|h|h|h|h|h
 .exact bad (q:=(at_ .bad n,s)) (by simp[mv,h,KKi]) rfl
 .exact bad (q:=(at_ .bad n,s)) (by simp[mv,h,KKi]) rfl
 .have e:IntKind.u64.wrap (s.wg+18446744069414584320)=0:=by rw[h];decide
  rw[e] at st hsh' ef;refine⟨(at_ .quit n,{s with wg:=0}),by simp[mv,h,KKi],λ_=>⟨_,_,_,st,hsh',ef,oT (okW R.ne) rfl,?_⟩⟩;rw[if_pos rfl];exact V2 _ _ _ _ _ _ _ _
 .have e:IntKind.u64.wrap (s.wg+18446744069414584320)=1:=by rw[h];decide
  rw[e] at st hsh' ef;refine⟨(at_ .d2 n,{s with wg:=1}),by simp[mv,h,KKi],λ_=>⟨_,_,_,st,hsh',ef,oT (okW R.ne) rfl,?_⟩⟩;rw[if_neg (by simp)]
  refine aC (XP _ _ _ _ _ _ _ _) (iu (T:=at_ .d2 n) λk2 w2 hk2 hr2=>da (aV (MU _ _ _ _ _ _ _ _)) (by simp) (by simp) (by simp) (by simp) (λs _ hf hn=>?_) (λs hsh hf _=>?_))
  .exfalso
   by_cases h1:s.wg=1<;>simp[mv,h1] at hn
  rw[hm]
  by_cases h1:¬s.wg=1
  .exact⟨(at_ .bad n,s),by simp[mv,h1],λh=>absurd rfl h⟩
  have h1:s.wg=1:=Decidable.not_not.1 h1;have st:=qv (P:=PP) (main:=false) (w:=w2) (ad:=wA X) TW .u64 YD (MU bw bf F X.Wg bd bs dv sd) hsh.Ke;rw[h1] at st;refine⟨(at_ .d3 n,s),by simp[mv,h1],λ_=>⟨_,_,_,st,hsh,.refl _,Dx (okW R.ne) rfl,?_⟩⟩;rw[if_neg (by simp)]
  refine aC (Rg _ _ _ _ _ _ _ _) (iu (T:=at_ .d3 n) λk3 w3 hk3 hr3=>da (aV (MT _ _ _ _ _ _ _ _)) (by simp) (by simp) (by simp) (by simp) (λs _ hf hn=>?_) (λs hsh hf _=>?_))
  .exfalso
   by_cases h1:s.wg=1<;>simp[mv,h1] at hn
  rw[hm]
  by_cases h1:¬s.wg=1
  .exact⟨(at_ .bad n,s),by simp[mv,h1],λh=>absurd rfl h⟩
  have h1:s.wg=1:=Decidable.not_not.1 h1;have st:=BT (P:=PP) (main:=false) (w:=w3) (ad:=wA X) afS ah4 (MT bw bf F X.Wg bd bs dv sd) hsh.Ke (hsh.OL 0);have hsh':=hsh.setWg R.ne 0;have ef:=ConcM.Eff.set (w:=w3) (Mu:=X.Fd) (Wg:=X.Wg) (wA X) (.int .u64 0) (.inr rfl);refine⟨(at_ .d4 n,{s with wg:=0}),by simp[mv,h1],λ_=>⟨_,_,_,st,hsh',ef,aia (okW R.ne) rfl,?_⟩⟩;rw[if_neg (by simp)]
  refine aC (XM _ _ _ _ _ _ _ _) (iu (T:=at_ .d4 n) λk4 w4 hk4 hr4=>da (aV (Bb _ _ _ _ _ _ _ _)) (by simp) (by simp) (by simp) (λ_=>BF SB (Bb _ _ _ _ _ _ _ _)) (λs _ hf hn=>by simp[mv] at hn) (λs hsh hf _=>?_));rw[hm];have hw:IntKind.u32.wrap (s.ws+1)=s.ws+1:=by
   rcases hf.2.2.2 with h|h<;>rw[h]<;>decide
  have st:=BW (P:=PP) (main:=false) (w:=w4) (ad:=Kw X) SB adC (Bb bw bf F X.Wg bd bs dv sd) hsh.ZQ (hsh.OL 1);rw[hw] at st;have hsh':=hsh.setWs R.ne (s.ws+1);have ef:=ConcM.Eff.set (w:=w4) (Mu:=X.Fd) (Wg:=X.Wg) (Kw X) (.int .u32 (s.ws+1)) (.inr rfl);refine⟨(at_ .quit n,{s with ws:=s.ws+1}),by simp[mv],λ_=>⟨_,_,_,st,hsh',ef,Be (abG R.ne) rfl,?_⟩⟩;rw[if_pos rfl]
  exact V1 _ _ _ _ _ _ _ _
 .have e:IntKind.u64.wrap (s.wg+18446744069414584320)=4294967296:=by rw[h];decide
  rw[e] at st hsh' ef;refine⟨(at_ .quit n,{s with wg:=KKi}),by simp[mv,h,KKi],λ_=>⟨_,_,_,st,hsh',ef,oT (okW R.ne) rfl,?_⟩⟩;rw[if_pos rfl];exact V0 _ _ _ _ _ _ _ _
 .have e:IntKind.u64.wrap (s.wg+18446744069414584320)=4294967297:=by rw[h];decide
  rw[e] at st hsh' ef;refine⟨(at_ .quit n,{s with wg:=KKi+1}),by simp[mv,h,KKi],λ_=>⟨_,_,_,st,hsh',ef,oT (okW R.ne) rfl,?_⟩⟩;rw[if_pos rfl];exact VZ _ _ _ _ _ _ _ _
theorem JU (hfin:γ.mine=X.fin r):LW X r γ k (at_ .out n) (XU bw bf F X.Wg bd bs dv sd) w:=by
 refine iu λk' w₁ hk hr=>?_
 refine⟨(aV (Fs _ _ _ _ _ _ _ _)).1,(aV (Fs _ _ _ _ _ _ _ _)).2,by simp,by simp,λs hsh hf=>⟨by simp[mv],λd hd _=>?_⟩⟩;refine⟨(at_ .wk n,s),by simp[mv],λ_=>⟨λ_=>hfin,resume (XU bw bf F X.Wg bd bs dv sd) U,w₁,#[qg (.releaseMerge (wA X))],?_,hsh,.refl _,by simp[EvStop,jf],?_⟩⟩
 .rw[hm]
  exact fE xRm .releaseMerge fRm (Fs _ _ _ _ _ _ _ _)
 .unfold After
  rw[if_neg (by simp),hm];have key:LW X r γ k' (at_ .wk n) (resume (XU bw bf F X.Wg bd bs dv sd) U) w₁:=by
   refine aC (XT _ _ _ _ _ _ _ _) (vS hm R (T':=at_ .d1 n) (m:= .disable) HV (by simp) JM (Ri _ _ _ _ _ _ _ _) (by simp[mv]) (by simp[EvStop,jf]) (by simp) (by simp) (by simp) (by simp) (by simp) (by simp) λk2 w2 hk2 hr2=>?_);exact aC (XS _ _ _ _ _ _ _ _) (rU hm R TX YH (Rh _ _ _ _ _ _ _ _) (aC (XR _ _ _ _ _ _ _ _) (aea hm R)))
  exact key
end
section
variable {Δ:Type}{X:Cx Δ}{r:bh}{k n:Nat}{γ:Gh Δ}{w:World}{bw bf bd bs:Nat}{dv:Value}{sd:Int}
theorem KJ (hm:vn r=false)(R:Room X γ)(live:∃s,ShAt X w s)(hb:γ.ro bw)(hw:w.cell? ⟨bw,0,none⟩=some (pb X.Wg))(hfin:γ.mine=X.fin r):LW X r γ k (at_ .out n) (gX0 bw bf X.Fd bd bs dv sd) w:=by
 refine aC (XZ _ _ _ _ _ _ _) (ng rfl (XX _ _ _ _ _ _ _) (λw=>by kernel_rfl) (λw=>by kernel_rfl) (.inr hb) hw ?_);refine aC (XY _ _ _ _ _ _ _ _) (qG (XW _ _ _ _ _ _ _ _) (ada dv) (adb dv) (ac9 dv) (λw₁ hr=>?_) (aC (XV _ _ _ _ _ _ _ _) (JU hm R hfin)));obtain⟨s,hs⟩:=hr.live live;exact⟨_,hs.Ke⟩
theorem O4 {T:Lo}(hT:eI T.pc=false)(hf:γ.ro bf)(hd:γ.ro bd)(hs:γ.ro bs)(hwf:w.cell? ⟨bf,0,none⟩=some (qh X.Fd bd bs))(hwd:w.cell? ⟨bd,0,none⟩=some dv)(hws:w.cell? ⟨bs,0,none⟩=some (.int .i64 sd))
  (go:LW X r γ k T (ZH X.Fd dv sd (fW bw bf X.Fd bd bs dv sd) (tW bw bf X.Fd bd bs dv sd)) w):LW X r γ k T (ZF bw bf) w:=by
 refine aC (X6 _ _) (ng hT (X4 _ _) (λw=>by kernel_rfl) (λw=>by kernel_rfl) (.inr hf) hwf ?_);refine aC (X5 _ _ _ _ _) (ng hT (X2 _ _ _ _ _) (λw=>by kernel_rfl) (λw=>by kernel_rfl) (.inr hd) hwd ?_);refine aC (X3 _ _ _ _ _ _) (ng hT (X0 _ _ _ _ _ _) (λw=>by kernel_rfl) (λw=>by kernel_rfl) (.inr hs) hws ?_)
 exact aC (X1 _ _ _ _ _ _ _) go
end
def RT {α:Type}(s:Sem α)(w:World)(x:α)(w':World)(ev:Array Event):Prop:=∀es,s.runT PP w es=(.ok x w',es++ev)
section
variable {α β:Type}{s:Sem α}{f:α->Sem β}{w w1 w2:World}{x:α}{y:β}{e1 e2:Array Event}
theorem RT.bind' (h:RT s w x w1 e1)(k:RT (f x) w1 y w2 e2):RT (s.bind f) w y w2 (e1++e2):=λes=>by
 rw[Sem.runT_bind',h es];dsimp only;rw[k,Array.append_assoc]
theorem RT.bind (h:RT s w x w1 e1)(k:RT (f x) w1 y w2 e2):RT (s>>=f) w y w2 (e1++e2):=h.bind' k
theorem RT.aN (h:RT s w x w1 #[])(k:RT (f x) w1 y w2 e2):RT (s>>=f) w y w2 e2:=by
 have:=h.bind k
 rwa [Array.empty_append] at this
theorem RT.eD (h:RT s w x w1 e1)(k:RT (f x) w1 y w2 #[]):RT (s>>=f) w y w2 e1:=by
 have:=h.bind k
 rwa [Array.append_empty] at this
theorem RT.pure (x:α):RT (Pure.pure x:Sem α) w x w #[]:=λes=>by show(Result.ok x w,es)=_;rw[Array.append_empty]
theorem RT.run (h:RT s w x w1 e1):s.run PP w= .ok x w1:=by rw[<-Sem.runT_fst PP s w #[],h #[]]
theorem RT.ev (h:RT s w x w1 e1):s.events PP w #[]=e1:=by
 show(s.runT PP w #[]).2=e1;rw[h #[]];simp
end
theorem fL {w:World}:RT program w PP w #[]:=λes=>by show(Result.ok PP w,es)=_;rw[Array.append_empty]
theorem rN {w:World}{t:TypeId}{i:TypeInfo}(h:PP.info? t=some i):RT (typeInfo t) w i w #[]:=fL.aN (by rw[h];exact .pure i)
theorem fJ {w:World}{t:TypeId}{d:TypeDesc}(h:PP.underlying t=some d):RT (underlying t) w d w #[]:=fL.aN (by rw[h];exact .pure d)
theorem pp {w:World}{t:TypeId}{n:Nat}(h:(PP.info? t).map (·.size)=some n):RT (Go.sizeOf t) w n w #[]:=by
 obtain⟨i,h1,h2⟩:=Option.map_eq_some_iff.1 h;exact(rN h1).aN (h2▸.pure _)
theorem vF {w:World}{t:TypeId}{z:Value}(h:(PP.info? t).bind (·.zero)=some z):RT (zeroValue t) w z w #[]:=by
 obtain⟨i,h1,h2⟩:=Option.bind_eq_some_iff.1 h;exact(rN h1).aN (by rw[h2];exact .pure _)
theorem fM {w:World}{t:TypeId}{b:Bool}(h:(PP.underlying t).map (λd=>match d with|.struct _|.array _ _=>true|_=>false)=some b:=by kernel_rfl):RT (isAgg t) w b w #[]:=by
 obtain⟨d,h1,h2⟩:=Option.map_eq_some_iff.1 h;refine(fJ h1).aN ?_;cases d<;>simp only at h2⊢<;>subst h2<;>exact .pure _
theorem fX {w:World}{r:Nat}{o:Obj}(h:w.heap[r]? =some o)(hc:∀c t f,o≠.cells c t f:=by simp):RT (getObj r) w o w #[⟨.obj r,false,o.isChan⟩]:=λes=>by
 unfold getObj;simp only[Sem.runT,h];cases o<;>first|(exact absurd rfl (hc _ _ _))|simp
theorem jp {w:World}{r:Nat}{o o':Obj}(h:w.heap[r]? =some o')(hc:∀c t f,o'≠.cells c t f:=by simp):RT (setObj r o) w () {w with heap:=w.heap.setIfInBounds r o} #[⟨.obj r,true,o.isChan⟩]:=λes=>by
 show(match w.heap[r]? with
  |some (.cells ..)=>_
  |some _=>_
  |none=>_)=_
 rw[h];cases o'<;>first|(exact absurd rfl (hc _ _ _))|(show(Result.ok _ _,es.push _)=_;simp)
theorem oz {w:World}(o:Obj):RT (newObj o) w w.heap.size {w with heap:=w.heap.push o} #[]:=λes=>by show(Result.ok _ _,es)=_;rw[Array.append_empty]
theorem jD {w:World}{a:Addr}{v:Value}(h:w.cell? a=some v):RT (load a) w v w #[⟨.cell a,false,false⟩]:=λes=>by
 unfold load;simp only[Sem.runT,h];simp;rfl
theorem LA {w:World}{a:Addr}{u v:Value}(h:w.cell? a=some u)(hz:w.frozen? a=false)(hv:lk v=true):RT (store a v) w () (w.setCell a v) #[⟨.cell a,true,false⟩]:=λes=>by
 show(Sem.store .plain a v (.pure ())).runT PP w es=_;rw[uj hv,h];simp only[hz];show(Result.ok _ _,es.push _)=_;simp;rfl
structure zl (b:Nat)(o:Obj)(w w':World):Prop where
 tape:w'.tape=w.tape
 output:w'.output=w.output
 os:w'.os=w.os
 size:w'.heap.size=w.heap.size
 at_:w'.heap[b]? =some o
 rest:∀c,c≠b->w'.heap[c]? =w.heap[c]?
theorem mO {w:World}{b:Nat}{o o':Obj}(h:w.heap[b]? =some o'):zl b o w {w with heap:=w.heap.setIfInBounds b o}:=by
 have hlt:=(Array.getElem?_eq_some_iff.1 h).1;exact⟨rfl,rfl,rfl,by simp,by simp[hlt],λc hc=>by simp[Array.getElem?_setIfInBounds_ne hc.symm]⟩
theorem KQ {w:World}{b i:Nat}{cs:Array Value}{t:TypeId}{f:Nat×Nat}{v:Value}(h:w.heap[b]? =some (.cells cs t f)):zl b (.cells (cs.setIfInBounds i v) t f) w (w.setCell ⟨b,i,none⟩ v):=
 ⟨rfl,rfl,rfl,by simp[World.setCell],by rw[setCell_eq_setRow w b i cs t f v h,setRow_heap w b cs _ t f h],λc hc=>(aside_setCell w ⟨b,i,none⟩ v).block c hc⟩
theorem zl.trans {b:Nat}{o o':Obj}{w w1 w2:World}(h:zl b o w w1)(k:zl b o' w1 w2):zl b o' w w2:=
 ⟨k.tape.trans h.tape,k.output.trans h.output,k.os.trans h.os,k.size.trans h.size,k.at_,λc hc=>(k.rest c hc).trans (h.rest c hc)⟩
theorem cell_of {w:World}{b i:Nat}{cs:Array Value}{t:TypeId}{f:Nat×Nat}{v:Value}(h:w.heap[b]? =some (.cells cs t f))(hi:cs[i]? =some v):w.cell? ⟨b,i,none⟩=some v:=by simp[World.cell?,h,hi]
theorem Pf {w:World}{b i:Nat}{cs:Array Value}{t:TypeId}(h:w.heap[b]? =some (.cells cs t (0,0))):w.frozen? ⟨b,i,none⟩=false:=by simp[World.frozen?,h]
theorem yu (b off i:Nat):Addr.add ⟨b,off,none⟩ i=⟨b,off+i,none⟩:=by
 unfold Addr.add
 by_cases h:i=0
 .subst h;rfl
 .rw[if_neg h]
theorem ko {w:World}{b:Nat}{cs:Array Value}{t:TypeId}{f:Nat×Nat}(h:w.heap[b]? =some (.cells cs t f))(off:Nat):∀(n i:Nat) (acc:Array Value),off+i+n<=cs.size->
  ∃ev,RT (loadCellsFrom ⟨b,off,none⟩ i n acc) w (acc++cs.extract (off+i) (off+i+n)) w ev/\∀e∈ev,∃a:Addr,e=⟨.cell a,false,false⟩/\a.block=b
 |0,i,acc,_=>⟨#[],by
   have e:acc++cs.extract (off+i) (off+i+0)=acc:=by simp;omega
   rw[e];exact RT.pure (w:=w) acc,by simp⟩
 |n+1,i,acc,hn=>by
  have hlt:off+i<cs.size:=by omega
  obtain⟨ev,h1,h2⟩:=ko h off n (i+1) (acc.push cs[off+i]) (by omega);refine⟨#[⟨.cell ⟨b,off+i,none⟩,false,false⟩]++ev,?_,?_⟩
  .have e:acc++cs.extract (off+i) (off+i+(n+1))=acc.push cs[off+i]++cs.extract (off+(i+1)) (off+(i+1)+n):=by
    apply Array.ext'
    simp[List.extract_eq_drop_take];rw[show off+(i+1)=off+i+1 by omega,List.drop_eq_getElem_cons (by simpa using hlt)];simp
   have e2:loadCellsFrom ⟨b,off,none⟩ i (n+1) acc=(load (Addr.add ⟨b,off,none⟩ i)>>=λv=>loadCellsFrom ⟨b,off,none⟩ (i+1) n (acc.push v)):=by rw[loadCellsFrom]
   rw[e,e2,yu];exact(jD (w:=w) (a:=⟨b,off+i,none⟩) (cell_of h (Array.getElem?_eq_getElem hlt))).bind (f:=λv=>loadCellsFrom ⟨b,off,none⟩ (i+1) n (acc.push v)) h1
  .intro e he
   rcases Array.mem_append.1 he with he|he
   .simp at he
    subst he;exact⟨_,rfl,rfl⟩
   .exact h2 e he
def kO (cs:Array Value):List Value->Nat->Array Value
 |[],_=>cs
 |v::vs,i=>kO (cs.setIfInBounds i v) vs (i+1)
theorem lX {b:Nat}{t:TypeId}(off:Nat):∀(vs:List Value) (i:Nat) {w:World} {cs:Array Value},w.heap[b]? =some (.cells cs t (0,0))->off+i+vs.length<=cs.size->(∀v∈vs,lk v=true)->
  ∃w' ev,RT (storeCells ⟨b,off,none⟩ vs i) w () w' ev/\zl b (.cells (kO cs vs (off+i)) t (0,0)) w w'/\∀e∈ev,∃a:Addr,e=⟨.cell a,true,false⟩/\a.block=b
 |[],i,w,cs,h,_,_=>⟨w,#[],by simpa [storeCells] using RT.pure (w:=w) (),⟨rfl,rfl,rfl,rfl,h,λ_ _=>rfl⟩,by simp⟩
 |v::vs,i,w,cs,h,hn,hv=>by
  simp only[List.length_cons] at hn;have hlt:off+i<cs.size:=by omega
  have u:=KQ (i:=off+i) (v:=v) h;obtain⟨w',ev,h1,h2,h3⟩:=lX off vs (i+1) u.at_ (by simp;omega) λx hx=>hv x (by simp[hx])
  have e2:storeCells ⟨b,off,none⟩ (v::vs) i=(store (Addr.add ⟨b,off,none⟩ i) v>>=λ_=>storeCells ⟨b,off,none⟩ vs (i+1)):=by rw[storeCells]
  rw[e2,yu];refine⟨w',#[⟨.cell ⟨b,off+i,none⟩,true,false⟩]++ev,(LA (w:=w) (a:=⟨b,off+i,none⟩) (cell_of h (Array.getElem?_eq_getElem hlt)) (Pf h) (hv v (by simp))).bind (f:=λ_=>storeCells ⟨b,off,none⟩ vs (i+1)) h1,u.trans h2,λe he=>?_⟩;rcases Array.mem_append.1 he with he|he
  .simp at he
   subst he;exact⟨_,rfl,rfl⟩
  .exact h3 e he
def EvB (b:Nat)(e:Event):Prop:=e.sync=false/\ll b e.loc
theorem i6 {b:Nat}{a:Addr}{x:Bool}(h:a.block=b):EvB b ⟨.cell a,x,false⟩:=⟨rfl,.inl ⟨a,rfl,h⟩⟩
theorem dQ {b:Nat}{x:Bool}:EvB b ⟨.obj b,x,false⟩:=⟨rfl,.inr rfl⟩
section
variable {w:World}{b:Nat}{t:TypeId}
theorem jM {cs:Array Value}{u:TypeId}{f:Nat×Nat}{off n:Nat}(h:w.heap[b]? =some (.cells cs u f))(ha:(PP.underlying t).map (λd=>match d with|.struct _|.array _ _=>true|_=>false)=some true)(hn:(PP.info? t).map (·.size)=some n)(hle:off+n<=cs.size):
  ∃ev,RT (kd.load t (.pointer (some ⟨b,off,none⟩))).sem w (.value (.agg (cs.extract off (off+n)))) w ev/\∀e∈ev,EvB b e/\e.write=false:=by
 obtain⟨ev,h1,h2⟩:=ko h off n 0 #[] (by omega);refine⟨ev,RT.eD (x:= .agg (cs.extract off (off+n))) ?_ (.pure _),λe he=>?_⟩
 .show RT (do if<-isAgg t then Pure.pure (.agg (<-loadCells ⟨b,off,none⟩ (<-Go.sizeOf t))) else load ⟨b,off,none⟩) w _ w ev
  refine(fM (h:=ha)).aN ?_;simp only[if_true];refine(pp hn).aN ?_;refine RT.eD ?_ (.pure _);simpa [loadCells] using h1
 .obtain⟨a,rfl,hb⟩:=h2 e he
  exact⟨i6 hb,rfl⟩
theorem fK {cs:Array Value}{u:TypeId}{off:Nat}{v:Value}(h:w.heap[b]? =some (.cells cs u (0,0)))(hn:(PP.info? t).map (·.size)=some v.cells.size)(hle:off+v.cells.size<=cs.size)(h1:∀x∈v.cells.toList,lk x=true):
  ∃w' ev,RT (kd.store t (.pointer (some ⟨b,off,none⟩)) v).sem w .skip w' ev/\zl b (.cells (kO cs v.cells.toList off) u (0,0)) w w'/\∀e∈ev,EvB b e:=by
 obtain⟨w',ev,h2,h3,h4⟩:=lX off v.cells.toList 0 h (by simpa using hle) h1;refine⟨w',ev,RT.eD (x:=()) ?_ (.pure _),h3,λe he=>?_⟩
 .show RT (do
   if v.cells.size≠(<-Go.sizeOf t) then stuck "storeVar: the value has not the size of the variable"
   storeCells ⟨b,off,none⟩ v.cells.toList) w _ w' ev
  refine(pp hn).aN ?_;simp only[ne_eq,not_true,if_false];exact RT.aN (.pure _) h2
 .obtain⟨a,rfl,hb⟩:=h4 e he
  exact i6 hb
theorem wP (t:TypeId)(v:Value):RT (kd.box t v).sem w (.value (.pointer (some ⟨w.heap.size,0,none⟩))) {w with heap:=w.heap.push (.cells v.cells t (0,0))} #[]:=
 RT.aN (x:= .pointer (some ⟨w.heap.size,0,none⟩)) (RT.aN (x:=⟨w.heap.size,0,none⟩) (RT.aN (oz _) (.pure _)) (.pure _)) (.pure _)
theorem mB {z:Value}(h:(PP.info? t).bind (·.zero)=some z):RT (kd.alloc t).sem w (.value (.pointer (some ⟨w.heap.size,0,none⟩))) {w with heap:=w.heap.push (.cells z.cells t (0,0))} #[]:=
 RT.aN (x:= .pointer (some ⟨w.heap.size,0,none⟩)) ((vF h).aN (RT.aN (x:=⟨w.heap.size,0,none⟩) (RT.aN (oz _) (.pure _)) (.pure _))) (.pure _)
theorem EI (t:TypeId):RT (kd.makeMap t).sem w (.value (.map (some w.heap.size))) {w with heap:=w.heap.push (.map #[] 0)} #[]:=
 RT.aN (x:= .map (some w.heap.size)) (RT.aN (oz _) (.pure _)) (.pure _)
end
open Go.MapKept in
structure di (es:Array MapEntry)(c:Nat)(f:ByteArray->Option Value):Prop where
 stamped:Stamped es c
 keys:∀e∈es.toList,IsKey .string e.key
 has:∀s v,f s=some v↔∃e∈es.toList,e.key= .string s/\e.val=v
section
open Go.MapKept
variable {w:World}{m:Nat}{t kt vt:TypeId}{es:Array MapEntry}{c:Nat}{f:ByteArray->Option Value}{s:ByteArray}{z v:Value}
theorem iE {k:Value}(h:IsKey .string k):∃s,k= .string s:=by cases k<;>simp_all [IsKey]
theorem di.uniq (h:di es c f){x y:MapEntry}(hx:x∈es.toList)(hy:y∈es.toList)(hk:x.key=y.key):x=y:=by
 have hp:=((stamped_iff es c).1 h.stamped).2.2;rw[List.pairwise_iff_getElem] at hp;obtain⟨i,hi,rfl⟩:=List.mem_iff_getElem.1 hx;obtain⟨j,hj,rfl⟩:=List.mem_iff_getElem.1 hy;rcases Nat.lt_trichotomy i j with hlt|rfl|hlt
 .exact absurd hk (hp i j hi hj hlt)
 .rfl
 .exact absurd hk.symm (hp j i hj hi hlt)
theorem di.empty (c:Nat):di #[] c λ_=>none:=⟨stamped_empty c,by simp,by simp⟩
theorem um {w:World}{e:Bool}{n:Nat}{kt:TypeId}{s:ByteArray}(hk:PP.underlying kt=some .string):RT (Instr.checkKey e (n+1) kt (.string s)) w () w #[]:=
 (fJ hk).aN (.pure _)
theorem wN (hk:PP.underlying kt=some .string)(h:di es c f):
  (RT (Instr.findKey kt (.string s) es.toList) w none w #[]/\f s=none/\∀e∈es.toList,e.key≠.string s)\/∃j e,es[j]? =some e/\RT (Instr.findKey kt (.string s) es.toList) w (some (j,e.val)) w #[]/\e.key= .string s/\f s=some e.val:=by
 rcases findNow_spec (d:= .string) (k:= .string s) trivial es.toList 0 h.keys with⟨h1,h2⟩|⟨j,e,h1,h2,h3⟩
 .refine .inl ⟨(fJ hk).aN (by rw[h1];exact .pure _),?_,h2⟩
  cases hf:f s with
  |none=>rfl
  |some v=>
   obtain⟨e,he,h3,_⟩:=(h.has s v).1 hf;exact absurd h3 (h2 e he)
 .have hm:e∈es.toList:=List.mem_of_getElem? h2
  exact .inr ⟨j,e,by simpa using h2,(fJ hk).aN (by rw[h1,Nat.zero_add];exact .pure _),h3,(h.has s e.val).2 ⟨e,hm,h3,rfl⟩⟩
theorem pq (ht:PP.underlying t=some (.map kt vt))(hk:PP.underlying kt=some .string)(hz:(PP.info? vt).bind (·.zero)=some z)(h:w.heap[m]? =some (.map es c))(hm:di es c f):
  RT (kd.lookup t (.map (some m)) (.string s) false).sem w (.value ((f s).getD z)) w #[⟨.obj m,false,false⟩]:=by
 refine RT.eD (x:=(f s).getD z) ((fJ ht).aN ?_) (.pure _);refine RT.eD (x:= .map es c) (fX h) ?_;refine RT.aN (x:=es) (.pure _) ?_;refine RT.aN (um hk) ?_;rcases wN (w:=w) (s:=s) hk hm with⟨h1,h2,_⟩|⟨j,e,_,h1,_,h2⟩
 .rw[h2]
  exact RT.aN h1 ((vF hz).aN (RT.aN (x:=(z,false)) (.pure _) (.pure _)))
 .rw[h2]
  exact RT.aN h1 (RT.aN (x:=(e.val,true)) (.pure _) (.pure _))
theorem p5 (ht:PP.underlying t=some (.map kt vt))(hk:PP.underlying kt=some .string)(h:w.heap[m]? =some (.map es c))(hm:di es c f):
  ∃es' c' w' ev,RT (kd.mapUpdate t (.map (some m)) (.string s) v).sem w .skip w' ev/\zl m (.map es' c') w w'/\(∀e∈ev,EvB m e)/\es'.size<=es.size+1/\di es' c' λs'=>if s'=s then some v else f s':=by
 have pre:∀{w':World} {ev:Array Event},RT (do
   match<-Instr.findKey kt (.string s) es.toList with
   |some (i,_)=>do
    let key <-Instr.keyThatStays (((es[i]?).map (·.key)).getD (.string s)) (.string s)
    setObj m (.map (es.modify i λe=>{e with key,val:=v}) c)
   |none=>setObj m (.map (es.push {key:= .string s,val:=v,born:=c}) (c+1))) w () w' ev->RT (kd.mapUpdate t (.map (some m)) (.string s) v).sem w .skip w' (#[⟨.obj m,false,false⟩]++ev):=by
  intro w' ev h2;refine RT.eD (x:=()) ((fJ ht).aN ?_) (.pure _);refine RT.bind (x:= .map es c) (fX h) ?_;exact RT.aN (um hk) h2
 rcases wN (w:=w) (s:=s) hk hm with⟨h1,h2,h3⟩|⟨j,e,hj,h1,h2,h3⟩
 .refine⟨es.push {key:= .string s,val:=v,born:=c},c+1,_,_,pre (RT.aN h1 (jp h)),mO h,?_,by simp,stamped_push hm.stamped h3,?_,?_⟩
  .intro e he
   simp at he;rcases he with rfl|rfl
   .exact dQ
   .exact⟨rfl,.inr rfl⟩
  .intro x hx
   simp only[Array.toList_push,List.mem_append,List.mem_singleton] at hx;rcases hx with hx|rfl
   .exact hm.keys x hx
   .trivial
  .intro s' v'
   by_cases hs:s'=s
   .subst hs
    simp only[if_true];constructor
    .intro q
     have q:=Option.some.inj q;subst q;exact⟨{key:= .string s',val:=v,born:=c},by simp,rfl,rfl⟩
    .rintro⟨x,hx,h5,h6⟩
     simp only[Array.toList_push,List.mem_append,List.mem_singleton] at hx;rcases hx with hx|rfl
     .exact absurd h5 (h3 x hx)
     .rw[<-h6]
   .rw[if_neg hs,hm.has]
    constructor
    .rintro⟨x,hx,h5,h6⟩
     exact⟨x,by simp[hx],h5,h6⟩
    .rintro⟨x,hx,h5,h6⟩
     simp only[Array.toList_push,List.mem_append,List.mem_singleton] at hx;rcases hx with hx|rfl
     .exact⟨x,hx,h5,h6⟩
     .exact absurd (by simpa using h5.symm) hs
 .have hk2:RT (Instr.keyThatStays (((es[j]?).map (·.key)).getD (.string s)) (.string s)) w (.string s) w #[]:=by
   rw[hj];simp only[Option.map_some,Option.getD_some,h2];unfold Instr.keyThatStays;rw[if_pos (sameBits_self (d:= .string) (k:= .string s) trivial 10000)];exact .pure _
  have hkey:∀e',es[j]? =some e'->({e' with key:= .string s,val:=v}:MapEntry).key=e'.key:=λe' he'=>by rw[hj] at he';cases he';exact h2.symm
  have hmem:e∈es.toList:=by
   have:es.toList[j]? =some e:=by simpa using hj
   exact List.mem_of_getElem? this
  refine⟨es.modify j λe=>{e with key:= .string s,val:=v},c,_,_,pre (RT.aN h1 (RT.aN hk2 (jp h))),mO h,?_,by simp,stamped_modify hm.stamped _ _ (λ_ _=>rfl) (λe' _ he'=>hkey e' he'),isKey_modify hm.keys _ _ hkey,?_⟩
  .intro e he
   simp at he;rcases he with rfl|rfl
   .exact dQ
   .exact⟨rfl,.inr rfl⟩
  .have Qy:∀x:MapEntry,x∈(es.modify j λe=>{e with key:= .string s,val:=v}).toList↔(∃i,i≠j/\es[i]? =some x)\/x={e with key:= .string s,val:=v}:=by
    intro x;rw[List.mem_iff_getElem?];simp only[Array.getElem?_toList,Array.getElem?_modify];constructor
    .rintro⟨i,hi⟩
     by_cases hij:j=i
     .subst hij
      simp[hj] at hi;exact .inr hi.symm
     .simp[hij] at hi
      exact .inl ⟨i,λq=>hij q.symm,hi⟩
    .rintro(⟨i,h5,h6⟩|rfl)
     .have hne:¬j=i:=λq=>h5 q.symm
      exact⟨i,by rw[if_neg hne];exact h6⟩
     .exact⟨j,by rw[if_pos rfl,hj];rfl⟩
   have others:∀i x,i≠j->es[i]? =some x->x.key≠.string s:=by
    intro i x hij hx hxk;have hp:=((stamped_iff es c).1 hm.stamped).2.2;rw[List.pairwise_iff_getElem] at hp;have hxi:=Array.getElem?_eq_some_iff.1 hx;have hei:=Array.getElem?_eq_some_iff.1 hj;rcases Nat.lt_or_gt_of_ne hij with hlt|hlt
    .have:=hp i j (by simpa using hxi.1) (by simpa using hei.1) hlt
     simp only[Array.getElem_toList] at this;rw[hxi.2,hei.2] at this;exact this (hxk.trans h2.symm)
    .have:=hp j i (by simpa using hei.1) (by simpa using hxi.1) hlt
     simp only[Array.getElem_toList] at this;rw[hxi.2,hei.2] at this;exact this (h2.trans hxk.symm)
   intro s' v'
   by_cases hs:s'=s
   .subst hs
    simp only[if_true];constructor
    .intro q
     have q:=Option.some.inj q;subst q;exact⟨{e with key:= .string s',val:=v},(Qy _).2 (.inr rfl),rfl,rfl⟩
    .rintro⟨x,hx,h5,h6⟩
     rcases(Qy x).1 hx with⟨i,h7,h8⟩|rfl
     .exact absurd h5 (others i x h7 h8)
     .rw[<-h6]
   .rw[if_neg hs,hm.has]
    constructor
    .rintro⟨x,hx,h5,h6⟩
     obtain⟨i,hi⟩:=List.mem_iff_getElem?.1 hx;have hi':es[i]? =some x:=by simpa using hi
     refine⟨x,(Qy x).2 (.inl ⟨i,λq=>?_,hi'⟩),h5,h6⟩;subst q;rw[hj] at hi';cases hi';rw[h2] at h5;exact hs (by simpa using h5.symm)
    .rintro⟨x,hx,h5,h6⟩
     rcases(Qy x).1 hx with⟨i,h7,h8⟩|rfl
     .have:es.toList[i]? =some x:=by simpa using h8
      exact⟨x,List.mem_of_getElem? this,h5,h6⟩
     .exact absurd (by simpa using h5.symm) hs
theorem AF (ht:PP.underlying t=some (.map kt vt))(hk:PP.underlying kt=some .string)(h:w.heap[m]? =some (.map es c))(hm:di es c f):
  ∃es' c' w' ev,RT (kd.mapUpdate t (.map (some m)) (.string s) v).sem w .skip w' ev/\zl m (.map es' c') w w'/\(∀e∈ev,EvB m e)/\di es' c' λs'=>if s'=s then some v else f s':=
 let⟨es',c',w',ev,h1,h2,h3,_,h4⟩:=p5 ht hk h hm
 ⟨es',c',w',ev,h1,h2,h3,h4⟩
theorem wM (ht:PP.underlying t=some (.map kt vt))(h:w.heap[m]? =some (.map es c)):
  RT (kd.range t (.map (some m))).sem w (.value (.pointer (some ⟨w.heap.size,0,none⟩))) {w with heap:=w.heap.push (.mapIter (some m) c #[] c)} #[⟨.obj m,false,false⟩]:=by
 refine RT.eD (x:= .pointer (some ⟨w.heap.size,0,none⟩)) ((fJ ht).aN ?_) (.pure _);refine RT.eD (x:= .map es c) (fX h) ?_;refine RT.aN (x:= .mapIter (some m) c #[] c) (.pure _) ?_;exact RT.aN (oz _) (.pure _)
theorem pr {q:Question}:∃n w',RT (choose q) w n w' #[]/\w'.tape=w.tape/\w'.output=w.output/\w'.os=w.os/\w'.heap=w.heap/\((q.forced=true/\n=0)\/∃x,n=q.cut x):=by
 by_cases hq:q.forced=true
 .refine⟨0,w,λes=>?_,rfl,rfl,rfl,rfl,.inl ⟨hq,rfl⟩⟩
  unfold choose;simp only[Sem.runT,hq,if_true];simp
 .refine⟨q.cut (w.tape w.drawn q),{w with drawn:=w.drawn+1},λes=>?_,rfl,rfl,rfl,rfl,.inr ⟨_,rfl⟩⟩
  unfold choose;simp only[Sem.runT,hq];simp
def leftOf (es:Array MapEntry)(seen:Array Nat):Array MapEntry:=es.filter λe=>!seen.contains e.born
theorem Mt {seen:Array Nat}(hm:di es c f):(leftOf es seen).filter (λe=>decide (e.born<c))=leftOf es seen/\(leftOf es seen).filter (λe=>decide (e.born>=c))=#[]:=by
 have hlow:∀e∈leftOf es seen,e.born<c:=λe he=>hm.stamped.1 e (by
  have:=(Array.mem_filter.1 he).1;simpa using this)
 constructor
 .rw[Array.filter_eq_self]
  exactλe he=>by simpa using hlow e he
 .rw[Array.filter_eq_empty_iff]
  exactλe he=>by simpa using hlow e he
theorem Gz {it:Nat}{seen:Array Nat}{ty:TypeId}(hit:w.heap[it]? =some (.mapIter (some m) c seen c))(h:w.heap[m]? =some (.map es c))(hm:di es c f):
  (leftOf es seen=#[]/\∃w' ev,RT (kd.next (.pointer (some ⟨it,0,none⟩)) false ty).sem w (.value (.tuple #[.bool false])) w' ev/\w'.tape=w.tape/\w'.output=w.output/\w'.os=w.os/\w'.heap=w.heap/\∀e∈ev,(EvB it e\/EvB m e)/\e.write=false)\/
  ∃e∈leftOf es seen,∃w' ev,RT (kd.next (.pointer (some ⟨it,0,none⟩)) false ty).sem w (.value (.tuple #[.bool true,e.key,e.val])) w' ev/\zl it (.mapIter (some m) c (seen.push e.born) c) w w'/\∀e∈ev,EvB it e\/(EvB m e/\e.write=false):=by
 obtain⟨l1,l2⟩:=Mt (seen:=seen) hm;have hcond:(!seen.isEmpty&&!es.isEmpty&&es.all λe=>decide (e.born>=c))=false:=by
  by_cases he:es.isEmpty=true
  .simp[he]
  .have:∃e,e∈es:=by
    cases hes:es.toList with
    |nil=>exact absurd (by simpa using hes) he
    |cons x l=>exact⟨x,by
      have:x∈es.toList:=by rw[hes];simp
      simpa using this⟩
   obtain⟨x,hx⟩:=this;have hlt:=hm.stamped.1 x (by simpa using hx);have:(es.all λe=>decide (e.born>=c))=false:=by
    cases hall:es.all λe=>decide (e.born>=c) with
    |false=>rfl
    |true=>
     have:=(Array.all_eq_true_iff_forall_mem.1 hall) x hx;have:c<=x.born:=by simpa using this
     omega
   rw[this];simp
 have pre:∀{x:Value} {w':World} {ev:Array Event},RT (do
   match(((if(leftOf es seen).isEmpty then #[none] else #[])++(leftOf es seen++#[]).map some)[<-choose (.mapNext ((if(leftOf es seen).isEmpty then #[none] else #[])++(leftOf es seen++#[]).map some).size)]? :Option (Option MapEntry)) with
   |some (some e)=>
    setObj it (.mapIter (some m) c (seen.push e.born) c)
    Pure.pure (.tuple #[.bool true,e.key,e.val])
   |some none=>Pure.pure (.tuple #[.bool false])
   |none=>stuck "Next: no such candidate") w x w' ev->RT (kd.next (.pointer (some ⟨it,0,none⟩)) false ty).sem w (.value x) w' (#[⟨.obj it,false,false⟩]++(#[⟨.obj m,false,false⟩]++ev)):=by
  intro x w' ev h2;refine RT.eD (x:=x) ?_ (.pure _);refine RT.bind (x:= .mapIter (some m) c seen c) (fX hit) ?_;refine RT.bind (x:= .map es c) (fX h) ?_;show RT (if(!seen.isEmpty&&!es.isEmpty&&es.all λe=>decide (e.born>=c))=true then _ else _) _ _ _ _;rw[hcond];simp only[Bool.false_eq_true,if_false]
  have e1:(es.filter λe=>!seen.contains e.born)=leftOf es seen:=rfl;rw[e1,l1,l2];exact h2
 by_cases hl:leftOf es seen=#[]
 .left
  refine⟨hl,?_⟩;obtain⟨n,w',c1,c2,c3,c4,c5,c6⟩:=pr (w:=w) (q:= .mapNext 1);have hn:n=0:=by
   rcases c6 with⟨_,e⟩|⟨x,e⟩
   .exact e
   .rw[e];simp[Question.cut,Nat.mod_one]
  subst hn;refine⟨w',_,pre (ev:=#[]) ?_,c2,c3,c4,c5,?_⟩
  .have hc:((if(leftOf es seen).isEmpty then #[none] else #[])++(leftOf es seen++#[]).map some:Array (Option MapEntry))=#[none]:=by rw[hl];simp
   rw[hc];exact RT.aN (x:=0) c1 (.pure _)
  .intro e he
   simp at he;rcases he with rfl|rfl
   .exact⟨.inl dQ,rfl⟩
   .exact⟨.inr dQ,rfl⟩
 .right
  have hpos:0<(leftOf es seen).size:=Nat.pos_of_ne_zero λe=>hl (Array.eq_empty_of_size_eq_zero e)
  have hem:(leftOf es seen).isEmpty=false:=by simpa [Array.isEmpty] using Nat.pos_iff_ne_zero.1 hpos
  have acS:((if(leftOf es seen).isEmpty then #[none] else #[])++(leftOf es seen++#[]).map some:Array (Option MapEntry))=(leftOf es seen).map some:=by simp[hem]
  obtain⟨n,w1,c1,c2,c3,c4,c5,c6⟩:=pr (w:=w) (q:= .mapNext (leftOf es seen).size);have hn:n<(leftOf es seen).size:=by
   rcases c6 with⟨_,e⟩|⟨x,e⟩
   .omega
   .rw[e];exact Nat.mod_lt _ hpos
  have yY:w1.heap[it]? =some (.mapIter (some m) c seen c):=by rw[c5];exact hit
  have u:=mO (o:= .mapIter (some m) c (seen.push (leftOf es seen)[n].born) c) yY;refine⟨(leftOf es seen)[n],Array.getElem_mem hn,_,_,pre (ev:=#[⟨.obj it,true,false⟩]) ?_,⟨u.tape.trans c2,u.output.trans c3,u.os.trans c4,u.size.trans (by rw[c5]),u.at_,λb hb=>(u.rest b hb).trans (by rw[c5])⟩,?_⟩
  .rw[acS]
   simp only[Array.size_map];refine RT.aN c1 ?_;have:((leftOf es seen).map some)[n]? =some (some (leftOf es seen)[n]):=by simp[hn]
   rw[this];exact RT.eD (jp yY) (.pure _)
  .intro e he
   simp at he;rcases he with rfl|rfl|rfl
   .exact .inl dQ
   .exact .inr ⟨dQ,rfl⟩
   .exact .inl dQ
theorem wO {it:Nat}{seen:Array Nat}{e:MapEntry}(hit:w.heap[it]? =some (.mapIter (some m) c (seen.push e.born) c))(h:w.heap[m]? =some (.map es c))(hm:di es c f)(he:e∈es.toList):
  RT (kd.entry (.pointer (some ⟨it,0,none⟩))).sem w (.value (.tuple #[e.key,e.val])) w (#[⟨.obj it,false,false⟩]++#[⟨.obj m,false,false⟩]):=by
 refine RT.eD (x:= .tuple #[e.key,e.val]) ?_ (.pure _);refine RT.bind (x:= .mapIter (some m) c (seen.push e.born) c) (fX hit) ?_;have hb:(seen.push e.born).back? =some e.born:=by simp
 have hf:es.find? (λx=>x.born==e.born)=some e:=by
  cases hf:es.find? (λx=>x.born==e.born) with
  |none=>
   rw[Array.find?_eq_none] at hf;exact absurd (by simp) (hf e (by simpa using he))
  |some x=>
   have hx:=Array.mem_of_find?_eq_some hf;have hb2:x.born=e.born:=by simpa using Array.find?_some hf
   have hp:=hm.stamped.2.1;rw[List.Nodup,List.pairwise_map,List.pairwise_iff_getElem] at hp;obtain⟨i,hi,rfl⟩:=List.mem_iff_getElem.1 (show x∈es.toList by simpa using hx);obtain⟨j,hj,rfl⟩:=List.mem_iff_getElem.1 he;rcases Nat.lt_trichotomy i j with hlt|rfl|hlt
   .exact absurd hb2 (hp i j hi hj hlt)
   .rfl
   .exact absurd hb2.symm (hp j i hj hi hlt)
 dsimp only;rw[hb];refine RT.eD (x:= .map es c) (fX h) ?_;show RT (if(c !=c)=true then _ else _) _ _ _ _;simp only[bne_self_eq_false,Bool.false_eq_true,if_false];rw[hf];exact .pure _
end
theorem Yu {α β:Type}(a b:α)(ini:β)(f:α->β->Sem (ForInStep β)):forIn (#[a,b]:Array α) ini f=(do
  match<-f a ini with
  |.done x=>Pure.pure x
  |.yield x=>match<-f b x with
   |.done x=>Pure.pure x
   |.yield x=>Pure.pure x):=by
 rfl
abbrev TH:TypeId:=161
def pT (i:Nat):Field:=match PP.underlying TH with|some (.struct fs)=>fs.getD i default|_=>default
theorem af6:PP.underlying TH=some (.struct #[pT 0,pT 1]):=by kernel_rfl
def hv (b:Bool)(s:ByteArray):Value:= .agg #[.bool b,.string s]
theorem Gy {w:World}{t:TypeId}{cs:Array Value}{off:Nat}{v:Value}(ha:(PP.underlying t).map (λd=>match d with|.struct _|.array _ _=>true|_=>false)=some false)(h:cs[off]? =some v):RT (part t cs off) w v w #[]:=by
 refine(fM (h:=ha)).aN ?_;simp only[Bool.false_eq_true,if_false];rw[h];exact .pure _
theorem zG {w:World}(n:Nat)(b1 b2:Bool)(s1 s2:ByteArray):RT (Op.equalIn (n+2) TH (hv b1 s1) (hv b2 s2)) w (b1==b2&&s1==s2) w #[]:=by
 have f0:pT 0={name:=(pT 0).name,type:=4,offset:=0,embedded:=(pT 0).embedded,tag:=(pT 0).tag,pkgPath:=(pT 0).pkgPath,byteOffset:=(pT 0).byteOffset}:=by kernel_rfl
 have n0:((pT 0).name== "_")=false:=by kernel_rfl
 have n1:((pT 1).name== "_")=false:=by kernel_rfl
 have t0:(pT 0).type=4:=by kernel_rfl
 have t1:(pT 1).type=9:=by kernel_rfl
 have o0:(pT 0).offset=0:=by kernel_rfl
 have o1:(pT 1).offset=1:=by kernel_rfl
 have e0:RT (Op.equalIn (n+1) 4 (.bool b1) (.bool b2)) w (b1==b2) w #[]:=(fJ (d:= .bool) (by kernel_rfl)).aN (.pure _);have e1:RT (Op.equalIn (n+1) 9 (.string s1) (.string s2)) w (s1==s2) w #[]:=(fJ (d:= .string) (by kernel_rfl)).aN (.pure _);refine(fJ af6).aN ?_;refine fL.aN ?_;have hst:PP.stoodInHeld TH=false:=by kernel_rfl
 show RT (if PP.stoodInHeld TH=true then _ else _) _ _ _ _;rw[hst];simp only[Bool.false_eq_true,if_false];rw[Yu];have m0:(pT 0).name≠ "_":=by simpa using n0
 have m1:(pT 1).name≠ "_":=by simpa using n1
 simp only[if_pos m0,if_pos m1,t0,t1,o0,o1];have p0:∀(b:Bool) (s:ByteArray),RT (part 4 #[.bool b,.string s] 0) w (.bool b) w #[]:=λb s=>Gy (by kernel_rfl) rfl
 have p1:∀(b:Bool) (s:ByteArray),RT (part 9 #[.bool b,.string s] 1) w (.string s) w #[]:=λb s=>Gy (by kernel_rfl) rfl
 cases hb:b1==b2 with
 |false=>
  rw[hb] at e0;exact RT.aN (x:=(some false,())) (RT.aN (x:=ForInStep.done (some false,())) ((p0 _ _).aN ((p0 _ _).aN (e0.aN (.pure _)))) (.pure _)) (.pure _)
 |true=>
  rw[hb] at e0;cases hs:s1==s2 with
  |false=>
   rw[hs] at e1;exact RT.aN (x:=(some false,())) (RT.aN (x:=ForInStep.yield (none,())) ((p0 _ _).aN ((p0 _ _).aN (e0.aN (.pure _)))) (RT.aN (x:=ForInStep.done (some false,())) ((p1 _ _).aN ((p1 _ _).aN (e1.aN (.pure _)))) (.pure _))) (.pure _)
  |true=>
   rw[hs] at e1;exact RT.aN (x:=(none,())) (RT.aN (x:=ForInStep.yield (none,())) ((p0 _ _).aN ((p0 _ _).aN (e0.aN (.pure _)))) (RT.aN (x:=ForInStep.yield (none,())) ((p1 _ _).aN ((p1 _ _).aN (e1.aN (.pure _)))) (.pure _))) (.pure _)
theorem GA {w:World}(b1 b2:Bool)(s1 s2:ByteArray):RT (kd.bin .neq TH (hv b1 s1) (hv b2 s2)).sem w (.value (.bool (!(b1==b2&&s1==s2)))) w #[]:=by
 have hg:PP.eqGuardType PP.depth TH=false:=by kernel_rfl
 refine RT.aN (x:= .bool (!(b1==b2&&s1==s2))) (RT.aN (x:=()) (w1:=w) ?_ ?_) (.pure _)
 .unfold eqGuard
  simp only[hv];refine fL.aN (fL.aN ?_);rw[hg];exact .pure _
 .exact RT.aN (zG 9998 b1 b2 s1 s2) (.pure _)
section
variable {Δ:Type}{X:Cx Δ}{ro own:Nat->Prop}{Stop:(Nat->Prop)->Goroutine->World->Prop}{v:kd}{g:Goroutine}{w:World}{main:Bool}
theorem e9 {x:Value}{w':World}{ev:Array Event}(h:aS g=some v)(hr:RT v.sem w (.value x) w' ev):∃es,stepG PP main g w= .go (resume g x) w' es/\∀e∈es,e∈ev:=by
 obtain⟨es,e1,e2⟩:=mQ (P:=PP) (main:=main) h hr.run;exact⟨es,e1,λe he=>hr.ev▸e2 e he⟩
theorem BV {w':World}{ev:Array Event}(h:aS g=some v)(hr:RT v.sem w .skip w' ev):∃es,stepG PP main g w= .go (resume g undef) w' es/\∀e∈es,e∈ev:=by
 obtain⟨es,e1,e2⟩:=step_skip (P:=PP) (main:=main) h hr.run;exact⟨es,e1,λe he=>hr.ev▸e2 e he⟩
theorem qP {b n n':Nat}{e:Event}(hb:own b\/(ro b/\e.write=false))(h:EvB b e):EvX X ro own n n' e:= .inl ⟨b,hb.imp id λh=> .inr h,h.2⟩
theorem cZ {x:Value}(h:aS g=some v)(hr:∀w₁,RX X ro own w w₁->∃w' ev,RT v.sem w₁ (.value x) w' ev/\w'.tape=w₁.tape/\w'.output=w₁.output/\w'.os=w₁.os/\w'.heap=w₁.heap/\∀e∈ev,∃b,EvB b e/\(own b\/(ro b/\e.write=false)))
  (k:∀w',RX X ro own w w'->aD PP main (eY X false ro) Stop own (resume g x) w'):aD PP main (eY X false ro) Stop own g w:=by
 refine aD.step (cT h).1 λw₁ h1=>?_
 obtain⟨w',ev,r,a1,a2,a3,a4,a5⟩:=hr w₁ h1;obtain⟨es,e1,e2⟩:=e9 (main:=main) h r;have hup:(eY X false ro).up own w₁ w'=own:=by
  funext b
  exact propext ⟨λh=>h.elim id λz=>by rw[a4] at z;omega,.inl⟩
 refine⟨_,w',es,e1,⟨a1,a2,by rw[a4];exact Nat.le_refl _,by rw[a3];exact .refl _,λb _ _=>by rw[a4],λe he=>?_,λh=>absurd h (by simp)⟩,?_⟩
 .obtain⟨b,h2,h3⟩:=a5 e (e2 e he)
  exact qP h3 h2
 .rw[hup]
  exact k w' (h1.trans X ⟨a1,a2,by rw[a4];exact Nat.le_refl _,by rw[a3];exact .refl _,λb _ _=>by rw[a4],λ⟨s,hs⟩=>⟨s,by rw[ShAt,a4];exact hs⟩⟩)
theorem gh {o:Obj}{f:Nat->Value}(h:aS g=some v)(hr:∀w₁,RX X ro own w w₁->∃ev,RT v.sem w₁ (.value (f w₁.heap.size)) {w₁ with heap:=w₁.heap.push o} ev/\∀e∈ev,∃b,EvB b e/\(own b\/(ro b/\e.write=false)))
  (k:∀w' B,RX X ro own w w'->w.heap.size<=B->w'.heap[B]? =some o->aD PP main (eY X false ro) Stop (λb=>own b\/b=B) (resume g (f B)) w'):aD PP main (eY X false ro) Stop own g w:=by
 refine aD.step (cT h).1 λw₁ h1=>?_
 obtain⟨ev,r,a5⟩:=hr w₁ h1;obtain⟨es,e1,e2⟩:=e9 (main:=main) h r;have hup:(eY X false ro).up own w₁ {w₁ with heap:=w₁.heap.push o}=λb=>own b\/b=w₁.heap.size:=by
  funext b
  show(own b\/(w₁.heap.size<=b/\b<(w₁.heap.push o).size))=_;rw[Array.size_push];exact propext ⟨λh=>h.imp id λz=>by omega,λh=>h.imp id λz=>by omega⟩
 have old:∀b,b<w₁.heap.size->(w₁.heap.push o)[b]? =w₁.heap[b]? :=λb hb=>by rw[Array.getElem?_push];rw[if_neg (by omega)]
 refine⟨_,_,es,e1,⟨rfl,rfl,by simp,.refl _,λb hb _=>old b hb,λe he=>?_,λh=>absurd h (by simp)⟩,?_⟩
 .obtain⟨b,h2,h3⟩:=a5 e (e2 e he)
  exact qP h3 h2
 .rw[hup]
  refine k _ _ (h1.trans X ⟨rfl,rfl,by simp,.refl _,λb hb _=>old b hb,λ⟨s,hs⟩=>⟨s,?_,?_⟩⟩) h1.size (by simp)
  .rw[<-hs.1];exact old _ (Array.getElem?_eq_some_iff.1 hs.1).1
  .rw[<-hs.2];exact old _ (Array.getElem?_eq_some_iff.1 hs.2).1
theorem jw {b:Nat}{A:Obj->Value->Prop}(hb:own b)(hX:b≠X.Fd/\b≠X.Wg)(h:aS g=some v)
  (hr:∀w₁,RX X ro own w w₁->∃x o w' ev,(RT v.sem w₁ (.value x) w' ev\/(RT v.sem w₁ .skip w' ev/\x=undef))/\zl b o w₁ w'/\A o x/\∀e∈ev,∃c,EvB c e/\(own c\/(ro c/\e.write=false)))
  (k:∀w' o x,(∀c,c<w.heap.size->c≠b->own c\/ro c->w'.heap[c]? =w.heap[c]?)->w'.heap[b]? =some o->A o x->RX X ro (λc=>own c/\c≠b) w w'->aD PP main (eY X false ro) Stop own (resume g x) w') (hro:¬ro b):aD PP main (eY X false ro) Stop own g w:=by
 refine aD.step (cT h).1 λw₁ h1=>?_
 obtain⟨x,o,w',ev,r,u,a,a5⟩:=hr w₁ h1;have hst:∃es,stepG PP main g w₁= .go (resume g x) w' es/\∀e∈es,e∈ev:=by
  rcases r with r|⟨r,rfl⟩
  .exact e9 (main:=main) h r
  .exact BV (main:=main) h r
 obtain⟨es,e1,e2⟩:=hst;have hup:(eY X false ro).up own w₁ w'=own:=by
  funext c
  exact propext ⟨λh=>h.elim id λz=>by rw[u.size] at z;omega,.inl⟩
 refine⟨_,w',es,e1,⟨u.tape,u.output,Nat.le_of_eq u.size.symm,by rw[u.os];exact .refl _,λc _ hc=>u.rest c λe=>hc (e▸hb),λe he=>?_,λh=>absurd h (by simp)⟩,?_⟩
 .obtain⟨c,h2,h3⟩:=a5 e (e2 e he)
  exact qP h3 h2
 .rw[hup]
  refine k w' o x (λc hc hne ho=>(u.rest c hne).trans (h1.keep c hc ho)) u.at_ a ?_;refine⟨u.tape.trans h1.tape,u.output.trans h1.output,Nat.le_trans h1.size (Nat.le_of_eq u.size.symm),by rw[u.os];exact h1.os,λc hc ho=>?_,λl=>?_⟩
  .have hne:c≠b:=λe=>ho.elim (λh=>h.2 e) λh=>hro (e▸h)
   exact(u.rest c hne).trans (h1.keep c hc (ho.imp (·.1) id))
  .obtain⟨s,hs⟩:=h1.live l
   exact⟨s,(u.rest _ hX.1.symm).trans hs.1,(u.rest _ hX.2.symm).trans hs.2⟩
end
abbrev TM:TypeId:=153
abbrev Kr:TypeId:=164
section
variable (F M B7 B8:Nat)(side:Nat)(path:ByteArray)(hb:Bool)(hc:ByteArray)(x:Value)(fr:Frame)(cs:List Frame)
def gP0:Goroutine:=MY 167 #[pt F,.string path,.int .i64 (side:Int),hv hb hc] 31 fr cs
def gP1:Goroutine:=O (gP0 F side path hb hc fr cs)
theorem Ym:av PP false (gP0 F side path hb hc fr cs) (gP1 F side path hb hc fr cs):=aI λws=>by kernel_rfl
theorem Rm:aS (gP1 F side path hb hc fr cs)=some (.box TH (hv hb hc)):=by kernel_rfl
def fP:Frame:=(On 7 (resume (gP1 F side path hb hc fr cs) (pb B7))).callers.head?.getD default
theorem Yl:av PP false (resume (gP1 F side path hb hc fr cs) (pb B7)) (gL0 F (fP F B7 side path hb hc fr cs) (fr::cs)):=aM 7 (bJ PP false 7 (resume (gP1 F side path hb hc fr cs) (pb B7))) λws=>by kernel_rfl
def gP3:Goroutine:=cA (fP F B7 side path hb hc fr cs) (fr::cs) U
def gP4:Goroutine:=O (gP3 F B7 side path hb hc fr cs)
theorem Yk:av PP false (gP3 F B7 side path hb hc fr cs) (gP4 F B7 side path hb hc fr cs):=aI λws=>by kernel_rfl
theorem Yi:aS (gP4 F B7 side path hb hc fr cs)=some (.load TM (.pointer (some ⟨F,2,none⟩))):=by kernel_rfl
def gP5:Goroutine:=O (resume (gP4 F B7 side path hb hc fr cs) (.map (some M)))
theorem Yj:av PP false (resume (gP4 F B7 side path hb hc fr cs) (.map (some M))) (gP5 F M B7 side path hb hc fr cs):=aI λws=>by kernel_rfl
theorem Yg:aS (gP5 F M B7 side path hb hc fr cs)=some (.lookup TM (.map (some M)) (.string path) false):=by kernel_rfl
def gP6:Goroutine:=O (resume (gP5 F M B7 side path hb hc fr cs) x)
theorem Yh:av PP false (resume (gP5 F M B7 side path hb hc fr cs) x) (gP6 F M B7 side path hb hc x fr cs):=aI λws=>by kernel_rfl
theorem Yf:aS (gP6 F M B7 side path hb hc x fr cs)=some (.alloc Kr):=by kernel_rfl
def gP7:Goroutine:=O (resume (gP6 F M B7 side path hb hc x fr cs) (pb B8))
theorem Ye:av PP false (resume (gP6 F M B7 side path hb hc x fr cs) (pb B8)) (gP7 F M B7 B8 side path hb hc x fr cs):=aI λws=>by kernel_rfl
theorem Yc:aS (gP7 F M B7 B8 side path hb hc x fr cs)=some (.store Kr (pb B8) x):=by kernel_rfl
def gP8:Goroutine:=O (resume (gP7 F M B7 B8 side path hb hc x fr cs) undef)
theorem Yd:av PP false (resume (gP7 F M B7 B8 side path hb hc x fr cs) undef) (gP8 F M B7 B8 side path hb hc x fr cs):=aI λws=>by kernel_rfl
theorem Ya:aS (gP8 F M B7 B8 side path hb hc x fr cs)=some (.indexAddr 159 (pb B8) (.int .i64 (side:Int))):=by kernel_rfl
def gP9:Goroutine:=O (resume (gP8 F M B7 B8 side path hb hc x fr cs) (.pointer (some ⟨B8,side,none⟩)))
theorem Yb:av PP false (resume (gP8 F M B7 B8 side path hb hc x fr cs) (.pointer (some ⟨B8,side,none⟩))) (gP9 F M B7 B8 side path hb hc x fr cs):=aI λws=>by kernel_rfl
theorem X8:aS (gP9 F M B7 B8 side path hb hc x fr cs)=some (.store 4 (.pointer (some ⟨B8,side,none⟩)) (.bool true)):=by kernel_rfl
def Rw:Goroutine:=O (resume (gP9 F M B7 B8 side path hb hc x fr cs) undef)
theorem X9:av PP false (resume (gP9 F M B7 B8 side path hb hc x fr cs) undef) (Rw F M B7 B8 side path hb hc x fr cs):=aI λws=>by kernel_rfl
theorem Ru:aS (Rw F M B7 B8 side path hb hc x fr cs)=some (.load TH (pb B7)):=by kernel_rfl
def Rt:Goroutine:=O (resume (Rw F M B7 B8 side path hb hc x fr cs) (hv hb hc))
theorem Rv:av PP false (resume (Rw F M B7 B8 side path hb hc x fr cs) (hv hb hc)) (Rt F M B7 B8 side path hb hc x fr cs):=aI λws=>by kernel_rfl
theorem Rr:aS (Rt F M B7 B8 side path hb hc x fr cs)=some (.indexAddr 162 (.pointer (some ⟨B8,2,none⟩)) (.int .i64 (side:Int))):=by kernel_rfl
def Rq:Goroutine:=O (resume (Rt F M B7 B8 side path hb hc x fr cs) (.pointer (some ⟨B8,2+2*side,none⟩)))
theorem Rs:av PP false (resume (Rt F M B7 B8 side path hb hc x fr cs) (.pointer (some ⟨B8,2+2*side,none⟩))) (Rq F M B7 B8 side path hb hc x fr cs):=aI λws=>by kernel_rfl
theorem Ro:aS (Rq F M B7 B8 side path hb hc x fr cs)=some (.store TH (.pointer (some ⟨B8,2+2*side,none⟩)) (hv hb hc)):=by kernel_rfl
def MW:Goroutine:=O (resume (Rq F M B7 B8 side path hb hc x fr cs) undef)
theorem Rp:av PP false (resume (Rq F M B7 B8 side path hb hc x fr cs) undef) (MW F M B7 B8 side path hb hc x fr cs):=aI λws=>by kernel_rfl
def tmP:Array Value:=(MW F M B7 B8 side path hb hc x fr cs).frame.tmps
def nQ:Array Oper:=match(MW 0 0 0 0 0 default false default undef default []).frame.todo with|.code (.region _ ops _)::_=>ops|_=>#[]
def idP:Nat:=match(MW 0 0 0 0 0 default false default undef default []).frame.todo with|.code (.region id _ _)::_=>id|_=>0
def nj (F:Nat)(tm:Array Value)(l:List Nat)(fr:Frame)(cs:List Frame):Goroutine:=G ((base 167).at ⟨tm,[dcall 202 #[pt F]]⟩ [.inRegion nQ l]) (fr::cs)
theorem Rn:MW F M B7 B8 side path hb hc x fr cs=G ((base 167).at ⟨tmP F M B7 B8 side path hb hc x fr cs,[dcall 202 #[pt F]]⟩ [.code (.region idP nQ true)]) (fr::cs):=by kernel_rfl
theorem KW:(tmP F M B7 B8 side path hb hc x fr cs).size=35:=by kernel_rfl
theorem aat:(tmP F M B7 B8 side path hb hc x fr cs)[0]? =some (pt F):=by kernel_rfl
theorem aas:(tmP F M B7 B8 side path hb hc x fr cs)[1]? =some (.string path):=by kernel_rfl
theorem aar:(tmP F M B7 B8 side path hb hc x fr cs)[8]? =some (pb B8):=by kernel_rfl
end
section
variable (F:Nat)(y:Nat->Value)(l:List Nat)(fr:Frame)(cs:List Frame)
def BO (y:Nat->Value):Array Value:=#[y 0,y 1,y 2,y 3,y 4,y 5,y 6,y 7,y 8,y 9,y 10,y 11,y 12,y 13,y 14,y 15,y 16,y 17,y 18,y 19,y 20,y 21,y 22,y 23,y 24,y 25,y 26,y 27,y 28,y 29,y 30,y 31,y 32,y 33,y 34]
theorem po (tm:Array Value)(h:tm.size=35):tm=BO λi=>tm.getD i undef:=by
 have e:tm=((List.range 35).map λi=>tm.getD i undef).toArray:=by
  apply Array.ext
  .simp[h]
  .intro i h1 h2
   simp[Array.getD_eq_getD_getElem?,h1]
 exact e.trans (by kernel_rfl)
theorem Ca (tm:Array Value)(h:tm.size=35):tm=#[tm.getD 0 undef,tm.getD 1 undef,tm.getD 2 undef,tm.getD 3 undef,tm.getD 4 undef,tm.getD 5 undef,tm.getD 6 undef,tm.getD 7 undef,tm.getD 8 undef,tm.getD 9 undef,tm.getD 10 undef,tm.getD 11 undef,tm.getD 12 undef,tm.getD 13 undef,tm.getD 14 undef,tm.getD 15 undef,tm.getD 16 undef,tm.getD 17 undef,tm.getD 18 undef,tm.getD 19 undef,tm.getD 20 undef,tm.getD 21 undef,tm.getD 22 undef,tm.getD 23 undef,tm.getD 24 undef,tm.getD 25 undef,tm.getD 26 undef,tm.getD 27 undef,tm.getD 28 undef,tm.getD 29 undef,tm.getD 30 undef,tm.getD 31 undef,tm.getD 32 undef,tm.getD 33 undef,tm.getD 34 undef]:=po tm h
theorem abD:av PP false (nj F (BO y) (0::l) fr cs) (nj F ((BO y).setIfInBounds 29 (y 0)) l fr cs):=aM 1 1 λws=>by kernel_rfl
theorem abC:av PP false (nj F (#[y 0,y 1,y 2,y 3,y 4,y 5,y 6,y 7,y 8,y 9,y 10,y 11,y 12,y 13,y 14,y 15,y 16,y 17,y 18,y 19,y 20,y 21,y 22,y 23,y 24,y 25,y 26,y 27,y 28,pt F,y 30,y 31,y 32,y 33,y 34]) (1::l) fr cs) (nj F ((#[y 0,y 1,y 2,y 3,y 4,y 5,y 6,y 7,y 8,y 9,y 10,y 11,y 12,y 13,y 14,y 15,y 16,y 17,y 18,y 19,y 20,y 21,y 22,y 23,y 24,y 25,y 26,y 27,y 28,pt F,y 30,y 31,y 32,y 33,y 34]:Array Value).setIfInBounds 30 (pt F)) l fr cs):=aM 1 1 λws=>by kernel_rfl
theorem abB:av PP false (nj F (#[y 0,y 1,y 2,y 3,y 4,y 5,y 6,y 7,y 8,y 9,y 10,y 11,y 12,y 13,y 14,y 15,y 16,y 17,y 18,y 19,y 20,y 21,y 22,y 23,y 24,y 25,y 26,y 27,y 28,y 29,pt F,y 31,y 32,y 33,y 34]) (2::l) fr cs) (nj F ((#[y 0,y 1,y 2,y 3,y 4,y 5,y 6,y 7,y 8,y 9,y 10,y 11,y 12,y 13,y 14,y 15,y 16,y 17,y 18,y 19,y 20,y 21,y 22,y 23,y 24,y 25,y 26,y 27,y 28,y 29,pt F,y 31,y 32,y 33,y 34]:Array Value).setIfInBounds 31 (.pointer (some ⟨F,2,none⟩))) l fr cs):=aM 1 1 λws=>by kernel_rfl
theorem abA:aS (nj F (BO y) (3::l) fr cs)=some (.load TM (y 31)):=by kernel_rfl
theorem Wm (v:Value):resume (nj F (BO y) (3::l) fr cs) v=nj F ((BO y).setIfInBounds 32 v) l fr cs:=by kernel_rfl
theorem abz:av PP false (nj F (BO y) (4::l) fr cs) (nj F ((BO y).setIfInBounds 33 (y 1)) l fr cs):=aM 1 1 λws=>by kernel_rfl
theorem aby:aS (nj F (BO y) (5::l) fr cs)=some (.load Kr (y 8)):=by kernel_rfl
theorem Wl (v:Value):resume (nj F (BO y) (5::l) fr cs) v=nj F ((BO y).setIfInBounds 34 v) l fr cs:=by kernel_rfl
theorem abx:aS (nj F (BO y) (6::l) fr cs)=some (.mapUpdate TM (y 32) (y 33) (y 34)):=by kernel_rfl
theorem Wk:resume (nj F (BO y) (6::l) fr cs) undef=nj F (BO y) l fr cs:=by kernel_rfl
def pfP (tm:Array Value):Frame:=(base 167).at ⟨tm,[]⟩ []
theorem Rl (tm:Array Value):av PP false (nj F tm [] fr cs) (gU0 F (pfP tm) (fr::cs)):=aM 3 (bJ PP false 3 (nj F tm [] fr cs)) λws=>by kernel_rfl
theorem LV (tm:Array Value):av PP false (G {pfP tm with mode:= .returning} (fr::cs)) (cA fr cs U):=aM 1 1 λws=>by kernel_rfl
def bits (n:Nat):Array Bool:=#[n%2==1,n/2%2==1,n/4%2==1,n/8%2==1,n/16%2==1,n/32%2==1,n/64%2==1]
def needs:Nat->List Nat
 |1=>[0]|2=>[1]|3=>[2]|6=>[3,4,5]|_=>[]
def sL (b:Array Bool):Bool:=(List.range 7).all λi=>!b.getD i false||(needs i).all λj=>b.getD j false
theorem I7:nQ.size=7:=by kernel_rfl
theorem VU:((List.range 128).all λn=>(Region.ready .any nQ (bits n)).all λi=>decide (i<7)&&!(bits n).getD i true&&(needs i).all λj=>(bits n).getD j false)=true:=by kernel_rfl
theorem P3:((List.range 128).all λn=>!(Region.ready .any nQ (bits n)).isEmpty||!sL (bits n)||(bits n).all id)=true:=by kernel_rfl
def cntF (n:Nat):Nat:=((List.range 7).filter λi=>!(bits n).getD i true).length
theorem P2:((List.range 128).all λn=>(Region.ready .any nQ (bits n)).all λi=>(bits n).setIfInBounds i true==bits (n+2^i)&&decide (cntF (n+2^i)+1=cntF n)&&decide (n+2^i<128)&&
  (!sL (bits n)||sL (bits (n+2^i)))&&(i !=6||!sL (bits n)||cntF n==1)&&(i==6||(bits (n+2^i)).getD 6 true==(bits n).getD 6 true))=true:=by kernel_rfl
end
theorem RT.of0 {α:Type}{s:Sem α}{w w':World}{x:α}(h:∀es,s.runT PP w es=(.ok x w',es)):RT s w x w' #[]:=λes=>by rw[h,Array.append_empty]
theorem VQ {w:World}(B:Nat):∀side:Nat,side<2->RT (kd.indexAddr 159 (pb B) (.int .i64 (side:Int))).sem w (.value (.pointer (some ⟨B,side,none⟩))) w #[]
 |0,_=> .of0 λes=>by kernel_rfl
 |1,_=> .of0 λes=>by kernel_rfl
theorem VP {w:World}(B:Nat):∀side:Nat,side<2->RT (kd.indexAddr 162 (.pointer (some ⟨B,2,none⟩)) (.int .i64 (side:Int))).sem w (.value (.pointer (some ⟨B,2+2*side,none⟩))) w #[]
 |0,_=> .of0 λes=>by kernel_rfl
 |1,_=> .of0 λes=>by kernel_rfl
theorem KT:PP.underlying TM=some (.map 9 Kr):=by kernel_rfl
theorem KU:PP.underlying 9=some .string:=by kernel_rfl
def zF:Value:= .agg #[.bool false,.bool false,.bool false,.string ⟨#[]⟩,.bool false,.string ⟨#[]⟩]
theorem KE:(PP.info? Kr).bind (·.zero)=some zF:=by kernel_rfl
theorem MS (md:Region.Mode)(ops:Array Oper)(fuel t:Nat)(listed:Array Bool)(hlt:t%(Region.ready md ops listed).length<(Region.ready md ops listed).length):
  Region.linearise.go md ops (fuel+1) t listed []=(Region.ready md ops listed)[t%(Region.ready md ops listed).length]::
   Region.linearise.go md ops fuel (t/(Region.ready md ops listed).length) (listed.setIfInBounds ((Region.ready md ops listed)[t%(Region.ready md ops listed).length]) true) []:=by
 simp only[Region.linearise.go]
 change (match(Region.ready md ops listed)[t%(Region.ready md ops listed).length]? with
  |some i=>Region.linearise.go md ops fuel (t/(Region.ready md ops listed).length) (listed.setIfInBounds i true) [i]
  |none=>[].reverse)=_
 rw[List.getElem?_eq_getElem hlt];simp only;rw[Go.linearise_go_acc,List.reverse_singleton,List.singleton_append]
structure Kept (n:Nat)(F M:Nat)(path:ByteArray)(fc:Array Value)(B8:Nat)(tm:Array Value):Prop where
 size:tm.size=35
 s0:tm[0]? =some (pt F)
 s1:tm[1]? =some (.string path)
 s8:tm[8]? =some (pb B8)
 r0:(bits n).getD 0 false=true->tm[29]? =some (pt F)
 r1:(bits n).getD 1 false=true->tm[30]? =some (pt F)
 r2:(bits n).getD 2 false=true->tm[31]? =some (.pointer (some ⟨F,2,none⟩))
 r3:(bits n).getD 3 false=true->tm[32]? =some (.map (some M))
 r4:(bits n).getD 4 false=true->tm[33]? =some (.string path)
 r5:(bits n).getD 5 false=true->tm[34]? =some (.agg fc)
section
variable {F M B8:Nat}{path:ByteArray}{fc:Array Value}{tm:Array Value}{n i:Nat}
theorem Kept.set (h:Kept n F M path fc B8 tm)(hb:(bits n).setIfInBounds i true=bits (n+2^i))(hi:i<6){v:Value}
  (hv:v=match i with|0=>pt F|1=>pt F|2=> .pointer (some ⟨F,2,none⟩)|3=> .map (some M)|4=> .string path|_=> .agg fc):Kept (n+2^i) F M path fc B8 (tm.setIfInBounds (29+i) v):=by
 have hs:=h.size;have at_:∀j,j≠29+i->(tm.setIfInBounds (29+i) v)[j]? =tm[j]? :=λj hj=>by rw[Array.getElem?_setIfInBounds_ne hj.symm]
 have self:(tm.setIfInBounds (29+i) v)[29+i]? =some v:=by rw[Array.getElem?_setIfInBounds_self_of_lt (by omega)]
 have bt:∀j,(bits (n+2^i)).getD j false=true->j=i\/(bits n).getD j false=true:=by
  intro j hj
  by_cases e:j=i
  .exact .inl e
  .right
   rw[<-hb,Array.getD_eq_getD_getElem?,Array.getElem?_setIfInBounds_ne (λq=>e q.symm),<-Array.getD_eq_getD_getElem?] at hj;exact hj
 refine⟨by simp[hs],by rw[at_ 0 (by omega)];exact h.s0,by rw[at_ 1 (by omega)];exact h.s1,by rw[at_ 8 (by omega)];exact h.s8,?_,?_,?_,?_,?_,?_⟩<;>intro hj<;>rcases bt _ hj with e|e
 .subst e;subst hv;exact self
 .by_cases q:i=0
  .subst q;subst hv;exact self
  .rw[at_ 29 (by omega)];exact h.r0 e
 .subst e;subst hv;exact self
 .by_cases q:i=1
  .subst q;subst hv;exact self
  .rw[at_ 30 (by omega)];exact h.r1 e
 .subst e;subst hv;exact self
 .by_cases q:i=2
  .subst q;subst hv;exact self
  .rw[at_ 31 (by omega)];exact h.r2 e
 .subst e;subst hv;exact self
 .by_cases q:i=3
  .subst q;subst hv;exact self
  .rw[at_ 32 (by omega)];exact h.r3 e
 .subst e;subst hv;exact self
 .by_cases q:i=4
  .subst q;subst hv;exact self
  .rw[at_ 33 (by omega)];exact h.r4 e
 .subst e;subst hv;exact self
 .by_cases q:i=5
  .subst q;subst hv;exact self
  .rw[at_ 34 (by omega)];exact h.r5 e
end
theorem zU {Δ:Type}{X:Cx Δ}{ro own:Nat->Prop}{Stop:(Nat->Prop)->Goroutine->World->Prop}{w:World}{g:Goroutine}{v:Value}(h:aS g=some (.load TM v))(hv:v= .pointer (some ⟨X.Fd,2,none⟩))(live:∃s,ShAt X w s)
  (k:∀w2,RX X ro own w w2->aD PP false (eY X false ro) Stop own (resume g (.map (some X.M))) w2):aD PP false (eY X false ro) Stop own g w:=by
 subst hv;refine aD.step (cT h).1 λw1 h1=>?_
 obtain⟨s,hs⟩:=h1.live live;have hc:w1.cell? ⟨X.Fd,2,none⟩=some (.map (some X.M)):=by simp[World.cell?,hs.1]
 have r:RT (kd.load TM (.pointer (some ⟨X.Fd,2,none⟩))).sem w1 (.value (.map (some X.M))) w1 #[⟨.cell ⟨X.Fd,2,none⟩,false,false⟩]:=by
  refine RT.eD (x:= .map (some X.M)) ?_ (.pure _);show RT (do if<-isAgg TM then Pure.pure (.agg (<-loadCells ⟨X.Fd,2,none⟩ (<-Go.sizeOf TM))) else load ⟨X.Fd,2,none⟩) _ _ _ _;refine(fM (b:=false)).aN ?_;simp only[Bool.false_eq_true,if_false];exact jD hc
 obtain⟨es,e1,e2⟩:=e9 (main:=false) h r;refine⟨_,w1,es,e1,⟨rfl,rfl,Nat.le_refl _,.refl _,λ_ _ _=>rfl,λe he=>?_,λh=>absurd h (by simp)⟩,?_⟩
 .have:=e2 e he
  simp at this;subst this;exact .inr (.inl ⟨rfl,rfl,rfl⟩)
 .have e:=(jO (X:=X) false ro own w1).2
  rw[e];exact k w1 h1
section
variable {Δ:Type}{X:Cx Δ}{ro own:Nat->Prop}{Stop:(Nat->Prop)->Goroutine->World->Prop}{w:World}{M B8:Nat}{path:ByteArray}{fc:Array Value}{fr:Frame}{cs:List Frame}{es:Array MapEntry}{c:Nat}{f:ByteArray->Option Value}
variable (hXM:X.M=M)(hne:M≠X.Fd/\M≠X.Wg)(xE:own M)(GZ:own B8)(QZ:¬ro M)(hm:di es c f)(hfc:fc.size=6)
structure Mid (X:Cx Δ)(ro own:Nat->Prop)(M B8:Nat)(fc:Array Value)(es:Array MapEntry)(c:Nat)(w w1:World):Prop where
 r:RX X ro own w w1
 live:∃s,ShAt X w1 s
 at8:w1.heap[B8]? =some (.cells fc Kr (0,0))
 atM:w1.heap[M]? =some (.map es c)
include xE GZ
theorem Mid.rely {w1 w2:World}(h:Mid X ro own M B8 fc es c w w1)(h2:RX X ro own w1 w2):Mid X ro own M B8 fc es c w w2:=
 ⟨h.r.trans X h2,h2.live h.live,(h2.keep B8 (Array.getElem?_eq_some_iff.1 h.at8).1 (.inl GZ)).trans h.at8,(h2.keep M (Array.getElem?_eq_some_iff.1 h.atM).1 (.inl xE)).trans h.atM⟩
variable {n:Nat}{tm:Array Value}{L:List Nat}{w1:World}(hK:Kept n X.Fd M path fc B8 tm)(hA:Mid X ro own M B8 fc es c w w1)
include hK hA
theorem WP (hset:(bits n).setIfInBounds 0 true=bits (n+2^0))(IH:∀{yG:Array Value} {w2:World},Mid X ro own M B8 fc es c w w2->Kept (n+2^0) X.Fd M path fc B8 yG->aD PP false (eY X false ro) Stop own (nj X.Fd yG L fr cs) w2):
  aD PP false (eY X false ro) Stop own (nj X.Fd tm (0::L) fr cs) w1:=by
 have hy:=po tm hK.size;rw[hy];refine aC (abD _ _ _ _ _) ?_;rw[<-hy,bX hK.s0];exact IH hA (hK.set hset (by decide) rfl)
theorem WO (hset:(bits n).setIfInBounds 1 true=bits (n+2^1))(d0:(bits n).getD 0 false=true)(IH:∀{yG:Array Value} {w2:World},Mid X ro own M B8 fc es c w w2->Kept (n+2^1) X.Fd M path fc B8 yG->aD PP false (eY X false ro) Stop own (nj X.Fd yG L fr cs) w2):
  aD PP false (eY X false ro) Stop own (nj X.Fd tm (1::L) fr cs) w1:=by
 have hy:=Ca tm hK.size;have e29:=bX (hK.r0 d0);rw[e29] at hy;have h:=abC X.Fd (λi=>tm.getD i undef) L fr cs;dsimp only at h;rw[<-hy] at h;refine aC h ?_;exact IH hA (hK.set hset (by decide) rfl)
theorem WN (hset:(bits n).setIfInBounds 2 true=bits (n+2^2))(d1:(bits n).getD 1 false=true)(IH:∀{yG:Array Value} {w2:World},Mid X ro own M B8 fc es c w w2->Kept (n+2^2) X.Fd M path fc B8 yG->aD PP false (eY X false ro) Stop own (nj X.Fd yG L fr cs) w2):
  aD PP false (eY X false ro) Stop own (nj X.Fd tm (2::L) fr cs) w1:=by
 have hy:=Ca tm hK.size;have e30:=bX (hK.r1 d1);rw[e30] at hy;have h:=abB X.Fd (λi=>tm.getD i undef) L fr cs;dsimp only at h;rw[<-hy] at h;refine aC h ?_;exact IH hA (hK.set hset (by decide) rfl)
include hXM in
theorem WM (hset:(bits n).setIfInBounds 3 true=bits (n+2^3))(d2:(bits n).getD 2 false=true)(IH:∀{yG:Array Value} {w2:World},Mid X ro own M B8 fc es c w w2->Kept (n+2^3) X.Fd M path fc B8 yG->aD PP false (eY X false ro) Stop own (nj X.Fd yG L fr cs) w2):
  aD PP false (eY X false ro) Stop own (nj X.Fd tm (3::L) fr cs) w1:=by
 have hy:=po tm hK.size;have e31:=bX (hK.r2 d2);rw[hy];refine zU (X:=X) (abA _ _ _ _ _) e31 hA.live λw2 h2=>?_
 rw[Wm,<-hy,hXM];exact IH (hA.rely xE GZ h2) (hK.set hset (by decide) rfl)
theorem WL (hset:(bits n).setIfInBounds 4 true=bits (n+2^4))(IH:∀{yG:Array Value} {w2:World},Mid X ro own M B8 fc es c w w2->Kept (n+2^4) X.Fd M path fc B8 yG->aD PP false (eY X false ro) Stop own (nj X.Fd yG L fr cs) w2):
  aD PP false (eY X false ro) Stop own (nj X.Fd tm (4::L) fr cs) w1:=by
 have hy:=po tm hK.size;rw[hy];refine aC (abz _ _ _ _ _) ?_;rw[<-hy,bX hK.s1];exact IH hA (hK.set hset (by decide) rfl)
include hfc in
theorem WK (hset:(bits n).setIfInBounds 5 true=bits (n+2^5))(IH:∀{yG:Array Value} {w2:World},Mid X ro own M B8 fc es c w w2->Kept (n+2^5) X.Fd M path fc B8 yG->aD PP false (eY X false ro) Stop own (nj X.Fd yG L fr cs) w2):
  aD PP false (eY X false ro) Stop own (nj X.Fd tm (5::L) fr cs) w1:=by
 have hy:=po tm hK.size;rw[hy];have e8:=bX hK.s8;have hv:aS (nj X.Fd (BO λi=>tm.getD i undef) (5::L) fr cs)=some (.load Kr (.pointer (some ⟨B8,0,none⟩))):=by
  rw[aby,e8];rfl
 refine cZ hv (x:= .agg fc) (λw2 h2=>?_) λw2 h2=>?_
 .obtain⟨ev,r1,r2⟩:=jM (t:=Kr) (off:=0) (n:=6) (hA.rely xE GZ h2).at8 (by kernel_rfl) (by kernel_rfl) (by omega)
  have e:fc.extract 0 (0+6)=fc:=by rw[show 0+6=fc.size by omega];simp
  rw[e] at r1;exact⟨w2,ev,r1,rfl,rfl,rfl,rfl,λe he=>⟨B8,(r2 e he).1,.inl GZ⟩⟩
 .rw[Wl,<-hy]
  exact IH (hA.rely xE GZ h2) (hK.set hset (by decide) rfl)
include hne QZ hm in
theorem WJ (d3:(bits n).getD 3 false=true)(d4:(bits n).getD 4 false=true)(d5:(bits n).getD 5 false=true)
  (k:∀tm' w' es' c',tm'.size=35->w'.heap[M]? =some (.map es' c')->di es' c' (λs=>if s=path then some (.agg fc) else f s)->RX X ro (λc=>own c/\c≠M) w w'->aD PP false (eY X false ro) Stop own (nj X.Fd tm' [] fr cs) w'):
  aD PP false (eY X false ro) Stop own (nj X.Fd tm (6::[]) fr cs) w1:=by
 have hy:=po tm hK.size;rw[hy];have e32:=bX (hK.r3 d3);have e33:=bX (hK.r4 d4);have e34:=bX (hK.r5 d5);have hv:aS (nj X.Fd (BO λi=>tm.getD i undef) (6::[]) fr cs)=some (.mapUpdate TM (.map (some M)) (.string path) (.agg fc)):=by
  rw[abx,e32,e33,e34]
 refine jw (A:=λo x=>x=undef/\∃es' c',o= .map es' c'/\di es' c' λs=>if s=path then some (.agg fc) else f s) xE hne hv (λw2 h2=>?_) (λw2 o x h2 h3 h4 h5=>?_) QZ
 .obtain⟨es',c',w',ev,r1,r2,r3,r4⟩:=AF (t:=TM) (v:= .agg fc) (s:=path) KT KU (hA.rely xE GZ h2).atM hm
  exact⟨undef,_,w',ev,.inr ⟨r1,rfl⟩,r2,⟨rfl,es',c',rfl,r4⟩,λe he=>⟨M,r3 e he,.inl xE⟩⟩
 .obtain⟨rfl,es',c',rfl,h6⟩:=h4
  rw[Wk];have hr:=hA.r;exact k _ w2 es' c' (by simp[BO]) h3 h6 (RX.trans X (b:=w1) ⟨hr.tape,hr.output,hr.size,hr.os,λb hb ho=>hr.keep b hb (ho.imp (·.1) id),hr.live⟩ h5)
omit hK hA
include hXM hne QZ hm hfc
theorem E6 (k:∀tm' w' es' c',tm'.size=35->w'.heap[M]? =some (.map es' c')->di es' c' (λs=>if s=path then some (.agg fc) else f s)->RX X ro (λc=>own c/\c≠M) w w'->aD PP false (eY X false ro) Stop own (nj X.Fd tm' [] fr cs) w')
  (fuel:Nat):∀(t n:Nat) (tm:Array Value) (w1:World),Mid X ro own M B8 fc es c w w1->n<128->sL (bits n)=true->(bits n).getD 6 true=false->cntF n=fuel->Kept n X.Fd M path fc B8 tm->
   aD PP false (eY X false ro) Stop own (nj X.Fd tm (Region.linearise.go .any nQ fuel t (bits n) []) fr cs) w1:=by
 induction fuel with
 |zero=>
  intro t n tm w1 _ hn hcl h6 hc _;exfalso;have:(6:Nat)∈(List.range 7).filter λi=>!(bits n).getD i true:=List.mem_filter.2 ⟨by simp,by rw[h6];rfl⟩
  unfold cntF at hc;rw[List.length_eq_zero_iff] at hc;rw[hc] at this;cases this
 |succ fuel ih=>
  intro t n tm w1 hA hn hcl h6 hc hK;have r7:=List.all_eq_true.1 VU n (List.mem_range.2 hn);have r7n:=List.all_eq_true.1 P3 n (List.mem_range.2 hn);have r7s:=List.all_eq_true.1 P2 n (List.mem_range.2 hn);have hnil:Region.ready .any nQ (bits n)≠[]:=by
   intro e;rw[e,hcl] at r7n;simp only[List.isEmpty_nil,Bool.not_true,Bool.false_or] at r7n;have:(bits n)[6]? =some true:=by
    have hs:(bits n).size=7:=rfl;have:=Array.all_eq_true_iff_forall_mem.1 r7n ((bits n)[6]'(by rw[hs];decide)) (Array.getElem_mem _);rw[Array.getElem?_eq_getElem (by rw[hs];decide)];exact congrArg some this
   rw[Array.getD_eq_getD_getElem?,this] at h6;cases h6
  have hlen:0<(Region.ready .any nQ (bits n)).length:=List.length_pos_iff.2 hnil;have hlt:=Nat.mod_lt t hlen;have hgo:=MS .any nQ fuel t (bits n) hlt;rw[hgo];generalize hi:(Region.ready .any nQ (bits n))[t%(Region.ready .any nQ (bits n)).length]=i;have him:i∈Region.ready .any nQ (bits n):=hi▸List.getElem_mem hlt;have q1:=List.all_eq_true.1 r7 i him
  have q2:=List.all_eq_true.1 r7s i him;simp only[Bool.and_eq_true,decide_eq_true_eq,Bool.or_eq_true,Bool.not_eq_true',beq_iff_eq,bne_iff_ne] at q1 q2;obtain⟨⟨hi7,hif⟩,acE⟩:=q1;obtain⟨⟨⟨⟨⟨hset,hcnt⟩,hlt2⟩,Xz⟩,h6c⟩,h6k⟩:=q2;have Xz:=Xz.resolve_left (by rw[hcl];simp);have dep:∀j,j∈needs i->(bits n).getD j false=true:=List.all_eq_true.1 acE
  have IH:i≠6->∀{yG:Array Value} {w2:World},Mid X ro own M B8 fc es c w w2->Kept (n+2^i) X.Fd M path fc B8 yG->
    aD PP false (eY X false ro) Stop own (nj X.Fd yG (Region.linearise.go .any nQ fuel (t/(Region.ready .any nQ (bits n)).length) ((bits n).setIfInBounds i true) []) fr cs) w2:=λhi6 {yG w2} a g=>by
   rw[hset];exact ih _ _ _ _ a hlt2 Xz ((h6k.resolve_left hi6).trans h6) (by omega) g
  clear hi hgo r7 r7n r7s;have YY:i=0\/i=1\/i=2\/i=3\/i=4\/i=5\/i=6:=by omega
  rcases YY with rfl|rfl|rfl|rfl|rfl|rfl|rfl
  .exact WP xE GZ hK hA hset (IH (by decide))
  .exact WO xE GZ hK hA hset (dep 0 (by simp[needs])) (IH (by decide))
  .exact WN xE GZ hK hA hset (dep 1 (by simp[needs])) (IH (by decide))
  .exact WM hXM xE GZ hK hA hset (dep 2 (by simp[needs])) (IH (by decide))
  .exact WL xE GZ hK hA hset (IH (by decide))
  .exact WK xE GZ hfc hK hA hset (IH (by decide))
  .have hf0:fuel=0:=by
    have:=(h6c.resolve_left (by simp[hcl]));omega
   subst hf0;exact WJ hne xE GZ QZ hm hK hA (dep 3 (by simp[needs])) (dep 4 (by simp[needs])) (dep 5 (by simp[needs])) k
end
abbrev iJ:=ByteArray->Option (Bool×ByteArray)
def bR (a b:Option (Bool×ByteArray)):Array Value:=
 #[.bool a.isSome,.bool b.isSome,.bool (a.getD (false,⟨#[]⟩)).1,.string (a.getD (false,⟨#[]⟩)).2,.bool (b.getD (false,⟨#[]⟩)).1,.string (b.getD (false,⟨#[]⟩)).2]
def comb (a b:Option (Bool×ByteArray)):Option Value:=if a.isSome||b.isSome then some (.agg (bR a b)) else none
theorem x7 (a b:Option (Bool×ByteArray)):(comb a b).getD zF= .agg (bR a b):=by
 cases a<;>cases b<;>rfl
def FF (a b:iJ)(o:Obj):Prop:=∃es c f,o= .map es c/\di es c f/\∀s,f s=comb (a s) (b s)
def bF:bh->Nat
 |.b=>1
 |_=>0
def iD (m:iJ)(path:ByteArray)(h:Bool×ByteArray):iJ:=λs=>if s=path then some h else m s
def z4 (r:bh)(mine other:Option (Bool×ByteArray)):Array Value:=match r with
 |.a=>bR mine other
 |_=>bR other mine
theorem Yv (r:bh)(hr:r= .a\/r= .b)(mine other:Option (Bool×ByteArray))(hb:Bool)(hc:ByteArray):
  kO (kO (z4 r mine other) [.bool true] (bF r)) [.bool hb,.string hc] (2+2*bF r)=z4 r (some (hb,hc)) other:=by
 rcases hr with rfl|rfl<;>rfl
theorem uh:∀(l:List Value) (cs:Array Value) (i:Nat),(kO cs l i).size=cs.size
 |[],_,_=>rfl
 |v::l,cs,i=>by unfold kO;rw[uh l];simp
theorem oS (r:bh)(a b:Option (Bool×ByteArray)):(z4 r a b).size=6:=by cases r<;>rfl
theorem RB (r:bh)(a b:Option (Bool×ByteArray)):∀x∈(Value.agg (z4 r a b)).cells.toList,lk x=true:=by
 have:(Value.agg (z4 r a b)).cells=z4 r a b:=rfl;rw[this];cases r<;>simp[z4,bR,lk]
theorem Rz (r:bh)(a b:Option (Bool×ByteArray)):kO zF.cells (Value.agg (z4 r a b)).cells.toList 0=z4 r a b:=by
 cases r<;>rfl
theorem Xl:(PP.info? Kr).map (·.size)=some 6:=by kernel_rfl
theorem ack:(PP.info? 4).map (·.size)=some 1:=by kernel_rfl
theorem GU:(PP.info? TH).map (·.size)=some 2:=by kernel_rfl
theorem aed:(PP.underlying TH).map (λd=>match d with|.struct _|.array _ _=>true|_=>false)=some true:=by kernel_rfl
theorem Eu {P:Program}{main:Bool}{b:Frame}{a:Act}{id:Nat}{ops:Array Oper}{k:List Item}{cs:List Frame}{w w':World}{t:Nat}(h:(choose (.order b.fn id)).run P w= .ok t w'):
  stepG P main (G (b.at a (.code (.region id ops true)::k)) cs) w= .go (G (b.at a (.inRegion ops (Region.schedule (P.follows .mixedOrders) ops t)::k)) cs) w' #[]:=by
 first
  |(simp[stepG,stepG.exec,G,Frame.at,h];done)
  |(simp[stepG,stepG.exec,G,Frame.at];simp at h;rw[h])
theorem IN {ops:Array Oper}{mixed:Bool}(hm:mixed=true)(t:Nat):Region.schedule mixed ops t=Region.linearise.go .any ops ops.size t (Array.replicate ops.size false) []:=by
 unfold Region.schedule Region.linearise;rw[hm];rfl
theorem ad3:Array.replicate 7 false=bits 0:=by rfl
theorem E7 {Δ:Type}{X:Cx Δ}{ro own:Nat->Prop}{Stop:(Nat->Prop)->Goroutine->World->Prop}{w:World}{fr:Frame}{cs:List Frame}{tm:Array Value}{F:Nat}
  (k:∀w' t,RX X ro own w w'->aD PP false (eY X false ro) Stop own (nj F tm (Region.linearise.go .any nQ 7 t (bits 0) []) fr cs) w'):
  aD PP false (eY X false ro) Stop own (G ((base 167).at ⟨tm,[dcall 202 #[pt F]]⟩ [.code (.region idP nQ true)]) (fr::cs)) w:=by
 refine aD.step rfl λw1 h1=>?_
 obtain⟨t,w',c1,c2,c3,c4,c5,_⟩:=pr (w:=w1) (q:= .order 167 idP);have hrun:=c1.run;have hm:PP.follows .mixedOrders=true:=by kernel_rfl
 have hs:=Eu (main:=false) (b:=base 167) (a:=⟨tm,[dcall 202 #[pt F]]⟩) (ops:=nQ) (k:=[]) (cs:=fr::cs) hrun;rw[IN hm,I7,ad3] at hs;have hup:(eY X false ro).up own w1 w'=own:=by
  funext b
  exact propext ⟨λh=>h.elim id λz=>by rw[c5] at z;omega,.inl⟩
 refine⟨_,w',#[],hs,⟨c2,c3,by rw[c5];exact Nat.le_refl _,by rw[c4];exact .refl _,λb _ _=>by rw[c5],by simp,λh=>absurd h (by simp)⟩,?_⟩;rw[hup];exact k w' t (h1.trans X ⟨c2,c3,by rw[c5];exact Nat.le_refl _,by rw[c4];exact .refl _,λb _ _=>by rw[c5],λ⟨s,hs⟩=>⟨s,by rw[ShAt,c5];exact hs⟩⟩)
theorem RX.sub {Δ:Type}{X:Cx Δ}{ro own own':Nat->Prop}{w w':World}(h:RX X ro own w w')(hs:∀b,own' b->own b):RX X ro own' w w':=
 ⟨h.tape,h.output,h.size,h.os,λb hb ho=>h.keep b hb (ho.imp (hs b) id),h.live⟩
theorem aW {Δ:Type}{X:Cx Δ}{ro own:Nat->Prop}{w w':World}{b:Nat}{o:Obj}(h:RX X ro own w w')(hb:own b\/ro b)(ho:w.heap[b]? =some o):w'.heap[b]? =some o:=
 (h.keep b (Array.getElem?_eq_some_iff.1 ho).1 hb).trans ho
theorem lt_of_some {w:World}{b:Nat}{o:Obj}(ho:w.heap[b]? =some o):b<w.heap.size:=(Array.getElem?_eq_some_iff.1 ho).1
section
variable {X:Cx iJ}{r:bh}{γ:Gh iJ}{w:World}{n:Nat}{path:ByteArray}{hb:Bool}{hc:ByteArray}{fr:Frame}{cs:List Frame}
structure zm (X:Cx iJ)(r:bh)(γ:Gh iJ):Prop where
 dat:X.Dat=FF
 role:r= .a\/r= .b
 room:Room X γ
 om:¬γ.own X.M
 rm:¬γ.ro X.M
 mf:X.M≠X.Fd
 mw:X.M≠X.Wg
theorem zm.worker (h:zm X r γ):vn r=false:=by rcases h.role with rfl|rfl<;>rfl
theorem zm.aic (h:zm X r γ){mine other:iJ}{o:Obj}(ho:Bt X r mine other o):∃es c f,o= .map es c/\di es c f/\∀s,(f s).getD zF= .agg (z4 r (mine s) (other s))/\(f s=none↔mine s=none/\other s=none):=by
 have hd:=h.dat;have key:∀a b:Option (Bool×ByteArray),comb a b=none↔a=none/\b=none:=λa b=>by cases a<;>cases b<;>simp[comb]
 rcases h.role with rfl|rfl
 .have ho:X.Dat mine other o:=ho
  rw[hd] at ho;obtain⟨es,c,f,h1,h2,h3⟩:=ho;exact⟨es,c,f,h1,h2,λs=>⟨by rw[h3,x7];rfl,by rw[h3];exact key _ _⟩⟩
 .have ho:X.Dat other mine o:=ho
  rw[hd] at ho;obtain⟨es,c,f,h1,h2,h3⟩:=ho;exact⟨es,c,f,h1,h2,λs=>⟨by rw[h3,x7];rfl,by rw[h3,key];exact and_comm⟩⟩
theorem zm.put (h:zm X r γ){mine other:iJ}{o:Obj}{es es':Array MapEntry}{c c':Nat}{f:ByteArray->Option Value}(ho:Bt X r mine other o)(he:o= .map es c)(hm:di es c f)
  (hm':di es' c' λs=>if s=path then some (.agg (z4 r (some (hb,hc)) (other path))) else f s):Bt X r (iD mine path (hb,hc)) other (.map es' c'):=by
 have hd:=h.dat;rcases h.role with rfl|rfl
 .have ho:X.Dat mine other o:=ho
  show X.Dat (iD mine path (hb,hc)) other _;rw[hd] at ho⊢;obtain⟨es1,c1,f1,h1,h2,h3⟩:=ho;rw[he] at h1;cases h1;refine⟨es',c',_,rfl,hm',λs=>?_⟩;have hf:f s=f1 s:=Option.ext λv=>(hm.has s v).trans (h2.has s v).symm
  by_cases hs:s=path
  .subst hs;simp[iD,comb,z4]
  .simp only[if_neg hs,iD];rw[hf,h3]
 .have ho:X.Dat other mine o:=ho
  show X.Dat other (iD mine path (hb,hc)) _;rw[hd] at ho⊢;obtain⟨es1,c1,f1,h1,h2,h3⟩:=ho;rw[he] at h1;cases h1;refine⟨es',c',_,rfl,hm',λs=>?_⟩;have hf:f s=f1 s:=Option.ext λv=>(hm.has s v).trans (h2.has s v).symm
  by_cases hs:s=path
  .subst hs;simp[iD,comb,z4]
  .simp only[if_neg hs,iD];rw[hf,h3]
theorem V7 (hS:zm X r γ)(hlow:∀b,γ.own b\/γ.ro b->b<w.heap.size)(live:∃s,ShAt X w s){B7:Nat}(h7:γ.own B7)(w7:w.heap[B7]? =some (.cells #[.bool hb,.string hc] TH (0,0)))
  (back:∀k w' own' d,(∀b,γ.own b->own' b)->(∀b,own' b->γ.own b\/w.heap.size<=b)->(∀b,own' b->b<w'.heap.size)->RR X γ w w'->LW X r {γ with own:=own',mine:=iD γ.mine path (hb,hc),other:=d} k (at_ .out n) (cA fr cs U) w'):
  Taken X r γ n (fP X.Fd B7 (bF r) path hb hc fr cs) (fr::cs) w:=by
 intro k w1 d o hr1 ho hD;have hm:=hS.worker;obtain⟨es,c,f,rfl,hmap,hf⟩:=hS.aic hD;have zT:=hr1.live live;have w71:=aW hr1 (.inl h7) w7;have als:B7≠X.M:=λe=>hS.om (e▸h7)
 refine aC (Yk X.Fd B7 (bF r) path hb hc fr cs) (zU (Yi _ _ _ _ _ _ _ _) rfl zT λw2 h2=>?_);refine aC (Yj _ _ _ _ _ _ _ _ _) ?_;have hM2:=aW h2 (.inl (.inr rfl)) ho;refine cZ (Yg _ _ _ _ _ _ _ _ _) (x:= .agg (z4 r (γ.mine path) (d path))) (λw3 h3=>?_) λw3 h3=>?_
 .have XE:=aW h3 (.inl (.inr rfl)) hM2
  have:=pq (t:=TM) (s:=path) KT KU KE XE hmap;rw[(hf path).1] at this;exact⟨w3,_,this,rfl,rfl,rfl,rfl,λe he=>⟨X.M,by simp at he;subst he;exact dQ,.inl (.inr rfl)⟩⟩
 have XE:=aW h3 (.inl (.inr rfl)) hM2;refine aC (Yh _ _ _ _ _ _ _ _ _ _) ?_;refine gh (f:=λb=>pb b) (Yf _ _ _ _ _ _ _ _ _ _) (λw4 h4=>⟨#[],mB KE,by simp⟩) λw4 B8 h4 hB8 w84=>?_
 refine aC (Ye _ _ _ B8 _ _ _ _ _ _ _) ?_;have hM4:=aW h4 (.inl (.inr rfl)) XE;have w74:=aW h4 (.inl (.inl h7)) (aW h3 (.inl (.inl h7)) (aW h2 (.inl (.inl h7)) w71));have h14:=(h2.trans X h3).trans X h4;have Tb:=h14.live zT;have hlo:w.heap.size<=B8:=Nat.le_trans hr1.size (Nat.le_trans (h2.trans X h3).size hB8);have ali:X.M<w1.heap.size:=lt_of_some ho
 have ahF:=(h2.trans X h3).size;have n8M:B8≠X.M:=λe=>by omega
 have n87:B8≠B7:=λe=>by have:=lt_of_some w7;omega
 obtain⟨s1,hs1⟩:=zT;have n8F:B8≠X.Fd/\B8≠X.Wg:=⟨λe=>by have:=lt_of_some hs1.1;omega,λe=>by have:=lt_of_some hs1.2;omega⟩
 have ro8:¬γ.ro B8:=λe=>by have:=hlow B8 (.inr e);omega
 have ow8:∀b,γ.own b->b≠B8:=λb e q=>by have:=hlow b (.inl e);omega
 have e4:∀b,γ.own b->((γ.own b\/b=X.M)\/b=B8):=λb e=> .inl (.inl e)
 have m4:(λb=>(γ.own b\/b=X.M)\/b=B8) X.M:= .inl (.inr rfl);have GK:(λb=>(γ.own b\/b=X.M)\/b=B8) B8:= .inr rfl;have H4:RX X γ.ro γ.own w w4:=hr1.trans X ((h2.sub λb e=> .inl e).trans X ((h3.sub λb e=> .inl e).trans X (h4.sub λb e=> .inl e)));clear h2 h3 h4 h14 hM2 XE hB8 ahF
 have Ui:∀{w' w'':World},RX X γ.ro (λb=>((γ.own b\/b=X.M)\/b=B8)/\b≠B8) w' w''->RX X γ.ro γ.own w' w'':=λh=>h.sub λb e=>⟨e4 b e,ow8 b e⟩
 refine jw (b:=B8) (A:=λo x=>x=undef/\o= .cells (z4 r (γ.mine path) (d path)) Kr (0,0)) GK n8F (Yc _ _ _ _ _ _ _ _ _ _ _) (λw5 h5=>?_) (λw5 o x _ w85 ha h5=>?_) ro8
 .have e8:=aW h5 (.inl GK) w84
  obtain⟨w',ev,r1,r2,r3⟩:=fK (t:=Kr) (off:=0) (v:= .agg (z4 r (γ.mine path) (d path))) e8 (by
   have:(Value.agg (z4 r (γ.mine path) (d path))).cells.size=6:=oS _ _ _;rw[this];exact Xl) (by
   have:(Value.agg (z4 r (γ.mine path) (d path))).cells.size=6:=oS _ _ _;rw[this];simp[zF,Value.cells]) (RB _ _ _)
  rw[Rz] at r2;exact⟨undef,_,w',ev,.inr ⟨r1,rfl⟩,r2,⟨rfl,rfl⟩,λe he=>⟨B8,r3 e he,.inl GK⟩⟩
 obtain⟨rfl,rfl⟩:=ha;have M5:=aW h5 (.inl ⟨m4,n8M.symm⟩) hM4;have w75:=aW h5 (.inl ⟨e4 B7 h7,n87.symm⟩) w74;have Ta:=h5.live Tb;have H5:=H4.trans X (Ui h5);refine aC (Yd _ _ _ _ _ _ _ _ _ _ _) ?_;have hside:bF r<2:=by rcases hS.role with rfl|rfl<;>decide
 refine cZ (Ya _ _ _ _ _ _ _ _ _ _ _) (x:= .pointer (some ⟨B8,bF r,none⟩)) (λw6 h6=>⟨w6,#[],VQ B8 _ hside,rfl,rfl,rfl,rfl,by simp⟩) λw6 h6=>?_
 have w86:=aW h6 (.inl GK) w85;have M6:=aW h6 (.inl m4) M5;have w76:=aW h6 (.inl (e4 B7 h7)) w75;have S9:=h6.live Ta;have H6:=H5.trans X (h6.sub e4);clear h5 h6 M5 w75 Ta H5 w85 w84 hM4 w74 Tb H4;refine aC (Yb _ _ _ _ _ _ _ _ _ _ _) ?_
 refine jw (b:=B8) (A:=λo x=>x=undef/\o= .cells (kO (z4 r (γ.mine path) (d path)) [.bool true] (bF r)) Kr (0,0)) GK n8F (X8 _ _ _ _ _ _ _ _ _ _ _) (λw7' XG=>?_) (λw7' o x _ w87 ha XG=>?_) ro8
 .have e8:=aW XG (.inl GK) w86
  obtain⟨w',ev,r1,r2,r3⟩:=fK (t:=4) (off:=bF r) (v:= .bool true) e8 ack (by
   rw[oS];show bF r+1<=6;omega) (by simp[Value.cells,lk])
  exact⟨undef,_,w',ev,.inr ⟨r1,rfl⟩,r2,⟨rfl,rfl⟩,λe he=>⟨B8,r3 e he,.inl GK⟩⟩
 obtain⟨rfl,rfl⟩:=ha;have M7:=aW XG (.inl ⟨m4,n8M.symm⟩) M6;have w77:=aW XG (.inl ⟨e4 B7 h7,n87.symm⟩) w76;have S8:=XG.live S9;have H7:=H6.trans X (Ui XG);refine aC (X9 _ _ _ _ _ _ _ _ _ _ _) ?_;refine cZ (Ru _ _ _ _ _ _ _ _ _ _ _) (x:=hv hb hc) (λw8 h8=>?_) λw8 h8=>?_
 .obtain⟨ev,r1,r2⟩:=jM (t:=TH) (off:=0) (n:=2) (aW h8 (.inl (e4 B7 h7)) w77) aed GU (by simp)
  exact⟨w8,ev,r1,rfl,rfl,rfl,rfl,λe he=>⟨B7,(r2 e he).1,.inl (e4 B7 h7)⟩⟩
 have w88:=aW h8 (.inl GK) w87;have M8:=aW h8 (.inl m4) M7;have S7:=h8.live S8;have H8:=H7.trans X (h8.sub e4);refine aC (Rv _ _ _ _ _ _ _ _ _ _ _) ?_;refine cZ (Rr _ _ _ _ _ _ _ _ _ _ _) (x:= .pointer (some ⟨B8,2+2*bF r,none⟩)) (λw9 h9=>⟨w9,#[],VP B8 _ hside,rfl,rfl,rfl,rfl,by simp⟩) λw9 h9=>?_
 have w89:=aW h9 (.inl GK) w88;have M9:=aW h9 (.inl m4) M8;have ab7:=h9.live S7;have H9:=H8.trans X (h9.sub e4);clear XG h8 h9 M6 M7 M8 w76 w77 S9 S8 S7 H6 H7 H8 w86 w87 w88;refine aC (Rs _ _ _ _ _ _ _ _ _ _ _) ?_
 refine jw (b:=B8) (A:=λo x=>x=undef/\o= .cells (z4 r (some (hb,hc)) (d path)) Kr (0,0)) GK n8F (Ro _ _ _ _ _ _ _ _ _ _ _) (λwA hA=>?_) (λwA o x _ w8A ha hA=>?_) ro8
 .have e8:=aW hA (.inl GK) w89
  obtain⟨w',ev,r1,r2,r3⟩:=fK (t:=TH) (off:=2+2*bF r) (v:=hv hb hc) e8 GU (by
   rw[uh,oS];show 2+2*bF r+2<=6;omega) (by simp[hv,Value.cells,lk])
  have e:(hv hb hc).cells.toList=[.bool hb,.string hc]:=rfl;rw[e,Yv r hS.role] at r2;exact⟨undef,_,w',ev,.inr ⟨r1,rfl⟩,r2,⟨rfl,rfl⟩,λe he=>⟨B8,r3 e he,.inl GK⟩⟩
 obtain⟨rfl,rfl⟩:=ha;have MA:=aW hA (.inl ⟨m4,n8M.symm⟩) M9;have ab6:=hA.live ab7;have HA:=H9.trans X (Ui hA);refine aC (Rp _ _ _ _ _ _ _ _ _ _ _) ?_;rw[Rn];refine E7 λwB t hB=>?_
 have w8B:=aW hB (.inl GK) w8A;have MB:=aW hB (.inl m4) MA;have S6:=hB.live ab6;have HB:=HA.trans X (hB.sub e4);refine E6 (w:=wB) rfl ⟨hS.mf,hS.mw⟩ m4 GK hS.rm hmap (oS _ _ _) (λtm' wC es' c' _ hMC hmC hC=>?_) 7 t 0 _ wB ⟨RX.refl X _ _ _,S6,w8B,MB⟩ (by decide) (by decide) (by decide) (by decide)
  ⟨KW _ _ _ _ _ _ _ _ _ _ _,aat _ _ _ _ _ _ _ _ _ _ _,aas _ _ _ _ _ _ _ _ _ _ _,aar _ _ _ _ _ _ _ _ _ _ _,λh=>absurd h (by decide),λh=>absurd h (by decide),λh=>absurd h (by decide),λh=>absurd h (by decide),λh=>absurd h (by decide),λh=>absurd h (by decide)⟩
 have HC:RX X γ.ro γ.own w wC:=HB.trans X (hC.sub λb e=>⟨e4 b e,λq=>hS.om (q▸e)⟩);refine aC (Rl _ _ _ _) ?_;have eo:(λb=>(γ.own b\/b=X.M)\/b=B8)=λb=>(γ.own b\/b=B8)\/b=X.M:=by
  funext b
  exact propext ⟨λh=>h.elim (λh=>h.elim (λh=> .inl (.inl h)) .inr) λh=> .inl (.inr h),λh=>h.elim (λh=>h.elim (λh=> .inl (.inl h)) .inr) λh=> .inl (.inr h)⟩
 rw[eo];have R2:Room X {γ with own:=λb=>γ.own b\/b=B8}:=⟨hS.room.ne,λb h=>by
  rcases h with(h|rfl)|h
  .exact hS.room.off b (.inl h)
  .exact n8F
  .exact hS.room.off b (.inr h)⟩
 exact BK (γ:={γ with own:=λb=>γ.own b\/b=B8}) (c:=iD γ.mine path (hb,hc)) (d:=d) hm R2 (λh=>h.elim hS.om λe=>n8M e.symm) (hC.live S6) ⟨_,hMC,hS.put hD rfl hmap hmC⟩ λk' wD hD'=>
  aC (LV _ _ _) (back k' wD (λb=>γ.own b\/b=B8) d (λb h=> .inl h) (λb h=>Or.imp id (λe:b=B8=>by rw[e];exact hlo) h) (λb h=>by
   have s1:=HC.size;have s2:=hC.size;have s3:=hD'.size;rcases h with h|rfl
   .have:=hlow b (.inl h);omega
   .have:=lt_of_some w8B;omega) (HC.trans X (hD'.sub λb h=> .inl h)))
theorem CP (hS:zm X r γ)(hlow:∀b,γ.own b\/γ.ro b->b<w.heap.size)(hMl:X.M<w.heap.size)(live:∃s,ShAt X w s)
  (back:∀k w' own' d,(∀b,γ.own b->own' b)->(∀b,own' b->γ.own b\/w.heap.size<=b)->(∀b,own' b->b<w'.heap.size)->RR X γ w w'->LW X r {γ with own:=own',mine:=iD γ.mine path (hb,hc),other:=d} k (at_ .out n) (cA fr cs U) w') (k:Nat):
  LW X r γ k (at_ .out (n+1)) (gP0 X.Fd (bF r) path hb hc fr cs) w:=by
 refine aC (Ym _ _ _ _ _ _ _) (gh (f:=λb=>pb b) (Rm _ _ _ _ _ _ _) (λw1 h1=>⟨#[],wP _ _,by simp⟩) λw1 B7 h1 hB w71=>?_);refine aC (Yl _ _ _ _ _ _ _ _) ?_;obtain⟨s1,hs1⟩:=live;have n7:B7≠X.Fd/\B7≠X.Wg:=⟨λe=>by have:=lt_of_some hs1.1;omega,λe=>by have:=lt_of_some hs1.2;omega⟩
 have S1:zm X r {γ with own:=λb=>γ.own b\/b=B7}:=⟨hS.dat,hS.role,⟨hS.room.ne,λb h=>by
  rcases h with(h|rfl)|h
  .exact hS.room.off b (.inl h)
  .exact n7
  .exact hS.room.off b (.inr h)⟩,λh=>h.elim hS.om λe=>by omega,hS.rm,hS.mf,hS.mw⟩
 have hs7:=lt_of_some w71;have agL:∀b,(γ.own b\/b=B7)\/γ.ro b->b<w1.heap.size:=λb h=>by
  have:=h1.size;rcases h with(h|rfl)|h
  .have:=hlow b (.inl h);omega
  .exact hs7
  .have:=hlow b (.inr h);omega
 have zT:=h1.live ⟨s1,hs1⟩;refine Jj (γ:={γ with own:=λb=>γ.own b\/b=B7}) hS.worker S1.room zT (V7 S1 agL zT (.inr rfl) w71 λk w' own' d a1 a2 a4 a3=>?_);exact back k w' own' d (λb h=>a1 b (.inl h)) (λb h=>by
  rcases a2 b h with(h|rfl)|h
  .exact .inl h
  .exact .inr hB
  .exact .inr (Nat.le_trans h1.size h)) a4 (h1.trans X (RX.sub a3 λb h=> .inl h))
end
abbrev TC:TypeId:=251
section
variable (F:Nat)(dv:Value)(side:Nat)(m1 m2:Value)(fr:Frame)(cs:List Frame)
def gC0 (dv:Value)(set:Int)(fr:Frame)(cs:List Frame):Goroutine:=MY 166 #[dv,.int .i64 set] 28 fr cs
def fK1:Frame:=(On 5 (ZH F dv (side:Int) fr cs)).callers.head?.getD default
theorem Yr:av PP false (ZH F dv (side:Int) fr cs) (gC0 dv (side:Int) (fK1 F dv side fr cs) (fr::cs)):=aM 5 (bJ PP false 5 (ZH F dv (side:Int) fr cs)) λws=>by kernel_rfl
def fK2:Frame:=(On 2 (cA (fK1 F dv side fr cs) (fr::cs) m1)).callers.head?.getD default
theorem Yq:av PP false (cA (fK1 F dv side fr cs) (fr::cs) m1) (gC0 dv 2 (fK2 F dv side m1 fr cs) (fr::cs)):=aM 2 (bJ PP false 2 (cA (fK1 F dv side fr cs) (fr::cs) m1)) λws=>by kernel_rfl
def ZG:Goroutine:=O (cA (fK2 F dv side m1 fr cs) (fr::cs) m2)
theorem Yp:av PP false (cA (fK2 F dv side m1 fr cs) (fr::cs) m2) (ZG F dv side m1 m2 fr cs):=aI λws=>by kernel_rfl
theorem Yn:aS (ZG F dv side m1 m2 fr cs)=some (.range TC m1):=by kernel_rfl
end
def Uh:List Item:=(O (resume (ZG 0 default 0 undef undef default []) (pb 0))).frame.todo
def gL1 (tm:Array Value)(fr:Frame)(cs:List Frame):Goroutine:=G ((base 132).at ⟨tm,[]⟩ Uh) (fr::cs)
section
variable (F:Nat)(dv:Value)(side M1 M2 it:Nat)(path s s2:ByteArray)(b2:Bool)(B9:Nat)(fr:Frame)(cs:List Frame)(y:Nat->Value)
def aaw:Array Value:=#[pt F,dv,.int .i64 (side:Int),y 3,y 4,y 5,.map (some M1),.map (some M2),y 8,y 9,y 10,y 11,y 12,y 13,y 14,y 15,y 16,pb it,y 18,y 19,y 20,y 21,y 22,y 23,y 24,y 25,y 26,y 27,y 28,y 29,y 30,y 31,y 32,y 33,y 34,y 35,y 36,y 37,y 38,y 39,y 40,y 41,y 42,y 43,y 44,y 45,y 46,y 47,y 48]
def aav:Array Value:=#[pt F,dv,.int .i64 (side:Int),y 3,y 4,y 5,.map (some M1),.map (some M2),y 8,y 9,y 10,y 11,y 12,y 13,y 14,y 15,y 16,y 17,y 18,y 19,y 20,y 21,y 22,y 23,y 24,y 25,y 26,y 27,y 28,y 29,y 30,y 31,y 32,y 33,pb it,y 35,y 36,y 37,y 38,y 39,y 40,y 41,y 42,y 43,y 44,y 45,y 46,y 47,y 48]
structure KC (F:Nat)(dv:Value)(side M1 M2 it:Nat)(tm:Array Value):Prop where
 size:tm.size=49
 s0:tm[0]? =some (pt F)
 s1:tm[1]? =some (dv)
 s2:tm[2]? =some (.int .i64 (side:Int))
 s6:tm[6]? =some (.map (some M1))
 s7:tm[7]? =some (.map (some M2))
 s17:tm[17]? =some (pb it)
structure HL2 (F:Nat)(dv:Value)(side M1 M2 it:Nat)(tm:Array Value):Prop where
 size:tm.size=49
 s0:tm[0]? =some (pt F)
 s1:tm[1]? =some (dv)
 s2:tm[2]? =some (.int .i64 (side:Int))
 s6:tm[6]? =some (.map (some M1))
 s7:tm[7]? =some (.map (some M2))
 s34:tm[34]? =some (pb it)
theorem Gp (tm:Array Value)(h:tm.size=49):tm=#[tm.getD 0 undef,tm.getD 1 undef,tm.getD 2 undef,tm.getD 3 undef,tm.getD 4 undef,tm.getD 5 undef,tm.getD 6 undef,tm.getD 7 undef,tm.getD 8 undef,tm.getD 9 undef,tm.getD 10 undef,tm.getD 11 undef,tm.getD 12 undef,tm.getD 13 undef,tm.getD 14 undef,tm.getD 15 undef,tm.getD 16 undef,tm.getD 17 undef,tm.getD 18 undef,tm.getD 19 undef,tm.getD 20 undef,tm.getD 21 undef,tm.getD 22 undef,tm.getD 23 undef,tm.getD 24 undef,tm.getD 25 undef,tm.getD 26 undef,tm.getD 27 undef,tm.getD 28 undef,tm.getD 29 undef,tm.getD 30 undef,tm.getD 31 undef,tm.getD 32 undef,tm.getD 33 undef,tm.getD 34 undef,tm.getD 35 undef,tm.getD 36 undef,tm.getD 37 undef,tm.getD 38 undef,tm.getD 39 undef,tm.getD 40 undef,tm.getD 41 undef,tm.getD 42 undef,tm.getD 43 undef,tm.getD 44 undef,tm.getD 45 undef,tm.getD 46 undef,tm.getD 47 undef,tm.getD 48 undef]:=by
 have e:tm=((List.range 49).map λi=>tm.getD i undef).toArray:=by
  apply Array.ext
  .simp[h]
  .intro i h1 h2
   simp[Array.getD_eq_getD_getElem?,h1]
 exact e.trans (by kernel_rfl)
theorem KC.eq {F:Nat}{dv:Value}{side M1 M2 it:Nat}{tm:Array Value}(h:KC F dv side M1 M2 it tm):tm=aaw F dv side M1 M2 it λi=>tm.getD i undef:=by
 have h1:=Gp tm h.size;rw[bX h.s0,bX h.s1,bX h.s2,bX h.s6,bX h.s7,bX h.s17] at h1;exact h1
theorem HL2.eq {F:Nat}{dv:Value}{side M1 M2 it:Nat}{tm:Array Value}(h:HL2 F dv side M1 M2 it tm):tm=aav F dv side M1 M2 it λi=>tm.getD i undef:=by
 have h1:=Gp tm h.size;rw[bX h.s0,bX h.s1,bX h.s2,bX h.s6,bX h.s7,bX h.s34] at h1;exact h1
theorem Yo (m1':Value)(h1:m1'= .map (some M1)):∃tm,KC F dv side M1 M2 it tm/\av PP false (resume (ZG F dv side m1' (.map (some M2)) fr cs) (pb it)) (gL1 tm fr cs):=by
 subst h1;exact⟨(O (resume (ZG F dv side (.map (some M1)) (.map (some M2)) fr cs) (pb it))).frame.tmps,⟨by kernel_rfl,by kernel_rfl,by kernel_rfl,by kernel_rfl,by kernel_rfl,by kernel_rfl,by kernel_rfl⟩,aM 200 (bJ PP false 200 (resume (ZG F dv side (.map (some M1)) (.map (some M2)) fr cs) (pb it))) λws=>by kernel_rfl⟩
abbrev l1:Goroutine:=gL1 (aaw F dv side M1 M2 it y) fr cs
def nxT (g:Goroutine):TypeId:=match aS g with|some (.next _ _ t)=>t|_=>0
theorem acd:aS (l1 F dv side M1 M2 it fr cs y)=some (.next (pb it) false (nxT (l1 0 default 0 0 0 0 default [] λ_=>undef))):=by kernel_rfl
def Zx:Goroutine:=O (resume (l1 F dv side M1 M2 it fr cs y) (.tuple #[.bool false]))
theorem QN:av PP false (resume (l1 F dv side M1 M2 it fr cs y) (.tuple #[.bool false])) (Zx F dv side M1 M2 it fr cs y):=aI λws=>by kernel_rfl
theorem WZ:aS (Zx F dv side M1 M2 it fr cs y)=some (.range TC (.map (some M2))):=by kernel_rfl
def l1a:Goroutine:=O (resume (l1 F dv side M1 M2 it fr cs y) (.tuple #[.bool true,.string path,hv true s]))
theorem QO:av PP false (resume (l1 F dv side M1 M2 it fr cs y) (.tuple #[.bool true,.string path,hv true s])) (l1a F dv side M1 M2 it path s fr cs y):=aI λws=>by kernel_rfl
theorem Xf:aS (l1a F dv side M1 M2 it path s fr cs y)=some (.entry (pb it)):=by kernel_rfl
def l1b:Goroutine:=O (resume (l1a F dv side M1 M2 it path s fr cs y) (.tuple #[.string path,hv true s]))
theorem Xe:av PP false (resume (l1a F dv side M1 M2 it path s fr cs y) (.tuple #[.string path,hv true s])) (l1b F dv side M1 M2 it path s fr cs y):=aI λws=>by kernel_rfl
theorem Xd:aS (l1b F dv side M1 M2 it path s fr cs y)=some (.alloc TH):=by kernel_rfl
def l1c:Goroutine:=O (resume (l1b F dv side M1 M2 it path s fr cs y) (pb B9))
theorem Xc:av PP false (resume (l1b F dv side M1 M2 it path s fr cs y) (pb B9)) (l1c F dv side M1 M2 it path s B9 fr cs y):=aI λws=>by kernel_rfl
theorem Xa:aS (l1c F dv side M1 M2 it path s B9 fr cs y)=some (.store TH (pb B9) (hv true s)):=by kernel_rfl
def l1d:Goroutine:=O (resume (l1c F dv side M1 M2 it path s B9 fr cs y) undef)
theorem Xb:av PP false (resume (l1c F dv side M1 M2 it path s B9 fr cs y) undef) (l1d F dv side M1 M2 it path s B9 fr cs y):=aI λws=>by kernel_rfl
theorem W8:aS (l1d F dv side M1 M2 it path s B9 fr cs y)=some (.load TH (pb B9)):=by kernel_rfl
def l1e:Goroutine:=O (resume (l1d F dv side M1 M2 it path s B9 fr cs y) (hv true s))
theorem W9:av PP false (resume (l1d F dv side M1 M2 it path s B9 fr cs y) (hv true s)) (l1e F dv side M1 M2 it path s B9 fr cs y):=aI λws=>by kernel_rfl
theorem W6:aS (l1e F dv side M1 M2 it path s B9 fr cs y)=some (.lookup TC (.map (some M2)) (.string path) false):=by kernel_rfl
def W5:Goroutine:=O (resume (l1e F dv side M1 M2 it path s B9 fr cs y) (hv b2 s2))
theorem W7:av PP false (resume (l1e F dv side M1 M2 it path s B9 fr cs y) (hv b2 s2)) (W5 F dv side M1 M2 it path s s2 b2 B9 fr cs y):=aI λws=>by kernel_rfl
theorem W4:aS (W5 F dv side M1 M2 it path s s2 b2 B9 fr cs y)=some (.bin .neq TH (hv true s) (hv b2 s2)):=by kernel_rfl
theorem W3:∃tm,KC F dv side M1 M2 it tm/\av PP false (resume (W5 F dv side M1 M2 it path s s2 b2 B9 fr cs y) (.bool false)) (gL1 tm fr cs):=⟨(O (resume (W5 F dv side M1 M2 it path s s2 b2 B9 fr cs y) (.bool false))).frame.tmps,⟨by kernel_rfl,by kernel_rfl,by kernel_rfl,by kernel_rfl,by kernel_rfl,by kernel_rfl,by kernel_rfl⟩,aM 200 (bJ PP false 200 (resume (W5 F dv side M1 M2 it path s s2 b2 B9 fr cs y) (.bool false))) λws=>by kernel_rfl⟩
def l1g:Goroutine:=O (resume (W5 F dv side M1 M2 it path s s2 b2 B9 fr cs y) (.bool true))
theorem QM:av PP false (resume (W5 F dv side M1 M2 it path s s2 b2 B9 fr cs y) (.bool true)) (l1g F dv side M1 M2 it path s s2 b2 B9 fr cs y):=aI λws=>by kernel_rfl
theorem W1:aS (l1g F dv side M1 M2 it path s s2 b2 B9 fr cs y)=some (.load TH (pb B9)):=by kernel_rfl
def l1F:Frame:=(On 1 (resume (l1g F dv side M1 M2 it path s s2 b2 B9 fr cs y) (hv true s))).callers.head?.getD default
theorem W2:av PP false (resume (l1g F dv side M1 M2 it path s s2 b2 B9 fr cs y) (hv true s)) (gP0 F side path true s (l1F F dv side M1 M2 it path s s2 b2 B9 fr cs y) (fr::cs)):=aM 1 (bJ PP false 1 (resume (l1g F dv side M1 M2 it path s s2 b2 B9 fr cs y) (hv true s))) λws=>by kernel_rfl
theorem Xg:∃tm,KC F dv side M1 M2 it tm/\av PP false (cA (l1F F dv side M1 M2 it path s s2 b2 B9 fr cs y) (fr::cs) U) (gL1 tm fr cs):=⟨(O (cA (l1F F dv side M1 M2 it path s s2 b2 B9 fr cs y) (fr::cs) U)).frame.tmps,⟨by kernel_rfl,by kernel_rfl,by kernel_rfl,by kernel_rfl,by kernel_rfl,by kernel_rfl,by kernel_rfl⟩,aM 200 (bJ PP false 200 (cA (l1F F dv side M1 M2 it path s s2 b2 B9 fr cs y) (fr::cs) U)) λws=>by kernel_rfl⟩
end
def Ug:List Item:=(O (resume (Zx 0 default 0 0 0 0 default [] λ_=>undef) (pb 0))).frame.todo
def gL2 (tm:Array Value)(fr:Frame)(cs:List Frame):Goroutine:=G ((base 132).at ⟨tm,[]⟩ Ug) (fr::cs)
section
variable (F:Nat)(dv:Value)(side M1 M2 it it2:Nat)(path s s2:ByteArray)(b2:Bool)(B9:Nat)(fr:Frame)(cs:List Frame)(y:Nat->Value)
theorem W0:∃tm,HL2 F dv side M1 M2 it2 tm/\av PP false (resume (Zx F dv side M1 M2 it fr cs y) (pb it2)) (gL2 tm fr cs):=⟨(O (resume (Zx F dv side M1 M2 it fr cs y) (pb it2))).frame.tmps,⟨by kernel_rfl,by kernel_rfl,by kernel_rfl,by kernel_rfl,by kernel_rfl,by kernel_rfl,by kernel_rfl⟩,aM 200 (bJ PP false 200 (resume (Zx F dv side M1 M2 it fr cs y) (pb it2))) λws=>by kernel_rfl⟩
abbrev l2:Goroutine:=gL2 (aav F dv side M1 M2 it y) fr cs
theorem aca:aS (l2 F dv side M1 M2 it fr cs y)=some (.next (pb it) false (nxT (l2 0 default 0 0 0 0 default [] λ_=>undef))):=by kernel_rfl
theorem QK:av PP false (resume (l2 F dv side M1 M2 it fr cs y) (.tuple #[.bool false])) (cA fr cs U):=aM 7 (bJ PP false 7 (resume (l2 F dv side M1 M2 it fr cs y) (.tuple #[.bool false]))) λws=>by kernel_rfl
def l2a:Goroutine:=O (resume (l2 F dv side M1 M2 it fr cs y) (.tuple #[.bool true,.string path,hv true s]))
theorem QL:av PP false (resume (l2 F dv side M1 M2 it fr cs y) (.tuple #[.bool true,.string path,hv true s])) (l2a F dv side M1 M2 it path s fr cs y):=aI λws=>by kernel_rfl
theorem WX:aS (l2a F dv side M1 M2 it path s fr cs y)=some (.entry (pb it)):=by kernel_rfl
def WV:Goroutine:=O (resume (l2a F dv side M1 M2 it path s fr cs y) (.tuple #[.string path,hv true s]))
theorem WW:av PP false (resume (l2a F dv side M1 M2 it path s fr cs y) (.tuple #[.string path,hv true s])) (WV F dv side M1 M2 it path s fr cs y):=aI λws=>by kernel_rfl
theorem WU:aS (WV F dv side M1 M2 it path s fr cs y)=some (.lookup TC (.map (some M1)) (.string path) false):=by kernel_rfl
theorem QJ:∃tm,HL2 F dv side M1 M2 it tm/\av PP false (resume (WV F dv side M1 M2 it path s fr cs y) (hv true s2)) (gL2 tm fr cs):=⟨(O (resume (WV F dv side M1 M2 it path s fr cs y) (hv true s2))).frame.tmps,⟨by kernel_rfl,by kernel_rfl,by kernel_rfl,by kernel_rfl,by kernel_rfl,by kernel_rfl,by kernel_rfl⟩,aM 200 (bJ PP false 200 (resume (WV F dv side M1 M2 it path s fr cs y) (hv true s2))) λws=>by kernel_rfl⟩
def l2c:Goroutine:=O (resume (WV F dv side M1 M2 it path s fr cs y) (hv false s2))
theorem WT:av PP false (resume (WV F dv side M1 M2 it path s fr cs y) (hv false s2)) (l2c F dv side M1 M2 it path s s2 fr cs y):=aI λws=>by kernel_rfl
theorem WS:aS (l2c F dv side M1 M2 it path s s2 fr cs y)=some (.build TH #[]):=by kernel_rfl
def l2F:Frame:=(On 1 (resume (l2c F dv side M1 M2 it path s s2 fr cs y) (hv false ⟨#[]⟩))).callers.head?.getD default
theorem WQ:av PP false (resume (l2c F dv side M1 M2 it path s s2 fr cs y) (hv false ⟨#[]⟩)) (gP0 F side path false ⟨#[]⟩ (l2F F dv side M1 M2 it path s s2 fr cs y) (fr::cs)):=aM 1 (bJ PP false 1 (resume (l2c F dv side M1 M2 it path s s2 fr cs y) (hv false ⟨#[]⟩))) λws=>by kernel_rfl
theorem WY:∃tm,HL2 F dv side M1 M2 it tm/\av PP false (cA (l2F F dv side M1 M2 it path s s2 fr cs y) (fr::cs) U) (gL2 tm fr cs):=⟨(O (cA (l2F F dv side M1 M2 it path s s2 fr cs y) (fr::cs) U)).frame.tmps,⟨by kernel_rfl,by kernel_rfl,by kernel_rfl,by kernel_rfl,by kernel_rfl,by kernel_rfl,by kernel_rfl⟩,aM 200 (bJ PP false 200 (cA (l2F F dv side M1 M2 it path s s2 fr cs y) (fr::cs) U)) λws=>by kernel_rfl⟩
end
section
variable {X:Cx iJ}{r:bh}{γ:Gh iJ}{w w':World}
structure Now (X:Cx iJ)(r:bh)(γ:Gh iJ)(w:World):Prop where
 spot:zm X r γ
 low:∀b,γ.own b\/γ.ro b->b<w.heap.size
 ml:X.M<w.heap.size
 live:∃s,ShAt X w s
theorem Now.rely (h:Now X r γ w)(hr:RR X γ w w'):Now X r γ w':=
 ⟨h.spot,λb hb=>Nat.lt_of_lt_of_le (h.low b hb) hr.size,Nat.lt_of_lt_of_le h.ml hr.size,hr.live h.live⟩
theorem Now.grow (h:Now X r γ w)(hr:RR X γ w w'){own':Nat->Prop}{m d:iJ}(h1:∀b,own' b->γ.own b\/w.heap.size<=b)(h2:∀b,own' b->b<w'.heap.size):Now X r {γ with own:=own',mine:=m,other:=d} w':=by
 obtain⟨s,hs⟩:=h.live;have lf:=lt_of_some hs.1;have lw:=lt_of_some hs.2;have lm:=h.ml;refine⟨⟨h.spot.dat,h.spot.role,⟨h.spot.room.ne,λb hb=>?_⟩,λhb=>?_,h.spot.rm,h.spot.mf,h.spot.mw⟩,λb hb=>?_,Nat.lt_of_lt_of_le h.ml hr.size,hr.live h.live⟩
 .rcases hb with hb|hb
  .rcases h1 b hb with hb|hb
   .exact h.spot.room.off b (.inl hb)
   .exact⟨by omega,by omega⟩
  .exact h.spot.room.off b (.inr hb)
 .rcases h1 _ hb with hb|hb
  .exact h.spot.om hb
  .omega
 .rcases hb with hb|hb
  .exact h2 b hb
  .exact Nat.lt_of_lt_of_le (h.low b (.inr hb)) hr.size
end
theorem xx {Δ:Type}{X:Cx Δ}{ro own:Nat->Prop}{Stop:(Nat->Prop)->Goroutine->World->Prop}{w:World}{g:Goroutine}{it m c:Nat}{seen:Array Nat}{es:Array MapEntry}{f:ByteArray->Option Value}{ty:TypeId}
  (h:aS g=some (.next (pb it) false ty)) (oi:own it) (om:own m) (hX:it≠X.Fd/\it≠X.Wg) (hro:¬ro it) (hit:w.heap[it]? =some (.mapIter (some m) c seen c)) (hmw:w.heap[m]? =some (.map es c)) (hm:di es c f)
  (over:leftOf es seen=#[]->∀w',RX X ro own w w'->aD PP false (eY X false ro) Stop own (resume g (.tuple #[.bool false])) w')
  (more:∀e∈leftOf es seen,∀w',RX X ro (λb=>own b/\b≠it) w w'->w'.heap[it]? =some (.mapIter (some m) c (seen.push e.born) c)->aD PP false (eY X false ro) Stop own (resume g (.tuple #[.bool true,e.key,e.val])) w'):
  aD PP false (eY X false ro) Stop own g w:=by
 refine aD.step (cT h).1 λw1 h1=>?_
 rcases Gz (w:=w1) (ty:=ty) (aW h1 (.inl oi) hit) (aW h1 (.inl om) hmw) hm with⟨hl,w',ev,rt,a1,a2,a3,a4,a5⟩|⟨e,he,w',ev,rt,u,a5⟩
 .obtain⟨es',e1,e2⟩:=e9 (main:=false) h rt
  have hup:(eY X false ro).up own w1 w'=own:=by
   funext b
   exact propext ⟨λh=>h.elim id λz=>by rw[a4] at z;omega,.inl⟩
  refine⟨_,w',es',e1,⟨a1,a2,by rw[a4];exact Nat.le_refl _,by rw[a3];exact .refl _,λb _ _=>by rw[a4],λx hx=>?_,λh=>absurd h (by simp)⟩,?_⟩
  .rcases(a5 x (e2 x hx)).1 with q|q
   .exact qP (.inl oi) q
   .exact qP (.inl om) q
  .rw[hup]
   exact over hl w' (h1.trans X ⟨a1,a2,by rw[a4];exact Nat.le_refl _,by rw[a3];exact .refl _,λb _ _=>by rw[a4],λ⟨s,hs⟩=>⟨s,by rw[ShAt,a4];exact hs⟩⟩)
 .obtain⟨es',e1,e2⟩:=e9 (main:=false) h rt
  have hup:(eY X false ro).up own w1 w'=own:=by
   funext b
   exact propext ⟨λh=>h.elim id λz=>by rw[u.size] at z;omega,.inl⟩
  refine⟨_,w',es',e1,⟨u.tape,u.output,Nat.le_of_eq u.size.symm,by rw[u.os];exact .refl _,λb _ hb=>u.rest b λq=>hb (q▸oi),λx hx=>?_,λh=>absurd h (by simp)⟩,?_⟩
  .rcases a5 x (e2 x hx) with q|q
   .exact qP (.inl oi) q
   .exact qP (.inl om) q.1
  .rw[hup]
   refine more e he w' ?_ u.at_;refine⟨u.tape.trans h1.tape,u.output.trans h1.output,Nat.le_trans h1.size (Nat.le_of_eq u.size.symm),by rw[u.os];exact h1.os,λb hb ho=>?_,λl=>?_⟩
   .have hne:b≠it:=λq=>ho.elim (λh=>h.2 q) λh=>hro (q▸h)
    exact(u.rest b hne).trans (h1.keep b hb (ho.imp (·.1) id))
   .obtain⟨s,hs⟩:=h1.live l
    exact⟨s,(u.rest _ hX.1.symm).trans hs.1,(u.rest _ hX.2.symm).trans hs.2⟩
section
variable (gN gA:ByteArray->Option ByteArray)
open Classical in
def jR:iJ:=λs=>if gN s=gA s then none else some (match gN s with|some c=>(true,c)|none=>(false,⟨#[]⟩))
def Kv (V:ByteArray->Prop)(mine:iJ):Prop:=∀s,(∃c,gN s=some c/\gA s≠some c/\V s/\mine s=some (true,c))\/((gN s=none\/gA s=gN s\/¬V s)/\mine s=none)
def OY (V:ByteArray->Prop)(mine:iJ):Prop:=∀s,(∃c,gN s=some c/\gA s≠some c/\mine s=some (true,c))\/(gN s=none/\gA s≠none/\V s/\mine s=some (false,⟨#[]⟩))\/((gA s=gN s\/(gN s=none/\¬V s))/\mine s=none)
variable {gN gA}{V V':ByteArray->Prop}{mine:iJ}{path:ByteArray}{c:ByteArray}
theorem Kv.start:Kv gN gA (λ_=>False) λ_=>none:=λ_=> .inr ⟨.inr (.inr id),rfl⟩
theorem Kv.put (h:Kv gN gA V mine)(hV:∀s,V' s↔V s\/s=path)(h1:gN path=some c)(h2:gA path≠some c):Kv gN gA V' (iD mine path (true,c)):=λs=>by
 by_cases hs:s=path
 .subst hs
  exact .inl ⟨c,h1,h2,(hV s).2 (.inr rfl),by simp[iD]⟩
 .have e:iD mine path (true,c) s=mine s:=by simp[iD,hs]
  rw[e];have hv:V' s↔V s:=(hV s).trans ⟨λh=>h.resolve_right hs,.inl⟩;rcases h s with⟨x,a1,a2,a3,a4⟩|⟨a1,a2⟩
  .exact .inl ⟨x,a1,a2,hv.2 a3,a4⟩
  .exact .inr ⟨a1.imp id λa=>a.imp id λa b=>a (hv.1 b),a2⟩
theorem Kv.skip (h:Kv gN gA V mine)(hV:∀s,V' s↔V s\/s=path)(h1:gA path=gN path):Kv gN gA V' mine:=λs=>by
 rcases h s with⟨x,a1,a2,a3,a4⟩|⟨a1,a2⟩
 .exact .inl ⟨x,a1,a2,(hV s).2 (.inl a3),a4⟩
 .refine .inr ⟨?_,a2⟩
  by_cases hs:s=path
  .subst hs;exact .inr (.inl h1)
  .exact a1.imp id λa=>a.imp id λa b=>a (((hV s).1 b).resolve_right hs)
theorem Kv.done (h:Kv gN gA V mine)(hV:∀s,gN s≠none->V s):OY gN gA (λ_=>False) mine:=λs=>by
 rcases h s with⟨x,a1,a2,a3,a4⟩|⟨a1,a2⟩
 .exact .inl ⟨x,a1,a2,a4⟩
 .refine .inr (.inr ⟨?_,a2⟩)
  rcases a1 with a1|a1|a1
  .exact .inr ⟨a1,id⟩
  .exact .inl a1
  .exact .inr ⟨Classical.byContradiction λq=>a1 (hV s q),id⟩
theorem OY.put (h:OY gN gA V mine)(hV:∀s,V' s↔V s\/s=path)(h1:gN path=none)(h2:gA path≠none):OY gN gA V' (iD mine path (false,⟨#[]⟩)):=λs=>by
 by_cases hs:s=path
 .subst hs
  exact .inr (.inl ⟨h1,h2,(hV s).2 (.inr rfl),by simp[iD]⟩)
 .have e:iD mine path (false,⟨#[]⟩) s=mine s:=by simp[iD,hs]
  rw[e];have hv:V' s↔V s:=(hV s).trans ⟨λh=>h.resolve_right hs,.inl⟩;rcases h s with a|⟨a1,a2,a3,a4⟩|⟨a1,a2⟩
  .exact .inl a
  .exact .inr (.inl ⟨a1,a2,hv.2 a3,a4⟩)
  .exact .inr (.inr ⟨a1.imp id λa=>⟨a.1,λb=>a.2 (hv.1 b)⟩,a2⟩)
theorem OY.skip (h:OY gN gA V mine)(hV:∀s,V' s↔V s\/s=path)(h1:gN path≠none):OY gN gA V' mine:=λs=>by
 rcases h s with a|⟨a1,a2,a3,a4⟩|⟨a1,a2⟩
 .exact .inl a
 .exact .inr (.inl ⟨a1,a2,(hV s).2 (.inl a3),a4⟩)
 .refine .inr (.inr ⟨a1.imp id λa=>⟨a.1,λb=>?_⟩,a2⟩)
  rcases(hV s).1 b with b|b
  .exact a.2 b
  .subst b;exact h1 a.1
theorem OY.done (h:OY gN gA V mine)(hV:∀s,gA s≠none->V s):mine=jR gN gA:=by
 funext s
 unfold jR;rcases h s with⟨x,a1,a2,a4⟩|⟨a1,a2,a3,a4⟩|⟨a1,a2⟩
 .rw[if_neg (by rw[a1];exactλq=>a2 q.symm),a1,a4]
 .rw[if_neg (by rw[a1];exactλq=>a2 q.symm),a1,a4]
 .by_cases q:gN s=gA s
  .rw[if_pos q,a2]
  .exfalso
   rcases a1 with a1|⟨a1,a3⟩
   .exact q a1.symm
   .exact a3 (hV s λz=>q (a1.trans z.symm))
end
section
open Go.MapKept
variable {es:Array MapEntry}{c:Nat}{f:ByteArray->Option Value}{seen:Array Nat}{e:MapEntry}{path:ByteArray}
def Bo (es:Array MapEntry)(seen:Array Nat)(s:ByteArray):Prop:=∃e∈es.toList,e.key= .string s/\e.born∈seen
theorem di.Kj (h:di es c f){x y:MapEntry}(hx:x∈es.toList)(hy:y∈es.toList)(hk:x.born=y.born):x=y:=by
 have hp:=h.stamped.2.1;rw[List.Nodup,List.pairwise_map,List.pairwise_iff_getElem] at hp;obtain⟨i,hi,rfl⟩:=List.mem_iff_getElem.1 hx;obtain⟨j,hj,rfl⟩:=List.mem_iff_getElem.1 hy;rcases Nat.lt_trichotomy i j with hlt|rfl|hlt
 .exact absurd hk (hp i j hi hj hlt)
 .rfl
 .exact absurd hk.symm (hp j i hj hi hlt)
theorem vX (h:di es c f)(he:e∈es.toList)(hk:e.key= .string path)(s:ByteArray):Bo es (seen.push e.born) s↔Bo es seen s\/s=path:=by
 constructor
 .rintro⟨x,hx,h1,h2⟩
  rcases Array.mem_push.1 h2 with h2|h2
  .exact .inl ⟨x,hx,h1,h2⟩
  .have:=h.Kj hx he h2
   subst this;rw[hk] at h1;exact .inr (by simpa using h1.symm)
 .rintro(⟨x,hx,h1,h2⟩|rfl)
  .exact⟨x,hx,h1,Array.mem_push.2 (.inl h2)⟩
  .exact⟨e,he,hk,Array.mem_push.2 (.inr rfl)⟩
theorem Ae (s:ByteArray):¬Bo es #[] s:=λ⟨_,_,_,h⟩=>by simp at h
theorem Af (h:di es c f)(hl:leftOf es seen=#[]){s:ByteArray}(hs:f s≠none):Bo es seen s:=by
 obtain⟨v,hv⟩:=Option.ne_none_iff_exists'.1 hs;obtain⟨x,hx,h1,_⟩:=(h.has s v).1 hv;refine⟨x,hx,h1,?_⟩;refine Classical.byContradiction λq=>?_
 have:x∈leftOf es seen:=Array.mem_filter.2 ⟨by simpa using hx,by simpa using q⟩;rw[hl] at this;simp at this
theorem xw (he:e∈leftOf es seen):e∈es.toList:=by simpa using(Array.mem_filter.1 he).1
theorem tJ (he:e∈leftOf es seen):(leftOf es (seen.push e.born)).size<(leftOf es seen).size:=by
 have h1:(leftOf es (seen.push e.born)).toList=(leftOf es seen).toList.filter λx=>!(x.born==e.born):=by
  unfold leftOf;rw[Array.toList_filter,Array.toList_filter,List.filter_filter]
  congr 1
  funext x
  rw[Array.contains_push];cases seen.contains x.born<;>cases (x.born==e.born)<;>rfl
 rw[<-Array.length_toList,<-Array.length_toList,h1];refine List.length_filter_lt_length_iff_exists.2 ⟨e,by simpa using he,by simp⟩
end
section
variable {X:Cx iJ}{r:bh}{ro O0:Nat->Prop}{w0:World}{gN gA:ByteArray->Option ByteArray}{es1 es2:Array MapEntry}{c1 c2 M1 M2:Nat}{fr:Frame}{cs:List Frame}{dv:Value}
def uG (g:ByteArray->Option ByteArray):ByteArray->Option Value:=λs=>(g s).map (hv true)
structure Two (X:Cx iJ)(r:bh)(ro O0:Nat->Prop)(w0:World)(gN gA:ByteArray->Option ByteArray)(es1 es2:Array MapEntry)(c1 c2 M1 M2:Nat)(γ:Gh iJ)(w:World):Prop where
 now:Now X r γ w
 Zr:γ.ro=ro
 own:∀b,O0 b->γ.own b
 old:∀b,γ.own b->O0 b\/w0.heap.size<=b
 hr:RX X ro O0 w0 w
 o1:γ.own M1
 o2:γ.own M2
 w1:w.heap[M1]? =some (.map es1 c1)
 w2:w.heap[M2]? =some (.map es2 c2)
 i1:di es1 c1 (uG gN)
 i2:di es2 c2 (uG gA)
variable {γ:Gh iJ}{w w':World}
theorem Two.rely (h:Two X r ro O0 w0 gN gA es1 es2 c1 c2 M1 M2 γ w)(hr:RX X γ.ro γ.own w w'):Two X r ro O0 w0 gN gA es1 es2 c1 c2 M1 M2 γ w':=
 ⟨h.now.rely hr,h.Zr,h.own,h.old,h.hr.trans X (by rw[h.Zr] at hr;exact hr.sub h.own),h.o1,h.o2,aW hr (.inl h.o1) h.w1,aW hr (.inl h.o2) h.w2,h.i1,h.i2⟩
theorem Two.grow (h:Two X r ro O0 w0 gN gA es1 es2 c1 c2 M1 M2 γ w)(hr:RX X γ.ro γ.own w w'){own':Nat->Prop}{m d:iJ}(h0:∀b,γ.own b->own' b)(h1:∀b,own' b->γ.own b\/w.heap.size<=b)(h2:∀b,own' b->b<w'.heap.size):
  Two X r ro O0 w0 gN gA es1 es2 c1 c2 M1 M2 {γ with own:=own',mine:=m,other:=d} w':=by
 have k:=h.rely hr;refine⟨h.now.grow hr h1 h2,h.Zr,λb hb=>h0 b (h.own b hb),λb hb=>?_,k.hr,h0 _ h.o1,h0 _ h.o2,k.w1,k.w2,h.i1,h.i2⟩;rcases h1 b hb with hb|hb
 .exact h.old b hb
 .exact .inr (Nat.le_trans h.hr.size hb)
theorem Two.turn (h:Two X r ro O0 w0 gN gA es1 es2 c1 c2 M1 M2 γ w){it:Nat}(hr:RX X γ.ro (λb=>γ.own b/\b≠it) w w')(n1:it≠M1)(n2:it≠M2)(n0:¬O0 it):Two X r ro O0 w0 gN gA es1 es2 c1 c2 M1 M2 γ w':=by
 have k:Now X r γ w':=⟨h.now.spot,λb hb=>Nat.lt_of_lt_of_le (h.now.low b hb) hr.size,Nat.lt_of_lt_of_le h.now.ml hr.size,hr.live h.now.live⟩
 exact⟨k,h.Zr,h.own,h.old,h.hr.trans X (by rw[h.Zr] at hr;exact hr.sub λb hb=>⟨h.own b hb,λq=>n0 (q▸hb)⟩),h.o1,h.o2,aW hr (.inl ⟨h.o1,n1.symm⟩) h.w1,aW hr (.inl ⟨h.o2,n2.symm⟩) h.w2,h.i1,h.i2⟩
theorem Two.off (h:Two X r ro O0 w0 gN gA es1 es2 c1 c2 M1 M2 γ w){b:Nat}(hb:γ.own b):b≠X.Fd/\b≠X.Wg:=h.now.spot.room.off b (.inl hb)
def Done (X:Cx iJ)(r:bh)(ro O0:Nat->Prop)(w0:World)(fin:iJ)(fr:Frame)(cs:List Frame):Prop:=
 ∀k w' (γ:Gh iJ) n,Now X r γ w'->γ.ro=ro->(∀b,O0 b->γ.own b)->(∀b,γ.own b->O0 b\/w0.heap.size<=b)->RX X ro O0 w0 w'->γ.mine=fin->LW X r γ k (at_ .out n) (cA fr cs U) w'
theorem Gl:PP.underlying TC=some (.map 9 TH):=by kernel_rfl
theorem KD:(PP.info? TH).bind (·.zero)=some (hv false ⟨#[]⟩):=by kernel_rfl
theorem ab2 (hD:Done X r ro O0 w0 (jR gN gA) fr cs)(L:Nat):∀(seen:Array Nat) (γ:Gh iJ) (w:World) (tm:Array Value) (it n k:Nat),(leftOf es2 seen).size=L->L<=n->Two X r ro O0 w0 gN gA es1 es2 c1 c2 M1 M2 γ w->γ.own it->it≠M1->it≠M2->¬O0 it->¬γ.ro it->
  w.heap[it]? =some (.mapIter (some M2) c2 seen c2)->OY gN gA (Bo es2 seen) γ.mine->HL2 X.Fd dv (bF r) M1 M2 it tm->LW X r γ k (at_ .out n) (gL2 tm fr cs) w:=by
 induction L using Nat.strongRecOn with
 |_ L ih=>
 intro seen γ w tm it n k hL hn hT oi ne1 Bw Wq Md hit hI hH;have hm:=hT.now.spot.worker;rw[hH.eq];refine xx (aca _ _ _ _ _ _ _ _ _) oi hT.o2 (hT.off oi) Md hit hT.w2 hT.i2 (λhl w1 h1=>?_) (λe he w1 h1 yY=>?_)
 .refine aC (QK _ _ _ _ _ _ _ _ _) ?_
  have k1:=hT.rely h1;refine hD k w1 γ n k1.now hT.Zr hT.own hT.old k1.hr (hI.done λs hs=>Af hT.i2 hl (by simpa [uG] using hs))
 .have hmem:=xw he
  obtain⟨path,hk⟩:=iE (hT.i2.keys e hmem);have hval:=(hT.i2.has path e.val).2 ⟨e,hmem,hk,rfl⟩;obtain⟨s,hs,hev⟩:=Option.map_eq_some_iff.1 hval;have hless:=tJ he;have hV:=λs=>vX (seen:=seen) hT.i2 hmem hk s
  rw[hk,<-hev];have T1:=hT.turn h1 ne1 Bw Wq;clear h1;refine aC (QL _ _ _ _ _ _ _ _ _ _ _) ?_;refine cZ (WX _ _ _ _ _ _ _ _ _ _ _) (x:= .tuple #[.string path,hv true s]) (λw2 h2=>?_) λw2 h2=>?_
  .have:=wO (aW h2 (.inl oi) yY) (T1.rely h2).w2 hT.i2 hmem
   rw[hk,<-hev] at this;exact⟨w2,_,this,rfl,rfl,rfl,rfl,λx hx=>by
    simp at hx;rcases hx with rfl|rfl
    .exact⟨it,dQ,.inl oi⟩
    .exact⟨M2,dQ,.inl hT.o2⟩⟩
  have T2:=T1.rely h2;have hit2:=aW h2 (.inl oi) yY;refine aC (WW _ _ _ _ _ _ _ _ _ _ _) ?_;refine cZ (WU _ _ _ _ _ _ _ _ _ _ _) (x:=(uG gN path).getD (hv false ⟨#[]⟩)) (λw3 h3=>?_) λw3 h3=>?_
  .exact⟨w3,_,pq (t:=TC) Gl KU KD (T2.rely h3).w1 hT.i1,rfl,rfl,rfl,rfl,λx hx=>by
    simp at hx;subst hx;exact⟨M1,dQ,.inl hT.o1⟩⟩
  have T3:=T2.rely h3;have hit3:=aW h3 (.inl oi) hit2;clear h2 h3 yY hit2 T1 T2;have hLe:(leftOf es2 (seen.push e.born)).size<L:=hL▸hless;have hA:gA path≠none:=by rw[hs];simp
  cases hN:gN path with
  |some s2=>
   have ex:(uG gN path).getD (hv false ⟨#[]⟩)=hv true s2:=by simp[uG,hN]
   rw[ex];obtain⟨tm',JG,hg⟩:=QJ X.Fd dv (bF r) M1 M2 it path s s2 fr cs λi=>tm.getD i undef
   exact aC hg (ih _ hLe (seen.push e.born) γ w3 tm' it n k rfl (by omega) T3 oi ne1 Bw Wq Md hit3 (hI.skip hV (by rw[hN];simp)) JG)
  |none=>
   have ex:(uG gN path).getD (hv false ⟨#[]⟩)=hv false ⟨#[]⟩:=by simp[uG,hN]
   rw[ex];refine aC (WT _ _ _ _ _ _ _ _ _ _ _ _) ?_;refine cZ (WS _ _ _ _ _ _ _ _ _ _ _ _) (x:=hv false ⟨#[]⟩) (λw4 h4=>⟨w4,#[],.of0 λes=>by kernel_rfl,rfl,rfl,rfl,rfl,by simp⟩) λw4 h4=>?_
   have T4:=T3.rely h4;have Q4:=aW h4 (.inl oi) hit3;refine aC (WQ _ _ _ _ _ _ _ _ _ _ _ _) ?_;obtain⟨n',rfl⟩:∃n',n=n'+1:=⟨n-1,by omega⟩
   refine CP T4.now.spot T4.now.low T4.now.ml T4.now.live (λk' w5 own' d a1 a2 a4 a3=>?_) k;obtain⟨tm',JG,hg⟩:=WY X.Fd dv (bF r) M1 M2 it path s ⟨#[]⟩ fr cs λi=>tm.getD i undef
   exact aC hg (ih _ hLe (seen.push e.born) {γ with own:=own',mine:=iD γ.mine path (false,⟨#[]⟩),other:=d} w5 tm' it n' k' rfl (by omega) (T4.grow a3 a1 a2 a4) (a1 _ oi) ne1 Bw Wq Md (aW a3 (.inl oi) Q4) (hI.put hV hN hA) JG)
theorem Two.more (h:Two X r ro O0 w0 gN gA es1 es2 c1 c2 M1 M2 γ w){B:Nat}{o:Obj}(hr:RX X γ.ro γ.own w w')(hB:w.heap.size<=B)(hw:w'.heap[B]? =some o):Two X r ro O0 w0 gN gA es1 es2 c1 c2 M1 M2 {γ with own:=λb=>γ.own b\/b=B} w':=
 h.grow hr (m:=γ.mine) (d:=γ.other) (λb hb=> .inl hb) (λb hb=>Or.imp id (λe:b=B=>by rw[e];exact hB) hb) (λb hb=>by
  rcases hb with hb|rfl
  .exact Nat.lt_of_lt_of_le (h.now.low b (.inl hb)) hr.size
  .exact lt_of_some hw)
theorem Two.fresh (h:Two X r ro O0 w0 gN gA es1 es2 c1 c2 M1 M2 γ w){B:Nat}(hB:w.heap.size<=B):B≠M1/\B≠M2/\¬γ.own B/\¬γ.ro B/\(B≠X.Fd/\B≠X.Wg)/\(w0.heap.size<=w.heap.size):=by
 obtain⟨s,hs⟩:=h.now.live;exact⟨λe=>by have:=lt_of_some h.w1;omega,λe=>by have:=lt_of_some h.w2;omega,λe=>by have:=h.now.low B (.inl e);omega,λe=>by have:=h.now.low B (.inr e);omega,⟨λe=>by have:=lt_of_some hs.1;omega,λe=>by have:=lt_of_some hs.2;omega⟩,h.hr.size⟩
theorem ab3 (Th:∀b,O0 b->b<w0.heap.size)(hD:Done X r ro O0 w0 (jR gN gA) fr cs)(L:Nat):∀(seen:Array Nat) (γ:Gh iJ) (w:World) (tm:Array Value) (it n k:Nat),(leftOf es1 seen).size=L->L+es2.size<=n->Two X r ro O0 w0 gN gA es1 es2 c1 c2 M1 M2 γ w->γ.own it->it≠M1->it≠M2->¬O0 it->¬γ.ro it->
  w.heap[it]? =some (.mapIter (some M1) c1 seen c1)->Kv gN gA (Bo es1 seen) γ.mine->KC X.Fd dv (bF r) M1 M2 it tm->LW X r γ k (at_ .out n) (gL1 tm fr cs) w:=by
 induction L using Nat.strongRecOn with
 |_ L ih=>
 intro seen γ w tm it n k hL hn hT oi ne1 Bw Wq Md hit hI hH;have hm:=hT.now.spot.worker;rw[hH.eq];refine xx (acd _ _ _ _ _ _ _ _ _) oi hT.o1 (hT.off oi) Md hit hT.w1 hT.i1 (λhl w1 h1=>?_) (λe he w1 h1 yY=>?_)
 .refine aC (QN _ _ _ _ _ _ _ _ _) ?_
  have T1:=hT.rely h1;refine gh (f:=λb=>pb b) (WZ _ _ _ _ _ _ _ _ _) (λw2 h2=>⟨_,wM Gl (T1.rely h2).w2,λx hx=>by simp at hx;subst hx;exact⟨M2,dQ,.inl hT.o2⟩⟩) λw2 B h2 hB hw2=>?_
  obtain⟨f1,f2,f3,f4,f5,f6⟩:=T1.fresh hB;have T2:=T1.more h2 hB hw2;obtain⟨tm',JG,hg⟩:=W0 X.Fd dv (bF r) M1 M2 it B fr cs λi=>tm.getD i undef
  have hl2:(leftOf es2 #[]).size=es2.size:=by
   have:leftOf es2 #[]=es2:=by unfold leftOf;rw[Array.filter_eq_self];simp
   rw[this]
  have e2:Bo es2 #[]=λ_=>False:=funext λs=>propext ⟨Ae s,False.elim⟩
  exact aC hg (ab2 hD _ #[] {γ with own:=λb=>γ.own b\/b=B} w2 tm' B n k rfl (by rw[hl2];omega) T2 (.inr rfl) f1 f2 (λq=>by have:=Th B q;omega) f4 hw2 (by
   rw[e2];exact hI.done λs hs=>Af hT.i1 hl (by simpa [uG] using hs)) JG)
 .have hmem:=xw he
  obtain⟨path,hk⟩:=iE (hT.i1.keys e hmem);have hval:=(hT.i1.has path e.val).2 ⟨e,hmem,hk,rfl⟩;obtain⟨s,hs,hev⟩:=Option.map_eq_some_iff.1 hval;have hless:=tJ he;have hV:=λs=>vX (seen:=seen) hT.i1 hmem hk s
  rw[hk,<-hev];have T1:=hT.turn h1 ne1 Bw Wq;clear h1;refine aC (QO _ _ _ _ _ _ _ _ _ _ _) ?_;refine cZ (Xf _ _ _ _ _ _ _ _ _ _ _) (x:= .tuple #[.string path,hv true s]) (λw2 h2=>?_) λw2 h2=>?_
  .have:=wO (aW h2 (.inl oi) yY) (T1.rely h2).w1 hT.i1 hmem
   rw[hk,<-hev] at this;exact⟨w2,_,this,rfl,rfl,rfl,rfl,λx hx=>by
    simp at hx;rcases hx with rfl|rfl
    .exact⟨it,dQ,.inl oi⟩
    .exact⟨M1,dQ,.inl hT.o1⟩⟩
  have T2:=T1.rely h2;have hit2:=aW h2 (.inl oi) yY;refine aC (Xe _ _ _ _ _ _ _ _ _ _ _) ?_;refine gh (f:=λb=>pb b) (Xd _ _ _ _ _ _ _ _ _ _ _) (λw3 h3=>⟨#[],mB KD,by simp⟩) λw3 B9 h3 Tp w93=>?_
  obtain⟨f1,f2,f3,f4,f5,f6⟩:=T2.fresh Tp;have n9i:B9≠it:=λq=>f3 (q▸oi)
  have T3:=T2.more h3 Tp w93;have hit3:w3.heap[it]? =_:=aW h3 (.inl oi) hit2;have akR:=T2.hr.size;clear h2 h3 yY hit2 T1 T2;have o9:(λb=>γ.own b\/b=B9) B9:= .inr rfl;refine aC (Xc _ _ _ _ _ _ _ _ B9 _ _ _) ?_
  refine jw (b:=B9) (A:=λo x=>x=undef/\o= .cells #[.bool true,.string s] TH (0,0)) o9 f5 (Xa _ _ _ _ _ _ _ _ _ _ _ _) (λw4 h4=>?_) (λw4 o x _ w94 ha h4=>?_) f4
  .obtain⟨w',ev,r1,r2,r3⟩:=fK (t:=TH) (off:=0) (v:=hv true s) (aW h4 (.inl o9) w93) GU (by simp[hv,Value.cells]) (by simp[hv,Value.cells,lk])
   exact⟨undef,_,w',ev,.inr ⟨r1,rfl⟩,r2,⟨rfl,rfl⟩,λe he=>⟨B9,r3 e he,.inl o9⟩⟩
  obtain⟨rfl,rfl⟩:=ha;have T4:=T3.turn h4 f1 f2 (λq=>by have:=Th B9 q;omega);have Q4:=aW h4 (.inl ⟨.inl oi,n9i.symm⟩) hit3;clear h4 T3 hit3 w93;refine aC (Xb _ _ _ _ _ _ _ _ _ _ _ _) ?_
  have ld:∀{w5 w6:World},w5.heap[B9]? =some (.cells #[.bool true,.string s] TH (0,0))->RX X γ.ro (λb=>γ.own b\/b=B9) w5 w6->∃w' ev,RT (kd.load TH (pb B9)).sem w6 (.value (hv true s)) w' ev/\w'.tape=w6.tape/\w'.output=w6.output/\w'.os=w6.os/\w'.heap=w6.heap/\∀e∈ev,∃b,EvB b e/\((γ.own b\/b=B9)\/(γ.ro b/\e.write=false)):=by
   intro w5 w6 a b;obtain⟨ev,r1,r2⟩:=jM (t:=TH) (off:=0) (n:=2) (aW b (.inl o9) a) aed GU (by simp);exact⟨w6,ev,r1,rfl,rfl,rfl,rfl,λe he=>⟨B9,(r2 e he).1,.inl o9⟩⟩
  refine cZ (W8 _ _ _ _ _ _ _ _ _ _ _ _) (x:=hv true s) (λw5 h5=>ld w94 h5) λw5 h5=>?_
  have T5:=T4.rely h5;have acJ:=aW h5 (.inl (.inl oi)) Q4;have w95:=aW h5 (.inl o9) w94;clear h5 T4 Q4 w94;refine aC (W9 _ _ _ _ _ _ _ _ _ _ _ _) ?_;have hx:∃b2 s2,(uG gA path).getD (hv false ⟨#[]⟩)=hv b2 s2/\((true==b2&&s==s2)=true↔gA path=some s):=by
   cases hA:gA path with
   |none=>exact⟨false,⟨#[]⟩,by simp[uG,hA],by simp⟩
   |some s2=>exact⟨true,s2,by simp[uG,hA],by
     simp only[beq_self_eq_true,Bool.true_and,Go.MapKept.bytes_beq,Option.some.injEq];exact eq_comm⟩
  obtain⟨b2,s2,hx1,hx2⟩:=hx;refine cZ (W6 _ _ _ _ _ _ _ _ _ _ _ _) (x:=hv b2 s2) (λw6 h6=>?_) λw6 h6=>?_
  .have:=pq (t:=TC) (s:=path) Gl KU KD (T5.rely h6).w2 hT.i2
   rw[hx1] at this;exact⟨w6,_,this,rfl,rfl,rfl,rfl,λx hx=>by
    simp at hx;subst hx;exact⟨M2,dQ,.inl (.inl hT.o2)⟩⟩
  have T6:=T5.rely h6;have acI:=aW h6 (.inl (.inl oi)) acJ;have w96:=aW h6 (.inl o9) w95;clear h6 T5 acJ w95;refine aC (W7 _ _ _ _ _ _ _ _ _ _ _ _ _ _) ?_;refine cZ (W4 _ _ _ _ _ _ _ _ _ _ _ _ _ _) (x:= .bool (!(true==b2&&s==s2))) (λw7 h7=>⟨w7,#[],GA _ _ _ _,rfl,rfl,rfl,rfl,by simp⟩) λw7 h7=>?_
  have T7:=T6.rely h7;have acH:=aW h7 (.inl (.inl oi)) acI;have w97:=aW h7 (.inl o9) w96;clear h7 T6 acI w96;have hLe:(leftOf es1 (seen.push e.born)).size<L:=hL▸hless
  by_cases heq:(true==b2&&s==s2)=true
  .rw[heq]
   obtain⟨tm',JG,hg⟩:=W3 X.Fd dv (bF r) M1 M2 it path s s2 b2 B9 fr cs λi=>tm.getD i undef
   exact aC hg (ih _ hLe (seen.push e.born) {γ with own:=λb=>γ.own b\/b=B9} w7 tm' it n k rfl (by omega) T7 (.inl oi) ne1 Bw Wq Md acH (hI.skip hV (by rw[hx2.1 heq,hs])) JG)
  .have heq':(true==b2&&s==s2)=false:=by simpa using heq
   rw[heq'];refine aC (QM _ _ _ _ _ _ _ _ _ _ _ _ _ _) ?_;refine cZ (W1 _ _ _ _ _ _ _ _ _ _ _ _ _ _) (x:=hv true s) (λw8 h8=>ld w97 h8) λw8 h8=>?_
   have T8:=T7.rely h8;have ahq:=aW h8 (.inl (.inl oi)) acH;refine aC (W2 _ _ _ _ _ _ _ _ _ _ _ _ _ _) ?_;obtain⟨n',rfl⟩:∃n',n=n'+1:=⟨n-1,by omega⟩
   refine CP (γ:={γ with own:=λb=>γ.own b\/b=B9}) T8.now.spot T8.now.low T8.now.ml T8.now.live (λk' w9 own' d a1 a2 a4 a3=>?_) k;obtain⟨tm',JG,hg⟩:=Xg X.Fd dv (bF r) M1 M2 it path s s2 b2 B9 fr cs λi=>tm.getD i undef
   exact aC hg (ih _ hLe (seen.push e.born) {γ with own:=own',mine:=iD γ.mine path (true,s),other:=d} w9 tm' it n' k' rfl (by omega) (T8.grow a3 a1 a2 a4) (a1 _ (.inl oi)) ne1 Bw Wq Md (aW a3 (.inl (.inl oi)) ahq) (hI.put hV hs λq=>heq (hx2.2 q)) JG)
end
end aF
end
section
open Go.RowKit Go.Lib
def qm (set:Int)(fs:List cV):ByteArray->Option ByteArray:=fs.foldl (λg f=>if(f.set:Int)=set then λs=>if s=aB f.path then some (aB f.content) else g s else g) λ_=>none
theorem MX (set:Int)(fs:List cV)(k:Nat)(hk:k<fs.length):qm set (fs.take (k+1))=if(fs[k].set:Int)=set then λs=>if s=aB fs[k].path then some (aB fs[k].content) else qm set (fs.take k) s else qm set (fs.take k):=by
 unfold qm;rw[List.take_succ_eq_append_getElem hk,List.foldl_append];rfl
theorem QX (g:ByteArray->Option ByteArray)(p c:ByteArray):aF.uG (λs=>if s=p then some c else g s)=λs=>if s=p then some (aF.hv true c) else aF.uG g s:=by
 funext s
 unfold aF.uG
 by_cases h:s=p
 .simp[h]
 .simp[h]
theorem TZ:Tryz.prog.underlying 251=some (.map 9 161):=by kernel_rfl
theorem af7:Tryz.prog.underlying 9=some .string:=by kernel_rfl
section
variable {P:Program}{ops:Array Oper}{Q:Exit->Act->World->Prop}{o:Oper}{rest:List Oper}{a:Act}{w:World}
theorem Aj {t:TypeId}(_:o.op= .makeMap t none)(h:al (wpList P ops Q (o::rest) a w)):wpList P ops Q (o::rest) a w:=h
theorem wj {t:TypeId}{x y z:Operand}(_:o.op= .mapUpdate t x y z)(h:al (wpList P ops Q (o::rest) a w)):wpList P ops Q (o::rest) a w:=h
end
theorem Ej {P:Program}{ops:Array Oper}{Q:Exit->Act->World->Prop}{a:Act}{w:World}{rest:List Oper}{o:Oper}(hg:o.guard=none)(t:TypeId)(ho:o.op= .makeMap t none)
  (h:∀w' b,w.heap.size<=b->aO [] w w'->w'.heap[b]? =some (.map #[] 0)->wpList P ops Q rest (a.put o.dst (.map (some b))) w'):wpList P ops Q (o::rest) a w:=by
 refine cx hg (.map (some w.heap.size)) (w.alloc (.map #[] 0)) (by unfold execOp;rw[ho];rfl) (h _ _ (Nat.le_refl _) (aO.alloc _ _ _) ?_);show(w.heap.push _)[w.heap.size]? =_;simp
theorem aO.upd {m:Nat}{o:Obj}{w w':World}(h:aF.zl m o w w'):aO [m] w w':=⟨h.os,h.tape,h.output,by rw[h.size];exact Nat.le_refl _,λk _ hk=>h.rest k (by simpa using hk)⟩
theorem Ad {ops:Array Oper}{Q:Exit->Act->World->Prop}{a:Act}{w:World}{rest:List Oper}{o:Oper}(hg:o.guard=none)(x y z:Operand)(ho:o.op= .mapUpdate 251 x y z){m:Nat}{p:ByteArray}{v:Value}
  (hx:a.eval x= .map (some m)) (hy:a.eval y= .string p) (hz:a.eval z=v) {es:Array MapEntry} {c:Nat} {f:ByteArray->Option Value} (hm:w.heap[m]? =some (.map es c)) (hf:aF.di es c f)
  (h:∀w' es' c',aO [m] w w'->w'.heap[m]? =some (.map es' c')->aF.di es' c' (λs=>if s=p then some v else f s)->es'.size<=es.size+1->wpList Tryz.prog ops Q rest (a.put o.dst undef) w'):wpList Tryz.prog ops Q (o::rest) a w:=by
 obtain⟨es',c',w',ev,h1,h2,_,h3,h4⟩:=aF.p5 (v:=v) TZ af7 hm hf;refine vA hg w' ?_ (h w' es' c' (aO.upd h2) h2.at_ h4 h3);have:=h1.run;unfold execOp;rw[ho];dsimp only;rw[hx,hy,hz];exact this
def x6 (set:Int)(x:DS)(n:Nat)(w:World)(e:Ending)(w':World):Prop:=∃m es c,e= .returned (.map (some m))/\w.heap.size<=m/\w'.heap[m]? =some (.map es c)/\aF.di es c (aF.uG (qm set (aP x n)))/\es.size<=54/\aO [] w w'
theorem zd {D:World->Prop}{d n:Nat}{x:DS}(R:OW D d n x)(set:Int)(w:World)(h:D w):
  ∃cd,Tryz.f166.body=some cd/\cd.wp Tryz.prog (bodyPost Tryz.prog Tryz.f166 (x6 set x n w)) {tmps:=#[.pointer (some ⟨d,0,none⟩),.int .i64 set]++Array.replicate (Tryz.f166.ntmps-(#[.pointer (some ⟨d,0,none⟩),.int .i64 set]:Array Value).size) undef,defers:=[]} w:=by
 refine⟨_,rfl,?_⟩;simp only[Tryz.ntmps166,List.size_toArray,List.length_cons,List.length_nil,Nat.reduceAdd,Nat.reduceSub,Array.replicate_succ,
   Array.replicate_zero,List.push_toArray,List.append_toArray,List.nil_append,List.cons_append]
 have hfl:(aP x n).length<=54:=by unfold aP;rw[List.length_map];exact iA x n
 have hfp:Hid (∀f∈aP x n,f.set<256):=λf hf=>by
  unfold aP at hf;rw[List.mem_map] at hf;obtain⟨i,_,rfl⟩:=hf;exact IX _
 go_wp2_with (with_reducible first|refine Aj rfl ?_);refine al.go (Ej rfl 251 rfl ?_);intro w1 m l1 f1 r1;go_wp2_with fail;have h1:=R.new h f1 (by simp);refine(Ow R w1 h1).mono ?_;rintro e w2 ⟨v,rfl,hv,f2⟩;have r2:w2.heap[m]? =some (.map #[] 0):=by rw[f2.block m (Array.getElem?_eq_some_iff.1 r1).1 (by simp)];exact r1
 have f12:=f1.trans f2;have ml1:m<w1.heap.size:=(Array.getElem?_eq_some_iff.1 r1).1;have uG:∀k∈[m],v.ownBlock≠some k:=λk hk e=>by
  simp only[List.mem_singleton] at hk;subst hk;have:=(hv.lt _ e).1;omega
 clear f1 f2 r1 h1;generalize hfs:aP x n=fs at*;have HF:Hid (aP x n=fs):=hfs;clear hfs;obtain⟨ad,cap,hv'⟩:=bQ hv;subst hv';have uG:Hid (∀k∈[m],(Value.slice ad fs.length cap).ownBlock≠some k):=uG;have ml:m<w2.heap.size:=(Array.getElem?_eq_some_iff.1 r2).1;go_wp2_with fail
 go_loopw [12] (λc wr=>∃(k:Nat) (es:Array MapEntry) (cn:Nat),c= .int .i64 k/\k<=fs.length/\aO [m] w2 wr/\wr.heap[m]? =some (.map es cn)/\Hid (aF.di es cn (aF.uG (qm set (fs.take k)))/\es.size<=k)) (λc _=>fs.length-(intOf c).toNat)
 case atStart=>exact⟨0,#[],0,rfl,by omega,aO.refl _ _,r2,aF.di.empty 0,by simp⟩
 case round=>
  obtain⟨k,es,cn,rfl,hk,fk,rm,HM⟩:=hrel;clear r2;have hvk:=fk.owns hv uG.out
  by_cases hlt:k<fs.length
  .obtain⟨g,cur,rfl,hg,hle,_,hcs,htk⟩:=eU hvk
   have hat:((cur.toList.drop (k*3)).take 3)=bR fs[k].set fs[k].path fs[k].content:=by
    rw[ck htk _ _,xJ fs k hlt]
   have hT:=MX set fs k hlt;have hfk:=hfp.out fs[k] (List.getElem_mem hlt);generalize fs[k]=f at hat hT hfk;have HT:Hid (qm set (fs.take (k+1))=if(f.set:Int)=set then λs=>if s=aB f.path then some (aB f.content) else qm set (fs.take k) s else qm set (fs.take k)):=hT;clear hT hcs htk
   go_wp2_with (with_reducible first|refine ay 107 rfl ?_|refine az rfl ?_|refine af 107 rfl ?_);refine al.go (bU rfl 107 _ rfl g (k*3) rfl kP 3 eK _ _ hg (bR f.set f.path f.content) hat rfl ?_);clear hat hg;go_wp2_with (with_reducible first|refine az rfl ?_|refine af 107 rfl ?_)
   refine al.go (bi rfl 107 rfl zr mj ?_);intro w4 b5 l5 f4 r5;have ne5:b5≠m:=by have:=fk.size;omega
   have rm4:w4.heap[m]? =some (.map es cn):=by rw[f4.block m (Array.getElem?_eq_some_iff.1 rm).1 (by simp)];exact rm
   go_wp2_with (with_reducible first|refine az rfl ?_|refine af 107 rfl ?_);refine al.go (bK rfl 107 _ _ rfl _ 0 rfl _ rfl 3 eK ?_ ?_ _ _ r5 ?_ ?_)
   .rfl
   .simp[bR,Value.oneCell']
   .decide
   intro w5 f5 q5;rw[bH _ _ (by rfl)] at q5;have nF:Row w5 b5 (bR f.set f.path f.content).toArray 107:=q5;have rm5:w5.heap[m]? =some (.map es cn):=by rw[f5.block m (Array.getElem?_eq_some_iff.1 rm4).1 (by simpa using ne5.symm)];exact rm4
   have f45:=f4.trans f5 (by simpa using l5);have mL:=fk.trans f45;have c0:w5.cell? ⟨b5,0,none⟩=some (.int .i64 f.set):=by rw[nF.cell];rfl
   have c1:w5.cell? ⟨b5,1,none⟩=some (.string (aB f.path)):=by rw[nF.cell];rfl
   have c2:w5.cell? ⟨b5,2,none⟩=some (.string (aB f.content)):=by rw[nF.cell];rfl
   clear q5 r5 f4 f5 f45 fk l5 hvk rm rm4 nF;go_wp2_with (with_reducible first|refine wj rfl ?_)
   .refine al.go (Ad rfl _ _ _ rfl rfl rfl rfl rm5 HM.out.1 ?_)
    intro w6 es6 c6 f6 rm6 hm6 hs6;have Hd:=mL.trans f6;go_wp2_with fail;refine⟨⟨k+1,es6,c6,by simp,by omega,Hd,rm6,?_,?_⟩,by simp[intOf];omega⟩
    .rw[HT.out,if_pos (by simpa using(‹((f.set:Int)==set)=true›)),QX]
     exact hm6
    .have:=HM.out.2;omega
   .refine⟨⟨k+1,es,cn,by simp,by omega,mL,rm5,?_,?_⟩,by simp[intOf];omega⟩
    .rw[HT.out,if_neg (by simpa using(‹((f.set:Int)==set)=false›))]
     exact HM.out.1
    .have:=HM.out.2;omega
  .obtain rfl:k=fs.length:=by omega
   go_wp2_with fail;go_ret;exact⟨m,es,cn,rfl,l1,rm,by rw[HF.out];rw[List.take_length] at HM;exact HM.out.1,by have:=HM.out.2;omega,(f12.trans fk (by simp;omega)).mono⟩
end
section
open Go.Conc
open Go.ConcM (OsLater)
namespace aF
section
variable {X:Cx iJ}{r:bh}{ro:Nat->Prop}{gN gA:ByteArray->Option ByteArray}{dv:Value}{K:Nat}{Rd:World->Prop}
def Cont (X:Cx iJ)(r:bh)(ro:Nat->Prop)(Rd:World->Prop)(dv:Value)(set:Int)(g:ByteArray->Option ByteArray)(K:Nat):Prop:=
 ∀(γ:Gh iJ) (k:Nat) (T:Lo) (w:World) (fr:Frame) (cs:List Frame),eI T.pc=false->Now X r γ w->γ.ro=ro->Rd w->
  (∀w' m es c (own':Nat->Prop),(∀b,γ.own b->own' b)->(∀b,own' b->γ.own b\/w.heap.size<=b)->(∀b,own' b->b<w'.heap.size)->RX X γ.ro γ.own w w'->own' m->¬γ.own m->w'.heap[m]? =some (.map es c)->di es c (uG g)->es.size<=K->
   LW X r {γ with own:=own'} k T (cA fr cs (.map (some m))) w')->LW X r γ k T (gC0 dv set fr cs) w
theorem Jh (hRd:∀w w' own,Rd w->RX X ro own w w'->Rd w')(h1:Cont X r ro Rd dv (bF r:Int) gN K)(h2:Cont X r ro Rd dv 2 gA K){γ:Gh iJ}{w:World}{fr:Frame}{cs:List Frame}{n k:Nat}(hn:2*K<=n)(hT:Now X r γ w)(hro:γ.ro=ro)(hw:Rd w)
  (h0:γ.mine=λ_=>none) (hD:Done X r ro γ.own w (jR gN gA) fr cs):LW X r γ k (at_ .out n) (ZH X.Fd dv (bF r:Int) fr cs) w:=by
 refine aC (Yr _ _ _ _ _) (h1 γ k _ w _ _ rfl hT hro hw λw1 M1 es1 c1 yQ a1 a2 a3 a4 o1 no1 hw1 i1 s1=>?_);have T1:Now X r {γ with own:=yQ} w1:=hT.grow a4 (m:=γ.mine) (d:=γ.other) a2 a3;have R1:Rd w1:=hRd w w1 γ.own hw (hro▸a4);refine aC (Yq _ _ _ _ _ _) (h2 {γ with own:=yQ} k _ w1 _ _ rfl T1 hro R1 λw2 M2 es2 c2 Wd b1 b2 b3 b4 o2 no2 hw2 i2 s2=>?_)
 have T2:Now X r {γ with own:=Wd} w2:=T1.grow b4 (m:=γ.mine) (d:=γ.other) b2 b3;have H2:RX X ro γ.own w w2:=by
  have a4':RX X ro γ.own w w1:=hro▸a4;have b4':RX X ro yQ w1 w2:=hro▸b4;exact a4'.trans X (b4'.sub a1)
 have two:Two X r ro γ.own w gN gA es1 es2 c1 c2 M1 M2 {γ with own:=Wd} w2:=by
  refine⟨T2,hro,λb hb=>b1 b (a1 b hb),λb hb=>?_,H2,b1 _ o1,o2,aW b4 (.inl o1) hw1,hw2,i1,i2⟩;rcases b2 b hb with hb|hb
  .exact a2 b hb
  .exact .inr (Nat.le_trans a4.size hb)
 refine aC (Yp _ _ _ _ _ _ _) ?_;refine gh (f:=λb=>pb b) (Yn _ _ _ _ _ _ _) (λw3 h3=>⟨_,wM Gl (two.rely h3).w1,λx hx=>by simp at hx;subst hx;exact⟨M1,dQ,.inl (b1 _ o1)⟩⟩) λw3 B h3 hB hw3=>?_
 obtain⟨f1,f2,f3,f4,f5,f6⟩:=two.fresh hB;have T3:=two.more h3 hB hw3;obtain⟨tm',JG,hg⟩:=Yo X.Fd dv (bF r) M1 M2 B fr cs (.map (some M1)) rfl;have hl1:leftOf es1 #[]=es1:=by unfold leftOf;rw[Array.filter_eq_self];simp
 have e1:Bo es1 #[]=λ_=>False:=funext λs=>propext ⟨Ae s,False.elim⟩
 exact aC hg (ab3 (λb hb=>hT.low b (.inl hb)) hD _ #[] {γ with own:=λb=>Wd b\/b=B} w3 tm' B n k rfl (by rw[hl1];omega) T3 (.inr rfl) f1 f2 (λq=>by have:=hT.low B (.inl q);omega) f4 hw3 (by
  rw[e1];show Kv gN gA _ γ.mine;rw[h0];exact Kv.start) JG)
theorem tZ (hRd:∀w w' own,Rd w->RX X ro own w w'->Rd w')(h1:Cont X r ro Rd dv (bF r:Int) gN K)(h2:Cont X r ro Rd dv 2 gA K){γ:Gh iJ}{w:World}{n k bw bf bd bs:Nat}(hn:2*K<=n)(hT:Now X r γ w)(hro:γ.ro=ro)(hw:Rd w)
  (h0:γ.mine=λ_=>none) (hfin:X.fin r=jR gN gA) (rw_:ro bw) (rf:ro bf) (rd:ro bd) (rs:ro bs) (cw:w.cell? ⟨bw,0,none⟩=some (pb X.Wg)) (cf:w.cell? ⟨bf,0,none⟩=some (qh X.Fd bd bs)) (cd:w.cell? ⟨bd,0,none⟩=some dv) (cs:w.cell? ⟨bs,0,none⟩=some (.int .i64 (bF r:Int))):
  LW X r γ k (at_ .out n) (ZF bw bf) w:=by
 subst hro;refine O4 rfl rf rd rs cf cd cs (Jh hRd h1 h2 hn hT rfl hw h0 λk' w' γ' n' t1 t2 t3 t4 t5 t6=>?_);have hlt:bw<w.heap.size:=hT.low bw (.inr rw_);have cw':w'.cell? ⟨bw,0,none⟩=some (pb X.Wg):=by
  unfold World.cell? at cw⊢;rw[t5.keep bw hlt (.inr rw_)];exact cw
 exact KJ t1.spot.worker t1.spot.room t1.live (t2▸rw_) cw' (t6.trans hfin.symm)
end
def OT (g:Goroutine):Goroutine:=AQ PP true 200 g
def OTn (n:Nat)(g:Goroutine):Goroutine:=AQ PP true n g
theorem bm {g:Goroutine}(h:∀ws:Nat->World,yA PP true 200 g ws=some (OT g,(List.range (bJ PP true 200 g)).map ws)):av PP true g (OT g):=⟨200,_,h⟩
theorem bD {g g':Goroutine}(n m:Nat)(h:∀ws:Nat->World,yA PP true n g ws=some (g',(List.range m).map ws)):av PP true g g':=⟨n,m,h⟩
abbrev KB:TypeId:=219
abbrev TWg:TypeId:=225
def fd0 (M:Nat):Value:= .agg #[.int .i32 0,.int .u32 0,.map (some M)]
section
variable (W F bw bf bd bs bs' M:Nat)(dv f:Value)(fr:Frame)(cs:List Frame)(x:Int)(y:Nat->Value)
def VN:Goroutine:=MY 162 #[pb W,.int .i64 1] 115 fr cs
def Zq:Goroutine:=OT (VN W fr cs)
theorem Ly:av PP true (VN W fr cs) (Zq W fr cs):=bm λws=>by kernel_rfl
theorem vE:aG (Zq W fr cs)=some (168,#[]):=by kernel_rfl
def sA2:Goroutine:=OT (resume (Zq W fr cs) U)
theorem Lx:av PP true (resume (Zq W fr cs) U) (sA2 W fr cs):=bm λws=>by kernel_rfl
theorem Gx:aG (sA2 W fr cs)=some (176,#[]):=by kernel_rfl
def Zp:Goroutine:=OT (resume (sA2 W fr cs) (.bool false))
theorem Lw:av PP true (resume (sA2 W fr cs) (.bool false)) (Zp W fr cs):=bm λws=>by kernel_rfl
theorem vD:aG (Zp W fr cs)=some (213,#[pb W,.int .u64 4294967296]):=by kernel_rfl
def OP:Goroutine:=OT (resume (Zp W fr cs) (.int .u64 4294967296))
theorem Lv:av PP true (resume (Zp W fr cs) (.int .u64 4294967296)) (OP W fr cs):=bm λws=>by kernel_rfl
theorem Lu:aS (OP W fr cs)=some (.conv (zc (OP 0 default [])) (z8 (OP 0 default [])) (p8 W)):=by kernel_rfl
theorem SR:PP.underlying (zc (OP 0 default []))=some (.pointer (z7 (OP 0 default []))):=by kernel_rfl
theorem SS:PP.underlying (z8 (OP 0 default []))=some .unsafePointer:=by kernel_rfl
theorem SQ:(PP.info? (z7 (OP 0 default []))).map (λi=>decide (i.size=0))=some false:=by kernel_rfl
def Zo:Goroutine:=OT (resume (OP W fr cs) (p8 W))
theorem Ls:av PP true (resume (OP W fr cs) (p8 W)) (Zo W fr cs):=bm λws=>by kernel_rfl
theorem AE:aG (Zo W fr cs)=some (198,#[p8 W]):=by kernel_rfl
def sA6:Goroutine:=OT (resume (Zo W fr cs) U)
theorem Lr:av PP true (resume (Zo W fr cs) U) (sA6 W fr cs):=bm λws=>by kernel_rfl
theorem Lq:ie (sA6 W fr cs)=some (170,#[]):=by kernel_rfl
theorem Gw:av PP true (cY (sA6 W fr cs)) (cA fr cs U):=bD 1 (bJ PP true 1 (cY (sA6 W fr cs))) λws=>by kernel_rfl
def sA7:Goroutine:=OT (resume (Zp W fr cs) (.int .u64 8589934592))
theorem VM:av PP true (resume (Zp W fr cs) (.int .u64 8589934592)) (sA7 W fr cs):=bm λws=>by kernel_rfl
theorem VL:ie (sA7 W fr cs)=some (170,#[]):=by kernel_rfl
theorem PU:av PP true (cY (sA7 W fr cs)) (cA fr cs U):=bD 1 (bJ PP true 1 (cY (sA7 W fr cs))) λws=>by kernel_rfl
def Zm:Goroutine:=MY 130 #[pb W,f] 5 fr cs
def sG1:Goroutine:=OT (Zm W f fr cs)
theorem Vq:av PP true (Zm W f fr cs) (sG1 W f fr cs):=bm λws=>by kernel_rfl
theorem Vp:aS (sG1 W f fr cs)=some (.box 249 (pb W)):=by kernel_rfl
def sG2:Goroutine:=OT (resume (sG1 W f fr cs) (pb bw))
theorem Vo:av PP true (resume (sG1 W f fr cs) (pb bw)) (sG2 W bw f fr cs):=bm λws=>by kernel_rfl
theorem Vn:aS (sG2 W bw f fr cs)=some (.box 1 f):=by kernel_rfl
def sG3:Goroutine:=OT (resume (sG2 W bw f fr cs) (pb bf))
theorem Vm:av PP true (resume (sG2 W bw f fr cs) (pb bf)) (sG3 W bw bf f fr cs):=bm λws=>by kernel_rfl
theorem Vk:aS (sG3 W bw bf f fr cs)=some (.load 249 (pb bw)):=by kernel_rfl
def fG:Frame:=(OTn 1 (resume (sG3 W bw bf f fr cs) (pb W))).callers.head?.getD default
theorem Vl:av PP true (resume (sG3 W bw bf f fr cs) (pb W)) (VN W (fG W bw bf f fr cs) (fr::cs)):=bD 1 (bJ PP true 1 (resume (sG3 W bw bf f fr cs) (pb W))) λws=>by kernel_rfl
def Vj:Goroutine:=OT (cA (fG W bw bf f fr cs) (fr::cs) U)
theorem Vi:av PP true (cA (fG W bw bf f fr cs) (fr::cs) U) (Vj W bw bf f fr cs):=bm λws=>by kernel_rfl
theorem PS:av PP true (resume (Vj W bw bf f fr cs) undef) (cA fr cs U):=bD 3 (bJ PP true 3 (resume (Vj W bw bf f fr cs) undef)) λws=>by kernel_rfl
def sT0:Goroutine:=MY 88 #[dv] 16 fr cs
def sT1:Goroutine:=OT (sT0 dv fr cs)
theorem UL:av PP true (sT0 dv fr cs) (sT1 dv fr cs):=bm λws=>by kernel_rfl
theorem UK:aS (sT1 dv fr cs)=some (.box 94 dv):=by kernel_rfl
def sT2:Goroutine:=OT (resume (sT1 dv fr cs) (pb bd))
theorem UJ:av PP true (resume (sT1 dv fr cs) (pb bd)) (sT2 bd dv fr cs):=bm λws=>by kernel_rfl
theorem UI:aS (sT2 bd dv fr cs)=some (.makeMap TM):=by kernel_rfl
def sT3:Goroutine:=OT (resume (sT2 bd dv fr cs) (.map (some M)))
theorem UH:av PP true (resume (sT2 bd dv fr cs) (.map (some M))) (sT3 bd M dv fr cs):=bm λws=>by kernel_rfl
theorem UG:aS (sT3 bd M dv fr cs)=some (.build KB #[(1,.map (some M))]):=by kernel_rfl
def sT4:Goroutine:=OT (resume (sT3 bd M dv fr cs) (fd0 M))
theorem UF:av PP true (resume (sT3 bd M dv fr cs) (fd0 M)) (sT4 bd M dv fr cs):=bm λws=>by kernel_rfl
theorem UE:aS (sT4 bd M dv fr cs)=some (.alloc KB):=by kernel_rfl
def sT5:Goroutine:=OT (resume (sT4 bd M dv fr cs) (pb F))
theorem UD:av PP true (resume (sT4 bd M dv fr cs) (pb F)) (sT5 F bd M dv fr cs):=bm λws=>by kernel_rfl
theorem UC:aS (sT5 F bd M dv fr cs)=some (.store KB (pb F) (fd0 M)):=by kernel_rfl
def Zl:Goroutine:=OT (resume (sT5 F bd M dv fr cs) undef)
theorem UB:av PP true (resume (sT5 F bd M dv fr cs) undef) (Zl F bd M dv fr cs):=bm λws=>by kernel_rfl
theorem UA:aS (Zl F bd M dv fr cs)=some (.alloc TWg):=by kernel_rfl
def sT7:Goroutine:=OT (resume (Zl F bd M dv fr cs) (pb W))
theorem Uz:av PP true (resume (Zl F bd M dv fr cs) (pb W)) (sT7 W F bd M dv fr cs):=bm λws=>by kernel_rfl
theorem Uy:aS (sT7 W F bd M dv fr cs)=some (.alloc 3):=by kernel_rfl
def sT8:Goroutine:=OT (resume (sT7 W F bd M dv fr cs) (pb bs))
theorem Ux:av PP true (resume (sT7 W F bd M dv fr cs) (pb bs)) (sT8 W F bd bs M dv fr cs):=bm λws=>by kernel_rfl
theorem Uv:aS (sT8 W F bd bs M dv fr cs)=some (.store 3 (pb bs) (.int .i64 0)):=by kernel_rfl
def fT1:Frame:=(OTn 4 (resume (sT8 W F bd bs M dv fr cs) undef)).callers.head?.getD default
theorem Uw:av PP true (resume (sT8 W F bd bs M dv fr cs) undef) (Zm W (qh F bd bs) (fT1 W F bd bs M dv fr cs) (fr::cs)):=bD 4 (bJ PP true 4 (resume (sT8 W F bd bs M dv fr cs) undef)) λws=>by kernel_rfl
def sS7:Goroutine:=OT (cA (fT1 W F bd bs M dv fr cs) (fr::cs) U)
theorem UR:av PP true (cA (fT1 W F bd bs M dv fr cs) (fr::cs) U) (sS7 W F bd bs M dv fr cs):=bm λws=>by kernel_rfl
theorem UQ:aS (sS7 W F bd bs M dv fr cs)=some (.alloc 3):=by kernel_rfl
def sS8:Goroutine:=OT (resume (sS7 W F bd bs M dv fr cs) (pb bs'))
theorem UP:av PP true (resume (sS7 W F bd bs M dv fr cs) (pb bs')) (sS8 W F bd bs bs' M dv fr cs):=bm λws=>by kernel_rfl
theorem UN:aS (sS8 W F bd bs bs' M dv fr cs)=some (.store 3 (pb bs') (.int .i64 1)):=by kernel_rfl
def ZK:Frame:=(OTn 4 (resume (sS8 W F bd bs bs' M dv fr cs) undef)).callers.head?.getD default
theorem UO:av PP true (resume (sS8 W F bd bs bs' M dv fr cs) undef) (Zm W (qh F bd bs') (ZK W F bd bs bs' M dv fr cs) (fr::cs)):=bD 4 (bJ PP true 4 (resume (sS8 W F bd bs bs' M dv fr cs) undef)) λws=>by kernel_rfl
def sW0:Goroutine:=MY 133 #[pb W] 83 fr cs
def fT3:Frame:=(OTn 17 (cA (ZK W F bd bs bs' M dv fr cs) (fr::cs) U)).callers.head?.getD default
theorem UM:av PP true (cA (ZK W F bd bs bs' M dv fr cs) (fr::cs) U) (sW0 W (fT3 W F bd bs bs' M dv fr cs) (fr::cs)):=bD 17 (bJ PP true 17 (cA (ZK W F bd bs bs' M dv fr cs) (fr::cs) U)) λws=>by kernel_rfl
def Iq9:Goroutine:=OT (sW0 W fr cs)
theorem EG:av PP true (sW0 W fr cs) (Iq9 W fr cs):=bm λws=>by kernel_rfl
theorem Gu:aG (Iq9 W fr cs)=some (168,#[]):=by kernel_rfl
end
def aak:List Item:=match(OT (resume (Iq9 0 default []) U)).callers with|f::_=>f.todo|[]=>[]
def agk (W:Nat):Frame:=(OT (resume (Iq9 W default []) U)).frame
def sH (W:Nat)(tm:Array Value)(fr:Frame)(cs:List Frame):Goroutine:=G (agk W) ((base 133).at ⟨tm,[]⟩ aak::fr::cs)
structure HW (W:Nat)(tm:Array Value):Prop where
 size:tm.size=84
 s0:tm[0]? =some (pb W)
def tmW (W:Nat)(y:Nat->Value):Array Value:=#[pb W,y 1,y 2,y 3,y 4,y 5,y 6,y 7,y 8,y 9,y 10,y 11,y 12,y 13,y 14,y 15,y 16,y 17,y 18,y 19,y 20,y 21,y 22,y 23,y 24,y 25,y 26,y 27,y 28,y 29,y 30,y 31,y 32,y 33,y 34,y 35,y 36,y 37,y 38,y 39,y 40,y 41,y 42,y 43,y 44,y 45,y 46,y 47,y 48,y 49,y 50,y 51,y 52,y 53,y 54,y 55,y 56,y 57,y 58,y 59,y 60,y 61,y 62,y 63,y 64,y 65,y 66,y 67,y 68,y 69,y 70,y 71,y 72,y 73,y 74,y 75,y 76,y 77,y 78,y 79,y 80,y 81,y 82,y 83]
theorem Pu (tm:Array Value)(h:tm.size=84):tm=#[tm.getD 0 undef,tm.getD 1 undef,tm.getD 2 undef,tm.getD 3 undef,tm.getD 4 undef,tm.getD 5 undef,tm.getD 6 undef,tm.getD 7 undef,tm.getD 8 undef,tm.getD 9 undef,tm.getD 10 undef,tm.getD 11 undef,tm.getD 12 undef,tm.getD 13 undef,tm.getD 14 undef,tm.getD 15 undef,tm.getD 16 undef,tm.getD 17 undef,tm.getD 18 undef,tm.getD 19 undef,tm.getD 20 undef,tm.getD 21 undef,tm.getD 22 undef,tm.getD 23 undef,tm.getD 24 undef,tm.getD 25 undef,tm.getD 26 undef,tm.getD 27 undef,tm.getD 28 undef,tm.getD 29 undef,tm.getD 30 undef,tm.getD 31 undef,tm.getD 32 undef,tm.getD 33 undef,tm.getD 34 undef,tm.getD 35 undef,tm.getD 36 undef,tm.getD 37 undef,tm.getD 38 undef,tm.getD 39 undef,tm.getD 40 undef,tm.getD 41 undef,tm.getD 42 undef,tm.getD 43 undef,tm.getD 44 undef,tm.getD 45 undef,tm.getD 46 undef,tm.getD 47 undef,tm.getD 48 undef,tm.getD 49 undef,tm.getD 50 undef,tm.getD 51 undef,tm.getD 52 undef,tm.getD 53 undef,tm.getD 54 undef,tm.getD 55 undef,tm.getD 56 undef,tm.getD 57 undef,tm.getD 58 undef,tm.getD 59 undef,tm.getD 60 undef,tm.getD 61 undef,tm.getD 62 undef,tm.getD 63 undef,tm.getD 64 undef,tm.getD 65 undef,tm.getD 66 undef,tm.getD 67 undef,tm.getD 68 undef,tm.getD 69 undef,tm.getD 70 undef,tm.getD 71 undef,tm.getD 72 undef,tm.getD 73 undef,tm.getD 74 undef,tm.getD 75 undef,tm.getD 76 undef,tm.getD 77 undef,tm.getD 78 undef,tm.getD 79 undef,tm.getD 80 undef,tm.getD 81 undef,tm.getD 82 undef,tm.getD 83 undef]:=by
 have e:tm=((List.range 84).map λi=>tm.getD i undef).toArray:=by
  apply Array.ext
  .simp[h]
  .intro i h1 h2
   simp[Array.getD_eq_getD_getElem?,h1]
 exact e.trans (by kernel_rfl)
theorem HW.eq {W:Nat}{tm:Array Value}(h:HW W tm):tm=tmW W λi=>tm.getD i undef:=by
 have h1:=Pu tm h.size;rw[bX h.s0] at h1;exact h1
section
variable (W:Nat)(fr:Frame)(cs:List Frame)(y:Nat->Value)
theorem UW:∃tm,HW W tm/\av PP true (resume (Iq9 W fr cs) U) (sH W tm fr cs):=⟨match(OT (resume (Iq9 W fr cs) U)).callers with|f::_=>f.tmps|[]=>#[],⟨by kernel_rfl,by kernel_rfl⟩,bD 200 (bJ PP true 200 (resume (Iq9 W fr cs) U)) λws=>by kernel_rfl⟩
abbrev sh:Goroutine:=sH W (tmW W y) fr cs
theorem SN:aG (sh W fr cs y)=some (203,#[pb W]):=by kernel_rfl
def sE:Goroutine:=OT (resume (sh W fr cs y) (.int .u64 0))
theorem aaM:av PP true (resume (sh W fr cs y) (.int .u64 0)) (sE W fr cs y):=bm λws=>by kernel_rfl
theorem aaL:aG (sE W fr cs y)=some (170,#[]):=by kernel_rfl
def OM:Goroutine:=OT (resume (sE W fr cs y) U)
theorem Vy:av PP true (resume (sE W fr cs y) U) (OM W fr cs y):=bm λws=>by kernel_rfl
theorem Vx:aS (OM W fr cs y)=some (.conv (zc (OM 0 default [] λ_=>undef)) (z8 (OM 0 default [] λ_=>undef)) (pb W)):=by kernel_rfl
theorem aaO:PP.underlying (zc (OM 0 default [] λ_=>undef))=some (.pointer (z7 (OM 0 default [] λ_=>undef))):=by kernel_rfl
theorem aaP:PP.underlying (z8 (OM 0 default [] λ_=>undef))=some .unsafePointer:=by kernel_rfl
theorem aaN:(PP.info? (z7 (OM 0 default [] λ_=>undef))).map (λi=>decide (i.size=0))=some false:=by kernel_rfl
def sEM:Goroutine:=OT (resume (OM W fr cs y) (pb W))
theorem Vv:av PP true (resume (OM W fr cs y) (pb W)) (sEM W fr cs y):=bm λws=>by kernel_rfl
theorem Vw:aG (sEM W fr cs y)=some (171,#[pb W]):=by kernel_rfl
theorem PT:av PP true (resume (sEM W fr cs y) U) (cA fr cs U):=bD 20 (bJ PP true 20 (resume (sEM W fr cs y) U)) λws=>by kernel_rfl
def VK:Goroutine:=OT (resume (sh W fr cs y) (.int .u64 4294967296))
theorem VJ:av PP true (resume (sh W fr cs y) (.int .u64 4294967296)) (VK W fr cs y):=bm λws=>by kernel_rfl
theorem AD:aG (VK W fr cs y)=some (204,#[pb W,.int .u64 4294967296,.int .u64 4294967297]):=by kernel_rfl
theorem VI:∃tm,HW W tm/\av PP true (resume (VK W fr cs y) (.bool false)) (sH W tm fr cs):=⟨match(OT (resume (VK W fr cs y) (.bool false))).callers with|f::_=>f.tmps|[]=>#[],⟨by kernel_rfl,by kernel_rfl⟩,bD 200 (bJ PP true 200 (resume (VK W fr cs y) (.bool false))) λws=>by kernel_rfl⟩
def OO:Goroutine:=OT (resume (VK W fr cs y) (.bool true))
theorem VE:av PP true (resume (VK W fr cs y) (.bool true)) (OO W fr cs y):=bm λws=>by kernel_rfl
theorem VD:aS (OO W fr cs y)=some (.conv (zc (OO 0 default [] λ_=>undef)) (z8 (OO 0 default [] λ_=>undef)) (p8 W)):=by kernel_rfl
theorem aaU:PP.underlying (zc (OO 0 default [] λ_=>undef))=some (.pointer (z7 (OO 0 default [] λ_=>undef))):=by kernel_rfl
theorem aaV:PP.underlying (z8 (OO 0 default [] λ_=>undef))=some .unsafePointer:=by kernel_rfl
theorem aaT:(PP.info? (z7 (OO 0 default [] λ_=>undef))).map (λi=>decide (i.size=0))=some false:=by kernel_rfl
def sFk:Goroutine:=OT (resume (OO W fr cs y) (p8 W))
theorem Vu:av PP true (resume (OO W fr cs y) (p8 W)) (sFk W fr cs y):=bm λws=>by kernel_rfl
theorem Vt:aG (sFk W fr cs y)=some (175,#[p8 W]):=by kernel_rfl
def sIk:Goroutine:=OT (resume (sFk W fr cs y) U)
theorem Vg:av PP true (resume (sFk W fr cs y) U) (sIk W fr cs y):=bm λws=>by kernel_rfl
theorem PR:aG (sIk W fr cs y)=some (177,#[p8 W,.bool false]):=by kernel_rfl
def sJk:Goroutine:=OT (resume (sIk W fr cs y) U)
theorem Ve:av PP true (resume (sIk W fr cs y) U) (sJk W fr cs y):=bm λws=>by kernel_rfl
theorem Vd:aG (sJk W fr cs y)=some (203,#[pb W]):=by kernel_rfl
def sKk:Goroutine:=OT (resume (sJk W fr cs y) (.int .u64 0))
theorem U3:av PP true (resume (sJk W fr cs y) (.int .u64 0)) (sKk W fr cs y):=bm λws=>by kernel_rfl
theorem U2:aG (sKk W fr cs y)=some (170,#[]):=by kernel_rfl
def yO:Goroutine:=OT (resume (sKk W fr cs y) U)
theorem PN:av PP true (resume (sKk W fr cs y) U) (yO W fr cs y):=bm λws=>by kernel_rfl
theorem PM:aS (yO W fr cs y)=some (.conv (zc (yO 0 default [] λ_=>undef)) (z8 (yO 0 default [] λ_=>undef)) (pb W)):=by kernel_rfl
theorem U5:PP.underlying (zc (yO 0 default [] λ_=>undef))=some (.pointer (z7 (yO 0 default [] λ_=>undef))):=by kernel_rfl
theorem U6:PP.underlying (z8 (yO 0 default [] λ_=>undef))=some .unsafePointer:=by kernel_rfl
theorem U4:(PP.info? (z7 (yO 0 default [] λ_=>undef))).map (λi=>decide (i.size=0))=some false:=by kernel_rfl
def PL:Goroutine:=OT (resume (yO W fr cs y) (pb W))
theorem PJ:av PP true (resume (yO W fr cs y) (pb W)) (PL W fr cs y):=bm λws=>by kernel_rfl
theorem PK:aG (PL W fr cs y)=some (171,#[pb W]):=by kernel_rfl
theorem Lj:av PP true (resume (PL W fr cs y) U) (cA fr cs U):=bD 10 (bJ PP true 10 (resume (PL W fr cs y) U)) λws=>by kernel_rfl
def VH:Goroutine:=OT (resume (sh W fr cs y) (.int .u64 8589934592))
theorem VG:av PP true (resume (sh W fr cs y) (.int .u64 8589934592)) (VH W fr cs y):=bm λws=>by kernel_rfl
theorem AC:aG (VH W fr cs y)=some (204,#[pb W,.int .u64 8589934592,.int .u64 8589934593]):=by kernel_rfl
theorem VF:∃tm,HW W tm/\av PP true (resume (VH W fr cs y) (.bool false)) (sH W tm fr cs):=⟨match(OT (resume (VH W fr cs y) (.bool false))).callers with|f::_=>f.tmps|[]=>#[],⟨by kernel_rfl,by kernel_rfl⟩,bD 200 (bJ PP true 200 (resume (VH W fr cs y) (.bool false))) λws=>by kernel_rfl⟩
def ON:Goroutine:=OT (resume (VH W fr cs y) (.bool true))
theorem VC:av PP true (resume (VH W fr cs y) (.bool true)) (ON W fr cs y):=bm λws=>by kernel_rfl
theorem VB:aS (ON W fr cs y)=some (.conv (zc (ON 0 default [] λ_=>undef)) (z8 (ON 0 default [] λ_=>undef)) (p8 W)):=by kernel_rfl
theorem aaR:PP.underlying (zc (ON 0 default [] λ_=>undef))=some (.pointer (z7 (ON 0 default [] λ_=>undef))):=by kernel_rfl
theorem aaS:PP.underlying (z8 (ON 0 default [] λ_=>undef))=some .unsafePointer:=by kernel_rfl
theorem aaQ:(PP.info? (z7 (ON 0 default [] λ_=>undef))).map (λi=>decide (i.size=0))=some false:=by kernel_rfl
def sFl:Goroutine:=OT (resume (ON W fr cs y) (p8 W))
theorem Vs:av PP true (resume (ON W fr cs y) (p8 W)) (sFl W fr cs y):=bm λws=>by kernel_rfl
theorem Vr:aG (sFl W fr cs y)=some (175,#[p8 W]):=by kernel_rfl
def sIl:Goroutine:=OT (resume (sFl W fr cs y) U)
theorem Vf:av PP true (resume (sFl W fr cs y) U) (sIl W fr cs y):=bm λws=>by kernel_rfl
theorem PO:aG (sIl W fr cs y)=some (177,#[p8 W,.bool false]):=by kernel_rfl
def sJl:Goroutine:=OT (resume (sIl W fr cs y) U)
theorem Vc:av PP true (resume (sIl W fr cs y) U) (sJl W fr cs y):=bm λws=>by kernel_rfl
theorem Vb:aG (sJl W fr cs y)=some (203,#[pb W]):=by kernel_rfl
def sKl:Goroutine:=OT (resume (sJl W fr cs y) (.int .u64 0))
theorem UY:av PP true (resume (sJl W fr cs y) (.int .u64 0)) (sKl W fr cs y):=bm λws=>by kernel_rfl
theorem UX:aG (sKl W fr cs y)=some (170,#[]):=by kernel_rfl
def yN:Goroutine:=OT (resume (sKl W fr cs y) U)
theorem PI:av PP true (resume (sKl W fr cs y) U) (yN W fr cs y):=bm λws=>by kernel_rfl
theorem PH:aS (yN W fr cs y)=some (.conv (zc (yN 0 default [] λ_=>undef)) (z8 (yN 0 default [] λ_=>undef)) (pb W)):=by kernel_rfl
theorem U0:PP.underlying (zc (yN 0 default [] λ_=>undef))=some (.pointer (z7 (yN 0 default [] λ_=>undef))):=by kernel_rfl
theorem U1:PP.underlying (z8 (yN 0 default [] λ_=>undef))=some .unsafePointer:=by kernel_rfl
theorem UZ:(PP.info? (z7 (yN 0 default [] λ_=>undef))).map (λi=>decide (i.size=0))=some false:=by kernel_rfl
def PG:Goroutine:=OT (resume (yN W fr cs y) (pb W))
theorem PE:av PP true (resume (yN W fr cs y) (pb W)) (PG W fr cs y):=bm λws=>by kernel_rfl
theorem PF:aG (PG W fr cs y)=some (171,#[pb W]):=by kernel_rfl
theorem Li:av PP true (resume (PG W fr cs y) U) (cA fr cs U):=bD 10 (bJ PP true 10 (resume (PG W fr cs y) U)) λws=>by kernel_rfl
end
theorem xRd:Ext PP 198 Tryz.f198:=⟨Tryz.func198,by kernel_rfl,by kernel_rfl,by kernel_rfl⟩
theorem fRd:Extern.find Tryz.f198=some (Extern.Race.marked .read):=by kernel_rfl
theorem xWr:Ext PP 175 Tryz.f175:=⟨Tryz.func175,by kernel_rfl,by kernel_rfl,by kernel_rfl⟩
theorem fWr:Extern.find Tryz.f175=some (Extern.Race.marked .write):=by kernel_rfl
theorem Gg:Ext PP 204 Tryz.f204:=⟨Tryz.func204,by kernel_rfl,by kernel_rfl,by kernel_rfl⟩
theorem Hf:Extern.find Tryz.f204=some (Extern.Atomic.casT (.int .u64)):=by kernel_rfl
theorem SA:Ext PP 177 Tryz.f177:=⟨Tryz.func177,by kernel_rfl,by kernel_rfl,by kernel_rfl⟩
theorem Vh (W bw bf:Nat)(f:Value)(fr:Frame)(cs:List Frame)(w:World):stepG PP true (Vj W bw bf f fr cs) w= .spawn (resume (Vj W bw bf f fr cs) undef) (ZF bw bf) w #[]:=by kernel_rfl
theorem Gv (W bw bf:Nat)(f:Value)(fr:Frame)(cs:List Frame):(Vj W bw bf f fr cs).status= .running/\(Vj W bw bf f fr cs).offers=none:=⟨by kernel_rfl,by kernel_rfl⟩
theorem Tv:Extern.find Tryz.f177=some Extern.Sync.semacquire:=by kernel_rfl
section
variable {P:Program}{main:Bool}{g:Goroutine}{f:FuncId}{fn:Func}{w:World}
theorem Iq (X:Ext P f fn)(he:Extern.find fn=some Extern.Sync.semacquire){ad:Addr}{n:Int}{u:Value}(h:aG g=some (f,#[.pointer (some ad),u]))(hc:w.cell? ad=some (.int .u32 n))(hn:n≠0)(hz:w.frozen? ad=false):
  stepG P main g w= .go (resume g (.tuple #[])) (w.setCell ad (.int .u32 (n-1))) (semEvents ad):=by
 obtain⟨b,a,ops,i,rest,kk,cs,o,xs,ats,rfl,h2,h3,h4,h5,h6,h7⟩:=cR h;rw[h7];exact stepG_semacquire h2 h3 h4 h5 X.at_ X.name X.body X.next he (by rw[h6];rfl) hc hn hz
theorem Ep (X:Ext P f fn)(he:Extern.find fn=some Extern.Sync.semacquire){ad:Addr}{u:Value}(h:aG g=some (f,#[.pointer (some ad),u]))(hc:w.cell? ad=some (.int .u32 0)):
  stepG P main g w= .go {g with status:= .blocked} w #[]:=by
 obtain⟨b,a,ops,i,rest,kk,cs,o,xs,ats,rfl,h2,h3,h4,h5,h6,h7⟩:=cR h;exact stepG_semacquire_wait h2 h3 h5 X.at_ X.name X.body X.next he (by rw[h6];rfl) hc
end
section
variable {Δ:Type}{X:Cx Δ}{ro own:Nat->Prop}{Stop:(Nat->Prop)->Goroutine->World->Prop}{g:Goroutine}{w:World}{deaf:Bool}
theorem lD {s d t:TypeId}{a:Addr}(h:aS g=some (.conv s d (.pointer (some a))))(h1:PP.underlying s=some (.pointer t))(h2:PP.underlying d=some .unsafePointer)
  (h3:(PP.info? t).map (λi=>decide (i.size=0))=some false) (hc:∀w₁,RX X ro own w w₁->∃v,w₁.cell? a=some v) (k:aD PP true (eY X deaf ro) Stop own (resume g (.pointer (some a))) w):aD PP true (eY X deaf ro) Stop own g w:=by
 refine aD.step (cT h).1 λw₁ hr=>?_
 obtain⟨v,hv⟩:=hc w₁ hr;obtain⟨es,e1,e2⟩:=mQ (P:=PP) (main:=true) (w:=w₁) (w':=w₁) (x:= .pointer (some a)) h (by simp only[kd.sem,Sem.run_bind,run_convert_to_unsafe h1 h2 h3 hv];rfl);have e3:es=#[]:=Array.eq_empty_iff_forall_not_mem.2 λe he=>by
  have:=e2 e he;simp only[kd.sem,Sem.events_bind,run_convert_to_unsafe h1 h2 h3 hv,events_convert_to_unsafe h1 h2 h3 hv] at this;simp at this
 subst e3;refine⟨_,w₁,#[],e1,(jO deaf ro own w₁).1,?_⟩;have:=(jO (X:=X) deaf ro own w₁).2;rw[this];exact k.rely hr
theorem uB {f:FuncId}{fn:Func}(hX:Ext PP f fn){v:Value}(he:Extern.find fn=some (λ_=>pure v)){args:Array Value}(hc:aG g=some (f,args))(go:aD PP true (eY X deaf ro) Stop own (resume g v) w):aD PP true (eY X deaf ro) Stop own g w:=by
 refine aD.step (aV hc).1 λw₁ hr=>⟨_,w₁,#[],zy hX v he hc,(jO _ _ own w₁).1,?_⟩
 have:=(jO (X:=X) deaf ro own w₁).2;rw[this];exact go.rely hr
theorem Db {t:TypeId}{a:Addr}{v:Value}(h:aS g=some (.load t (.pointer (some a))))(ha:(PP.underlying t).map (λd=>match d with|.struct _|.array _ _=>true|_=>false)=some false)(hb:own a.block\/ro a.block)(hc:w.cell? a=some v)
  (k:∀w',RX X ro own w w'->aD PP true (eY X false ro) Stop own (resume g v) w'):aD PP true (eY X false ro) Stop own g w:=by
 refine cZ h (x:=v) (λw₁ hr=>?_) k;have hlt:a.block<w.heap.size:=by
  unfold World.cell? at hc;cases hh:w.heap[a.block]? with
  |none=>rw[hh] at hc;simp at hc
  |some o=>exact lt_of_some hh
 have hc1:w₁.cell? a=some v:=by
  unfold World.cell? at hc⊢;rw[hr.keep a.block hlt hb];exact hc
 refine⟨w₁,#[⟨.cell a,false,false⟩],RT.eD (x:=v) ?_ (.pure _),rfl,rfl,rfl,rfl,λe he=>⟨a.block,by simp at he;subst he;exact i6 rfl,hb.imp id λh=>⟨h,by simp at he;subst he;rfl⟩⟩⟩;show RT (do if<-isAgg t then Pure.pure (.agg (<-loadCells a (<-Go.sizeOf t))) else load a) _ _ _ _;refine(fM (h:=ha)).aN ?_;simp only[Bool.false_eq_true,if_false];exact jD hc1
end
section
variable {Δ:Type}{X:Cx Δ}{Post:Gh Δ->Goroutine->World->Prop}{γ:Gh Δ}{k:Nat}{T T':Lo}{g:Goroutine}{w:World}
abbrev LS (X:Cx Δ)(Post:Gh Δ->Goroutine->World->Prop)(γ:Gh Δ)(k:Nat)(T:Lo)(g:Goroutine)(w:World):Prop:=aD PP true (eY X (eI T.pc) γ.ro) (dM (zo X PP Post k) T γ) γ.own g w
theorem lO (h:∀k' w₁,k'<k->RR X γ w w₁->Zd X PP (zo X PP Post k') .m T γ g w₁)(hg:¬(T.pc= .g1\/T.pc= .g2):=by simp)(ha:T.pc≠.aq:=by simp):LS X Post γ k T g w:=by
 cases k with
 |zero=>exact aD.stop λw₁ hr=>⟨γ.mine,λ_=>rfl,trivial⟩
 |succ k=>
  refine aD.stop λw₁ hr=>⟨γ.mine,λ_=>rfl,?_⟩
  unfold zo;rw[if_neg hg,if_neg ha];exact h k w₁ (by omega) hr
variable (R:Room X γ)
include R
theorem ku (hg:¬(T.pc= .g1\/T.pc= .g2))(ha:T.pc≠.aq){g':Goroutine}{es:Array Event}(hrun:g.status= .running/\g.offers=none)(hst:∀w,stepG PP true g w= .go g' w es)
  (hmv:∀s,mv T s=[(T',s)]) (hev:EvStop X T T' es) (h1:T.pc≠.la) (h2:T.pc≠.ur) (h3:T'.pc≠.wk) (h4:T'.pc≠.quit) (h5:T.pc≠.us) (h6:T.pc≠.d4)
  (go:∀k' w',k'<k->RR X γ w w'->LS X Post γ k' T' g' w'):LS X Post γ k T g w:=by
 refine lO (hg:=hg) (ha:=ha) λk' w₁ hk hr=>GS (g':=g') hrun hmv h1 h2 h3 h4 h5 h6 λs hsh=>?_
 exact⟨_,_,hst w₁,hsh,.refl _,hev,go k' _ hk hr⟩
theorem aeb (hc:aG g=some (171,#[pb X.Wg]))(hP:∀w' o,RR X γ w w'->w'.heap[X.M]? =some o->X.Dat (X.fin .a) (X.fin .b) o->Post γ (resume g U) w'):LS X Post γ k (at_ .aq 0) g w:=by
 cases k with
 |zero=>exact aD.stop λw₁ hr=>⟨γ.mine,λ_=>rfl,trivial⟩
 |succ k=>
  refine aD.stop λw₁ hr=>⟨γ.mine,λ_=>rfl,?_⟩
  unfold zo;rw[if_neg (by simp),if_pos rfl];exact⟨(aV hc).1,(aV hc).2,λo ho hD=>⟨_,fE ZX .acquire adI hc,hP w₁ o hr ho hD⟩⟩
theorem A1 {gE gL gM:Goroutine}(live:∃s,ShAt X w s)(hen:aG gE=some (170,#[]))(g1:av PP true (resume gE U) gL){s d t:TypeId}(hv:aS gL=some (.conv s d (pb X.Wg)))(h1:PP.underlying s=some (.pointer t))
  (h2:PP.underlying d=some .unsafePointer) (h3:(PP.info? t).map (λi=>decide (i.size=0))=some false) (g2:av PP true (resume gL (pb X.Wg)) gM) (haq:aG gM=some (171,#[pb X.Wg]))
  (hP:∀w' o,RR X γ w w'->w'.heap[X.M]? =some o->X.Dat (X.fin .a) (X.fin .b) o->Post γ (resume gM U) w'):LS X Post γ k (at_ .ke 0) gE w:=by
 refine ku R (T':=at_ .aq 0) (g':=resume gE U) (by simp) (by simp) (aV hen) (λw=>jl Zj .enable ZM hen) (by simp[mv]) (by simp[EvStop,jf,qg]) (by simp) (by simp) (by simp) (by simp) (by simp) (by simp) λk' w' hk hr=>?_
 refine aC g1 (lD hv h1 h2 h3 (λw₁ hr'=>?_) (aC g2 (aeb R haq λw'' o h=>hP w'' o (hr.trans X h))));obtain⟨s,hs⟩:=(hr.trans X hr').live live;exact⟨_,hs.Ke⟩
theorem BG {x:Int}{gD gF gI gJ gK gL gM:Goroutine}(live:∃s,ShAt X w s){s d t:TypeId}(hv:aS gD=some (.conv s d (p8 X.Wg)))(h1:PP.underlying s=some (.pointer t))(h2:PP.underlying d=some .unsafePointer)(h3:(PP.info? t).map (λi=>decide (i.size=0))=some false)
  (g1:av PP true (resume gD (p8 X.Wg)) gF) (hwr:aG gF=some (175,#[p8 X.Wg])) (g2:av PP true (resume gF U) gI) (Xq:aG gI=some (177,#[p8 X.Wg,.bool false]))
  (g3:av PP true (resume gI U) gJ) (hld:aG gJ=some (203,#[pb X.Wg])) (g4:av PP true (resume gJ (.int .u64 0)) gK)
  (hK:∀k' w',RR X γ w w'->LS X Post γ k' (at_ .ke 0) gK w'):LS X Post γ k (at_ .pw 0) gD w:=by
 refine lD hv h1 h2 h3 (λw₁ hr'=>?_) (aC g1 ?_)
 .obtain⟨s,hs⟩:=hr'.live live
  exact⟨_,hs.ZQ⟩
 refine ku R (T':=at_ .w3 0) (g':=resume gF U) (by simp) (by simp) (aV hwr) (λw=>fE xWr .write fWr hwr) (by simp[mv]) (by simp[EvStop,jf];rfl) (by simp) (by simp) (by simp) (by simp) (by simp) (by simp) λk1 w1 hk1 hr1=>?_
 refine aC g2 (lO λk2 w2 hk2 hr2=>da (aV Xq) (by simp) (by simp) (by simp) (by simp) (λs hsh hf hn=>?_) (λs hsh hf hne=>?_))
 .have h0:s.ws=0:=by
   by_cases h:s.ws=0
   .exact h
   .simp[mv,h] at hn
  exact Ep SA Tv Xq (by rw[<-h0];exact hsh.ZQ)
 have h0:s.ws≠0:=λh=>hne (by simp[mv,h])
 have hsh':=hsh.setWs R.ne (s.ws-1);have ef:=ConcM.Eff.set (w:=w2) (Mu:=X.Fd) (Wg:=X.Wg) (Kw X) (.int .u32 (s.ws-1)) (.inr rfl);refine⟨(at_ .w4 0,{s with ws:=s.ws-1}),by simp[mv,h0],λ_=>⟨_,_,_,Iq (P:=PP) (main:=true) SA Tv Xq hsh.ZQ h0 (hsh.OL 1),hsh',ef,Be (abG R.ne) rfl,?_⟩⟩;rw[if_neg (by simp)]
 refine aC g3 (lO (T:=at_ .w4 0) λk3 w3 hk3 hr3=>da (aV hld) (by simp) (by simp) (by simp) (by simp) (λs _ hf hn=>?_) (λs hsh hf _=>?_))
 .exfalso
  by_cases h:s.wg=0<;>simp[mv,h] at hn
 by_cases h:¬s.wg=0
 .exact⟨(at_ .bad 0,s),by simp[mv,h],λq=>absurd rfl q⟩
 have h:s.wg=0:=Decidable.not_not.1 h;have st:=qv (P:=PP) (main:=true) (w:=w3) (ad:=wA X) TW .u64 YD hld hsh.Ke;rw[h] at st;refine⟨(at_ .ke 0,s),by simp[mv,h],λ_=>⟨_,_,_,st,hsh,.refl _,Dx (okW R.ne) rfl,?_⟩⟩;rw[if_neg (by simp)];exact aC g4 (hK k3 w3 (((hr1.trans X hr2).trans X (R.rx ef hsh')).trans X hr3))
end
section
variable {Δ:Type}{X:Cx Δ}{Post:Gh Δ->Goroutine->World->Prop}{γ:Gh Δ}{w:World}{fr:Frame}{cs:List Frame}
theorem Ii (R:Room X γ)(live:∃s,ShAt X w s)(hP:∀w' o g,RR X γ w w'->w'.heap[X.M]? =some o->X.Dat (X.fin .a) (X.fin .b) o->av PP true g (cA fr cs U)->Post γ g w'):
  ∀(k:Nat) (tm:Array Value) (w1:World),RR X γ w w1->HW X.Wg tm->LS X Post γ k (at_ .w1 0) (sH X.Wg tm fr cs) w1:=by
 intro k
 induction k using Nat.strongRecOn with
 |_ k ih=>
 intro tm w1 hr1 hH;rw[hH.eq];generalize hy:(λi=>tm.getD i undef)=y;refine lO λk2 w2 hk2 hr2=>da (aV (SN _ _ _ _)) (by simp) (by simp) (by simp) (by simp) (λs _ hf hn=>?_) (λs hsh hf _=>?_)
 .exfalso
  rcases hf.2.2.1 with h|h|h|h|h|h<;>simp[mv,h,KKi] at hn
 have st:=qv (P:=PP) (main:=true) (w:=w2) (ad:=wA X) TW .u64 YD (SN X.Wg fr cs y) hsh.Ke;have H2:=hr1.trans X hr2;have ab8:=H2.live live;have miss:∀{k3:Nat} {w3:World} {g:Goroutine},k3<k->RR X γ w w3->(∃tm,HW X.Wg tm/\av PP true g (sH X.Wg tm fr cs))->LS X Post γ k3 (at_ .w1 0) g w3:=λhk hr ⟨tm,hH,hg⟩=>aC hg (ih _ hk tm _ hr hH)
 rcases hf.2.2.1 with h|h|h|h|h|h
 .rw[h] at st
  refine⟨(at_ .ke 0,s),by simp[mv,h],λ_=>⟨_,_,_,st,hsh,.refl _,Dx (okW R.ne) rfl,?_⟩⟩;rw[if_neg (by simp)];exact aC (aaM _ _ _ _) (A1 R ab8 (aaL _ _ _ _) (Vy _ _ _ _) (Vx _ _ _ _) aaO aaP aaN (Vv _ _ _ _) (Vw _ _ _ _) λw' o hr ho hD=>hP w' o _ (H2.trans X hr) ho hD (PT _ _ _ _))
 .exact⟨(at_ .bad 0,s),by simp[mv,h,KKi],λq=>absurd rfl q⟩
 .rw[h] at st
  refine⟨({pc:= .w2,old:=s.wg},s),by simp[mv,h,KKi],λ_=>⟨_,_,_,st,hsh,.refl _,Dx (okW R.ne) rfl,?_⟩⟩;rw[if_neg (by simp)];refine aC (VJ _ _ _ _) (lO (T:={pc:= .w2,old:=s.wg}) λk3 w3 hk3 hr3=>da (aV (AD _ _ _ _)) (by simp) (by simp) (by simp) (by simp) (λs' _ hf hn=>?_) (λs' hsh' hf' _=>?_))
  .exfalso
   by_cases q:s'.wg=s.wg<;>simp[mv,q] at hn
  by_cases q:s'.wg=s.wg
  .have hs2:=hsh'.setWg R.ne 4294967297
   have ef:=ConcM.Eff.set (w:=w3) (Mu:=X.Fd) (Wg:=X.Wg) (wA X) (.int .u64 4294967297) (.inr rfl);refine⟨(at_ .pw 0,{s' with wg:=s'.wg+1}),by simp[mv,q],λ_=>⟨_,_,_,mR (P:=PP) (main:=true) Gg .u64 Hf (AD _ _ _ _) (by
    have:=hsh'.Ke;rw[q,h] at this;exact this) (hsh'.OL 0),?_,ef,oT (okW R.ne) rfl,?_⟩⟩
   .rw[q,h];exact hs2
   rw[if_neg (by simp)];have H3:=(H2.trans X hr3).trans X (R.rx ef hs2);refine aC (VE _ _ _ _) (BG (x:=0) R (H3.live live) (VD _ _ _ _) aaU aaV aaT (Vu _ _ _ _) (Vt _ _ _ _) (Vg _ _ _ _) (PR _ _ _ _) (Ve _ _ _ _) (Vd _ _ _ _) (U3 _ _ _ _) (gL:=default) (gM:=default) λk' w' hr=>?_)
   exact A1 R ((H3.trans X hr).live live) (U2 _ _ _ _) (PN _ _ _ _) (PM _ _ _ _) U5 U6 U4 (PJ _ _ _ _) (PK _ _ _ _) λw'' o hr' ho hD=>hP w'' o _ ((H3.trans X hr).trans X hr') ho hD (Lj _ _ _ _)
  .refine⟨(at_ .w1 0,s'),by simp[mv,q],λ_=>⟨_,_,_,lS (P:=PP) (main:=true) Gg .u64 Hf (AD _ _ _ _) hsh'.Ke (hsh'.OL 0) (by rw[h] at q;exact q),hsh',.refl _,Dx (okW R.ne) rfl,?_⟩⟩
   rw[if_neg (by simp)];exact miss (by omega) (H2.trans X hr3) (VI _ _ _ _)
 .exact⟨(at_ .bad 0,s),by simp[mv,h,KKi],λq=>absurd rfl q⟩
 .rw[h] at st
  refine⟨({pc:= .w2,old:=s.wg},s),by simp[mv,h,KKi],λ_=>⟨_,_,_,st,hsh,.refl _,Dx (okW R.ne) rfl,?_⟩⟩;rw[if_neg (by simp)];refine aC (VG _ _ _ _) (lO (T:={pc:= .w2,old:=s.wg}) λk3 w3 hk3 hr3=>da (aV (AC _ _ _ _)) (by simp) (by simp) (by simp) (by simp) (λs' _ hf hn=>?_) (λs' hsh' hf' _=>?_))
  .exfalso
   by_cases q:s'.wg=s.wg<;>simp[mv,q] at hn
  by_cases q:s'.wg=s.wg
  .have hs2:=hsh'.setWg R.ne 8589934593
   have ef:=ConcM.Eff.set (w:=w3) (Mu:=X.Fd) (Wg:=X.Wg) (wA X) (.int .u64 8589934593) (.inr rfl);refine⟨(at_ .pw 0,{s' with wg:=s'.wg+1}),by simp[mv,q],λ_=>⟨_,_,_,mR (P:=PP) (main:=true) Gg .u64 Hf (AC _ _ _ _) (by
    have:=hsh'.Ke;rw[q,h] at this;exact this) (hsh'.OL 0),?_,ef,oT (okW R.ne) rfl,?_⟩⟩
   .rw[q,h];exact hs2
   rw[if_neg (by simp)];have H3:=(H2.trans X hr3).trans X (R.rx ef hs2);refine aC (VC _ _ _ _) (BG (x:=0) R (H3.live live) (VB _ _ _ _) aaR aaS aaQ (Vs _ _ _ _) (Vr _ _ _ _) (Vf _ _ _ _) (PO _ _ _ _) (Vc _ _ _ _) (Vb _ _ _ _) (UY _ _ _ _) (gL:=default) (gM:=default) λk' w' hr=>?_)
   exact A1 R ((H3.trans X hr).live live) (UX _ _ _ _) (PI _ _ _ _) (PH _ _ _ _) U0 U1 UZ (PE _ _ _ _) (PF _ _ _ _) λw'' o hr' ho hD=>hP w'' o _ ((H3.trans X hr).trans X hr') ho hD (Li _ _ _ _)
  .refine⟨(at_ .w1 0,s'),by simp[mv,q],λ_=>⟨_,_,_,lS (P:=PP) (main:=true) Gg .u64 Hf (AC _ _ _ _) hsh'.Ke (hsh'.OL 0) (by rw[h] at q;exact q),hsh',.refl _,Dx (okW R.ne) rfl,?_⟩⟩
   rw[if_neg (by simp)];exact miss (by omega) (H2.trans X hr3) (VF _ _ _ _)
 .exact⟨(at_ .bad 0,s),by simp[mv,h,KKi],λq=>absurd rfl q⟩
theorem Ij (R:Room X γ)(live:∃s,ShAt X w s)(hP:∀w' o g,RR X γ w w'->w'.heap[X.M]? =some o->X.Dat (X.fin .a) (X.fin .b) o->av PP true g (cA fr cs U)->Post γ g w'){k:Nat}:LS X Post γ k (at_ .kw 0) (sW0 X.Wg fr cs) w:=by
 refine aC (EG _ _ _) (ku R (T':=at_ .w1 0) (g':=resume (Iq9 X.Wg fr cs) U) (by simp) (by simp) (aV (Gu _ _ _)) (λw=>jl HV .disable JM (Gu _ _ _)) (by simp[mv]) (by simp[EvStop,jf,qg]) (by simp) (by simp) (by simp) (by simp) (by simp) (by simp) λk' w' hk hr=>?_);obtain⟨tm,hH,hg⟩:=UW X.Wg fr cs
 exact aC hg (Ii R live hP k' tm w' hr hH)
end
end aF
end
end
end Go.Proofs.YtchcmhodnkgojaaGreat
