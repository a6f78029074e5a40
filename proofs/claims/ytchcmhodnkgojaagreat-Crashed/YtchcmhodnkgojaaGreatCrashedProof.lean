/- Crashed is true at every input: a disk that fails in a Sync and again in each Recover, whatever it keeps: every file is whole at all times, and in the end all is done or nothing: the given statement Rows.CrashedSaid, with no condition beside the row's own. -/
import Derived.Test.YtchcmhodnkgojaaGreatPart13
set_option linter.all false
set_option maxRecDepth 100000
set_option maxHeartbeats 8000000
open Go.Proofs.Tryz
namespace Go.Proofs.YtchcmhodnkgojaaGreat
open Value (ren)
noncomputable section
section
open Go.ChangeShapes Go.WideShapes Go.ChangeAt Go.RowKit Go.Deep Go.Joins Go.Lib Go.Conc Go.ConcM
def KW (w:Ω)(ad:Ϡ)(l:List (Int×Int)):Prop:=∀j,(a:j<l.length)->pr (l[j]).1/\∃b off,ad=some ⟨b,off,none⟩/\w.rangeAt b (off+j*2) [.int .i64 (l[j]).1,.int .i64 (l[j]).2]
def U2 {W:Ω}{ad:Ϡ}{l:List (Int×Int)}(m:AI W)(h:KW W ad l):AJ (K0 W) ad l:=λj i=>by
 obtain⟨h1,b,off,rfl,h2⟩:=h j i;have a:W.cell? ⟨b,off+j*2+0,none⟩=some (.int .i64 l[j].1):=h2 0 _ rfl;have d:W.cell? ⟨b,off+j*2+1,none⟩=some (.int .i64 l[j].2):=h2 1 _ rfl;obtain⟨ob,g⟩:∃ob,W.heap[b]? =some ob:=by
  unfold World.cell? at a;cases k:W.heap[b]? with
  |none=>rw[k] at a;cases a
  |some ob=>exact⟨ob,rfl⟩
 have e:b≠0:=by
  rintro rfl;have⟨c,t,f,n,p⟩:=m;unfold World.cell? at a d;rw[n] at a d;simp only[Ϻ,ν,if_false] at a d;have⟨_,_,q⟩:=p _ (ϵ a);have:=(Ψ.1 d).1;omega
 exact⟨h1,b,off,rfl,ob,by unfold K0;rw[ζ e];exact g,λw o=>xj h2 g o⟩
def Bl {H:Type}{enc:η×Φ->H}{d:Nat->Bool}{g:Bool}{W:Ω}{a:Ϡ}{len cap o:Nat}{x:DataW H×List MemPlace}(h:DataW.trod enc prog W 0 d g o 80 [.slice a len cap]=some x):∃l:List (Int×Int),l.length=len/\KW W a l/\len<=cap/\cap<=maxLen:=by
 rcases open_slice underlying80 h with⟨hcs,_⟩|⟨ad,len',cap',m,n,D,Pl,hcs,_,hl,hm,hmm,_,hcell⟩
 .simp at hcs
  obtain⟨rfl,rfl,rfl⟩:=hcs;exact⟨[],rfl,λj f=>by simp at f,ϖ,ϖ⟩
 .simp at hcs
  obtain⟨rfl,rfl,rfl⟩:=hcs;have A:len<=m:=by rw[hmm];split<;>omega
  have r:∀i,i<len->∃y:Int×Int,pr y.1/\∃b off,some ad=some (⟨b,off,none⟩:Addr)/\W.rangeAt b (off+i*2) [.int .i64 y.1,.int .i64 y.2]:=by
   intro i J;have⟨B,h1,h2⟩:=hcell i ϖ;obtain⟨G,z,C,rfl⟩:=lu h2;refine⟨(G,z),C,?_⟩;have⟨_,c,w⟩:=World.cells?_some h1;rw[nP] at h1 c w;have⟨b,off,p⟩:=ad;have e:p=none:=by
    have⟨F,E,k2⟩:=hcell 0 ϖ;obtain⟨k,q,_,rfl⟩:=lu k2;have⟨_,_,k3⟩:=World.cells?_some E;rw[nP] at k3;have:=World.cell?_spot ((k3 0 ϖ).trans (show [Value.int .i64 k,.int .i64 q][0]? =some (.int .i64 k) from rfl));simpa [Addr.add] using this
   subst e;refine⟨b,off,rfl,λj v f=>?_⟩;have t:j<2:=by
    have:=(List.getElem?_eq_some_iff.1 f).1;rw[c] at this;exact this
   have u:=w j t;rw[Addr.add_mid,Addr.add_mid,f] at u;exact u
  have⟨l,s,I⟩:=DF len r;exact⟨l,s,λj f=>I j f,hl,hm⟩
def Je {e c:Int}{H:ϒ}{wL:Ω}:af.VA H wL (pA e c).tmps:=λv hv=>by
 unfold pA at hv;simp only[rn,ϐ4,ac1,al7,or_false,or_self] at hv;rcases hv with rfl|rfl|rfl
 .exact ik
 .intro b d
  cases d with
  |agg a h=>
   simp at a;rcases a with rfl|rfl<;>cases h
 .exact ik
def GJ (c d:Φ)(b a:Int):ba id (pA b a) (xo c d λ_=>ϗ)={tmps:=#[c,.agg #[.int .i64 b,.int .i64 a],d]++Array.replicate (Tryz.f11.ntmps-3) ϗ,defers:=[]}:=by
 rw[show(Value.agg #[.int .i64 b,.int .i64 a])=ren id (.agg #[.int .i64 b,.int .i64 a]) by simp]
 kernel_rfl
theorem Ai (os:Os)(c:os.Started)(H:Type)(enc:η×Φ->H)(F:Stop.Interp):
  ReturnsInLeavingWide Rows.crashedRow.assume Tryz.checked os 11 .any (Rows.crashedRow.pre enc prog Tryz.f11 (OpenSpec.ofChange Rows.crashedSpec))
   ((OpenSpec.ofChange Rows.crashedSpec).postWith enc prog Tryz.f11 F (outsideKept [.timePasses]) Rows.crashedRow.apart Rows.crashedRow.fresh Rows.crashedRow.handsOn):=by
 refine oV (s:=Rows.crashedSpec) (conds:=[]) PV c func11
  (ChangeSpec.witness6c (enc:=enc) (C:=Tryz.checked) ⟨#[],#[.slice none 0 0,.agg #[.int .i64 0,.int .i64 0],.slice none 0 0],[]⟩ 8 ϰ ϰ ϰ ϰ) ?_
 intro W base args ds gs u o b Q P _;have a:∀(j:Nat) t v,Tryz.f11.params[j]? =some t->args[j]? =some v->Value.okWide prog W .any base t v:=b;have J:=Q;obtain⟨p,q,n,hV,rfl,ae,ab⟩:=Q;have S:DataW.TrodAll enc prog W 0 (λ_=>true) true Tryz.f11.params.toList args.toList ds p:=n;rw[Tryz.params11] at S a
 obtain⟨v0,v1,v2,d0,d1,d2,p0,p1,X,rfl,rfl,rfl,h0,h1,h2⟩:=trodAll_three S;have G:∀x∈p0,x.block<W.heap.size:=by obtain⟨m,hm⟩:=h0;exact DataW.trod_lt m _ _ _ hm
 have B:∀x∈p1,x.block<W.heap.size:=by obtain⟨m,hm⟩:=h1;exact DataW.trod_lt m _ _ _ hm
 have w:∀x∈X,x.block<W.heap.size:=by obtain⟨m,hm⟩:=h2;exact DataW.trod_lt m _ _ _ hm
 obtain⟨rfl,rfl⟩:=trodVars_none hV;have k0:=h0;obtain⟨ak,g0⟩:=h0;obtain⟨T,ac,f,rfl⟩:=okWide_slice underlying22 (a 0 22 v0 rfl rfl);obtain⟨l0,rfl,N,ag,z⟩:=Ec (by simpa [Value.cells] using g0);have k1:=h1;obtain⟨c1,rfl,y⟩:=okWide_struct underlying26 (a 1 26 v1 rfl rfl);obtain⟨i,k,A,rfl⟩:∃i k,pr i/\c1=#[.int .i64 i,.int .i64 k]:=by
  obtain⟨D,Z⟩:=h1;obtain⟨i,k,hf,V⟩:=lu (by simpa [Value.cells] using Z);exact⟨i,k,hf,Array.toList_inj.1 V⟩
 have k2:=h2;obtain⟨E,g2⟩:=h2;obtain⟨R,ad,e,rfl⟩:=okWide_slice underlying80 (a 2 80 v2 rfl rfl);obtain⟨l2,rfl,M,L,g⟩:=Bl (by simpa [Value.cells] using g2);have I:l2.length<=9223372036854775807:=ac7 L (ac7 g (by decide));clear n b
 refine af.FK (W:=W) (H:=hidden W) (K:=K0 W) (wL:=hide W) (R2:=WW (hide W)) func11 rfl ϰ rfl (IF o.Bg (K0 W) rfl) af3 (pA i k) (xo (.slice T l0.length f) (.slice R l2.length e) λ_=>undef) Je rfl (GJ _ _ _ _) (jg W) (GV T f l0 (acv o N) i k A R e l2 (U2 o M) I (MI o.Bg) rfl) ?_
 intro v bO π own w' ⟨t,d,hv,hB⟩ Y am aa y U O l hK;subst hv;have r:=FS o hB Y hK;rw[show Value.ren π (.bool true)= .bool true by simp]
 exact⟨⟨_,_,_,[],_,[],J,trodAll_mk1 (shut_bool underlying4 _),(trodAll_cons_mk (tu wh ϰ (of_decide_eq_true ϰ) k0 r G) (trodAll_cons_mk (tu wh ϰ (of_decide_eq_true ϰ) k1 r B) (trodAll_cons_mk (tu wh ϰ (of_decide_eq_true ϰ) k2 r w) trodAll_mk0))),rfl,FT (W:=W) (w':={w' with os:=W.os}) rfl l r _,λh=>by cases h⟩,O⟩
theorem crashed_said:Rows.CrashedSaid:=
 OpenClaim.holds_of_wide_leaving_time 11 Tryz.f11 rfl rfl rfl rfl rfl rfl rfl ⟨rfl,rfl,rfl,rfl,rfl⟩ rfl rfl rfl rfl rfl ϰ func11 ϰ
  (of_decide_eq_true ϰ) (by unfold Func.isWrapper;first|(rw[φ (by decide+kernel)];kernel_rfl)|(rw[ζ (by decide+kernel)];exact⟨rfl,rfl⟩))
  (λos a H enc _ F=>Ai os a H enc F)
end
end
end Go.Proofs.YtchcmhodnkgojaaGreat
