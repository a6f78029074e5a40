/- A part. -/
import Derived.Test.YtchcmhodnkgojaaGreatPart8
set_option linter.all false
set_option maxRecDepth 100000
set_option maxHeartbeats 8000000
open Go.Proofs.Tryz
namespace Go.Proofs.YtchcmhodnkgojaaGreat
open Value (ren)
open Region (wanted)
open Region (ready)
open Sem (run_bind)
open List (range)
open List (replicate)
noncomputable section
variable {D b bs d i k m n n0 xb:Nat}{u v x:Θ}{e s t tt ty:θ}{a:Act}{ar args c lb tm:Array Θ}{g' gM:Ω}{g:Ξ->Option Ξ}{H O0 mine own own':Nat->Prop}{w w' w1 wL:Φ}{o:Obj}{F l rest:List Nat}{es:Array ai2}{fr:φ}{cs:List φ}{P:aa1}{gs:Array Ω}{π:Nat->Nat}{ops:Array Oper}{ks:List Ξ}{gx:Θ->Ω}{seen':Array Nat}{Stop:(Nat->Prop)->Ω->Φ->Prop}{ff:Nat×Nat}{f2:ac5}{R2:Θ->Φ->Prop}{oi:Oper}{ρ:ac4->Θ}{Q:Exit->Act->Φ->Prop}{xs:List Θ}
section
open Go.Conc
open Go.ConcM (OsLater)
namespace gz
def xRd:Ext PP 198 Tryz.f198:=⟨func198,ϰ,ϰ,ϰ⟩
def fRd:Extern.find Tryz.f198=some (Extern.Race.marked .read):=ϰ
def xWr:Ext PP 175 Tryz.f175:=⟨func175,ϰ,ϰ,ϰ⟩
def fWr:Extern.find Tryz.f175=some (Extern.Race.marked .write):=ϰ
def Jz:Ext PP 204 Tryz.f204:=⟨func204,ϰ,ϰ,ϰ⟩
def Ku:Extern.find Tryz.f204=some (Extern.Atomic.casT (.int .u64)):=ϰ
def We:Ext PP 177 Tryz.f177:=⟨func177,ϰ,ϰ,ϰ⟩
def YR(W bw bf:Nat)(f:Θ)(fr:φ)(cs:Ϙ)(w:Φ):stepG PP true (YT W bw bf f fr cs) w=.spawn (resume (YT W bw bf f fr cs) ϗ) (gW0 bw bf) w #[]:=ϰ
def JJ(W bw bf:Nat)(f:Θ)(fr:φ)(cs:Ϙ):(YT W bw bf f fr cs).status=.running/\(YT W bw bf f fr cs).offers=none:=⟨ϰ,ϰ⟩
def Xd:Extern.find Tryz.f177=some Extern.Sync.semacquire:=ϰ
section
variable {P:aa1}{main:Bool}{g:Ω}{f:ac5}{fn:Func}{w:Φ}
def K2(X:Ext P f fn)(q:Extern.find fn=some Extern.Sync.semacquire){ad:Addr}{n:Int}(h:aN g=some (f,#[.pointer (some ad),u]))(l:w.cell? ad=some (.int .u32 n))(j:n≠0)(e:w.frozen? ad=false):
  stepG P main g w=.go (resume g (.tuple #[])) (w.setCell ad (.int .u32 (n-1))) (semEvents ad):=by
 obtain⟨b,a,ops,i,rest,s,cs,o,xs,r,rfl,h2,m,d,c,p,k⟩:=dC h;rw[k];exact stepG_semacquire h2 m d c X.at_ X.name X.body X.next q (by rw[p];rfl) l j e
def Hj(X:Ext P f fn)(k:Extern.find fn=some Extern.Sync.semacquire){ad:Addr}(h:aN g=some (f,#[.pointer (some ad),u]))(d:w.cell? ad=some (.int .u32 0)):
  stepG P main g w=.go {g with status:=.blocked} w #[]:=by
 obtain⟨b,a,ops,i,rest,m,cs,o,xs,l,rfl,h2,e,n,c,j,p⟩:=dC h;exact stepG_semacquire_wait h2 e c X.at_ X.name X.body X.next k (by rw[j];rfl) d
end
section
variable {Δ:Type}{X:Cx Δ}{ro own:Nat->Prop}{Stop:(Nat->Prop)->Ω->Φ->Prop}{g:Ω}{w:Φ}{deaf:Bool}
def nF{d:θ}{a:Addr}(h:bm g=some (.conv s d (.pointer (some a))))(h1:PP.underlying s=some (.pointer t))(h2:PP.underlying d=some .unsafePointer)(b:(PP.info? t).map (λi=>decide (i.size=0))=some false)(c:∀w₁,RX X ro own w w₁->∃v,w₁.cell? a=some v)(k:aJ PP true (gG X deaf ro) Stop own (resume g (.pointer (some a))) w):aJ PP true (gG X deaf ro) Stop own g w:=by
 refine aJ.step (dH h).1 λw₁ hr=>?_
 have⟨v,hv⟩:=c w₁ hr;have⟨es,e1,e2⟩:=ph (P:=PP) (main:=true) (w:=w₁) (w':=w₁) (x:=.pointer (some a)) h (by simp only[m6.sem,run_bind,run_convert_to_unsafe h1 h2 b hv];rfl);have j:es=#[]:=Array.eq_empty_iff_forall_not_mem.2 λe f=>by have:=e2 e f;simp only[m6.sem,Sem.events_bind,run_convert_to_unsafe h1 h2 b hv,events_convert_to_unsafe h1 h2 b hv]at this;simp at this
 subst j;refine⟨_,w₁,#[],e1,(kY deaf ro own w₁).1,?_⟩;have:=(kY (X:=X) deaf ro own w₁).2;rw[this];exact k.rely hr
def xm{f:ac5}{fn:Func}(b:Ext PP f fn)(c:Extern.find fn=some λ_=>pure v)(a:aN g=some (f,args))(go:aJ PP true (gG X deaf ro) Stop own (resume g v) w):aJ PP true (gG X deaf ro) Stop own g w:=by
 refine aJ.step (bp a).1 λw₁ hr=>⟨_,w₁,#[],BC b v c a,(kY _ _ own w₁).1,?_⟩
 have:=(kY (X:=X) deaf ro own w₁).2;rw[this];exact go.rely hr
def FT{t:θ}{a:Addr}{v:Θ}(h:bm g=some (.load t (.pointer (some a))))(ha:(PP.underlying t).map (λd=>match d with|.struct _|.array _ _=>true|_=>false)=some false)(j:own a.block\/ro a.block)(b:w.cell? a=some v)(k:∀w',RX X ro own w w'->aJ PP true (gG X false ro) Stop own (resume g v) w'):aJ PP true (gG X false ro) Stop own g w:=by
 refine dL h (x:=v) (λw₁ hr=>?_) k;have f:a.block<w.heap.size:=by
  unfold World.cell? at b;cases l:w.heap[a.block]? with|none=>rw[l]at b;simp at b|some o=>exact lt_of_some l
 have i:w₁.cell? a=some v:=by unfold World.cell? at b⊢;rw[hr.keep a.block f j];exact b
 refine⟨w₁,#[⟨.cell a,false,false⟩],RT.fH (x:=v) ?_ (.pure _),rfl,rfl,rfl,rfl,λe c=>⟨a.block,by simp at c;subst c;exact jW rfl,j.imp id λh=>⟨h,by simp at c;subst c;rfl⟩⟩⟩;show RT (do if<-isAgg t then Pure.pure (.agg (<-loadCells a (<-Go.sizeOf t)))else load a) _ _ _ _;refine(i7 ha).bk ?_;simp only[ab6,if_false];exact lN i
end
section
variable {Δ:Type}{X:Cx Δ}{Post:Gh Δ->Ω->Φ->Prop}{γ:Gh Δ}{k:Nat}{T T':Lo}{g:Ω}{w:Φ}
abbrev LS (X:Cx Δ)(Post:Gh Δ->Ω->Φ->Prop)(γ:Gh Δ)(k:Nat)(T:Lo)(g:Ω)(w:Φ):Prop:=aJ PP true (gG X (fK T.pc) γ.ro) (eG (Bq X PP Post k) T γ) γ.own g w
def nP(h:∀k' w₁,k'<k->RR X γ w w₁->Law X PP (Bq X PP Post k') .m T γ g w₁)(hg:¬(T.pc=.g1\/T.pc=.g2):=by simp)(ha:T.pc≠.aq:=by simp):LS X Post γ k T g w:=by
 cases k with
 |zero=>exact aJ.stop λw₁ hr=>⟨γ.mine,λ_=>rfl,trivial⟩
 |succ k=>
  refine aJ.stop λw₁ hr=>⟨γ.mine,λ_=>rfl,?_⟩
  unfold Bq;rw[Γ hg,Γ ha];exact h k w₁ ϖ hr
variable (R:Room X γ)
include R
theorem lV(hg:¬(T.pc=.g1\/T.pc=.g2))(ha:T.pc≠.aq){es:Ϛ}(a:g.status=.running/\g.offers=none)(b:∀w,stepG PP true g w=.go g' w es)(d:∀s,mv T s=[(T',s)])(c:EvStop X T T' es)(h1:T.pc≠.la)(h2:T.pc≠.ur)(i:T'.pc≠.wk)(h:T'.pc≠.quit)(f:T.pc≠.us)(j:T.pc≠.d4)(go:∀k' w',k'<k->RR X γ w w'->LS X Post γ k' T' g' w'):LS X Post γ k T g w:=by
 refine nP (hg:=hg) (ha:=ha) λk' w₁ hk hr=>Kb (g':=g') a d h1 h2 i h f j λs e=>?_
 exact⟨_,_,b w₁,e,.refl _,c,go k' _ hk hr⟩
theorem aij(a:aN g=some (171,#[pb X.Wg]))(c:∀w' o,RR X γ w w'->w'.heap[X.M]?=some o->X.Dat (X.fin .a) (X.fin .b) o->Post γ (resume g U) w'):LS X Post γ k (at_ .aq 0) g w:=by
 cases k with
 |zero=>exact aJ.stop λw₁ hr=>⟨γ.mine,λ_=>rfl,trivial⟩
 |succ k=>
  refine aJ.stop λw₁ hr=>⟨γ.mine,λ_=>rfl,?_⟩
  unfold Bq;rw[Γ ϛ,κ rfl];exact⟨(bp a).1,(bp a).2,λo d b=>⟨_,ir adH .acquire ahS a,c w₁ o hr d b⟩⟩
theorem DD{b gL:Ω}(live:∃s,ShAt X w s)(a:aN b=some (170,#[]))(m:ay PP true (resume b U) gL){d:θ}(hv:bm gL=some (.conv s d (pb X.Wg)))(h1:PP.underlying s=some (.pointer t))(h2:PP.underlying d=some .unsafePointer)(l:(PP.info? t).map (λi=>decide (i.size=0))=some false)(g:ay PP true (resume gL (pb X.Wg)) gM)(f:aN gM=some (171,#[pb X.Wg]))(j:∀w' o,RR X γ w w'->w'.heap[X.M]?=some o->X.Dat (X.fin .a) (X.fin .b) o->Post γ (resume gM U) w'):LS X Post γ k (at_ .ke 0) b w:=by
 refine lV R (T':=at_ .aq 0) (g':=resume b U) ϛ ϛ (bp a) (λw=>kb xEn .enable fEn a) (by simp[mv]) (by simp[EvStop,j5,sW]) ϛ ϛ ϛ ϛ ϛ ϛ λk' w' hk hr=>?_
 refine aI m (nF hv h1 h2 l (λw₁ e=>?_) (aI g (aij R f λc o h=>j c o (hr.trans X h))));have⟨s,hs⟩:=(hr.trans X e).live live;exact⟨_,hs.Nc⟩
theorem En{x:Int}{m g r p gK:Ω}(live:∃s,ShAt X w s){d:θ}(hv:bm m=some (.conv s d (sQ X.Wg)))(h1:PP.underlying s=some (.pointer t))(h2:PP.underlying d=some .unsafePointer)(F:(PP.info? t).map (λi=>decide (i.size=0))=some false)(H:ay PP true (resume m (sQ X.Wg)) g)(e:aN g=some (175,#[sQ X.Wg]))(A:ay PP true (resume g U) r)(c:aN r=some (177,#[sQ X.Wg,.bool false]))(E:ay PP true (resume r U) p)(f:aN p=some (203,#[pb X.Wg]))(C:ay PP true (resume p (.int .u64 0)) gK)(I:∀k' w',RR X γ w w'->LS X Post γ k' (at_ .ke 0) gK w'):LS X Post γ k (at_ .pw 0) m w:=by
 refine nF hv h1 h2 F (λw₁ u=>?_) (aI H ?_);have⟨s,hs⟩:=u.live live;exact⟨_,hs.cWs⟩;refine lV R (T':=at_ .w3 0) (g':=resume g U) ϛ ϛ (bp e) (λw=>ir xWr .write fWr e) (by simp[mv]) (by simp[EvStop,j5];rfl) ϛ ϛ ϛ ϛ ϛ ϛ λK w1 B j=>?_
 refine aI A (nP λk2 G D v=>dM (bp c) ϛ ϛ ϛ ϛ (λs a hf l=>?_) λs a hf n=>?_);have h0:s.ws=0:=by by_cases h:s.ws=0;exact h;simp[mv,h]at l
 exact Hj We Xd c (by rw[<-h0];exact a.cWs);have h0:s.ws≠0:=λh=>n (by simp[mv,h])
 have b:=a.setWs R.ne (s.ws-1);have y:=ConcM.Eff.set (w:=G) (Mu:=X.Fd) (Wg:=X.Wg) (ND X) (.int .u32 (s.ws-1)) (.inr rfl);refine⟨(at_ .w4 0,{s with ws:=s.ws-1}),by simp[mv,h0],λ_=>⟨_,_,_,K2 (P:=PP) (main:=true) We Xd c a.cWs h0 (a.Sa 1),b,y,DR (afv R.ne) rfl,?_⟩⟩;rw[Γ ϛ];refine aI E (nP (T:=at_ .w4 0) λk3 z J o=>dM (bp f) ϛ ϛ ϛ ϛ (λs _ hf l=>?_) λs a hf _=>?_);exfalso;by_cases h:s.wg=0<;>simp[mv,h]at l
 by_cases h:¬s.wg=0
 .exact⟨(at_ .bad 0,s),by simp[mv,h],λq=>absurd rfl q⟩
 have h:s.wg=0:=ϓ8.1 h;have st:=tu (P:=PP) (main:=true) (w:=z) (ad:=wA X) XE .u64 ack f a.Nc;rw[h]at st;refine⟨(at_ .ke 0,s),by simp[mv,h],λ_=>⟨_,_,_,st,a,.refl _,Gw (okW R.ne) rfl,?_⟩⟩;rw[Γ ϛ];exact aI C (I k3 z (((j.trans X v).trans X (R.rx y b)).trans X o))
end
section
variable {Δ:Type}{X:Cx Δ}{Post:Gh Δ->Ω->Φ->Prop}{γ:Gh Δ}{w:Φ}{fr:φ}{cs:List φ}
def KU(R:Room X γ)(live:∃s,ShAt X w s)(z:∀w' o g,RR X γ w w'->w'.heap[X.M]?=some o->X.Dat (X.fin .a) (X.fin .b) o->ay PP true g (de fr cs U)->Post γ g w'):
  ∀(k:Nat)(tm:ϐ)(w1:Φ),RR X γ w w1->HW X.Wg tm->LS X Post γ k (at_ .w1 0) (sH X.Wg tm fr cs) w1:=by
 intro k;induction k using Nat.strongRecOn with
 |_ k H=>
 intro tm w1 v C;rw[C.eq];generalize I:(λi=>tm.getD i ϗ)=y;refine nP λk2 G F D=>dM (bp (Ws ..)) ϛ ϛ ϛ ϛ (λs _ hf u=>?_) λs d hf _=>?_
 exfalso;obtain h|h|h|h|h|h:=hf.2.2.1<;>simp[mv,h,KKi]at u
 have st:=tu (P:=PP) (main:=true) (w:=G) (ad:=wA X) XE .u64 ack (Ws X.Wg fr cs y) d.Nc;have m:=v.trans X D;have B:=m.live live;have e:∀{k3:Nat}{n:Φ}{g:Ω},k3<k->RR X γ w n->(∃tm,HW X.Wg tm/\ay PP true g (sH X.Wg tm fr cs))->LS X Post γ k3 (at_ .w1 0) g n:=λhk hr ⟨tm,C,hg⟩=>aI hg (H _ hk tm _ hr C)
 obtain h|h|h|h|h|h:=hf.2.2.1
 .rw[h]at st;refine⟨(at_ .ke 0,s),by simp[mv,h],λ_=>⟨_,_,_,st,d,.refl _,Gw (okW R.ne) rfl,?_⟩⟩;rw[Γ ϛ];exact aI (aeC ..) (DD R B (aeB ..) (Y8 ..) (Y7 ..) aeE aeF aeD (Y5 ..) (Y6 ..) λw' o hr t p=>z w' o _ (m.trans X hr) t p (Td ..))
 .exact⟨(at_ .bad 0,s),by simp[mv,h,KKi],λq=>absurd rfl q⟩
 .rw[h]at st;refine⟨({pc:=.w2,old:=s.wg},s),by simp[mv,h,KKi],λ_=>⟨_,_,_,st,d,.refl _,Gw (okW R.ne) rfl,?_⟩⟩;rw[Γ ϛ];refine aI (Zi ..) (nP (T:={pc:=.w2,old:=s.wg}) λk3 n E c=>dM (bp (C4 ..)) ϛ ϛ ϛ ϛ (λs' _ hf u=>?_) λs' a A _=>?_);exfalso;by_cases q:s'.wg=s.wg<;>simp[mv,q]at u
  by_cases q:s'.wg=s.wg
  .have b:=a.setWg R.ne 4294967297;have r:=ConcM.Eff.set (w:=n) (Mu:=X.Fd) (Wg:=X.Wg) (wA X) (.int .u64 4294967297) (.inr rfl);refine⟨(at_ .pw 0,{s' with wg:=s'.wg+1}),by simp[mv,q],λ_=>⟨_,_,_,pi (P:=PP) (main:=true) Jz .u64 Ku (C4 ..) (by
    have:=a.Nc;rw[q,h]at this;exact this) (a.Sa 0),?_,r,qZ (okW R.ne) rfl,?_⟩⟩
   rw[q,h];exact b;rw[Γ ϛ];have j:=(m.trans X c).trans X (R.rx r b);refine aI (Zd ..) (En (x:=0) R (j.live live) (Zc ..) aeK aeL aeJ (Y4 ..) (Y3 ..) (YQ ..) (Tb ..) (YO ..) (YN ..) (YD ..) λk' w' hr=>?_);exact DD R ((j.trans X hr).live live) (YC ..) (S9 ..) (S8 ..) YF YG YE (S5 ..) (S6 ..) λf o l t p=>z f o _ ((j.trans X hr).trans X l) t p (Ow ..)
  .refine⟨(at_ .w1 0,s'),by simp[mv,q],λ_=>⟨_,_,_,nX (P:=PP) (main:=true) Jz .u64 Ku (C4 ..) a.Nc (a.Sa 0) (by rw[h]at q;exact q),a,.refl _,Gw (okW R.ne) rfl,?_⟩⟩;rw[Γ ϛ];exact e ϖ (m.trans X c) (Zh ..)
 .exact⟨(at_ .bad 0,s),by simp[mv,h,KKi],λq=>absurd rfl q⟩
 .rw[h]at st;refine⟨({pc:=.w2,old:=s.wg},s),by simp[mv,h,KKi],λ_=>⟨_,_,_,st,d,.refl _,Gw (okW R.ne) rfl,?_⟩⟩;rw[Γ ϛ];refine aI (Zf ..) (nP (T:={pc:=.w2,old:=s.wg}) λk3 n E c=>dM (bp (C3 ..)) ϛ ϛ ϛ ϛ (λs' _ hf u=>?_) λs' a A _=>?_);exfalso;by_cases q:s'.wg=s.wg<;>simp[mv,q]at u
  by_cases q:s'.wg=s.wg
  .have b:=a.setWg R.ne 8589934593;have r:=ConcM.Eff.set (w:=n) (Mu:=X.Fd) (Wg:=X.Wg) (wA X) (.int .u64 8589934593) (.inr rfl);refine⟨(at_ .pw 0,{s' with wg:=s'.wg+1}),by simp[mv,q],λ_=>⟨_,_,_,pi (P:=PP) (main:=true) Jz .u64 Ku (C3 ..) (by
    have:=a.Nc;rw[q,h]at this;exact this) (a.Sa 0),?_,r,qZ (okW R.ne) rfl,?_⟩⟩
   rw[q,h];exact b;rw[Γ ϛ];have j:=(m.trans X c).trans X (R.rx r b);refine aI (Zb ..) (En (x:=0) R (j.live live) (Za ..) aeH aeI aeG (Y2 ..) (Y1 ..) (YP ..) (Ta ..) (YM ..) (YL ..) (Yy ..) λk' w' hr=>?_);exact DD R ((j.trans X hr).live live) (Yx ..) (S4 ..) (S3 ..) YA YB Yz (SY ..) (SZ ..) λf o l t p=>z f o _ ((j.trans X hr).trans X l) t p (Ov ..)
  .refine⟨(at_ .w1 0,s'),by simp[mv,q],λ_=>⟨_,_,_,nX (P:=PP) (main:=true) Jz .u64 Ku (C3 ..) a.Nc (a.Sa 0) (by rw[h]at q;exact q),a,.refl _,Gw (okW R.ne) rfl,?_⟩⟩;rw[Γ ϛ];exact e ϖ (m.trans X c) (Ze ..)
 .exact⟨(at_ .bad 0,s),by simp[mv,h,KKi],λq=>absurd rfl q⟩
def KV(R:Room X γ)(live:∃s,ShAt X w s)(b:∀w' o g,RR X γ w w'->w'.heap[X.M]?=some o->X.Dat (X.fin .a) (X.fin .b) o->ay PP true g (de fr cs U)->Post γ g w'):LS X Post γ k (at_ .kw 0) (sW0 X.Wg fr cs) w:=by
 refine aI (HV ..) (lV R (T':=at_ .w1 0) (g':=resume (Ls X.Wg fr cs) U) ϛ ϛ (bp (JI ..)) (λw=>kb KM .disable MK (JI ..)) (by simp[mv]) (by simp[EvStop,j5,sW]) ϛ ϛ ϛ ϛ ϛ ϛ λk' w' hk hr=>?_);have⟨tm,a,hg⟩:=Yw X.Wg fr cs;exact aI hg (KU R live b k' tm w' hr a)
end
section
variable {Δ:Type}{X:Cx Δ}{Post:Gh Δ->Ω->Φ->Prop}{γ:Gh Δ}{w:Φ}{fr:φ}{cs:List φ}{k:Nat}
def RI{T T':Lo}{g b:Ω}(R:Room X γ)(c:(T=at_ .e1 0/\T'=at_ .g1 0)\/(T=at_ .e2 0/\T'=at_ .g2 0))(a:jj g=some (170,#[]))(hg:ay PP true (dK g) b)(go:∀k' w',RR X γ w w'->LS X Post γ k' T' b w'):LS X Post γ k T g w:=by
 obtain⟨rfl,rfl⟩|⟨rfl,rfl⟩:=c
 .exact lV R (T':=at_ .g1 0) (g':=dK g) ϛ ϛ (rj a) (λw=>kd xEn .enable ϛ fEn a) (by simp[mv]) (by simp[EvStop,j5,sW]) ϛ ϛ ϛ ϛ ϛ ϛ λk' w' _ hr=>aI hg (go k' w' hr)
 .exact lV R (T':=at_ .g2 0) (g':=dK g) ϛ ϛ (rj a) (λw=>kd xEn .enable ϛ fEn a) (by simp[mv]) (by simp[EvStop,j5,sW]) ϛ ϛ ϛ ϛ ϛ ϛ λk' w' _ hr=>aI hg (go k' w' hr)
def add1(R:Room X γ)(live:∃s,ShAt X w s)(go:∀k' w',RR X γ w w'->LS X Post γ k' (at_ .g1 0) (de fr cs U) w'):LS X Post γ k (at_ .k1 0) (Zm X.Wg fr cs) w:=by
 refine aI (OH ..) (lV R (T':=at_ .x1 0) (g':=resume (sA1 X.Wg fr cs) U) ϛ ϛ (bp (x4 ..)) (λw=>kb KM .disable MK (x4 ..)) (by simp[mv]) (by simp[EvStop,j5,sW]) ϛ ϛ ϛ ϛ ϛ ϛ λx w1 n c=>?_);refine aI (OG ..) (xm XF aco (JL ..) (aI (OF ..) ?_));refine nP (T:=at_ .x1 0) λk2 l p g=>dM (bp (x3 ..)) ϛ ϛ ϛ ϛ (λs _ hf o=>?_) λs b hf _=>?_
 exfalso;by_cases h:s.wg=0<;>simp[mv,h]at o
 by_cases h:¬s.wg=0
 .exact⟨(at_ .bad 0,s),by simp[mv,h],λq=>absurd rfl q⟩
 have h:s.wg=0:=ϓ8.1 h;have st:=ug (P:=PP) (main:=true) (w:=l) (ad:=wA X) NS .u64 QT (x3 X.Wg fr cs) b.Nc (b.Sa 0);have a:=b.setWg R.ne 4294967296;have j:=ConcM.Eff.set (w:=l) (Mu:=X.Fd) (Wg:=X.Wg) (wA X) (.int .u64 4294967296) (.inr rfl);have e:IntKind.u64.wrap (s.wg+4294967296)=4294967296:=by rw[h];decide
 rw[e]at st;refine⟨(at_ .p1 0,{s with wg:=KKi}),by simp[mv,h],λ_=>⟨_,_,_,st,a,j,qZ (okW R.ne) rfl,?_⟩⟩;rw[Γ ϛ];have i:=(c.trans X g).trans X (R.rx j a);refine aI (OE ..) (nF (OD ..) Ww Wx Wv (λv r=>?_) (aI (OC ..) ?_));have⟨s,hs⟩:=(i.trans X r).live live;exact⟨_,hs.cWs⟩;refine lV R (T':=at_ .e1 0) (g':=resume (sA5 X.Wg fr cs) U) ϛ ϛ (bp (C5 ..)) (λw=>ir xRd .read fRd (C5 ..)) (by simp[mv]) (by simp[EvStop,j5];rfl) ϛ ϛ ϛ ϛ ϛ ϛ λk4 u t d=>?_
 exact aI (OB ..) (RI R (.inl ⟨rfl,rfl⟩) (OA ..) (JK ..) λk5 m f=>go k5 m ((i.trans X d).trans X f))
def amA(R:Room X γ)(live:∃s,ShAt X w s)(go:∀k' w',RR X γ w w'->LS X Post γ k' (at_ .g2 0) (de fr cs U) w'):LS X Post γ k (at_ .k2 0) (Zm X.Wg fr cs) w:=by
 refine aI (OH ..) (lV R (T':=at_ .x2 0) (g':=resume (sA1 X.Wg fr cs) U) ϛ ϛ (bp (x4 ..)) (λw=>kb KM .disable MK (x4 ..)) (by simp[mv]) (by simp[EvStop,j5,sW]) ϛ ϛ ϛ ϛ ϛ ϛ λx w1 n f=>?_);refine aI (OG ..) (xm XF aco (JL ..) (aI (OF ..) ?_));refine nP (T:=at_ .x2 0) λk2 m p g=>dM (bp (x3 ..)) ϛ ϛ ϛ ϛ (λs _ hf o=>?_) λs b hf _=>?_
 exfalso;obtain h|h|h|h|h|h:=hf.2.2.1<;>simp[mv,h,KKi]at o
 have st:=ug (P:=PP) (main:=true) (w:=m) (ad:=wA X) NS .u64 QT (x3 X.Wg fr cs) b.Nc (b.Sa 0);by_cases h:s.wg=0
 .have a:=b.setWg R.ne 4294967296;have d:=ConcM.Eff.set (w:=m) (Mu:=X.Fd) (Wg:=X.Wg) (wA X) (.int .u64 4294967296) (.inr rfl);have e:IntKind.u64.wrap (s.wg+4294967296)=4294967296:=by rw[h];decide
  rw[e]at st;refine⟨(at_ .p2 0,{s with wg:=KKi}),by simp[mv,h],λ_=>⟨_,_,_,st,a,d,qZ (okW R.ne) rfl,?_⟩⟩;rw[Γ ϛ];have i:=(f.trans X g).trans X (R.rx d a);refine aI (OE ..) (nF (OD ..) Ww Wx Wv (λv r=>?_) (aI (OC ..) ?_));have⟨s,hs⟩:=(i.trans X r).live live;exact⟨_,hs.cWs⟩;refine lV R (T':=at_ .e2 0) (g':=resume (sA5 X.Wg fr cs) U) ϛ ϛ (bp (C5 ..)) (λw=>ir xRd .read fRd (C5 ..)) (by simp[mv]) (by simp[EvStop,j5];rfl) ϛ ϛ ϛ ϛ ϛ ϛ λk4 u t l=>?_
  exact aI (OB ..) (RI R (.inr ⟨rfl,rfl⟩) (OA ..) (JK ..) λk5 j c=>go k5 j ((i.trans X l).trans X c))
 .by_cases h1:¬s.wg=KKi
  .exact⟨(at_ .bad 0,s),by simp[mv,h,h1],λq=>absurd rfl q⟩
  have h1:s.wg=KKi:=ϓ8.1 h1;have a:=b.setWg R.ne 8589934592;have d:=ConcM.Eff.set (w:=m) (Mu:=X.Fd) (Wg:=X.Wg) (wA X) (.int .u64 8589934592) (.inr rfl);have e:IntKind.u64.wrap (s.wg+4294967296)=8589934592:=by rw[h1];decide
  rw[e]at st;refine⟨(at_ .e2 0,{s with wg:=2*KKi}),by simp[mv,h1,KKi],λ_=>⟨_,_,_,st,a,d,qZ (okW R.ne) rfl,?_⟩⟩;rw[Γ ϛ];have i:=(f.trans X g).trans X (R.rx d a);exact aI (Zl ..) (RI R (.inr ⟨rfl,rfl⟩) (Zk ..) (Te ..) λk5 j c=>go k5 j (i.trans X c))
def aig{T:Lo}{g:Ω}(a:T.pc=.g1\/T.pc=.g2)(h:∀k' w₁,RR X γ w w₁->R4 X PP (Bq X PP Post k') T γ g w₁):LS X Post γ k T g w:=by
 cases k with
 |zero=>exact aJ.stop λw₁ hr=>⟨γ.mine,λ_=>rfl,trivial⟩
 |succ k=>
  refine aJ.stop λw₁ hr=>⟨γ.mine,λ_=>rfl,?_⟩
  unfold Bq;rw[κ a];exact h k w₁ hr
def acR(X:Cx Δ)(Post:Gh Δ->Ω->Φ->Prop)(Tg:Lo)(γ:Gh Δ)(w:Φ)(f:Θ)(fr:φ)(cs:Ϙ):Prop:=
 ∀k' w' bw bf (own':ϒ),(∀b,γ.own b->own' b)->(∀b,own' b->γ.own b\/w.heap.size<=b)->(∀b,own' b->b<w'.heap.size)->RR X γ w w'->own' bw->own' bf->w'.cell? ⟨bw,0,none⟩=some (pb X.Wg)->w'.cell? ⟨bf,0,none⟩=some f->
  (∀K,aJ PP false (gG X false (given {γ with own:=own'}).ro) (eG (KJ X PP K (fY Tg.pc)) (at_ .out (X.N (fY Tg.pc))) {given {γ with own:=own'} with mine:=X.c0 (fY Tg.pc)}) (λ_=>False) (gW0 bw bf) w')/\
  aJ PP true (gG X false (given {γ with own:=own'}).ro) (eG (Bq X PP Post k') (jf Tg.pc) (given {γ with own:=own'})) (λ_=>False) (de fr cs U) w'
def Kn{Tk Tg:Lo}{f:Θ}(o:fK Tk.pc=false)(B:Tg.pc=.g1\/Tg.pc=.g2)(R:Room X γ)(j:∀b,γ.own b\/γ.ro b->b<w.heap.size)(live:∃s,ShAt X w s)(hf:∃x,ni x=true/\f=x)(n:∀(a:Gh Δ)(k:Nat)(w:Φ)(fr:φ)(cs:Ϙ),Room X a->(∃s,ShAt X w s)->(∀k' w',RR X a w w'->LS X Post a k' Tg (de fr cs U) w')->LS X Post a k Tk (Zm X.Wg fr cs) w)(hcells:f.cells=#[f])(M:acR X Post Tg γ w f fr cs):LS X Post γ k Tk (sG0 X.Wg f fr cs) w:=by
 have⟨N,d⟩:=live;have Q:=lt_of_some d.1;have P:=lt_of_some d.2;show aJ PP true (gG X (fK Tk.pc) γ.ro) (eG (Bq X PP Post k) Tk γ) γ.own (sG0 X.Wg f fr cs) w;rw[o];refine aI (Y0 _ _ _ _) (iQ (f:=λb=>pb b) (YZ _ _ _ _) (λw1 h1=>⟨#[],y6 _ _,ϛ⟩) λw1 bw h1 C p=>?_);refine aI (YY _ bw _ _ _) (iQ (f:=λb=>pb b) (YX _ _ _ _ _) (λI h2=>⟨#[],y6 _ _,ϛ⟩) λI bf h2 G t=>?_);have l:=bq h2 (.inl (.inr rfl)) p;have r:I.cell? ⟨bw,0,none⟩=some (pb X.Wg):=by simp[World.cell?,l,pb,Value.cells]
 refine aI (YW _ _ bf _ _ _) (FT (YU _ _ _ _ _ _) ϰ (.inl (.inl (.inr rfl))) r λH z=>?_);have E:RX X γ.ro γ.own w H:=h1.trans X ((h2.sub λb e=>.inl e).trans X (z.sub λb e=>.inl (.inl e)));have u:=bq z (.inl (.inl (.inr rfl))) l;have D:=bq z (.inl (.inr rfl)) t;have L:Room X {γ with own:=λb=>(γ.own b\/b=bw)\/b=bf}:=⟨R.ne,λb g=>by have:=h1.size;have:=h2.size;rcases g with((g|rfl)|rfl)|g;exact R.off b (.inl g);exact⟨ϖ,ϖ⟩;exact⟨ϖ,ϖ⟩;exact R.off b (.inr g)⟩
 refine aI (YV _ _ _ _ _ _) ?_;have key:LS X Post {γ with own:=λb=>(γ.own b\/b=bw)\/b=bf} k Tk (Zm X.Wg (fG X.Wg bw bf f fr cs) (fr::cs)) H:=by
  refine n _ _ _ _ _ L (E.live ⟨N,d⟩) λk' O K=>aI (YS _ _ _ _ _ _) (aig B λk5 q J=>?_)
  have c:=K.trans X J;have i:=bq c (.inl (.inl (.inr rfl))) u;have m:=bq c (.inl (.inr rfl)) D;have v:q.cell? ⟨bf,0,none⟩=some f:=by simp[World.cell?,m,hcells]
  have F:q.cell? ⟨bw,0,none⟩=some (pb X.Wg):=by simp[World.cell?,i,pb,Value.cells]
  have y:=lt_of_some i;have A:=lt_of_some m;have⟨c1,c2⟩:=M k5 q bw bf (λb=>(γ.own b\/b=bw)\/b=bf) (λb h=>.inl (.inl h)) (λb h=>by
   rcases h with(h|rfl)|rfl;exact .inl h;exact .inr C;exact .inr (ac3 h1.size G)) (λb h=>by
   have:=(E.trans X (c.sub λb e=>.inl (.inl e))).size;rcases h with(h|rfl)|rfl;have:=j b (.inl h);omega;exact y;exact A) (E.trans X (c.sub λb e=>.inl (.inl e))) (.inl (.inr rfl)) (.inr rfl) F v
  refine⟨(JJ _ _ _ _ _ _).1,(JJ _ _ _ _ _ _).2,_,_,YR _ _ _ _ _ _ _,c1,aI (Tc _ _ _ _ _ _) c2⟩
 have:=key;unfold LS at this;rw[o]at this;exact this
end
structure Base (X:Cx jE)(γ:Gh jE)(w:Φ):Prop where
 dat:X.Dat=Ja
 room:Room X γ
 om:¬γ.own X.M
 rm:¬γ.ro X.M
 mf:X.M≠X.Fd
 mw:X.M≠X.Wg
 low:∀b,γ.own b\/γ.ro b->b<w.heap.size
 ml:X.M<w.heap.size
 live:∃s,ShAt X w s
section
variable {X:Cx jE}{γ:Gh jE}{w w':Φ}
def Base.rely(h:Base X γ w)(hr:RR X γ w w'):Base X γ w':=⟨h.dat,h.room,h.om,h.rm,h.mf,h.mw,λb a=>ω (h.low b a) hr.size,ω h.ml hr.size,hr.live h.live⟩
def Base.grow(h:Base X γ w)(hr:RR X γ w w')(h1:∀b,own' b->γ.own b\/w.heap.size<=b)(h2:∀b,own' b->b<w'.heap.size):Base X {γ with own:=own'} w':=by
 have⟨s,hs⟩:=h.live;have d:=lt_of_some hs.1;have e:=lt_of_some hs.2;have c:=h.ml;refine⟨h.dat,⟨h.room.ne,λb a=>?_⟩,λa=>?_,h.rm,h.mf,h.mw,λb a=>?_,ω h.ml hr.size,hr.live h.live⟩;obtain a|a:=a;obtain a|a:=h1 b a;exact h.room.off b (.inl a);exact⟨ϖ,ϖ⟩;exact h.room.off b (.inr a);obtain a|a:=h1 _ a;exact h.om a;omega;obtain a|a:=a;exact h2 b a;exact ω (h.low b (.inr a)) hr.size
def Base.given(h:Base X γ w):Base X (given γ) w:=
 ⟨h.dat,⟨h.room.ne,λb a=>a.elim False.elim λa=>h.room.off b a.symm⟩,id,λa=>a.elim h.rm h.om,h.mf,h.mw,λb a=>a.elim False.elim λa=>h.low b a.symm,h.ml,h.live⟩
def Base.now(h:Base X γ w){r:bE}(hr:r=.a\/r=.b)(m:jE):Now X r {gz.given γ with mine:=m} w:=
 ⟨⟨h.dat,hr,⟨h.given.room.ne,h.given.room.off⟩,id,h.given.rm,h.mf,h.mw⟩,h.given.low,h.ml,h.live⟩
end
def Wc:(PP.info? 3).bind (·.zero)=some (.int .i64 0):=ϰ
def WP:(PP.info? 3).map (·.size)=some 1:=ϰ
section
variable {X:Cx jE}{tg O0:Nat->Prop}{w0:Φ}{gL gR gA:Ξ->Option Ξ}{dv:Θ}{K bd:Nat}{Rd:Φ->Prop}{fr:φ}{cs:List φ}
def xF(X:Cx jE)(tg O0:ϒ)(w0:Φ)(bd:Nat)(dv:Θ)(fr:φ)(cs:Ϙ):Gh jE->Ω->Φ->Prop:=λ_ g w=>
 (∃bs bs',ay PP true g (de (fT3 X.Wg X.Fd bd bs bs' X.M dv fr cs) (fr::cs) U))/\(∃o,w.heap[X.M]?=some o/\Ja (X.fin .a) (X.fin .b) o)/\RX X tg O0 w0 w
structure Reads (X:Cx jE)(tg:Nat->Prop)(Rd:Φ->Prop)(dv:Θ)(gL gR gA:Ξ->Option Ξ)(K:Nat):Prop where
 keep:∀ro own w w',(∀b,tg b->ro b)->Rd w->RX X ro own w w'->Rd w'
 ca:∀ro,(∀b,tg b->ro b)->Cont X .a ro Rd dv 0 gL K
 cao:∀ro,(∀b,tg b->ro b)->Cont X .a ro Rd dv 2 gA K
 cb:∀ro,(∀b,tg b->ro b)->Cont X .b ro Rd dv 1 gR K
 cbo:∀ro,(∀b,tg b->ro b)->Cont X .b ro Rd dv 2 gA K
 fa:X.fin .a=lh gL gA
 fb:X.fin .b=lh gR gA
 c0:∀r,X.c0 r=λ_=>none
 n:∀r,2*K<=X.N r
variable (hR:Reads X tg Rd dv gL gR gA K)
include hR
theorem aes{γ:Gh jE}{bs':Nat}(s:Base X γ w)(e:∀b,tg b->γ.ro b)(x:∀b,O0 b\/tg b->γ.own b\/γ.ro b)(p:Rd w)(h0:RX X tg O0 w0 w)(q:γ.ro bd)(y:w.cell? ⟨bd,0,none⟩=some dv)(c:γ.own bs')(m:w.heap[bs']?=some (.cells #[.int .i64 1] 3 (0,0))):
  acR X (xF X tg O0 w0 bd dv fr cs) (at_ .g2 0) γ w (sX X.Fd bd bs') (fT2 X.Wg X.Fd bd bs bs' X.M dv fr cs) (fr::cs):=by
 intro k' w' bw bf own' t K H a F of E A;have u:=s.grow a K H;have C:w'.cell? ⟨bd,0,none⟩=some dv:=by unfold World.cell? at y⊢;rw[a.keep bd (s.low bd (.inr q)) (.inr q)];exact y
 have l:w'.cell? ⟨bs',0,none⟩=some (.int .i64 1):=by have:=bq a (.inl c) m;simp[World.cell?,this]
 have j:Rd w':=hR.keep _ _ _ _ e p a;have sub:∀b,tg b->(given {γ with own:=own'}).ro b:=λb d=>.inl (e b d)
 refine⟨λI=>?_,?_⟩;have:=wI (r:=.b) (k:=I) (n:=X.N .b) (λw w' own p h=>hR.keep _ own w w' sub p h) (hR.cb _ sub) (hR.cbo _ sub) (hR.n .b) (u.now (.inr rfl) (X.c0 .b)) rfl j (hR.c0 .b) hR.fb (bw:=bw) (bf:=bf) (bd:=bd) (bs:=bs') (.inr F) (.inr of) (.inl q) (.inr (t _ c)) E A C l;exact this;refine aI (Ym ..) ?_;have v:=u.given;have key:=KV (Post:=xF X tg O0 w0 bd dv fr cs) (fr:=fT3 X.Wg X.Fd bd bs bs' X.M dv fr cs) (cs:=fr::cs) (k:=k') v.room v.live λf o g h1 h2 G D=>⟨⟨bs,bs',D⟩,⟨o,h2,s.dat▸G⟩,?_⟩;exact key;have B:RX X tg O0 w w':=⟨a.tape,a.output,a.size,a.os,λb d i=>a.keep b d (x b i),a.live⟩
 have J:RX X tg O0 w' f:=⟨h1.tape,h1.output,h1.size,h1.os,λb d i=>h1.keep b d (.inr ((x b i).elim (λz=>.inr (t b z)) .inl)),h1.live⟩
 exact(h0.trans X B).trans X J
theorem aet{γ:Gh jE}(M:Base X γ w)(m:∀b,tg b->γ.ro b)(L:∀b,O0 b\/tg b->γ.own b\/γ.ro b)(F:Rd w)(h0:RX X tg O0 w0 w)(g:γ.own bd)(N:w.cell? ⟨bd,0,none⟩=some dv)(i:γ.own bs)(E:w.heap[bs]?=some (.cells #[.int .i64 0] 3 (0,0))):
  acR X (xF X tg O0 w0 bd dv fr cs) (at_ .g1 0) γ w (sX X.Fd bd bs) (fT1 X.Wg X.Fd bd bs X.M dv fr cs) (fr::cs):=by
 intro k' w' bw bf own' d Z V c U of T O;have K:=M.grow c Z V;have C:w'.cell? ⟨bd,0,none⟩=some dv:=by unfold World.cell? at N⊢;rw[c.keep bd (M.low bd (.inl g)) (.inl g)];exact N
 have D:w'.cell? ⟨bs,0,none⟩=some (.int .i64 0):=by have:=bq c (.inl i) E;simp[World.cell?,this]
 have j:Rd w':=hR.keep _ _ _ _ m F c;have sub:∀b,tg b->(given {γ with own:=own'}).ro b:=λb a=>.inl (m b a)
 refine⟨λW=>?_,?_⟩;have:=wI (r:=.a) (k:=W) (n:=X.N .a) (λw w' own F h=>hR.keep _ own w w' sub F h) (hR.ca _ sub) (hR.cao _ sub) (hR.n .a) (K.now (.inl rfl) (X.c0 .a)) rfl j (hR.c0 .a) hR.fa (bw:=bw) (bf:=bf) (bd:=bd) (bs:=bs) (.inr U) (.inr of) (.inr (d _ g)) (.inr (d _ i)) T O C D;exact this
 .have y:=K.given;have l:∀b,O0 b\/tg b->(given {γ with own:=own'}).ro b:=λb a=>(L b a).elim (λz=>.inr (d b z)) .inl
  have P:RX X tg O0 w0 w':=h0.trans X ⟨c.tape,c.output,c.size,c.os,λb a B=>c.keep b a (L b B),c.live⟩;refine aI (Yr ..) ?_;refine iQ (f:=λb=>pb b) (Yq ..) (λw1 h1=>⟨#[],oH Wc,ϛ⟩) λw1 bs' h1 G I=>?_
  refine aI (Yp _ _ _ _ bs' ..) ?_;have⟨s,hs⟩:=y.live;have n1:bs'≠X.Fd/\bs'≠X.Wg:=⟨λe=>by have:=lt_of_some hs.1;omega,λe=>by have:=lt_of_some hs.2;omega⟩
  have Q:¬(given {γ with own:=own'}).ro bs':=λe=>by have:=y.low bs' (.inr e);omega
  have J:(λb=>False\/b=bs') bs':=.inr rfl;refine ku (b:=bs') (A:=λo x=>x=ϗ/\o=.cells #[.int .i64 1] 3 (0,0)) J n1 (Yn ..) (λu h2=>?_) (λu o x _ p ha h2=>?_) Q;have⟨w',ev,r1,r2,r3⟩:=iy (t:=3) (off:=0) (v:=.int .i64 1) (bq h2 (.inl J) I) WP (by simp[Value.cells]) (by simp[Value.cells,ni]);exact⟨ϗ,_,w',ev,.inr ⟨r1,rfl⟩,r2,⟨rfl,rfl⟩,λe Y=>⟨bs',r3 e Y,.inl J⟩⟩;obtain⟨rfl,rfl⟩:=ha;have h12:RX X (given {γ with own:=own'}).ro (λ_=>False) w' u:=h1.trans X (h2.sub λb e=>e.elim);have q:Base X {given {γ with own:=own'} with own:=λb=>False\/b=bs'} u:=y.grow h12 (λb a=>by
   obtain a|rfl:=a;exact a.elim;exact .inr G) (λb a=>by
   obtain a|rfl:=a;exact a.elim;exact lt_of_some p)
  have H:u.cell? ⟨bd,0,none⟩=some dv:=by unfold World.cell? at C⊢;rw[h12.keep bd (y.low bd (.inr (.inr (d _ g)))) (.inr (.inr (d _ g)))];exact C
  refine aI (Yo ..) ?_;have key:=Kn (Post:=xF X tg O0 w0 bd dv fr cs) (Tk:=at_ .k2 0) (Tg:=at_ .g2 0) (k:=k') rfl (.inr rfl) q.room q.low q.live (f:=sX X.Fd bd bs') (fr:=fT2 X.Wg X.Fd bd bs bs' X.M dv fr cs) (cs:=fr::cs) ⟨_,rfl,rfl⟩ (λS k w fr cs R live go=>amA R live go) rfl
   (aes hR q (λb a=>sub b a) (λb a=>.inr (l b a)) (hR.keep _ _ _ _ sub j h12) (P.trans X ⟨h12.tape,h12.output,h12.size,h12.os,λb a B=>h12.keep b a (.inr (l b B)),h12.live⟩) (.inr (d _ g)) H (.inr rfl) p)
  exact key
theorem CG{γ:Gh jE}(c:Base X γ w)(d:∀b,tg b->γ.ro b)(q:∀b,O0 b\/tg b->γ.own b\/γ.ro b)(D:Rd w)(h0:RX X tg O0 w0 w)(n:γ.own bd)(r:w.cell? ⟨bd,0,none⟩=some dv):
  LS X (xF X tg O0 w0 bd dv fr cs) γ k (at_ .k1 0) (resume (sT6 X.Fd bd X.M dv fr cs) (pb X.Wg)) w:=by
 refine aI (X9 ..) ?_;refine iQ (f:=λb=>pb b) (X8 ..) (λw1 h1=>⟨#[],oH Wc,ϛ⟩) λw1 bs h1 j m=>?_
 refine aI (X7 _ _ _ bs ..) ?_;have⟨s,hs⟩:=c.live;have n1:bs≠X.Fd/\bs≠X.Wg:=⟨λe=>by have:=lt_of_some hs.1;omega,λe=>by have:=lt_of_some hs.2;omega⟩
 have y:¬γ.ro bs:=λe=>by have:=c.low bs (.inr e);omega
 have now:∀b,γ.own b->b≠bs:=λb a e=>by have:=c.low b (.inl a);omega
 have p:(λb=>γ.own b\/b=bs) bs:=.inr rfl;refine ku (b:=bs) (A:=λo x=>x=ϗ/\o=.cells #[.int .i64 0] 3 (0,0)) p n1 (X5 ..) (λi h2=>?_) (λi o x _ g ha h2=>?_) y;have⟨w',ev,C,r2,r3⟩:=iy (t:=3) (off:=0) (v:=.int .i64 0) (bq h2 (.inl p) m) WP (by simp[Value.cells]) (by simp[Value.cells,ni]);exact⟨ϗ,_,w',ev,.inr ⟨C,rfl⟩,r2,⟨rfl,rfl⟩,λe B=>⟨bs,r3 e B,.inl p⟩⟩;obtain⟨rfl,rfl⟩:=ha;have h12:RX X γ.ro γ.own w i:=h1.trans X (h2.sub λb e=>⟨.inl e,now b e⟩);have h:Base X {γ with own:=λb=>γ.own b\/b=bs} i:=c.grow h12 (λb a=>by
  obtain a|rfl:=a;exact .inl a;exact .inr j) (λb a=>by
  obtain a|rfl:=a;exact ω (c.low b (.inl a)) h12.size;exact lt_of_some g)
 have l:i.cell? ⟨bd,0,none⟩=some dv:=by unfold World.cell? at r⊢;rw[h12.keep bd (c.low bd (.inl n)) (.inl n)];exact r
 refine aI (X6 ..) ?_;have key:=Kn (Post:=xF X tg O0 w0 bd dv fr cs) (Tk:=at_ .k1 0) (Tg:=at_ .g1 0) (k:=k) rfl (.inl rfl) h.room h.low h.live (f:=sX X.Fd bd bs) (fr:=fT1 X.Wg X.Fd bd bs X.M dv fr cs) (cs:=fr::cs) ⟨_,rfl,rfl⟩ (λz k w fr cs R live go=>add1 R live go) rfl
  (aet hR h d (λb a=>(q b a).imp .inl id) (hR.keep _ _ _ _ d D h12) (h0.trans X ⟨h12.tape,h12.output,h12.size,h12.os,λb a u=>h12.keep b a (q b u),h12.live⟩) (.inl n) l (.inr rfl) g)
 exact key
end
end gz
end
section
open Go.Conc Go.RowKit Go.Lib
open Go.ConcM (OsLater)
namespace gz
section
variable {X:Cx jE}{ro:Nat->Prop}
def aa2:R5 (gG X false ro) (λs=>s) ro:=
 ⟨λs w w₁ h=>⟨h.size,h.tape,h.keep⟩,λs w w' es h=>⟨h.tape,h.output,h.size,by rw[h.os];exact .refl _,h.keep,λe a=>by obtain⟨b,hb,hl⟩|⟨m,hm⟩:=h.ev e a;exact .inl ⟨b,hb,hl⟩;exact .inr (.inr ⟨m,hm⟩),ϛ⟩,λs w w' b=>Iff.rfl⟩
def FU{main:Bool}{Stop:(Nat->Prop)->Ω->Φ->Prop}{own:ϒ}{w0:Φ}(m:∀b,own b->b<w0.heap.size)(y:X.Fd<w0.heap.size)(z:X.Wg<w0.heap.size)(t:∀b,ro b->b<w0.heap.size):
  ∀(r:Rk){s:ϒ}{g:Ω}{w:Φ},(∀b,s b->w0.heap.size<=b/\b<w.heap.size)->RX X ro own w0 w->iW PP main (gG X false ro) Stop r s g w->
   aJ PP main (gG X false ro) (λo g w'=>∃s',o=(λb=>own b\/s' b)/\Stop s' g w'/\(∀b,s' b->w0.heap.size<=b/\b<w'.heap.size)/\RX X ro own w0 w') (λb=>own b\/s b) g w:=by
 intro r;have sub:∀{s:ϒ}{w w₁:Φ},RX X ro (λb=>own b\/s b) w w₁->RX X ro s w w₁/\RX X ro own w w₁:=λh=>
  ⟨⟨h.tape,h.output,h.size,h.os,λb i j=>h.keep b i (j.imp .inr id),h.live⟩,⟨h.tape,h.output,h.size,h.os,λb i j=>h.keep b i (j.imp .inl id),h.live⟩⟩
 induction r with
 |zero=>
  intro s g w hs h0 h;refine .stop λw₁ hr=>?_
  have d:RX X ro (λb=>own b\/s b) w w₁:=hr;exact⟨s,rfl,h w₁ (sub d).1,λb i=>⟨(hs b i).1,ω (hs b i).2 d.size⟩,h0.trans X (sub d).2⟩
 |mk f B=>
  intro s g w hs h0 h;obtain h|⟨n,h⟩:=h;refine .stop λw₁ hr=>?_
  have d:RX X ro (λb=>own b\/s b) w w₁:=hr;exact⟨s,rfl,h w₁ (sub d).1,λb i=>⟨(hs b i).1,ω (hs b i).2 d.size⟩,h0.trans X (sub d).2⟩;refine aJ.step n λw₁ hr=>?_
  have d:RX X ro (λb=>own b\/s b) w w₁:=hr;have⟨g',w',es,h1,h2,v⟩:=h w₁ (sub d).1;have a:DX X false ro s w₁ w' es:=h2;have l:=h0.trans X (sub d).2;have k:∀b,b<w0.heap.size->w'.heap[b]?=w₁.heap[b]?:=λb i=>a.keep b (ω i l.size) λp=>by have:=(hs b p).1;omega
  have u:RX X ro own w0 w':=by refine l.trans X ⟨a.tape,a.output,a.size,a.os,λb i j=>k b (j.elim (m b) (t b)),λ⟨s,h1,h2⟩=>⟨s,?_,?_⟩⟩;rw[k _ y];exact h1;rw[k _ z];exact h2
  have q:(gG X false ro).up (λb=>own b\/s b) w₁ w'=λb=>own b\/(gG X false ro).up s w₁ w' b:=funext λb=>propext or_assoc
  refine⟨g',w',es,h1,⟨a.tape,a.output,a.size,a.os,λb i j=>a.keep b i λx=>j (.inr x),λe A=>?_,a.mute⟩,?_⟩;obtain⟨c,hc,hl⟩|h:=a.ev e A;exact .inl ⟨c,hc.imp .inr id,hl⟩;exact .inr h;rw[q];refine B w₁ (λb i=>?_) u v;obtain i|i:=i;exact⟨(hs b i).1,ω (ω (hs b i).2 d.size) a.size⟩;exact⟨ac3 l.size i.1,i.2⟩
end
structure ie (d bl n:Nat)(x:DS)(w:Φ):Prop where
 row:∃f,w.heap[d]?=some (.cells (jt bl n (.slice none 0 0) x) 134 f)
 last:∃f,w.heap[bl]?=some (.cells (byteCells x.bg).toArray 148 f)
 lS:∃c t f,w.heap[0]?=some (.cells c t f)/\∀v∈c,∀r,¬Value.Has r v
 len:x.bg.length=64*n
 lo:16<=n
 hi:n<=400
 none:x.waiting=[]
def xE(d bl:Nat)(b:Nat):Prop:=b=0\/b=d\/b=bl
def ie.keep{X:Cx jE}{ro own:ϒ}{d bl n:Nat}{x:DS}{w w':Φ}(h:ie d bl n x w)(f:∀b,xE d bl b->ro b)(hr:RX X ro own w w'):ie d bl n x w':=by
 have k:∀b o,xE d bl b->w.heap[b]?=some o->w'.heap[b]?=some o:=λb o j g=>by rw[hr.keep b (Ψ.1 g).1 (.inr (f b j))];exact g
 have⟨⟨f1,h1⟩,⟨f2,h2⟩,⟨c,t,m,p,l⟩,a,b,i,e⟩:=h;exact⟨⟨f1,k _ _ (.inr (.inl rfl)) h1⟩,⟨f2,k _ _ (.inr (.inr rfl)) h2⟩,⟨c,t,m,k _ _ (.inl rfl) p,l⟩,a,b,i,e⟩
section
variable (w:Φ)(d bl:Nat)
open Classical in
def mask:Φ:={w with heap:=w.heap.mapIdx λb o=>if xE d bl b then(match o with|.cells c t _=>.cells c t (0,c.size)|o=>o)else .cells #[] 1000000 (0,0)}
def v6:(mask w d bl).heap.size=w.heap.size:=by simp[mask]
def PH(a:¬xE d bl b)(h:(mask w d bl).heap[b]?=some o):o=.cells #[] 1000000 (0,0):=by
 simp only[mask,Array.getElem?_mapIdx,Γ a]at h;obtain⟨_,_,rfl⟩:=ψ.1 h;rfl
def uX{f:Nat×Nat}(a:xE d bl b)(h:w.heap[b]?=some (.cells c t f)):(mask w d bl).heap[b]?=some (.cells c t (0,c.size)):=by
 simp only[mask,Array.getElem?_mapIdx,κ a,h,ι]
end
def G7(w:Φ)(d bl:Nat)(b:Nat):Prop:=b<w.heap.size/\¬xE d bl b
def Cv{l:ϑ}(h:v∈(byteCells l).toArray):∀r,¬Value.Has r v:=by
 simp only[ϓ3,byteCells,ac9]at h;obtain⟨b,_,rfl⟩:=h;intro r hr;cases hr
section
variable {d bl n:Nat}{x:DS}{w:Φ}
theorem ie.cells(h:ie d bl n x w){b:Nat}(g:xE d bl b):∃c t f,w.heap[b]?=some (.cells c t f)/\∀v∈c,∀r,Value.Has r v->xE d bl r:=by
 obtain⟨⟨f1,h1⟩,⟨f2,h2⟩,⟨c,t,a,j,i⟩,_⟩:=h;obtain rfl|rfl|rfl:=g;exact⟨c,t,a,j,λv hv r hr=>absurd hr (i v hv r)⟩;refine⟨_,_,f1,h1,λv hv r hr=>?_⟩;simp only[jt,List.mem_toArray,ac2,aj8,or_false]at hv;obtain rfl|rfl|rfl|rfl|rfl|rfl|rfl:=hv<;>cases hr
 rename_i e;exact .inr (.inr e.symm);exact⟨_,_,f2,h2,λv hv r hr=>absurd hr (Cv hv r)⟩
def ie.size(h:ie d bl n x w){b:Nat}(a:xE d bl b):b<w.heap.size:=by
 have⟨c,t,f,h1,_⟩:=h.cells a;exact(Ψ.1 h1).1
def L8(h:ie d bl n x w){ro:ϒ}(z:∀b,xE d bl b->ro b):Link (G7 w d bl) (xE d bl) (λ_=>False) ro id (mask w d bl) w:=by
 have s:∀b,xE d bl b->¬G7 w d bl b:=λb a y=>y.2 a
 have k:=v6 w d bl;have g:∀b,b<w.heap.size->G7 w d bl b\/xE d bl b:=λb a=>by by_cases hr:xE d bl b;exact .inr hr;exact .inl ⟨a,hr⟩
 have m:Go.Proofs.YtchcmhodnkgojaaGreat.LW (G7 w d bl) (xE d bl) (mask w d bl):=by
  refine⟨λb o a h1 h2=>?_,λb o a y=>PH w d bl y.2 a,λb o a l=>?_,λb a=>?_,s,⟨?_,s 0 (.inl rfl)⟩,λb o a q r hr=>?_⟩;exact absurd (g b (k▸(Ψ.1 a).1)) (by simp[h1,h2]);have⟨c,t,f,h1,_⟩:=h.cells l;rw[uX w d bl l h1]at a;exact⟨c,t,(ag2 a).symm⟩;rw[k];exact a.elim (·.1) h.size;rw[k];exact h.size (.inl rfl);have l:xE d bl b:=(g b (k▸(Ψ.1 a).1)).resolve_left q;have⟨c,t,f,h1,h2⟩:=h.cells l;rw[uX w d bl l h1]at a;obtain rfl:=ag2 a;cases hr with|cells hv hr=>have:=h2 _ hv _ hr;exact⟨by rw[k];exact h.size this,s _ this⟩
 refine⟨λi j e=>e,rfl,λb a=>by rw[<-k];exact a,m,⟨λi j e=>e,rfl,rfl,λb a _=>by rw[<-k];exact a,λb o a h1 h2=>?_,m.hid,λb o a l=>?_,m.low,λb o a i u=>?_⟩,λb a l=>?_,z⟩;exact absurd (g b (k▸(Ψ.1 a).1)) (by simp[h1,h2]);have⟨c,t,f,h1,_⟩:=h.cells l;have p:(mask w d bl).heap[b]?=some o:=a;rw[uX w d bl l h1]at p;refine⟨c,t,f,(ag2 p).symm,?_⟩;rw[cP (f:=ren id) λv _=>fZ v λr _=>rfl];exact h1;exfalso;by_cases q:G7 w d bl b;rw[m.hid b o a q]at u;exact u;obtain⟨c,t,rfl⟩:=m.qj b o a ((g b (k▸(Ψ.1 a).1)).resolve_left q);exact u;exact absurd (g b (k▸a.1)) (by simp[a.2,l])
def Ud(h:ie d bl n x w):ig (mask w d bl) d bl n (.slice none 0 0) x:=by
 have⟨⟨f1,h1⟩,⟨f2,h2⟩,_,a,b,c,e⟩:=h;exact⟨⟨_,uX w d bl (.inr (.inl rfl)) h1⟩,⟨_,uX w d bl (.inr (.inr rfl)) h2⟩,a,b,c,rfl,e,⟨none,0,by rw[e];rfl⟩⟩
def _root_.Go.Proofs.YtchcmhodnkgojaaGreat.ig.az{w:Φ}{d bl n:Nat}{a:Θ}{x:DS}(h:ig w d bl n a x)(t:eH)(k:Nat):ig (az w t k) d bl n a x:=⟨h.row,h.last,h.len,h.lo,h.hi,h.nil,h.none,h.vw⟩
end
def Ra(set:Int)(x:DS)(n n0:Nat)(e:Exit)(a:Act)(w':Φ):Prop:=
 (e=.normal\/e=.ret)/\∃m es c,a.tmps.getD 4 ϗ=.map (some m)/\n0<=m/\w'.heap[m]?=some (.map es c)/\dU es c (qU (s9 set (aS x n)))/\es.size<=54
def Q9(set:Int)(x:DS)(n n0:Nat):QOk none (Ra set x n n0):=⟨λe a w t d=>Iff.rfl,λe a w h=>h.1.elim .inl λh=>.inr (.inl h)⟩
def Vw:zw PP S1 (λ_=>false) false (tU 166)=true:=ϰ
def Ag:Tryz.f166.results=#[.tmp 4]:=ϰ
def MX{set:Int}{x:DS}{n:Nat}{w:Φ}{e:Exit}{a:Act}{w':Φ}(h:bodyPost PP Tryz.f166 (Ah set x n w) e a w'):Ra set x n w.heap.size e a w':=by
 have go:∀{v},(results Tryz.f166 a.tmps).run PP w'=.ok v w'->Ah set x n w (.returned v) w'->∃m es c,a.tmps.getD 4 ϗ=.map (some m)/\w.heap.size<=m/\w'.heap[m]?=some (.map es c)/\dU es c (qU (s9 set (aS x n)))/\es.size<=54:=by rintro v hr⟨m,es,c,h1,h2,f,d,b,_⟩;rw[results_tmp Ag]at hr;cases hr;exact⟨m,es,c,Ending.returned.inj h1,h2,f,d,b⟩
 cases e with
 |normal=>have⟨_,v,hr,hR⟩:=h;exact⟨.inl rfl,go hr hR⟩
 |ret=>have⟨_,v,hr,hR⟩:=h;exact⟨.inr rfl,go hr hR⟩
 |panic g=>have⟨_,m,es,c,h1,_⟩:=h;cases h1
 |outgrown=>have⟨m,es,c,h1,_⟩:=h;cases h1
 |_=>exact h.elim
def UB{c:Nat}(h:dU es c (qU g))(π:ϙ):es.map (od π)=es:=by
 have:∀e∈es,od π e=e:=λe a=>by have⟨s,hs⟩:=jA (h.keys e (by simpa using a));have hv:=(h.has s e.val).2 ⟨e,by simpa using a,hs,rfl⟩;unfold qU at hv;have⟨b,_,d⟩:=ψ.1 hv;have⟨k,v,f⟩:=e;simp only at hs d;subst hs;subst d;simp[od,gz.hv]
 conv=>rhs;rw[<-Array.map_id es]
 exact al0 λe a=>this e a
def sm{X:Cx jE}{d bl n:Nat}{x:DS}{ro:ϒ}(ag:∀b,xE d bl b->ro b)(r:bE)(set:Int):Cont X r ro (ie d bl n x) (.pointer (some ⟨d,0,none⟩)) set (s9 set (aS x n)) 54:=by
 intro γ k T w fr cs hT L U Q hk;subst U;have⟨s0,J⟩:=L.live;have K:=Ud Q;have C:Tryz.f166.body=some (tU 166):=ϰ;let l:Act:={tmps:=#[.pointer (some ⟨d,0,none⟩),.int .i64 set]++Array.replicate 28 ϗ,defers:=[]}
 have R:∀t k,WpT PP [.code (tU 166)] (Ra set x n w.heap.size) l (az (mask w d bl) t k):=λt k=>by have⟨cd,h1,h2⟩:=Bg (Zt (K.az t k)) set (az (mask w d bl) t k) (K.az t k);rw[C]at h1;obtain rfl:=ag2 h1;intro b kk S;have⟨e,a',w',q,hr⟩:=h2 b kk S;have q':=MX q;have e0:(az (mask w d bl) t k).heap.size=w.heap.size:=v6 w d bl;rw[e0]at q';exact⟨e,a',w',q',hr⟩
 have IK:∀v∈l.tmps,VV (iT (G7 w d bl) (mask w d bl)) v:=λv hv=>by
  obtain hv|hv:=ai1.1 hv;simp only[ϓ3,ac2,aj8,or_false]at hv;obtain rfl|rfl:=hv;intro r hr;cases hr with|ptr e=>subst e;exact⟨by rw[v6];exact Q.size (.inr (.inl rfl)),λW=>W.2 (.inr (.inl rfl))⟩
  intro r hr;cases hr;rw[(ϔ7.1 hv).2];exact kQ
 have key:=PR aep (H:=G7 w d bl) (Z:=xE d bl) ϛ (f0:=166) ⟨_,func166⟩ (aa2 (X:=X) (ro:=γ.ro)) (Q9 set x n w.heap.size) (B:=base 166) (D0:=[]) (CS:=fr::cs) (kT:=[]) rfl (by simp[base]) ϛ
  (t0:=[.code (tU 166)]) (λit N=>by simp at N;subst N;exact Vw) (a:=l) (s:=λ_=>False) (L8 Q ag) IK rfl R (main:=false)
 have⟨rk,key⟩:=key;have i:=FU (X:=X) (own:=γ.own) (ro:=γ.ro) (w0:=w) (λb j=>L.low b (.inl j)) (lt_of_some J.1) (lt_of_some J.2) (λb j=>L.low b (.inr j)) rk (s:=λ_=>False) ϛ (RX.refl X _ _ w) key;have e1:(λb=>γ.own b\/False)=γ.own:=funext λb=>ϛ
 rw[e1]at i;have e2:G ((base 166).at (bF id l []) ([.code (tU 166)]++[])) (fr::cs)=gC0 (.pointer (some ⟨d,0,none⟩)) set fr cs:=by unfold bF;rw[cP (f:=ren id) λv _=>fZ v λr _=>rfl];rfl
 rw[e2]at i;show aJ PP false (gG X (fK T.pc) γ.ro) _ γ.own _ w;rw[hT];refine i.bind ?_;rintro o g w' ⟨s',rfl,⟨e,a,oT,π,⟨ac,m,es,c,hm,al,u,I,Y⟩,hl,hd,an,hg,am,aa⟩,y,M⟩;have P:iT (G7 w d bl) oT m:=⟨(Ψ.1 u).1,λW=>by have:=W.1;omega⟩
 have F:¬xE d bl m:=λhz=>by have:=Q.size hz;omega
 have p:s' (π m):=hl.own m P F;have z:w'.heap[π m]?=some (.map es c):=by have:=(hl.wr.ok m _ u P.2 F).2;simp only[et,UB I]at this;exact this
 have D:=hk w' (π m) es c (λb=>γ.own b\/s' b) (λb j=>.inl j) (λb j=>j.imp id λh=>(y b h).1) (λb j=>j.elim (λh=>ω (L.low b (.inl h)) M.size) λh=>(y b h).2) M (.inr p)
  (λj=>by have:=(y _ p).1;have:=L.low _ (.inl j);omega) z I Y
 have A:aJ PP false (gG X false γ.ro) (eG (KJ X PP k r) T γ) (λb=>γ.own b\/s' b) (G (fr.finish (.map (some (π m)))) cs) w':=by have c2:aJ PP false (gG X (fK T.pc) γ.ro) (eG (KJ X PP k r) T γ) (λb=>γ.own b\/s' b) (G (fr.finish (.map (some (π m)))) cs) w':=D;rw[hT]at c2;exact c2
 have E:∀todo,aJ PP false (gG X false γ.ro) (eG (KJ X PP k r) T γ) (λb=>γ.own b\/s' b) (G {(base 166).at (bF π a []) todo with mode:=.returning} (fr::cs)) w':=λtodo=>by
  refine aJ.silent rfl (λw₁=>?_) (λw₁ _=>(kY (X:=X) false γ.ro _ w₁).1) (λw₁=>(kY (X:=X) false γ.ro _ w₁).2) A;have O:(results Tryz.f166 (bF π a []).tmps).run PP w₁=.ok (.map (some (π m))) w₁:=by rw[results_tmp Ag];show Result.ok ((a.tmps.map (ren π)).getD 4 ϗ) w₁=_;rw[kZ,hm];simp
  have V:(results Tryz.f166 (bF π a []).tmps).events PP w₁ #[]=#[]:=by
   have e:results Tryz.f166 (bF π a []).tmps=pure ((bF π a []).tmps.getD 4 ϗ):=by simp[results,Ag]
   rw[e];rfl
  exact stepG_leave (b:=base 166) (a:=bF π a []) (todo:=todo) rfl rfl func166 O V
 obtain rfl|rfl:=ac;obtain rfl:g=_:=hg;exact aJ.silent rfl (λw₁=>stepG_end) (λw₁ _=>(kY (X:=X) false γ.ro _ w₁).1) (λw₁=>(kY (X:=X) false γ.ro _ w₁).2) (E _);obtain⟨todo,rfl⟩:=hg;exact E todo
end gz
end
section
open Go.Conc Go.RowKit Go.Lib
open Go.ConcM (OsLater)
open Go.ConcN (sumTo)
namespace gz
section
variable {own:Nat->Prop}{w:Φ}{g g':Ω}{v:m6}{Stop:(Nat->Prop)->Ω->Φ->Prop}
def sS(own:ϒ)(w:Φ):lX own (λ_=>False) w w #[]:=⟨ε _,λ_ _ _=>rfl,rfl,rfl,rfl,ϛ⟩
def idle0:Idle m9:=λs w=>⟨sS s w,funext λb=>propext ⟨λh=>h.elim id λh=>ϖ,.inl⟩⟩
def fh(h:ay PP true g g')(k:aJ PP true m9 Stop own g' w):aJ PP true m9 Stop own g w:=lC idle0 h k
def PB{f:Ϡ}(h:bm g=some v)(hr:∀w,RT v.sem w (.value (f w.heap.size)) {w with heap:=w.heap.push o} #[])(k:∀w',w'.heap=w.heap.push o->w'.os=w.os->w'.tape=w.tape->aJ PP true m9 Stop (λb=>own b\/b=w.heap.size) (resume g (f w.heap.size)) w'):aJ PP true m9 Stop own g w:=by
 refine aJ.step (dH h).1 λw₁ h1=>?_
 obtain⟨d,rfl⟩:=h1;have⟨es,e1,e2⟩:=gS (main:=true) h (hr (w.at d));have c:m9.up own (w.at d) {w.at d with heap:=(w.at d).heap.push o}=λb=>own b\/b=w.heap.size:=by funext b;refine propext (or_congr Iff.rfl ?_);show(w.heap.size<=b/\b<(w.heap.push o).size)↔_;simp;omega
 refine⟨_,_,es,e1,⟨by show w.heap.size<=(w.heap.push o).size;simp,λb i _=>?_,rfl,rfl,rfl,λe j=>by have:=e2 e j;simp at this⟩,?_⟩;have a:b<w.heap.size:=i;show(w.heap.push o)[b]?=w.heap[b]?;rw[ac6 a];exact(τ a).symm;rw[c];exact k _ rfl rfl rfl
def akb(h:bm g=some v)(hr:∀w,RT v.sem w (.value x) w #[])(k:aJ PP true m9 Stop own (resume g x) w):aJ PP true m9 Stop own g w:=by
 refine aJ.step (dH h).1 λw₁ h1=>?_
 have⟨es,e1,e2⟩:=gS (main:=true) h (hr w₁);have a:es=#[]:=by
  apply Array.eq_empty_of_size_eq_zero;refine Nat.eq_zero_of_not_pos λb=>?_
  have:=e2 es[0] (ϑ8 b);simp at this
 subst a;refine⟨_,_,_,e1,sS ..,?_⟩;rw[(idle0 own w₁).2];exact k.rely h1
def akd(f:own b)(h:bm g=some v)(hr:∀d,∃w' ev,RT v.sem (w.at d) .skip w' ev/\Bn b o (w.at d) w'/\∀e∈ev,EvB b e)(k:∀w',w'.heap.size=w.heap.size->w'.heap[b]?=some o->(∀c,c≠b->w'.heap[c]?=w.heap[c]?)->w'.os=w.os->w'.tape=w.tape->aJ PP true m9 Stop own (resume g ϗ) w'):aJ PP true m9 Stop own g w:=by
 refine aJ.step (dH h).1 λw₁ h1=>?_
 obtain⟨d,rfl⟩:=h1;have⟨w',ev,r,u,l⟩:=hr d;have⟨es,e1,e2⟩:=Ey (main:=true) h r;have a:m9.up own (w.at d) w'=own:=funext λc=>propext ⟨λx=>x.elim id λx=>by have:=u.size;omega,.inl⟩
 refine⟨_,w',es,e1,⟨by rw[u.size];exact ε _,λc _ i=>u.rest c λe=>i (e▸f),u.os,u.output,u.tape,λe j=>.inl ⟨b,.inl f,(l e (e2 e j)).2⟩⟩,?_⟩;rw[a];exact k w' u.size u.at_ u.rest u.os u.tape
end
def XD:(PP.info? NN).bind (·.zero)=some (.agg #[.int .i32 0,.int .u32 0,.map none]):=ϰ
def XC:(PP.info? TWg).bind (·.zero)=some (.agg #[.int .u64 0,.int .u32 0]):=ϰ
def aaT:(PP.info? NN).map (·.size)=some 3:=ϰ
def aeO(M:Nat)(w:Φ):RT (m6.build NN #[(1,.map (some M))]).sem w (.value (fd0 M)) w #[]:=λes=>by
 have:(m6.build NN #[(1,.map (some M))]).sem.runT PP w es=(.ok (.value (fd0 M)) w,es):=ϰ;rw[this,am5]
structure Laid (d:Nat)(w w':Φ):Prop where
 size:w'.heap.size=w.heap.size+4
 box:w'.heap[w.heap.size]?=some (.cells #[pb d] 94 (0,0))
 map:w'.heap[w.heap.size+1]?=some (.map #[] 0)
 fd:w'.heap[w.heap.size+2]?=some (.cells #[.int .i32 0,.int .u32 0,.map (some (w.heap.size+1))] NN (0,0))
 wg:w'.heap[w.heap.size+3]?=some (.cells #[.int .u64 0,.int .u32 0] TWg (0,0))
 old:∀b,b<w.heap.size->w'.heap[b]?=w.heap[b]?
 os:w'.os=w.os
 tape:w'.tape=w.tape
theorem Mj:
  aJ PP true m9 (λs g w'=>s=(λb=>own b\/(w.heap.size<=b/\b<w.heap.size+4))/\g=resume (sT6 (w.heap.size+2) w.heap.size (w.heap.size+1) (pb d) fr cs) (pb (w.heap.size+3))/\Laid d w w') own (sT0 (pb d) fr cs) w:=by
 refine fh (Yl _ _ _) (PB (f:=pb) (Yk _ _ _) (λw=>y6 _ _) λw1 h1 o1 t1=>?_);refine fh (Yj _ _ _ _) (PB (f:=λb=>.map (some b)) (Yi _ _ _ _) (λw=>Ib _) λw2 h2 o2 t2=>?_);have s1:w1.heap.size=w.heap.size+1:=by rw[h1];simp
 have s2:w2.heap.size=w.heap.size+2:=by rw[h2];simp[s1]
 rw[s1];refine fh (Yh _ _ _ _ _) (akb (Yg _ _ _ _ _) (λw=>aeO _ w) ?_);refine fh (Yf _ _ _ _ _) (PB (f:=pb) (Ye _ _ _ _ _) (λw=>oH XD) λw3 h3 o3 t3=>?_);have s3:w3.heap.size=w.heap.size+3:=by rw[h3];simp[s2]
 rw[s2];refine fh (Yd _ _ _ _ _ _) (akd (b:=w.heap.size+2) (o:=.cells #[.int .i32 0,.int .u32 0,.map (some (w.heap.size+1))] NN (0,0)) (.inr rfl) (Yc _ _ _ _ _ _) (λd=>?_) λw4 s4 r4 k4 o4 t4=>?_);have h3':(w3.at d).heap[w.heap.size+2]?=some (.cells #[.int .i32 0,.int .u32 0,.map none] NN (0,0)):=by show w3.heap[w.heap.size+2]?=_;rw[h3,<-s2];simp[Value.cells]
 obtain⟨w',ev,r1,r2,r3⟩:=iy (t:=NN) (off:=0) (v:=fd0 (w.heap.size+1)) h3' aaT (by simp[fd0,Value.cells]) (by simp[fd0,Value.cells,ni]);exact⟨w',ev,r1,r2,r3⟩;refine fh (Yb _ _ _ _ _ _) (PB (f:=pb) (Ya _ _ _ _ _ _) (λw=>oH XC) λw5 h5 o5 t5=>?_);rw[s4,s3];refine .stop λw₁ ⟨d,e⟩=>?_
 subst e;have ZV:∀b,b<w2.heap.size->w5.heap[b]?=w2.heap[b]?:=λb hb=>by rw[h5,ac6 ϖ,<-τ,k4 b ϖ,h3,ac6 hb,<-τ]
 refine⟨funext λb=>propext (by constructor<;>intro h<;>(by_cases ho:own b<;>simp[ho]at h⊢<;>omega)),rfl,⟨by show w5.heap.size=_;rw[h5];simp[s4,s3],?_,?_,?_,?_,λb hb=>?_,by show w5.os=_;rw[o5,o4,o3,o2,o1],by show w5.tape=_;rw[t5,t4,t3,t2,t1]⟩⟩;show w5.heap[w.heap.size]?=_;rw[ZV _ ϖ,h2,ac6 ϖ,<-τ,h1];simp[pb,Value.cells];show w5.heap[w.heap.size+1]?=_;rw[ZV _ ϖ,h2,<-s1];simp;show w5.heap[w.heap.size+2]?=_;rw[h5,ac6 ϖ,<-τ];exact r4;show w5.heap[w.heap.size+3]?=_;rw[h5,show w.heap.size+3=w4.heap.size by omega];simp[Value.cells];show w5.heap[b]?=_;rw[ZV _ ϖ,h2,ac6 ϖ,<-τ,h1,ac6 hb,<-τ]
abbrev no:Nat->Prop:=λ_=>False
section
variable {Δ:Type}{X:Cx Δ}{P:aa1}{Post:Gh Δ->Ω->Φ->Prop}{Shun:Loc->Prop}{own:Nat->Prop}{M:an4}{t:Trace}{g:Ω}{w:Φ}{γ:Gh Δ}
def Xv(X:Cx Δ):bE->Lo
 |.m=>at_ .k1 0
 |r=>at_ .un (X.N r)
def So(X:Cx Δ)(γ:Gh Δ):bE->Gh Δ
 |.m=>{γ with mine:=X.c0 .m}
 |r=>⟨no,no,X.c0 r,X.c0 r⟩
def Ju(Shun:ϧ)(b:Nat):Prop:=∃l,Shun l/\nT b l
def RE{r:bE}:born (Xv X) r↔r=.m:=by cases r<;>simp[born,Xv]
def akU(g:Apart Shun own w)(x:X.Fd≠X.Wg)(s:X.Fd≠X.M)(p:X.M≠X.Wg)(i:own X.Fd)(j:own X.Wg)(u:own X.M)(f:∀b,γ.own b\/γ.ro b->own b/\b≠X.Fd/\b≠X.Wg/\b≠X.M)(hd:∀b,γ.own b->¬γ.ro b):Lay X (Ju Shun) (So X γ) (Xv X) w.heap.size:=by
 have k:∀b,own b->¬Ju Shun b:=λb v ⟨l,h1,h2⟩=>g.off b v l h2 h1
 have d:∀r c,(So X γ r).own c\/(So X γ r).ro c->r=.m/\(γ.own c\/γ.ro c):=λr c h=>by
  cases r with|m=>exact⟨rfl,h⟩|a=>exact h.elim False.elim False.elim|b=>exact h.elim False.elim False.elim
 refine⟨λr c h=>?_,λr h=>?_,λr=>⟨λh=>?_,λh=>?_⟩,λr q c h n=>?_,λr q c h n=>?_,λr c h=>?_,s,x,p,λc o=>?_,g.lt _ i,g.lt _ u,g.lt _ j⟩;obtain⟨rfl,h⟩:=d r c h;have⟨h1,h2,y,z⟩:=f c h;exact⟨h2,y,k c h1,g.lt c h1⟩;exact(f _ (d r _ (.inr h)).2).2.2.2 rfl;exact absurd rfl (f _ (d r _ (.inl h)).2).2.2.2;cases r<;>cases h
 rw[(d r c (.inl h)).1,(d q c (.inl n)).1];obtain⟨rfl,_⟩:=d r c (.inl h);obtain⟨rfl,_⟩:=d q c (.inr n);exact hd c h n;exact RE.2 (d r c h).1;have t:c<w.heap.size:=by have⟨l,h1,h2⟩:=o;exact g.low l c h1 h2
 exact⟨t,λe=>k _ i (e▸o),λe=>k _ u (e▸o),λe=>k _ j (e▸o)⟩
def Mo(O:Zero P Shun M t g w)(H:Apart Shun own w)(Z:X.Fd≠X.Wg)(I:X.Fd≠X.M)(B:X.M≠X.Wg)(u:own X.Fd)(N:own X.Wg)(R:own X.M)(s:∀b,γ.own b\/γ.ro b->own b/\b≠X.Fd/\b≠X.Wg/\b≠X.M)(hd:∀b,γ.own b->¬γ.ro b)(J:ShAt X w ⟨0,0,0,0⟩){o:Obj}(hM:w.heap[X.M]?=some o)(T:X.Dat (X.c0 .a) (X.c0 .b) o)(V:NoRelease (mA X) t)(K:NoRelease (wA X) t)(hm:γ.mine=X.c0 .m)(Y:∀k,aJ P true (gG X (fK .k1) γ.ro) (eG (Bq X P Post k) (at_ .k1 0) γ) γ.own g w):
  ∃n0 μ,Eb X P Post (Ju Shun) n0 μ M t:=by
 obtain⟨gs,sl,q,rfl,hg,Q,U⟩:=O.ex;have j:=O.past;have⟨ρ,F⟩:=Y (qh (Xv X) 0 15+1);have A:So X γ .m=γ:=by show({γ with mine:=X.c0 .m}:Gh Δ)=γ;rw[<-hm]
 have W:0<gs.size:=(Ψ.1 hg).1;have bl:=λr (h:born (Xv X) r)=>RE.1 h
 let C:Cf Δ:=⟨gs.size,Xv X,So X γ,λ_=>qh (Xv X) 0 15+1,λ_=>ρ,λ_=>1,λ_=>0,q,⟨0,0,0,0⟩,0,15⟩
 have mQ:∀{a:Addr},nT a.block (.cell a):=fun {a}=>.inl ⟨a,rfl,rfl⟩
 have v:∀l,Shun l->AH X (Ju Shun) l:=λl n=>by obtain⟨a,rfl⟩:=H.cell l n;exact⟨a,rfl,.inl ⟨_,n,mQ⟩⟩
 have z:∀b,own b->∀i x,touchAt t i=some x->nT b x.loc->Knows t 0 i:=λb f i x d n=>(j.known i x d n.mem).elim id λh=>absurd h.1 (H.off b f _ n)
 have y:∀r c,(So X γ r).own c\/(So X γ r).ro c->r=.m/\(γ.own c\/γ.ro c):=λr c h=>by
  cases r with|m=>exact⟨rfl,h⟩|a=>exact h.elim False.elim False.elim|b=>exact h.elim False.elim False.elim
 refine⟨gs.size,C.ms gs.size,C,gs,w,sl,rfl,rfl,⟨W,rfl,⟨Mr,by show(0:Nat)<27;omega,Mt,rfl,rfl,rfl⟩,λr h=>Nat.lt_succ_self _,J,λr h=>?_,λr h=>?_,λi g' h0 h1 E=>Q.old i g' h0 E,Q.above,λr h=>?_,λh1 h2=>⟨o,hM,T⟩,λr h=>?_,λr h=>?_,λr h=>?_,akU H Z I B u N R s hd,?_⟩,rfl⟩
 .obtain rfl:=bl r h;refine⟨g,hg,.inl ⟨by simp[C,Xv],rfl,rfl,?_⟩⟩;show iW P true (gG X (fK .k1) (So X γ .m).ro) (eG (AtR X P Post _ .m) (at_ .k1 0) (So X γ .m)) ρ (So X γ .m).own g w;rw[A];exact F
 .cases r with|m=>exact absurd (RE.2 rfl) h|a=>exact⟨rfl,rfl⟩|b=>exact⟨rfl,rfl⟩
 obtain rfl:=bl r h;exact j.hears;cases r<;>cases h
 cases r<;>cases h
 cases r<;>cases h
 refine⟨j.clean,λi x d hs=>?_,λr c D i x d f=>?_,λr i x d hr hw=>?_,λ_ i x d f=>.inl λr hr=>?_,λi x d hm=>?_,λi x d hm r hr h _=>absurd (bl r h) hr,λi g' p h0 G=>.inr (j.over i g' p h0 G),λi g' p L=>?_,V,K,j.seen⟩;obtain h|h:=j.known i x d (JH hs);exact .inr (.inr λr hr=>by obtain rfl:=bl r hr;exact h);exact .inl h.2;obtain⟨rfl,h⟩:=y r c (.inl D);exact z c (s c h).1 i x d f;obtain⟨f,h|⟨sp,h⟩⟩:=hr;obtain rfl:=bl r f;have⟨c,G,n⟩:=h;exact z c (s c (y .m c (.inr G)).2).1 i x d n;obtain rfl:=bl r f;exact z X.Fd u i x d (by rw[h];exact mQ);obtain rfl:=bl r hr;exact z X.M R i x d f;obtain h|h:=j.known i x d hm;exact .inr (.inl h);exact .inr (.inr ⟨v _ h.1,h.2⟩);have⟨S,D,e⟩:=ψ.1 p;have:=U S (mem_of_getElem? D);have e':gs.size<=g':=L;omega
end
def Joined.zero{Δ:Type}{X:Cx Δ}{Post:Gh Δ->Ω->Φ->Prop}{S0:ϒ}{t:Trace}{sl:Option (Nat×Nat)}(h:Joined X P Post S0 n0 gs w t):
  ∃g γ,Zero P (AH X S0) (crowd gs w sl) t g w/\Post γ g w:=by
 have⟨g,γ,h0,d⟩:=h.post;have⟨q,c⟩:=h.akT;exact⟨g,γ,⟨⟨gs,sl,q,rfl,h0,c,λa b=>by rw[h.size];exact h.ids a b⟩,h.past⟩,d⟩
abbrev RW:θ:=153
section
variable (W F bd bs bs' M:Nat)(dv:Θ)(fr:φ)(cs:List φ)
def sX1:Ω:=OT (de (fT3 W F bd bs bs' M dv fr cs) (fr::cs) U)
def X4:ay PP true (de (fT3 W F bd bs bs' M dv fr cs) (fr::cs) U) (sX1 W F bd bs bs' M dv fr cs):=bO λa=>ϰ
def X3:bm (sX1 W F bd bs bs' M dv fr cs)=some (.load RW (.pointer (some ⟨F,2,none⟩))):=ϰ
def SX(a:Nat):ay PP true (resume (sX1 W F bd bs bs' M dv fr cs) (.map (some a))) (de fr cs (.map (some a))):=cj 4 (cB PP true 4 (resume (sX1 W F bd bs bs' M dv fr cs) (.map (some a)))) λb=>ϰ
end
section
variable {Shun:Loc->Prop}{Stop:Unit->Ω->Φ->Prop}{g g':Ω}{w:Φ}
def IY(h:ay PP true g g')(k:aJ PP true (Sp Shun) Stop () g' w):aJ PP true (Sp Shun) Stop () g w:=lC (agb Shun) h k
def afW{t:θ}{a:Addr}{v:Θ}(h:bm g=some (.load t (.pointer (some a))))(ha:(PP.underlying t).map (λd=>match d with|.struct _|.array _ _=>true|_=>false)=some false)(l:¬Shun (.cell a))(b:w.cell? a=some v)(k:aJ PP true (Sp Shun) Stop () (resume g v) w):aJ PP true (Sp Shun) Stop () g w:=by
 have f:a.block<w.heap.size:=by
  unfold World.cell? at b;cases i:w.heap[a.block]? with|none=>rw[i]at b;simp at b|some o=>exact lt_of_some i
 refine aJ.step (dH h).1 λw₁ h1=>?_
 obtain⟨d,rfl⟩:=h1;have hr:RT (m6.load t (.pointer (some a))).sem (w.at d) (.value v) (w.at d) #[⟨.cell a,false,false⟩]:=by refine RT.fH (x:=v) ?_ (.pure _);show RT (do if<-isAgg t then Pure.pure (.agg (<-loadCells a (<-Go.sizeOf t)))else load a) _ _ _ _;refine(i7 ha).bk ?_;simp only[ab6,if_false];exact lN b
 have⟨es,e1,e2⟩:=gS (main:=true) h hr;refine⟨_,_,es,e1,⟨ε _,rfl,λe c=>?_,λe c a'=>?_⟩,?_⟩;have:=e2 e c;simp at this;subst this;refine⟨λx j hs=>?_,ϛ,ϛ,f⟩;simp[MemAct.ofEvent,MemAct.touch?]at j;subst j;exact absurd hs l;have:=e2 e c;simp at this;subst this;simp;exact(k.rely (⟨d,rfl⟩:AtRel w (w.at d)))
def ML{X:Cx jE}{S0:ϒ}{bd:Nat}{dv:Θ}{tg:ϒ}{w0:Φ}{γ:Gh jE}{s:Sh}(b:xF X tg O0 w0 bd dv fr cs γ g w)(f:ShAt X w s)(c:X.Fd≠X.Wg)(h0:¬S0 X.Fd):
  aJ PP true (Sp (AH X S0)) (λ_ g' w'=>g'=de fr cs (.map (some X.M))/\w'.heap=w.heap/\w'.output=w.output) () g w:=by
 have⟨⟨bs,bs',hg⟩,_⟩:=b;refine IY hg (IY (X4 ..) (afW (X3 ..) ϰ (v:=.map (some X.M)) ?_ ?_ (IY (SX ..) (.stop λw₁ h1=>⟨rfl,by obtain⟨d,rfl⟩:=h1;rfl,by obtain⟨d,rfl⟩:=h1;rfl⟩))));rintro⟨a,e,ha⟩;cases e;obtain ha|ha|ha:=ha;exact h0 ha;exact c ha;exact ha.2 rfl;have:=f.1;simp[World.cell?,this]
end
def zD{d:Obj}(h:Link H no own no π wL w)(hs:w.heap.size<=w'.heap.size)(hk:∀b,own b->w'.heap[b]?=w.heap[b]?)(hm:w.heap.size<=m)(v:m<w'.heap.size)(x:w'.heap[m]?=some d)(t:pY d)(s:∀r,¬lF r d)(z:∀i,¬inner d i):
  ∃dg,Link H no (λb=>own b\/b=m) no dg {wL with heap:=wL.heap.push d} w'/\(∀b,b<wL.heap.size->dg b=π b)/\dg wL.heap.size=m:=by
 let dg:Nat->Nat:=λi=>if i<wL.heap.size then π i else if i=wL.heap.size then m else w'.heap.size+i
 have e1:∀b,b<wL.heap.size->dg b=π b:=λb a=>κ a
 have e2:dg wL.heap.size=m:=by show(if _ then _ else _)=_;rw[Γ ϖ,κ rfl]
 have A:∀b,H b\/no b->b<wL.heap.size:=h.lw.low;have y:0<wL.heap.size:=h.lw.zero.1;have q:∀i,wL.heap.size<i->dg i=w'.heap.size+i:=λi p=>by show(if _ then _ else _)=_;rw[Γ ϖ,Γ ϖ]
 have l:∀i j,dg i=dg j->i=j:=λi j c=>by
  have p:=h.lt i;have C:=h.lt j;obtain k|rfl|k:=ϑ7 i wL.heap.size<;>rcases ϑ7 j wL.heap.size with g|g|g
  rw[e1 i k,e1 j g]at c;exact h.inj _ _ c;subst g;rw[e1 i k,e2]at c;have:=p k;omega;rw[e1 i k,q j g]at c;have:=p k;omega;rw[e2,e1 j g]at c;have:=C g;omega;omega;rw[e2,q j g]at c;omega;rw[q i k,e1 j g]at c;have:=C g;omega;subst g;rw[q i k,e2]at c;omega;rw[q i k,q j g]at c;omega
 have f:∀b o,(wL.heap.push d)[b]?=some o->(b<wL.heap.size/\wL.heap[b]?=some o)\/(b=wL.heap.size/\o=d):=λb o a=>by rw[am3]at a;split at a;exact .inr ⟨by assumption,(ag2 a).symm⟩;exact .inl ⟨(Ψ.1 a).1,a⟩
 have n:(wL.heap.push d).size=wL.heap.size+1:=ϛ;have u:∀r,iT H wL r->iT H {wL with heap:=wL.heap.push d} r:=λr hr=>⟨by show r<(wL.heap.push d).size;rw[n];have:=hr.1;omega,hr.2⟩
 have B:¬H wL.heap.size:=λE=>by have:=A _ (.inl E);omega
 have rn:∀b o,wL.heap[b]?=some o->¬H b->et dg o=et π o:=λb o a D=>zc λr hr=>e1 r (h.lw.Vx b o a D r hr).1
 refine⟨dg,⟨l,by rw[e1 0 y];exact h.zero,λb a=>?_,?_,?_,λb a _=>?_,λb a=>a.elim⟩,e1,e2⟩;have a:b<(wL.heap.push d).size:=a;rw[n]at a;obtain e|e:=am0 b wL.heap.size;rw[e1 b e];have:=h.lt b e;omega;rw[show b=wL.heap.size by omega,e2];exact v;refine⟨λb o a h1 h2=>?_,λb o a h1=>?_,λb o a h1=>h1.elim,λb a=>?_,λb a=>a.elim,u 0 h.lw.zero,λb o a h1 r hr=>?_⟩;obtain⟨_,a⟩|⟨_,rfl⟩:=f b o a;exact h.lw.ok b o a h1 h2;exact t;obtain⟨_,a⟩|⟨rfl,rfl⟩:=f b o a;exact h.lw.hid b o a h1;exact absurd h1 B;show b<(wL.heap.push d).size;rw[n];have:=A b a;omega;obtain⟨_,a⟩|⟨rfl,rfl⟩:=f b o a;exact u r (h.lw.Vx b o a h1 r hr);exact absurd hr (s r);refine⟨l,rfl,rfl,λb a D=>?_,λb o a h1 h2=>?_,λb o a h1=>?_,λb o a h1=>h1.elim,λb a=>?_,λb o a i p=>?_⟩;have a:b<(wL.heap.push d).size:=a;rw[n]at a;obtain e|e:=am0 b wL.heap.size;rw[e1 b e];have:=h.lt b e;omega;rw[show b=wL.heap.size by omega,e2];exact v;obtain⟨e,a⟩|⟨rfl,rfl⟩:=f b o a;have⟨F,r2⟩:=h.wr.ok b o a h1 h2;refine⟨F,?_⟩;rw[e1 b e,rn b o a h1,hk _ (h.own b ⟨e,h1⟩ id)];exact r2;refine⟨t,?_⟩;rw[e2,qK λr hr=>absurd hr (s r)];exact x;obtain⟨_,a⟩|⟨rfl,rfl⟩:=f b o a;exact h.lw.hid b o a h1;exact absurd h1 B;show b<(wL.heap.push d).size;rw[n];have:=A b a;omega;obtain⟨_,a⟩|⟨rfl,rfl⟩:=f b o a;have:=h.wr.ic b o a i p;exact⟨by show i<(wL.heap.push d).size;rw[n];have G:i<wL.heap.size:=this.1;omega,this.2⟩;exact absurd p (z i);obtain e|e:=am0 b wL.heap.size;rw[e1 b e];exact .inl (h.own b ⟨e,a.2⟩ id);have a:b<(wL.heap.push d).size:=a.1;rw[n]at a;rw[show b=wL.heap.size by omega,e2];exact .inr rfl
def Mh{H own:ϒ}{π:ϙ}{wL w w':Φ}{m:Nat}{es:Ϧ}{c:Nat}(h:Link H no own no π wL w)(hs:w.heap.size<=w'.heap.size)(hk:∀b,own b->w'.heap[b]?=w.heap[b]?)(hm:w.heap.size<=m)(g:m<w'.heap.size)(d:w'.heap[m]?=some (.map es c))(a:∀e∈es,∀r,¬Value.Has r e.key/\¬Value.Has r e.val):
  ∃dg,Link H no (λb=>own b\/b=m) no dg {wL with heap:=wL.heap.push (.map es c)} w'/\(∀b,b<wL.heap.size->dg b=π b)/\dg wL.heap.size=m:=
 zD h hs hk hm g d trivial (λr hr=>by
  cases hr with|key j f=>exact(a _ j r).1 f|val j f=>exact(a _ j r).2 f) λi k=>k
def ie.ren{bl:Nat}{x:DS}(h:ie d bl n x wL)(f:Link H no own no π wL w)(hd:iT H wL d):iT H wL bl/\ie (π d) (π bl) n x w:=by
 have⟨⟨f1,h1⟩,⟨f2,h2⟩,⟨c,t,k,l,i⟩,a,b,j,e⟩:=h;have g:iT H wL bl:=f.lw.Vx d _ h1 hd.2 bl (.cells (v:=.slice (some ⟨bl,0,Option.none⟩) n n) (by simp[jt]) (.slice rfl));refine⟨g,⟨f1,?_⟩,⟨f2,?_⟩,⟨c,t,k,?_,i⟩,a,b,j,e⟩;rw[(f.wr.ok d _ h1 hd.2 id).2];simp[et,jt,bA];rw[(f.wr.ok bl _ h2 g.2 id).2];simp only[et];rw[cP λv hv=>fZ v λr hr=>absurd hr (Cv hv r)];have:=(f.wr.ok 0 _ l f.lw.zero.2 id).2;rw[f.zero]at this;rw[this];simp only[et];rw[cP λv hv=>fZ v λr hr=>absurd hr (i v hv r)]
def GF{a b:jE}{es:Ϧ}{c:Nat}(h:Ja a b (.map es c)):∀e∈es,∀r,¬Value.Has r e.key/\¬Value.Has r e.val:=by
 have⟨i,j,f,g,h1,h2⟩:=h;cases g;intro e d r;have⟨s,hs⟩:=jA (h1.keys e (by simpa using d));have hv:=(h1.has s e.val).2 ⟨e,by simpa using d,hs,rfl⟩;rw[h2]at hv;refine⟨λhr=>by(rw[hs]at hr;cases hr),λhr=>?_⟩;unfold comb at hv;split at hv;rw[<-ag2 hv]at hr;cases hr with
 |agg hm hr=>simp only[cA,ϓ3,ac2,aj8,or_false]at hm;obtain rfl|rfl|rfl|rfl|rfl|rfl:=hm<;>cases hr
 cases hv
def aiq(x:DS)(n:Nat)(wL:Φ)(v:Θ)(w':Φ):Prop:=∃es c,v=.map (some wL.heap.size)/\(∃t d,w'=az {wL with heap:=wL.heap.push (.map es c)} t d)/\
 Ja (lh (s9 0 (aS x n)) (s9 2 (aS x n))) (lh (s9 1 (aS x n)) (s9 2 (aS x n))) (.map es c)
def Bd(v:Θ)(c:φ)(CS:Ϙ):G (Frame.enter PP 88 #[v] .normal) (c::CS)=sT0 v c CS:=by
 unfold sT0 Qm;rfl
theorem Jf{E:aB.Env}{bl:Nat}{x:DS}(hd:ie d bl n x wL):aB.CC E 88 #[.pointer (some ⟨d,0,none⟩)] (aiq x n wL) wL:=by
 intro c CS π M tr hp ha hk;obtain⟨Shun,ZN,w,hz,L,W8,ho,S⟩:=hp.ex;let I:Nat->Prop:=λq=>∃o,E.K q=some o
 have kk:∀q,I q->q<w.heap.size/\∀l,nT q l->¬Shun l:=λq ⟨o,p⟩=>⟨(Ψ.1 (S q o p).2.1).1,(S q o p).2.2⟩
 obtain⟨own,y⟩:∃own:Nat->Prop,own=λb=>ZN b\/I b:=⟨_,rfl⟩
 have A:Link E.H aB.no own aB.no π wL w:=by rw[y];exact L.wider λb g=>.inl g
 have W:Apart Shun own w:=by rw[y];exact W8.union I kk
 have Pj:∀q,I q->own q:=λq p=>by rw[y];exact .inr p
 have O:iT E.H wL d:=ha (.pointer (some ⟨d,0,none⟩)) ϛ d (.ptr rfl);obtain⟨aL,UR⟩:=hd.ren A O;have Q3:(#[Value.pointer (some ⟨d,0,none⟩)]:Array Θ).map (Value.ren π)=#[pb (π d)]:=by simp[bA,pb]
 rw[Q3,Bd]at hz;have G:∀b,xE (π d) (π bl) b->own b:=λb g=>by obtain rfl|rfl|rfl:=g;have:=A.own 0 A.lw.zero id;rwa [A.zero]at this;exact A.own d O id;exact A.own bl aL id
 obtain⟨N1,M1,t1,g1,w1,r1,a0,⟨s,⟨⟨rfl,rfl,C⟩,_,u1⟩,J⟩,o1,ar⟩:=mN hz (yd (qT (λ_=>False) Mj λ_ h=>h.elim) W);have H:∀b,own b->b<w.heap.size:=W.lt;have P:∀b,own b->w1.heap[b]?=w.heap[b]?:=λb g=>C.old b (H b g)
 have aq:ie (π d) (π bl) n x w1:=by
  have k:∀b o,xE (π d) (π bl) b->w.heap[b]?=some o->w1.heap[b]?=some o:=λb o g ac=>by rw[P b (G b g)];exact ac
  obtain⟨⟨f1,h1⟩,⟨f2,h2⟩,⟨c,t,f3,h3,h4⟩,a,b,c',e⟩:=UR;exact⟨⟨f1,k _ _ (.inr (.inl rfl)) h1⟩,⟨f2,k _ _ (.inr (.inr rfl)) h2⟩,⟨c,t,f3,k _ _ (.inl rfl) h3,h4⟩,a,b,c',e⟩
 let X:Cx jE:={Fd:=w.heap.size+2,M:=w.heap.size+1,Wg:=w.heap.size+3,tF:=NN,tW:=TWg,Dat:=Ja,fin:=λr=>match r with|.b=>lh (s9 1 (aS x n)) (s9 2 (aS x n))|_=>lh (s9 0 (aS x n)) (s9 2 (aS x n)),c0:=λ_ _=>none,N:=λ_=>108}
 let γ:Gh jE:=⟨xE (π d) (π bl),λb=>(own b\/b=w.heap.size)/\¬xE (π d) (π bl) b,λ_=>none,λ_=>none⟩
 have ol:∀b,γ.own b\/γ.ro b->own b\/b=w.heap.size:=λb g=>g.elim (·.1) λh=>.inl (G b h)
 have v:∀b,γ.own b\/γ.ro b->b<w.heap.size+1:=λb g=>(ol b g).elim (λh=>by have:=H b h;omega) λh=>ϖ
 have D:ShAt X w1 ⟨0,0,0,0⟩:=⟨C.fd,C.wg⟩
 have ao:Reads X (xE (π d) (π bl)) (ie (π d) (π bl) n x) (pb (π d)) (s9 0 (aS x n)) (s9 1 (aS x n)) (s9 2 (aS x n)) 54:=
  ⟨λro own w w' j h hr=>h.keep j hr,λro j=>sm j .a 0,λro j=>sm j .a 2,λro j=>sm j .b 1,λro j=>sm j .b 2,rfl,rfl,λ_=>rfl,λ_=>ε _⟩
 have hB:Base X γ w1:=⟨rfl,⟨by show w.heap.size+2≠w.heap.size+3;omega,λb g=>by
   have:=v b g;exact⟨by show b≠w.heap.size+2;omega,by show b≠w.heap.size+3;omega⟩⟩,λg=>by have:=v _ (.inl g);simp[X]at this,λg=>by have:=v _ (.inr g);simp[X]at this,by show w.heap.size+1≠w.heap.size+2;omega,by show w.heap.size+1≠w.heap.size+3;omega,λb g=>by
   have:=v b g;have:=C.size;omega,by show w.heap.size+1<_;have:=C.size;omega,⟨_,D⟩⟩
 have Q:∀a:Addr,w.heap.size<=a.block->NoRelease a t1:=λa a1 i hi=>by obtain⟨op,U,e⟩:=ψ.1 hi;obtain h|h:=ar op (mem_of_getElem? U);have:=hz.past.seen op h;rw[e]at this;have:a.block<w.heap.size:=this;omega;exact h a e
 have s1:w1.heap.size=w.heap.size+4:=C.size;obtain⟨n0,μ,hI⟩:=Mo (X:=X) (γ:=γ) (Post:=xF X (xE (π d) (π bl)) γ.own w1 w.heap.size (pb (π d)) c CS) a0 J (by show w.heap.size+2≠w.heap.size+3;omega) (by show w.heap.size+2≠w.heap.size+1;omega) (by show w.heap.size+1≠w.heap.size+3;omega)
  (.inr ⟨by show w.heap.size<=w.heap.size+2;omega,by show w.heap.size+2<_;omega⟩) (.inr ⟨by show w.heap.size<=w.heap.size+3;omega,by show w.heap.size+3<_;omega⟩) (.inr ⟨by show w.heap.size<=w.heap.size+1;omega,by show w.heap.size+1<_;omega⟩)
  (λb g=>by have h1:=ol b g;have h2:=v b g;exact⟨h1.imp id λe=>⟨ϖ,ϖ⟩,by show b≠w.heap.size+2;omega,by show b≠w.heap.size+3;omega,by show b≠w.heap.size+1;omega⟩)
  (λb g=>g.2) D C.map ⟨#[],0,λ_=>none,rfl,.empty 0,λ_=>rfl⟩ (Q _ (by show w.heap.size<=w.heap.size+2;omega)) (Q _ (by show w.heap.size<=w.heap.size+3;omega)) rfl
  (λk=>CG ao hB (λb g=>g) (λb g=>g) aq (.refl X _ _ w1) ⟨.inr rfl,λg=>by have:=H _ (G _ g);omega⟩ (by show w1.cell? ⟨w.heap.size,0,none⟩=_;simp[World.cell?,C.box,pb]))
 obtain⟨N2,a2,w2,am,t2,r2,hJ⟩:=KY μ M1 t1 hI;obtain⟨g2,a4,V,hP⟩:=hJ.zero (sl:=am);have z:=hP.2.2;obtain⟨s2,aW⟩:=z.live ⟨_,D⟩;obtain⟨o,zN,Y⟩:=hP.2.1;obtain⟨es,cl,f,rfl,aw,an⟩:=Y;have nS:∀b,own b\/(w.heap.size<=b/\b<w.heap.size+4)->¬Ju Shun b:=λb g ⟨l,h1,h2⟩=>J.off b g l h2 h1
 obtain⟨N3,M3,t3,g3,T,r3,aa,⟨rfl,u,u3⟩,o3,_⟩:=mN V (ML hP aW (by show w.heap.size+2≠w.heap.size+3;omega) (nS _ (.inr ⟨by show w.heap.size<=w.heap.size+2;omega,by show w.heap.size+2<_;omega⟩)));have a3:w1.heap.size<=w2.heap.size:=z.size;have dF:Ja (lh (s9 0 (aS x n)) (s9 2 (aS x n))) (lh (s9 1 (aS x n)) (s9 2 (aS x n))) (.map es cl):=⟨es,cl,f,rfl,aw,an⟩
 have WO:∀b,own b->T.heap[b]?=w.heap[b]?:=(λb g=>by
   rw[u,z.keep b (by have:=H b g;omega) (by by_cases hr:xE (π d) (π bl) b;exact .inr hr;exact .inl ⟨.inl g,hr⟩)]
   exact P b g)
 obtain⟨dg,av,ag,em⟩:=Mh (m:=w.heap.size+1) A (w':=T) (by rw[u];omega) WO ϖ (by rw[u];omega) (by rw[u];exact zN) (GF dF);have fin:=hk (.map (some wL.heap.size)) {wL with heap:=wL.heap.push (.map es cl)} dg M3 t3 ⟨wL.tape,wL.drawn,es,cl,rfl,⟨wL.tape,wL.drawn,rfl⟩,dF⟩ ?_ ?_ ag ϛ;exact E.back _ _ _ _ _ r1 (E.back _ _ _ _ _ r2 (E.back _ _ _ _ _ r3 fin));have IK:∀b,iT E.H {wL with heap:=wL.heap.push (.map es cl)} b->¬I (dg b):=λb g p=>by
  have a6:b<wL.heap.size+1:=by have:=g.1;simpa using this
  have al:=(kk _ p).1;by_cases B:b<wL.heap.size;rw[ag b B]at p;obtain⟨o',p⟩:=p;exact(S _ o' p).1 (L.own b ⟨B,g.2⟩ id);have:b=wL.heap.size:=ϖ;rw[this,em]at al;omega
 have R:Apart (AH X (Ju Shun)) (λb=>own b\/b=w.heap.size+1) T:=by
  refine⟨λb g l F K=>?_,λb g=>?_,λl b K F=>?_,λl K=>?_⟩;obtain⟨a,rfl,ha⟩:=K;have eb:=mQ F;have Z:own b\/(w.heap.size<=b/\b<w.heap.size+4):=g.imp id λe=>⟨ϖ,ϖ⟩
  have a5:b<=w.heap.size+1:=g.elim (λh=>by have:=H b h;omega) λe=>ϖ
  obtain ha|ha|ha:=ha;rw[eb]at ha;exact nS b Z ha;have:a.block=w.heap.size+3:=ha;omega;have:a.block=w.heap.size+2:=ha.1;omega;rw[u];obtain g|g:=g;have:=H b g;omega;omega;obtain⟨a,rfl,ha⟩:=K;have eb:=mQ F;rw[u];obtain ha|ha|ha:=ha;obtain⟨l',h1,h2⟩:=ha;have:=W.low l' _ h1 h2;omega;have:a.block=w.heap.size+3:=ha;omega;have:a.block=w.heap.size+2:=ha.1;omega;obtain⟨a,rfl,_⟩:=K;exact⟨a,rfl⟩
 refine⟨AH X (Ju Shun),_,T,?_,av.less I IK,R.part λb g=>g.1,?_,λq o p=>⟨λg=>g.2 ⟨o,p⟩,(WO q (Pj q ⟨o,p⟩)).trans (S q o p).2.1,λl A=>R.off q (.inl (Pj q ⟨o,p⟩)) l A⟩⟩;have e:Value.ren dg (.map (some wL.heap.size))=.map (some (w.heap.size+1)):=by simp[em]
 rw[e];exact aa;refine⟨?_,u3.trans (z.output.trans (u1.trans ho.2))⟩;rw[o3];have h1:OsLater E.os w1.os:=by rw[o1];exact ho.1
 exact h1.trans z.os;intro r hr;cases hr;exact⟨by show wL.heap.size<(wL.heap.push _).size;simp,λhh=>by have:=A.lw.low _ (.inl hh);omega⟩
end gz
end
section
open Go.Conc
open Go.ConcM (OsLater)
namespace gz
section
variable {P:aa1}{main:Bool}{b:φ}{a:Act}{k:List Item}{cs:List φ}{w w':Φ}{l:Nat}{mark:List Deferred}
def x6{l:Nat}{r:Loop}(h:w.heap[l]?=some (.loop r)):RT (Instr.getLoop l) w r w #[⟨.obj l,false,false⟩]:=RT.fH (x:=.loop r) (iN h) (.pure _)
def OK{l:Nat}{r:Loop}(h:w.heap[l]?=some (.loop r))(hr:r.state=.ready):RT (Instr.beginRound l) w () {w with heap:=w.heap.setIfInBounds l (.loop {r with state:=.busy})} #[⟨.obj l,false,false⟩,⟨.obj l,true,false⟩]:=by
 refine RT.bind (x:=r) (e1:=#[⟨.obj l,false,false⟩]) (e2:=#[⟨.obj l,true,false⟩]) (x6 h) ?_;refine RT.fH (x:=()) (kj h) ?_;rw[hr];exact .pure _
def Ti{l:Nat}{r:Loop}(h:w.heap[l]?=some (.loop r)):RT (Instr.endRound l none) w (.bool true) {w with heap:=w.heap.setIfInBounds l (.loop {r with state:=.ready,pending:=none})} #[⟨.obj l,false,false⟩,⟨.obj l,true,false⟩]:=by
 refine RT.bind (x:=r) (e1:=#[⟨.obj l,false,false⟩]) (e2:=#[⟨.obj l,true,false⟩]) (x6 h) ?_;exact RT.fH (x:=()) (kj h) (.pure _)
def Tj{l:Nat}{r:Loop}(h:w.heap[l]?=some (.loop r))(hr:r.state=.ready):RT (Instr.endLoop l) w r.pending {w with heap:=w.heap.setIfInBounds l (.loop {r with state:=.exhausted})} #[⟨.obj l,false,false⟩,⟨.obj l,true,false⟩]:=by
 refine RT.bind (x:=r) (e1:=#[⟨.obj l,false,false⟩]) (e2:=#[⟨.obj l,true,false⟩]) (x6 h) ?_;have a:(r.state==LoopState.busy)=false:=by rw[hr];rfl
 rw[a];exact RT.fH (x:=()) (kj h) (.pure _)
def Tf(h:w.heap[D]?=some (.deferred (some []))):RT (Instr.takeDeferred D) w [] {w with heap:=w.heap.setIfInBounds D (.deferred none)} #[⟨.obj D,false,false⟩,⟨.obj D,true,false⟩]:=by
 refine RT.bind (x:=.deferred (some [])) (e1:=#[⟨.obj D,false,false⟩]) (e2:=#[⟨.obj D,true,false⟩]) (iN h) ?_;exact RT.fH (x:=()) (kj h) (.pure _)
def OI{l:Nat}{r:Loop}(h:w.heap[l]?=some (.loop r))(hs:args.size=r.params.size):
  RT (Instr.yield l args) w (.round l r.fn ((r.params.zip args).foldl (λb (t,a)=>b.setIfInBounds t a) r.tmps) r.assign r.body) w #[⟨.obj l,false,false⟩]:=by
 refine RT.fH (x:=r) (x6 h) ?_;rw[Γ (by simpa using hs)];exact .pure _
theorem C8(fn:ac5)(tmps:ϐ)(ps:Array Tmp)(assign body:Code):
  RT (Instr.enterLoop fn tmps ps assign body none) w (w.heap.size+1,[{target:=.collected w.heap.size,args:=#[]}])
   {w with heap:=(w.heap.push (.deferred (some []))).push (.loop {state:=.ready,pending:=none,fn,tmps,params:=ps,assign,body,defers:=w.heap.size})} #[]:=by
 have h2:=qE (w:={w with heap:=w.heap.push (.deferred (some []))}) (.loop {state:=.ready,pending:=none,fn,tmps,params:=ps,assign,body,defers:=w.heap.size});have e:(w.heap.push (.deferred (some []))).size=w.heap.size+1:=ϛ;rw[e]at h2;exact RT.bk (x:=w.heap.size) (qE _) (RT.bk (x:=(w.heap.size,[({target:=.collected w.heap.size,args:=#[]}:Deferred)])) (.pure _) (RT.bk h2 (.pure _)))
def ye:(CallKind.normal==CallKind.early)=false:=rfl
def ifT{α:Type}(a b:α):(if(true=true)then a else b)=a:=κ rfl
section
variable {fr:φ}{s:Sem Next}{ev:Array Event}{listen:Bool}
def G2{f:ac5}(h:RT s w (.enter f args) w' ev)(hk:fr.kind=.normal)(a:∀d r x k,fr.todo≠.call d true r x::k):
  stepG.apply PP true fr cs none s w=.go (G (Frame.enter PP f args .normal) (fr::cs)) w' (seen PP fr.fn ev):=by
 have h1:=h #[];rw[an0]at h1;unfold stepG.apply;simp only[ifT,h1,hk,ye];have:(match fr.todo with|.call _ true _ _::_=>CallKind.wrapped|_=>.normal)=.normal:=by split;exact absurd (by assumption) (a _ _ _ _);rfl
 simp[GStep.after,G]
def rI(h:RT s w (.value v) w' ev)(hk:fr.kind=.normal):stepG.apply PP true fr cs none s w=.go (G (fr.finish v) cs) w' (seen PP fr.fn ev):=by
 have h1:=h #[];rw[an0]at h1;unfold stepG.apply;simp only[ifT,h1,hk,ye];simp[GStep.after,G]
def Ar(h:RT s w .skip w' ev)(hk:fr.kind=.normal):stepG.apply PP true fr cs none s w=.go (G (fr.finish ϗ) cs) w' (seen PP fr.fn ev):=by
 have h1:=h #[];rw[an0]at h1;unfold stepG.apply;simp only[ifT,h1,hk,ye];simp[GStep.after,G]
def G1{f:ac5}{yo body:Code}(h:RT s w (.round l f tm yo body) w' ev)(hk:fr.kind=.normal):stepG.apply PP true fr cs none s w=.go (G (Frame.round l f tm yo body .normal) (fr::cs)) w' (seen PP fr.fn ev):=by
 have h1:=h #[];rw[an0]at h1;unfold stepG.apply;simp only[ifT,h1,hk,ye];simp[GStep.after,G]
end
def AN {g:ac4}{e:Array Tmp}{yo body:Code}{gf:Nat}{fn:Func}(hg:a.eval g= .func (.func gf) #[] lb)(hf:PP.funcs[gf]? =some fn)(j:fn.body.isNone=false)(f:(fn.name== "runtime.NumGoroutine")=false)(hk:b.kind= .normal)(h:RT (Instr.enterLoop b.fn a.tmps e yo body none) w (l,mark) w' #[]):
  stepG PP main (G (b.at a (.code (.rangeFunc g e yo body)::k)) cs) w=.go (G (Frame.enter PP gf (#[.func (.yield l) #[] #[]]++lb) .normal) (b.at {a with defers:=mark++a.defers} (.inRangeFunc l::k)::cs)) w' #[]:=by
 have h1:=h #[];have c:Frame.eval {fn:=b.fn,tmps:=a.tmps,todo:=.inRangeFunc l::k,defers:=mark++a.defers,mode:=.run,kind:=b.kind} g=.func (.func gf) #[] lb:=by rw[<-hg];cases g<;>rfl
 have h2:RT (callFunc gf (#[.func (.yield l) #[] #[]]++lb)) w' (.enter gf (#[.func (.yield l) #[] #[]]++lb)) w' #[]:=by refine iz.bk ?_;rw[hf];simp only[f,j];exact .pure _
 have m:RT (do let d <-resolve (Frame.eval {fn:=b.fn,tmps:=a.tmps,todo:=.inRangeFunc l::k,defers:=mark++a.defers,mode:=.run,kind:=b.kind}) {callee:=.value g,args:=#[.const (.func (.yield l) #[] #[])],argTypes:=#[]} 0;invoke d.target d.args) w' (.enter gf (#[.func (.yield l) #[] #[]]++lb)) w' #[]:=by refine RT.bk (x:={target:=.fn (.func gf) lb,args:=#[.func (.yield l) #[] #[]]}) ?_ (show RT (invoke (.fn (.func gf) lb) #[.func (.yield l) #[] #[]]) _ _ _ _ from h2);unfold resolve;simp only[ϐ8,ϴ,ϓ7,c];exact .pure _
 rw[am5]at h1;unfold stepG stepG.exec;simp only[G,Frame.at];rw[h1];dsimp only;have i:=G2 (cs:=cs) (fr:={fn:=b.fn,tmps:=a.tmps,todo:=.inRangeFunc l::k,defers:=mark++a.defers,mode:=.run,kind:=b.kind}) m hk ϛ;rw[i];simp[seen_none,GStep.after,G]
section
variable {fr:φ}{ev:Array Event}{c:φ}
def stepG_op{o:Oper}(hm:fr.mode=.run)(b:fr.todo=.inRegion ops (i::rest)::k)(d:ops[i]?=some o)(e:wanted o (yielded ops fr.tmps)=true)(a:∀c,o.op≠.defer c):
  stepG PP main (G fr cs) w=stepG.apply PP true fr cs none (execOp fr.eval o) w:=by
 have h1:fr.oper?=some o:=by simp[Frame.oper?,b,d]
 unfold stepG stepG.exec;simp only[G,hm,b,d,ι,e,Option.getD_some,if_true];unfold stepG.oper;rw[h1];dsimp only;split;exact absurd (by assumption) (a _);rfl
def EB(hm:fr.mode=.run)(a:fr.todo=.beginRound::k)(hr:fr.roundOf=some l)(hk:fr.kind=.normal)(h:RT (Instr.beginRound l) w () w' ev):
  stepG PP main (G fr cs) w=.go (G (fr.finish ϗ) cs) w' (seen PP fr.fn ev):=by
 unfold stepG stepG.exec;simp only[G,hm,a,hr,Option.elim_some];exact Ar (RT.fH h (.pure _)) hk
def Hl(hm:fr.mode=.run)(a:fr.todo=[])(hr:fr.roundOf=some l)(hk:fr.kind=.normal)(h:RT (Instr.endRound l none) w (.bool true) w' ev):
  stepG PP main (G fr (c::cs)) w=.go (G (c.finish (.bool true)) cs) w' (seen PP fr.fn ev):=by
 have h1:=h #[];rw[an0]at h1;unfold stepG stepG.exec;simp only[G,hm,a,hr,h1,doReturn,hk,GStep.after];simp
def Hm(hm:fr.mode=.run)(a:fr.todo=.endRangeFunc l::k)(h:RT (Instr.endLoop l) w none w' ev):
  stepG PP main (G fr cs) w=.go (G {fr with todo:=k} cs) w' (seen PP fr.fn ev):=by
 have h1:=h #[];rw[an0]at h1;unfold stepG stepG.exec;simp only[G,hm,a,h1,GStep.after];simp
def Hk{b a:List Deferred}(hm:fr.mode=.returning)(hd:fr.defers={target:=.collected D,args:=ar}::b)(h:RT (Instr.takeDeferred D) w a w' ev):
  stepG PP main (G fr cs) w=.go (G {fr with defers:=a++b} cs) w' (seen PP fr.fn ev):=by
 have h1:=h #[];rw[an0]at h1;unfold stepG unwind;simp only[G,hm,hd,h1,GStep.after];simp
end
end
abbrev lj:θ:=9
abbrev nR:θ:=45
def Es:PP.underlying nR=some (.slice lj):=ϰ
def DF:(PP.info? lj).map (·.size)=some 1:=ϰ
def Jy:(PP.info? lj).bind (·.zero)=some (.string ⟨#[]⟩):=ϰ
def Ke:TypeInfo:=(PP.info? lj).getD default
def zL:PP.info? lj=some Ke:=ϰ
def xn:Ke.bytes=16:=ϰ
section
variable {w:Φ}{k:Ξ}
def E7:RT (Instr.buildSlice nR 1 #[(0,.string k)]) w (.slice (some ⟨w.heap.size,0,none⟩) 1 1) {w with heap:=w.heap.push (.cells #[.string k] lj (0,0))} #[]:=by
 unfold Instr.buildSlice;refine(iw Es).bk ?_;dsimp only;refine(rO DF).bk ?_;simp only[Nat.reduceMul,Nat.reducePow,Nat.reduceGT,if_false,Nat.reduceEqDiff,Nat.one_ne_zero];refine(x5 Jy).bk (RT.bk (x:=#[.string ⟨#[]⟩]) (.pure _) ?_);have a:Instr.fill (λi=>some (i*1,1)) ((Array.range 1).map λx=>(#[(.string ⟨#[]⟩:Θ)]:Array Θ)[x%(#[(.string ⟨#[]⟩:Θ)]:Array Θ).size]!) [(0,.string k)]=some #[.string k]:=by
  have e:(Array.map (λx=>(#[(.string ⟨#[]⟩:Θ)]:Array Θ)[x%(#[(.string ⟨#[]⟩:Θ)]:Array Θ).size]!) (Array.range 1))=#[.string ⟨#[]⟩]:=by rw[show Array.range 1=#[0]from Array.ext ϛ λi h1 h2=>by simp at h1;subst h1;simp];simp
  rw[e];simp[Instr.fill,Value.cells]
 rw[a];exact RT.bk (x:=⟨w.heap.size,0,none⟩) (RT.bk (qE _) (.pure _)) (.pure _)
def Strs(w:Φ)(own:ϒ)(v:Θ)(ks:List Ξ):Prop:=
 (v=.slice none 0 0/\ks=[])\/∃sk cap,v=.slice (some ⟨sk,0,none⟩) ks.length cap/\own sk/\ks.length<=cap/\w.heap[sk]?=some (.cells (ks.map Value.string++replicate (cap-ks.length) (Value.string ⟨#[]⟩)).toArray lj (0,0))
structure App (own:Nat->Prop)(ks:List Ξ)(w:Φ)(v:Θ)(w':Φ)(ev:Array Event):Prop where
 tape:w'.tape=w.tape
 output:w'.output=w.output
 os:w'.os=w.os
 size:w.heap.size<=w'.heap.size
 keep:∀b,b<w.heap.size->¬own b->w'.heap[b]?=w.heap[b]?
 strs:Strs w' (λb=>own b\/(w.heap.size<=b/\b<w'.heap.size)) v ks
 ev:∀e∈ev,(∃b,own b/\EvB b e)\/∃m,e.loc=.mark m/\qR m
def Hx(cs:ϐ)(v:Θ)(i:Nat):bK cs [v] i=cs.setIfInBounds i v:=rfl
def wV{f:Nat×Nat}(h:w.heap[b]?=some (.cells #[.string k] lj f)):∃ev,RT (Builtin.firstCells 1 1 (.slice (some ⟨b,0,none⟩) 1 1)) w #[.string k] w ev/\∀e∈ev,EvB b e:=by
 have⟨ev,h1,h2⟩:=lL h 0 1 0 #[] ϛ;refine⟨ev,?_,λe c=>?_⟩;have e1:(#[]:Array Θ)++(#[Value.string k]:Array Θ).extract (0+0) (0+0+1)=#[.string k]:=ϛ;rw[e1]at h1;exact h1;obtain⟨a,rfl,ha⟩:=h2 e c;exact jW ha
def E6{cap:Nat}{cs:ϐ}{f:Nat×Nat}(h:w.heap[b]?=some (.cells cs lj f))(d:n<=cs.size):∃ev,RT (Builtin.firstCells 1 n (.slice (some ⟨b,0,none⟩) n cap)) w (cs.extract 0 n) w ev/\∀e∈ev,EvB b e:=by
 have⟨ev,h1,h2⟩:=lL h 0 n 0 #[] ϖ;refine⟨ev,?_,λe c=>?_⟩;have e1:(#[]:Array Θ)++cs.extract (0+0) (0+0+n)=cs.extract 0 n:=ϛ;rw[e1]at h1;show RT (loadCells ⟨b,0,none⟩ (n*1)) _ _ _ _;rw[Nat.mul_one];exact h1;obtain⟨a,rfl,ha⟩:=h2 e c;exact jW ha
def JP{a:Ϣ}{c:Nat}:RT (Builtin.lenOf (.slice a n c)) w n w #[]:=.pure _
def Nq{base:Ϣ}{cap:Nat}{sv:Θ}{ev:Ϛ}(b:n+1<=cap)(h:RT (do
    let new <-Builtin.firstCells 1 1 (.slice (some ⟨xb,0,none⟩) 1 1)
    if let some a:=base then storeCells (a.add (n*1)) new.toList
    pure (.slice base (n+1) cap)) w sv w' ev):
  RT (Builtin.append_ #[nR,nR] ty #[.slice base n cap,.slice (some ⟨xb,0,none⟩) 1 1]) w sv w' ev:=by
 unfold Builtin.append_;show RT (underlying nR>>=_) _ _ _ _;refine(iw Es).bk ?_;dsimp only;refine(rO DF).bk ?_;show RT (underlying nR>>=_) _ _ _ _;refine(iw Es).bk ?_;refine RT.bk (x:=false) (.pure _) ?_;simp only[ab6,if_false,Bool.not_false,if_true];refine JP.bk ?_;rw[κ b];exact h
def Jq{base:Ϣ}{n cap xb:Nat}{ty:θ}{sv:Θ}{w':Φ}{ev:Ϛ}(i:¬n+1<=cap)(k:n<2^40)(f:cap<=n)(h:RT (do
    let a <-choose (.appendCap (n+1) cap lj)
    askRoom (a*(<-typeInfo lj).bytes)
    let d <-Builtin.firstCells 1 n (.slice base n cap);let new <-Builtin.firstCells 1 1 (.slice (some ⟨xb,0,none⟩) 1 1);let rest:=Builtin.zeroCells (<-zeroValue lj).cells (a-(n+1))
    pure (.slice (some (<-newRow lj (d++new++rest))) (n+1) a)) w sv w' ev):
  RT (Builtin.append_ #[nR,nR] ty #[.slice base n cap,.slice (some ⟨xb,0,none⟩) 1 1]) w sv w' ev:=by
 unfold Builtin.append_;show RT (underlying nR>>=_) _ _ _ _;refine(iw Es).bk ?_;dsimp only;refine(rO DF).bk ?_;show RT (underlying nR>>=_) _ _ _ _;refine(iw Es).bk ?_;refine RT.bk (x:=false) (.pure _) ?_;simp only[ab6,if_false,Bool.not_false,if_true,false_or];refine JP.bk ?_;rw[Γ i];refine(uz zL).bk ?_;have e:Builtin.nextslicecap (n+1) cap*Ke.bytes<=2^48:=by
  rw[xn];unfold Builtin.nextslicecap;have g:∀(r c:Nat),c<=2^41->Builtin.growBy (n+1) r c<=2^42:=by
   intro r;induction r with|zero=>intro c b;unfold Builtin.growBy;omega|succ r j=>intro c b;unfold Builtin.growBy;split;omega;refine j _ ?_;omega
  split;omega;split;omega;have:=g 4 cap ϖ;omega
 rw[Γ (by rw[xn];omega)];refine(uz zL).bk ?_;rw[Γ ϖ];exact h
def set_mid{α:Type}(A:List α)(b c:α)(B:List α):(A++b::B).set A.length c=A++c::B:=by
 induction A with|nil=>rfl|cons x A a=>simp[a]
def AJ(m:Nat):Builtin.zeroCells #[.string ⟨#[]⟩] m=Array.replicate m (Value.string ⟨#[]⟩):=by
 unfold Builtin.zeroCells;apply Array.ext;simp;intro i h1 h2;simp[Nat.mod_one]
theorem Lw{s:Θ}{f:Nat×Nat}(ty:θ)(hs:Strs w own s ks)(p:w.heap[xb]?=some (.cells #[.string k] lj f))(E:own xb)(F:ks.length<2^40):
  ∃v w' ev,RT (Builtin.append_ #[nR,nR] ty #[s,.slice (some ⟨xb,0,none⟩) 1 1]) w v w' ev/\App own (ks++[k]) w v w' ev:=by
 have grow:∀{base:Ϣ}{cap:Nat}{ev0:Ϛ},¬ks.length+1<=cap->cap<=ks.length->(∀w1,w1.heap=w.heap->∃ev0,RT (Builtin.firstCells 1 ks.length (.slice base ks.length cap)) w1 (ks.map Value.string).toArray w1 ev0/\∀e∈ev0,∃b,own b/\EvB b e)->
   ∃v w' ev,RT (Builtin.append_ #[nR,nR] ty #[.slice base ks.length cap,.slice (some ⟨xb,0,none⟩) 1 1]) w v w' ev/\App own (ks++[k]) w v w' ev:=by
  intro base cap ev0 h d hold;obtain⟨c0,w1,C,H,G,s1,h1,j⟩:=rQ (w:=w) (q:=.appendCap (ks.length+1) cap lj);have A:ks.length+1<=c0:=by obtain⟨hf,_⟩|⟨x,rfl⟩:=j;simp[Question.forced]at hf;simp[Question.cut]
  obtain⟨z,I,e1⟩:=hold w1 h1;obtain⟨g,r2,e2⟩:=wV (w:=w1) (by rw[h1];exact p);have i:∃ev,RT (askRoom (c0*Ke.bytes)) w1 () w1 ev/\∀e∈ev,∃m,e.loc=.mark m/\qR m:=by unfold askRoom;split;exact⟨#[⟨.mark .noRoom,false,true⟩],λes=>by show(Result.ok () w1,es.push _)=_;simp,λe c=>by simp at c;subst c;exact⟨_,rfl,trivial⟩⟩;exact⟨#[],.pure _,ϛ⟩
  obtain⟨B,r3,D⟩:=i;have l:=qE (w:=w1) (.cells ((ks.map Value.string).toArray++#[.string k]++Array.replicate (c0-(ks.length+1)) (Value.string ⟨#[]⟩)) lj (0,0));refine⟨.slice (some ⟨w1.heap.size,0,none⟩) (ks.length+1) c0,{w1 with heap:=w1.heap.push (.cells ((ks.map Value.string).toArray++#[.string k]++Array.replicate (c0-(ks.length+1)) (Value.string ⟨#[]⟩)) lj (0,0))},B++(z++g),Jq h F d ?_,?_⟩;refine C.bk ((uz zL).bk (r3.bind (I.bind ?_)));refine RT.fH (x:=#[.string k]) r2 ?_;refine(x5 Jy).bk ?_;show RT (newRow lj ((ks.map Value.string).toArray++#[.string k]++Builtin.zeroCells #[.string ⟨#[]⟩] (c0-(ks.length+1)))>>=_) _ _ _ _;rw[AJ];exact RT.bk (x:=⟨w1.heap.size,0,none⟩) (RT.bk l (.pure _)) (.pure _);refine⟨H,G,s1,by show w.heap.size<=(w1.heap.push _).size;rw[h1];simp,λb o _=>by show(w1.heap.push _)[b]?=_;rw[h1,ac6 o];exact(τ o).symm,.inr ⟨w1.heap.size,c0,ϛ,.inr ⟨by rw[h1];exact ε _,by show _<(w1.heap.push _).size;simp⟩,by simpa using A,?_⟩,λe c=>?_⟩;show(w1.heap.push _)[w1.heap.size]?=_;simp;obtain c|c:=ai1.1 c;exact .inr (D e c);obtain c|c:=ai1.1 c;exact .inl (e1 e c);exact .inl ⟨xb,E,e2 e c⟩
 obtain⟨rfl,rfl⟩|⟨sk,cap,rfl,osk,hle,hsk⟩:=hs;exact grow (base:=none) (cap:=0) (ev0:=#[]) ϛ ϛ λw1 _=>⟨#[],.pure _,ϛ⟩
 by_cases h:ks.length+1<=cap;obtain⟨g,r2,e2⟩:=wV p;obtain⟨w',ev,r3,u,D⟩:=oa (ks.length*1) [.string k] 0 hsk (by simp;omega) (by simp[ni]);refine⟨.slice (some ⟨sk,0,none⟩) (ks.length+1) cap,w',g++ev,Nq h (r2.bind ?_),?_⟩;show RT (storeCells (Addr.add ⟨sk,0,none⟩ (ks.length*1)) [.string k]>>=_) _ _ _ _;rw[Aw,Nat.zero_add];exact RT.fH (x:=()) r3 (.pure _);refine⟨u.tape,u.output,u.os,by rw[u.size];exact ε _,λb _ o=>u.rest b λe=>o (e▸osk),.inr ⟨sk,cap,ϛ,.inl osk,by simpa using h,?_⟩,λe c=>?_⟩;rw[u.at_,Hx];congr 2;apply Array.ext';simp only[Nat.mul_one,Nat.add_zero,List.setIfInBounds_toArray];obtain⟨m,hm⟩:∃m,cap-ks.length=m+1:=⟨cap-ks.length-1,ϖ⟩
 have y:cap-(ks++[k]).length=m:=by simp;omega
 rw[hm,y,List.replicate_succ];have:=set_mid (ks.map Value.string) (Value.string ⟨#[]⟩) (Value.string k) (List.replicate m (Value.string ⟨#[]⟩));rw[af2]at this;rw[this];simp;obtain c|c:=ai1.1 c;exact .inl ⟨xb,E,e2 e c⟩;obtain⟨a,rfl,ha⟩:=D e c;exact .inl ⟨sk,osk,jW ha⟩;have d:cap=ks.length:=ϖ;refine grow (base:=some ⟨sk,0,none⟩) (cap:=cap) (ev0:=#[]) h ϖ λw1 t=>?_
 obtain⟨ev,r,e⟩:=E6 (w:=w1) (n:=ks.length) (cap:=cap) (by rw[t];exact hsk) ϛ;refine⟨ev,?_,λx p=>⟨sk,osk,e x p⟩⟩;have:((ks.map Value.string++List.replicate (cap-ks.length) (Value.string ⟨#[]⟩)).toArray).extract 0 ks.length=(ks.map Value.string).toArray:=by apply Array.ext';rw[d];simp[List.extract_eq_drop_take,ν]
 rw[this]at r;exact r
end
namespace Sq
abbrev Gu:Nat:=178
abbrev Xf:Nat:=135
def cN(tm:ϐ)(yo body:Code)(st:LoopState)(D:Nat):Loop:={state:=st,pending:=none,fn:=Gu,tmps:=tm,params:=#[7],assign:=yo,body:=body,defers:=D}
section
variable {tm:Array Θ}{yo body:Code}{D l:Nat}{w:Φ}{st:LoopState}
def KL(h:w.heap[l]?=some (.loop (cN tm yo body st D))):RT (Instr.yield l #[x]) w (.round l Gu (tm.setIfInBounds 7 x) yo body) w #[⟨.obj l,false,false⟩]:=by
 have:=OI (args:=#[x]) h rfl;simpa[cN] using this
def Nn(h:w.heap[l]?=some (.loop (cN tm yo body .ready D))):RT (Instr.beginRound l) w () {w with heap:=w.heap.setIfInBounds l (.loop (cN tm yo body .busy D))} #[⟨.obj l,false,false⟩,⟨.obj l,true,false⟩]:=OK h rfl
def QY(h:w.heap[l]?=some (.loop (cN tm yo body .busy D))):RT (Instr.endRound l none) w (.bool true) {w with heap:=w.heap.setIfInBounds l (.loop (cN tm yo body .ready D))} #[⟨.obj l,false,false⟩,⟨.obj l,true,false⟩]:=Ti h
def QZ(h:w.heap[l]?=some (.loop (cN tm yo body .ready D))):RT (Instr.endLoop l) w none {w with heap:=w.heap.setIfInBounds l (.loop (cN tm yo body .exhausted D))} #[⟨.obj l,false,false⟩,⟨.obj l,true,false⟩]:=Tj h rfl
def MQ(tm:ϐ)(yo body:Code):RT (Instr.enterLoop Gu tm #[7] yo body none) w (w.heap.size+1,[{target:=.collected w.heap.size,args:=#[]}]) {w with heap:=(w.heap.push (.deferred (some []))).push (.loop (cN tm yo body .ready w.heap.size))} #[]:=C8 Gu tm #[7] yo body
end
def Jh(bx:Nat):Θ:=.func (.func Xf) #[] #[pb bx]
section
variable (bx bS M it D l:Nat)(k:Ξ)(v:Θ)(fr:φ)(cs:List φ)(y:Nat->Θ)
def sQ0:Ω:=Qm Gu #[.slice none 0 0,Jh bx] 11 fr cs
def Ls:Ω:=OT (sQ0 bx fr cs)
def HV:ay PP true (sQ0 bx fr cs) (Ls bx fr cs):=bO λa=>ϰ
def Yv:bm (Ls bx fr cs)=some (.box nR (.slice none 0 0)):=ϰ
def Yu:Ω:=OT (resume (Ls bx fr cs) (pb bS))
def Yt:ay PP true (resume (Ls bx fr cs) (pb bS)) (Yu bx bS fr cs):=bO λa=>ϰ
def RL:Code:=match(Yu 0 0 default []).frame.todo with|.code (.rangeFunc _ _ a _)::_=>a|_=>.skip
def Nm:Code:=match(Yu 0 0 default []).frame.todo with|.code (.rangeFunc _ _ _ b)::_=>b|_=>.skip
def JQ:List Item:=(Yu 0 0 default []).frame.todo.tail
def tmS:Array Θ:=(Yu bx bS default []).frame.tmps
def Ys:Yu bx bS fr cs=G ((base Gu).at ⟨tmS bx bS,[]⟩ (.code (.rangeFunc (.tmp 6) #[7] RL Nm)::JQ)) (fr::cs):=ϰ
def SC:(⟨tmS bx bS,[]⟩:Act).eval (.tmp 6)=.func (.func Xf) #[] #[pb bx]:=ϰ
def oe(st:LoopState)(bx bS D:Nat):Loop:=cN (tmS bx bS) RL Nm st D
def Kt:φ:=(base Gu).at ⟨tmS bx bS,[{target:=.collected D,args:=#[]}]⟩ (.inRangeFunc l::JQ)
def sK0:Ω:=G (Frame.enter PP Xf #[.func (.yield l) #[] #[],pb bx] .normal) (Kt bx bS D l::fr::cs)
def sK1:Ω:=OT (sK0 bx bS D l fr cs)
def YK:ay PP true (sK0 bx bS D l fr cs) (sK1 bx bS D l fr cs):=bO λa=>ϰ
def Oy:bm (sK1 bx bS D l fr cs)=some (.load RW (pb bx)):=ϰ
def YJ:Ω:=OT (resume (sK1 bx bS D l fr cs) (.map (some M)))
def YI:ay PP true (resume (sK1 bx bS D l fr cs) (.map (some M))) (YJ bx bS M D l fr cs):=bO λa=>ϰ
def Ox:bm (YJ bx bS M D l fr cs)=some (.range RW (.map (some M))):=ϰ
end
def aee:List Item:=(OT (resume (YJ 0 0 0 0 0 default []) (pb 0))).frame.todo
def gK(tm:ϐ)(F1:φ)(cs1:Ϙ):Ω:=G ((base Xf).at ⟨tm,[]⟩ aee) (F1::cs1)
structure HK (l it:Nat)(tm:Array Θ):Prop where
 size:tm.size=14
 s0:tm[0]?=some (.func (.yield l) #[] #[])
 s5:tm[5]?=some (pb it)
section
variable (bx bS M it D l xb:Nat)(k:Ξ)(v sv nv:Θ)(fr F1:φ)(cs cs1:List φ)(y:Nat->Θ)
def tmK:Array Θ:=#[.func (.yield l) #[] #[],y 1,y 2,y 3,y 4,pb it,y 6,y 7,y 8,y 9,y 10,y 11,y 12,y 13]
def HK.eq{l it:Nat}(h:HK l it tm):tm=tmK it l λi=>tm.getD i ϗ:=by
 have h1:=slots tm h.size;simp only[rl]at h1;rw[cI h.s0,cI h.s5]at h1;exact h1
def YH:∃tm,HK l it tm/\ay PP true (resume (YJ bx bS M D l fr cs) (pb it)) (gK tm (Kt bx bS D l) (fr::cs)):=
 ⟨(OT (resume (YJ bx bS M D l fr cs) (pb it))).frame.tmps,⟨ϰ,ϰ,ϰ⟩,cj 200 (cB PP true 200 (resume (YJ bx bS M D l fr cs) (pb it))) λa=>ϰ⟩
abbrev kl:Ω:=gK (tmK it l y) F1 cs1
def nxK:θ:=match bm (kl 0 0 default [] λ_=>ϗ)with|some (.next _ _ t)=>t|_=>0
def af4:bm (kl it l F1 cs1 y)=some (.next (pb it) false nxK):=ϰ
def kA:Ω:=OT (resume (kl it l F1 cs1 y) (.tuple #[.bool true,.string k,v]))
def af7:ay PP true (resume (kl it l F1 cs1 y) (.tuple #[.bool true,.string k,v])) (kA it l k v F1 cs1 y):=bO λa=>ϰ
def af6:bm (kA it l k v F1 cs1 y)=some (.entry (pb it)):=ϰ
def FB:φ:=(OT (resume (kA it l k v default [] y) (.tuple #[.string k,v]))).frame
def af5:ay PP true (resume (kA it l k v F1 cs1 y) (.tuple #[.string k,v])) (G (FB it l k v y) (F1::cs1)):=cj 200 (cB PP true 200 (resume (kA it l k v F1 cs1 y) (.tuple #[.string k,v]))) λa=>ϰ
def Wb:∃tm,HK l it tm/\ay PP true (G ((FB it l k v y).finish (.bool true)) (F1::cs1)) (gK tm F1 cs1):=
 ⟨(OT (G ((FB it l k v y).finish (.bool true)) (F1::cs1))).frame.tmps,⟨ϰ,ϰ,ϰ⟩,cj 200 (cB PP true 200 (G ((FB it l k v y).finish (.bool true)) (F1::cs1))) λa=>ϰ⟩
end
section
variable (bx bS M it D l xb:Nat)(k:Ξ)(v sv nv:Θ)(fr F1:φ)(cs cs1:List φ)(y:Nat->Θ)
def Ut:ay PP true (resume (kl it l F1 cs1 y) (.tuple #[.bool false])) (de F1 cs1 U):=cj 7 (cB PP true 7 (resume (kl it l F1 cs1 y) (.tuple #[.bool false]))) λa=>ϰ
def TK:Array Oper:=match(FB 0 0 ⟨#[]⟩ ϗ λ_=>ϗ).todo with|.inRegion ops _::_=>ops|_=>#[]
def iB:Nat:=match(FB 0 0 ⟨#[]⟩ ϗ λ_=>ϗ).todo with|.inRegion _ (i::_)::_=>i|_=>0
def rB:List Nat:=match(FB 0 0 ⟨#[]⟩ ϗ λ_=>ϗ).todo with|.inRegion _ (_::r)::_=>r|_=>[]
def kB:List Item:=(FB 0 0 ⟨#[]⟩ ϗ λ_=>ϗ).todo.tail
def oY:Oper:=(TK[iB]?).getD default
def V9:(FB it l k v y).mode=.run:=ϰ
def Wa:(FB it l k v y).kind=.normal:=ϰ
def V8:(FB it l k v y).todo=.inRegion TK (iB::rB)::kB:=ϰ
def afD:TK[iB]?=some oY:=ϰ
def TR:wanted oY (yielded TK (FB it l k v y).tmps)=true:=ϰ
def WA:oY.op=.call {callee:=.value (.tmp 10),args:=#[.tmp 11],argTypes:=#[9]}:=ϰ
def aiy:(FB it l k v y).eval (.tmp 10)=.func (.yield l) #[] #[]:=ϰ
def aix:(FB it l k v y).eval (.tmp 11)=.string k:=ϰ
def Wn:Array Θ:=(tmS bx bS).setIfInBounds 7 (.string k)
def gR0:Ω:=G (Frame.round l Gu (Wn bx bS k) RL Nm .normal) (F1::cs1)
def Sj:φ:=(OT (gR0 bx bS l k default [])).frame
def abL:ay PP true (gR0 bx bS l k F1 cs1) (G (Sj bx bS l k) (F1::cs1)):=cj 200 (cB PP true 200 (gR0 bx bS l k F1 cs1)) λa=>ϰ
def QQ:(Sj bx bS l k).mode=.run:=ϰ
def QR:(Sj bx bS l k).kind=.normal:=ϰ
def QP:(Sj bx bS l k).todo=.beginRound::[.code Nm]:=ϰ
def MJ:(Sj bx bS l k).roundOf=some l:=ϰ
end
section
variable (bx bS M it D l xb:Nat)(k:Ξ)(v sv nv:Θ)(fr F1:φ)(cs cs1:List φ)(y:Nat->Θ)
def Gt:φ:=(OT (G ((Sj bx bS l k).finish undef) (default::[]))).frame
def acj:ay PP true (G ((Sj bx bS l k).finish ϗ) (F1::cs1)) (G (Gt bx bS l k) (F1::cs1)):=cj 200 (cB PP true 200 (G ((Sj bx bS l k).finish ϗ) (F1::cs1))) λa=>ϰ
def TP:Array Oper:=match(Gt 0 0 0 ⟨#[]⟩).todo with|.inRegion ops _::_=>ops|_=>#[]
def i2:Nat:=match(Gt 0 0 0 ⟨#[]⟩).todo with|.inRegion _ (i::_)::_=>i|_=>0
def r2:List Nat:=match(Gt 0 0 0 ⟨#[]⟩).todo with|.inRegion _ (_::r)::_=>r|_=>[]
def k2:List Item:=(Gt 0 0 0 ⟨#[]⟩).todo.tail
def o2:Oper:=(TP[i2]?).getD default
def QN:(Gt bx bS l k).mode=.run:=ϰ
def QO:(Gt bx bS l k).kind=.normal:=ϰ
def QM:(Gt bx bS l k).todo=.inRegion TP (i2::r2)::k2:=ϰ
def afH:TP[i2]?=some o2:=ϰ
def TV:wanted o2 (yielded TP (Gt bx bS l k).tmps)=true:=ϰ
def WE:o2.op=.load nR (.tmp 2):=ϰ
def ahQ:(Gt bx bS l k).eval (.tmp 2)=pb bS:=ϰ
def Ef:φ:=(OT (G ((Gt bx bS l k).finish sv) (default::[]))).frame
def aci:ay PP true (G ((Gt bx bS l k).finish sv) (F1::cs1)) (G (Ef bx bS l k sv) (F1::cs1)):=cj 200 (cB PP true 200 (G ((Gt bx bS l k).finish sv) (F1::cs1))) λa=>ϰ
def TO:Array Oper:=match(Ef 0 0 0 ⟨#[]⟩ ϗ).todo with|.inRegion ops _::_=>ops|_=>#[]
def i3:Nat:=match(Ef 0 0 0 ⟨#[]⟩ ϗ).todo with|.inRegion _ (i::_)::_=>i|_=>0
def r3:List Nat:=match(Ef 0 0 0 ⟨#[]⟩ ϗ).todo with|.inRegion _ (_::r)::_=>r|_=>[]
def k3:List Item:=(Ef 0 0 0 ⟨#[]⟩ ϗ).todo.tail
def o3:Oper:=(TO[i3]?).getD default
def QK:(Ef bx bS l k sv).mode=.run:=ϰ
def QL:(Ef bx bS l k sv).kind=.normal:=ϰ
def QJ:(Ef bx bS l k sv).todo=.inRegion TO (i3::r3)::k3:=ϰ
def afG:TO[i3]?=some o3:=ϰ
def TU:wanted o3 (yielded TO (Ef bx bS l k sv).tmps)=true:=ϰ
def WD:o3.op=.buildSlice nR 1 #[(0,.tmp 9)]:=ϰ
def ahP:(Ef bx bS l k sv).eval (.tmp 9)=.string k:=ϰ
def DQ:φ:=(OT (G ((Ef bx bS l k sv).finish (.slice (some ⟨xb,0,none⟩) 1 1)) (default::[]))).frame
def acg:ay PP true (G ((Ef bx bS l k sv).finish (.slice (some ⟨xb,0,none⟩) 1 1)) (F1::cs1)) (G (DQ bx bS l xb k sv) (F1::cs1)):=cj 200 (cB PP true 200 (G ((Ef bx bS l k sv).finish (.slice (some ⟨xb,0,none⟩) 1 1)) (F1::cs1))) λa=>ϰ
def TN:Array Oper:=match(DQ 0 0 0 0 ⟨#[]⟩ ϗ).todo with|.inRegion ops _::_=>ops|_=>#[]
def i4:Nat:=match(DQ 0 0 0 0 ⟨#[]⟩ ϗ).todo with|.inRegion _ (i::_)::_=>i|_=>0
def r4:List Nat:=match(DQ 0 0 0 0 ⟨#[]⟩ ϗ).todo with|.inRegion _ (_::r)::_=>r|_=>[]
def k4:List Item:=(DQ 0 0 0 0 ⟨#[]⟩ ϗ).todo.tail
def o4:Oper:=(TN[i4]?).getD default
def QH:(DQ bx bS l xb k sv).mode=.run:=ϰ
def QI:(DQ bx bS l xb k sv).kind=.normal:=ϰ
def QG:(DQ bx bS l xb k sv).todo=.inRegion TN (i4::r4)::k4:=ϰ
def afF:TN[i4]?=some o4:=ϰ
def TT:wanted o4 (yielded TN (DQ bx bS l xb k sv).tmps)=true:=ϰ
def WC:o4.op=.call {callee:=.builtin .append,args:=#[.tmp 8,.tmp 10],argTypes:=#[nR,nR]}:=ϰ
def ahO:(DQ bx bS l xb k sv).eval (.tmp 8)=sv:=ϰ
def ach:(DQ bx bS l xb k sv).eval (.tmp 10)=.slice (some ⟨xb,0,none⟩) 1 1:=ϰ
def Ee:φ:=(OT (G ((DQ bx bS l xb k sv).finish nv) (default::[]))).frame
def ace:ay PP true (G ((DQ bx bS l xb k sv).finish nv) (F1::cs1)) (G (Ee bx bS l xb k sv nv) (F1::cs1)):=cj 200 (cB PP true 200 (G ((DQ bx bS l xb k sv).finish nv) (F1::cs1))) λa=>ϰ
def TL:Array Oper:=match(Ee 0 0 0 0 ⟨#[]⟩ ϗ ϗ).todo with|.inRegion ops _::_=>ops|_=>#[]
def i5:Nat:=match(Ee 0 0 0 0 ⟨#[]⟩ ϗ ϗ).todo with|.inRegion _ (i::_)::_=>i|_=>0
def r5:List Nat:=match(Ee 0 0 0 0 ⟨#[]⟩ ϗ ϗ).todo with|.inRegion _ (_::r)::_=>r|_=>[]
def k5:List Item:=(Ee 0 0 0 0 ⟨#[]⟩ ϗ ϗ).todo.tail
def o5:Oper:=(TL[i5]?).getD default
def QD:(Ee bx bS l xb k sv nv).mode=.run:=ϰ
def QE:(Ee bx bS l xb k sv nv).kind=.normal:=ϰ
def QC:(Ee bx bS l xb k sv nv).todo=.inRegion TL (i5::r5)::k5:=ϰ
def afE:TL[i5]?=some o5:=ϰ
def TS:wanted o5 (yielded TL (Ee bx bS l xb k sv nv).tmps)=true:=ϰ
def WB:o5.op=.store nR (.tmp 2) (.tmp 11):=ϰ
def ahN:(Ee bx bS l xb k sv nv).eval (.tmp 2)=pb bS:=ϰ
def acf:(Ee bx bS l xb k sv nv).eval (.tmp 11)=nv:=ϰ
def fR6:φ:=(Dp PP true 2 (G ((Ee bx bS l xb k sv nv).finish undef) (default::[]))).frame
def acd:ay PP true (G ((Ee bx bS l xb k sv nv).finish ϗ) (F1::cs1)) (G (fR6 bx bS l xb k sv nv) (F1::cs1)):=cj 2 (cB PP true 2 (G ((Ee bx bS l xb k sv nv).finish ϗ) (F1::cs1))) λa=>ϰ
def QA:(fR6 bx bS l xb k sv nv).mode=.run:=ϰ
def QB:(fR6 bx bS l xb k sv nv).kind=.normal:=ϰ
def Qz:(fR6 bx bS l xb k sv nv).todo=[]:=ϰ
def MI:(fR6 bx bS l xb k sv nv).roundOf=some l:=ϰ
def fE0:φ:={(Kt bx bS D l).finish U with todo:=JQ}
def Vj:((Kt bx bS D l).finish U).todo=.endRangeFunc l::JQ:=ϰ
def Vk:((Kt bx bS D l).finish U).mode=.run:=ϰ
def sE1:Ω:=OT (G (fE0 bx bS D l) (fr::cs))
def Y9:ay PP true (G (fE0 bx bS D l) (fr::cs)) (sE1 bx bS D l fr cs):=bO λa=>ϰ
def Oz:bm (sE1 bx bS D l fr cs)=some (.load nR (pb bS)):=ϰ
def fE2:φ:=(OT (resume (sE1 bx bS D l default []) sv)).frame
def acm:ay PP true (resume (sE1 bx bS D l fr cs) sv) (G (fE2 bx bS D l sv) (fr::cs)):=cj 200 (cB PP true 200 (resume (sE1 bx bS D l fr cs) sv)) λa=>ϰ
def QS:(fE2 bx bS D l sv).mode=.returning:=ϰ
def I5:(fE2 bx bS D l sv).defers=[{target:=.collected D,args:=#[]}]:=ϰ
def acl:ay PP true (G {fE2 bx bS D l sv with defers:=[]} (fr::cs)) (de fr cs sv):=cj 1 (cB PP true 1 (G {fE2 bx bS D l sv with defers:=[]} (fr::cs))) λa=>ϰ
end
end Sq
end gz
end
section
open Go.Conc
open Go.MapKept
open Go.ConcM (OsLater)
namespace gz
namespace Sq
section
variable {own:Nat->Prop}{w:Φ}{g g':Ω}{Stop:(Nat->Prop)->Ω->Φ->Prop}
def xv{O:ϒ}{a:Nat}{e:Event}(c:O b)(h:EvB b e):Xs O no n a e:=.inl ⟨b,.inl c,h.2⟩
def Hh(hs:g.status=.running)(h:∀d,∃es,stepG PP true g (w.at d)=.go g' (w.at d) es/\∀e∈es,∃b,own b/\EvB b e)(k:aJ PP true m9 Stop own g' w):aJ PP true m9 Stop own g w:=by
 refine aJ.step hs λw₁ h1=>?_
 obtain⟨d,rfl⟩:=h1;have⟨es,e1,e2⟩:=h d;refine⟨_,_,es,e1,⟨ε _,λ_ _ _=>rfl,rfl,rfl,rfl,λe a=>by have⟨b,h1,h2⟩:=e2 e a;exact xv h1 h2⟩,?_⟩;rw[(idle0 own (w.at d)).2];exact k.rely ⟨d,rfl⟩
def akc(hs:g.status=.running)(f:own b)(h:∀d,∃w' es,stepG PP true g (w.at d)=.go g' w' es/\Bn b o (w.at d) w'/\∀e∈es,∃b,own b/\EvB b e)(k:∀w',w'.heap.size=w.heap.size->w'.heap[b]?=some o->(∀c,c≠b->w'.heap[c]?=w.heap[c]?)->w'.os=w.os->aJ PP true m9 Stop own g' w'):aJ PP true m9 Stop own g w:=by
 refine aJ.step hs λw₁ h1=>?_
 obtain⟨d,rfl⟩:=h1;have⟨w',es,e1,u,e2⟩:=h d;have a:m9.up own (w.at d) w'=own:=funext λc=>propext ⟨λx=>x.elim id λx=>by have:=u.size;omega,.inl⟩
 refine⟨_,w',es,e1,⟨by rw[u.size];exact ε _,λc _ i=>u.rest c λe=>i (e▸f),u.os,u.output,u.tape,λe j=>by have⟨b,h1,h2⟩:=e2 e j;exact xv h1 h2⟩,?_⟩;rw[a];exact k w' u.size u.at_ u.rest u.os
def new1{os:List Obj}(hs:g.status=.running)(h:∀d,stepG PP true g (w.at d)=.go g' {w.at d with heap:=os.foldl Array.push (w.at d).heap} #[])(k:∀w',w'.heap=os.foldl Array.push w.heap->w'.os=w.os->aJ PP true m9 Stop (λb=>own b\/(w.heap.size<=b/\b<w'.heap.size)) g' w'):aJ PP true m9 Stop own g w:=by
 have i:∀(l:List Obj)(a:Array Obj),a.size<=(l.foldl Array.push a).size:=λl=>by
  induction l with|nil=>intro a;exact ε _|cons x l f=>intro a;exact ac3 ϛ (f (a.push x))
 have c:∀(l:List Obj)(a:Array Obj)(b:Nat),b<a.size->(l.foldl Array.push a)[b]?=a[b]?:=λl=>by
  induction l with|nil=>intro a b _;rfl|cons x l f=>intro a b e;exact(f (a.push x) b (by simp;omega)).trans (by rw[ac6 e];exact(τ e).symm)
 refine aJ.step hs λw₁ h1=>?_
 obtain⟨d,rfl⟩:=h1;refine⟨_,_,_,h d,⟨i os _,λb e _=>c os _ b e,rfl,rfl,rfl,ϛ⟩,?_⟩;exact k _ rfl rfl
def app1(hs:g.status=.running)(hm:∀b,mine b->own b)(h:∀d,∃v w' es ev,stepG PP true g (w.at d)=.go (gx v) w' es/\(∀e∈es,e∈ev)/\App mine ks (w.at d) v w' ev)(k:∀v w',w.heap.size<=w'.heap.size->(∀b,b<w.heap.size->¬mine b->w'.heap[b]?=w.heap[b]?)->Strs w' (λb=>mine b\/(w.heap.size<=b/\b<w'.heap.size)) v ks->w'.os=w.os->aJ PP true m9 Stop (λb=>own b\/(w.heap.size<=b/\b<w'.heap.size)) (gx v) w'):aJ PP true m9 Stop own g w:=by
 refine aJ.step hs λw₁ h1=>?_
 obtain⟨d,rfl⟩:=h1;have⟨v,w',es,ev,e1,e2,a⟩:=h d;refine⟨_,w',es,e1,⟨a.size,λb f c=>a.keep b f λx=>c (hm b x),a.os,a.output,a.tape,λe i=>?_⟩,k v w' a.size a.keep a.strs a.os⟩;obtain⟨b,h1,h2⟩|h:=a.ev e (e2 e i);exact xv (hm b h1) h2;exact .inr h
end
section
variable {bx bS D l it xb:Nat}{k:Ξ}{v sv nv:Θ}{F1:φ}{cs0:List φ}{y:Nat->Θ}{w:Φ}{st:LoopState}
def Dq{es:Ϛ}{f:ac5}{x y:Bool}(h:es=seen PP f #[⟨.obj b,x,false⟩,⟨.obj b,y,false⟩]):∀e∈es,EvB b e:=by
 intro e a;subst h;have:=mem_seen a;simp at this;obtain rfl|rfl:=this<;>exact eK
def Oh(a:w.heap[l]?=some (.loop (oe st bx bS D))):∃es,stepG PP true (G (FB it l k v y) cs0) w=.go (G (Frame.round l Gu (Wn bx bS k) RL Nm .normal) (FB it l k v y::cs0)) w es/\∀e∈es,EvB l e:=by
 have h1:RT (execOp (FB it l k v y).eval oY) w (.round l Gu (Wn bx bS k) RL Nm) w #[⟨.obj l,false,false⟩]:=by
  have e:execOp (FB it l k v y).eval oY=(do let d <-resolve (FB it l k v y).eval {callee:=.value (.tmp 10),args:=#[.tmp 11],argTypes:=#[9]} oY.type;invoke d.target d.args):=by unfold execOp;rw[WA]
  rw[e];refine RT.bk (w1:=w) (x:={target:=.fn (.yield l) #[],args:=#[.string k]}) ?_ ?_;unfold resolve;simp only[ϐ8,ϴ,ϓ7,aiy,aix];exact .pure _;unfold oe at a;unfold Wn;exact KL a
 refine⟨_,(stepG_op (V9 it l k v y) (V8 it l k v y) afD (TR it l k v y) (by rw[WA];simp)).trans (G1 h1 (Wa it l k v y)),λe b=>?_⟩;have:=mem_seen b;simp at this;subst this;exact eK
def Ol(a:w.heap[l]?=some (.loop (oe .ready bx bS D))):∃w' es,stepG PP true (G (Sj bx bS l k) cs0) w=.go (G ((Sj bx bS l k).finish ϗ) cs0) w' es/\Bn l (.loop (oe .busy bx bS D)) w w'/\∀e∈es,EvB l e:=by
 unfold oe at a⊢;have h:=Nn a;exact⟨_,_,EB (QQ bx bS l k) (QP bx bS l k) (MJ bx bS l k) (QR bx bS l k) h,o6 a,Dq rfl⟩
def SI(a:w.heap[bS]?=some (.cells #[sv] nR (0,0))):∃es,stepG PP true (G (Gt bx bS l k) cs0) w=.go (G ((Gt bx bS l k).finish sv) cs0) w es/\∀e∈es,EvB bS e:=by
 have h1:RT (execOp (Gt bx bS l k).eval o2) w (.value sv) w #[⟨.cell ⟨bS,0,none⟩,false,false⟩]:=by
  have e:execOp (Gt bx bS l k).eval o2=(do pure (.value (<-Instr.loadAt nR (pb bS)))):=by unfold execOp;rw[WE];simp only[ahQ]
  rw[e];refine RT.fH (x:=sv) ?_ (.pure _);show RT (do if<-isAgg nR then Pure.pure (.agg (<-loadCells ⟨bS,0,none⟩ (<-Go.sizeOf nR)))else load ⟨bS,0,none⟩) _ _ _ _;refine(i7 (b:=false) ϰ).bk ?_;simp only[ab6,if_false];exact lN (cell_of a rfl)
 refine⟨_,(stepG_op (QN ..) (QM ..) afH (TV bx bS l k) (by rw[WE];simp)).trans (rI h1 (QO ..)),λe c=>?_⟩;have:=mem_seen c;simp at this;subst this;exact jW rfl
def Oj:stepG PP true (G (Ef bx bS l k sv) cs0) w=.go (G ((Ef bx bS l k sv).finish (.slice (some ⟨w.heap.size,0,none⟩) 1 1)) cs0) {w with heap:=w.heap.push (.cells #[.string k] lj (0,0))} #[]:=by
 have h1:RT (execOp (Ef bx bS l k sv).eval o3) w (.value (.slice (some ⟨w.heap.size,0,none⟩) 1 1)) {w with heap:=w.heap.push (.cells #[.string k] lj (0,0))} #[]:=by
  have e:execOp (Ef bx bS l k sv).eval o3=(do pure (.value (<-Instr.buildSlice nR 1 #[(0,.string k)]))):=by unfold execOp;rw[WD];simp only[ϐ8,ϴ,ϓ7,ahP]
  rw[e];exact RT.bk E7 (.pure _)
 have:=(stepG_op (main:=true) (cs:=cs0) (w:=w) (QK bx bS l k sv) (QJ bx bS l k sv) afG (TU bx bS l k sv) (by rw[WD];simp)).trans (rI h1 (QL ..));rw[seen_none]at this;exact this
def K5{f:Nat×Nat}(hs:Strs w mine sv ks)(b:w.heap[xb]?=some (.cells #[.string k] lj f))(a:mine xb)(c:ks.length<2^40):
  ∃v w' es ev,stepG PP true (G (DQ bx bS l xb k sv) cs0) w=.go (G ((DQ bx bS l xb k sv).finish v) cs0) w' es/\(∀e∈es,e∈ev)/\App mine (ks++[k]) w v w' ev:=by
 have⟨v,w',ev,h1,h2⟩:=Lw o4.type hs b a c;have g:RT (execOp (DQ bx bS l xb k sv).eval o4) w (.value v) w' ev:=by
  have e:execOp (DQ bx bS l xb k sv).eval o4=(do let d <-resolve (DQ bx bS l xb k sv).eval {callee:=.builtin .append,args:=#[.tmp 8,.tmp 10],argTypes:=#[nR,nR]} o4.type;invoke d.target d.args):=by unfold execOp;rw[WC]
  rw[e];refine RT.bk (w1:=w) (x:={target:=.builtin .append #[nR,nR] o4.type #[false,false],args:=#[sv,.slice (some ⟨xb,0,none⟩) 1 1]}) ?_ ?_;unfold resolve;simp only[ϐ8,ϴ,ϓ7,ahO,ach];exact .pure _;show RT (do Pure.pure (Next.value (<-Builtin.append_ #[nR,nR] o4.type #[sv,.slice (some ⟨xb,0,none⟩) 1 1]))) _ _ _ _;exact RT.fH h1 (.pure _)
 exact⟨v,w',_,ev,(stepG_op (QH ..) (QG ..) afF (TT bx bS l xb k sv) (by rw[WC];simp)).trans (rI g (QI ..)),λe h=>mem_seen h,h2⟩
def aaR:(PP.info? nR).map (·.size)=some 1:=ϰ
def Oi{a:Θ}(c:w.heap[bS]?=some (.cells #[a] nR (0,0)))(h1:nv.cells=#[nv])(h2:ni nv=true):∃w' es,stepG PP true (G (Ee bx bS l xb k sv nv) cs0) w=.go (G ((Ee bx bS l xb k sv nv).finish ϗ) cs0) w' es/\Bn bS (.cells #[nv] nR (0,0)) w w'/\∀e∈es,EvB bS e:=by
 have⟨w',ev,b,r2,r3⟩:=iy (t:=nR) (off:=0) (v:=nv) c (by rw[h1];exact aaR) (by rw[h1];simp) (by rw[h1];simpa using h2);have d:RT (execOp (Ee bx bS l xb k sv nv).eval o5) w .skip w' ev:=by
  have e:execOp (Ee bx bS l xb k sv nv).eval o5=(m6.store nR (pb bS) nv).sem:=by unfold execOp;rw[WB];simp only[ahN,acf];rfl
  rw[e];exact b
 refine⟨w',_,(stepG_op (QD ..) (QC ..) afE (TS bx bS l xb k sv nv) (by rw[WB];simp)).trans (Ar d (QE ..)),?_,λe f=>r3 e (mem_seen f)⟩;rw[h1]at r2;simpa[bK] using r2
def SJ(a:w.heap[l]?=some (.loop (oe .busy bx bS D))){c:φ}:∃w' es,stepG PP true (G (fR6 bx bS l xb k sv nv) (c::cs0)) w=.go (G (c.finish (.bool true)) cs0) w' es/\Bn l (.loop (oe .ready bx bS D)) w w'/\∀e∈es,EvB l e:=by
 unfold oe at a⊢;have h:=QY a;exact⟨_,_,Hl (QA bx bS l xb k sv nv) (Qz bx bS l xb k sv nv) (MI bx bS l xb k sv nv) (QB bx bS l xb k sv nv) h,o6 a,Dq rfl⟩
def SK(a:w.heap[l]?=some (.loop (oe .ready bx bS D))):∃w' es,stepG PP true (G ((Kt bx bS D l).finish U) cs0) w=.go (G (fE0 bx bS D l) cs0) w' es/\Bn l (.loop (oe .exhausted bx bS D)) w w'/\∀e∈es,EvB l e:=by
 unfold oe at a⊢;have h:=QZ a;exact⟨_,_,Hm (Vk bx bS D l) (Vj bx bS D l) h,o6 a,Dq rfl⟩
def SH(a:w.heap[D]?=some (.deferred (some []))):∃w' es,stepG PP true (G (fE2 bx bS D l sv) cs0) w=.go (G {fE2 bx bS D l sv with defers:=[]} cs0) w' es/\Bn D (.deferred none) w w'/\∀e∈es,EvB D e:=
 ⟨_,_,Hk (QS bx bS D l sv) (I5 bx bS D l sv) (Tf a),o6 a,Dq rfl⟩
def aaU{yo body:Code}{k:ϕ}(a:(⟨tm,[]⟩:Act).eval (.tmp 6)=.func (.func Xf) #[] #[pb bx]):
  stepG PP true (G ((base Gu).at ⟨tm,[]⟩ (.code (.rangeFunc (.tmp 6) #[7] yo body)::k)) cs) w=.go (G (Frame.enter PP Xf #[.func (.yield (w.heap.size+1)) #[] #[],pb bx] .normal) ((base Gu).at ⟨tm,[{target:=.collected w.heap.size,args:=#[]}]⟩ (.inRangeFunc (w.heap.size+1)::k)::cs))
   {w with heap:=(w.heap.push (.deferred (some []))).push (.loop (cN tm yo body .ready w.heap.size))} #[]:=by
 have h:=MQ (w:=w) tm yo body;have key:=AN (main:=true) (b:=base Gu) (k:=k) (cs:=cs) (gf:=Xf) (lb:=#[pb bx]) a func135 ϰ ϰ rfl h;have e1:(#[.func (.yield (w.heap.size+1)) #[] #[]]++#[pb bx]:Array Θ)=#[.func (.yield (w.heap.size+1)) #[] #[],pb bx]:=ϛ;rw[e1]at key;exact key
def aeq:stepG PP true (Yu bx bS fr cs) w=.go (sK0 bx bS w.heap.size (w.heap.size+1) fr cs) {w with heap:=(w.heap.push (.deferred (some []))).push (.loop (oe .ready bx bS w.heap.size))} #[]:=by
 rw[Ys];unfold oe sK0 Kt;exact aaU (SC bx bS)
end
def _root_.Go.Proofs.YtchcmhodnkgojaaGreat.gz.Strs.keep(h:Strs w own v ks)(hk:∀b,own b->w'.heap[b]?=w.heap[b]?)(a:∀b,own b->own' b):Strs w' own' v ks:=by
 obtain h|⟨sk,cap,h1,h2,d,c⟩:=h;exact .inl h;exact .inr ⟨sk,cap,h1,a sk h2,d,by rw[hk sk h2];exact c⟩
def _root_.Go.Proofs.YtchcmhodnkgojaaGreat.gz.Strs.one(h:Strs w own v ks):v.cells=#[v]/\ni v=true:=by
 obtain⟨rfl,_⟩|⟨sk,cap,rfl,_⟩:=h<;>exact⟨rfl,rfl⟩
def jO(O0:ϒ)(n0:Nat)(w:Φ):Nat->Prop:=λb=>O0 b\/(n0<=b/\b<w.heap.size)
def vX(h0:n0<=w.heap.size)(h:w.heap.size<=w'.heap.size):(λb=>jO O0 n0 w b\/(w.heap.size<=b/\b<w'.heap.size))=jO O0 n0 w':=funext λb=>propext (by
 unfold jO;constructor;rintro((h|h)|h);exact .inl h;exact .inr ⟨h.1,ϖ⟩;exact .inr ⟨ϖ,h.2⟩;rintro(h|h);exact .inl (.inl h);by_cases a:b<w.heap.size;exact .inl (.inr ⟨h.1,a⟩);exact .inr ⟨ϖ,h.2⟩)
def Pg(h:w'.heap.size=w.heap.size):jO O0 n0 w'=jO O0 n0 w:=by unfold jO;rw[h]
section
variable (O0:Nat->Prop)(w0:Φ)(bx M c:Nat)(f:Ξ->Option Θ)(fr:φ)(cs:List φ)
structure J (st:LoopState)(sv:Θ)(ks:List Ξ)(seen:Array Nat)(w:Φ):Prop where
 hs:w0.heap.size+4<=w.heap.size
 old:∀b,b<w0.heap.size->w.heap[b]?=w0.heap[b]?
 os:w.os=w0.os
 box:w.heap[w0.heap.size]?=some (.cells #[sv] nR (0,0))
 dfr:w.heap[w0.heap.size+1]?=some (.deferred (some []))
 lop:w.heap[w0.heap.size+2]?=some (.loop (oe st bx w0.heap.size (w0.heap.size+1)))
 WZ:w.heap[w0.heap.size+3]?=some (.mapIter (some M) c seen c)
 strs:Strs w (λb=>w0.heap.size+4<=b/\b<w.heap.size) sv ks
def Fin(s:ϒ)(g:Ω)(w:Φ):Prop:=∃sv ks,g=de fr cs sv/\s=jO O0 w0.heap.size w/\w0.heap.size<=w.heap.size/\(∀b,b<w0.heap.size->w.heap[b]?=w0.heap[b]?)/\w.os=w0.os/\
 Strs w (λb=>w0.heap.size+4<=b/\b<w.heap.size) sv ks/\ks.Nodup/\∀s,s∈ks↔f s≠none
end
section
variable {O0:Nat->Prop}{w0 w w':Φ}{bx M c:Nat}{es:Array ai2}{f:Ξ->Option Θ}{fr:φ}{cs:List φ}{st st':LoopState}{sv nv:Θ}{ks:List Ξ}{seen:Array Nat}
def J.at(h:J w0 bx M c st sv ks seen w)(d:Nat):J w0 bx M c st sv ks seen (w.at d):=⟨h.hs,h.old,h.os,h.box,h.dfr,h.lop,h.WZ,h.strs⟩
def J.loop(h:J w0 bx M c st sv ks seen w)(h1:w'.heap.size=w.heap.size)(h2:w'.heap[w0.heap.size+2]?=some (.loop (oe st' bx w0.heap.size (w0.heap.size+1))))(a:∀b,b≠w0.heap.size+2->w'.heap[b]?=w.heap[b]?)(e:w'.os=w.os):J w0 bx M c st' sv ks seen w':=
 ⟨by rw[h1];exact h.hs,λb d=>by rw[a b ϖ];exact h.old b d,e.trans h.os,by rw[a _ ϖ];exact h.box,by rw[a _ ϖ];exact h.dfr,h2,by rw[a _ ϖ];exact h.WZ,h.strs.keep (λb d=>a b ϖ) λb d=>by rw[h1];exact d⟩
def J.next(h:J w0 bx M c st sv ks seen w)(h1:w'.heap.size=w.heap.size)(h2:w'.heap[w0.heap.size+3]?=some (.mapIter (some M) c seen' c))(a:∀b,b≠w0.heap.size+3->w'.heap[b]?=w.heap[b]?)(e:w'.os=w.os):J w0 bx M c st sv ks seen' w':=
 ⟨by rw[h1];exact h.hs,λb d=>by rw[a b ϖ];exact h.old b d,e.trans h.os,by rw[a _ ϖ];exact h.box,by rw[a _ ϖ];exact h.dfr,by rw[a _ ϖ];exact h.lop,h2,h.strs.keep (λb d=>a b ϖ) λb d=>by rw[h1];exact d⟩
def J.push{o:Obj}(h:J w0 bx M c st sv ks seen w)(h1:w'.heap=w.heap.push o)(d:w'.os=w.os):J w0 bx M c st sv ks seen w':=by
 have hs:=h.hs;have hk:∀b,b<w.heap.size->w'.heap[b]?=w.heap[b]?:=λb a=>by rw[h1,ac6 a];exact(τ a).symm
 have e:w'.heap.size=w.heap.size+1:=by rw[h1];simp
 exact⟨ϖ,λb a=>by rw[hk b ϖ];exact h.old b a,d.trans h.os,by rw[hk _ ϖ];exact h.box,by rw[hk _ ϖ];exact h.dfr,by rw[hk _ ϖ];exact h.lop,by rw[hk _ ϖ];exact h.WZ,h.strs.keep (λb a=>hk b a.2) λb a=>⟨a.1,ϖ⟩⟩
def yE{g:Ω}(hs:g.status=.running)(f:jO O0 w0.heap.size w b)(h:∀d,∃w' es,stepG PP true g (w.at d)=.go g' w' es/\Bn b o (w.at d) w'/\∀e∈es,EvB b e)(k:∀w',w'.heap.size=w.heap.size->w'.heap[b]?=some o->(∀c,c≠b->w'.heap[c]?=w.heap[c]?)->w'.os=w.os->aJ PP true m9 Stop (jO O0 w0.heap.size w') g' w'):aJ PP true m9 Stop (jO O0 w0.heap.size w) g w:=
 akc hs f (λd=>by have⟨w',es,h1,h2,a⟩:=h d;exact⟨w',es,h1,h2,λe j=>⟨b,f,a e j⟩⟩) λw' h1 h2 a i=>by
  have:=k w' h1 h2 a i
  rwa [Pg h1]at this
def yI{g:Ω}(hs:g.status=.running)(a:jO O0 w0.heap.size w b)(h:∀d,∃es,stepG PP true g (w.at d)=.go g' (w.at d) es/\∀e∈es,EvB b e)(k:aJ PP true m9 Stop (jO O0 w0.heap.size w) g' w):aJ PP true m9 Stop (jO O0 w0.heap.size w) g w:=
 Hh hs (λd=>by have⟨es,h1,h2⟩:=h d;exact⟨es,h1,λe c=>⟨b,a,h2 e c⟩⟩) k
theorem Pk(j:J w0 bx M c .ready sv ks seen w)(p:ks.Nodup)(hm:∀s,s∈ks↔f s≠none):
  aJ PP true m9 (Fin O0 w0 f fr cs) (jO O0 w0.heap.size w) (de (Kt bx w0.heap.size (w0.heap.size+1) (w0.heap.size+2)) (fr::cs) U) w:=by
 have hs:=j.hs;have k:∀{w':Φ}{b:Nat},w0.heap.size+4<=w'.heap.size->w0.heap.size<=b->b<w0.heap.size+4->jO O0 w0.heap.size w' b:=λa b c=>.inr ⟨b,ϖ⟩
 refine yE (o:=.loop (oe .exhausted bx w0.heap.size (w0.heap.size+1))) rfl (k hs ϖ ϖ:jO O0 w0.heap.size w (w0.heap.size+2)) (λd=>SK (j.at d).lop) λw1 m v t r=>?_
 have g:=j.loop m v t r;refine fh (Y9 _ _ _ _ _ _) ?_;refine yI (b:=w0.heap.size) (g':=resume (sE1 bx w0.heap.size (w0.heap.size+1) (w0.heap.size+2) fr cs) sv) (dH (Oz _ _ _ _ _ _)).1 (k g.hs ϖ ϖ) (λd=>?_) ?_;have hr:RT (m6.load nR (pb w0.heap.size)).sem (w1.at d) (.value sv) (w1.at d) #[⟨.cell ⟨w0.heap.size,0,none⟩,false,false⟩]:=by refine RT.fH (x:=sv) ?_ (.pure _);show RT (do if<-isAgg nR then Pure.pure (.agg (<-loadCells ⟨w0.heap.size,0,none⟩ (<-Go.sizeOf nR)))else load ⟨w0.heap.size,0,none⟩) _ _ _ _;refine(i7 (b:=false) ϰ).bk ?_;simp only[ab6,if_false];exact lN (cell_of (g.at d).box rfl)
 obtain⟨es,e1,e2⟩:=gS (main:=true) (Oz _ _ _ _ _ _) hr;refine⟨es,e1,λe u=>?_⟩;have:=e2 e u;simp at this;subst this;exact jW rfl;refine fh (acm _ _ _ _ _ _ _) ?_;refine yE (o:=.deferred none) rfl (k g.hs ϖ ϖ:jO O0 w0.heap.size w1 (w0.heap.size+1)) (λd=>SH (g.at d).dfr) λi b1 b2 l n=>?_
 refine fh (acl _ _ _ _ _ _ _) (.stop λy q=>?_);obtain⟨d,rfl⟩:=q;refine⟨sv,ks,rfl,rfl,by show _<=i.heap.size;omega,λb h=>?_,by show i.os=_;rw[n];exact g.os,?_,p,hm⟩;show i.heap[b]?=_;rw[l b ϖ];exact g.old b h;exact g.strs.keep (λb h=>l b ϖ) λb h=>⟨h.1,by show b<i.heap.size;omega⟩
def rounds(hO:∀b,O0 b->b<w0.heap.size)(Z:O0 M)(hM:w0.heap[M]?=some (.map es c))(hm:dU es c f)(ag:es.size<2^40)(L:Nat):∀(seen:ϩ)(w:Φ)(tm:ϐ)(sv:Θ)(ks:List Ξ),(leftOf es seen).size=L->J w0 bx M c .ready sv ks seen w->
  ks.Nodup->(∀s,s∈ks↔Ea es seen s)->ks.length+L<=es.size->HK (w0.heap.size+2) (w0.heap.size+3) tm->
  aJ PP true m9 (Fin O0 w0 f fr cs) (jO O0 w0.heap.size w) (gK tm (Kt bx w0.heap.size (w0.heap.size+1) (w0.heap.size+2)) (fr::cs)) w:=by
 induction L using Nat.strongRecOn with
 |_ L ih=>
 intro seen w tm sv ks hL j hn hk aa hH;have y:∀{w':Φ}{b:Nat},w0.heap.size+4<=w'.heap.size->w0.heap.size<=b->b<w0.heap.size+4->jO O0 w0.heap.size w' b:=λa b c=>.inr ⟨b,ϖ⟩
 have P:∀{w':Φ},jO O0 w0.heap.size w' M:=.inl Z;have F:=hO M Z;rw[hH.eq];have Q:=af4 (w0.heap.size+3) (w0.heap.size+2) (Kt bx w0.heap.size (w0.heap.size+1) (w0.heap.size+2)) (fr::cs) λi=>tm.getD i ϗ
 refine aJ.step (dH Q).1 λw1 h1=>?_
 obtain⟨d,rfl⟩:=h1;have p:(w.at d).heap[M]?=some (.map es c):=(j.old M F).trans hM;obtain⟨hl,w',ev,rt,I,X,a3,a4,a5⟩|⟨e,he,w',ev,rt,u,a5⟩:=JN (w:=w.at d) (ty:=nxK) (j.at d).WZ p hm;have⟨n,e1,e2⟩:=gS (main:=true) Q rt;have K:w'.heap.size=(w.at d).heap.size:=by rw[a4]
 refine⟨_,w',n,e1,⟨by rw[K];exact ε _,λb _ _=>by rw[a4],a3,X,I,λx m=>?_⟩,?_⟩;rcases(a5 x (e2 x m)).1 with q|q;exact xv (y j.hs ϖ ϖ) q;exact xv P q;have v:m9.up (jO O0 w0.heap.size w) (w.at d) w'=jO O0 w0.heap.size w':=vX (w:=w) (by have:=j.hs;omega) (by show(w.at d).heap.size<=_;rw[K];exact ε _);rw[v];refine fh (Ut ..) ?_;have J':J w0 bx M c .ready sv ks seen w':=⟨by rw[K];exact j.hs,λb h=>by rw[a4];exact j.old b h,a3.trans j.os,by rw[a4];exact j.box,by rw[a4];exact j.dfr,by rw[a4];exact j.lop,by rw[a4];exact j.WZ,j.strs.keep (λb _=>by rw[a4];rfl) λb h=>by rw[K];exact h⟩
 refine Pk J' hn λs=>(hk s).trans ⟨λ⟨x,m,h1,_⟩=>?_,λhs=>CB hm hl hs⟩
 rw[(hm.has s x.val).2 ⟨x,m,h1,rfl⟩];simp;have⟨n,e1,e2⟩:=gS (main:=true) Q rt;have l:=zG he;have⟨g,k⟩:=jA (hm.keys e l);have A:=wl he;have hV:=λs=>yD (seen:=seen) hm l k s
 have H:g∉ks:=λT=>by have⟨x,m,h1,h2⟩:=(hk g).1 T;have:=hm.uniq m l (by rw[h1,k]);subst this;have:=(Array.mem_filter.1 he).2;simp[h2]at this
 have t:J w0 bx M c .ready sv ks (seen.push e.born) w':=(j.at d).next u.size u.at_ u.rest u.os;refine⟨_,w',n,e1,⟨by rw[u.size];exact ε _,λb _ h=>u.rest b λq=>h (q▸y j.hs ϖ ϖ),u.os,u.output,u.tape,λx m=>?_⟩,?_⟩;obtain q|q:=a5 x (e2 x m);exact xv (y j.hs ϖ ϖ) q;exact xv P q.1;have v:m9.up (jO O0 w0.heap.size w) (w.at d) w'=jO O0 w0.heap.size w':=vX (w:=w) (by have:=j.hs;omega) (by show(w.at d).heap.size<=_;rw[u.size];exact ε _);rw[v,k];clear v e1 e2 rt p;refine fh (af7 ..) ?_;have p:∀d,(w'.at d).heap[M]?=some (.map es c):=λd=>(t.old M F).trans hM
 have en:=af6 (w0.heap.size+3) (w0.heap.size+2) g e.val (Kt bx w0.heap.size (w0.heap.size+1) (w0.heap.size+2)) (fr::cs) λi=>tm.getD i ϗ
 refine Hh (dH en).1 (g':=resume (kA (w0.heap.size+3) (w0.heap.size+2) g e.val (Kt bx w0.heap.size (w0.heap.size+1) (w0.heap.size+2)) (fr::cs) λi=>tm.getD i ϗ) (.tuple #[.string g,e.val])) (λd=>?_) ?_;have hr:=y5 (t.at d).WZ (p d) hm l;rw[k]at hr;have⟨n,e1,e2⟩:=gS (main:=true) en hr;refine⟨n,e1,λx m=>?_⟩;have:=e2 x m;simp at this;obtain rfl|rfl:=this;exact⟨_,y t.hs ϖ ϖ,eK⟩;exact⟨M,P,eK⟩;refine fh (af5 ..) ?_;refine yI (b:=w0.heap.size+2) rfl (y t.hs ϖ ϖ) (λd=>Oh (t.at d).lop) ?_;refine fh (abL ..) ?_;refine yE (o:=.loop (oe .busy bx w0.heap.size (w0.heap.size+1))) rfl (y t.hs ϖ ϖ:jO O0 w0.heap.size w' (w0.heap.size+2)) (λd=>Ol (t.at d).lop) λN b1 b2 b3 D=>?_
 have C:=t.loop b1 b2 b3 D;clear t b1 b2 b3 D p j u;refine fh (acj ..) ?_;refine yI (b:=w0.heap.size) rfl (y C.hs ϖ ϖ) (λd=>SI (C.at d).box) ?_;refine fh (aci ..) ?_;refine new1 (g':=G ((Ef bx w0.heap.size (w0.heap.size+2) g sv).finish (.slice (some ⟨N.heap.size,0,none⟩) 1 1)) (FB (w0.heap.size+3) (w0.heap.size+2) g e.val (λi=>tm.getD i ϗ)::Kt bx w0.heap.size (w0.heap.size+1) (w0.heap.size+2)::fr::cs)) (os:=[.cells #[.string g] lj (0,0)]) rfl (λd=>Oj (w:=N.at d)) λE I X=>?_
 have z:=C.push I X;have ac:E.heap.size=N.heap.size+1:=by rw[I];simp
 have W:=C.hs;rw[vX ϖ ϖ];have m:E.heap[N.heap.size]?=some (.cells #[.string g] lj (0,0)):=by rw[I];simp
 refine fh (acg ..) ?_;refine app1 (ks:=ks++[g]) (mine:=λb=>w0.heap.size+4<=b/\b<E.heap.size) rfl (λb h=>.inr ⟨ϖ,h.2⟩) (λd=>K5 (z.at d).strs m ⟨W,ϖ⟩ ϖ) λnv B c1 c2 c3 c4=>?_
 rw[vX ϖ c1];have O:Strs B (λb=>w0.heap.size+4<=b/\b<B.heap.size) nv (ks++[g]):=c3.keep (λ_ _=>rfl) λb h=>ϖ
 have k4:∀b,b<w0.heap.size+4->B.heap[b]?=E.heap[b]?:=λb h=>c2 b ϖ λq=>ϖ
 have D:B.heap[w0.heap.size]?=some (.cells #[sv] nR (0,0)):=by rw[k4 _ ϖ];exact z.box
 refine fh (ace ..) ?_;refine yE (o:=.cells #[nv] nR (0,0)) rfl (.inr ⟨ε _,ϖ⟩:jO O0 w0.heap.size B w0.heap.size) (λd=>Oi (w:=B.at d) D O.one.1 O.one.2) λV d1 d2 R d4=>?_
 have Y:J w0 bx M c .busy nv (ks++[g]) (seen.push e.born) V:=by
  have r:∀b,b<w0.heap.size+4->b≠w0.heap.size->V.heap[b]?=E.heap[b]?:=λb h S=>by rw[R b S,k4 b h]
  refine⟨ϖ,λb h=>?_,by rw[d4,c4,z.os],d2,?_,?_,?_,O.keep (λb h=>R b ϖ) λb h=>⟨h.1,by rw[d1];exact h.2⟩⟩;rw[r b ϖ ϖ];exact z.old b h;rw[r _ ϖ ϖ];exact z.dfr;rw[r _ ϖ ϖ];exact z.lop;rw[r _ ϖ ϖ];exact z.WZ
 clear C z O k4 D d1 d2 R d4 c1 c2 c3 c4 m;refine fh (acd ..) ?_;refine yE (o:=.loop (oe .ready bx w0.heap.size (w0.heap.size+1))) rfl (y Y.hs ϖ ϖ:jO O0 w0.heap.size V (w0.heap.size+2)) (λd=>SJ (Y.at d).lop) λw6 f1 f2 f3 f4=>?_
 have J6:=Y.loop f1 f2 f3 f4;have⟨U,MD,hg⟩:=Wb (w0.heap.size+3) (w0.heap.size+2) g e.val (Kt bx w0.heap.size (w0.heap.size+1) (w0.heap.size+2)) (fr::cs) λi=>tm.getD i ϗ
 refine fh hg (ih _ (hL▸A) (seen.push e.born) w6 U nv (ks++[g]) rfl J6 ?_ (λs=>?_) ?_ MD);rw[List.nodup_append];exact⟨hn,ϛ,λa ha b h=>by simp at h;subst h;exactλq=>H (q▸ha)⟩;rw[ag4,hV s,hk s];simp;simp;omega
end
section
variable {own:Nat->Prop}{w:Φ}{g g':Ω}{Stop:(Nat->Prop)->Ω->Φ->Prop}
def new2(hs:g.status=.running)(h:∀d,∃es,stepG PP true g (w.at d)=.go g' {w.at d with heap:=(w.at d).heap.push o} es/\∀e∈es,∃b,own b/\EvB b e)(k:∀w',w'.heap=w.heap.push o->w'.os=w.os->aJ PP true m9 Stop (λb=>own b\/(w.heap.size<=b/\b<w'.heap.size)) g' w'):aJ PP true m9 Stop own g w:=by
 refine aJ.step hs λw₁ h1=>?_
 obtain⟨d,rfl⟩:=h1;have⟨es,e1,e2⟩:=h d;refine⟨_,_,es,e1,⟨by show w.heap.size<=(w.heap.push o).size;simp,λb a _=>by show(w.heap.push o)[b]?=w.heap[b]?;rw[ac6 (show b<w.heap.size from a)];exact(τ _).symm,rfl,rfl,rfl,λe c=>by have⟨b,h1,h2⟩:=e2 e c;exact xv h1 h2⟩,?_⟩;exact k _ rfl rfl
end
section
variable {O0:Nat->Prop}{w0:Φ}{bx M c:Nat}{es:Array ai2}{f:Ξ->Option Θ}{fr:φ}{cs:List φ}
theorem Ou(p:∀b,O0 b->b<w0.heap.size)(k:O0 M)(i:O0 bx)(r:w0.heap[bx]?=some (.cells #[.map (some M)] tt ff))(v:w0.heap[M]?=some (.map es c))(hm:dU es c f)(u:es.size<2^40):
  aJ PP true m9 (Fin O0 w0 f fr cs) O0 (sQ0 bx fr cs) w0:=by
 have l:=p bx i;have A:=p M k;refine fh (HV _ _ _) (PB (f:=pb) (Yv _ _ _) (λw=>y6 _ _) λw1 h1 y F=>?_);have s1:w1.heap.size=w0.heap.size+1:=by rw[h1];simp
 have e1:(λb=>O0 b\/b=w0.heap.size)=jO O0 w0.heap.size w1:=funext λb=>propext (by unfold jO;exact or_congr Iff.rfl ⟨λh=>⟨ϖ,ϖ⟩,λh=>ϖ⟩)
 rw[e1];refine fh (Yt _ _ _ _) ?_;refine new1 (g':=sK0 bx w0.heap.size (w0.heap.size+1) (w0.heap.size+2) fr cs) (os:=[.deferred (some []),.loop (oe .ready bx w0.heap.size (w0.heap.size+1))]) rfl (λd=>?_) λa h2 o2=>?_
 have:=aeq (bx:=bx) (bS:=w0.heap.size) (w:=w1.at d) (fr:=fr) (cs:=cs);have e:(w1.at d).heap.size=w0.heap.size+1:=s1;rw[e]at this;exact this;have g:a.heap=(w1.heap.push (.deferred (some []))).push (.loop (oe .ready bx w0.heap.size (w0.heap.size+1))):=h2;have s2:a.heap.size=w0.heap.size+3:=by rw[g];simp[s1]
 rw[vX ϖ ϖ];have q:∀b,b<w0.heap.size->a.heap[b]?=w0.heap[b]?:=λb j=>by rw[g,ac6 (by simp;omega),<-τ,ac6 ϖ,<-τ,h1,ac6 j,<-τ]
 have z:a.heap[w0.heap.size]?=some (.cells #[.slice none 0 0] nR (0,0)):=by rw[g,ac6 (by simp;omega),<-τ,ac6 ϖ,<-τ,h1];simp[Value.cells]
 have E:a.heap[w0.heap.size+1]?=some (.deferred (some [])):=by rw[g,ac6 (by simp;omega),<-τ,<-s1];simp
 have r2:a.heap[w0.heap.size+2]?=some (.loop (oe .ready bx w0.heap.size (w0.heap.size+1))):=by
  have e:w0.heap.size+2=(w1.heap.push (Obj.deferred (some []))).size:=by simp[s1]
  rw[g,e];exact Array.getElem?_push_size
 refine fh (YK _ _ _ _ _ _) ?_;refine Hh (g':=resume (sK1 bx w0.heap.size (w0.heap.size+1) (w0.heap.size+2) fr cs) (.map (some M))) (dH (Oy _ _ _ _ _ _)).1 (λd=>?_) ?_;have hr:RT (m6.load RW (pb bx)).sem (a.at d) (.value (.map (some M))) (a.at d) #[⟨.cell ⟨bx,0,none⟩,false,false⟩]:=by refine RT.fH (x:=.map (some M)) ?_ (.pure _);show RT (do if<-isAgg RW then Pure.pure (.agg (<-loadCells ⟨bx,0,none⟩ (<-Go.sizeOf RW)))else load ⟨bx,0,none⟩) _ _ _ _;refine(i7 (b:=false) ϰ).bk ?_;simp only[ab6,if_false];exact lN (cell_of (w:=a.at d) ((q bx l).trans r) rfl)
 obtain⟨es,e1,e2⟩:=gS (main:=true) (Oy _ _ _ _ _ _) hr;refine⟨es,e1,λe C=>?_⟩;have:=e2 e C;simp at this;subst this;exact⟨bx,.inl i,jW rfl⟩;refine fh (YI _ _ _ _ _ _ _) ?_;refine new2 (o:=.mapIter (some M) c #[] c) (g':=resume (YJ bx w0.heap.size M (w0.heap.size+1) (w0.heap.size+2) fr cs) (pb (w0.heap.size+3))) (dH (Ox _ _ _ _ _ _ _)).1 (λd=>?_) λm n o3=>?_
 have hr:=yY (w:=a.at d) (t:=RW) (kt:=9) (vt:=164) ϰ ((q M A).trans v);have e:(a.at d).heap.size=w0.heap.size+3:=s2;rw[e]at hr;obtain⟨es,e1,e2⟩:=gS (main:=true) (Ox _ _ _ _ _ _ _) hr;refine⟨es,e1,λx B=>?_⟩;have:=e2 x B;simp at this;subst this;exact⟨M,.inl k,eK⟩;have G:m.heap.size=w0.heap.size+4:=by rw[n];simp[s2]
 rw[vX ϖ ϖ];obtain⟨tm,D,hg⟩:=YH bx w0.heap.size M (w0.heap.size+3) (w0.heap.size+1) (w0.heap.size+2) fr cs;have k3:∀b,b<w0.heap.size+3->m.heap[b]?=a.heap[b]?:=λb j=>by rw[n,ac6 ϖ];exact(τ ϖ).symm
 refine fh hg (rounds p k v hm u es.size #[] m tm (.slice none 0 0) [] (by simp[leftOf]) ⟨ϖ,λb j=>by rw[k3 b ϖ];exact q b j,by rw[o3,o2,y],by rw[k3 _ ϖ];exact z,by rw[k3 _ ϖ];exact E,by rw[k3 _ ϖ];exact r2,by rw[n,<-s2];simp,.inl ⟨rfl,rfl⟩⟩ ϛ (λs=>by simp;exact CA s) ϛ D)
end
def Mi(h:Link H no own no π wL w)(hs:w.heap.size<=w'.heap.size)(hk:∀b,own b->w'.heap[b]?=w.heap[b]?):
  ∃dg,Link H no own no dg wL w'/\∀b,b<wL.heap.size->dg b=π b:=by
 have⟨dg,h1,h2,_⟩:=h.rely (w₁:={w' with tape:=w.tape}) hs rfl λb _ a=>a.elim (hk b) False.elim
 exact⟨dg,⟨h1.inj,h1.zero,h1.lt,h1.lw,⟨h1.wr.inj,rfl,rfl,h1.wr.lt,h1.wr.ok,h1.wr.hid,h1.wr.qj,h1.wr.low,h1.wr.ic⟩,h1.own,h1.ro⟩,λb a=>(h2 b a).symm⟩
def Nv(f:Ξ->Option Θ)(wL:Φ)(v:Θ)(w':Φ):Prop:=∃ks:List Ξ,ks.Nodup/\(∀s,s∈ks↔f s≠none)/\
 ((
   v=.slice none 0 0/\ks=[]/\∃t d,w'=az wL t d)\/∃cap,v=.slice (some ⟨wL.heap.size,0,none⟩) ks.length cap/\ks.length<=cap/\
   ∃t d,w'=az {wL with heap:=wL.heap.push (.cells (ks.map Value.string++replicate (cap-ks.length) (Value.string ⟨#[]⟩)).toArray lj (0,0))} t d)
def MP(bx:Nat)(c:φ)(CS:Ϙ):G (Frame.enter PP Gu #[.slice none 0 0,Jh bx] .normal) (c::CS)=sQ0 bx c CS:=by
 unfold sQ0 Qm;rfl
def acA{E:aB.Env}{wL:Φ}{bx m c:Nat}{es:Ϧ}{f:Ξ->Option Θ}{tt:θ}{ff:Nat×Nat}(J:wL.heap[bx]?=some (.cells #[.map (some m)] tt ff))(hM:wL.heap[m]?=some (.map es c))(hm:dU es c f)(n:∀e∈es,∀r,¬Value.Has r e.key/\¬Value.Has r e.val)(U:es.size<2^40):aB.CC E Gu #[.slice none 0 0,Jh bx] (Nv f wL) wL:=by
 intro fr CS π M tr hp ha hk;have y:iT E.H wL bx:=ha (Jh bx) ϛ bx (.Ji (x:=pb bx) ϛ (.ptr rfl));have Q3:(#[.slice none 0 0,Jh bx]:Array Θ).map (ren π)=#[.slice none 0 0,Jh (π bx)]:=by simp[Jh,qL,bA,pb]
 rw[Q3,MP]at hp;have⟨Shun,ZN,w,hz,D,W8,N,u⟩:=hp.ex;let B:Nat->Prop:=λq=>∃o,E.K q=some o
 have Y:∀q,B q->q<w.heap.size/\∀l,nT q l->¬Shun l:=λq ⟨o,d⟩=>⟨(Ψ.1 (u q o d).2.1).1,(u q o d).2.2⟩
 obtain⟨own,g⟩:∃own:Nat->Prop,own=λb=>ZN b\/B b:=⟨_,rfl⟩
 have k:Link E.H aB.no own aB.no π wL w:=by rw[g];exact D.wider λb a=>.inl a
 have O:Apart Shun own w:=by rw[g];exact W8.union B Y
 have X:∀q,B q->own q:=λq d=>by rw[g];exact .inr d
 have Z:iT E.H wL m:=k.lw.Vx bx _ J y.2 m (.cells (v:=.map (some m)) ϛ .map);have R:=(k.wr.ok bx _ J y.2 id).2;have F:=(k.wr.ok m _ hM Z.2 id).2;rw[qK (o:=.map es c) λr hr=>absurd hr (by
  intro hr;cases hr with|key T h=>exact(n _ T r).1 h|val T h=>exact(n _ T r).2 h)]at F
 have P:w.heap[π bx]?=some (.cells #[.map (some (π m))] tt ff):=by rw[R];simp[et]
 obtain⟨N1,M1,t1,g1,w1,r1,L,⟨s,⟨⟨sv,ks,rfl,rfl,G,hold,aa,K,V,p⟩,_,W⟩,C⟩,o1,_⟩:=mN hz (yd (qT (λ_=>False) (Ou (f:=f) (fr:=fr) (cs:=CS) O.lt (k.own m Z id) (k.own bx y id) P F hm U) λ_ h=>h.elim) O);have j:∀b,own b->w1.heap[b]?=w.heap[b]?:=λb a=>hold b (O.lt b a)
 have H:∀(dg:ϙ),(∀b,b<wL.heap.size->dg b=π b)->∀b,b<wL.heap.size->¬E.H b->¬B (dg b):=λdg z b a Q ⟨o,d⟩=>by rw[z b a]at d;exact(u _ o d).1 (D.own b ⟨a,Q⟩ id)
 obtain⟨rfl,rfl⟩|⟨sk,cap,rfl,hsk,hle,hrow⟩:=K;have⟨dg,A,z⟩:=Mi k G j;have t:=hk (.slice none 0 0) wL dg M1 t1 ⟨wL.tape,wL.drawn,[],V,p,.inl ⟨rfl,rfl,wL.tape,wL.drawn,rfl⟩⟩ ⟨Shun,_,w1,(by have e:ren dg (.slice none 0 0)=.slice none 0 0:=ϛ;rw[e];exact L),(A.wider λb a=>.inl a).less B λb a=>H dg z b a.1 a.2,C.part λb a=>a.1,⟨by rw[o1];exact N.1,W.trans N.2⟩,λq o d=>⟨λa=>a.2 ⟨o,d⟩,(j q (X q ⟨o,d⟩)).trans (u q o d).2.1,(u q o d).2.2⟩⟩ (λr hr=>by cases hr) z (ε _)
 exact E.back _ _ _ _ _ r1 t;have⟨dg,A,z,em⟩:=zD (m:=sk) k G j ϖ hsk.2 hrow trivial (λr hr=>by
  cases hr with
  |cells hv h=>simp only[ϓ3,ag4,ac9,List.mem_replicate]at hv;obtain⟨x,_,rfl⟩|⟨_,rfl⟩:=hv<;>cases h) λi hi=>hi
 have t:=hk (.slice (some ⟨wL.heap.size,0,none⟩) ks.length cap) _ dg M1 t1 ⟨wL.tape,wL.drawn,ks,V,p,.inr ⟨cap,rfl,hle,wL.tape,wL.drawn,rfl⟩⟩ ⟨Shun,_,w1,(by
  have e:ren dg (.slice (some ⟨wL.heap.size,0,none⟩) ks.length cap)=.slice (some ⟨sk,0,none⟩) ks.length cap:=by simp[bA,em]
  rw[e];exact L),(A.wider λb a=>a.elim .inl λe=>.inr ⟨ϖ,e▸hsk.2⟩).less B (λb a d=>by
   have ac:b<wL.heap.size+1:=by have:=a.1;simpa using this
   have S:=(Y _ d).1;by_cases I:b<wL.heap.size;exact H dg z b I a.2 d;have:b=wL.heap.size:=ϖ;rw[this,em]at S;omega),C.part λb a=>a.1,⟨by rw[o1];exact N.1,W.trans N.2⟩,λq o d=>⟨λa=>a.2 ⟨o,d⟩,(j q (X q ⟨o,d⟩)).trans (u q o d).2.1,(u q o d).2.2⟩⟩ (λr hr=>by
   cases hr with|slice e=>have e:wL.heap.size=r:=e;subst e;exact⟨by show wL.heap.size<(wL.heap.push _).size;simp,λQ=>by have:=k.lw.low _ (.inl Q);omega⟩) z ϛ
 exact E.back _ _ _ _ _ r1 t
def eT{E:aB.Env}{f:ac5}{k:ϕ}{R:ϥ}{o:Oper}(x:ac4)(c:ops[i]?=some o)(b:o.op=.assign x\/o.op=.move x)(hg:o.guard=none)(h:aB.CI E f (.inRegion ops rest::k) R (a.put o.dst (a.eval x)) wL)(xo:og PP S0 E0 true o=true:=by kernel_rfl):aB.CI E f (.inRegion ops (i::rest)::k) R a wL:=by
 refine aB.Xk c xo hg λt d=>?_
 have e:(execOp a.eval o).run PP (az wL t d)=.ok (.value (a.eval x)) (az wL t d):=by unfold execOp;obtain b|b:=b<;>rw[b]<;>rfl
 rw[e];exact(aB.pO t d).2 h
def jY{E:aB.Env}{f:ac5}{k:ϕ}{R:ϥ}{o:Oper}(xs:Array ac4)(args:ϐ)(g:ops[i]?=some o)(hg:o.guard=none)(e:xs.all pX=true)(c:∀(b:Act)(w:Φ),(execOp b.eval o).runT PP w #[]=(.ok (.enter f2 (xs.map b.eval)) w,#[]))(ha:xs.map a.eval=args)(d:aB.CC E f2 args R2 wL)(h:∀v w',R2 v w'->wL.heap.size<=w'.heap.size->aB.CI E f (.inRegion ops rest::k) R (a.put o.dst v) w'):aB.CI E f (.inRegion ops (i::rest)::k) R a wL:=
 aB.VC g hg e c (ha▸d) h
def Jg{E:aB.Env}{bx:Nat}{f:Ξ->Option Θ}(h:aB.CC E Gu #[.slice none 0 0,Jh bx] (Nv f wL) wL):aB.CC E 134 #[Jh bx] (Nv f wL) wL:=by
 refine aB.jZ func134 rfl ?_;refine aB.dI (aB.ep (eT _ rfl (.inl rfl) rfl (aB.cT ?_)));refine aB.dI (aB.ep (eT _ rfl (.inr rfl) rfl ?_));refine jY (f2:=Gu) #[.const (.slice none 0 0),.tmp 3] #[.slice none 0 0,Jh bx] (R2:=Nv f wL) rfl rfl ϰ (λe w=>ϰ) ϰ h λv w' hR _=>?_
 refine eT _ rfl (.inl rfl) rfl (aB.cT (aB.DY ?_));exact⟨v,ϰ,hR⟩
end Sq
end gz
end
section
open Go.RowKit Go.Lib
def K9(d bl n:Nat)(b:Θ)(x:DS)(w:Φ)(h:bM w d bl n b x):
  Calls prog 105 #[.pointer (some ⟨d,0,none⟩)] w λe w'=>e=.returned (.bool (x.sound n))/\aG [] w w':=by
 have a:Hid (x.sound n=(x.vR n&&(x.pu n&&x.eQ n))):=rfl;go_enter func105,ntmps105;go_wp2_with fail;refine(AQ d bl n b x w h).mono ?_;rintro e w1⟨rfl,f1⟩;have h1:=h.new f1;cases hr:x.vR n with
 |false=>rw[hr]at a;go_wp2;go_ret;exact⟨by rw[a.out];rfl,f1⟩
 |true=>
  rw[hr]at a;go_wp2_with fail;refine(vK d bl n b x w1 h1).mono ?_;rintro e i⟨rfl,f2⟩;have h2:=h1.new f2;have c:=f1.trans f2;cases f:x.pu n with|false=>rw[f]at a;go_wp2;go_ret;exact⟨by rw[a.out];rfl,c⟩|true=>rw[f]at a;go_wp2_with fail;refine(yL d bl n b x i h2).mono ?_;rintro e k⟨rfl,g⟩;have j:=c.trans g;go_wp2;go_ret;exact⟨by rw[a.out];rfl,j⟩
end
section
open Go.RowKit Go.Lib Go.Sort
def eJ(l:List dk):List (List η):=(l.filter λf=>f.set !=3).map (·.path)
def bJ(l:List (List η)):List Θ:=l.map encStr
def kz(l:List dk):Nat:=(compact ((eJ l).mergeSort λx y=>decide (x<=y))).length
def cJ:Elem prog 45 9 1 16:=⟨underlying45,ϰ,ϖ⟩
def Dj(fs:List dk)(k:Nat)(hk:k<fs.length):eJ (fs.take (k+1))=if fs[k].set=3 then eJ (fs.take k)else eJ (fs.take k)++[fs[k].path]:=by
 unfold eJ;rw[ac0 hk,ϕ4,ϒ2];by_cases h:fs[k].set=3;simp[h];simp[h]
def xg(l:List dk):(eJ l).length<=l.length:=by unfold eJ;rw[af2];exact ϐ2 ..
def vj(w:Φ)(os:Array Obj):aG [] w (grow w os):=
 ⟨rfl,rfl,rfl,by simp[grow],λk hk _=>by simp only[grow];rw[Array.getElem?_append_left hk]⟩
def Qd(w:Φ)(n:Nat):aG [] w (Sort.ahead w n):=⟨rfl,rfl,rfl,ε _,λ_ _ _=>rfl⟩
def pI{α:Type}[Inhabited α](enc:α->Θ)(w:Φ)(blk off:Nat)(d:Array α):aG [blk] w (putRow enc w blk off d):=
 ⟨rfl,rfl,rfl,by rw[size_putRow];exact ε _,λk hk a=>by simp only[putRow,mapBlock,aj3];rw[Γ (by simpa usingλe=>a (by simp[e]))]⟩
def Cs(base:Nat)(v:Θ)(fs:List dk)(w:Φ)(hv:w.ownsRow base 107 3 v fs.length (jc fs))(hl:fs.length<=1000):
  Calls prog 75 #[v] w λe w'=>e=.returned (.int .i64 (kz fs))/\aG [] w w':=by
 have⟨ad,cap,Z⟩:=aY hv;subst Z;go_enter func75,ntmps75;go_wp2_with fail
 go_loopw [3,8] (λu c wr=>∃k:Nat,c=.int .i64 k/\k<=fs.length/\aG [] w wr/\wr.ownsRow w.heap.size 9 1 u (eJ (fs.take k)).length (bJ (eJ (fs.take k)))) λ_ c _=>fs.length-(intOf c).toNat
 case atStart=>exact⟨0,rfl,ϖ,aG.refl ..,World.ownsRow_nil ..⟩
 case round=>
  obtain⟨k,rfl,hk,G,z⟩:=hrel;have D:=G.owns hv;by_cases C:k<fs.length
  .obtain⟨g,s,rfl,hg,ac,_,p,d⟩:=cO D;have r:((s.toList.drop (k*3)).take 3)=cA fs[k].set fs[k].path fs[k].content:=by
    rw[pA d _ _,vh fs k C]
   have a:=Dj fs k C;have R:(eJ (fs.take k)).length<=1000:=by have:=xg (fs.take k);rw[ac8]at this;omega
   generalize fs[k]=f at r a;have l:Hid (eJ (fs.take (k+1))=if f.set=3 then eJ (fs.take k)else eJ (fs.take k)++[f.path]):=a;generalize eJ (fs.take k)=b at*;clear a p d;go_wp2_with (with_reducible refine ax 107 rfl ?_);refine bT rfl 107 _ rfl g (k*3) rfl kV 3 eS _ _ hg (cA f.set f.path f.content) r rfl ?_;clear r hg;go_wp2_with (with_reducible first|refine au rfl ?_|refine ah 107 rfl ?_);refine aas 107 lY _ eS (h1:=by simp[cA,Value.oneCell']) λw5 b5 l5 f4 q5=>?_
   have X:Row w5 b5 (cA f.set f.path f.content).toArray 107:=q5;have t:=f4;have I:=G.trans t;have U:=t.owns z;have c0:=X.val 0 (.int .i64 f.set);have c1:=X.val 1 (.string (aj f.path));clear q5 f4 t G z l5 D X;by_cases h3:f.set=3
   .have M:Hid (eJ (fs.take (k+1))=b):=by show _=_;rw[l.out,κ h3]
    have H:((f.set:Int))=3:=ϖ;rw[H]at c0;clear l;go_wp2
    go_roundw
    case rel=>exact⟨k+1,by go_num,ϖ,I,by rw[M.out];exact U⟩
    case measure=>simp[intOf];omega
   .have M:Hid (eJ (fs.take (k+1))=b++[f.path]):=by show _=_;rw[l.out,Γ h3]
    have H:((f.set:Int)==3)=false:=by rw[ae9];omega
    clear l;go_wp2_with (with_reducible refine aQ rfl ?_);refine dj rfl 45 9 1 16 cJ _ rfl (.string (aj f.path)) rfl rfl ?_;intro w8 b8 l8 J r8;go_wp2_with (with_reducible first|refine aQ rfl ?_|refine aM rfl ?_);have K:=J.owns U;have h:w.heap.size<=w8.heap.size:=by have:=I.size;have:=J.size;omega
    refine dG rfl 45 9 1 16 cJ _ _ rfl w.heap.size u3 _ _ rfl K b8 1 1 [.string (aj f.path)] rfl _ _ r8 rfl rfl (by simp[Value.oneCell']) ϖ ϖ ϖ h ?_;intro g' aa w9 nK f9 _;have Qu:=(I.trans J).trans f9 (by intro j A;right;simp at A;exact(K.lt j A).1);clear U K r8 J f9 l8 I h c0 c1;go_wp2
    go_roundw
    case rel=>
     refine⟨k+1,by go_num,ϖ,Qu,?_⟩;rw[M.out];simpa[bJ,aj] using nK
    case measure=>simp[intOf];omega
  .have HC:Hid (kz fs=(compact ((eJ fs).mergeSort λx y=>decide (x<=y))).length):=rfl;rw[ν ϖ]at z;have R:=xg fs;generalize eJ fs=b at*;have P:∀k,u3.ownBlock=some k->w.heap.size<=k/\k<wr.heap.size:=λk hk=>z.lt k hk
   obtain⟨rfl,h0⟩|⟨g,c,s,rfl,hgb,hgh,hnc,_,p,d⟩:=z.2
   .have S:b=[]:=Ϻ.1 h0;subst S;have HZ:Hid (kz fs=0):=by show _=_;rw[HC.out,List.mergeSort_nil];rfl
    go_wp2_with fail;refine(Tryz.slices_Sort_string_none none 0 wr).mono ?_;rintro e o⟨rfl,rfl⟩;go_wp2_with fail;refine(Tryz.slices_Compact_string_empty none 0 o).mono ?_;rintro e L⟨rfl,rfl⟩;go_wp2;go_ret;exact⟨by rw[HZ.out];rfl,G⟩
   .have E:w.heap.size<=g:=hgb;have n:g<wr.heap.size:=(Ψ.1 hgh).1;have Y:Holds encStr wr g 0 b.toArray:=λj A=>by
     have O:j<b.length:=by simpa using A
     refine⟨?_,Lib.frozen_of_heap hgh _⟩;rw[Lib.cell_of_heap hgh];have h1:(s.toList.take (b.length*1))[j]?=(bJ b)[j]?:=by rw[d]
     rw[ak2 ϖ]at h1;rw[ϐ9,<-ai8,h1,al9 b.toArray j A];simp[bJ,O]
    clear z P p d hgh;go_wp2_with fail;refine(Tryz.slices_Sort_string g 0 c b wr Y n ϖ).mono ?_;rintro e o⟨rfl,m,os,V⟩;have W:(b.mergeSort λx y=>decide (x<=y)).length=b.length:=ϑ1 _;have F:Holds encStr o g 0 (b.mergeSort λx y=>decide (x<=y)).toArray:=by rw[V];exact holds_grow _ _ _ _ _ _ (by rw[size_putRow];exact n) (holds_putRow _ _ _ _ _ _ (holds_ahead _ _ _ _ _ _ Y) ϛ)
    have f6:aG [g] wr o:=by rw[V];exact(((Qd wr m).mono (T:=[g]) ϛ).trans (pI encStr _ g 0 _) λi N=>.inl N).trans (vj ..)
    have sb:aG [] w o:=G.trans f6 (by simpa using E);generalize (b.mergeSort λx y=>decide (x<=y))=qs at*;clear V Y f6;go_wp2_with fail;have Q:=Tryz.slices_Compact_string g 0 c qs o F ϖ ϖ;rw[W]at Q;refine Q.mono ?_;rintro e L⟨rfl,q,B⟩;have f7:aG [g] o L:=by rw[B];exact((Qd o q).mono (T:=[g]) ϛ).trans (pI encStr _ g 0 _) λi N=>.inl N
    have AE:aG [] w L:=sb.trans f7 (by simpa using E);clear B f7 Q F;go_wp2;go_ret;exact⟨by rw[HC.out];rfl,AE⟩
end
section
open Go.RowKit Go.Lib
def Bl:prog.built 103 [(0,.int .i64 3)]=some (dJ 3 ⟨#[]⟩):=ϰ
def NR:Θ:=.agg (dJ 0 ⟨#[]⟩)
def Bs:(prog.info? 103).map (·.zero)=some (some NR):=ϰ
def DS.pending(x:DS)(n:Nat):Bool:=(x.content n 3 ⟨#[]⟩).isSome
def gX(w:Φ):Calls prog 93 #[] w λe w'=>e=.returned (.agg (dJ 3 ⟨#[]⟩))/\aG [] w w':=by
 go_enter func93,ntmps93;go_wp2_with (with_reducible refine au rfl ?_);refine br rfl 103 rfl NR Bs ?_;intro w1 b l1 f1 g;go_wp2_with (with_reducible refine bC 103 rfl ?_);refine bX rfl (.agg (dJ 3 ⟨#[]⟩)) w1 (jd _ _ rfl _ Bl) ?_;go_wp2_with (with_reducible refine ah 103 rfl ?_);refine cu rfl 103 _ _ rfl _ 0 rfl _ rfl 2 dN ?_ ?_ _ _ g ?_ ?_;rfl;simp[dJ,Value.oneCell'];decide;intro d f2 a;rw[bV _ _ (by rfl)]at a;have c:Row d b (dJ 3 ⟨#[]⟩) 103:=a;have f:=f1.trans f2 (by simp;exact l1);clear a;go_wp2;exact nB rfl b rfl rfl _ _ c eW (by exact dN) ⟨rfl,f⟩
def xf(d bl n:Nat)(a:Θ)(x:DS)(w:Φ)(h:bM w d bl n a x):Calls prog 57 #[.pointer (some ⟨d,0,none⟩)] w λe w'=>e=.returned (.bool (x.pending n))/\aG [] w w':=by
 have c:Hid (x.pending n=(x.content n 3 ⟨#[]⟩).isSome):=rfl;go_enter func57,ntmps57;go_wp2_with fail;refine(gX w).mono ?_;rintro e w1⟨rfl,f1⟩;have h1:=h.new f1;go_wp2_with fail;refine(qW d bl n a x 3 ⟨#[]⟩ w1 h1).mono ?_;rintro e f⟨rfl,f2⟩;have b:=f1.trans f2;generalize x.content n 3 ⟨#[]⟩=r at*;go_wp2;go_ret;exact⟨by rw[c.out];rfl,b⟩
def II(d bl n:Nat)(b:Θ)(x:DS)(w:Φ)(h:bM w d bl n b x)(a:x.pending n=false):Calls prog 106 #[.pointer (some ⟨d,0,none⟩)] w λe w'=>e=.returned (.bool true)/\aG [] w w':=by
 have g:x.content n 3 ⟨#[]⟩=none:=by
  unfold DS.pending at a;cases i:x.content n 3 ⟨#[]⟩with
  |none=>rfl
  |some c=>rw[i]at a;cases a
 go_enter func106,ntmps106;go_wp2_with fail;refine(gX w).mono ?_;rintro e w1⟨rfl,f1⟩;have h1:=h.new f1;go_wp2_with fail;refine(qW d bl n b x 3 ⟨#[]⟩ w1 h1).mono ?_;rintro e j⟨rfl,f2⟩;have f:=f1.trans f2;rw[g];go_wp2;go_ret;exact⟨rfl,f⟩
structure oF (w:Φ)(F:List Nat)(s d n:Nat)(x:DS):Prop where
 row:Row w s #[.pointer (some ⟨d,0,none⟩)] 96
 disk:ce w F d n x
 ne:s∉F
def oF.new{w w':Φ}{F:ϓ}{s d n:Nat}{x:DS}(h:oF w F s d n x)(f:aG [] w w'):oF w' F s d n x:=
 ⟨f.row h.row,h.disk.new f,h.ne⟩
def oF.cell{w:Φ}{F:ϓ}{s d n:Nat}{x:DS}(h:oF w F s d n x):w.cell? ⟨s,0,none⟩=some (.pointer (some ⟨d,0,none⟩)):=by rw[h.row.cell];rfl
def oF.oz{s:Nat}{x:DS}(h:oF w F s d n x):∃bl a,bM w d bl n a x:=by
 have⟨bl,a,h,_⟩:=h.disk;exact⟨bl,a,h⟩
def tI(n:Int)(w:Φ):Calls prog 71 #[.int .i64 n] w λe w'=>e=.returned (.bool (decide (16<=n)&&decide (n<=400)))/\w'=w:=by
 go_enter func71,ntmps71;by_cases h1:16<=n<;>by_cases h2:n<=400
 all_goals
  have e1:Hid ((decide (16<=n)&&decide (n<=400))=(decide (16<=n)&&decide (n<=400))):=rfl;simp only[h1,h2,decide_true,decide_false]at e1⊢;go_wp2;go_ret;simp
def kv(n:Int)(w:Φ):Calls prog 74 #[.int .i64 n] w λe w'=>e=.returned (.bool (n==0||n==1))/\w'=w:=by
 go_enter func74,ntmps74;cases h1:(n==0)<;>cases h2:(n==1)
 all_goals
  go_wp2;go_ret;simp[h1,h2]
def dQ(F:ϓ)(s d n:Nat)(x:DS)(w:Φ)(h:oF w F s d n x):Calls prog 44 #[.pointer (some ⟨s,0,none⟩)] w λe w'=>e=.returned (.bool false)/\w'=w:=by
 have c0:=h.cell;go_enter func44,ntmps44;go_wp2;go_ret;exact⟨rfl,rfl⟩
def mO(F:ϓ)(s d n:Nat)(x:DS)(w:Φ)(h:oF w F s d n x):Calls prog 46 #[.pointer (some ⟨s,0,none⟩)] w λe w'=>e=.returned (.bool x.failed)/\w'=w:=by
 have c0:=h.cell;have⟨bl,a,hd⟩:=h.oz;go_enter func46,ntmps46;go_wp2_with fail;refine(dQ F s d n x w h).mono ?_;rintro e w1⟨rfl,rfl⟩;go_wp2_with fail;refine(I3 d bl n a x w1 hd).mono ?_;rintro e b⟨rfl,rfl⟩;go_wp2;go_ret;exact⟨rfl,rfl⟩
def oh(F:ϓ)(s d n:Nat)(x:DS)(w:Φ)(h:oF w F s d n x):Calls prog 54 #[.pointer (some ⟨s,0,none⟩)] w λe w'=>e=.returned (.int .i64 (if x.failed then 3 else if x.pending n then 4 else 0))/\aG [] w w':=by
 have c0:=h.cell;have⟨bl,a,hd⟩:=h.oz;go_enter func54,ntmps54;go_wp2_with fail;refine(mO F s d n x w h).mono ?_;rintro e w1⟨rfl,rfl⟩;have c:Hid ((if x.failed then(3:Int)else if x.pending n then 4 else 0)=(if x.failed then(3:Int)else if x.pending n then 4 else 0)):=rfl;cases hf:x.failed with
 |true=>
  go_wp2;go_ret;exact⟨ϛ,aG.refl ..⟩
 |false=>
  go_wp2_with fail;refine(xf d bl n a x w1 hd).mono ?_;rintro e b⟨rfl,f2⟩;cases f:x.pending n with
  |true=>
   go_wp2_with fail
   all_goals
    go_ret;exact⟨ϛ,f2⟩
  |false=>
   go_wp2_with fail
   all_goals
    go_ret;exact⟨ϛ,f2⟩
def Hz(F:ϓ)(s d n:Nat)(x:DS)(w:Φ)(h:oF w F s d n x):Calls prog 26 #[.pointer (some ⟨s,0,none⟩)] w λe w'=>e=.returned (.string ⟨x.bg.toArray⟩)/\aG [] w w':=by
 have c0:=h.cell;have⟨bl,a,hd⟩:=h.oz;go_enter func26,ntmps26;go_wp2_with fail;refine(dQ F s d n x w h).mono ?_;rintro e w1⟨rfl,rfl⟩;go_wp2_with fail;refine(Nj d bl n a x w1 hd).mono ?_;rintro e b⟨rfl,f2⟩;go_wp2;go_ret;exact⟨rfl,f2⟩
def jy(F:ϓ)(s d n:Nat)(x:DS)(w:Φ)(h:oF w F s d n x):Calls prog 18 #[.pointer (some ⟨s,0,none⟩)] w λe w'=>e=.returned (.int .i64 x.acts)/\w'=w:=by
 have c0:=h.cell;have⟨bl,a,hd⟩:=h.oz;go_enter func18,ntmps18;go_wp2_with fail;refine(dQ F s d n x w h).mono ?_;rintro e w1⟨rfl,rfl⟩;go_wp2_with fail;refine(RU d bl n a x w1 hd).mono ?_;rintro e b⟨rfl,rfl⟩;go_wp2;go_ret;exact⟨rfl,rfl⟩
def DS.D4(x:DS)(n:Nat):Bool:=x.sound n&&decide (kz (aS x n)<=7)
def FY(F:ϓ)(s d n:Nat)(x:DS)(w:Φ)(h:oF w F s d n x)(g:x.pending n=false):Calls prog 73 #[.pointer (some ⟨s,0,none⟩)] w λe w'=>e=.returned (.bool (x.D4 n))/\aG [] w w':=by
 have c0:=h.cell;have⟨bl,f,hd⟩:=h.oz;have a:Hid (x.D4 n=(x.sound n&&decide (kz (aS x n)<=7))):=rfl;have o:(aS x n).length<=54:=by unfold aS;rw[af2];exact fM x n
 go_enter func73,ntmps73;go_wp2_with fail;refine(K9 d bl n f x w hd).mono ?_;rintro e w1⟨rfl,f1⟩;have h1:=h.new f1;have c:=hd.new f1;have c0:=h1.cell;cases hs:x.sound n with
 |false=>rw[hs]at a;go_wp2;go_ret;exact⟨by rw[a.out];rfl,f1⟩
 |true=>
  rw[hs]at a;go_wp2_with fail;refine(yq d bl n f x w1 c).mono ?_;rintro e t⟨v,rfl,hv,f2⟩;go_wp2_with fail;refine(Cs _ v (aS x n) t hv ϖ).mono ?_;rintro e q⟨rfl,p⟩;have b:=(f1.trans f2).trans p;generalize kz (aS x n)=m at*
  by_cases hm:m<=7
  .have j:Hid (x.D4 n=true):=by show _=_;rw[a.out];simp[hm]
   have i:(m:Int)<=7:=ϖ;have r:=h.new b;have k:=hd.new b;clear c0;have c0:=r.cell;go_wp2_with fail;refine(II d bl n f x q k g).mono ?_;rintro e y⟨rfl,u⟩;have l:=b.trans u;go_wp2;go_ret;exact⟨by rw[j.out];rfl,l⟩
  .have j:Hid (x.D4 n=false):=by show _=_;rw[a.out];simp[hm]
   have i:¬(m:Int)<=7:=ϖ
   go_wp2;go_ret;refine⟨?_,b⟩;rw[j.out];rfl
def GV(d:Nat):prog.built 96 [(0,.pointer (some ⟨d,0,none⟩))]=some #[.pointer (some ⟨d,0,none⟩)]:=ϰ
def uv(b:Ξ)(n:Nat)(w:Φ)(g:b.size=64*n)(a:16<=n)(j:n<=400):
  Calls prog 72 #[.string b] w λe w'=>∃s d F,e=.returned (.pointer (some ⟨s,0,none⟩))/\oF w' F s d n (DS.fresh b.data.toList)/\aG [] w w'/\dw [] F w/\w.heap.size<=s:=by
 go_enter func72,ntmps72;go_wp2_with (with_reducible first|refine bC 96 rfl ?_|refine bv rfl ?_);refine(Ga b n w g a j).mono ?_;rintro e w1⟨d,F,rfl,hd,f1,i⟩;go_wp2_with (with_reducible refine bC 96 rfl ?_);refine bX rfl (.agg #[.pointer (some ⟨d,0,none⟩)]) w1 (jd _ _ rfl _ (GV d)) ?_;go_wp2_with (with_reducible refine bv rfl ?_);refine eZ rfl 96 _ rfl (.agg #[.pointer (some ⟨d,0,none⟩)]) rfl ?_;intro k s l2 f2 r2;have c:=hd.new f2;have f:=f1.trans f2;have hs:s∉F:=λh=>by have:=hd.lt s h;omega
 go_wp2;go_ret;exact⟨s,d,F,rfl,⟨r2,c,hs⟩,f,i,by have:=f1.size;omega⟩
def A7(n:Nat)(h:1<=n):(iF n).length=64*n:=by
 unfold iF;rw[af0,lR,ak6];omega
def TX(n:Nat)(w:Φ)(b:16<=n)(g:n<=400):
  Calls prog 40 #[.int .i64 n] w λe w'=>∃s d F,e=.returned (.tuple #[.pointer (some ⟨s,0,none⟩),.int .i64 0])/\oF w' F s d n (DS.fresh (iF n))/\aG [] w w'/\dw [] F w/\w.heap.size<=s:=by
 go_enter func40,ntmps40;go_wp2_with fail;refine(tI n w).mono ?_;rintro e w1⟨rfl,rfl⟩;have e1:(decide (16<=(n:Int))&&decide ((n:Int)<=400))=true:=by rw[decide_eq_true ϖ,decide_eq_true ϖ];rfl
 rw[e1];go_wp2_with fail;refine(MR n w1 ϖ g).mono ?_;rintro e p⟨rfl,f2⟩;have k:=A7 n ϖ;go_wp2_with fail;refine(uv ⟨(iF n).toArray⟩ n p (by rw[<-k];rfl) b g).mono ?_;rintro e o⟨s,d,F,rfl,hs,c,f,q⟩;have j:=f2.trans c;have a:oF o F s d n (DS.fresh (iF n)):=hs;have m:=f2.size;have gw:dw [] F w1:=λi l=>(f i l).imp id λh=>ϖ
 clear hs f2 c f;go_wp2_with fail
 all_goals
  go_ret2
  exact⟨s,d,F,rfl,a,j,gw,ϖ⟩
def Po(b:Ξ)(n:Nat)(w:Φ)(a:b.size=64*n)(h:16<=n)(m:n<=400)(g:(DS.fresh b.data.toList).D4 n=true)(f:(DS.fresh b.data.toList).pending n=false):
  Calls prog 38 #[.string b] w λe w'=>∃s d F,e=.returned (.tuple #[.pointer (some ⟨s,0,none⟩),.int .i64 0])/\oF w' F s d n (DS.fresh b.data.toList)/\aG [] w w'/\dw [] F w/\w.heap.size<=s:=by
 have hr:(b.size:Int).tmod 64=0:=by rw[a];push_cast;exact Int.mul_tmod_right ..
 have p:(b.size:Int).tdiv 64=n:=by rw[a];push_cast;exact Int.mul_tdiv_cancel_left _ (by decide)
 go_enter func38,ntmps38;go_wp2_with fail;refine(tI n w).mono ?_;rintro e w1⟨rfl,rfl⟩;have e1:(decide (16<=(n:Int))&&decide ((n:Int)<=400))=true:=by rw[decide_eq_true ϖ,decide_eq_true ϖ];rfl
 rw[e1];go_wp2_with fail;refine(uv b n w1 a h m).mono ?_;rintro e l⟨s,d,F,rfl,hs,f2,j,l2⟩;go_wp2_with fail;refine(FY F s d n _ l hs f).mono ?_;rintro e o⟨rfl,c⟩;have i:=hs.new c;have k:=f2.trans c;rw[g];clear hs f2 c;go_wp2_with fail
 all_goals
  go_ret2
  exact⟨s,d,F,rfl,i,k,j,l2⟩
def Ca(n:Nat)(w:Φ)(a:n<=2):Calls prog 48 #[.int .i64 n] w λe w'=>e=.returned (.bool true)/\w'=w:=by
 go_enter func48,ntmps48;rcases(by omega:n=0\/n=1\/n=2)with rfl|rfl|rfl
 all_goals
  go_wp2_with fail;refine(kv _ w).mono ?_;rintro e w1⟨rfl,rfl⟩;go_wp2;go_ret;exact⟨rfl,rfl⟩
def DS.get(x:DS)(n s:Nat)(p:Ξ):Θ×Int:=if x.failed then(.string ⟨#[]⟩,3)else match x.content n s p with
 |none=>(.string ⟨#[]⟩,5)
 |some c=>(.string (aj c),0)
def Am(s:Int)(p:Ξ):prog.built 103 [(0,.int .i64 s),(1,.string p)]=some (dJ s p):=ϰ
def UV(F:ϓ)(s d n:Nat)(x:DS)(a:Nat)(p:Ξ)(w:Φ)(h:oF w F s d n x)(hs:a<=2)(u:aX p.data.toList=true)(t:p.size<=8):
  Calls prog 22 #[.pointer (some ⟨s,0,none⟩),.int .i64 a,.string p] w λe w'=>e=.returned (.tuple #[(x.get n a p).1,.int .i64 (x.get n a p).2])/\aG [] w w':=by
 have c0:=h.cell;have⟨bl,m,hd⟩:=h.oz;have b:Hid (x.get n a p=(if x.failed then((Value.string ⟨#[]⟩,3):Θ×Int)else match x.content n a p with|none=>(Value.string ⟨#[]⟩,5)|some c=>(Value.string (aj c),0))):=rfl;go_enter func22,ntmps22;go_wp2_with fail;refine(dQ F s d n x w h).mono ?_;rintro e w1⟨rfl,rfl⟩;go_wp2_with fail;refine(Ca a w1 hs).mono ?_;rintro e q⟨rfl,rfl⟩;go_wp2_with fail;refine(iE p q ϖ).mono ?_;rintro e o⟨rfl,f⟩;rw[u];have k:=h.new f;have g:=hd.new f;have c0:=k.cell;go_wp2_with fail;refine(mO F s d n x o k).mono ?_;rintro e j⟨rfl,rfl⟩;cases hf:x.failed with
 |true=>
  rw[hf]at b;go_wp2_with fail
  all_goals
   go_ret2
   rw[b.out];exact⟨rfl,f⟩
 |false=>
  rw[hf]at b;go_wp2_with (with_reducible refine bC 103 rfl ?_);refine bX rfl (.agg (dJ a p)) j (jd _ _ rfl _ (Am a p)) ?_;go_wp2_with fail;refine(qW d bl n m x a p j g).mono ?_;rintro e v⟨rfl,l⟩;have i:=f.trans l;generalize x.content n a p=r at*;cases r with
  |none=>
   go_wp2_with fail
   all_goals
    go_ret2
    rw[b.out];exact⟨rfl,i⟩
  |some c=>
   go_wp2_with fail
   all_goals
    go_ret2
    rw[b.out];exact⟨rfl,i⟩
def DS.lK(x:DS)(n s:Nat)(p:Ξ):DS×Θ:=
 if x.failed then(x,.int .i64 3)else if x.pending n then(x,.int .i64 4)else x.remove n s p
def CP(F:ϓ)(s d n:Nat)(x:DS)(a:Nat)(p:Ξ)(w:Φ)(h:oF w F s d n x)(G:x.Fit 2)(I:x.waiting.length<60)(hs:a<=1)(J:aX p.data.toList=true)(E:p.size<=8):
  Calls prog 42 #[.pointer (some ⟨s,0,none⟩),.int .i64 a,.string p] w λe w'=>e=.returned (x.lK n a p).2/\(∃t,oF w' t s d n (x.lK n a p).1/\dw F t w)/\aG F w w':=by
 have c:Hid (x.lK n a p=if x.failed then(x,.int .i64 3)else if x.pending n then(x,.int .i64 4)else x.remove n a p):=rfl;have e1:((a:Int)==0||(a:Int)==1)=true:=by rcases(by omega:a=0\/a=1)with rfl|rfl<;>rfl
 go_enter func42,ntmps42;go_wp2_with fail;refine(dQ F s d n x w h).mono ?_;rintro e w1⟨rfl,rfl⟩;go_wp2_with fail;refine(kv a w1).mono ?_;rintro e m⟨rfl,rfl⟩;rw[e1];go_wp2_with fail;refine(iE p m ϖ).mono ?_;rintro e C⟨rfl,v⟩;rw[J];have y:=h.new v;go_wp2_with fail;refine(oh F s d n x C y).mono ?_;rintro e q⟨rfl,z⟩;have f:=y.new z;have j:=v.trans z;have c0:=f.cell;cases hf:x.failed with
 |true=>
  rw[hf]at c;have b:Hid (x.lK n a p=(x,.int .i64 3)):=by show _=_;rw[c.out];rfl
  simp only[if_true];go_wp2_with fail
  all_goals
   go_ret;rw[b.out];exact⟨rfl,⟨F,f,dw.refl _ _⟩,j.mono⟩
 |false=>
  rw[hf]at c;cases g:x.pending n with
  |true=>
   rw[g]at c;have b:Hid (x.lK n a p=(x,.int .i64 4)):=by show _=_;rw[c.out];rfl
   simp only[if_true,ab6,if_false];go_wp2_with fail
   all_goals
    go_ret;rw[b.out];exact⟨rfl,⟨F,f,dw.refl _ _⟩,j.mono⟩
  |false=>
   rw[g]at c;have b:Hid (x.lK n a p=x.remove n a p):=by show _=_;rw[c.out];rfl
   simp only[ab6,if_false];go_wp2_with (with_reducible refine bC 103 rfl ?_);refine bX rfl (.agg (dJ a p)) q (jd _ _ rfl _ (Am a p)) ?_;go_wp2_with fail;refine(qM F d n x a p q f.disk G I).mono ?_;rintro e o⟨rfl,u,A,r,H⟩;have gw:=(dw.refl F m).trans H j.size;have k:oF o u s d n (x.remove n a p).1:=⟨r.row f.row f.ne,A,λD=>(gw s D).elim h.ne λK=>by have:=h.row.lt;omega⟩
   have l:aG F m o:=(j.mono (T:=F) ϛ).trans r λi B=>.inl B;go_wp2_with fail
   all_goals
    go_ret;rw[b.out];exact⟨rfl,⟨u,k,gw⟩,l⟩
end
section
open Go.RowKit Go.Lib Go.Sort
def cD(l:List dk)(s:Nat):List (List η):=(l.filter λf=>f.set==s).map (·.path)
def EV(fs:List dk)(s k:Nat)(hk:k<fs.length):cD (fs.take (k+1)) s=if fs[k].set=s then cD (fs.take k) s++[fs[k].path]else cD (fs.take k) s:=by
 unfold cD;rw[ac0 hk,ϕ4,ϒ2];by_cases h:fs[k].set=s;simp[h];simp[h]
def yV(l:List dk)(s:Nat):(cD l s).length<=l.length:=by unfold cD;rw[af2];exact ϐ2 ..
end
section
open Go.RowKit
def d9(n:Nat)(l:ϓ):Array Bool:=((range n).map λj=>l.contains j).toArray
def IA(n i:Nat)(l:ϓ):(d9 n l).setIfInBounds i true=d9 n (i::l):=by
 unfold d9;rw[ϓ9];congr 1;refine an2 λj=>?_
 rw[List.getElem?_set];by_cases e:i=j;subst e;rw[κ rfl,af2,ϐ7];by_cases h:i<n;rw[κ h,List.getElem?_map,List.getElem?_range h];simp;rw[Γ h,ai7 (by simp;omega)];rw[Γ e,List.getElem?_map,List.getElem?_map];by_cases h:j<n;rw[List.getElem?_range h];simp;exactλq=>absurd q.symm e
 rw[ai7 (by simp;omega)];rfl
def Pt(P:aa1)(ops:Ϝ)(Q:ϔ)(n:Nat)(l:ϓ)(a:Act)(w:Φ):Prop:=wpAny P .any ops Q (n-l.length) (d9 n l) a w
section
variable {P:aa1}{ops:Array Oper}{Q:Exit->Act->Φ->Prop}
def eN{id:Nat}(n:Nat)(b:ops.size=n)(h:Pt P ops Q n [] a w.drew)(hm:P.follows .mixedOrders=true:=by kernel_rfl):(Code.region id ops true).wp P Q a w:=by
 refine ej n (hm:=hm) b ?_;have e:upto n 0=d9 n []:=by unfold upto d9;congr 1
 unfold At;rw[e];exact h
def rU(b:l.length<n)(h:Pt P ops Q n (i::l) a w):wpAny P .any ops Q (n-l.length-1) ((d9 n l).setIfInBounds i true) a w:=by
 unfold Pt at h;rw[IA,show n-l.length-1=n-(i::l).length by rw[ϲ];omega];exact h
def aA(i:Nat)(d:l.length<n)(b:Ϟ)(f:ops[i]?=some oi)(hd:oi.dst=b)(hs:Region.noSelect ops=true)(hf:Region.free .any ops (d9 n l) i=true)(hr:(ready .any ops (d9 n l)).contains i=true)(g:∀c a w,Q (.panic c) (a.put oi.dst v) w->Q (.panic c) a w)(hg:oi.guard=none)(e:∀w,(execOp a.eval oi).run P w=.ok (.value v) w)(h:Pt P ops Q n (i::l) (a.put b v) w):Pt P ops Q n l a w:=by
 subst hd;have:=Av (fuel:=n-l.length-1) f hs hf hr g hg e (rU d h);unfold Pt
 rwa [show n-l.length-1+1=n-l.length by omega]at this
def jM(i:Nat)(C:ϣ)(d:Lets C)(m:C w)(e:l.length<n)(b:Ϟ)(g:ops[i]?=some oi)(hd:oi.dst=b)(hs:Region.noSelect ops=true)(hf:Region.free .any ops (d9 n l) i=true)(hr:(ready .any ops (d9 n l)).contains i=true)(f:∀c a w,Q (.panic c) (a.put oi.dst v) w->Q (.panic c) a w)(hg:oi.guard=none)(j:(others .any ops (d9 n l) i).all (yF P)=true)(k:∀w,C w->(execOp a.eval oi).run P w=.ok (.value v) w)(h:Pt P ops Q n (i::l) (a.put b v) w):Pt P ops Q n l a w:=by
 subst hd;have:=G3 (fuel:=n-l.length-1) C d m g hs hf hr f hg j k (rU e h);unfold Pt
 rwa [show n-l.length-1+1=n-l.length by omega]at this
def O6(i:Nat)(c:l.length<n)(d:ops[i]?=some oi)(hr:ready .any ops (d9 n l)=[i])(hg:oi.guard=none)(h:∀K:Act->Φ->Prop,(∀a w,Pt P ops Q n (i::l) a w->K a w)->oi.wp P a w K Q):Pt P ops Q n l a w:=by
 have:=yp (Q:=Q) (P:=P) (fuel:=n-l.length-1) hr d hg λK b=>h K λa w e=>b a w (rU c e)
 unfold Pt
 rwa [show n-l.length-1+1=n-l.length by omega]at this
def ZF(i:Nat)(d:l.length<n)(b:Ϟ)(e:ops[i]?=some oi)(hd:oi.dst=b)(hr:ready .any ops (d9 n l)=[i])(hg:oi.guard=none)(v:Θ)(w1:Φ)(c:(execOp a.eval oi).run P w=.ok (.value v) w1)(h:Pt P ops Q n (i::l) (a.put b v) w1):Pt P ops Q n l a w:=by
 subst hd;have:=D9 (fuel:=n-l.length-1) hr e hg v w1 c (rU d h);unfold Pt
 rwa [show n-l.length-1+1=n-l.length by omega]at this
def pz(i:Nat)(d:l.length<n)(b:Ϟ)(e:ops[i]?=some oi)(hd:oi.dst=b)(hr:ready .any ops (d9 n l)=[i])(hg:oi.guard=none)(w1:Φ)(c:(execOp a.eval oi).run P w=.ok .skip w1)(h:Pt P ops Q n (i::l) (a.put b ϗ) w1):Pt P ops Q n l a w:=by
 subst hd;have:=G4 (fuel:=n-l.length-1) hr e hg w1 c (rU d h);unfold Pt
 rwa [show n-l.length-1+1=n-l.length by omega]at this
def fR(hr:ready .any ops (d9 n l)=[])(h:Q .normal a w):Pt P ops Q n l a w:=by
 unfold Pt;exact wpAny_done hr h _
def gq(i:Nat)(c:l.length<n)(b:Ϟ)(d:ops[i]?=some oi)(hd:oi.dst=b)(hr:ready .any ops (d9 n l)=[i])(hg:oi.guard=none)(f:ac5)(args:ϐ)(j:(execOp a.eval oi).run P w=.ok (.enter f args) w)(R:Ϭ)(g:Calls P f args w R)(h:∀e w',R e w'->∃v,e=.returned v/\Pt P ops Q n (i::l) (a.put b v) w'):Pt P ops Q n l a w:=
 O6 i c d hr hg λK m=>by unfold Oper.wp;rw[j];simp only[Oper.upon];refine g.mono ?_;intro e w' k;obtain⟨v,rfl,hv⟩:=h e w' k;rw[hd];exact m _ _ hv
end
end
section
open Go.RowKit Go.Lib
section
variable {P:aa1}{C:Φ->Prop}
def aF.extract(v:Θ)(i:Nat):aF P C (Instr.extract v i):=by
 unfold Instr.extract
 (repeat' first|exact aF.pure _|exact aF.stuck _|exact aF.halt _|(refine aF.bind ?_ λ_=>?_)|split|(dsimp only;split))
def ez.extract{o:Oper}{x:ac4}{i:Nat}(a:o.op=.extract x i):ez P C o:=.mI (λρ=>Instr.extract (ρ x) i) (λρ=>by simp only[execOp,a]) λ_=>aF.extract _ _
def Eu(P:aa1)(o:Oper):Bool:=match o.op with
 |.extract .. =>true
 |_=>yF P o
def ez.Eu(a:Lets C){o:Oper}(h:Eu P o=true):ez P C o:=by
 unfold Go.Proofs.YtchcmhodnkgojaaGreat.Eu at h;split at h;exact ez.extract (by assumption);exact ez.yF a h
end
section
variable {P:aa1}{ops:Array Oper}{Q:Exit->Act->Φ->Prop}
def dr(i:Nat)(C:ϣ)(d:Lets C)(p:C w)(e:l.length<n)(b:Ϟ)(j:ops[i]?=some oi)(hd:oi.dst=b)(hs:Region.noSelect ops=true)(hf:Region.free .any ops (d9 n l) i=true)(hr:(ready .any ops (d9 n l)).contains i=true)(f:∀c a w,Q (.panic c) (a.put oi.dst v) w->Q (.panic c) a w)(hg:oi.guard=none)(k:(others .any ops (d9 n l) i).all (Eu P)=true)(m:∀w,C w->(execOp a.eval oi).run P w=.ok (.value v) w)(h:Pt P ops Q n (i::l) (a.put b v) w):Pt P ops Q n l a w:=by
 subst hd;have:=Au (fuel:=n-l.length-1) C j hs hf hr f hg p (Gives.val m) _ rfl (λo g=>ez.Eu d (ae7.1 k o g)) (rU e h);unfold Pt
 rwa [show n-l.length-1+1=n-l.length by omega]at this
end
def cG{w:Φ}{a:Addr}{v:Θ}(h:w.cell? a=some v):a.block<w.heap.size:=by
 unfold World.cell? at h;cases b:w.heap[a.block]? with|none=>rw[b]at h;simp at h|some o=>exact(Ψ.1 b).1
section
variable {P:aa1}{ops:Array Oper}{Q:Exit->Act->Φ->Prop}{n:Nat}{l:List Nat}{a:Act}{w:Φ}
def pp(i d:Nat)(h:Pt P ops Q n (i::l) (a.put (some d) v) w)(f:ops[i]?=some oi:=by exact rfl)(hd:oi.dst=some d:=by exact rfl)(hg:oi.guard=none:=by exact rfl)(b:∀w,(execOp a.eval oi).run P w=.ok (.value v) w:=by intro w;go_simp;rfl)(e:l.length<n:=by decide)(hs:Region.noSelect ops=true:=by kernel_rfl)(hf:Region.free .any ops (d9 n l) i=true:=by kernel_rfl)(hr:(ready .any ops (d9 n l)).contains i=true:=by kernel_rfl)(g:∀c a w,Q (.panic c) (a.put oi.dst v) w->Q (.panic c) a w:=by exactλ_ _ _ h=>h):Pt P ops Q n l a w:=aA i e (some d) f hd hs hf hr g hg b h
def UC(ad:Addr)(v:Θ):Lets (λw=>w.cell? ad=some v):=⟨λw o h=>by rw[World.cell?_alloc_lt (h:=cG h)];exact h,λw h=>h⟩
def pl(i d:Nat){ad:Addr}(m:w.cell? ad=some v)(h:Pt P ops Q n (i::l) (a.put (some d) v) w)(g:ops[i]?=some oi:=by exact rfl)(hd:oi.dst=some d:=by exact rfl)(hg:oi.guard=none:=by exact rfl)(k:∀w,w.cell? ad=some v->(execOp a.eval oi).run P w=.ok (.value v) w:=by intro w' f;go_simp)(b:l.length<n:=by decide)(hs:Region.noSelect ops=true:=by kernel_rfl)(hf:Region.free .any ops (d9 n l) i=true:=by kernel_rfl)(hr:(ready .any ops (d9 n l)).contains i=true:=by kernel_rfl)(e:∀c a w,Q (.panic c) (a.put oi.dst v) w->Q (.panic c) a w:=by exactλ_ _ _ h=>h)(j:(others .any ops (d9 n l) i).all (Eu P)=true:=by kernel_rfl):Pt P ops Q n l a w:=dr i _ (UC ad v) m b (some d) g hd hs hf hr e hg j k h
def pb{id:Nat}(n:Nat)(h:Pt P ops Q n [] a w.drew)(hm:P.follows .mixedOrders=true:=by kernel_rfl)(b:ops.size=n:=by exact rfl):(Code.region id ops true).wp P Q a w:=eN n (hm:=hm) b h
def pv(i d:Nat)(e:ops[i]?=some oi)(hr:(execOp a.eval oi).run P w=.ok (.value v) w1)(h:Pt P ops Q n (i::l) (a.put (some d) v) w1)(hd:oi.dst=some d:=by exact rfl)(hg:oi.guard=none:=by exact rfl)(b:l.length<n:=by decide)(c:ready .any ops (d9 n l)=[i]:=by kernel_rfl):Pt P ops Q n l a w:=ZF i b (some d) e hd c hg v w1 hr h
def pst(i:Nat)(h:Pt P ops Q n (i::l) (a.put none ϗ) w1)(c:ops[i]?=some oi:=by exact rfl)(hd:oi.dst=none:=by exact rfl)(hg:oi.guard=none:=by exact rfl)(hr:(execOp a.eval oi).run P w=.ok .skip w1:=by go_simp;rfl)(b:l.length<n:=by decide)(d:ready .any ops (d9 n l)=[i]:=by kernel_rfl):Pt P ops Q n l a w:=pz i b none c hd d hg w1 hr h
def pc(i d:Nat){f:ac5}{R:Ϭ}(j:Calls P f args w R)(h:∀e w',R e w'->∃v,e=.returned v/\Pt P ops Q n (i::l) (a.put (some d) v) w')(g:ops[i]?=some oi:=by exact rfl)(hd:oi.dst=some d:=by exact rfl)(hg:oi.guard=none:=by exact rfl)(c:l.length<n:=by decide)(hr:ready .any ops (d9 n l)=[i]:=by kernel_rfl)(b:(execOp a.eval oi).run P w=.ok (.enter f args) w:=by go_simp):Pt P ops Q n l a w:=gq i c (some d) g hd hr hg f args b R j h
def pd(h:Q .normal a w)(hr:ready .any ops (d9 n l)=[]:=by kernel_rfl):Pt P ops Q n l a w:=fR hr h
end
structure Step (P:aa1)(ops:Array Oper)(Q:Exit->Act->Φ->Prop)(n m:Nat)(l:List Nat)(i:Nat)(a:Act)(w:Φ):Prop where
 ex:∃oi,ops[i]?=some oi/\oi.guard=none/\∀K:Act->Φ->Prop,(∀a w,yt P ops Q n m (i::l) a w->K a w)->oi.wp P a w K Q
section
variable {P:aa1}{ops:Array Oper}{Q:Exit->Act->Φ->Prop}{n m:Nat}{l:List Nat}{a:Act}{w:Φ}
def zP(i:Nat)(d:ops[i]?=some oi)(hg:oi.guard=none)(b:Ϟ)(hd:oi.dst=b)(v:Θ)(w1:Φ)(hr:(execOp a.eval oi).run P w=.ok (.value v) w1)(h:yt P ops Q n m (i::l) (a.put b v) w1):Step P ops Q n m l i a w:=
 ⟨oi,d,hg,λK c=>by subst hd;unfold Oper.wp;rw[hr];exact c _ _ h⟩
def Od(i:Nat)(c:ops[i]?=some oi)(hg:oi.guard=none)(b:Ϟ)(hd:oi.dst=b)(v:Θ)(hr:(execOp a.eval oi).run P w=.ok (.value v) w)(h:yt P ops Q n m (i::l) (a.put b v) w):Step P ops Q n m l i a w:=zP i c hg b hd v w hr h
def cZ(i:Nat)(j:ops[i]?=some oi)(hg:oi.guard=none)(b:Ϟ)(hd:oi.dst=b)(f:ac5)(args:ϐ)(hr:(execOp a.eval oi).run P w=.ok (.enter f args) w)(R:Ϭ)(d:Calls P f args w R)(h:∀e w',R e w'->∃v,e=.returned v/\yt P ops Q n m (i::l) (a.put b v) w'):Step P ops Q n m l i a w:=
 ⟨oi,j,hg,λK c=>by subst hd;unfold Oper.wp;rw[hr];simp only[Oper.upon];refine d.mono ?_;intro e w' g;obtain⟨v,rfl,hv⟩:=h e w' g;exact c _ _ hv⟩
def EA(i:Nat)(c:ops[i]?=some oi)(hg:oi.guard=none)(b:Ϟ)(hd:oi.dst=b)(f:ac5)(args:ϐ)(hr:(execOp a.eval oi).run P w=.ok (.enter f args) w)(d:Calls P f args w λe w'=>e=.returned v/\w'=w)(h:yt P ops Q n m (i::l) (a.put b v) w):Step P ops Q n m l i a w:=
 cZ i c hg b hd f args hr _ d (by rintro e w'⟨rfl,rfl⟩;exact⟨_,rfl,h⟩)
def pg(i:Nat)(b:ops[i]?=some oi)(hg:oi.guard=none)(h:∀K:Act->Φ->Prop,(∀a w,yt P ops Q n m (i::l) a w->K a w)->oi.wp P a w K Q):Step P ops Q n m l i a w:=⟨oi,b,hg,h⟩
def Jr(is:ϓ)(c:is≠[])(hr:ready .any ops (marks n l)=is)(b:∀i∈is,i<n)(h:∀i∈is,Step P ops Q n m l i a w):yt P ops Q n (m+1) l a w:=
 wpAny_all hr (by simpa using c) λi d=>by have⟨oi,h1,h2,e⟩:=h i d;unfold wpOp;simp only[h1];rw[κ (by simp[wanted,h2])];exact .inl (e _ λa w x=>by rw[v7 n i l (b i d)];exact x)
def bi(i:Nat)(hr:ready .any ops (marks n l)=[i])(b:i<n)(h:Step P ops Q n m l i a w):yt P ops Q n (m+1) l a w:=
 Jr [i] ϛ hr (by simpa using b) (by simpa using h)
def dD(i j:Nat)(hr:ready .any ops (marks n l)=[i,j])(b:i<n)(c:j<n)(h1:Step P ops Q n m l i a w)(h2:Step P ops Q n m l j a w):yt P ops Q n (m+1) l a w:=
 Jr [i,j] ϛ hr (by simp[b,c]) (by simp[h1,h2])
end
def fj{o:Oper}(t e:θ)(size a:Nat)(E:Elem P t e size a)(x:ac4)(b:o.op=.buildSlice t 1 #[(0,x)])(W4:size<=1000)(v:Θ)(c:ρ x=v)(hv:v.cells.size=size):
  (execOp ρ o).run P w=.ok (.value (.slice (some ⟨w.heap.size,0,none⟩) 1 1)) (w.alloc (.cells v.cells e)):=by
 have⟨i,z,h1,h2,g,f,d⟩:=E.open;exact wo t e x b E.slice i z v h1 h2 (by have:=E.pos;omega) ϖ c ϖ
def Ob(i:Nat)(g:ops[i]?=some oi)(hg:oi.guard=none)(d:Ϟ)(hd:oi.dst=d)(t e:θ)(size c:Nat)(E:Elem P t e size c)(x:ac4)(f:oi.op=.buildSlice t 1 #[(0,x)])(W4:size<=1000)(v:Θ)(j:a.eval x=v)(hv:v.cells.size=size)(h:∀b w',aG [] w w'->Row w' b v.cells e->yt P ops Q n m (i::l) (a.put d (.slice (some ⟨b,0,none⟩) 1 1)) w'):Step P ops Q n m l i a w:=
 zP i g hg d hd _ _ (fj t e size c E x f W4 v j hv) (h _ _ (aG.alloc ..) (Row.new ..))
def lW{l0:ϓ}{Y:Type}(l:ϓ)(C:Y->Prop)(A:Y->Act->Act)(W:Y->Φ)(h:∀y,C y->yt P ops Q n m l (A y a) (W y))(t:(∀y b,marks n b=marks n l->C y->yt P ops Q n m b (A y a) (W y))->yt P ops Q n k l0 a w):yt P ops Q n k l0 a w:=
 t λy b d c=>by have:=h y c;unfold yt at this⊢;rw[d];exact this
def Pi{c:Nat}{size:Nat}(h:w.ownsRow b e size v n xs)(f:c<=b):w.ownsRow c e size v n xs:=by
 have⟨h1,h2⟩:=h;refine⟨h1,?_⟩;obtain h2|⟨g,cap,a,e1,e2,d⟩:=h2;exact .inl h2;exact .inr ⟨g,cap,a,e1,ϖ,d⟩
section
variable {P:aa1}{ops:Array Oper}{Q:Exit->Act->Φ->Prop}{n m:Nat}{l:List Nat}{a:Act}{w:Φ}
def ab{id:Nat}(n:Nat)(h:yt P ops Q n n [] a w.drew)(hm:P.follows .mixedOrders=true:=by kernel_rfl)(b:ops.size=n:=by exact rfl):(Code.region id ops true).wp P Q a w:=ej n (hm:=hm) b (jg h)
def ap(i d:Nat)(h:yt P ops Q n m (i::l) (a.put (some d) v) w)(e:ops[i]?=some oi:=by exact rfl)(hd:oi.dst=some d:=by exact rfl)(hg:oi.guard=none:=by exact rfl)(b:∀w,(execOp a.eval oi).run P w=.ok (.value v) w:=by intro w;go_simp;rfl)(hk:i<n:=by decide)(hs:Region.noSelect ops=true:=by kernel_rfl)(hf:Region.free .any ops (marks n l) i=true:=by kernel_rfl)(hr:(ready .any ops (marks n l)).contains i=true:=by kernel_rfl)(f:∀c a w,Q (.panic c) (a.put oi.dst v) w->Q (.panic c) a w:=by exactλ_ _ _ h=>h):yt P ops Q n (m+1) l a w:=bh i (hk:=hk) (some d) e hd (hs:=hs) (hf:=hf) (hr:=hr) f hg b h
def aO(i:Nat)(h:Step P ops Q n m l i a w)(hr:ready .any ops (marks n l)=[i]:=by decide+kernel)(b:i<n:=by decide):yt P ops Q n (m+1) l a w:=bi i hr b h
def aT(i j:Nat)(h1:Step P ops Q n m l i a w)(h2:Step P ops Q n m l j a w)(hr:ready .any ops (marks n l)=[i,j]:=by decide+kernel)(c:i<n:=by decide)(b:j<n:=by decide):yt P ops Q n (m+1) l a w:=dD i j hr c b h1 h2
def aR(i j k:Nat)(h1:Step P ops Q n m l i a w)(h2:Step P ops Q n m l j a w)(d:Step P ops Q n m l k a w)(hr:ready .any ops (marks n l)=[i,j,k]:=by decide+kernel)(b:i<n:=by decide)(c:j<n:=by decide)(hk:k<n:=by decide):yt P ops Q n (m+1) l a w:=Jr [i,j,k] ϛ hr (by simp[b,c,hk]) (by simp[h1,h2,d])
def ad(h:Q .normal a w)(hr:ready .any ops (marks n l)=[]:=by kernel_rfl):yt P ops Q n m l a w:=j3 hr h
def sv(i d:Nat)(h:yt P ops Q n m (i::l) (a.put (some d) v) w1)(b:ops[i]?=some oi:=by exact rfl)(hd:oi.dst=some d:=by exact rfl)(hg:oi.guard=none:=by exact rfl)(hr:(execOp a.eval oi).run P w=.ok (.value v) w1:=by go_simp;exact⟨rfl,rfl⟩):Step P ops Q n m l i a w:=zP i b hg (some d) hd v w1 hr h
def sp(i d:Nat){f:ac5}(c:Calls P f args w λe w'=>e=.returned v/\w'=w)(h:yt P ops Q n m (i::l) (a.put (some d) v) w)(b:ops[i]?=some oi:=by exact rfl)(hd:oi.dst=some d:=by exact rfl)(hg:oi.guard=none:=by exact rfl)(hr:(execOp a.eval oi).run P w=.ok (.enter f args) w:=by go_simp):Step P ops Q n m l i a w:=EA i b hg (some d) hd f args hr c h
def sk(i:Nat)(h:yt P ops Q n m (i::l) (a.put none ϗ) w1)(c:ops[i]?=some oi:=by exact rfl)(hd:oi.dst=none:=by exact rfl)(hg:oi.guard=none:=by exact rfl)(hr:(execOp a.eval oi).run P w=.ok .skip w1:=by go_simp;rfl):Step P ops Q n m l i a w:=
 ⟨oi,c,hg,λK b=>by unfold Oper.wp;rw[hr];refine b _ _ ?_;rw[hd];exact h⟩
def sc(i d:Nat){f:ac5}{R:Ϭ}(c:Calls P f args w R)(h:∀e w',R e w'->∃v,e=.returned v/\yt P ops Q n m (i::l) (a.put (some d) v) w')(b:ops[i]?=some oi:=by exact rfl)(hd:oi.dst=some d:=by exact rfl)(hg:oi.guard=none:=by exact rfl)(hr:(execOp a.eval oi).run P w=.ok (.enter f args) w:=by go_simp):Step P ops Q n m l i a w:=cZ i b hg (some d) hd f args hr R c h
end
def RD(s:Int)(p c:Ξ):prog.built 107 [(0,.agg (dJ s p)),(1,.string c)]=some #[.int .i64 s,.string p,.string c]:=ϰ
def DS.AP(x:DS)(n s:Nat)(p c:Ξ):DS×Θ:=
 if x.failed then(x,.int .i64 3)else if x.pending n then(x,.int .i64 4)
 else if 7<kz (aS x n++[⟨s,p.data.toList,c.data.toList⟩])then(x,.int .i64 6)else x.put n s p c
def K8(F:ϓ)(s d n:Nat)(x:DS)(b:Nat)(p c:Ξ)(w:Φ)(h:oF w F s d n x)(hx:x.Fit 5)(fX:x.waiting.length<55)(hs:b<=1)(hp:aX p.data.toList=true)(av:p.size<=8)(aw:c.size<=96):
  Calls prog 39 #[.pointer (some ⟨s,0,none⟩),.int .i64 b,.string p,.string c] w λe w'=>e=.returned (x.AP n b p c).2/\(∃F',oF w' F' s d n (x.AP n b p c).1/\dw F F' w)/\aG F w w':=by
 have C:Hid (x.AP n b p c=if x.failed then(x,.int .i64 3)else if x.pending n then(x,.int .i64 4)else if 7<kz (aS x n++[⟨b,p.data.toList,c.data.toList⟩])then(x,.int .i64 6)else x.put n b p c):=rfl;have e1:((b:Int)==0||(b:Int)==1)=true:=by rcases(by omega:b=0\/b=1)with rfl|rfl<;>rfl
 go_enter func39,ntmps39;go_wp2_with fail;refine(dQ F s d n x w h).mono ?_;rintro e w1⟨rfl,rfl⟩;go_wp2_with fail;refine(kv b w1).mono ?_;rintro e w2⟨rfl,rfl⟩;rw[e1];go_wp2_with fail;refine(iE p w2 ϖ).mono ?_;rintro e w3⟨rfl,f3⟩;rw[hp];have h3:=h.new f3;have aq:¬(c.size:Int)>96:=ϖ;go_wp2_with fail;refine(oh F s d n x w3 h3).mono ?_;rintro e w4⟨rfl,f4⟩;have h4:=h3.new f4;have fw:=f3.trans f4;cases hf:x.failed with
 |true=>
  rw[hf]at C;have j:Hid (x.AP n b p c=(x,.int .i64 3)):=by show _=_;rw[C.out];rfl
  simp only[if_true];go_wp2_with fail
  all_goals
   go_ret;rw[j.out];exact⟨rfl,⟨F,h4,dw.refl _ _⟩,fw.mono⟩
 |false=>
  rw[hf]at C;cases P:x.pending n with
  |true=>
   rw[P]at C;have j:Hid (x.AP n b p c=(x,.int .i64 4)):=by show _=_;rw[C.out];rfl
   simp only[if_true,ab6,if_false];go_wp2_with fail
   all_goals
    go_ret;rw[j.out];exact⟨rfl,⟨F,h4,dw.refl _ _⟩,fw.mono⟩
  |false=>
   rw[P]at C;simp only[ab6,if_false];go_wp2_with (with_reducible first|refine bC 103 rfl ?_|refine bC 107 rfl ?_|refine au rfl ?_|refine ah 107 rfl ?_);refine bX rfl (.agg (dJ b p)) w4 (jd _ _ rfl _ (Am b p)) ?_;go_wp2_with (with_reducible first|refine bC 107 rfl ?_|refine au rfl ?_|refine ah 107 rfl ?_);refine bX rfl (.agg #[.int .i64 b,.string p,.string c]) w4 (jd _ _ rfl _ (RD b p c)) ?_;go_wp2_with (with_reducible first|refine au rfl ?_|refine ah 107 rfl ?_);refine aas 107 lY _ eS λw6 f l5 f5 q6=>?_;have ZA:Row w6 f #[.int .i64 b,.string p,.string c] 107:=q6;have M:=f5;have h6:=h4.new M;have sb:=fw.trans M;clear q6 f5 M h4 h3 l5;go_wp2_with fail;refine ej 10 rfl ?_;refine jg ?_;have fd:aG [] w6 w6.drew:=aG.drew _ _;have r:=h6.new fd
   have B:=fd.row ZA;have A:=sb.trans fd;generalize w6.drew=z at r B A;clear fd h6 ZA sb fw f3 f4;have fb:=A;replace A:aG [] z z:=aG.refl _ _;refine ap 0 36 ?_;refine ap 1 37 ?_;refine ap 2 38 ?_;simp only[puts];refine lW (m:=3) [6,5,4,3,2,1,0] (λ(y:Θ×Nat×Φ)=>oF y.2.2 F s d n x/\Row y.2.2 f #[.int .i64 b,.string p,.string c] 107/\aG [] z y.2.2/\y.2.2.ownsRow z.heap.size 107 3 y.1 (aS x n).length (jc (aS x n))/\Row y.2.2 y.2.1 #[.int .i64 b,.string p,.string c] 107) (λy a=>((((a.put (some 39) (.pointer (some ⟨d,0,none⟩))).put (some 40) y.1).put (some 41) (.agg #[.int .i64 b,.string p,.string c])).put (some 42) (.slice (some ⟨y.2.1,0,none⟩) 1 1))) (λy=>y.2.2) ?_ ?_
   .rintro⟨v,O,w8⟩ ⟨h8,q8,t7,N,r8⟩;simp only at h8 q8 t7 N r8;simp only[puts];have ac:(aS x n).length<=54:=by unfold aS;rw[af2];exact fM x n
    have HF:Hid (jc (aS x n++[⟨b,p.data.toList,c.data.toList⟩])=jc (aS x n)++[.int .i64 b,.string p,.string c]):=by show _=_;rw[vi];rfl
    have t:∀k,v.ownBlock=some k->z.heap.size<=k:=λk hk=>(N.lt k hk).1
    have al:=r.row.lt;have S:=λk hk=>r.disk.lt k hk
    have aa:=B.lt;clear r B;refine aO 7 (pg 7 rfl rfl λK hK=>iL 104 107 3 40 sj _ _ rfl z.heap.size v _ _ rfl N O 1 1 [.int .i64 b,.string p,.string c] rfl _ _ r8 rfl rfl (by simp[Value.oneCell']) ϖ ϖ ϖ t7.size λg cap Q o9 u _=>hK _ _ ?_);have q9:=u.row q8 (by intro hk;have:=t f (by simpa using hk);omega);have h9:oF Q F s d n x:=⟨u.row h8.row (by intro hk;have:=t s (by simpa using hk);omega),h8.disk.ky u λk hk hF=>by have:=t k (by simpa using hk);have:=S k hF;omega,h8.ne⟩
    have Xb:aG [] z Q:=t7.trans u λk hk=>.inr (t k (by simpa using hk));have Z:aG [] w2 Q:=fb.trans Xb;clear h8 q8 t7 N r8 u t al S aa fb A Xb
    change yt _ _ _ _ _ _ (Act.put _ (some 43) _) _
    simp only[puts];have G:(aS x n++[(⟨b,p.data.toList,c.data.toList⟩:dk)]).length=(aS x n).length+1:=ϛ;have q:=Cs z.heap.size (.slice (some ⟨g,0,none⟩) ((aS x n).length+1) cap) (aS x n++[⟨b,p.data.toList,c.data.toList⟩]) Q (by rw[G,HF.out];exact o9) ϖ;clear o9 HF G ac;generalize (aS x n).length+1=ln at*;refine aO 8 (cZ 8 rfl rfl (some 44) rfl 75 #[.slice (some ⟨g,0,none⟩) ln cap] (by go_simp) _ q ?_);rintro e U⟨rfl,fc⟩;refine⟨_,rfl,?_⟩;have hc:=h9.new fc;have qc:=fc.row q9;have J:=Z.trans fc;clear q h9 q9 Z fc;generalize kz (aS x n++[⟨b,p.data.toList,c.data.toList⟩])=m at*;simp only[puts];by_cases hm:7<m
    .have j:Hid (x.AP n b p c=(x,.int .i64 6)):=by show _=_;rw[C.out];simp[hm]
     refine aO 9 (zP 9 rfl rfl (some 45) rfl (.bool true) U (by go_simp;omega) ?_);refine ad ?_;simp only[puts];go_wp2_with fail
     all_goals
      go_ret;rw[j.out];exact⟨rfl,⟨F,hc,dw.refl _ _⟩,J.mono⟩
    .have j:Hid (x.AP n b p c=x.put n b p c):=by show _=_;rw[C.out];simp[hm]
     refine aO 9 (zP 9 rfl rfl (some 45) rfl (.bool false) U (by go_simp;omega) ?_);refine ad ?_;simp only[puts];clear hm;go_wp2_with fail;refine ej 7 rfl ?_;have E:aG [] U U.drew:=aG.drew _ _;have hd:=hc.new E;have qd:=E.row qc;have D:=J.trans E;generalize U.drew=wd at hd qd D;clear E hc qc J C hK;have V:Lets (λw':Φ=>Row w' s #[.pointer (some ⟨d,0,none⟩)] 96):=⟨λw o h=>(aG.alloc [] w o).row h,λw h=>h⟩
     have X:Lets (λw':Φ=>Row w' f #[.int .i64 b,.string p,.string c] 107):=⟨λw o h=>(aG.alloc [] w o).row h,λw h=>h⟩
     refine cE 0 (some 46) rfl rfl (λ_ _ _ h=>h) rfl (v:=.pointer (some ⟨s,0,none⟩)) (λ_=>rfl) ?_;refine cE 1 (some 47) rfl rfl (λ_ _ _ h=>h) rfl (v:=.pointer (some ⟨s,0,none⟩)) (λ_=>by go_simp) ?_;refine cE 2 (some 48) rfl rfl (λ_ _ _ h=>h) rfl (v:=.pointer (some ⟨s,0,none⟩)) (λ_=>by go_simp) ?_;simp only[puts];refine nO 3 _ V hd.row (some 49) rfl rfl (λ_ _ _ h=>h) rfl (v:=.pointer (some ⟨d,0,none⟩)) (λw' L=>by have:=L.cell 0;go_simp) ?_;simp only[puts];refine nO 4 _ X qd (some 50) rfl rfl (λ_ _ _ h=>h) rfl (v:=.agg #[.int .i64 b,.string p,.string c]) (λw' L=>jV 107 _ rfl f 0 rfl kV 3 eS _ _ L [.int .i64 b,.string p,.string c] rfl rfl) ?_;simp only[puts];refine G0 5 ϖ (some 51) rfl rfl ϰ rfl 76 #[.pointer (some ⟨d,0,none⟩),.agg #[.int .i64 b,.string p,.string c]] (by go_simp) _ (zl F d n x b p c wd hd.disk hx fX ϖ ϖ ϖ) ?_;rintro e we⟨rfl,Fe,he,fe,ge⟩;refine⟨_,rfl,?_⟩;have gw:=(dw.refl F w2).trans ge D.size;have am:oF we Fe s d n (x.put n b p c).1:=⟨fe.row hd.row hd.ne,he,λhF=>(gw s hF).elim h.ne λhh=>by have:=h.row.lt;omega⟩
     have ag:aG F w2 we:=(D.mono (T:=F) ϛ).trans fe λi hi=>.inl hi;clear V X hd qd D he fe ge;refine cE 6 (some 8) rfl rfl (λ_ _ _ h=>h) rfl (v:=(x.put n b p c).2) (λ_=>rfl) ?_;simp only[puts];refine nQ ?_;generalize Y:x.put n b p c=y at*;have ar:Hid (x.put n b p c=y):=Y;clear Y;go_wp2_with fail
     all_goals
      go_ret;rw[j.out];exact⟨rfl,⟨Fe,am,gw⟩,ag⟩
   intro wJ;have H:∀v O l,marks 10 l=marks 10 [6,5,4,3,2,1,0]->∀I,oF I F s d n x->Row I f #[.int .i64 b,.string p,.string c] 107->aG [] z I->I.ownsRow z.heap.size 107 3 v (aS x n).length (jc (aS x n))->Row I O #[.int .i64 b,.string p,.string c] 107->_:=λv O l hl I a1 a2 a3 a4 a5=>wJ (v,O,I) l hl ⟨a1,a2,a3,a4,a5⟩
   simp only[puts]at H;clear wJ;have r7:True:=trivial;have o7:True:=trivial
   repeat' first
    |((
      first
      |refine aT 3 5 ?_ ?_
      |refine aT 4 5 ?_ ?_
      |refine aT 4 6 ?_ ?_
      |refine aT 3 6 ?_ ?_
      |refine aO 3 ?_
      |refine aO 4 ?_
      |refine aO 5 ?_
      |refine aO 6 ?_)<;>first
      |(
        show Step _ _ _ _ _ _ 3 _ _;refine Od 3 rfl rfl (some 39) rfl (.pointer (some ⟨d,0,none⟩)) (by have c0:=r.cell;go_simp) ?_;simp only[puts])
      |(
        show Step _ _ _ _ _ _ 4 _ _;have⟨an,ao,R⟩:=r.oz;refine cZ 4 rfl rfl (some 40) rfl 51 #[.pointer (some ⟨d,0,none⟩)] (by go_simp) _ (yq d an n ao x _ R) ?_;rintro e w8⟨v,rfl,N,W⟩;refine⟨v,rfl,?_⟩;replace o7:=Pi N A.size;replace r:=r.new W;replace B:=W.row B;replace A:=A.trans W
        try replace r7:=W.row r7
        clear W R;simp only[puts])
      |(
        show Step _ _ _ _ _ _ 5 _ _;refine zP 5 rfl rfl (some 41) rfl (.agg #[.int .i64 b,.string p,.string c]) _ (jV 107 _ rfl f 0 rfl kV 3 eS _ _ B [.int .i64 b,.string p,.string c] rfl rfl) ?_;simp only[puts])
      |(
        show Step _ _ _ _ _ _ 6 _ _;refine Ob 6 rfl rfl (some 42) rfl 104 107 3 40 sj _ rfl ϖ (.agg #[.int .i64 b,.string p,.string c]) rfl rfl ?_;intro O Q u r9;replace r:=r.new u;replace B:=u.row B;replace A:=A.trans u
        try replace o7:=u.owns o7
        replace r7:=r9;clear u;simp only[puts]))
    |exact H _ _ _ ϰ _ r B A o7 r7
def ja(c:Int)(n:Nat):Nat:=((if c<0 then -(c+1)else c)%(n:Int)).toNat
def zr(c:Int)(n:Nat)(h:0<n):ja c n<n:=by
 unfold ja;have h1:=Int.emod_lt_of_pos (if c<0 then -(c+1)else c) (show(0:Int)<n by omega);have h2:=Int.emod_nonneg (if c<0 then -(c+1)else c) (show(n:Int)≠0 by omega);omega
def In(c:Int)(n:Nat)(h:0<n):((ja c n:Nat):Int)=(if c<0 then -(c+1)else c)%(n:Int):=by
 unfold ja;have h2:=Int.emod_nonneg (if c<0 then -(c+1)else c) (show(n:Int)≠0 by omega);omega
end
end
end Go.Proofs.YtchcmhodnkgojaaGreat
