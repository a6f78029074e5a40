/- Calls is true at every input whose reading is of bulk at most 1048576: two stores of any sizes by turns, and a nil one, answer as the document says at every call: the given statement Rows.CallsUptoSaid, with no condition beside the row's own. -/
import Derived.Test.YtchcmhodnkgojaaGreatPart11
import Derived.Conc.HoldsTime
import Derived.Leaving
import Derived.ProofKit
import Derived.Carry
import Derived.Deep.Slices
import Derived.Lib.SmallJoins
import Derived.JoinedCond
set_option linter.all false
set_option maxRecDepth 100000
set_option maxHeartbeats 8000000
open Go.Proofs.Tryz
namespace Go.Proofs.YtchcmhodnkgojaaGreat
open Value (ren)
open Region (wanted)
open List (range)
noncomputable section
variable {R:Act->Φ->Prop}{a:Act}{W w w' w3 wL wq wz:Φ}{S rest:List Nat}{F F2:Nat->List Nat}{d g i k m n0 q s:Nat}{A n:Int}{x:ac4}{rs:RS}{L:List η}{av oC v:Θ}{l xs:List Θ}{args c:Array Θ}{ts:List (List Θ)}{ops:Array Oper}{o:Oper}{f2:ac5}{Post R2:Θ->Φ->Prop}{π:Nat->Nat}{H:Nat->Prop}{K:Nat->Option Obj}{t:θ}{apart:Bool}
section
open Go.RowKit Go.Lib Go.Sort
variable [OfNat Obj 0]
def rq(u:Ϡ):Nat->Nat->List Θ->List Θ
 |_,0,r=>r
 |i,k+1,r=>u i::rq u (i+1) k r
def SP{E:aB.Env}{f:ac5}{t:ϕ}(B:(Nat->Θ)->Act)(h:∀u,aB.CI E f t R (B u) wL)(e:a=B λi=>a.tmps.getD i ϗ:=by kernel_rfl):aB.CI E f t R a wL:=e▸h _
def th(g:Nat)(n:Nat)(B:Int)(v:Θ)(w':Φ):Prop:=v=.bool true/\∃c b a,aU w' g c b a B/\a.length<=n
def bR:Elem prog 71 122 5 112:=⟨ϰ,ϰ,ϖ⟩
def il.one{w:Φ}{t:ϝ}(h:il w t):∀q∈t,q.oneCell'=true:=by
 obtain⟨l,x,y,z,m,rfl,b,c,e,d⟩:=h;have f:=b.one;have o2:=c.one;have o3:=e.one;have o4:=d.one;intro q a;simp only[ac2,aj8,or_false]at a;obtain rfl|rfl|rfl|rfl|rfl:=a<;>first|assumption|rfl
def abf(g k b11 steps m:Nat)(a B:Int)(e:Ending)(w:Φ):Prop:=e=.returned (.bool true)/\w.cell? ⟨b11,0,none⟩=some (.int .i64 steps)/\(steps≠0->th g m B (.bool true) w)/\
 (steps=0->∃x,w.cell? ⟨g,k,none⟩=some x/\Calls prog 18 #[x] w λe w'=>e=.returned (.int .i64 a)/\th g m B (.bool true) w')
structure ag3 (g k b8 b11 steps:Nat)(st ev fv before B:Int)(t v v' av:Θ)(c:Array Θ)(xs:List (List η))(ts:List (List Θ))(base:Nat)(I:Φ->Prop):Prop where
 k2:k<=2
 small:ts.length<=1048000
 few:xs.length<=7
 c6:c[6]?=some av
 tape:∀w t d,I w->I (az w t d)
 new:∀{w w'},I w->aG [] w w'->I w'
 str:∀{w w'},I w->w.ownsRow base 9 1 v xs.length (bJ xs)->aG v.ownBlock.toList w w'->I w'
 fact:∀{w},I w->Row w b8 #[.int .i64 st,v] 58/\Row w b11 #[.int .i64 steps,v'] 58/\Row w g c 73/\rK w av ts/\1<=w.heap.size
 fin:∀{w1 w2 t' oC},I w1->il w1 t'->aG av.ownBlock.toList w1 w2->Row w2 g c 73->w2.ownsRow 1 122 5 oC (ts.length+1) (ts.flatten++t')->
  Calls Tryz.prog 62 #[.pointer (some ⟨g,0,none⟩),.int .i64 k,t,.int .i64 ev,.int .i64 fv] (w2.setCell ⟨g,6,none⟩ oC) (abf g k b11 steps (ts.length+1) before B)
def JD(g k n b8 b11:Nat)(ev b a:Int)(t:Θ)(u:Ϡ)(r:ϝ):Act:={tmps:=(.pointer (some ⟨g,0,none⟩)::.int .i64 k::.int .i64 n::rq u 3 4 (.int .i64 a::.pointer (some ⟨b8,0,none⟩)::.int .i64 ev::t::.pointer (some ⟨b11,0,none⟩)::.int .i64 b::r)).toArray,defers:=[]}
open gz gz.Sq in
def SO{E:aB.Env}{wL:Φ}{g k n b8 b11 steps:Nat}{U ev H b B:Int}{t v A av:Θ}{c:ϐ}{xs ys:List (List η)}{ts:List (List Θ)}{base base':Nat}{I:ϣ}(W:ag3 g k b8 b11 steps U ev H b B t v A av c xs ts base I)
  (hn:n<=1000000000) (Z:ys.length<=7) (d:I wL) (hv:wL.ownsRow base 9 1 v xs.length (bJ xs)) (p:wL.ownsRow base' 9 1 A ys.length (bJ ys)) (C:(ev=0/\xs=ys/\U=steps)\/(ev≠0/\xs=[]/\U=0))
  {u:Ϡ}{r0 r1 r2 r3 r4 r5 R:Code} (hcd:Tryz.f68.body=some (.seq r0 (.seq r1 (.seq r2 (.seq r3 (.seq r4 (.seq r5 R))))))):
  aB.CI E 68 [.code (.seq r4 (.seq r5 R))] (aB.ah0 Tryz.f68 (th g (ts.length+1) B)) (JD g k n b8 b11 ev H b t u (rq u 13 94 [])) wL:=by
 have ao:=W.k2;have an:=W.small;have fX:=W.few;have N:=(Code.seq.inj (Code.seq.inj (Code.seq.inj (Code.seq.inj (ag2 hcd)).2).2).2).2;have J:=(Code.seq.inj N).2;have e7:=(Code.seq.inj J).2;replace N:=(Code.seq.inj N).1;replace J:=(Code.seq.inj J).1;clear hcd;have f:∀(u:Ϡ)(wL:Φ),I wL->wL.ownsRow base 9 1 v xs.length (bJ xs)->aB.CI E 68 [.code R] (aB.ah0 Tryz.f68 (th g (ts.length+1) B)) (JD g k n b8 b11 ev H b t u (.bool true::rq u 14 93 [])) wL:=by
  clear d hv N J C p Z;intro u wL d hv;obtain rfl:=e7;unfold JD;simp only[rq];refine aB.cU none ⟨_,func68⟩ (λw=>I w/\w.ownsRow base 9 1 v xs.length (bJ xs)) (λw t k h=>⟨W.tape w t k h.1,h.2⟩) ⟨d,hv⟩ λw q i=>?_
  clear d hv i;have⟨d,hv⟩:=q
  go_upto_region 7 with fail
  refine ab 14 ?_;have X:aG [] w w.drew:=aG.drew ..;replace d:=W.new d X;replace hv:=X.owns hv;generalize w.drew=w at d hv;clear X;have cell:∀{w},I w->w.cell? ⟨g,6,none⟩=some av:=λh=>by rw[(W.fact h).2.2.1.cell];exact W.c6
  have S:=cell d;have L:=(W.fact d).1.val 1 v;refine ap 0 67 ?_;refine ap 1 68 ?_;refine ap 2 69 ?_;refine ap 3 70 ?_;refine ap 5 72 ?_;refine ap 7 74 ?_;simp only[puts];have D:=oR _ v xs n w hv ϖ hn;refine lW (m:=4) (Y:=List Θ×Nat×Φ) [9,8,6,4,7,5,3,2,1,0] (λy=>il y.2.2 y.1/\Row y.2.2 y.2.1 y.1.toArray 122/\I y.2.2) (λy a=>(((a.put (some 71) av).put (some 73) v).put (some 75) (.agg y.1.toArray)).put (some 76) (.slice (some ⟨y.2.1,0,none⟩) 1 1)) (λy=>y.2.2) ?_ λf=>?_
  .rintro⟨tx,P,wz⟩ ⟨o,Q,z⟩;replace o:il wz tx:=o;replace Q:Row wz P tx.toArray 122:=Q;replace z:I wz:=z;clear S L D d hv;have⟨_,_,rg,ha,hp⟩:=W.fact z;have l5:tx.length=5:=by obtain⟨_,_,_,_,_,rfl,_⟩:=id o;rfl
   simp only[puts];refine aO 10 (pg 10 rfl rfl λK hK=>iL 71 122 5 112 bR _ _ rfl 1 av ts.length ts.flatten rfl ha.row P 1 1 tx rfl _ _ Q (ν (by simp[l5])) ϖ o.one ϖ ϖ ϖ hp λga ca wq oq V _=>hK _ _ ?_);have rq:Row wq g c 73:=V.row rg λhi=>own_ne ha.row rg (by decide) (by simpa using hi);have s:=W.fin z o V rq oq;have S:=rq.val 6 av W.c6;have aa:=rq.thaw 6;clear V oq Q ha o z rg hp rq l5;refine ap 11 78 ?_;refine ap 12 79 ?_;simp only[puts];refine aO 13 (sk 13 ?_);refine ad ?_;simp only[puts];clear S aa;generalize wq.setCell ⟨g,6,none⟩ (.slice (some ⟨ga,0,none⟩) (ts.length+1) ca)=we at s⊢;go_wp2_with fail;refine s.mono ?_;rintro e wf⟨rfl,cb,h0,h1⟩;clear s;by_cases hs:steps=0
   .have⟨x,cx,hx⟩:=h1 hs;subst hs;clear h0 h1;go_wp2_with fail;refine hx.mono ?_;rintro e wg⟨rfl,hr⟩;clear hx;go_wp2;exact⟨wg.tape,wg.drawn,.bool true,ϰ,hr⟩
   .have hr:=h0 hs;have am:0<steps:=ϖ;have ag:(0:Int)<(steps:Int):=ϖ;have al:decide ((0:Int)<(steps:Int))=true:=decide_eq_true ag;clear h0 h1 hs;go_wp2;exact⟨wf.tape,wf.drawn,.bool true,ϰ,hr⟩
  simp only[puts]at f
  repeat' first
   |((
     first
     |refine aT 4 6 ?_ ?_
     |refine aT 4 8 ?_ ?_
     |refine aT 4 9 ?_ ?_
     |refine aO 4 ?_
     |refine aO 6 ?_
     |refine aO 8 ?_
     |refine aO 9 ?_)<;>first
     |(refine sv 4 71 ?_;simp only[puts])
     |(refine sv 6 73 ?_;simp only[puts])
     |(
       refine sc 8 75 D ?_;rintro e wk⟨T,hh,ii,mm,rfl,m1,m2,m3,m4,fk⟩;refine⟨_,rfl,?_⟩;have hk:=W.str d hv fk;have ht:il wk [v,T,hh,ii,.string mm]:=⟨_,_,_,_,_,rfl,m1,m2,m3,m4⟩
       have ck:=cell hk;simp only[puts])
     |(
       refine Ob 9 rfl rfl (some 76) rfl 71 122 5 112 bR _ rfl ϖ (.agg #[v,T,hh,ii,.string mm]) rfl rfl λP wz fz rz=>?_
       have z:=W.new hk fz;have hy:=ht.ky fz ϛ;have cz:=cell z;simp only[puts]))
   |exact f ([v,T,hh,ii,.string mm],P,wz) _ ϰ ⟨hy,rz,z⟩
 obtain rfl:=N;obtain⟨rfl,rfl,rfl⟩|⟨he,rfl,rfl⟩:=C
 .unfold JD;simp only[rq];refine aB.dI ?_;refine aB.cU none ⟨_,func68⟩ (λw=>I w/\w.ownsRow base 9 1 v xs.length (bJ xs)/\w.ownsRow base' 9 1 A xs.length (bJ xs)) (λw t k h=>⟨W.tape w t k h.1,h.2⟩) ⟨d,hv,p⟩ λw q i=>?_
  clear d hv p i;have⟨d,hv,p⟩:=q;have⟨j,r,_⟩:=W.fact d;have L:=j.val 1 v;have Xn:=r.val 1 A;clear j r;go_wp2_with fail;refine(n9 w _ _ v A xs xs hv p ϖ ϖ).mono ?_;rintro e wc⟨rfl,F⟩;replace d:=W.new d F;replace hv:=F.owns hv;have⟨j,r,_⟩:=W.fact d;have O:=j.val 0 (.int .i64 steps);have AG:=r.val 0 (.int .i64 steps);clear F j r L Xn p;rw[show decide (xs=xs)=true from decide_eq_true rfl];go_wp2_with fail;obtain rfl:=J;refine aB.dI ?_;refine aB.cU none ⟨_,func68⟩ (λw=>I w/\w.ownsRow base 9 1 v xs.length (bJ xs)) (λw t k h=>⟨W.tape w t k h.1,h.2⟩) ⟨d,hv⟩ λw q i=>?_
  go_wp2;exact SP (λu=>JD g k n b8 b11 0 H b t u (.bool true::rq u 14 93 [])) λu=>f u _ q.1 q.2
 .have aq:(ev==0)=false:=by simpa using he
  have⟨l,M,ac⟩:=aY hv;obtain rfl:v=.slice l 0 M:=ac;have G:∀(u:Ϡ)(wL:Φ),I wL->wL.ownsRow base 9 1 (.slice l 0 M) 0 []->aB.CI E 68 [.code (.seq r5 R)] (aB.ah0 Tryz.f68 (th g (ts.length+1) B)) (JD g k n b8 b11 ev H b t u (rq u 13 94 [])) wL:=by
   clear d hv p he;intro u wL d hv;obtain rfl:=J;unfold JD;simp only[rq];refine aB.dI ?_;refine aB.cU none ⟨_,func68⟩ (λw=>I w/\w.ownsRow base 9 1 (.slice l 0 M) 0 []) (λw t k h=>⟨W.tape w t k h.1,h.2⟩) ⟨d,hv⟩ λw q i=>?_
   have⟨j,_⟩:=W.fact q.1;have O:=j.val 0 (.int .i64 0);have L:=j.val 1 (.slice l 0 M);clear j;go_wp2;exact SP (λu=>JD g k n b8 b11 ev H b t u (.bool true::rq u 14 93 [])) λu=>f u _ q.1 q.2
  unfold JD;simp only[rq];refine aB.dI ?_;refine aB.cU none ⟨_,func68⟩ (λw=>I w/\w.ownsRow base 9 1 (.slice l 0 M) 0 []/\w.ownsRow base' 9 1 A ys.length (bJ ys)) (λw t k h=>⟨W.tape w t k h.1,h.2⟩) ⟨d,hv,p⟩ λw q i=>?_
  clear d hv p i he f;have⟨d,hv,p⟩:=q;have⟨j,r,_⟩:=W.fact d;have L:=j.val 1 (.slice l 0 M);have Xn:=r.val 1 A;clear j r;go_wp2_with fail;refine(n9 w _ _ _ A [] ys hv p ϛ ϖ).mono ?_;rintro e wc⟨rfl,F⟩;replace d:=W.new d F;replace hv:=F.owns hv;have⟨j,r,_⟩:=W.fact d;have O:=j.val 0 (.int .i64 0);have AG:=r.val 0 (.int .i64 steps);clear F j r L Xn p;replace G:Hid _:=G;cases hd:decide (([]:List (List η))=ys)<;>cases ds:((0:Int)==(steps:Int))
  all_goals
   clear hd;go_wp2;exact SP (λu=>JD g k n b8 b11 ev H b t u (rq u 13 94 [])) λu=>G.out u _ d hv
end
section
open Go.RowKit Go.Lib Go.Sort
variable [OfNat Obj 0]
def FQ(u w:Φ):Φ:={u with heap:=w.heap}
def nU.like(h:nU S w w'):aG S (FQ w' w) w':=⟨rfl,rfl,rfl,h.size,h.block⟩
def oF.like{F:ϓ}{n:Nat}{x:DS}(h:oF w F s d n x)(u:Φ):oF (FQ u w) F s d n x:=by
 refine⟨h.row,?_,h.ne⟩;have⟨b,a,hd,e⟩:=h.disk;exact⟨b,a,⟨hd.row,hd.last,hd.len,hd.own,hd.eO,hd.within,hd.lo,hd.hi,hd.few,hd.ne,hd.ne1,hd.Dv,hd.nil⟩,e⟩
def bN.like(h:bN w q rs)(u:Φ):bN (FQ u w) q rs:=⟨h.cells,h.few⟩
def aU.like{w:Φ}{g:Nat}{c:ϐ}{F:Nat->List Nat}{ts:List (List Θ)}{A:Int}(h:aU w g c F ts A)(u:Φ):aU (FQ u w) g c F ts A:=by
 refine⟨h.row,h.size,h.pos,h.lS,λk hk=>?_,h.apart,h.zero,?_⟩;have⟨x,y,i,b,hs⟩:=h.side k hk;refine⟨x,y,i,b,?_⟩;obtain hs|⟨s,l,n,a,L,q,rs,e1,e2,f,j,d,h0,h1⟩:=hs;exact .inl hs;exact .inr ⟨s,l,n,a,L,q,rs,e1,e2,f.like u,j.like u,d,h0,h1⟩;have⟨av,e,ha⟩:=h.all;exact⟨av,e,⟨ha.row,ha.ok⟩⟩
def aU.az{w:Φ}{g:Nat}{c:ϐ}{F:Nat->List Nat}{ts:List (List Θ)}{A:Int}(h:aU w g c F ts A)(t:Go.Proofs.YtchcmhodnkgojaaGreat.eH)(d:Nat):aU (az w t d) g c F ts A:=by
 have ref:∀{q:Nat}{rs:RS},bN w q rs->bN (Go.Proofs.YtchcmhodnkgojaaGreat.az w t d) q rs:=λh=>⟨h.cells,h.few⟩
 refine⟨h.row,h.size,h.pos,h.lS,λk hk=>?_,h.apart,h.zero,?_⟩;have⟨x,y,j,b,hs⟩:=h.side k hk;refine⟨x,y,j,b,?_⟩;obtain hs|⟨s,m,n,a,L,q,rs,e1,e2,i,l,e,h0,h1⟩:=hs;exact .inl hs;exact .inr ⟨s,m,n,a,L,q,rs,e1,e2,i.az t d,ref l,e,h0,h1⟩;have⟨av,f,ha⟩:=h.all;exact⟨av,f,⟨ha.row,ha.ok⟩⟩
structure GS (w:Φ)(g:Nat)(c:Array Θ)(F:Nat->List Nat)(ts:List (List Θ))(A:Int)(k s d n0 q:Nat)(a:Int)(L:List η)(rs:RS):Prop where
 jb:aU w g c F ts A
 store:oF w (F k) s d n0 (DS.calm L a)
 ref:bN w q rs
def GS.az{w:Φ}{g:Nat}{c:ϐ}{F:Nat->List Nat}{ts:List (List Θ)}{A:Int}{k s d n0 q:Nat}{a:Int}{L:ϑ}{rs:RS}(h:GS w g c F ts A k s d n0 q a L rs)(t:Go.Proofs.YtchcmhodnkgojaaGreat.eH)(x:Nat):GS (az w t x) g c F ts A k s d n0 q a L rs:=⟨h.jb.az t x,h.store.az t x,⟨h.ref.cells,h.ref.few⟩⟩
structure GT (F:Nat->List Nat)(k:Nat)(w3:Φ)(G:List Nat)(s d n0:Nat)(a:Int)(L L':List η)(j ev:Int)(st:Int)(bP:Θ)(xs:List (List η))(rs:RS)(w:Φ):Prop where
 blk:nU (F k) w3 w
 grew:dw (F k) G w3
 store:oF w G s d n0 (DS.calm L' (a+j))
 own:w.ownsRow w3.heap.size 9 1 bP xs.length (bJ xs)
 few:xs.length<=7/\rs.sync.cK.length<=7/\rs.sync.steps<=7/\0<=j/\j<=80
 told:(ev=0/\xs=rs.sync.cK/\st=rs.sync.steps)\/(ev≠0/\xs=[]/\st=0)
 idle:rs.sync.steps=0->j=0
 taken:Ny n0 rs (rs.sync.t,0) L L' j ev
def GT.az{F:Nat->List Nat}{k:Nat}{w3:Φ}{G:ϓ}{s d n0:Nat}{a:Int}{L b:ϑ}{j ev:Int}{c:Int}{e:Θ}{xs:List (List η)}{rs:RS}{w:Φ}(h:GT F k w3 G s d n0 a L b j ev c e xs rs w)(t:Go.Proofs.YtchcmhodnkgojaaGreat.eH)(x:Nat):GT F k w3 G s d n0 a L b j ev c e xs rs (az w t x):=
 ⟨h.blk.tape t x,h.grew,h.store.az t x,h.own,h.few,h.told,h.idle,h.taken⟩
def GT.new{F:Nat->List Nat}{k:Nat}{w3:Φ}{G:ϓ}{s d n0:Nat}{a:Int}{L b:ϑ}{j ev:Int}{c:Int}{e:Θ}{xs:List (List η)}{rs:RS}{w w':Φ}(h:GT F k w3 G s d n0 a L b j ev c e xs rs w)(f:aG [] w w'):GT F k w3 G s d n0 a L b j ev c e xs rs w':=
 ⟨h.blk.trans f.blk,h.grew,h.store.new f,f.owns h.own,h.few,h.told,h.idle,h.taken⟩
def N9{a:Int}{i:Φ}(M:Match n0 rs L)(h:RY (F k) s d n0 (DS.calm L a) w3 v i):
  ∃G o q xs c j ev,v=.tuple #[.agg #[.int .i64 o,q],.int .i64 ev]/\GT F k w3 G s d n0 a L c j ev o q xs rs i:=by
 obtain⟨h1,_⟩|⟨_,ps,G,hP,hS,gr,hB,hv⟩:=h;exact absurd (M.may a) h1;have⟨e1,e2,n,g,c,j,ev,hd,p,l,m⟩:=M.sync a hP;rw[hd]at hS hv;have b:Ny n0 rs (rs.sync.t,0) L c j ev:=by obtain⟨q1,q2,_⟩|⟨q1,q2,q3,q4⟩:=m;exact .inl ⟨q1,rfl,q2⟩;exact .inr (.inr ⟨q2,q3,q1,rfl,q4⟩)
 have f:rs.sync.steps=0->j=0:=λh0=>by obtain⟨_,_,q3⟩|⟨_,_,q3,_⟩:=m;exact q3 h0;exact q3
 obtain⟨cv,h6,rfl,ho,_⟩|⟨e,he,h6,rfl⟩:=hv;have:ev=0:=by simpa using h6
 exact⟨G,_,cv,_,c,j,0,rfl,hB,gr,hS,by rw[e2]at ho;exact ho,⟨g,g,n,p,l⟩,.inl ⟨rfl,rfl,by rw[e1]⟩,f,this▸b⟩;have:ev=e:=by simpa using h6
 subst this;exact⟨G,0,.slice none 0 0,[],c,j,ev,rfl,hB,gr,hS,World.ownsRow_nil ..,⟨ϛ,g,n,p,l⟩,.inr ⟨he,rfl,rfl⟩,f,b⟩
structure PK (F:Nat->List Nat)(k:Nat)(w3:Φ)(G:List Nat)(s d n0:Nat)(y:DS)(q q':Nat)(rs rt:RS)(b8 b11:Nat)(c8 c11:Array Θ)(w:Φ):Prop where
 blk:nU (F k) w3 w
 store:oF w G s d n0 y
 wait:y.waiting=[]
 ref:bN w q rs
 ref':bN w q' rt
 r8:Row w b8 c8 58
 rb:Row w b11 c11 58
section
variable {F:Nat->List Nat}{k:Nat}{w3:Φ}{G:List Nat}{s d n0:Nat}{y:DS}{q q':Nat}{rs rt:RS}{b8 b11:Nat}{c8 c11:Array Θ}{w w':Φ}
def PK.new(h:PK F k w3 G s d n0 y q q' rs rt b8 b11 c8 c11 w)(f:aG [] w w'):PK F k w3 G s d n0 y q q' rs rt b8 b11 c8 c11 w':=
 ⟨h.blk.trans f.blk,h.store.new f,h.wait,h.ref.new f,h.ref'.new f,f.row h.r8,f.row h.rb⟩
def PK.az(h:PK F k w3 G s d n0 y q q' rs rt b8 b11 c8 c11 w)(t:Go.Proofs.YtchcmhodnkgojaaGreat.eH)(x:Nat):PK F k w3 G s d n0 y q q' rs rt b8 b11 c8 c11 (az w t x):=⟨h.blk.tape t x,h.store.az t x,h.wait,⟨h.ref.cells,h.ref.few⟩,⟨h.ref'.cells,h.ref'.few⟩,h.r8,h.rb⟩
def PK.str(h:PK F k w3 G s d n0 y q q' rs rt b8 b11 c8 c11 w){n:Nat}(f:aG v.ownBlock.toList w w')(b:w.ownsRow w3.heap.size 9 1 v n xs):PK F k w3 G s d n0 y q q' rs rt b8 b11 c8 c11 w':=by
 have no:∀{i:Nat}{c:ϐ}{t:θ},Row w i c t->t≠9->i∉v.ownBlock.toList:=λr j a=>own_ne b r j (by simpa using a)
 refine⟨h.blk.trans f.blk λi a=>.inr (b.lt i (by simpa using a)).1,h.store.ky f (no h.store.row (by decide)) λi a g=>?_,h.wait,h.ref.Qo f b,h.ref'.Qo f b,f.row h.r8 (no h.r8 (by decide)),f.row h.rb (no h.rb (by decide))⟩;have⟨c,t,r,e⟩:=h.store.types h.wait i g;exact no r (by obtain rfl|rfl:=e<;>decide) a
def PK.gx(h:PK F k w3 G s d n0 y q q' rs rt b8 b11 c8 c11 w)(h2:aU w3 g c F ts A)(hk:k<=2)(a:dw (F k) G w3):oV w g c (nW F k G) ts A k:=
 (h2.like w).Wo k hk h.blk.like (λi b=>a i b) h.store h.wait
end
def uK{G:ϓ}{y:DS}{q':Nat}{rt:RS}{b8 b11:Nat}{c8 c11:ϐ}(h:PK F k w3 G s d n0 y q q' rs rt b8 b11 c8 c11 wz)(C:oV wz g c F2 ts A k)(ha:rK wz av ts)(f:aG av.ownBlock.toList wz wq)(rq:Row wq g c 73):
  oF (wq.setCell ⟨g,6,none⟩ oC) G s d n0 y/\bN (wq.setCell ⟨g,6,none⟩ oC) q rs/\bN (wq.setCell ⟨g,6,none⟩ oC) q' rt/\Row (wq.setCell ⟨g,6,none⟩ oC) b8 c8 58/\Row (wq.setCell ⟨g,6,none⟩ oC) b11 c11 58:=by
 have no:∀{i:Nat}{c:ϐ}{t:θ},Row wz i c t->t≠122->i∉av.ownBlock.toList:=λr n a=>own_ne ha.row r n (by simpa using a)
 have w:aG [g] wq (wq.setCell ⟨g,6,none⟩ oC):=aG.setCell ..;have j:∀{i:Nat}{b:ϐ}{t:θ},Row wz i b t->t≠73->i∉[g]:=λr n a=>by obtain rfl:=ξ.1 a;exact n (r.one C.row).2
 have row:∀{i:Nat}{b:ϐ}{t:θ},Row wz i b t->t≠122->t≠73->Row (wq.setCell ⟨g,6,none⟩ oC) i b t:=λr h1 h2=>w.row (f.row r (no r h1)) (j r h2)
 have ref:∀{p:Nat}{t:RS},bN wz p t->bN (wq.setCell ⟨g,6,none⟩ oC) p t:=λx=>by
  have⟨⟨D,z,E,hr,H,q1,B⟩,hf⟩:=x;have l:∀{v:Θ}{m:fL},wz.ownsRow 0 187 2 v m.length (dd m)->(wq.setCell ⟨g,6,none⟩ oC).ownsRow 0 187 2 v m.length (dd m):=λo=>by have o2:=f.owns o λi a e=>mF o ha.row (by decide) e (by simpa using a);exact w.owns o2 (λi a=>by obtain rfl:=ξ.1 a;exact own_ne o2 rq (by decide))
  exact⟨⟨D,z,E,row hr (by decide) (by decide),l H,l q1,l B⟩,hf⟩
 refine⟨(h.store.ky f (no h.store.row (by decide)) λi a u=>?_).ky w (j h.store.row (by decide)) λi a u=>?_,ref h.ref,ref h.ref',row h.r8 (by decide) (by decide),row h.rb (by decide) (by decide)⟩;have⟨c,t,r,e⟩:=h.store.types h.wait i u;exact no r (by obtain rfl|rfl:=e<;>decide) a;have⟨c,t,r,e⟩:=h.store.types h.wait i u;exact j r (by obtain rfl|rfl:=e<;>decide) a
open gz gz.Sq in
def Bi{E:aB.Env}(k n:Nat)(hk:k<=2){a:Int}(h:aU wL g c F ts A)(aw:A<=900000000)(an:ts.length<=1048000)(hn:n<=1000000000)
  (hx:c[k]?=some (.pointer (some ⟨s,0,none⟩))) (hy:c[3+k]?=some (.pointer (some ⟨q,0,none⟩))) (hS:oF wL (F k) s d n0 (DS.calm L a)) (hR:bN wL q rs) (M:Match n0 rs L) (a0:0<=a) (a1:a<=A):
  aB.CC E 68 #[.pointer (some ⟨g,0,none⟩),.int .i64 k,.int .i64 n] (th g (ts.length+1) (A+80)) wL:=by
 have ar:(k:Int)<3:=ϖ;have HX:Hid (c[k]?=some (.pointer (some ⟨s,0,none⟩))):=hx;have HY:Hid (c[3+k]?=some (.pointer (some ⟨q,0,none⟩))):=hy;have ag:Hid ((DS.calm L a).acts=a):=rfl;refine aB.jZ func68 rfl ?_;refine aB.dI ?_;refine OR {tmps:=(.pointer (some ⟨g,0,none⟩)::.int .i64 k::.int .i64 n::rq (λ_=>ϗ) 3 104 []).toArray,defers:=[]} ϰ ?_;simp only[rq];refine aB.cU none ⟨_,func68⟩ (λw=>GS w g c F ts A k s d n0 q a L rs) (λw t k h=>h.az t k) ⟨h,hS,hR⟩ λw1 h1 p=>?_
 clear h hS hR hx hy p;go_wp2_with fail;refine aB.dI ?_;refine aB.cU none ⟨_,func68⟩ (λw=>GS w g c F ts A k s d n0 q a L rs) (λw t k h=>h.az t k) h1 λw2 h2 p=>?_
 clear h1 p;have cx:=h2.jb.row.val k (.pointer (some ⟨s,0,none⟩)) HX.out;go_wp2_with fail;refine(jy (F k) s d n0 (DS.calm L a) w2 h2.store).mono ?_;rintro e w3⟨rfl,rfl⟩;rw[ag.out];go_wp2_with fail;refine aB.dI (aB.ep (eT _ rfl (.inr rfl) rfl (eT _ rfl (.inr rfl) rfl (iI (w1:=w3) (.pointer (some ⟨g,0,none⟩)) rfl rfl (λt d=>ϰ) (iI (w1:=w3) (.pointer (some ⟨g,0,none⟩)) rfl rfl (λt d=>ϰ) (iI (w1:=w3) (.pointer (some ⟨g,k,none⟩)) rfl rfl (λt d=>by rcases(by omega:k=0\/k=1\/k=2)with rfl|rfl|rfl<;>kernel_rfl) (Rm _ _ rfl rfl ϰ rfl ϰ ⟨g,k,none⟩ rfl _ cx ?_)))))));refine jY (f2:=31) #[.tmp 29] #[.pointer (some ⟨s,0,none⟩)] (R2:=RY (F k) s d n0 (DS.calm L a) w3) rfl rfl ϰ (λb w=>ϰ) ϰ (VD h2.store h2.jb.lS.1 (h2.jb.zero k hk) (M.XR a a0 ϖ)) λv w4 hR _=>?_
 have⟨G,J,D,xs,L',j,ev,hv,hG⟩:=N9 M hR;subst hv;refine eT _ rfl (.inr rfl) rfl (iI (w1:=w4) (.agg #[.int .i64 J,D]) rfl rfl (λt d=>ϰ) (iI (w1:=w4) (.int .i64 ev) rfl rfl (λt d=>ϰ) ?_));clear cx hR;refine KA 10 rfl ⟨_,func68⟩ ϰ (λw=>GT F k w3 G s d n0 a L L' j ev J D xs rs w) (λw t k h=>h.az t k) hG λw5 O _=>?_
 clear hG;show wpList _ _ _ [_,_,_] _ _;refine au rfl ?_;refine br rfl 58 rfl _ fN ?_;intro w6 b8 l8 f8 y;go_wp2_with (with_reducible refine ah 58 rfl ?_);have oc:D.oneCell'=true:=by obtain⟨_,_,rfl⟩:=aY O.own;rfl
 refine gj rfl 58 _ _ rfl b8 rfl #[.int .i64 J,D] rfl cY (by intro z V;simp only[ac2,aj8,or_false]at V;obtain rfl|rfl:=V<;>first|assumption|rfl) _ _ y rfl ?_;intro w7 C r9;have Y:aG [] w5 w7:=f8.trans C (by simpa using l8);have aa:=O.new Y;clear f8 C y l8 O Y;go_wp2_with fail;refine aB.dI ?_;refine aB.cU none ⟨_,func68⟩ (λw=>GT F k w3 G s d n0 a L L' j ev J D xs rs w/\Row w b8 #[.int .i64 J,D] 58) (λw t k h=>⟨h.1.az t k,h.2⟩) ⟨aa,r9⟩ λH hI p=>?_
 clear aa r9 p;have⟨l,y⟩:=hI;have hb:=h2.jb.like H;have T:aG (F k) (FQ H w3) H:=l.blk.like;have S:oV H g c (nW F k G) ts A k:=hb.Wo k hk T (by intro i Z;exact l.grew i Z) l.store rfl;have R:bN H q rs:=hb.ref k hk (h2.ref.like H) T;have cy:=S.row.val (3+k) (.pointer (some ⟨q,0,none⟩)) HY.out;go_wp2_with (with_reducible refine au rfl ?_);refine(Ly q rs H R (λi Z=>by have:=M.yW i Z;omega) (by have:=M.Dk;omega)).mono ?_;rintro e w9⟨q',B,rfl,U,nK,C⟩;replace l:=l.new C;replace y:=C.row y;replace S:=S.new C;replace R:=R.new C;clear C cy hb T;have aq:B.oneCell'=true:=by obtain⟨_,_,rfl⟩:=aY nK;rfl
 go_wp2_with (with_reducible refine au rfl ?_);refine br rfl 58 rfl _ fN ?_;intro wa b11 la fa ra;go_wp2_with (with_reducible refine ah 58 rfl ?_);refine gj rfl 58 _ _ rfl b11 rfl #[.int .i64 rs.sync.steps,B] rfl cY (by intro z V;simp only[ac2,aj8,or_false]at V;obtain rfl|rfl:=V<;>first|assumption|rfl) _ _ ra rfl ?_;intro wb T W;have N:aG [] w9 wb:=fa.trans T (by simpa using la);replace l:=l.new N;replace y:=N.row y;replace S:=S.new N;replace R:=R.new N;replace U:=U.new N;replace nK:=N.owns nK;have pk:PK F k w3 G s d n0 (DS.calm L' (a+j)) q q' rs rs.sync.t b8 b11 #[.int .i64 J,D] #[.int .i64 rs.sync.steps,B] wb:=⟨l.blk,l.store,rfl,R,U,y,W⟩
 have⟨av,h6,_⟩:=S.all;have P:=l.grew;clear N fa T ra la R U y W S;go_wp2_with fail;refine SP (λu=>JD g k n b8 b11 ev 0 a (.pointer (some ⟨q',0,none⟩)) u (rq u 13 94 [])) λu=>SO (hcd:=rfl) (ys:=rs.sync.cK) (I:=PK F k w3 G s d n0 (DS.calm L' (a+j)) q q' rs rs.sync.t b8 b11 #[.int .i64 J,D] #[.int .i64 rs.sync.steps,B])
  ⟨hk,an,l.few.1,h6,λw t x h=>h.az t x,λh f=>h.new f,λh o f=>h.str f o,λh=>?_,fun {w1 w2 t' oC} h1 ao f rg o=>?_⟩ hn l.few.2.1 pk l.own nK (l.told.imp (λq=>q) λq=>q)
 have⟨RG,X,Q⟩:=(h.gx h2.jb hk P).all;obtain rfl:av=RG:=by rw[h6]at X;injection X
 have m:=h.gx h2.jb hk P;exact⟨h.r8,h.rb,m.row,Q,by have q1:=m.pos;have q2:=m.row.lt;exact ac3 q1 (Nat.le_of_lt q2)⟩;have m:=h1.gx h2.jb hk P;have⟨RG,X,Q⟩:=m.all;obtain rfl:av=RG:=by rw[h6]at X;injection X
 have r:=m.push h6 ao f o;have⟨am,U,zQ,_,W⟩:=uK (oC:=oC) h1 m Q f rg;have p:=h2.jb.size;have ne:∀i,i≠6->(c.setIfInBounds 6 oC)[i]?=c[i]?:=λi Z=>ζ (Ne.symm Z)
 have ac:b11≠g:=λe=>by subst e;exact absurd (W.one r.row).2 (by decide)
 refine(CH r hk ((ne k ϖ).trans HX.out) ((ne (3+k) ϖ).trans HY.out) (by unfold nW;rw[κ rfl];exact am) U zQ M a0 a1 l.few.2.2.2.1 l.few.2.2.2.2 l.taken).mono ?_;rintro e wf⟨rfl,ff,Sg,c',K,al⟩;refine⟨rfl,by rw[(ff.row W (by simpa using ac)).cell];rfl,λ_=>⟨rfl,c',_,_,K,ϛ⟩,λh0=>⟨_,by rw[K.row.cell];exact al,(jy _ s d n0 _ wf Sg).mono ?_⟩⟩;rintro e wg⟨rfl,rfl⟩;exact⟨by show Ending.returned (.int .i64 (a+j))=_;rw[l.idle h0,ϒ6],rfl,c',_,_,K,ϛ⟩
end
section
open Go.RowKit Go.Lib Go.Sort
variable [OfNat Obj 0]
def aU.afL{B:Int}(h:aU w g c F ts A)(a:A<=B):aU w g c F ts B:=
 {h with side:=λj d=>by have⟨x,y,b,e,hs⟩:=h.side j d;exact⟨x,y,b,e,hs.more a⟩}
structure PN (g:Nat)(c:Array Θ)(F:Nat->List Nat)(ts:List (List Θ))(A:Int)(b8 b11:Nat)(c8 c11:Array Θ)(w:Φ):Prop where
 jb:aU w g c F ts A
 r8:Row w b8 c8 58
 rb:Row w b11 c11 58
section
variable {g:Nat}{c:Array Θ}{F:Nat->List Nat}{ts:List (List Θ)}{A:Int}{b8 b11:Nat}{c8 c11:Array Θ}{w w':Φ}
def PN.new(h:PN g c F ts A b8 b11 c8 c11 w)(f:aG [] w w'):PN g c F ts A b8 b11 c8 c11 w':=⟨h.jb.new f,f.row h.r8,f.row h.rb⟩
def ZI(h:PN g c F ts A b8 b11 c8 c11 wz)(e:aU wz g c F ts A)(ha:rK wz av ts)(f:aG av.ownBlock.toList wz wq)(rq:Row wq g c 73):
  Row (wq.setCell ⟨g,6,none⟩ oC) b8 c8 58/\Row (wq.setCell ⟨g,6,none⟩ oC) b11 c11 58:=by
 have d:aG [g] wq (wq.setCell ⟨g,6,none⟩ oC):=aG.setCell ..;have row:∀{i:Nat}{b:ϐ},Row wz i b 58->Row (wq.setCell ⟨g,6,none⟩ oC) i b 58:=λr=>d.row (f.row r λa=>own_ne ha.row r (by decide) (by simpa using a)) (λa=>by obtain rfl:=ξ.1 a;exact absurd (r.one e.row).2 (by decide))
 exact⟨row h.r8,row h.rb⟩
def Hf(h:aU w g c F ts A)(k:Nat)(hk:k<=2)(j:c[3+k]?=some (.pointer none))(t:Θ)(e:Int)(f:e≠0):
  Calls prog 62 #[.pointer (some ⟨g,0,none⟩),.int .i64 k,t,.int .i64 e,.int .i64 e] w λr w'=>r=.returned (.bool true)/\w'=w:=by
 have b:=h.size;obtain⟨l,i⟩:∃l:List Θ,c=l.toArray:=⟨c.toList,ϛ⟩
 have d:=h.row.val (3+k) (.pointer none) j;have a:=h.row;subst i
 match l,b with
 |[x0,x1,x2,y0,y1,y2,av],_=>refine(Bv g k hk x0 x1 x2 y0 y1 y2 av t w a d e e f).mono ?_;rintro m w3⟨rfl,rfl⟩;exact⟨ϛ,rfl⟩
end
open gz gz.Sq in
def D3{E:aB.Env}(k n:Nat)(hk:k<=2)(h:aU wL g c F ts A)(G:ts.length<=1048000)(hn:n<=1000000000)
  (R:c[k]?=some (.pointer none)) (K:c[3+k]?=some (.pointer none)):
  aB.CC E 68 #[.pointer (some ⟨g,0,none⟩),.int .i64 k,.int .i64 n] (th g (ts.length+1) (A+80)) wL:=by
 have aa:(k:Int)<3:=ϖ;have V:Hid (c[k]?=some (.pointer none)):=R;have M:Hid (c[3+k]?=some (.pointer none)):=K;refine aB.jZ func68 rfl ?_;refine aB.dI ?_;refine OR {tmps:=(.pointer (some ⟨g,0,none⟩)::.int .i64 k::.int .i64 n::rq (λ_=>ϗ) 3 104 []).toArray,defers:=[]} ϰ ?_;simp only[rq];refine aB.cU none ⟨_,func68⟩ (λw=>aU w g c F ts A) (λw t k h=>h.az t k) h λw1 h1 j=>?_
 clear h R K j;go_wp2_with fail;refine aB.dI ?_;refine aB.cU none ⟨_,func68⟩ (λw=>aU w g c F ts A) (λw t k h=>h.az t k) h1 λP h2 j=>?_
 clear h1 j;have X:=h2.row.val k (.pointer none) V.out;go_wp2_with fail;refine(Ax P).mono ?_;rintro e w3⟨rfl,rfl⟩;go_wp2_with fail;refine aB.dI (aB.ep (eT _ rfl (.inr rfl) rfl (eT _ rfl (.inr rfl) rfl (iI (w1:=w3) (.pointer (some ⟨g,0,none⟩)) rfl rfl (λt d=>ϰ) (iI (w1:=w3) (.pointer (some ⟨g,0,none⟩)) rfl rfl (λt d=>ϰ) (iI (w1:=w3) (.pointer (some ⟨g,k,none⟩)) rfl rfl (λt d=>by rcases(by omega:k=0\/k=1\/k=2)with rfl|rfl|rfl<;>kernel_rfl) (Rm _ _ rfl rfl ϰ rfl ϰ ⟨g,k,none⟩ rfl _ X ?_)))))));refine jY (f2:=31) #[.tmp 29] #[.pointer none] (R2:=λv w'=>v=.tuple #[cL,.int .i64 3]/\nU [] w3 w') rfl rfl ϰ (λb w=>ϰ) ϰ GP λv s hR _=>?_
 obtain⟨rfl,L⟩:=hR;refine eT _ rfl (.inr rfl) rfl (iI (w1:=s) cL rfl rfl (λt d=>ϰ) (iI (w1:=s) (.int .i64 3) rfl rfl (λt d=>ϰ) ?_));clear X;have T:aU s g c F ts A:=(h2.like s).new L.like;clear h2 L;refine KA 10 rfl ⟨_,func68⟩ ϰ (λw=>aU w g c F ts A) (λw t k h=>h.az t k) T λw5 S _=>?_
 clear T;show wpList _ _ _ [_,_,_] _ _;refine au rfl ?_;refine br rfl 58 rfl _ fN ?_;intro w6 b8 O J l;go_wp2_with (with_reducible refine ah 58 rfl ?_);refine gj rfl 58 _ _ rfl b8 rfl #[.int .i64 0,.slice none 0 0] rfl cY (by decide) _ _ l rfl ?_;intro w7 q Z;have h7:=S.new (J.trans q (by simpa using O):aG [] w5 w7);clear J q l O S;go_wp2_with fail;refine aB.dI ?_;refine aB.cU none ⟨_,func68⟩ (λw=>aU w g c F ts A/\Row w b8 #[.int .i64 0,.slice none 0 0] 58) (λw t k h=>⟨h.1.az t k,h.2⟩) ⟨h7,Z⟩ λw8 hI j=>?_
 clear h7 Z j;have⟨m,l⟩:=hI;have cy:=m.row.val (3+k) (.pointer none) M.out;go_wp2_with (with_reducible refine au rfl ?_);refine(Lx w8).mono ?_;rintro e w9⟨rfl,q⟩;replace m:=m.new q;replace l:=q.row l;clear q cy;go_wp2_with (with_reducible refine au rfl ?_);refine br rfl 58 rfl _ fN ?_;intro wa b11 N U Y;go_wp2_with (with_reducible refine ah 58 rfl ?_);refine gj rfl 58 _ _ rfl b11 rfl #[.int .i64 0,.slice none 0 0] rfl cY (by decide) _ _ Y rfl ?_;intro Q W z;have C:aG [] w9 Q:=U.trans W (by simpa using N);replace m:=m.new C;replace l:=C.row l;have pk:PN g c F ts A b8 b11 #[.int .i64 0,.slice none 0 0] #[.int .i64 0,.slice none 0 0] Q:=⟨m,l,z⟩
 have⟨av,y,_⟩:=m.all;clear C U W Y N m l z;go_wp2_with fail;refine SP (λu=>JD g k n b8 b11 3 3 0 (.pointer none) u (rq u 13 94 [])) λu=>SO (hcd:=rfl) (steps:=0) (v:=.slice none 0 0) (xs:=[]) (ys:=[]) (base:=0) (base':=0) (I:=PN g c F ts A b8 b11 #[.int .i64 0,.slice none 0 0] #[.int .i64 0,.slice none 0 0])
  ⟨hk,G,ϛ,y,λw t x h=>⟨h.jb.az t x,h.r8,h.rb⟩,λh f=>h.new f,λh _ f=>h.new f,λh=>?_,fun {w1 P t' oC} h1 H f rg o=>?_⟩ hn ϛ pk (World.ownsRow_nil ..) (World.ownsRow_nil ..) (.inr ⟨ϖ,rfl,rfl⟩)
 have⟨D,r,p⟩:=h.jb.all;obtain rfl:av=D:=by rw[y]at r;injection r
 exact⟨h.r8,h.rb,h.jb.row,p,by have q1:=h.jb.pos;have q2:=h.jb.row.lt;exact ac3 q1 (Nat.le_of_lt q2)⟩;have⟨D,r,p⟩:=h1.jb.all;obtain rfl:av=D:=by rw[y]at r;injection r
 have a:=h1.jb.push y H f o;have⟨_,z⟩:=ZI (oC:=oC) h1 h1.jb p f rg;have ne:∀i,i≠6->(c.setIfInBounds 6 oC)[i]?=c[i]?:=λi hi=>ζ (Ne.symm hi)
 refine(Hf a k hk ((ne (3+k) ϖ).trans M.out) (.pointer none) 3 ϖ).mono ?_;rintro e wf⟨rfl,rfl⟩;refine⟨rfl,by rw[z.cell];rfl,λh=>absurd rfl h,λ_=>⟨_,by rw[a.row.cell];exact(ne k ϖ).trans V.out,(Ax _).mono ?_⟩⟩;rintro e wg⟨rfl,rfl⟩;exact⟨rfl,rfl,_,_,_,a.afL (B:=A+80) ϖ,ϛ⟩
def Ro{E:aB.Env}(k n:Nat)(hk:k<=2)(h:aU wL g c F ts A)(e:A<=900000000)(b:ts.length<=1048000)(i:n<=1000000000):
  aB.CC E 68 #[.pointer (some ⟨g,0,none⟩),.int .i64 k,.int .i64 n] (th g (ts.length+1) (A+80)) wL:=by
 have⟨x,y,f,j,hs⟩:=h.side k hk;obtain⟨rfl,rfl,_⟩|⟨s,d,n0,a,L,q,rs,rfl,rfl,hS,hR,M,a0,a1⟩:=hs;exact D3 k n hk h b i f j;exact Bi k n hk h e b i f j hS hR M a0 a1
end
section
open Go.RowKit Go.Lib Go.Sort
variable [OfNat Obj 0]
def tv{E:aB.Env}{d:Nat}{cells:ϐ}{b:Code}{k:ϕ}(i:aU w g c F ts A/\Row w d cells 77)(h:∀w,aU w g c F ts A/\Row w d cells 77->b.wp aB.PP (aB.after E none 34 k R) a w)(JU:zw aB.PP S0 E0 true b=true:=by kernel_rfl):aB.CI E 34 (.code b::k) R a w:=
 aB.cU none ⟨_,func34⟩ (JU:=JU) (λw=>aU w g c F ts A/\Row w d cells 77) (λw t k h=>⟨h.1.az t k,h.2⟩) i λw q _=>h w q
open gz gz.Sq in
def vC{E:aB.Env}{wL:Φ}{g:Nat}{c:ϐ}{F:Nat->List Nat}{ts:List (List Θ)}{A:Int}(n:Nat)(j on d:Int)(p G:ϑ)(h:aU wL g c F ts A)(W8:0<=A)(W:A<=900000000)(aq:ts.length<=1048000)(hn:n<=1000000000)
  (a0:-9223372036854775808<=j) (a1:j<=9223372036854775807) (ac:-9223372036854775808<=on) (am:on<=9223372036854775807) (ao:-9223372036854775808<=d) (an:d<=9223372036854775807) (hp:p.length<=9223372036854775807) (hc:G.length<=9223372036854775807):
  aB.CC E 34 #[.pointer (some ⟨g,0,none⟩),.agg (bB j on d (aj p) (aj G)),.int .i64 n] (th g (ts.length+1) (A+80)) wL:=by
 have aw:=zr on 3 ϖ;have aW:Hid (bB j on d (aj p) (aj G)=#[.int .i64 j,.int .i64 on,.int .i64 d,.string (aj p),.string (aj G)]):=rfl;refine aB.jZ func34 rfl ?_;refine aB.dI ?_;refine OR {tmps:=(.pointer (some ⟨g,0,none⟩)::.agg (bB j on d (aj p) (aj G))::.int .i64 n::rq (λ_=>ϗ) 3 190 []).toArray,defers:=[]} ϰ ?_;simp only[rq];refine aB.cU none ⟨_,func34⟩ (λw=>aU w g c F ts A) (λw t k h=>h.az t k) h λw hI ag=>?_
 clear h;go_wp2_with (with_reducible refine bv rfl ?_);refine eZ rfl 77 _ rfl (.agg (bB j on d (aj p) (aj G))) rfl ?_;intro w1 b4 l4 f1 r4;replace r4:Row w1 b4 (bB j on d (aj p) (aj G)) 77:=r4;have h1:=hI.new f1;clear hI f1 l4 ag;go_wp2_with fail;refine aB.dI ?_;refine tv ⟨h1,r4⟩ ?_;clear h1 r4;rintro w2⟨h1,r4⟩;have c1:=r4.val 1 (.int .i64 on);go_wp2_with fail;refine(wh on 3 w2 ac am ϖ ϖ).mono ?_;rintro e w3⟨rfl,rfl⟩;clear c1;generalize ja on 3=k at*;have aL:(k:Int)<3:=ϖ;have⟨x,y,hx,hy,al⟩:=h1.side k ϖ;have L:Hid (c[k]?=some x):=hx;have M:Hid (c[3+k]?=some y):=hy;clear hx hy al;go_wp2_with fail;refine aB.dI (aB.dI ?_);refine tv ⟨h1,r4⟩ ?_;clear h1 r4;rintro w4⟨h1,r4⟩;have c0:=r4.val 0 (.int .i64 j);go_wp2_with fail;clear c0;refine aB.Rn (aB.dI ?_);by_cases k1:j=1
 .subst k1;refine tv ⟨h1,r4⟩ ?_;clear h1 r4;rintro P⟨h1,r4⟩;go_wp2_with fail;refine aB.kN (b:=true) rfl ?_;rw[κ rfl];refine tv ⟨h1,r4⟩ ?_;clear h1 r4;rintro D⟨h1,r4⟩;go_wp2_with fail
  go_upto_region 4 with fail
  refine eN 14 rfl ?_;have q:aG [] D D.drew:=aG.drew ..;replace h1:=h1.new q;replace r4:=q.row r4;generalize D.drew=X at*;clear q;have B:=h1.row.val k x L.out;have C:=h1.row.val (3+k) y M.out;have c2:=r4.val 2 (.int .i64 d);have z:=r4.val 3 (.string (aj p));have H:=r4.val 4 (.string (aj G));refine pp 0 30 ?_;refine pp 1 31 ?_;refine pp 2 32 ?_;refine pp 3 33 ?_;refine pp 4 34 ?_;refine pp 6 36 ?_;refine pp 8 38 ?_;refine pp 10 40 ?_;refine pl 5 35 B ?_;refine pl 7 37 c2 ?_;refine pl 9 39 z ?_;refine pl 11 41 H ?_;simp only[puts];refine pc 12 42 (O4 h1 k ϖ W L.out M.out d p G hp hc) ?_;rintro e I⟨ev,rfl,l,r⟩;refine⟨_,rfl,?_⟩;clear B C c2 z H;refine pp 13 8 ?_;refine pd ?_;simp only[puts];have o:=l g c _ (by decide) (by decide) h1.row;replace r4:=l b4 _ _ (by decide) (by decide) r4;clear h1 l;go_wp2_with fail
  go_upto_region 5 with fail
  refine eN 18 rfl ?_;have q:aG [] I I.drew:=aG.drew ..;replace o:=q.row o;replace r4:=q.row r4;generalize I.drew=w9 at*;have B:=o.val k x L.out;have C:=o.val (3+k) y M.out;have c2:=r4.val 2 (.int .i64 d);have z:=r4.val 3 (.string (aj p));have H:=r4.val 4 (.string (aj G));refine pp 0 44 ?_;refine pp 1 45 ?_;refine pp 2 46 ?_;refine pp 3 47 ?_;refine pp 4 48 ?_;refine pp 6 50 ?_;refine pp 8 52 ?_;refine pp 10 54 ?_;refine pl 5 49 C ?_;refine pl 7 51 c2 ?_;refine pl 9 53 z ?_;refine pl 11 55 H ?_;simp only[puts];refine pc 12 56 (r _ q) ?_;rintro e Z⟨t,fv,rfl,J⟩;refine⟨_,rfl,?_⟩;clear B C c2 z H q;refine pp 13 43 ?_;refine pp 14 57 ?_;refine pp 15 58 ?_;refine pp 16 9 ?_;refine pp 17 10 ?_;refine pd ?_;simp only[puts];go_wp2_with fail;refine(J _ (aG.refl ..)).mono ?_;rintro e R⟨rfl,c',F',T⟩;go_wp2;exact⟨R.tape,R.drawn,.bool true,ϰ,rfl,c',F',ts,T,ϖ⟩
 .have d1:(j==1)=false:=by simpa using k1
  clear k1;refine tv ⟨h1,r4⟩ ?_;clear h1 r4;rintro P⟨h1,r4⟩;go_wp2_with fail;refine aB.kN (b:=false) rfl ?_;rw[Γ ϛ];refine aB.dI ?_;by_cases k2:j=2
  .subst k2;refine tv ⟨h1,r4⟩ ?_;clear h1 r4;rintro P⟨h1,r4⟩;go_wp2_with fail;refine aB.kN (b:=true) rfl ?_;rw[κ rfl];refine tv ⟨h1,r4⟩ ?_;clear h1 r4;rintro D⟨h1,r4⟩;go_wp2_with fail
   go_upto_region 8 with fail
   refine eN 12 rfl ?_;have q:aG [] D D.drew:=aG.drew ..;replace h1:=h1.new q;replace r4:=q.row r4;generalize D.drew=X at*;clear q;have B:=h1.row.val k x L.out;have C:=h1.row.val (3+k) y M.out;have c2:=r4.val 2 (.int .i64 d);have z:=r4.val 3 (.string (aj p));have H:=r4.val 4 (.string (aj G));refine pp 0 67 ?_;refine pp 1 68 ?_;refine pp 2 69 ?_;refine pp 3 70 ?_;refine pp 4 71 ?_;refine pp 6 73 ?_;refine pp 8 75 ?_;refine pl 5 72 B ?_;refine pl 7 74 c2 ?_;refine pl 9 76 z ?_;simp only[puts];refine pc 10 77 (Fj h1 k ϖ W L.out M.out d p hp) ?_;rintro e I⟨ev,rfl,l,r⟩;refine⟨_,rfl,?_⟩;clear B C c2 z H;refine pp 11 11 ?_;refine pd ?_;simp only[puts];have o:=l g c _ (by decide) (by decide) h1.row;replace r4:=l b4 _ _ (by decide) (by decide) r4;clear h1 l;go_wp2_with fail
   go_upto_region 9 with fail
   refine eN 16 rfl ?_;have q:aG [] I I.drew:=aG.drew ..;replace o:=q.row o;replace r4:=q.row r4;generalize I.drew=w9 at*;have B:=o.val k x L.out;have C:=o.val (3+k) y M.out;have c2:=r4.val 2 (.int .i64 d);have z:=r4.val 3 (.string (aj p));have H:=r4.val 4 (.string (aj G));refine pp 0 79 ?_;refine pp 1 80 ?_;refine pp 2 81 ?_;refine pp 3 82 ?_;refine pp 4 83 ?_;refine pp 6 85 ?_;refine pp 8 87 ?_;refine pl 5 84 C ?_;refine pl 7 86 c2 ?_;refine pl 9 88 z ?_;simp only[puts];refine pc 10 89 (r _ q) ?_;rintro e Z⟨t,fv,rfl,J⟩;refine⟨_,rfl,?_⟩;clear B C c2 z H q;refine pp 11 78 ?_;refine pp 12 90 ?_;refine pp 13 91 ?_;refine pp 14 12 ?_;refine pp 15 13 ?_;refine pd ?_;simp only[puts];go_wp2_with fail;refine(J _ (aG.refl ..)).mono ?_;rintro e R⟨rfl,c',F',T⟩;go_wp2;exact⟨R.tape,R.drawn,.bool true,ϰ,rfl,c',F',ts,T,ϖ⟩
  .have d2:(j==2)=false:=by simpa using k2
   clear k2;refine tv ⟨h1,r4⟩ ?_;clear h1 r4;rintro P⟨h1,r4⟩;go_wp2_with fail;refine aB.kN (b:=false) rfl ?_;rw[Γ ϛ];refine aB.dI ?_;by_cases k3:j=3
   .subst k3;refine tv ⟨h1,r4⟩ ?_;clear h1 r4;rintro P⟨h1,r4⟩;go_wp2_with fail;refine aB.kN (b:=true) rfl ?_;rw[κ rfl];refine tv ⟨h1,r4⟩ ?_;clear h1 r4;rintro D⟨h1,r4⟩;go_wp2_with fail
    go_upto_region 12 with fail
    refine eN 16 rfl ?_;have q:aG [] D D.drew:=aG.drew ..;replace h1:=h1.new q;replace r4:=q.row r4;generalize D.drew=X at*;clear q;have B:=h1.row.val k x L.out;have C:=h1.row.val (3+k) y M.out;have c2:=r4.val 2 (.int .i64 d);have z:=r4.val 3 (.string (aj p));have H:=r4.val 4 (.string (aj G));refine pp 0 101 ?_;refine pp 1 102 ?_;refine pp 2 103 ?_;refine pp 3 104 ?_;refine pp 4 105 ?_;refine pp 6 107 ?_;refine pp 8 109 ?_;refine pl 5 106 B ?_;refine pl 7 108 c2 ?_;refine pl 9 110 z ?_;simp only[puts];refine pc 10 111 (Qg h1 k ϖ L.out M.out d p hp) ?_;rintro e I⟨cv,ev,rfl,l,r⟩;refine⟨_,rfl,?_⟩;clear B C c2 z H;refine pp 11 100 ?_;refine pp 12 112 ?_;refine pp 13 113 ?_;refine pp 14 14 ?_;refine pp 15 15 ?_;refine pd ?_;simp only[puts];have o:=l g c _ (by decide) (by decide) h1.row;replace r4:=l b4 _ _ (by decide) (by decide) r4;clear h1 l;go_wp2_with fail
    go_upto_region 13 with fail
    refine eN 16 rfl ?_;have q:aG [] I I.drew:=aG.drew ..;replace o:=q.row o;replace r4:=q.row r4;generalize I.drew=w9 at*;have B:=o.val k x L.out;have C:=o.val (3+k) y M.out;have c2:=r4.val 2 (.int .i64 d);have z:=r4.val 3 (.string (aj p));have H:=r4.val 4 (.string (aj G));refine pp 0 115 ?_;refine pp 1 116 ?_;refine pp 2 117 ?_;refine pp 3 118 ?_;refine pp 4 119 ?_;refine pp 6 121 ?_;refine pp 8 123 ?_;refine pl 5 120 C ?_;refine pl 7 122 c2 ?_;refine pl 9 124 z ?_;simp only[puts];refine pc 10 125 (r _ q) ?_;rintro e Z⟨rfl,T⟩;refine⟨_,rfl,?_⟩;clear B C c2 z H q;refine pp 11 114 ?_;refine pp 12 126 ?_;refine pp 13 127 ?_;refine pp 14 16 ?_;refine pp 15 17 ?_;refine pd ?_;simp only[puts];go_wp2;exact⟨Z.tape,Z.drawn,.bool true,ϰ,rfl,c,F,ts,T.more ϖ,ϖ⟩
   .have d3:(
     j==3)=false:=by simpa using k3
    clear k3;refine tv ⟨h1,r4⟩ ?_;clear h1 r4;rintro P⟨h1,r4⟩;go_wp2_with fail;refine aB.kN (b:=false) rfl ?_;rw[Γ ϛ];refine aB.dI ?_;by_cases k4:j=4
    .subst k4;refine tv ⟨h1,r4⟩ ?_;clear h1 r4;rintro P⟨h1,r4⟩;go_wp2_with fail;refine aB.kN (b:=true) rfl ?_;rw[κ rfl];refine tv ⟨h1,r4⟩ ?_;clear h1 r4;rintro D⟨h1,r4⟩;go_wp2_with fail
     go_upto_region 16 with fail
     refine eN 14 rfl ?_;have q:aG [] D D.drew:=aG.drew ..;replace h1:=h1.new q;replace r4:=q.row r4;generalize D.drew=X at*;clear q;have B:=h1.row.val k x L.out;have C:=h1.row.val (3+k) y M.out;have c2:=r4.val 2 (.int .i64 d);have z:=r4.val 3 (.string (aj p));have H:=r4.val 4 (.string (aj G));refine pp 0 139 ?_;refine pp 1 140 ?_;refine pp 2 141 ?_;refine pp 3 142 ?_;refine pp 4 143 ?_;refine pp 6 145 ?_;refine pl 5 144 B ?_;refine pl 7 146 c2 ?_;simp only[puts];refine pc 8 147 (Mf h1 k ϖ L.out M.out d) ?_;rintro e I⟨v,ev,xs,rfl,ar,hv,_,N,r⟩;refine⟨_,rfl,?_⟩;clear B C c2 z H;refine pp 9 138 ?_;refine pp 10 148 ?_;refine pp 11 149 ?_;refine pp 12 18 ?_;refine pp 13 19 ?_;refine pd ?_;simp only[puts];have o:=(h1.new N).row;replace r4:=N.row r4;go_wp2_with fail
     go_upto_region 17 with fail
     refine eN 14 rfl ?_;have q:aG [] I I.drew:=aG.drew ..;replace o:=q.row o;replace r4:=q.row r4;replace N:=N.trans q;replace hv:=q.owns hv;generalize I.drew=w9 at*;have B:=o.val k x L.out;have C:=o.val (3+k) y M.out;have c2:=r4.val 2 (.int .i64 d);have z:=r4.val 3 (.string (aj p));have H:=r4.val 4 (.string (aj G));refine pp 0 151 ?_;refine pp 1 152 ?_;refine pp 2 153 ?_;refine pp 3 154 ?_;refine pp 4 155 ?_;refine pp 6 157 ?_;refine pl 5 156 C ?_;refine pl 7 158 c2 ?_;simp only[puts];refine pc 8 159 (r _ q) ?_;rintro e Z⟨u,rfl,hu,f2⟩;refine⟨_,rfl,?_⟩;clear B C c2 z H q;refine pp 9 150 ?_;refine pp 10 160 ?_;refine pp 11 161 ?_;refine pp 12 20 ?_;refine pp 13 21 ?_;refine pd ?_;simp only[puts];replace N:=N.trans f2;replace hv:=f2.owns hv;clear f2 o r4 r;go_wp2_with fail;refine(n9 Z _ _ v u xs xs hv hu ϖ ϖ).mono ?_;rintro e R⟨rfl,f3⟩;rw[show decide (xs=xs)=true from decide_eq_true rfl];replace N:=N.trans f3;replace hv:=f3.owns hv;clear f3 hu;have⟨av,h6,ha⟩:=h1.all;clear ha
     go_upto_region 19 with fail
     refine ab 13 ?_;have q:aG [] R R.drew:=aG.drew ..;replace N:=N.trans q;replace hv:=q.owns hv;generalize R.drew=wc at*;clear q;have cell:∀{w},aG [] X w->w.cell? ⟨g,6,none⟩=some av:=λf=>by rw[(h1.new f).row.cell];exact h6
     have c6:=cell N;refine ap 0 165 ?_;refine ap 1 166 ?_;refine ap 2 167 ?_;refine ap 3 168 ?_;refine ap 5 170 ?_;refine ap 6 171 ?_;simp only[puts];refine lW (m:=4) (Y:=List Θ×Nat×Φ) [8,7,4,6,5,3,2,1,0] (λy=>il y.2.2 y.1/\Row y.2.2 y.2.1 y.1.toArray 122/\aG [] X y.2.2) (λy a=>((a.put (some 169) av).put (some 172) (.agg y.1.toArray)).put (some 173) (.slice (some ⟨y.2.1,0,none⟩) 1 1)) (λy=>y.2.2) ?_ λS=>?_
     .rintro⟨tx,bz,wz⟩ ⟨s,ra,Q⟩;replace s:il wz tx:=s;replace ra:Row wz bz tx.toArray 122:=ra;replace Q:=h1.new (Q:aG [] X wz);clear c6;have⟨RG,zR,V⟩:=Q.all;obtain rfl:av=RG:=by rw[h6]at zR;injection zR
      have U:1<=wz.heap.size:=by have q1:=Q.pos;have q2:=Q.row.lt;exact ac3 q1 (Nat.le_of_lt q2)
      have l5:tx.length=5:=by obtain⟨_,_,_,_,_,rfl,_⟩:=id s;rfl
      simp only[puts];refine aO 9 (pg 9 rfl rfl λK hK=>iL 71 122 5 112 bR _ _ rfl 1 av ts.length ts.flatten rfl V.row bz 1 1 tx rfl _ _ ra (ν (by simp[l5])) ϖ s.one ϖ ϖ ϖ U λga ca wq oq fq _=>hK _ _ ?_);have O:=Q.push h6 s fq oq;have rq:Row wq g c 73:=fq.row Q.row λhi=>own_ne V.row Q.row (by decide) (by simpa using hi);have c6:=rq.val 6 av h6;have ht:=rq.thaw 6;clear rq fq oq ra Q V zR s;refine ap 10 175 ?_;refine ap 11 176 ?_;simp only[puts];refine aO 12 (sk 12 ?_);refine ad ?_;simp only[puts];clear c6 ht;go_wp2_with fail;generalize wq.setCell ⟨g,6,none⟩ (.slice (some ⟨ga,0,none⟩) (ts.length+1) ca)=we at O⊢;exact⟨we.tape,we.drawn,.bool true,ϰ,rfl,_,_,_,O.more ϖ,ϛ⟩
     have aa:=oR _ v xs n wc hv ϖ hn;simp only[puts]at S
     repeat' first
      |((
        first
        |refine aT 4 7 ?_ ?_
        |refine aT 4 8 ?_ ?_
        |refine aO 4 ?_
        |refine aO 7 ?_
        |refine aO 8 ?_)<;>first
        |(refine sv 4 169 ?_;simp only[puts])
        |(
          refine sc 7 172 aa ?_;rintro e wk⟨gg,hh,ii,mm,rfl,m1,m2,m3,m4,fk⟩;refine⟨_,rfl,?_⟩;have fw:aG [] X wk:=N.trans fk (by intro i hi;right;exact(hv.lt i (by simpa using hi)).1);have s:il wk [v,gg,hh,ii,.string mm]:=⟨_,_,_,_,_,rfl,m1,m2,m3,m4⟩
          have ck:=cell fw;simp only[puts])
        |(
          refine Ob 8 rfl rfl (some 173) rfl 71 122 5 112 bR _ rfl ϖ (.agg #[v,gg,hh,ii,.string mm]) rfl rfl λbz wz fz rz=>?_
          replace s:=s.ky fz ϛ;replace fw:=fw.trans fz;have cz:=cell fw;simp only[puts]))
      |exact S ([v,gg,hh,ii,.string mm],bz,wz) _ ϰ ⟨s,rz,fw⟩
    .have d4:(j==4)=false:=by simpa using k4
     clear k4;refine tv ⟨h1,r4⟩ ?_;clear h1 r4;rintro P⟨h1,r4⟩;go_wp2_with fail;refine aB.kN (b:=false) rfl ?_;rw[Γ ϛ];refine aB.dI ?_;by_cases k5:j=5
     .subst k5;refine tv ⟨h1,r4⟩ ?_;clear h1 r4;rintro P⟨h1,r4⟩;go_wp2_with fail;refine aB.kN (b:=true) rfl ?_;rw[κ rfl];refine aB.dI (aB.ep (eT _ rfl (.inr rfl) rfl (eT _ rfl (.inr rfl) rfl (eT _ rfl (.inr rfl) rfl ?_))));refine jY (f2:=68) #[.tmp 185,.tmp 186,.tmp 187] #[.pointer (some ⟨g,0,none⟩),.int .i64 k,.int .i64 n] (R2:=th g (ts.length+1) (A+80)) rfl rfl ϰ (λb w=>ϰ) ϰ (Ro k n ϖ h1 W aq hn) λv D hR _=>?_
      obtain⟨rfl,hR⟩:=hR;refine eT _ rfl (.inl rfl) rfl (aB.cT (aB.DY ⟨.bool true,ϰ,rfl,hR⟩))
     .have d5:(j==5)=false:=by simpa using k5
      clear k5;refine tv ⟨h1,r4⟩ ?_;clear h1 r4;rintro P⟨h1,r4⟩;go_wp2_with fail;refine aB.kN (b:=false) rfl ?_;rw[Γ ϛ];refine aB.Vz (aB.Je ?_);refine tv ⟨h1,r4⟩ ?_;clear h1 r4;rintro P⟨h1,r4⟩;go_wp2_with (with_reducible refine ax 77 rfl ?_);refine bT rfl 77 _ rfl b4 0 rfl ϰ 5 ϰ _ _ r4 [.int .i64 j,.int .i64 on,.int .i64 d,.string (aj p),.string (aj G)] rfl rfl ?_;go_wp2_with fail;refine(LV h1 W8 k ϖ j on d (aj p) (aj G) ao an).mono ?_;rintro e D⟨rfl,c',F',T⟩;go_wp2;exact⟨D.tape,D.drawn,.bool true,ϰ,rfl,c',F',ts,T,ϖ⟩
end
section
open Go.ChangeShapes Go.WideShapes Go.ChangeAt Go.RowKit Go.Deep Go.Joins Go.Lib Go.Conc Go.ConcM
def mW(h:(Lit.int .i64 n).wf=true):tP n:=by
 unfold tP;simp[Lit.wf]at h;exact h
section
variable {H:Type}{enc:θ×Θ->H}{w:Φ}{base:Nat}{spare:Nat->Bool}{held:Bool}
def Na:prog.cellsOf 3=1:=ϰ
def J9{α:Type}{d:Nat->α->Prop}:∀n:Nat,(∀i,i<n->∃y,d i y)->∃l:List α,l.length=n/\∀i,(h:i<l.length)->d i l[i]
 |0,_=>⟨[],rfl,λi h=>by simp at h⟩
 |n+1,h=>by
  have⟨l,c,f⟩:=J9 n λi b=>h i ϖ
  have⟨y,e⟩:=h n ϖ;refine⟨l++[y],by simp[c],λi b=>?_⟩;by_cases a:i<l.length;rw[List.getElem_append_left a];exact f i a;have:i=n:=by simp at b;omega
  subst this;rw[List.getElem_append_right ϖ];simpa[c] using e
end
def K4:((begin prog (λ_ _=>0) default).world.heap[0]?).bind Obj.row?=some (#[.int .i64 0],3):=ϰ
def AO:prog.globals.size=1:=ϰ
def Ak:prog.cellTypes prog.depth 3=some [3]:=ϰ
def AA(w:Φ):Prop:=∃c t f,w.heap[0]?=some (.cells c t f)/\∀v∈c,∃q,v=.int .i64 q/\c.size=1
def AA.lS(h:AA w):xW w:=by
 have⟨c,t,f,h1,h2⟩:=h;refine⟨c,t,f,h1,λv hv r hr=>?_⟩;obtain⟨q,rfl,_⟩:=h2 v hv;cases hr
def zV(h:w.ShapedOpen prog):AA w:=by
 have⟨cs,h1,h2,e⟩:=h.1 0 _ _ (by rw[AO];omega) K4;have⟨ts,e1,_,d⟩:=e ϰ;rw[Ak]at e1;obtain rfl:=ag2 e1;refine⟨cs,_,_,h1,λv hv=>?_⟩;obtain⟨i,c,rfl⟩:=am9.1 hv;have⟨u,b,a⟩:=d i cs[i] (by simp[c]);have:u=3:=by simp only[List.length_singleton,Nat.mod_one]at b;simpa using b.symm
 subst this;unfold Cell.ok at a;rw[show prog.underlying 3=some (.int .i64) by kernel_rfl]at a;generalize cs[i]=x at a;cases x<;>simp at a;rename_i k n;exact⟨n,by rw[a.1],by simpa using h2⟩
def hide(W:Φ):Φ:={W with heap:=W.heap.mapIdx λb o=>if b=0 then o else .cells #[] 1000000 (0,0)}
def hidden(W:Φ)(b:Nat):Prop:=b<W.heap.size/\b≠0
def jB(W:Φ):(hide W).heap.size=W.heap.size:=by simp[hide]
def qV(W:Φ)(b:Nat):(hide W).heap[b]?=(W.heap[b]?).map λo=>if b=0 then o else .cells #[] 1000000 (0,0):=by simp[hide]
def Mz(h:xW W):xW (hide W):=by
 have⟨c,t,f,h1,h2⟩:=h;exact⟨c,t,f,by rw[qV,h1];simp,h2⟩
def PM{W:Φ}(h:xW W):Link (hidden W) aB.no (λb=>b<W.heap.size) aB.no id (hide W) W:=by
 have⟨c,t,f,h1,h2⟩:=h;have h0:=(Ψ.1 h1).1;have j:∀b o,(hide W).heap[b]?=some o->¬hidden W b->b=0/\o=.cells c t f:=λb o a p=>by
  have l:b<W.heap.size:=by rw[<-jB];exact(Ψ.1 a).1
  have g:b=0:=ad2 λq=>p ⟨l,q⟩
  subst g;rw[qV,h1]at a;simp at a;exact⟨rfl,a.symm⟩
 have k:∀b o,(hide W).heap[b]?=some o->hidden W b->o=.cells #[] 1000000 (0,0):=λb o a d=>by rw[qV,τ d.1,ι,Γ d.2]at a;exact(ag2 a).symm
 have low:∀b,hidden W b\/aB.no b->b<(hide W).heap.size:=λb a=>by rw[jB];exact a.elim (·.1) False.elim
 have n:iT (hidden W) (hide W) 0:=⟨by rw[jB];exact h0,λq=>q.2 rfl⟩
 refine⟨λ_ _ e=>e,rfl,λb a=>by rw[jB]at a;exact a,⟨λb o a d _=>?_,k,λb o _ g=>g.elim,low,λb g=>g.elim,n,λb o a d r hr=>?_⟩,⟨λ_ _ e=>e,rfl,rfl,λb a _=>by have a:b<(hide W).heap.size:=a;rw[jB]at a;exact a,λb o a d _=>?_,k,λb o _ g=>g.elim,low,λb o a i m=>?_⟩,λb a _=>by rw[<-jB];exact a.1,λb g=>g.elim⟩
 obtain⟨rfl,rfl⟩:=j b o a d;trivial;obtain⟨rfl,rfl⟩:=j b o a d;cases hr with|cells hv hr=>exact absurd hr (h2 _ hv r)
 obtain⟨rfl,rfl⟩:=j b o a d;refine⟨trivial,?_⟩;show W.heap[0]?=_;rw[h1];rw[qK λr hr=>by cases hr with|cells hv hr=>exact absurd hr (h2 _ hv r)];by_cases d:hidden W b;have:=k b o a d;subst this;exact m.elim;obtain⟨rfl,rfl⟩:=j b o a d;exact m.elim
def Iz(h:xW W)(K:Nat->Option Obj)(h0:K 0=none):Link (hidden W) aB.no (λb=>b<W.heap.size/\K b=none) aB.no id (hide W) W:=by
 have a:=PM h;refine⟨a.inj,a.zero,a.lt,a.lw,a.wr,λb hv c=>⟨a.own b hv c,?_⟩,a.ro⟩;have d:b=0:=ad2 λq=>hv.2 ⟨by have:=hv.1;rwa [jB]at this,q⟩
 subst d;exact h0
end
section
open Go.Conc
namespace aB
section
variable (Ok:Env)(r:List Nat)
def i6(f:ac5)(D:nj)(t:ϕ)(R:ϥ)(a:Act)(wL:Φ):Prop:=
 ∀(CS:Ϙ)(π:ϙ)(M:an4)(tr:Trace),G5 Ok π wL M tr (G ((base f).at (bF π a D) t) CS)->VA Ok.H wL a.tmps->a.defers=[]->
  (∀(a':Act)(g:nj)(oT:Φ)(dg:ϙ)(e:an4)(c:Trace)(todo:ϕ),(∀y∈r,y∉sl g)->(∃t d,R a' (az oT t d))->G5 Ok dg oT e c (G {(base f).at (bF dg a' g) todo with mode:=.returning} CS)->
   VA Ok.H oT a'.tmps->a'.defers=[]->(∀b,b<wL.heap.size->dg b=π b)->wL.heap.size<=oT.heap.size->Ok.Ok e c)->Ok.Ok M tr
end
section
variable {Ok:Env}{r:List Nat}{f:ac5}{D:nj}{k t:List Item}{R:Act->Φ->Prop}{a:Act}{wL:Φ}
def rv(t':eH)(d:Nat):i6 Ok r f D t R a (az wL t' d)↔i6 Ok r f D t R a wL:=
 ⟨λh CS π M tr b=>h CS π M tr ((G5.az t' d).2 b),λh CS π M tr b=>h CS π M tr ((G5.az t' d).1 b)⟩
def je{t':ϕ}(hs:∀(b:Act)(CS:Ϙ)(w:Φ),(∀x,jP (sl D) x=true->a.eval x=.bool true->b.eval x=.bool true)->(∀x,jP (sl D) x=true->a.eval x=.bool false->b.eval x=.bool false)->stepG PP true (G ((base f).at b t) CS) w=.go (G ((base f).at b t') CS) w)(h:i6 Ok r f D t' R a wL):i6 Ok r f D t R a wL:=λCS π M tr j ha hd hk=>by
 have ev:∀(x:ac4)(t:Bool),jP (sl D) x=true->a.eval x=.bool t->(bF π a D).eval x=.bool t:=λx t c d=>by
  cases x with
  |tmp i=>show(zu D (a.tmps.map (ren π))).getD i undef=_;rw[ag1,uP D _ i (JW c),<-ag1,kZ,show a.tmps.getD i undef=_ from d];simp
  |const v=>exact d
  |global g=>cases d
  |func f=>cases d
 exact iC j (hs _ _ · (λx c=>ev x true c) λx c=>ev x false c) λl k e=>h CS π l k e ha hd hk
def fE{x y:Code}(h:i6 Ok r f D (.code x::.code y::k) R a wL):i6 Ok r f D (.code (.seq x y)::k) R a wL:=je (λ_ _ _ _ _=>stepG_seq) h
def Cu{id:Nat}{c:Code}(h:i6 Ok r f D (.code c::.inBlock id::k) R a wL):i6 Ok r f D (.code (.block id c)::k) R a wL:=je (λ_ _ _ _ _=>stepG_block) h
def GL{id:Nat}(h:i6 Ok r f D k R a wL):i6 Ok r f D (.inBlock id::k) R a wL:=je (λ_ _ _ _ _=>stepG_inBlock) h
def Rh{c:Code}(h:i6 Ok r f D (.code c::.inLoop c::k) R a wL):i6 Ok r f D (.code (.loop c)::k) R a wL:=je (λ_ _ _ _ _=>stepG_loop) h
def Jd{c:Code}(h:i6 Ok r f D (.code c::.inLoop c::k) R a wL):i6 Ok r f D (.inLoop c::k) R a wL:=je (λ_ _ _ _ _=>stepG_inLoop) h
def Re(h:i6 Ok r f D k R a wL):i6 Ok r f D (.code .skip::k) R a wL:=je (λ_ _ _ _ _=>stepG_skip) h
def Rl{id:Nat}{k':ϕ}(b:exitTo id k=some k')(h:i6 Ok r f D k' R a wL):i6 Ok r f D (.code (.exit id)::k) R a wL:=je (λ_ _ _ _ _=>stepG_exit b) h
def GN{x:ac4}{p q:Code}{b:Bool}(c:a.eval x=.bool b)(d:jP (sl D) x=true)(h:i6 Ok r f D (.code (if b then p else q)::k) R a wL):i6 Ok r f D (.code (.cond x p q)::k) R a wL:=by
 refine je (λe CS w h1 h2=>?_) h;cases b with|true=>exact stepG_cond (h1 x d c)|false=>exact stepG_cond (h2 x d c)
def kD{id:Nat}(h:i6 Ok r f D (.inRegion ops (range ops.size)::k) R a wL):i6 Ok r f D (.code (.region id ops false)::k) R a wL:=je (λ_ _ _ _ _=>stepG_region) h
def gC(h:i6 Ok r f D k R a wL):i6 Ok r f D (.inRegion ops []::k) R a wL:=je (λ_ _ _ _ _=>stepG_region_end) h
def Js(Ok:Env)(r:ϓ)(b:ϡ)(f:ac5)(D:nj)(k:ϕ)(R:ϥ):Exit->Act->Φ->Prop
 |.normal,a,w=>i6 Ok r f D k R a w
 |.exit id,a,w=>b=some id/\∃k',exitTo id k=some k'/\i6 Ok r f D k' R a w
 |.ret,a,w=>∃t d,R a (az w t d)
 |_,_,_=>False
def Ik{b:ϡ}:QOk b (Js Ok r b f D k R) where
 tape:=λe a w t d=>by
  cases e with|normal=>exact rv t d|exit id=>exact and_congr Iff.rfl (exists_congr λk'=>and_congr Iff.rfl (rv t d))|ret=>exact Iff.rfl|_=>exact Iff.rfl
 out:=λe a w h=>by
  cases e with|normal=>exact .inl rfl|ret=>exact .inr (.inl rfl)|exit id=>exact .inr (.inr ⟨id,rfl,h.1⟩)|_=>exact h.elim
def Rj{t0:ϕ}(C:ϡ)(hr:∀y∈r,y∉sl D)(h0:∃fn,PP.funcs[f]?=some fn)(JU:∀it∈t0,cM (sl D) PP S0 E0 true it=true)(K:∀id,C=some id->∃y,exitTo id k=some y)(n:∀t d,WpT PP t0 (Js Ok r C f D k R) a (az wL t d)):i6 Ok r f D (t0++k) R a wL:=λCS π M tr F ha hd hk=>by
 refine mb F (λown w m=>PR EC (λ_ _ h=>h) h0 zM Ik (B:=base f) (D0:=D) (CS:=CS) (kT:=k) rfl (by simp[base]) K JU m ha hd n) ?_;rintro Dead s g w u o A⟨e,a',oT,dg,q,m,l,j,hg,i,c⟩hs;have go:∀k',g=G ((base f).at (bF dg a' D) k') CS->i6 Ok r f D k' R a' oT->Ok.Ok u o:=λk' e h=>
  h CS dg u o ⟨Dead,s,w,e▸A,m,hs⟩ j l λH Q I J N O todo r2 S p v d P z=>hk H Q I J N O todo r2 S p v d (λb E=>(P b (ω E c)).trans (i b E)) (ac3 c z)
 cases e with
 |normal=>exact go k hg q
 |exit id=>have⟨_,k',h1,h2⟩:=q;have⟨y,x,L⟩:=hg;rw[h1]at x;cases x;exact go k' L h2
 |ret=>obtain⟨todo,rfl⟩:=hg;exact hk a' D oT dg u o todo hr q ⟨Dead,s,w,A,m,hs⟩ j l i c
 |_=>exact q.elim
theorem gZ{cd:Code}(iY:Option Nat)(hr:∀y∈r,y∉sl D)(h0:∃fn,PP.funcs[f]?=some fn)(I:Φ->Prop)(hb:∀w t d,I w->I (az w t d))(hI:I wL)(hwp:∀w,I w->w.heap.size=wL.heap.size->cd.wp PP (Js Ok r iY f D k R) a w)(JU:fT (sl D) PP S0 E0 true cd=true:=by kernel_rfl)(hx:∀id,iY=some id->∃y,exitTo id k=some y:=by simp):i6 Ok r f D (.code cd::k) R a wL:=
 Rj (t0:=[.code cd]) iY hr h0 (λit hit=>by simp at hit;subst hit;exact JU) hx λt d=>hwp _ (hb _ t d hI) rfl
def Vy{ops:Ϝ}{i:Nat}{rest:ϓ}{o:Oper}(N:ops[i]?=some o)(xo:fS (sl D) PP S0 E0 true o=true)(O:∀π,wanted o (yielded ops (bF π a D).tmps)=true)(h:∀t d,uponE o a (λa' w'=>i6 Ok r f D (.inRegion ops rest::k) R a' w') (λ_ _ _=>False) ((execOp a.eval o).run PP (az wL t d))):i6 Ok r f D (.inRegion ops (i::rest)::k) R a wL:=λCS π M tr hp ha hd hk=>by
 have n:(base f).kind≠.early:=by simp[base]
 have⟨_,_,l⟩:=mG xo;refine mb (Stop:=λs g w=>∃a' oT dg,i6 Ok r f D (.inRegion ops rest::k) R a' oT/\g=G ((base f).at (bF dg a' D) (.inRegion ops rest::k)) CS/\Link Ok.H no s no dg oT w/\VA Ok.H oT a'.tmps/\a'.defers=[]/\(∀b,b<wL.heap.size->dg b=π b)/\wL.heap.size<=oT.heap.size) hp (λown w I=>?_) ?_;refine aJ.step rfl λw₁ hR=>?_
 have⟨r1,r2,r3⟩:=zM.rel own w w₁ hR;have⟨dg,c,K,j⟩:=I.rely r1 r2 r3;have C:LW Ok.H no (az wL w₁.tape w₁.drawn):=c.lw.az ..;have B:bF π a D=bF dg a D:=oK ha (λb m=>(K b m).symm) D;have h1:=h w₁.tape w₁.drawn;have A:=fun {x oT} (hr:(execOp a.eval o).run PP (az wL w₁.tape w₁.drawn)=.ok x oT)=>pT EC c.inj c.zero (λ_ _ h=>h) C c.wr D ha xo hr λi _=>j i
 cases hr:(execOp a.eval o).run PP (az wL w₁.tape w₁.drawn)with
 |halt hh u=>rw[hr]at h1;exact h1.elim
 |ok nx u=>
  rw[hr]at h1;have⟨l1,l2,x',w',e1,e2,e3,S,Q,Y⟩:=A hr;have⟨L,o2⟩:=c.uN (λi _=>j i) l1 l2 e3 S λe he=>Q e (mem_listed (fn:=(base f).fn) he);have y:∀v:Θ,i6 Ok r f D (.inRegion ops rest::k) R (a.put o.dst v) u->VV (iT Ok.H u) v->aJ PP true m9 (λs g w=>∃a' oT dg,i6 Ok r f D (.inRegion ops rest::k) R a' oT/\g=G ((base f).at (bF dg a' D) (.inRegion ops rest::k)) CS/\Link Ok.H no s no dg oT w/\VA Ok.H oT a'.tmps/\a'.defers=[]/\(∀b,b<wL.heap.size->dg b=π b)/\wL.heap.size<=oT.heap.size)
    (m9.up own w₁ w') (G ((base f).at (bF dg (a.put o.dst v) D) (.inRegion ops rest::k)) CS) w':=λv F hv=>
   .stop λJ ⟨d,e⟩=>⟨_,u,dg,F,rfl,by rw[e];exact(o2 _ λb=>Iff.rfl).at d,mE (VA.grow ha l2) hv,(put_defers ..).trans hd,λb m=>(K b m).symm,l2⟩
  cases nx with
  |value v=>cases e2;refine⟨_,w',_,by rw[B];exact stepG_value N (O _) n e1,L,?_⟩;rw[kI _ _ _ _ l];exact y v h1 Y
  |skip=>
   cases e2;refine⟨_,w',_,by rw[B];exact stepG_none N (O _) n e1,L,?_⟩;have e:(bF dg a D).put o.dst undef=bF dg (a.put o.dst undef) D:=by
    have:=kI (π:=dg) a D o.dst undef l
    rwa [show ren dg undef=undef by simp[undef]]at this
   rw[e];exact y undef h1 kQ
  |_=>exact h1.elim
 rintro Dead s g w M' X P⟨a',oT,dg,F,rfl,I,E,H,j,q⟩hs;exact F CS dg M' X ⟨Dead,s,w,P,I,hs⟩ E H λW U Hd Z M2 T todo r2 V p v d g2 z=>hk W U Hd Z M2 T todo r2 V p v d (λb m=>(g2 b (ω m q)).trans (j b m)) (ac3 q z)
def Rg(b:ops[i]?=some o)(xo:fS (sl D) PP S0 E0 true o=true)(hg:o.guard=none)(h:∀t d,uponE o a (λa' w'=>i6 Ok r f D (.inRegion ops rest::k) R a' w') (λ_ _ _=>False) ((execOp a.eval o).run PP (az wL t d))):i6 Ok r f D (.inRegion ops (i::rest)::k) R a wL:=
 Vy b xo (λπ=>by simp[wanted,hg]) h
def MZ(v:Θ)(hv:∀r,¬Value.Has r v)(q:ops[i]?=some o)(hg:o.guard=none)(g:∀t,o.dst=some t->t∉sl D)(b:∀(π:ϙ)(w:Φ),(execOp (bF π a D).eval o).runT PP w #[]=(.ok (.value v) w,#[]))(h:i6 Ok r f D (.inRegion ops rest::k) R (a.put o.dst v) wL):i6 Ok r f D (.inRegion ops (i::rest)::k) R a wL:=λCS π M tr n ha hd hk=>by
 have m:∀c:Array Θ,wanted o (yielded ops c)=true:=λc=>by simp[wanted,hg]
 have l:(base f).kind≠.early:=by simp[base]
 have j:∀w,listed PP (base f).fn (bF π a D) o w=#[]:=λw=>by unfold listed;rw[show(execOp (bF π a D).eval o).events PP w #[]=#[]from congrArg Prod.snd (b π w)];simp[seen]
 refine iC n (λw=>by rw[stepG_value q (m _) l (by rw[<-Sem.runT_fst PP _ w #[],b]),j]) λp s d=>?_
 have e:=kI (π:=π) a D o.dst v g;rw[fZ v λr hr=>absurd hr (hv r)]at e;rw[e]at d;exact h CS π p s d (mE ha λr hr=>absurd hr (hv r)) ((put_defers ..).trans hd) hk
def Lp:nj->Nat->Θ->nj
 |[],_,_=>[]
 |p::D,d,v=>if p.1=d then(d,v)::D else p::Lp D d v
def FA:∀(D:nj)(d:Nat)(v:Θ)(c:ϐ),(sl D).Nodup->d∈sl D->(zu D c).setIfInBounds d v=zu (Lp D d v) c
 |[],_,_,_,_,h=>by simp[sl]at h
 |p::D,d,v,c,hn,h=>by
  simp only[sl,ϴ,ϒ4]at hn;unfold Lp;split;rename_i e;show(zu D (c.setIfInBounds p.1 p.2)).setIfInBounds d v=zu D (c.setIfInBounds d v);have hd:d∉sl D:=e▸hn.1;rw[Dn D _ d v hd,e];congr 1;simp;rename_i e;have hd:d∈sl D:=by simp only[sl,ϴ,ac2]at h;exact h.resolve_left λq=>e q.symm
  exact FA D d v (c.setIfInBounds p.1 p.2) hn.2 hd
def Rf(d:Nat)(v:Θ)(s:ops[i]?=some o)(n:∀π,wanted o (yielded ops (bF π a D).tmps)=true)(j:o.dst=some d)(u:(sl D).Nodup)(g:d∈sl D)(b:∀(π:ϙ)(w:Φ),(execOp (bF π a D).eval o).runT PP w #[]=(.ok (.value v) w,#[]))(h:i6 Ok r f (Lp D d v) (.inRegion ops rest::k) R a wL):i6 Ok r f D (.inRegion ops (i::rest)::k) R a wL:=λCS π M tr p ha hd hk=>by
 have m:(base f).kind≠.early:=by simp[base]
 have l:∀w,listed PP (base f).fn (bF π a D) o w=#[]:=λw=>by unfold listed;rw[show(execOp (bF π a D).eval o).events PP w #[]=#[]from congrArg Prod.snd (b π w)];simp[seen]
 refine iC p (λw=>by rw[stepG_value s (n π) m (by rw[<-Sem.runT_fst PP _ w #[],b]),l]) λq t c=>?_
 have e:(bF π a D).put o.dst v=bF π a (Lp D d v):=by rw[j];simp only[Act.put,bF];rw[FA D d v _ u g]
 rw[e]at c;exact h CS π q t c ha hd hk
def DV(d:Nat)(v:Θ)(j:ops[i]?=some o)(hg:o.guard=none)(b:o.dst=some d)(g:(sl D).Nodup)(e:d∈sl D)(c:∀(π:ϙ)(w:Φ),(execOp (bF π a D).eval o).runT PP w #[]=(.ok (.value v) w,#[]))(h:i6 Ok r f (Lp D d v) (.inRegion ops rest::k) R a wL):i6 Ok r f D (.inRegion ops (i::rest)::k) R a wL:=
 Rf d v j (λπ=>by simp[wanted,hg]) b g e c h
def ry(xs:Array ac4)(args:ϐ)(I:ops[i]?=some o)(hg:o.guard=none)(u:xs.all pX=true)(q:xs.all (jP (sl D))=true)(s:∀t,o.dst=some t->t∉sl D)(j:∀(b:Act)(w:Φ),(execOp b.eval o).runT PP w #[]=(.ok (.enter f2 (xs.map b.eval)) w,#[]))(l:xs.map a.eval=args)(G:CC Ok f2 args R2 wL)(h:∀v w',R2 v w'->wL.heap.size<=w'.heap.size->i6 Ok r f D (.inRegion ops rest::k) R (a.put o.dst v) w'):i6 Ok r f D (.inRegion ops (i::rest)::k) R a wL:=λCS π M tr J ha hd hk=>by
 subst l;have E:∀c:Array Θ,wanted o (yielded ops c)=true:=λc=>by simp[wanted,hg]
 have C:(base f).kind≠.early:=by simp[base]
 have F:xs.map (bF π a D).eval=(xs.map a.eval).map (ren π):=by rw[ϕ1];exact al0 λx y=>mX a D (ae8.1 u x y) (ae8.1 q x y)
 have hr:∀w,(execOp (bF π a D).eval o).run PP w=.ok (.enter f2 ((xs.map a.eval).map (ren π))) w:=λw=>by rw[<-Sem.runT_fst PP _ w #[],j,F]
 have B:∀w,listed PP (base f).fn (bF π a D) o w=#[]:=λw=>by unfold listed;rw[show(execOp (bF π a D).eval o).events PP w #[]=#[]from congrArg Prod.snd (j _ w)];simp[seen]
 refine iC J (λw=>by rw[stepG_enter I (E _) C (hr w),B]) λO X A=>?_
 refine G _ CS π O X A (λv hv=>?_) λv oT dg Q L ⟨t,d,T⟩ n hv m g=>?_
 obtain⟨x,y,rfl⟩:=ϕ2.1 hv;exact pL ha (ae8.1 u x y);have P:i6 Ok r f D (.inRegion ops rest::k) R (a.put o.dst v) oT:=(rv t d).1 (h v _ T g);have e:((base f).at (bF π a D) (.inRegion ops (i::rest)::k)).finish (ren dg v)=(base f).at (bF dg (a.put o.dst v) D) (.inRegion ops rest::k):=by rw[Frame.finish_at,I,ϔ5,oK ha m,kI _ _ _ _ s]
 rw[e]at n;exact P CS dg Q L n (mE (VA.grow ha g) hv) ((put_defers ..).trans hd) λK Y N S U V todo r2 Z p v d W z=>hk K Y N S U V todo r2 Z p v d (λb H=>(W b (ω H g)).trans (m b H)) (ac3 g z)
def MG{D:nj}{r:Nat}(h:r∉sl D):(bF π a D).tmps.getD r ϗ=ren π (a.tmps.getD r ϗ):=by
 show(zu D (a.tmps.map (ren π))).getD r ϗ=_;rw[ag1,uP D _ r h,<-ag1,kZ]
def DW{c:Code}(I:nj->Act->Φ->Prop)(e:Act->Φ->Nat)(h0:I D a wL)(b:∀D a w,I D a w->(∀d a' w',I d a' w'->e a' w'<e a w->i6 Ok r f d (.inLoop c::k) R a' w')->i6 Ok r f D (.code c::.inLoop c::k) R a w):i6 Ok r f D (.code (.loop c)::k) R a wL:=by
 have key:∀n D a w,I D a w->e a w=n->i6 Ok r f D (.code c::.inLoop c::k) R a w:=by
  intro n;induction n using Nat.strongRecOn with|_ n i=>exactλD a w h l=>b D a w h λd a' w' g j=>Jd (i _ (l▸j) d a' w' g rfl)
 exact Rh (key _ _ _ _ h0 rfl)
def MY(q:Nat)(c:Obj)(p:Ok.K q=some c)(v:Θ)(hv:∀r,¬Value.Has r v)(S:ops[i]?=some o)(A:∀π,wanted o (yielded ops (bF π a D).tmps)=true)(n:∀t,o.dst=some t->t∉sl D)(j:∀(π:ϙ)(w:Φ),w.heap[q]?=some c->(execOp (bF π a D).eval o).run PP w=.ok (.value v) w)(B:∀(π:ϙ)(w:Φ),w.heap[q]?=some c->∀e∈(execOp (bF π a D).eval o).events PP w #[],e.sync=false/\gz.nT q e.loc)(h:i6 Ok r f D (.inRegion ops rest::k) R (a.put o.dst v) wL):i6 Ok r f D (.inRegion ops (i::rest)::k) R a wL:=λCS π M tr J ha hd hk=>by
 have z:(base f).kind≠.early:=by simp[base]
 have⟨Sh,own,w,h1,h2,H,O,x⟩:=J;let u:Nat->Prop:=λq=>∃o,Ok.K q=some o
 have I:∀q,u q->q<w.heap.size/\∀l,gz.nT q l->¬Sh l:=λq ⟨o,p⟩=>⟨(Ψ.1 (x q o p).2.1).1,(x q o p).2.2⟩
 have K:=H.union u I;have e:=kI (π:=π) a D o.dst v n;rw[fZ v λr hr=>absurd hr (hv r)]at e;have m:aJ PP true m9 (λs g w'=>s=(λb=>own b\/u b)/\g=G ((base f).at (bF π (a.put o.dst v) D) (.inRegion ops rest::k)) CS/\∃d,w'=w.at d) (λb=>own b\/u b) (G ((base f).at (bF π a D) (.inRegion ops (i::rest)::k)) CS) w:=by
  refine aJ.step rfl λw₁ P=>?_
  obtain⟨d,rfl⟩:=P;have C:(w.at d).heap[q]?=some c:=(x q c p).2.1;refine⟨_,w.at d,_,stepG_value S (A π) z (j π _ C),⟨ε _,λ_ _ _=>rfl,rfl,rfl,rfl,λev F=>?_⟩,?_⟩;have⟨_,y⟩:=B π _ C ev (by simpa using mem_listed (fn:=(base f).fn) F);exact .inl ⟨q,.inl (.inr ⟨c,p⟩),y⟩;rw[JB,e];exact .stop λE ⟨d2,e2⟩=>⟨rfl,rfl,d2,by rw[e2];rfl⟩
 obtain⟨N,L,t',g',w',e1,e2,⟨s',⟨rfl,rfl,d,rfl⟩,Q⟩,T,_⟩:=mN h1 (yd m K);exact Ok.back _ _ _ _ _ e1 (h CS π L t' ⟨Sh,own,_,e2,h2.at d,Q.part λb y=>.inl y,O,x⟩ (mE ha λr hr=>absurd hr (hv r)) ((put_defers ..).trans hd) hk)
def Ri(q:Nat)(d:Obj)(l:Ok.K q=some d)(v:Θ)(hv:∀r,¬Value.Has r v)(j:ops[i]?=some o)(hg:o.guard=none)(b:∀t,o.dst=some t->t∉sl D)(c:∀(π:ϙ)(w:Φ),w.heap[q]?=some d->(execOp (bF π a D).eval o).run PP w=.ok (.value v) w)(g:∀(π:ϙ)(w:Φ),w.heap[q]?=some d->∀e∈(execOp (bF π a D).eval o).events PP w #[],e.sync=false/\gz.nT q e.loc)(h:i6 Ok r f D (.inRegion ops rest::k) R (a.put o.dst v) wL):i6 Ok r f D (.inRegion ops (i::rest)::k) R a wL:=
 MY q d l v hv j (λπ=>by simp[wanted,hg]) b c g h
end
def FN{f:ac5}{fn:Func}{X:Code}{r:Tmp}(hf:PP.funcs[f]?=some fn)(c:fn.body=some X)(U:PP.inits.idxOf? f=none)(g:fn.results=#[.tmp r])(Y:Link H no (λb=>b<W.heap.size/\K b=none) no id wL W)(S:∀q o,K q=some o->W.heap[q]?=some o)(E:Act)(D0:nj)(O:VA H wL E.tmps)(T:E.defers=[])(m:bF id E D0={tmps:=args++Array.replicate (fn.ntmps-args.size) ϗ,defers:=[]})(y:wL.heap.size=W.heap.size)(h:i6 (Xi Post W H K) [r] f D0 [.code X] (λa w=>R2 (a.tmps.getD r ϗ) w) E wL)(C:∀(v:Θ)(oT:Φ)(π:ϙ)(own:ϒ)(w':Φ),(∃t d,R2 v (az oT t d))->Link H no own no π oT w'->VV (iT H oT) v->(∀b,b<W.heap.size->π b=b)->W.heap.size<=oT.heap.size->W.heap.size<=w'.heap.size->ConcM.OsLater W.os w'.os->w'.output=W.output->(∀q o,K q=some o->w'.heap[q]?=some o)->Post (ren π v) w'):
  RZ Post (solo (G (Frame.enter PP f args .normal) []) W) #[]:=by
 have Z:Zero PP (λ_=>False) (solo (G (Frame.enter PP f args .normal) []) W) #[] (G (Frame.enter PP f args .normal) []) W:=
  ⟨⟨_,none,_,rfl,rfl,leavers_one PP _,by simp[Ids]⟩,⟨past_nil.clean,λi a ha=>absurd ha (by simp[touchAt,Trace.act?]),past_nil.over,rfl,ϛ⟩⟩
 have V:G5 (Xi Post W H K) id wL (solo (G (Frame.enter PP f args .normal) []) W) #[] (G (Frame.enter PP f args .normal) []):=⟨λ_=>False,_,W,Z,Y,⟨λb c l Y h=>h,λb c=>c.1,λl b h=>h.elim,λl h=>h.elim⟩,⟨.refl _,rfl⟩,λq o (Q:K q=some o)=>⟨λc=>(by rw[c.2]at Q;cases Q),S q o Q,λ_ _ h=>h⟩⟩
 rw[enter_at _ hf c,<-m]at V;rw[enter_at _ hf c,<-m];refine h [] id _ _ V O T λa' F oT dg M' nm todo L hR N J aa p u=>?_
 have R:=MG (a:=a') (π:=dg) (L r ϛ);have⟨Dead,own,w,s,z,hs,k,I⟩:=N;obtain⟨gs,sl,q,rfl,h0,hL,_⟩:=s.ex;have P:VV (iT H oT) (a'.tmps.getD r ϗ):=pL (x:=.tmp r) J rfl;have M:W.heap.size<=w.heap.size:=by obtain h0|h0:=ϕ3 W.heap.size;omega;have h1:=z.lt (W.heap.size-1) ϖ;rw[p _ ϖ]at h1;have h2:W.heap.size-1<w.heap.size:=h1;omega
 have j:=λw'' (d:Nat) (e:w''=w.at d)=>C (a'.tmps.getD r ϗ) oT dg own w'' hR (by rw[e];exact z.at d) P (λb c=>(p b (by rw[y];exact c)).trans rfl) (y▸u) (by rw[e];exact M) (by rw[e];exact k.1) (by rw[e];exact k.2) λq o hq=>by rw[e];exact(I q o hq).2.1
 refine beside_ends (Shun:=Dead) (B:=w.heap.size) (D:=λ_ _ _=>False) (λ_ _ _ h=>h.elim) (n:=0) h0 hL s.past λw₁ ⟨d,e⟩=>⟨rfl,ren dg (a'.tmps.getD r ϗ),#[],?_,ϛ,j w₁ d e⟩
 have hr:(results fn (bF dg a' F).tmps).run PP w₁=.ok (ren dg (a'.tmps.getD r ϗ)) w₁:=by rw[results_tmp g];rw[R]
 have m:(results fn (bF dg a' F).tmps).events PP w₁ #[]=#[]:=by
  have e:results fn (bF dg a' F).tmps=pure ((bF dg a' F).tmps.getD r ϗ):=by simp[results,g]
  rw[e];rfl
 simp[G,stepG,unwind,doReturn,Frame.at,base,hf,U,bF,zu]at hr m⊢;rw[hr,m];have A:=U;simp at A;simp[seen,GStep.after,A]
end aB
end
section
open Go.Conc Go.RowKit Go.Lib Go.Sort
def rn(u:Ϡ):Nat->Nat->List Θ->List Θ
 |_,0,r=>r
 |i,n+1,r=>u i::rn u (i+1) n r
namespace aB
section
variable {Ok:Env}{r:List Nat}{f:ac5}{D:nj}{k t:List Item}{R:Act->Φ->Prop}{a:Act}{wL w1:Φ}{ops:Array Oper}{i:Nat}{rest:List Nat}{o:Oper}
def kE(x:ac4)(c:ops[i]?=some o)(b:o.op=.assign x\/o.op=.move x)(hg:o.guard=none)(h:i6 Ok r f D (.inRegion ops rest::k) R (a.put o.dst (a.eval x)) wL)(xo:fS (sl D) PP S0 E0 true o=true:=by kernel_rfl):i6 Ok r f D (.inRegion ops (i::rest)::k) R a wL:=by
 refine Rg c xo hg λt d=>?_
 have e:(execOp a.eval o).run PP (az wL t d)=.ok (.value (a.eval x)) (az wL t d):=by unfold execOp;obtain b|b:=b<;>rw[b]<;>rfl
 rw[e];exact(rv t d).2 h
def sr(v:Θ)(b:ops[i]?=some o)(hg:o.guard=none)(hr:∀t d,(execOp a.eval o).run PP (az wL t d)=.ok (.value v) (az w1 t d))(h:i6 Ok r f D (.inRegion ops rest::k) R (a.put o.dst v) w1)(xo:fS (sl D) PP S0 E0 true o=true:=by kernel_rfl):i6 Ok r f D (.inRegion ops (i::rest)::k) R a wL:=by
 refine Rg b xo hg λt d=>?_
 rw[hr];exact(rv t d).2 h
def vB(B:(Nat->Θ)->Act)(h:∀u,i6 Ok r f D t R (B u) wL)(e:a=B λi=>a.tmps.getD i ϗ:=by kernel_rfl):i6 Ok r f D t R a wL:=e▸h _
def Kz(b:nj)(e:D=b)(h:i6 Ok r f b t R a wL):i6 Ok r f D t R a wL:=e▸h
def QW{q:IntKind}(c:pX x=true)(b:jP (sl D) x=true)(h:a.eval x=.int q n):(bF π a D).eval x=.int q n:=(mX a D c b).trans (by rw[h];simp)
def ams(t:θ)(x:ac4)(j:ops[i]?=some o)(c:o.op=.load t x)(xo:fS (sl D) PP S0 E0 true o=true)(hg:o.guard=none)(ha:(prog.underlying t).map (λd=>match d with|.struct _|.array _ _=>true|_=>false)=some false)(b:Addr)(g:a.eval x=.pointer (some b))(v:Θ)(l:wL.cell? b=some v)(h:i6 Ok r f D (.inRegion ops rest::k) R (a.put o.dst v) wL):i6 Ok r f D (.inRegion ops (i::rest)::k) R a wL:=by
 refine sr (w1:=wL) v j (xo:=xo) hg (λt' d=>?_) h;have e:(az wL t' d).cell? b=some v:=l;have h1:gz.RT (m6.load t (.pointer (some b))).sem (az wL t' d) (.value v) (az wL t' d) #[⟨.cell b,false,false⟩]:=by refine gz.RT.fH (x:=v) ?_ (.pure _);show gz.RT (do if<-isAgg t then Pure.pure (.agg (<-loadCells b (<-Go.sizeOf t)))else load b) _ _ _ _;refine(gz.i7 ha).bk ?_;simp only[ab6,if_false];exact gz.lN e
 have:=h1.run;unfold execOp;rw[c];show(do pure (.value (<-Instr.loadAt t (a.eval x))):Sem Next).run _ _=_;rw[g];exact this
end
end aB
def Fs{off:Nat}{b:Obj}(h:w.rangeAt q off l)(c:w.heap[q]?=some b)(a:w'.heap[q]?=some b):w'.rangeAt q off l:=λi v hv=>by
 have:=h i v hv;unfold World.cell? at this⊢;rw[c]at this;rw[a];exact this
namespace gz
def Zq(b off len cap j:Nat)(c:j<len)(a:PP.underlying t=some (.slice (PP.elem t)))(hm:(PP.info? (PP.elem t)).map (·.size)=some m):
  RT (Instr.indexAt t (.slice (some ⟨b,off,none⟩) len cap) (.int .i64 j)) w (.pointer (some ⟨b,off+j*m,none⟩)) w #[]:=by
 unfold Instr.indexAt;refine RT.bk (x:=(IntKind.i64,(j:Int))) (.pure _) ?_;refine(iw a).bk ?_;refine RT.bk (.pure _) ?_;refine(iw a).bk ?_;simp only;rw[κ ⟨ϖ,ϖ⟩];refine(rO hm).bk ?_;have e:(Addr.add ⟨b,off,none⟩ ((j:Int).toNat*m))=⟨b,off+j*m,none⟩:=by rw[an3,Addr.add_mid]
 rw[e];exact .pure _
end gz
section
variable {o:Oper}{x y:ac4}
def aaV(g:aB.PP.underlying t=some (.slice (aB.PP.elem t)))(hm:(aB.PP.info? (aB.PP.elem t)).map (·.size)=some m)(b off len cap j:Nat)(e:j<len)(a:Act)(c:o.op=.indexAddr t x y)(d:a.eval x=.slice (some ⟨b,off,none⟩) len cap)(f:a.eval y=.int .i64 j)(w:Φ):
  (execOp a.eval o).runT aB.PP w #[]=(.ok (.value (.pointer (some ⟨b,off+j*m,none⟩))) w,#[]):=by
 have h:gz.RT (do pure (.value (<-Instr.indexAt t (a.eval x) (a.eval y))):Sem Next) w (.value (.pointer (some ⟨b,off+j*m,none⟩))) w #[]:=by rw[d,f];exact(gz.Zq b off len cap j e g hm).bk (.pure _)
 unfold execOp;rw[c];exact h #[]
def J7{t:θ}{b off:Nat}{k:Obj}{c:ϐ}{w:Φ}(ha:(aB.PP.underlying t).map (λd=>match d with|.struct _|.array _ _=>true|_=>false)=some true)(z:(aB.PP.info? t).map (·.size)=some c.size)(h0:0<c.size)(l:w.heap[b]?=some k)(m:∀w:Φ,w.heap[b]?=some k->w.rangeAt b off c.toList)(a:Act)(p:o.op=.load t x)(v:a.eval x=.pointer (some ⟨b,off,none⟩)):
  (execOp a.eval o).run aB.PP w=.ok (.value (.agg c)) w/\∀e∈(execOp a.eval o).events aB.PP w #[],e.sync=false/\gz.nT b e.loc:=by
 have hr:=m w l;have g:∀i,i<c.size->w.cell? ⟨b,off+i,none⟩=c[i]?:=λi h=>by have:=hr i c[i] (by rw[ai8,τ h]);rw[this,τ h]
 obtain⟨cs,u,f,rfl⟩:∃cs u f,k=.cells cs u f:=by
  have:=g 0 h0;rw[τ h0]at this;unfold World.cell? at this;rw[l]at this;cases k with
  |cells cs u f=>exact⟨cs,u,f,rfl⟩
  |_=>cases this
 have r:∀i,i<c.size->cs[off+i]?=c[i]?:=λi h=>by have:=g i h;unfold World.cell? at this;rw[l]at this;simpa using this
 have q:off+c.size<=cs.size:=by have:=r (c.size-1) ϖ;rw[τ (by omega:c.size-1<c.size)]at this;have:=(Ψ.1 this).1;omega
 have j:cs.extract off (off+c.size)=c:=by apply an5;intro i;rw[Array.getElem?_extract];by_cases h:i<c.size;rw[κ ϖ,r i h];rw[Γ ϖ,Array.getElem?_eq_none ϖ]
 have⟨ev,h1,h2⟩:=gz.kU (t:=t) (off:=off) (n:=c.size) l ha z q;rw[j]at h1;have s:execOp a.eval o=(m6.load t (.pointer (some ⟨b,off,none⟩))).sem:=by unfold execOp;rw[p];show(do pure (.value (<-Instr.loadAt t (a.eval x))):Sem Next)=_;rw[v];rfl
 rw[s];refine⟨h1.run,λe j=>(h2 e ?_).1⟩;have y:(m6.load t (.pointer (some ⟨b,off,none⟩))).sem.events aB.PP w #[]=#[]++ev:=congrArg Prod.snd (h1 #[]);rw[y]at j;simpa using j
end
end
section
open Go.ChangeShapes Go.WideShapes Go.ChangeAt Go.RowKit Go.Deep Go.Joins Go.Lib Go.Conc Go.ConcM
def PU:ownKnob prog.godebug=none:=ϰ
def Mm:laidOutB prog=true:=ϰ
def K0(W:Φ)(b:Nat):Option Obj:=if b=0 then none else W.heap[b]?
def af8(q:Nat)(o:Obj)(h:K0 W q=some o):W.heap[q]?=some o:=by
 unfold K0 at h;split at h;cases h;exact h
section
variable {W oT w':Φ}{π:Nat->Nat}{own:Nat->Prop}
def IG{H:Type}{enc:θ×Θ->H}{P:aa1}{t:θ}(j:laidOutB P=true)(hr:P.readableRec t=true)(c:t<P.types.size){W g:Φ}{v:Θ}{d:DataW H}{f:List MemPlace}(h:DataW.Trod enc P W 0 (λ_=>true) true t v d f)(i:∀k,k<W.heap.size->g.heap[k]?=W.heap[k]?)(a:∀x∈f,x.block<W.heap.size):
  DataW.Trod enc P g 0 (λb=>decide (b<W.heap.size)) true t v d f:=
 WideElems.Trod_stays j hr c h (λx e=>by
  cases x with|cell b o=>exact World.cell?_of_block (w:=W) (i b (a _ e))|map b=>exact i b (a _ e)) (λx e=>by simpa using a x e)
def FV(a:w'.os=W.os)(d:w'.output=W.output)(c:∀k,k<W.heap.size->w'.heap[k]?=W.heap[k]?)(may:MemPlace->Prop):W.keptBut w' may:=by
 refine⟨a,d,λi b=>?_⟩;rw[c i b];split<;>simp_all
end
structure p9 where
 kind:Int
 on:Int
 side:Int
 path:List η
 content:List η
def p9.Ok(a:p9):Prop:=tP a.kind/\tP a.on/\tP a.side/\a.path.length<=9223372036854775807/\a.content.length<=9223372036854775807
def p9.cells(a:p9):Array Θ:=bB a.kind a.on a.side (aj a.path) (aj a.content)
def CallsIn(w:Φ)(ad:Ϣ)(l:List p9):Prop:=∀j,(a:j<l.length)->(l[j]).Ok/\∃b off,ad=some ⟨b,off,none⟩/\w.rangeAt b (off+j*5) (l[j]).cells.toList
def R7(K:Nat->Option Obj)(ad:Ϣ)(l:List p9):Prop:=∀j,(c:j<l.length)->(l[j]).Ok/\∃b off,ad=some ⟨b,off,none⟩/\∃a,K b=some a/\∀w:Φ,w.heap[b]?=some a->w.rangeAt b (off+j*5) (l[j]).cells.toList
def VJ{W:Φ}{ad:Ϣ}{l:List p9}(k:AA W)(h:CallsIn W ad l):R7 (K0 W) ad l:=λj n=>by
 obtain⟨h1,b,off,rfl,h2⟩:=h j n;have a:W.cell? ⟨b,off+j*5+3,none⟩=some (.string (aj l[j].path)):=h2 3 _ rfl;obtain⟨e,d⟩:∃e,W.heap[b]?=some e:=by
  unfold World.cell? at a;cases m:W.heap[b]? with
  |none=>rw[m]at a;cases a
  |some e=>exact⟨e,rfl⟩
 have g:b≠0:=by rintro rfl;have⟨c,t,f,i,o⟩:=k;unfold World.cell? at a;rw[i]at a;simp only[Ϸ,ab6,if_false]at a;have⟨q,r,_⟩:=o _ (al4 a);cases r
 exact⟨h1,b,off,rfl,e,by unfold K0;rw[Γ g];exact d,λw p=>Fs h2 d p⟩
def Qb{k o s:Int}{p c:Ξ}:∀r,¬Value.Has r (.agg (bB k o s p c)):=λr h=>by
 cases h with
 |agg hv h=>simp[bB]at hv;obtain rfl|rfl|rfl|rfl|rfl:=hv<;>cases h
def Cb:(prog.info? 77).map (·.size)=some 5:=ϰ
def tT:prog.cellsOf 77=5:=ϰ
section
variable {H:Type}{enc:θ×Θ->H}{w:Φ}{base:Nat}{spare:Nat->Bool}{held:Bool}
def CE{P:aa1}{t:θ}{f0 f1 f2 c b:Field}{fuel:Nat}{cs:ϝ}{x:DataW H×List MemPlace}(j:P.underlying t=some (.struct #[f0,f1,f2,c,b]))(h:DataW.trod enc P w base spare held fuel t cs=some x):
  ∃f d i e g n,x.1=.agg [f.1,d.1,i.1,e.1,g.1]/\cs.length=P.cellsOf t/\DataW.trod enc P w base spare held n f0.type ((cs.drop f0.offset).take (P.cellsOf f0.type))=some f/\
   DataW.trod enc P w base spare held n f1.type ((cs.drop f1.offset).take (P.cellsOf f1.type))=some d/\DataW.trod enc P w base spare held n f2.type ((cs.drop f2.offset).take (P.cellsOf f2.type))=some i/\
   DataW.trod enc P w base spare held n c.type ((cs.drop c.offset).take (P.cellsOf c.type))=some e/\DataW.trod enc P w base spare held n b.type ((cs.drop b.offset).take (P.cellsOf b.type))=some g:=by
 obtain⟨xs,n,_,rfl,k,a,hf⟩:=DataW.trod_struct j h
 match xs,a with
 |[f,d,i,e,g],_=>exact⟨f,d,i,e,g,n,ϛ,k,by simpa using hf 0 f0 rfl,by simpa using hf 1 f1 rfl,by simpa using hf 2 f2 rfl,by simpa using hf 3 c rfl,by simpa using hf 4 b rfl⟩
def rD(d:DataW H):1<=Rows.uptoBulk d:=by
 cases d with
 |lit l=>cases l<;>simp[Rows.uptoBulk]
 |_=>simp[Rows.uptoBulk]
def Nk(a b c d e:DataW H):6<=Rows.uptoBulk (.agg [a,b,c,d,e]):=by
 have h1:=rD a;have h2:=rD b;have h:=rD c;have g:=rD d;have f:=rD e;simp only[Rows.uptoBulk,Rows.uptoBulkAll];omega
def GR:∀(l:List (DataW H)),(∀d∈l,6<=Rows.uptoBulk d)->6*l.length<=Rows.uptoBulkAll l
 |[],_=>ϛ
 |d::l,h=>by
  have h1:=h d ϛ;have h2:=GR l λx a=>h x (by simp[a])
  simp only[Rows.uptoBulkAll,ϲ];omega
def VT(s:Ξ):aj s.data.toList=s:=by
 have⟨d⟩:=s;simp[aj]
def pQ{fuel:Nat}{cs:ϝ}{x:DataW H×List MemPlace}(h:DataW.trod enc prog w base spare held fuel 77 cs=some x):(∃y:p9,y.Ok/\cs=y.cells.toList)/\6<=Rows.uptoBulk x.1:=by
 have⟨s,q,u,r,t,n,p,i,h0,h1,h2,b,e⟩:=CE underlying77 h;refine⟨?_,by rw[p];exact Nk ..⟩;rw[tT]at i;simp only[Na,DZ]at h0 h1 h2 b e
 match cs,i with
 |[c0,c1,c2,c3,c4],_=>have⟨k,d,_,w0⟩:=DataW.trod_int underlying3 h0;have⟨m,e1,_,w1⟩:=DataW.trod_int underlying3 h1;have⟨l,e2,_,o⟩:=DataW.trod_int underlying3 h2;have⟨a,f,_,w3⟩:=DataW.trod_string underlying9 b;have⟨c,g,_,j⟩:=DataW.trod_string underlying9 e;simp at d e1 e2 f g;subst d e1 e2 f g;refine⟨⟨k,m,l,a.data.toList,c.data.toList⟩,⟨mW w0,mW w1,mW o,?_,?_⟩,?_⟩;exact ac3 (show a.data.toList.length<=maxLen by rw[aj6];exact w3) (by decide);exact ac3 (show c.data.toList.length<=maxLen by rw[aj6];exact j) (by decide);unfold p9.cells;simp only[VT];rfl
def Bj{a:Ϣ}{len cap fuel:Nat}{x:DataW H×List MemPlace}(h:DataW.trod enc prog W 0 spare held fuel 66 [.slice a len cap]=some x):∃l:List p9,l.length=len/\CallsIn W a l/\len<=cap/\cap<=maxLen/\6*len<=Rows.uptoBulk x.1:=by
 obtain⟨hcs,_⟩|⟨ad,len',cap',m,n,D,Pl,hcs,_,hl,hm,hmm,hxx,hcell⟩:=open_slice underlying66 h;simp at hcs;obtain⟨rfl,rfl,rfl⟩:=hcs;exact⟨[],rfl,λj f=>by simp at f,ϖ,ϖ,ϖ⟩;simp at hcs;obtain⟨rfl,rfl,rfl⟩:=hcs;have B:len<=m:=by rw[hmm];split<;>omega
 have p:∀i,i<len->∃y:p9,y.Ok/\∃b off,some ad=some (⟨b,off,none⟩:Addr)/\W.rangeAt b (off+i*5) y.cells.toList:=by
  intro i r;have⟨q,h1,h2⟩:=hcell i ϖ;obtain⟨⟨y,w,rfl⟩,_⟩:=pQ h2;refine⟨y,w,?_⟩;have⟨_,c,s⟩:=World.cells?_some h1;rw[tT]at h1 c s;have⟨b,off,g⟩:=ad;have e:g=none:=by have⟨C,A,k2⟩:=hcell 0 ϖ;obtain⟨⟨u,_,rfl⟩,_⟩:=pQ k2;have⟨_,_,k3⟩:=World.cells?_some A;rw[tT]at k3;have:=World.cell?_spot ((k3 0 ϖ).trans (show u.cells.toList[0]?=some (.int .i64 u.kind)from rfl));simpa[Addr.add] using this
  subst e;refine⟨b,off,rfl,λj v f=>?_⟩;have o:j<5:=by have:=(List.getElem?_eq_some_iff.1 f).1;rw[c]at this;exact this
  have t:=s j o;rw[Addr.add_mid,Addr.add_mid,f]at t;exact t
 have⟨l,k,z⟩:=J9 len p;refine⟨l,k,λj f=>z j f,hl,hm,?_⟩;rw[hxx];simp only[Rows.uptoBulk];have:=GR ((range len).map D) λd hd=>by obtain⟨i,r,rfl⟩:=ac9.1 hd;have⟨q,_,h2⟩:=hcell i (by have:=ah9.1 r;omega);exact(pQ h2).2
 simp only[af2,ϐ7]at this;omega
end
end
section
open Go.RowKit Go.Lib Go.Sort
variable [OfNat Obj 0]
def sI:Array Θ:=#[.pointer none,.pointer none,.pointer none,.pointer none,.pointer none,.pointer none,.slice none 0 0]
section
variable {w w':Φ}{g:Nat}{c:Array Θ}{F:Nat->List Nat}{ts:List (List Θ)}{A:Int}
def Cc(hr:Row w g sI 73)(hg:0<g)(b:oU w):aU w g sI (λ_=>[]) [] 0:=by
 refine⟨hr,rfl,hg,b,λk hk=>?_,λj k _ _ _ i a=>by simp at a,λk _=>ϛ,.slice none 0 0,rfl,World.ownsRow_nil ..,λt c=>by simp at c⟩;rcases(by omega:k=0\/k=1\/k=2)with rfl|rfl|rfl<;>exact⟨_,_,rfl,rfl,.inl ⟨rfl,rfl,rfl⟩⟩
def aU.made(h:aU w g c F ts A)(o:0<=A)(k:Nat)(hk:k<=2){e:Ending}(i:Xt w g k c n e w'):
  e=.returned (.bool true)/\∃t m,aU w' g t m ts A:=by
 obtain⟨rfl,i⟩:=i;refine⟨rfl,?_⟩;obtain⟨n0,n1,s,d,G,q,w2,hS2,f,f2,hS,hR,hr,gr⟩|⟨_,_,f⟩:=i;have l:=h.size;have a:∀j,j<=2->j≠k->((c.setIfInBounds k (.pointer (some ⟨s,0,none⟩))).setIfInBounds (3+k) (.pointer (some ⟨q,0,none⟩)))[j]?=c[j]? /\((c.setIfInBounds k (.pointer (some ⟨s,0,none⟩))).setIfInBounds (3+k) (.pointer (some ⟨q,0,none⟩)))[3+j]?=c[3+j]?:=λj u r=>by rw[ζ ϖ,ζ ϖ,ζ ϖ,ζ ϖ];exact⟨rfl,rfl⟩
 refine⟨_,nW F k G,(h.Wo k hk (f.mono) (λb p=>(gr b p).imp ϛ id) hS2 rfl).done hk f2 (Int.le_refl A) hr (by simp[l]) a ?_ (x:=.pointer (some ⟨s,0,none⟩)) (y:=.pointer (some ⟨q,0,none⟩)) ?_ ?_ ?_⟩;rw[ζ ϖ,ζ ϖ];rw[ζ ϖ,ac1 ϖ];rw[ac1 (by simp;omega)];rw[lq];exact .inr ⟨s,d,n.toNat,0,iF n.toNat,q,⟨[],[],[],n.toNat⟩,rfl,rfl,hS,hR,Match.empty n.toNat ϖ,Int.le_refl 0,o⟩;exact⟨c,F,h.new f⟩
def K3(h:aU w g c F ts A)(d:ts.length<=1048576):Calls prog 35 #[.pointer (some ⟨g,0,none⟩)] w λe w'=>e=.returned (.bool true)/\aG [] w w':=by
 have a:=h.size;have hr:=h.row;have⟨av,b,ha⟩:=h.all;obtain⟨l,rfl⟩:∃l:List Θ,c=l.toArray:=⟨c.toList,ϛ⟩
 match l,a with
 |[x0,x1,x2,y0,y1,y2,oC],_=>
  obtain rfl:oC=av:=by simpa using b
  exact Og g x0 x1 x2 y0 y1 y2 oC ts w hr ha d
end
end
section
open Go.RowKit Go.Lib Go.Sort
variable [OfNat Obj 0]
def FC(sv x y z:Θ):nj:=[(2,sv),(34,x),(40,y),(42,z)]
section
variable {sv x y z:Θ}
def pW:∀i∈[6],i∉sl (FC sv x y z):=by simp[sl,FC]
def vY:(sl (FC sv x y z)).Nodup:=by simp[sl,FC]
def ZQ:34∈sl (FC sv x y z):=by simp[sl,FC]
def ZP:40∈sl (FC sv x y z):=by simp[sl,FC]
def ZO:42∈sl (FC sv x y z):=by simp[sl,FC]
end
def sn(one a:Int):Act:={tmps:=(.int .i64 one::.int .i64 a::rn (λ_=>ϗ) 2 80 []).toArray,defers:=[]}
def Ct(g k:Nat)(u:Ϡ):Act:={tmps:=(u 0::u 1::ϗ::rn u 3 4 (.pointer (some ⟨g,0,none⟩)::u 8::u 9::.int .i64 k::rn u 11 23 (ϗ::rn u 35 5 (ϗ::u 41::ϗ::rn u 43 39 [])))).toArray,defers:=[]}
def air(r:Nat)(a:Act)(w:Φ):Prop:=a.tmps.getD r ϗ=.bool true/\w.heap[0]?=some (0:Obj)
def Tn{r:Nat}(h:a.tmps.getD r ϗ=.bool true)(b:oU w):∃(t:Go.Proofs.YtchcmhodnkgojaaGreat.eH)(d:Nat),air r a (az w t d):=⟨w.tape,w.drawn,h,b.2⟩
open gz gz.Sq in
theorem M0{E:aB.Env}(ad:Option Addr)(cap:Nat)(l:List p9)(h:R7 E.K ad l)(hn:l.length<=1000000)(one two:Int)(h1:tP one)(h2:tP two)(hB:oU wL){cd:Code}(hcd:Tryz.f10.body=some cd):
  aB.i6 E [6] 10 (FC (.slice ad l.length cap) undef undef undef) [.code cd] (air 6) (sn one two) wL:=by
 obtain rfl:=(ag2 hcd).symm;clear hcd;unfold sn;simp only[rn];refine aB.fE ?_;refine aB.gZ none pW ⟨_,Tryz.func10⟩ (λw=>oU w) (λw t k h=>⟨h.1,h.2⟩) hB λw1 hI hsz=>?_
 clear hB hsz;have hB:=hI;clear hI;go_wp2_with fail;refine aB.fE ?_;refine aB.gZ none pW ⟨_,Tryz.func10⟩ (λw=>oU w) (λw t k h=>⟨h.1,h.2⟩) hB λw2 hI hsz=>?_
 clear hB hsz;go_wp2_with (with_reducible first|refine bC 73 rfl ?_|refine bv rfl ?_);refine af.go (bX rfl (.agg sI) w2 (by kernel_rfl) ?_);go_wp2_with (with_reducible first|refine bv rfl ?_);refine af.go (eZ rfl 73 _ rfl (.agg sI) rfl ?_);intro w3 g l3 f3 r3;have hg:0<g:=ω (Ψ.1 hI.2).1 l3;have hC:=Cc r3 hg (hI.blk f3.blk (by simp));clear hI l3 f3 r3 hg;go_wp2_with fail;refine aB.fE ?_;refine aB.gZ none pW ⟨_,Tryz.func10⟩ (λw=>aU w g sI (λ_=>[]) [] 0) (λw t k h=>h.az t k) hC λw4 hI hsz=>?_
 clear hC hsz;go_wp2_with fail;refine(zB g 0 (by omega) sI one w4 hI.row rfl h1).mono ?_;intro e w5 hM;obtain⟨rfl,c1,F1,hC⟩:=hI.made (by omega) 0 (by omega) hM;clear hI hM;go_wp2_with fail;refine aB.fE ?_;refine aB.gZ none pW ⟨_,Tryz.func10⟩ (λw=>aU w g c1 F1 [] 0) (λw t k h=>h.az t k) hC λw6 hI hsz=>?_
 clear hC hsz;go_wp2_with fail;refine(zB g 1 (by omega) c1 two w6 hI.row hI.size h2).mono ?_;intro e w7 hM;obtain⟨rfl,c2,F2,hC⟩:=hI.made (by omega) 1 (by omega) hM;clear hI hM;go_wp2_with fail;refine aB.fE ?_;refine aB.gZ none pW ⟨_,Tryz.func10⟩ (λw=>aU w g c2 F2 [] 0) (λw t k h=>h.az t k) hC λw8 hI hsz=>?_
 clear hC hsz;go_wp2_with fail;refine aB.fE ?_;refine aB.fE ?_;refine aB.gZ none pW ⟨_,Tryz.func10⟩ (λw=>aU w g c2 F2 [] 0) (λw t k h=>h.az t k) hI λw9 hC hsz=>?_
 clear hI hsz;go_wp2_with fail;refine aB.Cu ?_;refine aB.vB (Ct g 0) λu=>?_
 refine aB.DW (λD a w=>∃(x y z:Θ) (k:Nat) (c:Array Θ) (F:Nat->List Nat) (ts:List (List Θ)) (u:Nat->Θ),D=FC (.slice ad l.length cap) x y z/\a=Ct g k u/\k<=l.length/\aU w g c F ts (80*k)/\ts.length<=k) (λa _=>l.length-(intOf (a.tmps.getD 10 undef)).toNat)
  ⟨_,_,_,0,c2,F2,[],u,rfl,rfl,by omega,hC,by simp⟩ ?_
 clear hC u;rintro D a w⟨x,y,z,k,c,F,ts,u,rfl,rfl,hkl,hC,hts⟩ih;have ih':∀(x y z:Θ) (k':Nat) (c:Array Θ) (F:Nat->List Nat) (ts:List (List Θ)) (u:Nat->Θ) (w:Φ),k'=k+1->k'<=l.length->aU w g c F ts (80*k')->ts.length<=k'->aB.i6 _ _ _ (FC (.slice ad l.length cap) x y z) _ _ (Ct g k' u) w:=λx y z k' c F ts u w e1 e2 e3 e4=>ih _ _ _ ⟨x,y,z,k',c,F,ts,u,rfl,rfl,e2,e3,e4⟩ (by subst e1;simp[Ct,rn,intOf];omega)
 clear ih;unfold Ct at ih'⊢;simp only[rn]at ih'⊢;replace ih':Hid _:=ih';refine aB.fE (aB.fE (aB.kD ?_));refine aB.kE _ rfl (.inr rfl) rfl (aB.DV 34 (.slice ad l.length cap) rfl rfl rfl vY ZQ (λπ w=>by kernel_rfl) ?_);refine aB.Kz (FC (.slice ad l.length cap) (.slice ad l.length cap) y z) rfl ?_;refine aB.MZ (.int .i64 l.length) (by intro r hr;cases hr) rfl rfl (gU (by kernel_rfl)) (λπ w=>by kernel_rfl) ?_;refine aB.sr (w1:=w) (.bool (decide ((k:Int)<(l.length:Int)))) rfl rfl (λt d=>by kernel_rfl) (aB.gC ?_);by_cases hlt:k<l.length
 .obtain⟨hok,b,off,rfl,ob,hK,hra⟩:=h k hlt;generalize l[k]=y at hok hra;have hd1:decide ((k:Int)<(l.length:Int))=true:=by simp;omega
  rw[hd1];clear hd1;refine aB.GN (b:=true) rfl rfl ?_;rw[κ rfl];refine aB.Re (aB.fE (aB.Cu (aB.fE (aB.kD ?_))));refine aB.kE _ rfl (.inr rfl) rfl (aB.DV 40 (.slice (some ⟨b,off,none⟩) l.length cap) rfl rfl rfl vY ZP (λπ w=>by kernel_rfl) (aB.kE _ rfl (.inr rfl) rfl ?_));refine aB.DV 42 (.pointer (some ⟨b,off+k*5,none⟩)) rfl rfl rfl vY ZO (λπ w=>aaV (m:=5) (x:=.tmp 40) (y:=.tmp 41) (by kernel_rfl) (by kernel_rfl) b off l.length cap k hlt _ rfl (by kernel_rfl) (aB.QW (by kernel_rfl) (by kernel_rfl) (by kernel_rfl)) w) ?_;refine aB.Kz (FC (.slice (some ⟨b,off,none⟩) l.length cap) (.slice (some ⟨b,off,none⟩) l.length cap) (.slice (some ⟨b,off,none⟩) l.length cap) (.pointer (some ⟨b,off+k*5,none⟩))) rfl ?_;refine aB.Ri b ob hK (.agg y.cells) Qb rfl rfl (gU (by kernel_rfl)) (λπ w hw=>(J7 (x:=.tmp 42) (by kernel_rfl) Cb (by show 0<5;omega) hw hra _ rfl (by kernel_rfl)).1) (λπ w hw=>(J7 (x:=.tmp 42) (by kernel_rfl) Cb (by show 0<5;omega) hw hra _ rfl (by kernel_rfl)).2) (aB.kE _ rfl (.inr rfl) rfl ?_);refine aB.ry (f2:=34) #[.tmp 39,.tmp 43,.tmp 44] #[.pointer (some ⟨g,0,none⟩),.agg (bB y.kind y.on y.side (aj y.path) (aj y.content)),.int .i64 k] (R2:=th g (ts.length+1) (80*k+80)) rfl rfl (by kernel_rfl) (by kernel_rfl) (gU (by kernel_rfl)) (λb w=>by kernel_rfl) (by kernel_rfl)
   (vC k y.kind y.on y.side y.path y.content hC (by omega) (by omega) (by omega) (by omega) hok.1.1 hok.1.2 hok.2.1.1 hok.2.1.2 hok.2.2.1.1 hok.2.2.1.2 hok.2.2.2.1 hok.2.2.2.2) λv wa hR _=>?_
  obtain⟨rfl,c',F',ts',hC',apk⟩:=hR;clear hC hra hK hok;refine aB.kE _ rfl (.inl rfl) rfl (aB.gC ?_);refine aB.vB (λu=>{tmps:=(u 0::u 1::undef::rn u 3 4 (.pointer (some ⟨g,0,none⟩)::u 8::u 9::.int .i64 k::.bool true::rn u 12 22 (undef::rn u 35 5 (undef::u 41::undef::rn u 43 39 [])))).toArray,defers:=[]}) λu=>?_
  simp only[rn];refine aB.gZ none pW ⟨_,Tryz.func10⟩ (λw=>aU w g c' F' ts' (80*k+80)) (λw t k h=>h.az t k) hC' λwb hI hsz=>?_
  clear hC' hsz;go_wp2_with fail;refine(K3 hI (by omega)).mono ?_;rintro e wc⟨rfl,f⟩;have hC:=hI.new f;clear hI f;go_wp2_with fail;refine aB.GL ?_;refine aB.gZ none pW ⟨_,Tryz.func10⟩ (λw=>aU w g c' F' ts' (80*k+80)) (λw t k h=>h.az t k) hC λwd hI hsz=>?_
  clear hC hsz;go_wp2_with fail;refine aB.vB (Ct g (k+1)) λu=>?_
  exact ih'.out _ _ _ (k+1) c' F' ts' u wd rfl hlt (by rw[show(80:Int)*((k+1:Nat):Int)=80*k+80 by omega];exact hI) (by omega)
 .have hd1:decide ((k:Int)<(l.length:Int))=false:=by simp;omega
  rw[hd1];clear hd1 ih';refine aB.GN (b:=false) rfl rfl ?_;rw[Γ (by simp)];have hZ:=hC.lS;clear hC;refine aB.Rl rfl ?_;refine aB.vB (λu=>{tmps:=(u 0::u 1::undef::rn u 3 31 (undef::rn u 35 5 (undef::u 41::undef::rn u 43 39 []))).toArray,defers:=[]}) λu=>?_
  simp only[rn];refine aB.fE ?_;refine aB.gZ none pW ⟨_,Tryz.func10⟩ (λw=>oU w) (λw t k h=>⟨h.1,h.2⟩) hZ λw2 hI hsz=>?_
  clear hZ hsz;go_wp2_with (with_reducible first|refine bC 73 rfl ?_|refine bv rfl ?_);refine af.go (bX rfl (.agg sI) w2 (by kernel_rfl) ?_);go_wp2_with (with_reducible first|refine bv rfl ?_);refine af.go (eZ rfl 73 _ rfl (.agg sI) rfl ?_);intro w3 g2 l3 f3 r3;have hg:0<g2:=ω (Ψ.1 hI.2).1 l3;have hC:=Cc r3 hg (hI.blk f3.blk (by simp));clear hI l3 f3 r3 hg;go_wp2_with fail;refine aB.fE ?_;refine aB.gZ none pW ⟨_,Tryz.func10⟩ (λw=>aU w g2 sI (λ_=>[]) [] 0) (λw t k h=>h.az t k) hC λw4 hI hsz=>?_
  clear hC hsz;go_wp2_with fail;refine(zB g2 0 (by omega) sI 200 w4 hI.row rfl (by omega)).mono ?_;intro e w5 hM;obtain⟨rfl,c1,F1,hC⟩:=hI.made (by omega) 0 (by omega) hM;clear hI hM;go_wp2_with fail;refine aB.fE ?_;refine aB.gZ none pW ⟨_,Tryz.func10⟩ (λw=>aU w g2 c1 F1 [] 0) (λw t k h=>h.az t k) hC λw6 hI hsz=>?_
  clear hC hsz;go_wp2_with fail
  refine aB.fE (aB.kD (aB.kE _ rfl (.inr rfl) rfl ?_));refine aB.sr (w1:=w6) (.agg (bB 1 0 0 (aj [97]) (aj [120]))) rfl rfl (λt d=>by kernel_rfl) ?_;refine aB.ry (f2:=34) #[.tmp 60,.tmp 61,.const (.int .i64 0)] #[.pointer (some ⟨g2,0,none⟩),.agg (bB 1 0 0 (aj [97]) (aj [120])),.int .i64 (0:Nat)] (R2:=th g2 1 80) rfl rfl (by kernel_rfl) (by kernel_rfl) (gU (by kernel_rfl)) (λb w=>by kernel_rfl) (by kernel_rfl)
   (vC 0 1 0 0 [97] [120] hI (by omega) (by omega) (by simp) (by omega) (by omega) (by omega) (by omega) (by omega) (by omega) (by omega) (by simp) (by simp)) λv w7 hR _=>?_
  obtain⟨rfl,c2,F2,t2,hC,ht2⟩:=hR;clear hI;refine aB.kE _ rfl (.inl rfl) rfl (aB.gC ?_)
  refine aB.fE (aB.kD (aB.kE _ rfl (.inr rfl) rfl ?_));refine aB.sr (w1:=w7) (.agg (bB 5 0 0 (aj []) (aj []))) rfl rfl (λt d=>by kernel_rfl) ?_;refine aB.ry (f2:=34) #[.tmp 63,.tmp 64,.const (.int .i64 1)] #[.pointer (some ⟨g2,0,none⟩),.agg (bB 5 0 0 (aj []) (aj [])),.int .i64 (1:Nat)] (R2:=th g2 (t2.length+1) (80+80)) rfl rfl (by kernel_rfl) (by kernel_rfl) (gU (by kernel_rfl)) (λb w=>by kernel_rfl) (by kernel_rfl)
   (vC 1 5 0 0 [] [] hC (by omega) (by omega) (by omega) (by omega) (by omega) (by omega) (by omega) (by omega) (by omega) (by omega) (by simp) (by simp)) λv w8 hR _=>?_
  obtain⟨rfl,c3,F3,t3,hI,ht3⟩:=hR;clear hC;refine aB.kE _ rfl (.inl rfl) rfl (aB.gC ?_)
  refine aB.fE (aB.kD (aB.kE _ rfl (.inr rfl) rfl ?_));refine aB.sr (w1:=w8) (.agg (bB 7 0 0 (aj []) (aj []))) rfl rfl (λt d=>by kernel_rfl) ?_;refine aB.ry (f2:=34) #[.tmp 66,.tmp 67,.const (.int .i64 2)] #[.pointer (some ⟨g2,0,none⟩),.agg (bB 7 0 0 (aj []) (aj [])),.int .i64 (2:Nat)] (R2:=th g2 (t3.length+1) (80+80+80)) rfl rfl (by kernel_rfl) (by kernel_rfl) (gU (by kernel_rfl)) (λb w=>by kernel_rfl) (by kernel_rfl)
   (vC 2 7 0 0 [] [] hI (by omega) (by omega) (by omega) (by omega) (by omega) (by omega) (by omega) (by omega) (by omega) (by omega) (by simp) (by simp)) λv w9 hR _=>?_
  obtain⟨rfl,c4,F4,t4,hC,ht4⟩:=hR;clear hI;refine aB.kE _ rfl (.inl rfl) rfl (aB.gC ?_)
  refine aB.fE (aB.kD (aB.kE _ rfl (.inr rfl) rfl ?_));refine aB.sr (w1:=w9) (.agg (bB 3 0 1 (aj [97]) (aj []))) rfl rfl (λt d=>by kernel_rfl) ?_;refine aB.ry (f2:=34) #[.tmp 69,.tmp 70,.const (.int .i64 3)] #[.pointer (some ⟨g2,0,none⟩),.agg (bB 3 0 1 (aj [97]) (aj [])),.int .i64 (3:Nat)] (R2:=th g2 (t4.length+1) (80+80+80+80)) rfl rfl (by kernel_rfl) (by kernel_rfl) (gU (by kernel_rfl)) (λb w=>by kernel_rfl) (by kernel_rfl)
   (vC 3 3 0 1 [97] [] hC (by omega) (by omega) (by omega) (by omega) (by omega) (by omega) (by omega) (by omega) (by omega) (by omega) (by simp) (by simp)) λv wa hR _=>?_
  obtain⟨rfl,c5,F5,t5,hI,ht5⟩:=hR;have hZ:=hI.lS;clear hC hI;refine aB.kE _ rfl (.inl rfl) rfl (aB.gC ?_);refine aB.vB (λu=>{tmps:=(u 0::u 1::undef::rn u 3 12 (.bool true::.bool true::.bool true::.bool true::rn u 19 15 (undef::rn u 35 5 (undef::u 41::undef::rn u 43 39 [])))).toArray,defers:=[]}) λu=>?_
  simp only[rn];refine aB.gZ none pW ⟨_,Tryz.func10⟩ (λw=>oU w) (λw t k h=>⟨h.1,h.2⟩) hZ λwb hI hsz=>?_
  go_wp2_with fail;exact Tn (by kernel_rfl) hI
end
section
open Go.ChangeShapes Go.WideShapes Go.ChangeAt Go.RowKit Go.Deep Go.Joins Go.Lib Go.Conc Go.ConcM
section
variable {H:Type}{enc:θ×Θ->H}
def Cz{C:Checked}{os:Os}{f:ac5}{fn:Func}{s:OpenSpec}{k:(H:Type)->List (DataW H)->Bool}(hk:s.cond=some k){conds:List PathCond}(i:Input)(fuel:Nat)(hv:(World.plainHolding C.prog os i).variablesB C.prog=true)(hr:((World.plainHolding C.prog os i).heap.toList.drop C.prog.globals.size).take ((begin C.prog (λ_ _=>0) default).world.heap.size-C.prog.globals.size)=
   (begin C.prog (λ_ _=>0) default).world.heap.toList.drop C.prog.globals.size)(b:Input.okWideB C.prog (World.plainHolding C.prog os i) f ⟨#[],i.args,[]⟩=true){x:List (DataW H)×List (DataW H)×List MemPlace}(e:DataW.whole enc C.prog (World.plainHolding C.prog os i).memory fn.params.toList s.vars apart i.args.toList fuel=some x)(a:conds.all (PathCond.test C.prog ⟨fn.params.toList,x.1,s.bare.plain.varTypes C.prog,x.2.1⟩)=true)(c:k H (x.1++x.2.1)=true)(d:s.bare.sizedB enc C.prog fn apart (World.plainHolding C.prog os i).memory i.args fuel=true):
  ∃(w:Φ)(tape:Tape)(i:Input),w.os=os/\(w.forCall tape i).Shaped C.prog/\i.vars=[]/\Input.okWide C.prog (w.forCall tape i) .any w.heap.size f i/\
   s.pre6 enc C.prog fn conds apart (w.forCall tape i).memory i.args/\({calm:=true}:Assume).holds C.prog (lone (Frame.enter C.prog f i.args .normal) [] (w.forCall tape i)):=
 ⟨World.holding C.prog os i,λ_ _=>0,⟨#[],i.args,[]⟩,rfl,World.shaped_of_B hv hr,(Input.okWide_of_okWideB (base:=0) b).1,(Input.okWide_of_okWideB b).2,
  ⟨(OpenSpec.pre_some hk conds apart ..).2 ⟨x.1,x.2.1,x.2.2,DataW.Whole_of_whole e,a,c⟩,sizedMet_of_sizedB d⟩,by
  simp only[Assume.holds];exact⟨ϛ,λ_ _ _ _=>rfl,ϛ,ϛ,ϛ⟩⟩
def ql(s:ChangeSpec)(k:(H:Type)->List (DataW H)->Bool):OpenSpec:={OpenSpec.ofChange s with cond:=some k}
def lO{a:Assume}{os:Os}{f:ac5}{fn:Func}{s:ChangeSpec}{k:(H:Type)->List (DataW H)->Bool}{F:Stop.Interp}{conds:List PathCond}{fresh c:Bool}(own:ownKnob prog.godebug=none)(d:os.Started)(x:prog.funcs[f]?=some fn)(g:∃(w:Φ)(tape:Tape)(i:Input),w.os=os/\(w.forCall tape i).Shaped Tryz.checked.prog/\i.vars=[]/\Input.okWide Tryz.checked.prog (w.forCall tape i) .any w.heap.size f i/\
   (ql s k).pre6 enc Tryz.checked.prog fn conds apart (w.forCall tape i).memory i.args/\a.holds Tryz.checked.prog (lone (Frame.enter Tryz.checked.prog f i.args .normal) [] (w.forCall tape i)))(u:∀(W:Φ) (base:Nat) (args:ϐ) (l n:List (DataW H)) (b:List MemPlace),AA W->
   (∀(j:Nat) t v,fn.params[j]?=some t->args[j]?=some v->Value.okWide prog W .any base t v)->
   DataW.Whole enc prog fn.params.toList s.vars apart W args.toList l n b->k H (l++n)=true->
   aB.RZ (λv D=>s.post enc prog fn apart fresh c false W args v {D with os:=W.os}/\OsLater W.os D.os) (solo (G (Frame.enter prog f args .normal) []) W) #[]):
  ReturnsInLeavingWide a Tryz.checked os f .any ((ql s k).pre6 enc Tryz.checked.prog fn conds apart) ((ql s k).postWith enc Tryz.checked.prog fn F (outsideKept [.timePasses]) apart fresh c):=by
 refine returnsInLeavingWide_of_good own d g ?_;intro w tape i _ A _ z q _;have⟨_,_,_,h,m,_,_,_,_,r⟩:=z;have e:h=fn:=ag2 (m.symm.trans x);subst e;have⟨l,n,b,I,K,B⟩:=(OpenSpec.pre_some (s:=ql s k) rfl conds apart ..).1 q.1;have y:DataW.Whole enc prog h.params.toList s.vars apart (w.forCall tape i) i.args.toList l n b:=DataW.Whole.of_heap (w':=w.forCall tape i) (by rfl) I;have⟨N,p,o,w',t',E,r2,r3,v,e,C,r4⟩:=u (w.forCall tape i) w.heap.size i.args l n b (zV A) r y B;have J:(OpenSpec.ofChange s).postWith enc prog h F (outsideKept [.timePasses]) apart fresh c (w.forCall tape i).blind i.args v w'.blind:=postWith_blind (postWith_of_post C.1 C.2);exact⟨N,p,o,w',t',E,r2,r3,v,e,J,r4⟩
end
theorem mR{p:Pinned}{s:OpenSpec}{c:OpenClaim}(f:ac5)(fn:Func)(hn:c.program=p.name)(hs:c.sum=p.sum)(hsp:c.spec=s.name)(hstart:c.start=.entering)(hout:c.outside=[.timePasses])(hin:c.inits=[])(hun:c.under=none)(hi4:c.initsInPlace=[]/\c.initsUnfollowed=false/\c.initsRecurse=false/\c.initsNamed=[]/\c.initsPassed=[])(hnb:c.noBlocks=false)(hlv:c.leaving=true)(hfo:c.followed=none)(hnar:c.narrowed=s.cond.isSome)(hstill:c.still=false)(hfn:p.checked.prog.funcNamed c.func=some f)(hf:p.checked.prog.funcs[f]?=some fn)(closed:joinedFacts p.checked.prog f fn s.bare c=true)(hinst:fn.isInstance p.checked.prog c.origin c.targs)(hwrap:fn.isWrapper p.checked.prog c.wrapper c.mainSum)(h:∀os:Os,os.Started->∀(H:Type)(enc:θ×Θ->H),(∀a b,enc a=enc b->a=b)->∀F:Stop.Interp,
   ReturnsInLeavingWide c.assume p.checked os f .any (c.pre enc p.checked.prog fn s) (s.postWith enc p.checked.prog fn F (outsideKept [.timePasses]) c.apart c.fresh c.handsOn)):c.holds p s:=by
 simp only[joinedFacts,χ,ai5,ae8,ae7,ai0]at closed;obtain⟨⟨⟨⟨⟨⟨⟨⟨⟨⟨⟨⟨⟨⟨⟨⟨⟨⟨⟨⟨⟨⟨⟨⟨⟨⟨⟨⟨⟨⟨⟨k1,k2⟩,k3⟩,k4⟩,k5⟩,k6⟩,k7⟩,k8⟩,k9⟩,k10⟩,k11⟩,k12⟩,k13⟩,k14⟩,k15⟩,k16⟩,k17⟩,k17b⟩,k18⟩,k19⟩,k20⟩,k21⟩,k22⟩,k23⟩,k23b⟩,k24⟩,k24b⟩,k24c⟩,k25⟩,k26⟩,k27⟩,k28⟩:=closed
 have hq:∀os:Os,Stop.quiet p.checked.prog os:=λos k hk=>by rw[k9]at hk;cases hk
 refine⟨k1,hn,hs,hsp,k2,k3,by unfold OpenClaim.startFits;rw[hstart];exact k24,by unfold OpenClaim.startTold;rw[hstart];exact⟨hin,hun,hi4⟩,f,fn,hfn,hf,⟨k4,k19⟩,(λhb=>by rw[hnb]at hb;cases hb),by unfold OpenClaim.namedList;rw[hfo];exact k5,hinst,hwrap,
  k6.trans k7.symm,⟨k8.trans k9.symm,by unfold Program.envWorded;rw[k9];rfl,k23b⟩,k10,k11,k12,k13,k14,⟨k15,k27,k28⟩,⟨k16,k20⟩,⟨k17,k21,k25,k26⟩,⟨k22,k24b,k24c,k17b⟩,(by rw[hout,hnar];cases hsh:c.shortTexts with|none=>simp[OutsideCond.fixesBytes]|some _=>rw[hsh]at k23;cases k23),λn hn'=>varReadable_some (k18 n hn'),
  ⟨_,by unfold OpenClaim.world;rw[hout,hstart];exact⟨WideRow.started_initial,λo ho=>by simp at ho;subst ho;trivial⟩,hq _⟩,[],by unfold OpenClaim.lists;rw[hfo],λos st _ H enc inj=>?_⟩
 have st':os.Started:=by unfold OpenClaim.world at st;rw[hout,hstart]at st;exact st.1
 rw[OpenClaim.post_not_still hstill];unfold OpenClaim.form;rw[hstart,k6];intro F;have e1:c.okInput=Input.okWide:=by unfold OpenClaim.okInput;rw[hnb]
 have e2:c.atReturn p.checked.prog=leavingAtReturn p.checked.prog:=by unfold OpenClaim.atReturn;rw[hlv]
 have e3:c.always p.checked.prog []=nothingAlways:=by unfold OpenClaim.always;rw[hfo]
 have e4:s.post enc p.checked.prog fn F c.outside c.apart c.fresh c.handsOn c.again=s.postWith enc p.checked.prog fn F (outsideKept [.timePasses]) c.apart c.fresh c.handsOn:=by rw[hout];rfl
 rw[e1,e2,e3];show ReturnsInOpen _ _ _ _ _ _ _ _ (s.post enc p.checked.prog fn F c.outside c.apart c.fresh c.handsOn c.again) _ _;rw[e4];exact h os st' H enc inj F k24
def Jc{one c:Int}:aB.VA H wL (sn one c).tmps:=λv hv=>by
 unfold sn at hv;simp only[rn,ϓ3,ac2,aj8,or_false,or_self]at hv;obtain rfl|rfl|rfl:=hv;intro b a;cases a;intro b a;cases a;exact kQ
def GK(sv:Θ)(one a:Int):bF id (sn one a) (FC sv ϗ ϗ ϗ)={tmps:=#[.int .i64 one,.int .i64 a,sv]++Array.replicate (Tryz.f10.ntmps-3) ϗ,defers:=[]}:=by
 rw[show Value.int .i64 one=ren id (.int .i64 one) by simp,show Value.int .i64 a=ren id (.int .i64 a) by simp]
 kernel_rfl
def IX(h:AA W):∃_:OfNat Obj 0,oU (hide W):=by
 have⟨c,t,f,h1,h2⟩:=id h;exact⟨⟨.cells c t f⟩,Mz h.lS,by rw[qV,h1];rfl⟩
section
variable {W oT w':Φ}{π:Nat->Nat}{own:Nat->Prop}
def DC{t:Go.Proofs.YtchcmhodnkgojaaGreat.eH}{d:Nat}(g:AA W)(e1:(az oT t d).heap[0]?=(hide W).heap[0]?)(b:Link (hidden W) aB.no own aB.no π oT w')(i:∀q o,K0 W q=some o->w'.heap[q]?=some o):∀k,k<W.heap.size->w'.heap[k]?=W.heap[k]?:=λk hk=>by
 by_cases h0:k=0;subst h0;have⟨c,t',f,a,h⟩:=g;have e1:oT.heap[0]?=(hide W).heap[0]?:=e1;rw[qV,a]at e1;simp only[ι,if_true]at e1;have e2:=(b.wr.ok 0 _ e1 (λq=>q.2 rfl) id).2;rw[b.zero,qK λr hr=>by
  cases hr with
  |cells hv hr=>obtain⟨q,rfl,_⟩:=h _ hv;cases hr]at e2
 rw[e2,a];have e:W.heap[k]?=some W.heap[k]:=τ hk;rw[i k W.heap[k] (by unfold K0;rw[Γ h0];exact e),e]
end
def D5(os:Os)(b:os.Started)(H:Type)(enc:θ×Θ->H)(F:Stop.Interp):
  ReturnsInLeavingWide Rows.callsUptoRow.assume Tryz.checked os 10 .any (Rows.callsUptoRow.pre enc prog Tryz.f10 (Rows.OpenSpec.upto Rows.callsSpec))
   ((Rows.OpenSpec.upto Rows.callsSpec).postWith enc prog Tryz.f10 F (outsideKept [.timePasses]) Rows.callsUptoRow.apart Rows.callsUptoRow.fresh Rows.callsUptoRow.handsOn):=by
 refine lO (s:=Rows.callsSpec) (k:=Rows.uptoSmall) (conds:=[]) PU b func10
  (Cz (enc:=enc) (C:=Tryz.checked) (s:=ql Rows.callsSpec Rows.uptoSmall) rfl ⟨#[],#[.int .i64 0,.int .i64 0,.slice none 0 0],[]⟩ 8 ϰ ϰ ϰ
   (x:=([.lit (.int .i64 0),.lit (.int .i64 0),.nil],[],[])) ϰ rfl ϰ ϰ) ?_
 intro W base args ds gs o i c J hk;have a:∀(j:Nat) t v,Tryz.f10.params[j]?=some t->args[j]?=some v->Value.okWide prog W .any base t v:=c;have z:=J;obtain⟨p,q,E,R,rfl,Q,T⟩:=J;have M:DataW.TrodAll enc prog W 0 (λ_=>true) true Tryz.f10.params.toList args.toList ds p:=E;rw[Tryz.params10]at M a;obtain⟨Z,v1,v2,d0,d1,d2,p0,p1,Y,rfl,rfl,rfl,h0,h1,h2⟩:=trodAll_three M;have D:∀x∈Y,x.block<W.heap.size:=by have⟨m,hm⟩:=h2;exact DataW.trod_lt m _ _ _ hm
 obtain⟨rfl,rfl⟩:=trodVars_none R;obtain⟨one,rfl,rfl,rfl,w0⟩:=open_int underlying3 (a 0 3 Z rfl rfl) h0;obtain⟨g,rfl,rfl,rfl,w1⟩:=open_int underlying3 (a 1 3 v1 rfl rfl) h1;have k2:=h2;have⟨y,g2⟩:=h2;obtain⟨L,V,e,rfl⟩:=okWide_slice underlying66 (a 2 66 v2 rfl rfl);obtain⟨l,rfl,B,P,r,G⟩:=Bj (by simpa[Value.cells] using g2);have n:6*l.length<=1048576:=by have A:=of_decide_eq_true hk;simp only[Rows.uptoBulkAll,Rows.uptoBulk,List.append_nil]at A;have G:6*l.length<=Rows.uptoBulk d2:=G;omega
 clear E c hk;have⟨I,N⟩:=IX i;refine aB.FN (W:=W) (H:=hidden W) (K:=K0 W) (wL:=hide W) (R2:=λv w=>v=.bool true/\w.heap[0]?=some (0:Obj)) func10 rfl ϰ rfl (Iz i.lS (K0 W) rfl) af8 (sn one g) (FC (.slice L l.length e) ϗ ϗ ϗ) Jc rfl (GK ..) (jB W) (M0 L e l (VJ i B) ϖ one g (mW w0) (mW w1) N rfl) ?_;intro v oT π own w'⟨t,d,hv,X⟩hl ag aa U ac u f S;subst hv;have O:=DC i (X.trans N.2.symm) hl S;rw[show ren π (.bool true)=.bool true by simp];exact⟨⟨_,_,_,[],_,[],z,trodAll_mk1 (shut_bool underlying4 _),(trodAll_cons_mk (shut_int underlying3 w0) (trodAll_cons_mk (shut_int underlying3 w1) (trodAll_cons_mk (IG Mm ϰ (of_decide_eq_true ϰ) k2 O D) trodAll_mk0))),rfl,FV (W:=W) (w':={w' with os:=W.os}) rfl f O _,λh=>by cases h⟩,u⟩
theorem calls_upto_said:Rows.CallsUptoSaid:=
 mR 10 Tryz.f10 rfl rfl rfl rfl rfl rfl rfl ⟨rfl,rfl,rfl,rfl,rfl⟩ rfl rfl rfl rfl rfl ϰ func10 ϰ
  (of_decide_eq_true ϰ) (by unfold Func.isWrapper;first|(rw[κ (by decide+kernel)];kernel_rfl)|(rw[Γ (by decide+kernel)];exact⟨rfl,rfl⟩))
  (λos a H enc _ F=>D5 os a H enc F)
end
end
end Go.Proofs.YtchcmhodnkgojaaGreat
