/- A part. -/
import Derived.Test.YtchcmhodnkgojaaGreatPart10
import Derived.Deep.CutRange
import Derived.Laws.RangeAny
import Derived.WalkMore
import Derived.Lib.OwnBridge
set_option linter.all false
set_option maxRecDepth 100000
set_option maxHeartbeats 8000000
open Go.Proofs.Tryz
namespace Go.Proofs.YtchcmhodnkgojaaGreat
open Sem (run_bind)
open List (range)
open List (replicate)
noncomputable section
variable {w w' w1 w2:Φ}{b d g k n q:Nat}{rs s:RS}{e t ty:θ}{av v x y:Θ}{xs:List Θ}{c c':Array Θ}{P:aa1}{Q:Exit->Act->Φ->Prop}{a:Act}{o:Oper}{K:Act->Φ->Prop}{L L' p:List η}{l:Option (List η)}{r:RS×Int}{m:Ξ}{F S:List Nat}{ops:Array Oper}{rest:List Oper}{ρ:ac4->Θ}{ts:List (List Θ)}{Q' ps:List (List η)}
section
open Go.RowKit Go.Lib
structure bN (w:Φ)(g:Nat)(s:RS):Prop where
 cells:∃v0 v1 v2,Row w g #[v0,v1,v2,.int .i64 s.n] 180/\w.ownsRow 0 187 2 v0 s.a.length (dd s.a)/\w.ownsRow 0 187 2 v1 s.b.length (dd s.b)/\w.ownsRow 0 187 2 v2 s.o.length (dd s.o)
 few:s.a.length<=100/\s.b.length<=100/\s.o.length<=100
def bN.new{w w':Φ}{g:Nat}{s:RS}(h:bN w g s)(f:aG [] w w'):bN w' g s:=by
 have⟨⟨b,c,a,hr,h0,h1,h2⟩,hf⟩:=h;exact⟨⟨b,c,a,f.row hr,f.owns h0,f.owns h1,f.owns h2⟩,hf⟩
def bN.cell{w:Φ}{g:Nat}{s:RS}(h:bN w g s)(k:Nat)(hk:k<=2):∃v,w.cell? ⟨g,k,none⟩=some v/\w.ownsRow 0 187 2 v (s.set k).length (dd (s.set k))/\(s.set k).length<=100:=by
 have⟨⟨b,c,a,hr,h0,h1,h2⟩,hf⟩:=h;rcases(by omega:k=0\/k=1\/k=2)with rfl|rfl|rfl;exact⟨b,by rw[hr.cell];rfl,h0,hf.1⟩;exact⟨c,by rw[hr.cell];rfl,h1,hf.2.1⟩;exact⟨a,by rw[hr.cell];rfl,h2,hf.2.2⟩
def bN.size(h:bN w g s):w.cell? ⟨g,3,none⟩=some (.int .i64 s.n):=by
 have⟨⟨b,c,a,hr,h0,h1,h2⟩,hf⟩:=h;rw[hr.cell];rfl
def Cg(g:Nat)(s:RS)(w:Φ)(h:bN w g s):Calls prog 144 #[.pointer (some ⟨g,0,none⟩)] w λe w'=>e=.returned (.int .i64 s.files)/\aG [] w w':=by
 have⟨⟨j,f,c,hr,h0,h1,h2⟩,hf⟩:=h;have c0:=hr.val 0 j;have c1:=hr.val 1 f;have c2:=hr.val 2 c;obtain⟨i,b,rfl⟩:=aY h0;obtain⟨k,l,rfl⟩:=aY h1;obtain⟨m,a,rfl⟩:=aY h2;have d:Hid (s.files=s.a.length+s.b.length+s.o.length):=rfl;go_enter func144,ntmps144;go_wp2_with fail
 go_quiet (fail)
 go_wp2;go_ret;exact⟨by show Ending.returned (.int .i64 _)=_;rw[d.out];push_cast;rfl,aG.drewN ..⟩
def own_ne{base:Nat}{size:Nat}(d:w.ownsRow base e size v n xs)(r:Row w b c t)(a:t≠e):v.ownBlock≠some b:=by
 obtain⟨rfl,_⟩|⟨g,cap,cur,rfl,_,hg,_⟩:=d.2;simp[Value.ownBlock];intro h;have:g=b:=by simpa[Value.ownBlock] using h
 subst this;unfold Row at r;rw[r]at hg;cases hg;exact a rfl
def xJ(t ty e:θ)(i:TypeInfo)(b:P.underlying t=some (.slice e))(a:P.info? e=some i)(ad:Ϣ)(c:Nat):
  (Builtin.append_ #[t,t] ty #[.slice none 0 0,.slice ad 0 c]).run P w=.ok (.slice none 0 0) w:=by
 cases ad<;>simp[Builtin.append_,run_underlying b,sizeOf,typeInfo,a,Builtin.lenOf,Builtin.firstCells,loadCells,loadCellsFrom]
def yy(t e:θ)(size b:Nat)(E:Elem P t e size b)(s x:ac4)(q:o.op=.call {callee:=.builtin .append,args:=#[s,x],argTypes:=#[t,t]})(hs:a.eval s=.slice none 0 0)(b0 n:Nat)(v:Θ)(xs:ϝ)(r:a.eval x=v)(c:w.ownsRow b0 e size v n xs)(h1:∀v∈xs,v.oneCell'=true)(D:n<=1000)(d:b<=1048576)(h:∀u w',w'.ownsRow 0 e size u n xs->aG [] w w'->K (a.put o.dst u) w'):o.wp P a w K Q:=by
 obtain⟨ad,cap,rfl⟩:=aY c;have⟨i,_,A,_⟩:=E.open;have C:=E.slice;by_cases h0:n=0;subst h0;have l:xs=[]:=Ϻ.1 (by have:=c.1;simpa using this);subst l;have f:=xJ (P:=P) (w:=w) t o.type e i C A ad cap;unfold Oper.wp;simp[execOp,q,resolve,invoke,builtin,hs,r,f,Result.andThen];exact h _ _ (World.ownsRow_nil ..) (aG.refl ..);obtain⟨g,j,rfl,hg,B,y,z,k⟩:=cO c;refine iL t e size b E s x q 0 (.slice none 0 0) 0 [] hs (World.ownsRow_nil ..) g n cap xs r j e hg k c.1 h1 ϖ ϖ d ϖ λg' m w' p o2 _=>?_
 rw[ϐ9,ϸ]at p;have:=h _ w' p (o2.mono (by simp[Value.ownBlock]));rw[ϐ9];exact this
def Lu(l:fL):∀v∈dd l,v.oneCell'=true:=by
 intro v hv;unfold dd at hv;have⟨f,_,h⟩:=ϐ4.1 hv;simp at h;obtain rfl|rfl:=h<;>rfl
def qN(g:Nat)(s:RS)(w:Φ)(h:bN w g s):Calls prog 98 #[.pointer (some ⟨g,0,none⟩)] w λe w'=>∃g',e=.returned (.pointer (some ⟨g',0,none⟩))/\bN w' g' s/\aG [] w w'/\w.heap.size<=g':=by
 have Z:=h.size;have hf:=h.few;go_enter func98,ntmps98;go_wp2_with (with_reducible refine bC 180 rfl ?_);refine bX rfl (.agg #[.slice none 0 0,.slice none 0 0,.slice none 0 0,.int .i64 s.n]) w ϰ ?_;go_wp2_with (with_reducible refine bv rfl ?_);refine eZ rfl 180 _ rfl (.agg #[.slice none 0 0,.slice none 0 0,.slice none 0 0,.int .i64 s.n]) rfl ?_;intro w1 b l1 f1 V;have O:Row w1 b #[.slice none 0 0,.slice none 0 0,.slice none 0 0,.int .i64 s.n] 180:=V;clear V;go_wp2_with fail
 go_loopw [4] (λc wr=>∃(k:Nat)(a:Ϡ),c=.int .i64 k/\k<=3/\Row wr b #[a 0,a 1,a 2,.int .i64 s.n] 180/\Hid (∀j,j<k->wr.ownsRow 0 187 2 (a j) (s.set j).length (dd (s.set j)))/\Hid (∀j,k<=j->a j=.slice none 0 0)/\aG [] w wr) λc _=>3-(intOf c).toNat
 case atStart=>exact⟨0,λ_=>.slice none 0 0,rfl,ϖ,O,λj A=>ϖ,λ_ _=>rfl,f1⟩
 case round=>
  obtain⟨k,a,rfl,hk,y,p,U,B⟩:=hrel;by_cases Y:k<3
  .have G:=h.new B;have⟨v,E,hv,W⟩:=G.cell k ϖ;go_wp2_with fail;refine pb 19 ?_;have z:aG [] wr wr.drew:=aG.drew ..;replace y:=z.row y;replace G:=G.new z;replace E:wr.drew.cell? ⟨g,k,none⟩=some v:=E;replace hv:=z.owns hv;replace p:Hid (∀j,j<k->wr.drew.ownsRow 0 187 2 (a j) (s.set j).length (dd (s.set j))):=λj A=>z.owns (p.out j A)
   replace B:=B.trans z;generalize wr.drew=w2 at*;clear z;refine pp 0 15 ?_;refine pp 1 16 ?_;refine pp 2 17 ?_;refine pp 3 18 ?_;refine pp 4 19 ?_;refine pp 5 20 ?_;refine pp 6 21 ?_;refine pp 8 23 ?_;refine pp 9 24 ?_;refine pp 10 25 ?_;refine pp 11 26 ?_;refine pp 12 27 ?_;refine pp 15 30 ?_;refine pp 16 31 ?_;simp only[puts];have D:=U.out k (ε _);have M:w2.cell? ⟨b,k,none⟩=some (.slice none 0 0):=by rw[y.cell,<-D];rcases(by omega:k=0\/k=1\/k=2)with rfl|rfl|rfl<;>rfl
   have T:Lets (λw':Φ=>w'.cell? ⟨b,k,none⟩=some (.slice none 0 0)/\w'.cell? ⟨g,k,none⟩=some v):=⟨λw o h=>⟨by rw[World.cell?_alloc_lt (h:=cG h.1)];exact h.1,by rw[World.cell?_alloc_lt (h:=cG h.2)];exact h.2⟩,λw h=>h⟩
   refine jM 7 _ T ⟨M,E⟩ (by decide) (some 22) rfl rfl ϰ ϰ ϰ (λ_ _ _ h=>h) rfl ϰ (v:=.slice none 0 0) (λw' t=>by have q:=t.1;go_simp) ?_;simp only[puts];refine jM 13 _ T ⟨M,E⟩ (by decide) (some 28) rfl rfl ϰ ϰ ϰ (λ_ _ _ h=>h) rfl ϰ (v:=v) (λw' t=>by have q:=t.2;go_simp) ?_;simp only[puts];refine O6 14 (by decide) rfl ϰ rfl λK' Q=>?_
   refine yy 177 187 2 32 dW _ _ rfl rfl 0 _ v _ rfl hv (Lu _) ϖ (by decide) λu l H K=>Q _ _ ?_
   show Pt _ _ _ _ _ (Act.put _ (some 29) _) _;simp only[puts];have d:=K.row y;refine pp 17 32 ?_;simp only[puts];have⟨m,x,J⟩:=aY H;subst J;have P:l.cell? ⟨b,k,none⟩=some (.slice none 0 0):=by rw[d.cell,<-D];rcases(by omega:k=0\/k=1\/k=2)with rfl|rfl|rfl<;>rfl
   have N:l.frozen? ⟨b,k,none⟩=false:=d.thaw k;refine pst 18 ?_;refine pd ?_;have f:=d.setCell k (.slice m (s.set k).length x);have F:aG [b] l (l.setCell ⟨b,k,none⟩ (.slice m (s.set k).length x)):=aG.setCell ..;simp only[puts];have L:Hid ((l.setCell ⟨b,k,none⟩ (.slice m (s.set k).length x)).ownsRow 0 187 2 (.slice m (s.set k).length x) (s.set k).length (dd (s.set k))):=F.owns H (λi C=>by obtain rfl:=ξ.1 C;exact own_ne H d (by decide));have n:Hid (∀j,j<k->(l.setCell ⟨b,k,none⟩ (.slice m (s.set k).length x)).ownsRow 0 187 2 (a j) (s.set j).length (dd (s.set j))):=λj A=>by have:=K.owns (p.out j A);exact F.owns this (λi C=>by obtain rfl:=ξ.1 C;exact own_ne this d (by decide))
   have R:aG [] w (l.setCell ⟨b,k,none⟩ (.slice m (s.set k).length x)):=(B.trans K).trans F (by intro i C;right;simp at C;omega);generalize X:(Value.slice m (s.set k).length x)=r at L n R f;generalize l.setCell ⟨b,k,none⟩ r=S at f L n R⊢;have I:Row S b #[(if k=0 then r else a 0),(if k=1 then r else a 1),(if k=2 then r else a 2),.int .i64 s.n] 180:=by rcases(by omega:k=0\/k=1\/k=2)with rfl|rfl|rfl<;>exact f
   clear F f d H P N G M y E hv p;go_wp2
   go_roundw
   case rel=>exact⟨k+1,λj=>if k=j then r else a j,by go_num,ϖ,I,(λj A=>by
    show S.ownsRow 0 _ 2 (if k=j then r else a j) _ _;by_cases e:k=j;subst e;rw[κ rfl];exact L.out;rw[Γ e];exact n.out j ϖ),(λj A=>by
    show(if k=j then r else a j)=_;rw[Γ ϖ];exact U.out j ϖ),R⟩
   case measure=>simp[intOf];omega
  .obtain rfl:k=3:=ϖ
   go_wp2;go_ret;exact⟨b,rfl,⟨⟨a 0,a 1,a 2,y,p.out 0 ϖ,p.out 1 ϖ,p.out 2 ϖ⟩,hf⟩,B,l1⟩
def mF{base base':Nat}{d:θ}{size a:Nat}{i:Θ}{m:Nat}{f:ϝ}(l:w.ownsRow base e size v n xs)(c:w.ownsRow base' d a i m f)(b:e≠d){j:Nat}(h:v.ownBlock=some j)(k:i.ownBlock=some j):False:=by
 obtain⟨rfl,_⟩|⟨g,cap,cur,rfl,_,hg,_⟩:=c.2;simp[Value.ownBlock]at k;have:g=j:=by simpa[Value.ownBlock] using k
 subst this;exact own_ne l (show Row w g cur d from hg) (λq=>b q.symm) h
def kX(p c:ϑ)(a:Bool):∀(l:fL)(b:Bool),(bj p c a b l).length<=l.length+(if b then 0 else 1)
 |[],b=>by unfold bj;cases a<;>cases b<;>simp
 |f::r,b=>by have d:=kX p c a r (b||(a&&decide (p<=f.1)));unfold bj;simp only[af0,ϲ];cases a<;>cases b<;>by_cases h:p<=f.1<;>by_cases e:f.1=p<;>simp[h,e]at d⊢<;>omega
def DB:∀(l all:fL),(nh all l).length<=all.length+l.length
 |[],all=>by simp[nh]
 |f::l,all=>by have h1:=DB l (bj f.1 [] true false all);have h2:=kX f.1 [] true all false;simp at h2;rw[ϲ];exact ac3 h1 ϖ
def RS.li(s:RS):Nat->fL
 |0=>[]
 |k+1=>nh (s.li k) (s.set k)
def LJ(all l:fL)(i:Nat)(a:i<l.length):nh all (l.take (i+1))=bj l[i].1 [] true false (nh all (l.take i)):=by
 unfold nh;rw[ac0 a,ϑ9];rfl
theorem y7(g:Nat)(s:RS)(w:Φ)(h:bN w g s):Calls prog 100 #[.pointer (some ⟨g,0,none⟩)] w λe w'=>∃u,e=.returned u/\w'.ownsRow w.heap.size 9 1 u s.paths.length (bJ s.paths)/\aG [] w w':=by
 have hf:=h.few;have hset:∀k,k<=2->(s.set k).length<=100:=λk hk=>by rcases(by omega:k=0\/k=1\/k=2)with rfl|rfl|rfl;exact hf.1;exact hf.2.1;exact hf.2.2
 have hal:∀k,k<=3->(s.li k).length<=100*k:=by
  intro k;induction k with|zero=>intro _;simp[RS.li]|succ k ih=>intro hk;have h1:=ih ϖ;have h2:=DB (s.set k) (s.li k);have h3:=hset k ϖ;show(nh (s.li k) (s.set k)).length<=_;omega
 replace hset:Hid _:=hset;replace hal:Hid _:=hal;clear hf;go_enter func100,ntmps100;go_wp2_with fail
 go_loopw [3,4] (λu3 c wr=>∃k:Nat,c=.int .i64 k/\k<=3/\aG [] w wr/\wr.ownsRow w.heap.size 187 2 u3 (s.li k).length (dd (s.li k))) λ_ c _=>3-(intOf c).toNat
 case atStart=>exact⟨0,rfl,ϖ,aG.refl _ _,World.ownsRow_nil _ _ _ _⟩
 case round=>
  obtain⟨k,rfl,hk,fk,ho⟩:=hrel;by_cases hlt:k<3
  .have hlk:=hal.out k hk;have hd1:decide ((k:Int)<3)=true:=by simp;omega
   have hsk:=hset.out k ϖ;have HA0:Hid (s.li (k+1)=nh (s.li k) (s.set k)):=rfl;go_wp2_with fail
   go_loopw [3,5] (λu3 c wr=>∃i:Nat,c=.int .i64 i/\i<=(s.set k).length/\aG [] w wr/\wr.ownsRow w.heap.size 187 2 u3 (nh (s.li k) ((s.set k).take i)).length (dd (nh (s.li k) ((s.set k).take i)))) λ_ c _=>(s.set k).length-(intOf c).toNat
   case atStart=>exact⟨0,rfl,ϖ,fk,by simpa[nh] using ho⟩
   case round=>
    obtain⟨i,rfl,hi,fi,hoi⟩:=hrel;obtain⟨v,cv,hv,_⟩:=(h.new fi).cell k ϖ;obtain⟨adv,amv,hv'⟩:=aY hv;subst hv';have hli:(nh (s.li k) ((s.set k).take i)).length<=1000:=by have:=DB ((s.set k).take i) (s.li k);rw[ac8]at this;omega
    by_cases Gb:i<(s.set k).length
    .obtain⟨gv,cur,rfl,hgv,hle,_,hcs,htk⟩:=cO hv;obtain⟨c0,_⟩:=zj hgv htk i Gb;have HST:Hid (nh (s.li k) ((s.set k).take (i+1))=bj (s.set k)[i].1 [] true false (nh (s.li k) ((s.set k).take i))):=LJ _ _ i Gb;generalize (s.set k)[i].1=p at*;generalize nh (s.li k) ((s.set k).take i)=al at*;clear htk hcs hgv;go_wp2_with fail;refine(l9 w.heap.size u3 al p [] true wr hoi hli).mono ?_;rintro e w2⟨u,rfl,hu,f2⟩;have fi2:=fi.trans f2;have hu2:w2.ownsRow w.heap.size 187 2 u (bj p [] true false al).length (dd (bj p [] true false al)):=hu.weak fi.size;clear hu f2 hoi;go_wp2
     go_roundw
     case rel=>exact⟨i+1,by go_num,ϖ,fi2,by rw[HST.out];exact hu2⟩
     case measure=>simp[intOf];omega
    .obtain rfl:i=(s.set k).length:=ϖ;rw[List.take_length]at hoi;go_wp2
     go_roundw
     case rel=>exact⟨k+1,by go_num,ϖ,fi,hoi⟩
     case measure=>simp[intOf];omega
  .have hd1:decide ((k:Int)<3)=false:=by simp;omega
   have hl3:=hal.out k hk;have e3:s.li k=s.all:=by rw[show k=3 by omega];rfl
   rw[e3]at ho hl3;clear e3;have HP:Hid (s.paths=s.all.map (·.1)):=rfl;have ho3:=ho;obtain⟨ad3,acE,hu3⟩:=aY ho;subst hu3;generalize s.all=al at ho ho3 hl3 HP;go_wp2_with fail
   go_loopw [6,7] (λu6 c wz=>∃i:Nat,c=.int .i64 i/\i<=al.length/\aG [] w wz/\wz.ownsRow 0 187 2 (.slice ad3 al.length acE) al.length (dd al)/\wz.ownsRow w.heap.size 9 1 u6 ((al.take i).map (·.1)).length (bJ ((al.take i).map (·.1)))) λ_ c _=>al.length-(intOf c).toNat
   case atStart=>exact⟨0,rfl,ϖ,fk,ho.weak ϖ,World.ownsRow_nil _ _ _ _⟩
   case round=>
    obtain⟨i,rfl,hi,fi,hoa,hos⟩:=hrel;have hbase:=fi.size;by_cases Gb:i<al.length
    .obtain⟨gv,cur,rfl,hgv,hle,_,hcs,htk⟩:=cO hoa;obtain⟨c0,_⟩:=zj hgv htk i Gb;have HST:Hid ((al.take (i+1)).map (·.1)=(al.take i).map (·.1)++[al[i].1]):=by show _=_;rw[ac0 Gb,List.map_append];rfl
     have hln:((al.take i).map (·.1)).length<=300:=by rw[af2,ac8];omega
     generalize al[i].1=p at*;generalize (al.take i).map (·.1)=qs at*;clear htk hcs hgv;go_wp2_with (with_reducible first|refine aQ rfl ?_|refine aM rfl ?_);refine dj rfl 45 9 1 16 cJ _ rfl (.string (aj p)) rfl rfl ?_;intro w8 b8 l8 f8 r8;go_wp2_with (with_reducible first|refine aQ rfl ?_|refine aM rfl ?_);have qi:=f8.owns hos;have aa3:=f8.owns hoa;refine dG rfl 45 9 1 16 cJ _ _ rfl w.heap.size u6 _ _ rfl qi b8 1 1 [.string (aj p)] rfl _ _ r8 rfl rfl (by simp[Value.oneCell']) ϖ ϖ ϖ (by have:=f8.size;omega) ?_;intro g' cap' w9 nK f9 _;have fi9:=(fi.trans f8).trans f9 (by intro j hj;right;simp at hj;exact(qi.lt j hj).1);have alp:=f9.owns aa3 λj hj e=>mF aa3 qi (by decide) e (by simpa using hj);clear hos hoa qi aa3 r8 f8 f9 l8 fi;go_wp2
     go_roundw
     case rel=>exact⟨i+1,by go_num,ϖ,fi9,alp,by rw[HST.out];simpa[bJ,aj] using nK⟩
     case measure=>simp[intOf];omega
    .obtain rfl:i=al.length:=ϖ;rw[List.take_length]at hos;have hlm:(al.map (·.1)).length=al.length:=af2 ..;have HP2:Hid (s.paths.length=al.length):=by show _=_;rw[HP.out,hlm]
     rw[hlm]at hos;clear hlm;obtain⟨ad6,cap6,hu6⟩:=aY hos;subst hu6;go_wp2;go_ret;exact⟨_,rfl,by rw[HP2.out,HP.out];exact hos,fi⟩
def RS.put(s:RS)(a:Int)(p c:ϑ):RS×Int:=
 if a<0\/1<a\/aX p=false\/96<c.length then(s,1)
 else if 7<(s.upd a.toNat (bj p c true false (s.set a.toNat))).paths.length then(s,6)
 else(s.upd a.toNat (bj p c true false (s.set a.toNat)),0)
def RS.remove(s:RS)(a:Int)(p:ϑ):RS×Int:=
 if a<0\/1<a\/aX p=false then(s,1)
 else if gO (s.set a.toNat) p=none then(s,5)
 else(s.upd a.toNat (bj p [] false false (s.set a.toNat)),0)
def RS.get(s:RS)(a:Int)(p:ϑ):List η×Int:=
 if a<0\/2<a\/aX p=false then([],1)
 else match gO (s.set a.toNat) p with
  |none=>([],5)
  |some c=>(c,0)
def ait(n:Int)(w:Φ)(e:Ending)(w':Φ):Prop:=(¬(16<=n/\n<=400)/\e=.returned (.pointer none)/\w'=w)\/((16<=n/\n<=400)/\∃g,e=.returned (.pointer (some ⟨g,0,none⟩))/\bN w' g ⟨[],[],[],n.toNat⟩/\aG [] w w'/\w.heap.size<=g)
def Fa(n:Int)(w:Φ):Calls prog 59 #[.int .i64 n] w (ait n w):=by
 go_enter func59,ntmps59;by_cases h1:n<16
 .have hd:decide (n<16)=true:=by simpa using h1
  go_wp2;go_ret;exact .inl ⟨ϖ,rfl,rfl⟩
 .have hd:decide (n<16)=false:=by simpa using h1
  by_cases h2:400<n
  .have a:decide (400<n)=true:=by simpa using h2
   go_wp2;go_ret;exact .inl ⟨ϖ,rfl,rfl⟩
  .have a:decide (400<n)=false:=by simpa using h2
   have e:Hid (((n.toNat:Nat):Int)=n):=by show _=_;omega
   go_wp2_with (with_reducible refine bC 180 rfl ?_);refine bX rfl (.agg #[.slice none 0 0,.slice none 0 0,.slice none 0 0,.int .i64 n]) w ϰ ?_;go_wp2_with (with_reducible refine bv rfl ?_);refine eZ rfl 180 _ rfl (.agg #[.slice none 0 0,.slice none 0 0,.slice none 0 0,.int .i64 n]) rfl ?_;intro w1 b l1 f1 d;have c:Row w1 b #[.slice none 0 0,.slice none 0 0,.slice none 0 0,.int .i64 ((n.toNat:Nat):Int)] 180:=by rw[e.out];exact d
   clear d;go_wp2;go_ret;exact .inr ⟨⟨ϖ,ϖ⟩,b,rfl,⟨⟨_,_,_,c,World.ownsRow_nil ..,World.ownsRow_nil ..,World.ownsRow_nil ..⟩,ϛ⟩,f1,l1⟩
def Fb(g:Nat)(s:RS)(a:Int)(p:ϑ)(w:Φ)(h:bN w g s)(i:p.length<=9223372036854775807):
  Calls prog 64 #[.pointer (some ⟨g,0,none⟩),.int .i64 a,.string (aj p)] w λe w'=>e=.returned (.tuple #[.string (aj (s.get a p).1),.int .i64 (s.get a p).2])/\w'=w:=by
 have d:Hid (s.get a p=if a<0\/2<a\/aX p=false then(([],1):List η×Int)else match gO (s.set a.toNat) p with|none=>([],5)|some c=>(c,0)):=rfl;go_enter func64,ntmps64;go_wp2_with fail;refine(vV p w i).mono ?_;rintro e w1⟨rfl,rfl⟩;by_cases h1:a<0
 .have hd:decide (a<0)=true:=by simpa using h1
  have HR:Hid (s.get a p=([],1)):=by show _=_;rw[d.out,κ (.inl h1)]
  go_wp2
  go_ret2
  exact⟨by rw[HR.out];rfl,rfl⟩
 .have hd:decide (a<0)=false:=by simpa using h1
  by_cases h2:2<a
  .have j:decide (2<a)=true:=by simpa using h2
   have HR:Hid (s.get a p=([],1)):=by show _=_;rw[d.out,κ (.inr (.inl h2))]
   go_wp2
   go_ret2
   exact⟨by rw[HR.out];rfl,rfl⟩
  .have j:decide (2<a)=false:=by simpa using h2
   cases l:aX p with
   |false=>
    have HR:Hid (s.get a p=([],1)):=by show _=_;rw[d.out,κ (.inr (.inr l))]
    go_wp2
    go_ret2
    exact⟨by rw[HR.out];rfl,rfl⟩
   |true=>
    have HR:Hid (s.get a p=(match gO (s.set a.toNat) p with|none=>(([],5):List η×Int)|some c=>(c,0))):=by show _=_;rw[d.out,Γ (by rw[l];simp;omega)]
    clear d;obtain⟨k,rfl⟩:∃k:Nat,a=k:=⟨a.toNat,ϖ⟩
    have f:k<=2:=ϖ;have⟨v,o,hv,m⟩:=h.cell k f;have n:(k:Int)<3:=ϖ;clear h1 h2;go_wp2_with fail;refine(uH 0 v (s.set k) p w1 hv).mono ?_;rintro e w2⟨rfl,rfl⟩;rw[show((k:Int)).toNat=k from rfl]at HR;cases b:gO (s.set k) p with
    |none=>
     rw[b]at HR;go_wp2
     go_ret2
     exact⟨by rw[HR.out];rfl,rfl⟩
    |some c=>
     rw[b]at HR;go_wp2
     go_ret2
     exact⟨by rw[HR.out];rfl,rfl⟩
def bN.thaw{w:Φ}{g:Nat}{s:RS}(h:bN w g s)(k:Nat):w.frozen? ⟨g,k,none⟩=false:=by
 have⟨⟨b,c,a,hr,_⟩,_⟩:=h;exact hr.thaw k
def bN.upd{w:Φ}{g:Nat}{s:RS}(h:bN w g s)(k:Nat)(hk:k<=2){u:Θ}{l:fL}(d:w.ownsRow 0 187 2 u l.length (dd l))(c:l.length<=100):bN (w.setCell ⟨g,k,none⟩ u) g (s.upd k l):=by
 have⟨⟨j,f,e,hr,h0,h1,h2⟩,hf⟩:=h;have n:aG [g] w (w.setCell ⟨g,k,none⟩ u):=aG.setCell ..;have a:∀{v:Θ}{m:fL},w.ownsRow 0 187 2 v m.length (dd m)->(w.setCell ⟨g,k,none⟩ u).ownsRow 0 187 2 v m.length (dd m):=λq=>n.owns q (λi o=>by obtain rfl:=ξ.1 o;exact own_ne q hr (by decide))
 have b:=hr.setCell k u;rcases(by omega:k=0\/k=1\/k=2)with rfl|rfl|rfl;exact⟨⟨u,f,e,b,a d,a h1,a h2⟩,c,hf.2⟩;exact⟨⟨j,u,e,b,a h0,a d,a h2⟩,hf.1,c,hf.2.2⟩;exact⟨⟨j,f,u,b,a h0,a h1,a d⟩,hf.1,hf.2.1,c⟩
def KI(s:RS)(w:Φ)(g:Nat)(r:RS×Int)(e:Ending)(w':Φ):Prop:=∃g',e=.returned (.tuple #[.pointer (some ⟨g',0,none⟩),.int .i64 r.2])/\bN w' g' r.1/\aG [] w w'/\(r.2≠0->g'=g)
def E9(g:Nat)(s:RS)(a:Int)(p c:ϑ)(w:Φ)(h:bN w g s)(r:∀k,k<=2->(s.set k).length<=50)(H:p.length<=9223372036854775807)(X:c.length<=9223372036854775807):
  Calls prog 61 #[.pointer (some ⟨g,0,none⟩),.int .i64 a,.string (aj p),.string (aj c)] w (KI s w g (s.put a p c)):=by
 have n:Hid (s.put a p c=if a<0\/1<a\/aX p=false\/96<c.length then(s,(1:Int))else if 7<(s.upd a.toNat (bj p c true false (s.set a.toNat))).paths.length then(s,6)else(s.upd a.toNat (bj p c true false (s.set a.toNat)),0)):=rfl;have V:((aj c).size:Int)=c.length:=by rw[da]
 go_enter func61,ntmps61;go_wp2_with fail;refine(vV p w H).mono ?_;rintro e w1⟨rfl,rfl⟩;have d:s.put a p c=(s,1)->KI s w1 g (s.put a p c) (.returned (.tuple #[.pointer (some ⟨g,0,none⟩),.int .i64 1])) w1:=λe=>by rw[e];exact⟨g,rfl,h,aG.refl ..,λ_=>rfl⟩
 replace d:Hid _:=d;by_cases h1:a<0
 .have hd:decide (a<0)=true:=by simpa using h1
  have HR:Hid (s.put a p c=(s,1)):=by show _=_;rw[n.out,κ (.inl h1)]
  go_wp2
  go_ret2
  exact d.out HR.out
 .have hd:decide (a<0)=false:=by simpa using h1
  by_cases h2:1<a
  .have I:decide (1<a)=true:=by simpa using h2
   have HR:Hid (s.put a p c=(s,1)):=by show _=_;rw[n.out,κ (.inr (.inl h2))]
   go_wp2
   go_ret2
   exact d.out HR.out
  .have I:decide (1<a)=false:=by simpa using h2
   cases J:aX p with
   |false=>
    have HR:Hid (s.put a p c=(s,1)):=by show _=_;rw[n.out,κ (.inr (.inr (.inl J)))]
    go_wp2
    go_ret2
    exact d.out HR.out
   |true=>
    by_cases N:96<c.length
    .have B:decide (96<(c.length:Int))=true:=by simp;omega
     have HR:Hid (s.put a p c=(s,1)):=by show _=_;rw[n.out,κ (.inr (.inr (.inr N)))]
     go_wp2
     go_ret2
     exact d.out HR.out
    .have B:decide (96<(c.length:Int))=false:=by simp;omega
     have HR:Hid (s.put a p c=if 7<(s.upd a.toNat (bj p c true false (s.set a.toNat))).paths.length then(s,6)else(s.upd a.toNat (bj p c true false (s.set a.toNat)),0)):=by show _=_;rw[n.out,Γ (by rw[J];simp;omega)]
     clear n d;obtain⟨k,rfl⟩:∃k:Nat,a=k:=⟨a.toNat,ϖ⟩
     have j:k<=2:=ϖ;have W:(k:Int)<3:=ϖ;rw[show((k:Int)).toNat=k from rfl]at HR;clear h1 h2 N;go_wp2_with fail;refine(qN g s w1 h).mono ?_;rintro e F⟨b,rfl,f,l,lb⟩;go_wp2_with fail;refine pb 15 ?_;have D:aG [] F F.drew:=aG.drew ..;replace f:=f.new D;replace l:=l.trans D;generalize F.drew=w2 at f l;clear D;have⟨v,P,hv,S⟩:=f.cell k j;have Y:(bj p c true false (s.set k)).length<=100:=by have h1:=kX p c true (s.set k) false;have h2:=r k j;simp at h1;omega
     refine pp 0 35 ?_;refine pp 1 36 ?_;refine pp 2 37 ?_;refine pp 3 38 ?_;refine pp 4 39 ?_;refine pp 5 40 ?_;refine pp 6 41 ?_;refine pp 8 43 ?_;refine pp 9 44 ?_;refine pp 11 46 ?_;refine pp 12 47 ?_;refine pl 7 42 P ?_;simp only[puts];refine pc 10 45 (l9 0 v (s.set k) p c true w2 hv ϖ) ?_;rintro e K⟨u,rfl,m,A⟩;refine⟨_,rfl,?_⟩;simp only[puts];replace f:=f.new A;replace m:=m.weak (ϕ6 _);replace l:=l.trans A;have⟨v3,y,_,_⟩:=f.cell k j;have E:=f.thaw k;clear hv P A;refine pp 13 48 ?_;simp only[puts];have⟨L,Q,z⟩:=aY m;subst z;refine pst 14 ?_;refine pd ?_;simp only[puts];have t:=f.upd k j m Y;have o:=l.trans (aG.setCell [b] K ⟨b,k,none⟩ (.slice L (bj p c true false (s.set k)).length Q) ϛ) (by intro i U;right;simp at U;omega);generalize K.setCell ⟨b,k,none⟩ (.slice L (bj p c true false (s.set k)).length Q)=T at t o⊢;clear f l m y E;go_wp2_with fail;refine(y7 b _ T t).mono ?_;rintro e Z⟨u,rfl,m,M⟩;have⟨R,Rq,G⟩:=aY m;subst G;replace t:=t.new M;replace o:=o.trans M;generalize x:s.upd k (bj p c true false (s.set k))=s' at*;clear x;by_cases O:7<s'.paths.length
     .have C:Hid (s.put k p c=(s,6)):=by show _=_;rw[HR.out,κ O]
      go_wp2
      go_ret2
      rw[C.out];exact⟨g,rfl,h.new o,o,λ_=>rfl⟩
     .have C:Hid (s.put k p c=(s',0)):=by show _=_;rw[HR.out,Γ O]
      go_wp2
      go_ret2
      rw[C.out];exact⟨b,rfl,t,o,λq=>absurd rfl q⟩
def wX(g:Nat)(s:RS)(a:Int)(p:ϑ)(w:Φ)(h:bN w g s)(o:∀k,k<=2->(s.set k).length<=50)(E:p.length<=9223372036854775807):
  Calls prog 63 #[.pointer (some ⟨g,0,none⟩),.int .i64 a,.string (aj p)] w (KI s w g (s.remove a p)):=by
 have n:Hid (s.remove a p=if a<0\/1<a\/aX p=false then(s,(1:Int))else if gO (s.set a.toNat) p=none then(s,5)else(s.upd a.toNat (bj p [] false false (s.set a.toNat)),0)):=rfl;go_enter func63,ntmps63;go_wp2_with fail;refine(vV p w E).mono ?_;rintro e w1⟨rfl,rfl⟩;have c:s.remove a p=(s,1)->KI s w1 g (s.remove a p) (.returned (.tuple #[.pointer (some ⟨g,0,none⟩),.int .i64 1])) w1:=λe=>by rw[e];exact⟨g,rfl,h,aG.refl ..,λ_=>rfl⟩
 replace c:Hid _:=c;by_cases h1:a<0
 .have hd:decide (a<0)=true:=by simpa using h1
  have HR:Hid (s.remove a p=(s,1)):=by show _=_;rw[n.out,κ (.inl h1)]
  go_wp2
  go_ret2
  exact c.out HR.out
 .have hd:decide (a<0)=false:=by simpa using h1
  by_cases h2:1<a
  .have F:decide (1<a)=true:=by simpa using h2
   have HR:Hid (s.remove a p=(s,1)):=by show _=_;rw[n.out,κ (.inr (.inl h2))]
   go_wp2
   go_ret2
   exact c.out HR.out
  .have F:decide (1<a)=false:=by simpa using h2
   cases G:aX p with
   |false=>
    have HR:Hid (s.remove a p=(s,1)):=by show _=_;rw[n.out,κ (.inr (.inr G))]
    go_wp2
    go_ret2
    exact c.out HR.out
   |true=>
    have HR:Hid (s.remove a p=if gO (s.set a.toNat) p=none then(s,5)else(s.upd a.toNat (bj p [] false false (s.set a.toNat)),0)):=by show _=_;rw[n.out,Γ (by rw[G];simp;omega)]
    clear n c;obtain⟨k,rfl⟩:∃k:Nat,a=k:=⟨a.toNat,ϖ⟩
    have d:k<=2:=ϖ;have O:(k:Int)<3:=ϖ;rw[show((k:Int)).toNat=k from rfl]at HR;have⟨N,t,hv,m⟩:=h.cell k d;clear h1 h2;go_wp2_with fail;refine(uH 0 N (s.set k) p w1 hv).mono ?_;rintro e w2⟨rfl,rfl⟩;clear t hv m;cases j:gO (s.set k) p with
    |none=>
     have z:Hid (s.remove k p=(s,5)):=by show _=_;rw[HR.out,κ j]
     go_wp2
     go_ret2
     rw[z.out];exact⟨g,rfl,h,aG.refl ..,λ_=>rfl⟩
    |some S=>
     have z:Hid (s.remove k p=(s.upd k (bj p [] false false (s.set k)),0)):=by show _=_;rw[HR.out,Γ (by rw[j];simp)]
     clear HR j;go_wp2_with fail;refine(qN g s w2 h).mono ?_;rintro e D⟨b,rfl,f,l,lb⟩;go_wp2_with fail;refine pb 14 ?_;have B:aG [] D D.drew:=aG.drew ..;replace f:=f.new B;replace l:=l.trans B;generalize D.drew=w2 at f l;clear B;have⟨v,t,hv,m⟩:=f.cell k d;have P:(bj p [] false false (s.set k)).length<=100:=by have h1:=kX p [] false (s.set k) false;have h2:=o k d;simp at h1;omega
     refine pp 0 44 ?_;refine pp 1 45 ?_;refine pp 2 46 ?_;refine pp 3 47 ?_;refine pp 4 48 ?_;refine pp 5 49 ?_;refine pp 6 50 ?_;refine pp 8 52 ?_;refine pp 10 54 ?_;refine pp 11 55 ?_;refine pl 7 51 t ?_;simp only[puts];refine gq 9 (by decide) (some 53) rfl rfl ϰ rfl 99 #[v,.string (aj p),.string (aj []),.bool false] (by go_simp;rfl) _ (l9 0 v (s.set k) p [] false w2 hv ϖ) ?_;rintro e H⟨u,rfl,r,A⟩;refine⟨_,rfl,?_⟩;simp only[puts];replace f:=f.new A;replace r:=r.weak (ϕ6 _);replace l:=l.trans A;have⟨R,x,_,_⟩:=f.cell k d;have C:=f.thaw k;clear hv t A;refine pp 12 56 ?_;simp only[puts];have⟨I,J,y⟩:=aY r;subst y;refine pst 13 ?_;refine pd ?_;simp only[puts];have K:=f.upd k d r P;have L:=l.trans (aG.setCell [b] H ⟨b,k,none⟩ (.slice I (bj p [] false false (s.set k)).length J) ϛ) (by intro i M;right;simp at M;omega);generalize H.setCell ⟨b,k,none⟩ (.slice I (bj p [] false false (s.set k)).length J)=Q at K L⊢;clear f l r x C;go_wp2
     go_ret2
     rw[z.out];exact⟨b,rfl,K,L,λq=>absurd rfl q⟩
def RS.list(s:RS)(a:Int):List (List η)×Int:=if a<0\/2<a then([],1)else((s.set a.toNat).map (·.1),0)
theorem BM(g:Nat)(s:RS)(side:Int)(w:Φ)(h:bN w g s):
  Calls prog 65 #[.pointer (some ⟨g,0,none⟩),.int .i64 side] w λe w'=>∃v,e=.returned (.tuple #[v,.int .i64 (s.list side).2])/\w'.ownsRow w.heap.size 9 1 v (s.list side).1.length (bJ (s.list side).1)/\aG [] w w':=by
 have HG:Hid (s.list side=if side<0\/2<side then(([],1):List (List η)×Int)else((s.set side.toNat).map (·.1),0)):=rfl;go_enter func65,ntmps65;by_cases h1:side<0
 .have hd:decide (side<0)=true:=by simpa using h1
  have HR:Hid (s.list side=([],1)):=by show _=_;rw[HG.out,κ (.inl h1)]
  go_wp2
  go_ret2
  rw[HR.out];exact⟨_,rfl,World.ownsRow_nil _ _ _ _,aG.refl _ _⟩
 .have hd:decide (side<0)=false:=by simpa using h1
  by_cases h2:2<side
  .have hd2:decide (2<side)=true:=by simpa using h2
   have HR:Hid (s.list side=([],1)):=by show _=_;rw[HG.out,κ (.inr h2)]
   go_wp2
   go_ret2
   rw[HR.out];exact⟨_,rfl,World.ownsRow_nil _ _ _ _,aG.refl _ _⟩
  .have hd2:decide (2<side)=false:=by simpa using h2
   have HR:Hid (s.list side=((s.set side.toNat).map (·.1),0)):=by show _=_;rw[HG.out,Γ ϖ]
   clear HG;obtain⟨k,rfl⟩:∃k:Nat,side=k:=⟨side.toNat,ϖ⟩
   have hk2:k<=2:=ϖ;have hk3:(k:Int)<3:=ϖ;rw[show((k:Int)).toNat=k from rfl]at HR;clear h1 h2;generalize hal:s.set k=al at HR;have HAL:Hid (s.set k=al):=hal;clear hal;go_wp2_with fail
   go_loopw [6,7] (λu6 c wr=>∃i:Nat,c=.int .i64 i/\i<=al.length/\aG [] w wr/\wr.ownsRow w.heap.size 9 1 u6 ((al.take i).map (·.1)).length (bJ ((al.take i).map (·.1)))) λ_ c _=>al.length-(intOf c).toNat
   case atStart=>exact⟨0,rfl,ϖ,aG.refl _ _,World.ownsRow_nil _ _ _ _⟩
   case round=>
    obtain⟨i,rfl,hi,fi,hos⟩:=hrel;obtain⟨v,cv,hv,hvl⟩:=(h.new fi).cell k hk2;rw[HAL.out]at hv hvl;obtain⟨adv,amv,hv'⟩:=aY hv;subst hv';have hbase:=fi.size;by_cases Gb:i<al.length
    .obtain⟨gv,cur,rfl,hgv,hle,_,hcs,htk⟩:=cO hv;obtain⟨c0,_⟩:=zj hgv htk i Gb;have HST:Hid ((al.take (i+1)).map (·.1)=(al.take i).map (·.1)++[al[i].1]):=by show _=_;rw[ac0 Gb,List.map_append];rfl
     have hln:((al.take i).map (·.1)).length<=300:=by rw[af2,ac8];omega
     generalize al[i].1=p at*;generalize (al.take i).map (·.1)=qs at*;clear htk hcs hgv;go_wp2_with (with_reducible first|refine aQ rfl ?_|refine aM rfl ?_);refine dj rfl 45 9 1 16 cJ _ rfl (.string (aj p)) rfl rfl ?_;intro w8 b8 l8 f8 r8;go_wp2_with (with_reducible first|refine aQ rfl ?_|refine aM rfl ?_);have qi:=f8.owns hos;refine dG rfl 45 9 1 16 cJ _ _ rfl w.heap.size u6 _ _ rfl qi b8 1 1 [.string (aj p)] rfl _ _ r8 rfl rfl (by simp[Value.oneCell']) ϖ ϖ ϖ (by have:=f8.size;omega) ?_;intro g' cap' w9 nK f9 _;have fi9:=(fi.trans f8).trans f9 (by intro j hj;right;simp at hj;exact(qi.lt j hj).1);clear hos qi r8 f8 f9 l8 fi hv cv;go_wp2
     go_roundw
     case rel=>exact⟨i+1,by go_num,ϖ,fi9,by rw[HST.out];simpa[bJ,aj] using nK⟩
     case measure=>simp[intOf];omega
    .obtain rfl:i=al.length:=ϖ;rw[List.take_length]at hos;have hlm:(al.map (·.1)).length=al.length:=af2 ..;rw[hlm]at hos;obtain⟨ad6,cap6,hu6⟩:=aY hos;subst hu6;have HL:Hid ((al.map (·.1)).length=al.length):=hlm;clear hlm;go_wp2
     go_ret2
     rw[HR.out];exact⟨_,rfl,by show World.ownsRow _ _ _ _ _ (al.map (·.1)).length _;rw[HL.out];exact hos,fi⟩
def RS.bK(t:RS)(p:ϑ)(c:Option (List η)):Nat->RS
 |0=>t
 |k+1=>(t.bK p c k).upd k (bj p (c.getD []) c.isSome false ((t.bK p c k).set k))
structure Nw where
 t:RS
 steps:Nat
 cK:List (List η)
def follow(l r o:Option (List η)):Option (List η):=if l≠r/\l=o then r else l
def RS.one(s:RS)(x:Nw)(p:ϑ):Nw:=
 if gO s.a p=gO s.b p/\gO s.a p=gO s.o p then x
 else if gO s.a p≠gO s.b p/\gO s.a p≠gO s.o p/\gO s.b p≠gO s.o p then{x with cK:=x.cK++[p]}
 else{x with t:=x.t.bK p (follow (gO s.a p) (gO s.b p) (gO s.o p)) 3,steps:=x.steps+1}
def RS.sync(s:RS):Nw:=s.paths.foldl s.one ⟨s,0,[]⟩
def vZ(x y:Option (List η)):(Hid (decide (x=y)=true)/\(x.isSome==y.isSome)=true/\((aj (x.getD [])).toList==(aj (y.getD [])).toList)=true)\/(Hid (decide (x=y)=false)/\(x.isSome==y.isSome)=false)\/(Hid (decide (x=y)=false)/\(x.isSome==y.isSome)=true/\((aj (x.getD [])).toList==(aj (y.getD [])).toList)=false):=by
 by_cases h:x=y;subst h;exact .inl ⟨decide_eq_true rfl,ϛ,ϛ⟩;right;have H:Hid (decide (x=y)=false):=decide_eq_false h;cases a:(x.isSome==y.isSome)with
 |false=>exact .inl ⟨H,rfl⟩
 |true=>refine .inr ⟨H,rfl,?_⟩;rw[ew,ew];cases x<;>cases y<;>simp_all
def RS.LY{x:Nw}{r o:Option (List η)}(a:gO s.a p=l)(hr:gO s.b p=r)(b:gO s.o p=o):
  (decide (l=r)=true/\decide (l=o)=true/\Hid (s.one x p=x))\/(decide (l=r)=false/\decide (l=o)=false/\decide (r=o)=false/\Hid (s.one x p={x with cK:=x.cK++[p]}))\/
  (∃c,c=l/\decide (l=r)=true/\decide (l=o)=false/\Hid (s.one x p={x with t:=x.t.bK p c 3,steps:=x.steps+1}))\/
  (∃c,c=r/\decide (l=r)=false/\decide (l=o)=true/\Hid (s.one x p={x with t:=x.t.bK p c 3,steps:=x.steps+1}))\/
  (∃c,c=l/\decide (l=r)=false/\decide (l=o)=false/\decide (r=o)=true/\Hid (s.one x p={x with t:=x.t.bK p c 3,steps:=x.steps+1})):=by
 unfold RS.one follow Hid;rw[a,hr,b];by_cases h1:l=r<;>by_cases h2:l=o<;>by_cases d:r=o<;>simp_all
def bN.off(h:bN w g s)(f:aG [q] w w')(hg:g≠q)(r:Row w q c t)(j:t≠187):bN w' g s:=by
 have⟨⟨e,b,a,hr,h0,h1,h2⟩,hf⟩:=h;have k:∀{v:Θ}{m:fL},w.ownsRow 0 187 2 v m.length (dd m)->w'.ownsRow 0 187 2 v m.length (dd m):=λo=>f.owns o (λi d=>by obtain rfl:=ξ.1 d;exact own_ne o r j)
 exact⟨⟨e,b,a,f.row hr (by simpa using hg),k h0,k h1,k h2⟩,hf⟩
def bN.Qo{base size:Nat}(h:bN w g s)(f:aG v.ownBlock.toList w w')(a:w.ownsRow base 9 size v n xs):bN w' g s:=by
 have⟨⟨e,c,b,hr,h0,h1,h2⟩,hf⟩:=h;have k:∀{u:Θ}{m:fL},w.ownsRow 0 187 2 u m.length (dd m)->w'.ownsRow 0 187 2 u m.length (dd m):=λo=>f.owns o λi d q=>mF o a (by decide) q (by simpa using d)
 exact⟨⟨e,c,b,f.row hr λq=>own_ne a hr (by decide) (by simpa using q),k h0,k h1,k h2⟩,hf⟩
def RS.mB(t:RS)(p:ϑ)(c:Option (List η))(j:Nat)(b:j<=2):∀k,k<=3->(t.bK p c k).set j=if j<k then bj p (c.getD []) c.isSome false (t.set j)else t.set j
 |0,_=>by simp[RS.bK]
 |k+1,hk=>by
  have d:=RS.mB t p c j b k ϖ;have a:(t.bK p c k).set k=t.set k:=by have:=RS.mB t p c k ϖ k ϖ;simpa using this
  show((t.bK p c k).upd k (bj p (c.getD []) c.isSome false ((t.bK p c k).set k))).set j=_;rw[RS.C1 _ _ _ ϖ b,a];by_cases e:j=k;subst e;simp;rw[Γ e,d];by_cases h:j<k;rw[κ h,κ ϖ];rw[Γ h,Γ ϖ]
def RS.kg(t:RS)(p:ϑ)(c:Option (List η))(j k:Nat)(a:j<=2)(hk:k<=3):((t.bK p c k).set j).length<=(t.set j).length+1:=by
 rw[RS.mB t p c j a k hk];split;have:=kX p (c.getD []) c.isSome (t.set j) false;simpa using this;omega
def E5(t:θ)(x:ac4)(h:o.op=.load t x)(b:Nat)(i:a.eval x=.pointer (some ⟨b,0,none⟩))(c:ϐ)(u:θ)(hr:Row w b c u)(k:(prog.underlying t).map (λd=>match d with|.struct _|.array _ _=>true|_=>false)=some true)(j:(prog.info? t).map (·.size)=some c.size):(execOp a.eval o).run prog w=.ok (.value (.agg c)) w:=by
 have⟨d,e,f⟩:=ψ.1 k;have g:=run_loadVar_row w b u t c (0,0) d hr e (by revert f e;cases d<;>intro x y<;>first|rfl|cases y) j;unfold execOp;rw[h];show(do pure (.value (<-Instr.loadAt t (a.eval x))):Sem Next).run _ _=_;rw[i];simp[Instr.loadAt,run_bind,Instr.sureAddr,g]
def C6(t:θ)(x y:ac4)(c:o.op=.store t x y)(b:Nat)(d:a.eval x=.pointer (some ⟨b,0,none⟩))(cells:ϐ)(e:a.eval y=.agg cells)(h:(Instr.storeAt t (.pointer (some ⟨b,0,none⟩)) (.agg cells)).run prog w=.ok () w1):(execOp a.eval o).run prog w=.ok .skip w1:=by
 simp[execOp,c,d,e,h]
def uC{fn:Func}{tp tq tr:Tmp}(hf:fn.results=#[.tmp tr,.cell tp ty,.tmp tq])(a:ϐ)(w:Φ)(b:Nat)(c:ϐ)(u:θ)(i:a.getD tp ϗ=.pointer (some ⟨b,0,none⟩))(hr:Row w b c u)(k:(prog.underlying ty).map (λd=>match d with|.struct _|.array _ _=>true|_=>false)=some true)(j:(prog.info? ty).map (·.size)=some c.size):(results fn a).run prog w=.ok (.tuple #[a.getD tr ϗ,.agg c,a.getD tq ϗ]) w:=by
 have⟨d,e,f⟩:=ψ.1 k;have g:a[tp]?.getD ϗ=.pointer (some ⟨b,0,none⟩):=by simpa using i
 have h:=run_loadVar_row w b u ty c (0,0) d hr e (by revert f e;cases d<;>intro x y<;>first|rfl|cases y) j;simp[results,hf,g,asAddr,h]
def Ly(g:Nat)(s:RS)(w:Φ)(h:bN w g s)(Y:∀k,k<=2->(s.set k).length<=20)(bS:s.paths.length<=60):
  Calls prog 103 #[.pointer (some ⟨g,0,none⟩)] w λe w'=>∃g' D,e=.returned (.tuple #[.pointer (some ⟨g',0,none⟩),.agg #[.int .i64 s.sync.steps,D],.int .i64 0])/\bN w' g' s.sync.t/\w'.ownsRow w.heap.size 9 1 D s.sync.cK.length (bJ s.sync.cK)/\aG [] w w':=by
 go_enter func103,ntmps103;go_wp2_with (with_reducible refine au rfl ?_);refine br rfl 58 rfl _ fN ?_;intro w1 M l3 f1 r3;have h1:=h.new f1;go_wp2_with (with_reducible refine au rfl ?_);refine(qN g s w1 h1).mono ?_;rintro e w2⟨b,rfl,G,f2,l2⟩;have h2:=h1.new f2;have aw:=f2.row r3;have a6:=f1.trans f2;have z1:=f1.size;have z2:=f2.size;have z3:=r3.lt;clear h1 r3 f1 f2;go_wp2_with (with_reducible refine au rfl ?_);refine br rfl 58 rfl _ fN ?_;intro X z l6 V f;have h3:=h2.new V;have a4:=G.new V;have a7:=V.row aw;have yh:=a6.trans V;have z4:=V.size;clear h2 G aw a6 V;go_wp2_with fail;refine(y7 g s X h3).mono ?_;rintro e U⟨pv,rfl,A,f4⟩;have h4:=h3.new f4;have ag:=a4.new f4;have ar:=f4.row a7;have ao:=f4.row f;have zW:=yh.trans f4;have bb:∀k,pv.ownBlock=some k->k<U.heap.size:=λk hk=>(A.lt k hk).2
 have z5:=f4.size;clear h3 a4 a7 f yh f4;have⟨bt,Rq,bc⟩:=aY A;subst bc;generalize aW:s.paths=ps at*;have HS:Hid (s.sync=ps.foldl s.one ⟨s,0,[]⟩):=by show s.sync=_;rw[<-aW];rfl
 clear aW;have N:b≠z/\M≠z/\w.heap.size<=b/\w.heap.size<=z:=by have⟨⟨_,_,_,W,_⟩,_⟩:=id ag;refine⟨λe=>?_,ϖ,ϖ,ϖ⟩;subst e;have q:_=_:=W.symm.trans ao;simp at q
 go_wp2_with fail
 go_loopw [8] (λc wr=>∃(i:Nat)(x:Nw)(D:Θ),c=.int .i64 i/\i<=ps.length/\Hid (x=(ps.take i).foldl s.one ⟨s,0,[]⟩)/\bN wr b x.t/\Hid (∀k,k<=2->(x.t.set k).length<=20+i)/\x.steps<=i/\x.cK.length<=i/\
  Row wr z #[.int .i64 x.steps,D] 58/\wr.ownsRow U.heap.size 9 1 D x.cK.length (bJ x.cK)/\aG [] w wr/\Row wr M cL.cells 58/\wr.ownsRow X.heap.size 9 1 (.slice bt ps.length Rq) ps.length (bJ ps)/\U.heap.size<=wr.heap.size) λc _=>ps.length-(intOf c).toNat
 case atStart=>exact⟨0,⟨s,0,[]⟩,.slice none 0 0,rfl,ϖ,rfl,ag,λk hk=>by have:=Y k hk;omega,ϛ,ϛ,ao,World.ownsRow_nil ..,zW,ar,A,ε _⟩
 clear ag ao zW ar A h4
 case round=>
  obtain⟨i,x,D,rfl,hi,HX,G,HB,aa,bP,f,m,L,r3,A,d⟩:=hrel;have B:=h.new L;by_cases a2:i<ps.length
  .obtain⟨gp,rfl,cp⟩:=Dl A rfl i a2;have HN:Hid ((ps.take (i+1)).foldl s.one ⟨s,0,[]⟩=s.one x ps[i]):=by
    show _=_;rw[ac0 a2,ϑ9,<-HX.out];rfl
   generalize ps[i]=p at*;have⟨va,ca,J,O⟩:=B.cell 0 ϖ;have⟨vb,cb,I,R⟩:=B.cell 1 ϖ;have⟨vo,co,qU,T⟩:=B.cell 2 ϖ;have J:wr.ownsRow 0 187 2 va s.a.length (dd s.a):=J;have I:wr.ownsRow 0 187 2 vb s.b.length (dd s.b):=I;have qU:wr.ownsRow 0 187 2 vo s.o.length (dd s.o):=qU;have O:s.a.length<=100:=O;have R:s.b.length<=100:=R;have T:s.o.length<=100:=T;go_wp2_with fail;refine(uH 0 va s.a p wr J).mono ?_;rintro e w5⟨rfl,rfl⟩;go_wp2_with fail;refine(uH 0 vb s.b p w5 I).mono ?_;rintro e w6⟨rfl,rfl⟩;go_wp2_with fail;refine(uH 0 vo s.o p w6 qU).mono ?_;rintro e w7⟨rfl,rfl⟩;clear J I qU O R T ca cb co;generalize O:gO s.a p=l at*
   generalize R:gO s.b p=r at*;generalize T:gO s.o p=o at*
   go_upto_region 13 with fail
   go_cut [16]from 30 to 145 λc' wx=>c'=.bool (decide (l=r))/\wx=w7
   case first=>
    obtain⟨K,_,_⟩|⟨K,_⟩|⟨K,_,_⟩:=vZ l r<;>(go_wp2_with fail;go_meet;exact⟨by rw[K.out],rfl⟩)
   case rest=>
    obtain⟨rfl,rfl⟩:=hcut
    go_upto_region 14 with fail
    go_cut [17]from 30 to 145 λc' wx=>c'=.bool (decide (l=o))/\wx=wc
    case first=>
     obtain⟨K,_,_⟩|⟨K,_⟩|⟨K,_,_⟩:=vZ l o<;>(go_wp2_with fail;go_meet;exact⟨by rw[K.out],rfl⟩)
    case rest=>
     obtain⟨rfl,rfl⟩:=hcut
     go_upto_region 15 with fail
     go_cut [18]from 30 to 145 λc' wx=>c'=.bool (decide (r=o))/\wx=wc
     case first=>
      obtain⟨K,_,_⟩|⟨K,_⟩|⟨K,_,_⟩:=vZ r o<;>(go_wp2_with fail;go_meet;exact⟨by rw[K.out],rfl⟩)
     case rest=>
      obtain⟨rfl,rfl⟩:=hcut;clear B Y;have B:bN wc g s:=h.new L;have d0:decide (l=r)=true\/decide (l=r)=false:=by cases decide (l=r)<;>simp
      have b7:x.cK.length<=60:=ϖ;have bw:x.steps<=60:=ϖ;have AG:=f.val 0 (.int .i64 x.steps);have Xn:=f.val 1 D;have a0:wc.frozen? ⟨z,0,none⟩=false:=f.thaw 0;have a3:wc.frozen? ⟨z,1,none⟩=false:=f.thaw 1;obtain⟨g1,g2,HZ⟩|⟨g1,g2,g3,HZ⟩|⟨cq,rfl,g1,g2,HZ⟩|⟨cq,rfl,g1,g2,HZ⟩|⟨cq,rfl,g1,g2,g3,HZ⟩:=RS.LY (x:=x) O R T
      .go_wp2
       go_roundw
       case rel=>exact⟨i+1,x,D,by go_num,ϖ,HZ.out.symm.trans HN.out.symm,G,λk hk=>by have:=HB.out k hk;omega,ϖ,ϖ,f,m,L,r3,A,d⟩
       case measure=>simp[intOf];omega
      .go_wp2_with (with_reducible refine aQ rfl ?_);refine Qe rfl rfl 45 9 1 16 cJ _ _ _ rfl rfl (.string (aj p)) rfl rfl (by simp[Value.cells,Value.oneCell']) U.heap.size _ _ _ (λ_=>rfl) (λ_=>rfl) m d ?_;intro _ g' E w9 nK f9;have no:∀j,j∈D.ownBlock.toList->D.ownBlock=some j:=λj a=>by simpa using a
       have H:=f9.row f λq=>own_ne m f (by decide) (no _ q);have bl:=f9.row r3 λq=>own_ne m r3 (by decide) (no _ q);have a9:=f9.owns A (λj a q=>by have q3:=(m.lt j (no j a)).1;have q4:=bb j q;omega);have Xb:=L.trans f9 (by intro j a;right;have q3:=(m.lt j (no j a)).1;omega);have bd:=G.Qo f9 m;have bz:=H.val 1 D;have b4:w9.frozen? ⟨z,1,none⟩=false:=H.thaw 1;have bf:U.heap.size<=w9.heap.size:=ac3 d f9.size;clear G m A r3 L d f AG Xn a0 a3 B J I qU cp f9 no;go_wp2_with fail;have fs:aG [z] w9 (w9.setCell ⟨z,1,none⟩ (.slice (some ⟨g',0,none⟩) (x.cK.length+1) E)):=aG.setCell [z] w9 ⟨z,1,none⟩ _ ϛ;have al:=fs.owns nK (λj a=>by obtain rfl:=ξ.1 a;exact own_ne nK H (by decide));have aL:bJ (x.cK++[p])=bJ x.cK++[.string (aj p)]:=by simp[bJ];rfl
       have a5:(x.cK++[p]).length=x.cK.length+1:=ϛ;replace al:Hid ((w9.setCell ⟨z,1,none⟩ (.slice (some ⟨g',0,none⟩) (x.cK.length+1) E)).ownsRow U.heap.size 9 1 (.slice (some ⟨g',0,none⟩) (x.cK.length+1) E) (x.cK++[p]).length (bJ (x.cK++[p]))):=by show World.ownsRow ..;rw[aL,a5];exact al
       clear aL a5
       go_roundw
       case rel=>exact⟨i+1,{x with cK:=x.cK++[p]},.slice (some ⟨g',0,none⟩) (x.cK.length+1) E,by go_num,ϖ,HZ.out.symm.trans HN.out.symm,bd.off fs N.1 H (by decide),λj a=>by have q1:=HB.out j a;show(x.t.set j).length<=_;omega,by show x.steps<=_;omega,by show(x.cK++[p]).length<=_;simp;omega,H.setCell 1 _,al.out,Xb.trans fs (by intro j a;right;simp at a;omega),fs.row bl (by simpa using N.2.1),fs.owns a9 λj a=>by obtain rfl:=ξ.1 a;exact own_ne a9 H (by decide),ac3 bf fs.size⟩
       case measure=>simp[intOf];omega
      all_goals
       go_upto_region 25 with fail
       have fs:aG [z] wc (wc.setCell ⟨z,0,none⟩ (.int .i64 ((x.steps:Int)+1))):=aG.setCell [z] wc ⟨z,0,none⟩ _ ϛ;have an:bN (wc.setCell ⟨z,0,none⟩ (.int .i64 ((x.steps:Int)+1))) b (x.t.bK p cq 0):=G.off fs N.1 f (by decide);have am:=fs.owns m (λj a=>by obtain rfl:=ξ.1 a;exact own_ne m f (by decide));have ac:=fs.owns A (λj a=>by obtain rfl:=ξ.1 a;exact own_ne A f (by decide));have OV:=fs.row r3 (by simpa using N.2.1);have Qn:=L.trans fs (by intro j a;right;simp at a;omega);have S:=ac3 d fs.size;have OU:Row (wc.setCell ⟨z,0,none⟩ (.int .i64 ((x.steps:Int)+1))) z #[.int .i64 ((x.steps+1:Nat):Int),D] 58:=by have q:=f.setCell 0 (.int .i64 ((x.steps:Int)+1));rw[show((x.steps+1:Nat):Int)=(x.steps:Int)+1 by omega];exact q
       generalize wc.setCell ⟨z,0,none⟩ (.int .i64 ((x.steps:Int)+1))=ws at an am ac OV Qn S OU⊢;clear fs G m A r3 L d f AG Xn a0 a3 B J I qU cp;go_wp2_with fail
       go_loopw [21] (λc wr=>∃k:Nat,c=.int .i64 k/\k<=3/\bN wr b (x.t.bK p cq k)/\Row wr z #[.int .i64 ((x.steps+1:Nat):Int),D] 58/\wr.ownsRow U.heap.size 9 1 D x.cK.length (bJ x.cK)/\aG [] w wr/\Row wr M cL.cells 58/\wr.ownsRow X.heap.size 9 1 (.slice (some ⟨gp,0,none⟩) ps.length Rq) ps.length (bJ ps)/\U.heap.size<=wr.heap.size) λc _=>3-(intOf c).toNat
       case atStart=>exact⟨0,rfl,ϖ,an,OU,am,Qn,OV,ac,S⟩
       clear an OU am Qn OV ac S
       case round=>
        obtain⟨k,rfl,bs,B,f,m,Z,r3,A,d⟩:=hrel;by_cases hk:k<3
        .have Q:k<=2:=ϖ;have My:(bj p (cq.getD []) cq.isSome false ((x.t.bK p cq k).set k)).length<=100:=by
          have q1:=kX p (cq.getD []) cq.isSome ((x.t.bK p cq k).set k) false;have q2:=RS.kg x.t p cq k k Q bs;have q3:=HB.out k Q;simp at q1;omega
         have Jw:Hid (x.t.bK p cq (k+1)=(x.t.bK p cq k).upd k (bj p (cq.getD []) cq.isSome false ((x.t.bK p cq k).set k))):=rfl;generalize x.t.bK p cq k=st at B My Jw
         go_upto_region 28 with fail
         refine pb 16 ?_;have F:aG [] wr wr.drew:=aG.drew ..;replace B:=B.new F;replace Z:=Z.trans F;replace f:=F.row f;replace r3:=F.row r3;replace m:=F.owns m;replace A:=F.owns A;replace d:=ac3 d F.size;generalize wr.drew=w2 at B Z f r3 m A d;clear F;have⟨v,Xj,hv,b5⟩:=B.cell k Q;have XA:Hid (∃v0 v1 v2 n,Row w2 b #[v0,v1,v2,n] 180):=by have⟨⟨v0,v1,v2,W,_⟩,_⟩:=B;exact⟨v0,v1,v2,_,W⟩
         refine pp 0 131 ?_;refine pp 1 132 ?_;refine pp 2 133 ?_;refine pp 3 134 ?_;refine pp 4 135 ?_;refine pp 5 136 ?_;refine pp 6 137 ?_;refine pp 8 139 ?_;refine pp 9 140 ?_;refine pp 10 141 ?_;refine pp 12 143 ?_;refine pp 13 144 ?_;refine pl 7 138 Xj ?_;simp only[puts];refine pc 11 142 (l9 0 v (st.set k) p (cq.getD []) cq.isSome w2 hv ϖ) ?_;rintro e X⟨u,rfl,hu,V⟩;refine⟨_,rfl,?_⟩;simp only[puts];replace B:=B.new V;replace hu:=hu.weak (ϕ6 _);replace Z:=Z.trans V;have⟨v3,Q8,_,_⟩:=B.cell k Q;have bo:=B.thaw k;clear hv Xj;refine pp 14 145 ?_;simp only[puts];have⟨tY,jv,bg⟩:=aY hu;subst bg;refine pst 15 ?_;refine pd ?_;simp only[puts];have Gi:=B.upd k Q hu My;have tO:=Z.trans (aG.setCell [b] X ⟨b,k,none⟩ (.slice tY (bj p (cq.getD []) cq.isSome false (st.set k)).length jv) ϛ) (by intro i hi;right;simp at hi;omega);have C:aG [b] w2 (X.setCell ⟨b,k,none⟩ (.slice tY (bj p (cq.getD []) cq.isSome false (st.set k)).length jv)):=(V.mono ϛ:aG [b] w2 X).trans (aG.setCell [b] X ⟨b,k,none⟩ _ ϛ) λi hi=>.inl hi;generalize X.setCell ⟨b,k,none⟩ (.slice tY (bj p (cq.getD []) cq.isSome false (st.set k)).length jv)=U at Gi tO C⊢;clear B Z hu Q8 bo;have⟨_,_,_,_,W⟩:=XA.out;replace m:=C.owns m (λj a=>by obtain rfl:=ξ.1 a;exact own_ne m W (by decide));replace A:=C.owns A (λj a=>by obtain rfl:=ξ.1 a;exact own_ne A W (by decide));replace f:=C.row f (by simp;omega);replace r3:=C.row r3 (by simp;omega);replace d:=ac3 d C.size;clear C W XA;go_wp2
         go_roundw
         case rel=>exact⟨k+1,by go_num,ϖ,by rw[Jw.out];exact Gi,f,m,tO,r3,A,d⟩
         case measure=>simp[intOf];omega
        .obtain rfl:k=3:=ϖ;have aq:=λj a=>RS.kg x.t p cq j 3 a ϖ
         replace aq:Hid (∀j,j<=2->((x.t.bK p cq 3).set j).length<=(x.t.set j).length+1):=aq;go_wp2
         go_roundw
         case rel=>exact⟨i+1,{x with t:=x.t.bK p cq 3,steps:=x.steps+1},D,by go_num,ϖ,HZ.out.symm.trans HN.out.symm,B,λj a=>by have q1:=HB.out j a;have q2:=aq.out j a;show((x.t.bK p cq 3).set j).length<=_;omega,by show x.steps+1<=_;omega,by show x.cK.length<=_;omega,f,m,Z,r3,A,d⟩
         case measure=>simp[intOf];omega
  .obtain rfl:i=ps.length:=ϖ;rw[ϓ2]at HX;have⟨V3,y,ba⟩:=aY m;subst ba;have be:w.heap.size<=U.heap.size:=ϖ;have bx:w.heap.size<=M:=l3
   go_upto_region 29 with fail
   refine pb 5 ?_;have F:aG [] wr wr.drew:=aG.drew ..;replace G:=G.new F;replace L:=L.trans F;replace f:=F.row f;replace r3:=F.row r3;replace m:=F.owns m;generalize wr.drew=w5 at G L f r3 m;refine pp 0 146 ?_;refine pp 2 2 ?_;simp only[puts];refine pv 1 147 rfl (E5 58 (.tmp 6) rfl z rfl _ _ f ϰ cY) ?_;simp only[puts];have aa:=lB (P:=prog) 58 M 0 #[.int .i64 x.steps,.slice V3 x.cK.length y] 2 cY rfl (by simp[Value.oneCell']) _ _ r3 (by decide);have f6:aG [M] w5 (w5.setRow M (over cL.cells 0 [.int .i64 x.steps,.slice V3 x.cK.length y])):=aG.setRow ..;have a1:Row (w5.setRow M (over cL.cells 0 [.int .i64 x.steps,.slice V3 x.cK.length y])) M #[.int .i64 x.steps,.slice V3 x.cK.length y] 58:=r3.setRow _;have a8:=G.off f6 (by intro q;have q2:=N.2.2.1;subst q;have⟨⟨_,_,_,W,_⟩,_⟩:=G;have q:_=_:=W.symm.trans r3;simp at q) r3 (by decide);have av:=f6.owns m (λj a=>by obtain rfl:=ξ.1 a;exact own_ne m r3 (by decide));have sb:=L.trans f6 (by intro j a;right;simp at a;omega);refine pst 3 (hr:=C6 58 (.tmp 3) (.tmp 147) rfl M rfl _ rfl aa) ?_;generalize w5.setRow M (over cL.cells 0 [.int .i64 x.steps,.slice V3 x.cK.length y])=w6 at a1 a8 av sb;clear aa f6 G L f r3 m;refine pp 4 4 ?_;refine pd ?_;simp only[puts];go_wp2_with fail;refine⟨rfl,.tuple #[.pointer (some ⟨b,0,none⟩),.agg #[.int .i64 x.steps,.slice V3 x.cK.length y],.int .i64 0],?_,?_⟩;exact uC (tp:=3) (tq:=4) (tr:=2) (ty:=58) rfl _ _ M _ _ rfl a1 ϰ cY;have K:s.sync=x:=by rw[HS.out,<-HX.out]
   rw[K];exact⟨b,.slice V3 x.cK.length y,rfl,a8,av.weak be,sb⟩
def wh(c:Int)(n:Nat)(w:Φ)(h0:-9223372036854775808<=c)(h1:c<=9223372036854775807)(h:0<n)(g:n<=1000000000):
  Calls prog 60 #[.int .i64 c,.int .i64 n] w λe w'=>e=.returned (.int .i64 (ja c n))/\w'=w:=by
 have a:Hid (((ja c n:Nat):Int)=(if c<0 then -(c+1)else c)%(n:Int)):=In c n h;have f:((n:Int)==0)=false:=by rw[ae9];omega
 have b:(n:Int)≠0:=ϖ;go_enter func60,ntmps60;by_cases d:c<0
 .have HQ:Hid (((ja c n:Nat):Int)=-((c+1).tmod (n:Int))):=by
   show _=_;rw[a.out,κ d,<-Int.neg_tmod,Int.tmod_eq_emod_of_nonneg ϖ]
  go_wp2;go_ret;exact⟨by rw[HQ.out];rfl,rfl⟩
 .have HQ:Hid (((ja c n:Nat):Int)=c%(n:Int)):=by
   show _=_;rw[a.out,Γ d]
  go_wp2;go_ret;exact⟨by rw[HQ.out];rfl,rfl⟩
def Mk(w:Φ)(m:Ξ)(v:Θ):Prop:=∃n:Nat,n<=400/\w.ownsRow 0 9 1 v n (replicate n (.string m))
def Mk.ky(h:Mk w m v)(f:aG S w w')(d:∀i∈S,v.ownBlock≠some i):Mk w' m v:=by
 have⟨n,a,b⟩:=h;exact⟨n,a,f.owns b λi c=>d i c⟩
def pB(w:Φ)(m:Ξ)(v:Θ)(h:Mk w m v):Calls prog 70 #[v,.string m] w λe w'=>e=.returned (.bool true)/\w'=w:=by
 have⟨n,l,f⟩:=h;have⟨ad,cap,hv⟩:=aY f;subst hv;go_enter func70,ntmps70;go_wp2_with fail
 go_loopw [5] (λc wr=>∃i:Nat,c=.int .i64 i/\i<=n/\wr=w) λc _=>n-(intOf c).toNat
 case atStart=>exact⟨0,rfl,ϖ,rfl⟩
 case round=>
  obtain⟨i,rfl,o,rfl⟩:=hrel;by_cases b:i<n
  .obtain⟨g,d,rfl,hg,k,_,j,a⟩:=cO f;have p:wr.cell? ⟨g,i,none⟩=some (.string m):=by
    rw[hg.cell];have e1:(d.toList.take (n*1))[i]?=(replicate n (Value.string m))[i]?:=by rw[a]
    rw[ai9,κ ϖ,List.getElem?_replicate,κ b]at e1;simpa using e1
   go_wp2
   go_roundw
   case rel=>exact⟨i+1,by go_num,ϖ,trivial⟩
   case measure=>simp[intOf];omega
  .obtain rfl:i=n:=ϖ
   go_wp2;go_ret;exact⟨rfl,rfl⟩
def n9(w:Φ)(b0 b1:Nat)(v u:Θ)(xs ys:List (List η))(hv:w.ownsRow b0 9 1 v xs.length (bJ xs))(D:w.ownsRow b1 9 1 u ys.length (bJ ys))(L:xs.length<=400)(J:ys.length<=400):
  Calls prog 66 #[v,u] w λe w'=>e=.returned (.bool (decide (xs=ys)))/\aG [] w w':=by
 have⟨ad,cap,r⟩:=aY hv;subst r;have⟨H,I,t⟩:=aY D;subst t;go_enter func66,ntmps66;by_cases o:xs.length=ys.length
 .have B:Hid (xs.length=ys.length):=o;have x:((xs.length:Int)==ys.length)=true:=by rw[ai5];omega
  clear o;go_wp2_with fail
  go_loopw [5] (λc wr=>∃i:Nat,c=.int .i64 i/\i<=xs.length/\aG [] w wr/\Hid (∀j,j<i->xs[j]?=ys[j]?)) λc _=>xs.length-(intOf c).toNat
  case atStart=>exact⟨0,rfl,ϖ,aG.refl ..,λj y=>ϖ⟩
  case round=>
   obtain⟨i,rfl,K,f,C⟩:=hrel;by_cases m:i<xs.length
   .have b:i<ys.length:=by have:=B.out;omega
    obtain⟨g,rfl,d⟩:=Dl (f.owns hv) rfl i m;obtain⟨A,rfl,a⟩:=Dl (f.owns D) rfl i b;have h:Hid (xs[i]?=some xs[i]/\ys[i]?=some ys[i]):=⟨al3 m,al3 b⟩
    generalize F:xs[i]=p at*;generalize E:ys[i]=q at*;clear F E;by_cases k:p=q
    .have s:Hid (xs[i]?=ys[i]?):=by show _=_;rw[h.out.1,h.out.2,k]
     have hd:((aj p).toList==(aj q).toList)=true:=by rw[k];simp
     clear k h
     go_upto_region 6 with fail
     refine pb 9 ?_;have l:aG [] w wr.drew:=f.trans (aG.drew _ _:aG [] wr wr.drew);replace d:wr.drew.cell? ⟨g,i,none⟩=some (.string (aj p)):=d;replace a:wr.drew.cell? ⟨A,i,none⟩=some (.string (aj q)):=a;generalize wr.drew=w2 at d a l;refine pp 0 17 ?_;refine pp 1 18 ?_;refine pp 2 19 ?_;refine pl 3 20 d ?_;refine pp 4 21 ?_;refine pp 5 22 ?_;refine pp 6 23 ?_;refine pl 7 24 a ?_;refine pp 8 25 ?_;simp only[puts];refine pd ?_;go_wp2
     go_roundw
     case rel=>exact⟨i+1,by go_num,ϖ,l,λj y=>by by_cases z:j=i;subst z;exact s.out;exact C.out j ϖ⟩
     case measure=>simp[intOf];omega
    .have hd:((aj p).toList==(aj q).toList)=false:=by rw[ew,ew,ae9];exact k
     have n:Hid (decide (xs=ys)=false):=decide_eq_false (λe=>by have q1:=h.out.1;have G:=h.out.2;rw[e,G]at q1;injection q1 with q1;exact k q1.symm)
     clear k h
     go_upto_region 6 with fail
     refine pb 9 ?_;have l:aG [] w wr.drew:=f.trans (aG.drew _ _:aG [] wr wr.drew);replace d:wr.drew.cell? ⟨g,i,none⟩=some (.string (aj p)):=d;replace a:wr.drew.cell? ⟨A,i,none⟩=some (.string (aj q)):=a;generalize wr.drew=w2 at d a l;refine pp 0 17 ?_;refine pp 1 18 ?_;refine pp 2 19 ?_;refine pl 3 20 d ?_;refine pp 4 21 ?_;refine pp 5 22 ?_;refine pp 6 23 ?_;refine pl 7 24 a ?_;refine pp 8 25 ?_;simp only[puts];refine pd ?_;go_wp2;go_ret;rw[n.out];exact⟨rfl,l⟩
   .obtain rfl:i=xs.length:=ϖ;have n:Hid (decide (xs=ys)=true):=decide_eq_true (an2 λj=>by
     by_cases y:j<xs.length;exact C.out j y;rw[ai7 ϖ,ai7 (by have:=B.out;omega)])
    go_wp2;go_ret;rw[n.out];exact⟨rfl,f⟩
 .have x:((xs.length:Int)==ys.length)=false:=by rw[ae9];omega
  have n:Hid (decide (xs=ys)=false):=decide_eq_false λe=>o (by rw[e]);clear o;go_wp2;go_ret;rw[n.out];exact⟨rfl,aG.refl ..⟩
def xK(w:Φ)(t ty:θ)(base:Nat)(e:θ)(size p:Nat)(E:Elem P t e size p)(v:Θ)(n:Nat)(xs:ϝ)(a:w.ownsRow base e size v n xs)(ad:Addr)(m c:Nat)(b:ϝ)(B:b.length=m*size)(d:∀j u,b[j]?=some u->w.cell? (ad.add j)=some u)(h1:∀u∈b,u.oneCell'=true)(hm:0<m)(s:n+m<=1048576)(r:p<=1048576)(x:base<=w.heap.size):
  ∃g cap w',(Builtin.append_ #[t,t] ty #[v,.slice (some ad) m c]).run P w=.ok (.slice (some ⟨g,0,none⟩) (n+m) cap) w'/\
   w'.ownsRow base e size (.slice (some ⟨g,0,none⟩) (n+m) cap) (n+m) (xs++b)/\w'.ownsRow base e size v n xs/\aG v.ownBlock.toList w w'/\(v.ownBlock=some g\/(w.heap.size<=g/\aG [] w w')):=by
 have⟨i,z,C,G,H,L,I⟩:=E.open;have D:=E.slice;subst H;subst L;have y:n+m<=maxLen:=by simp[maxLen];omega
 have A:(n+m)*i.bytes<=140737488355328:=ac3 (Nat.mul_le_mul s r) (by decide);have⟨g,cap,w',hr,h2,J,F,M⟩:=run_append_lies (P:=P) w t ty base e i z i.size i.bytes D C G rfl rfl I E.pos v n xs a ad m c b B d h1 hm y A x w.heap.size rfl;refine⟨g,cap,w',hr,h2,?_,aG.grown J,?_⟩;obtain⟨rfl,rfl⟩|⟨g0,cap0,cur,rfl,hb0,hg0,hnc,hcm,hcs,htk⟩:=a.2;exact⟨a.1,.inl ⟨rfl,rfl⟩⟩;by_cases o:n+m<=cap0;have⟨w2,h,o2,_⟩:=run_append_fits (P:=P) w base t ty e i i.size D C rfl g0 n cap0 xs a ad m c b B d h1 o;rw[hr]at h;injection h with e1 e2;subst e2;obtain⟨q,_⟩|⟨g3,acE,ah5,q,hb3,hg3,alv,alF,agL,aaY⟩:=o2.2;cases q;injection q with q1 q2 q3;injection q1 with q1;injection q1 with q1;subst q1;subst q3;refine⟨a.1,.inr ⟨g0,cap0,ah5,rfl,hb3,hg3,ϖ,alF,agL,?_⟩⟩;have K:=congrArg (List.take (n*i.size)) aaY;rw[ϕ7,ϒ1 (Nat.mul_le_mul_right _ ϖ),ϵ (by rw[a.1];omega),ν (l:=xs) (by rw[a.1];omega)]at K;exact K;have holds:∀j u,xs[j]?=some u->w.cell? ((⟨g0,0,none⟩:Addr).add j)=some u:=a.cells (g:=g0) rfl;have h:=run_append_grow (P:=P) w t ty e i z D C G ⟨g0,0,none⟩ n cap0 xs a.1 holds ad m c b B d ϖ (by simp[maxLen]at y;omega) (growslice_fits ϖ A);rw[hr]at h;injection h with e1 e2;have f:aG [] w w':=by rw[e2];exact aG.grown (row:=none) ⟨rfl,rfl,rfl,ϛ,λk hk _=>heap_alloc_old w.drew _ hk⟩
 exact f.owns a;obtain⟨rfl,rfl⟩|⟨g0,cap0,cur,rfl,hb0,hg0,hnc,hcm,hcs,htk⟩:=a.2;obtain F|F:=F;simp[Value.ownBlock]at F;exact .inr ⟨ϖ,aG.grown J⟩;by_cases o:n+m<=cap0;have⟨w2,h,o2,_⟩:=run_append_fits (P:=P) w base t ty e i i.size D C rfl g0 n cap0 xs a ad m c b B d h1 o;rw[hr]at h;injection h with e1 e2;injection e1 with e1;injection e1 with e1;injection e1 with e1;exact .inl (by rw[e1];rfl);have holds:∀j u,xs[j]?=some u->w.cell? ((⟨g0,0,none⟩:Addr).add j)=some u:=a.cells (g:=g0) rfl;have h:=run_append_grow (P:=P) w t ty e i z D C G ⟨g0,0,none⟩ n cap0 xs a.1 holds ad m c b B d ϖ (by simp[maxLen]at y;omega) (growslice_fits ϖ A);rw[hr]at h;injection h with e1 e2;injection e1 with e1;injection e1 with e1;injection e1 with e1;refine .inr ⟨ϖ,?_⟩;rw[e2];exact aG.grown (row:=none) ⟨rfl,rfl,rfl,ϛ,λk hk _=>heap_alloc_old w.drew _ hk⟩
def mn(hg:o.guard=none)(t e:θ)(size f:Nat)(E:Elem P t e size f)(s x:ac4)(D:o.op=.call {callee:=.builtin .append,args:=#[s,x],argTypes:=#[t,t]})(base:Nat)(v:Θ)(n:Nat)(xs:ϝ)(hs:a.eval s=v)(p:w.ownsRow base e size v n xs)(b m c:Nat)(d:ϝ)(F:a.eval x=.slice (some ⟨b,0,none⟩) m c)(r:ϐ)(u:θ)(hr:Row w b r u)(z:r.toList.take (m*size)=d)(A:d.length=m*size)(h1:∀v∈d,v.oneCell'=true)(hm:0<m)(k:n+m<=1048576)(i:f<=1048576)(l:base<=w.heap.size)(h:∀g cap w',w'.ownsRow base e size (.slice (some ⟨g,0,none⟩) (n+m) cap) (n+m) (xs++d)->w'.ownsRow base e size v n xs->aG v.ownBlock.toList w w'->(v.ownBlock=some g\/(w.heap.size<=g/\aG [] w w'))->wpList P ops Q rest (a.put o.dst (.slice (some ⟨g,0,none⟩) (n+m) cap)) w'):wpList P ops Q (o::rest) a w:=by
 have⟨g,cap,w',q,B,o2,o3,o4⟩:=xK (P:=P) w t o.type base e size f E v n xs p ⟨b,0,none⟩ m c d A (λj u y=>by rw[Addr.add_mid,hr.cell];subst z;rw[ai9]at y;split at y;simpa using y;cases y) h1 hm k i l
 refine wpList_plain hg λK C=>?_
 unfold Oper.wp execOp;simp only[D,resolve,invoke,builtin,run_bind,Sem.run_pure,Result.andThen_ok,ϐ8,ϴ,ϓ7,hs,F,q];exact C _ _ (h g cap w' B o2 o3 o4)
def ahG(c:ϐ)(d:c.size=2)(v u:Θ)(hv:v.cells=#[v])(e:u.cells=#[u]):Instr.fill (λj=>some (j*1,1)) c [(0,v),(1,u)]=some #[v,u]:=by
 have⟨l⟩:=c
 match l,d with
 |[a,b],_=>simp[Instr.fill,hv,e]
def ahF(c:ϐ)(e:c.size=3)(v:Θ)(hv:v.cells=#[v]):Instr.fill (λj=>some (j*1,1)) c [(0,v),(1,v),(2,v)]=some #[v,v,v]:=by
 have⟨l⟩:=c
 match l,e with
 |[a,b,d],_=>simp[Instr.fill,hv]
def Ci(t e:θ)(x y:ac4)(a:Nat)(h:o.op=.buildSlice t 2 #[(0,x),(1,y)])(E:Elem P t e 1 a)(v u:Θ)(j:ρ x=v)(c:ρ y=u)(hv:v.cells=#[v])(g:u.cells=#[u]):
  (execOp ρ o).run P w=.ok (.value (.slice (some ⟨w.heap.size,0,none⟩) 2 2)) (w.alloc (.cells #[v,u] e)):=by
 have⟨i,z,d,b,hs,_,f⟩:=E.open;have hf:=ahG ((Array.range 2).map (z.cells[·%z.cells.size]!)) ϛ v u hv g;simp[execOp,h,j,c,Instr.buildSlice,run_underlying E.slice,sizeOf,typeInfo,d,hs,zeroValue,b,newRow];simp only[Nat.mul_one]at hf;rw[hf];simp
def MM(t e:θ)(x y u:ac4)(g:o.op=.buildSlice t 3 #[(0,x),(1,y),(2,u)])(E:Elem P t e 1 16)(v:Θ)(h:ρ x=v)(b:ρ y=v)(f:ρ u=v)(hv:v.cells=#[v]):
  (execOp ρ o).run P w=.ok (.value (.slice (some ⟨w.heap.size,0,none⟩) 3 3)) (w.alloc (.cells #[v,v,v] e)):=by
 have⟨i,z,c,a,hs,_,d⟩:=E.open;have hf:=ahF ((Array.range 3).map (z.cells[·%z.cells.size]!)) ϛ v hv;simp[execOp,g,h,b,f,Instr.buildSlice,run_underlying E.slice,sizeOf,typeInfo,c,hs,zeroValue,a,newRow];simp only[Nat.mul_one]at hf;rw[hf];simp
structure App (w w':Φ)(m:Ξ)(v:Θ)(n:Nat)(h:Θ)(k:Nat):Prop where
 new:w'.ownsRow 0 9 1 h (n+k) (List.replicate (n+k) (.string m))
 old:w'.ownsRow 0 9 1 v n (List.replicate n (.string m))
 ky:aG v.ownBlock.toList w w'
 lies:v.ownBlock=h.ownBlock\/aG [] w w'
def App.keeps{h u:Θ}{a:Nat}(A:App w w' m v n h k)(hv:w.ownsRow 0 9 1 v n (replicate n (.string m)))(b:w.ownsRow 0 9 1 u a (replicate a (.string m)))(j:a<=n+k):
  w'.ownsRow 0 9 1 u a (replicate a (.string m)):=by
 obtain e|f:=A.lies;by_cases d:u.ownBlock=v.ownBlock;obtain⟨rfl,rfl⟩|⟨g,cap,cur,rfl,hb0,hg,hnc,hcm,hcs,htk⟩:=b.2;exact⟨b.1,.inl ⟨rfl,rfl⟩⟩;have e1:v.ownBlock=some g:=by rw[<-d];rfl
 have e2:h.ownBlock=some g:=by rw[<-e];exact e1
 obtain⟨rfl,_⟩|⟨g1,VI,aqh,rfl,_,hg1,aps,_,hcs1,_⟩:=hv.2;cases e1;obtain rfl:g1=g:=by simpa[Value.ownBlock] using e1
 rw[hg]at hg1;injection hg1 with hg1;injection hg1 with hg1;subst hg1;obtain⟨q,_⟩|⟨g2,cap2,Vv,q,_,hg2,apr,_,hcs2,_⟩:=A.old.2;cases q;injection q with q1 q2 q3;injection q1 with q1;injection q1 with q1;subst q1;subst q3;obtain⟨q,_⟩|⟨g3,acE,ah5,q,_,hg3,alv,_,agL,aaY⟩:=A.new.2;rw[q]at e2;cases e2;rw[q]at e2;obtain rfl:g3=g1:=by simpa[Value.ownBlock] using e2
 rw[hg2]at hg3;injection hg3 with hg3;injection hg3 with hg3;subst hg3;refine⟨ϛ,.inr ⟨g3,cap,Vv,rfl,ϕ6 _,hg2,hnc,hcm,ϖ,?_⟩⟩;have c:=congrArg (List.take (a*1)) aaY;rw[ϕ7,ϒ1 ϖ,List.take_replicate,ϒ1 ϖ]at c;simpa using c;exact A.ky.owns b λi l q=>d (q.trans (by simpa using l:v.ownBlock=some i).symm);exact f.owns b
def NQ:Θ:=.agg #[.slice none 0 0,.slice none 0 0,.slice none 0 0,.slice none 0 0,.string ByteArray.empty]
def yv:(prog.info? 122).map (·.zero)=some (some NQ):=ϰ
def pG:(prog.info? 122).map (·.size)=some 5:=ϰ
def TF{base:Nat}{i:Nat}(h:w.ownsRow base e 1 v n xs)(hg:v.ownBlock=some g)(a:i<n)(u:Θ):(w.setCell ⟨g,i,none⟩ u).ownsRow base e 1 v n (xs.set i u):=by
 obtain⟨rfl,_⟩|⟨g0,cap,cur,rfl,hb,hr,hnc,hcm,hcs,htk⟩:=h.2;cases hg;obtain rfl:g0=g:=by simpa[Value.ownBlock] using hg
 refine⟨by rw[List.length_set];exact h.1,.inr ⟨g0,cap,cur.setIfInBounds i u,rfl,hb,Row.setCell hr i u,hnc,hcm,by simpa using hcs,?_⟩⟩;rw[<-htk,Array.toList_setIfInBounds,List.take_set]
def To(i:Nat)(x:Θ)(l:ϝ)(h:i<l.length):(replicate i x++l.drop i).set i x=replicate (i+1) x++l.drop (i+1):=by
 have:=ac7 h;rw[List.set_append,Γ ϛ];simp only[ak6,Nat.sub_self];rw[this,List.set_cons_zero,List.replicate_succ'];simp
def Dc(n k:Nat)(x:Θ):replicate n x++replicate k x=replicate (n+k) x:=List.replicate_append_replicate ..
def Da{fn:Func}{tp:Tmp}(hf:fn.results=#[.cell tp ty])(a:ϐ)(w:Φ)(b:Nat)(c:ϐ)(u:θ)(i:a.getD tp ϗ=.pointer (some ⟨b,0,none⟩))(hr:Row w b c u)(k:(prog.underlying ty).map (λd=>match d with|.struct _|.array _ _=>true|_=>false)=some true)(j:(prog.info? ty).map (·.size)=some c.size):(results fn a).run prog w=.ok (.agg c) w:=by
 have⟨d,e,f⟩:=ψ.1 k;have g:a[tp]?.getD ϗ=.pointer (some ⟨b,0,none⟩):=by simpa using i
 have h:=run_loadVar_row w b u ty c (0,0) d hr e (by revert f e;cases d<;>intro x y<;>first|rfl|cases y) j;simp[results,hf,g,asAddr,h]
def oR(base:Nat)(v:Θ)(xs:List (List η))(n:Nat)(w:Φ)(hv:w.ownsRow base 9 1 v xs.length (bJ xs))(Z:xs.length<=300)(hn:n<=1000000000):
  Calls prog 67 #[v,.int .i64 n] w λe w'=>∃g h i m,e=.returned (.agg #[v,g,h,i,.string m])/\Mk w' m v/\Mk w' m g/\Mk w' m h/\Mk w' m i/\aG v.ownBlock.toList w w':=by
 have⟨ad,cap,N⟩:=aY hv;subst N;go_enter func67,ntmps67;go_wp2_with (with_reducible refine au rfl ?_);refine br rfl 122 rfl _ yv ?_;intro w1 t Q f1 r4;go_wp2_with (with_reducible refine aQ rfl ?_);have E0:(n:Int)%256=((UInt8.ofNat n).toNat:Int):=ϛ;have Y:(n:Int)/256%256=((UInt8.ofNat (n/256)).toNat:Int):=ϛ;refine bX rfl _ _ (Ci 85 5 _ _ 1 rfl Ck (.int .u8 ((UInt8.ofNat n).toNat:Int)) (.int .u8 ((UInt8.ofNat (n/256)).toNat:Int)) (by show Value.int .u8 ((n:Int)%256)=_;rw[E0]) (by show Value.int .u8 ((n:Int)/256%256)=_;rw[Y]) rfl rfl) ?_;have f2:aG [] w1 (w1.alloc (.cells #[.int .u8 ((UInt8.ofNat n).toNat:Int),.int .u8 ((UInt8.ofNat (n/256)).toNat:Int)] 5)):=aG.alloc ..;have r2:Row (w1.alloc (.cells #[.int .u8 ((UInt8.ofNat n).toNat:Int),.int .u8 ((UInt8.ofNat (n/256)).toNat:Int)] 5)) w1.heap.size #[.int .u8 ((UInt8.ofNat n).toNat:Int),.int .u8 ((UInt8.ofNat (n/256)).toNat:Int)] 5:=Row.new ..;generalize (w1.alloc (.cells #[.int .u8 ((UInt8.ofNat n).toNat:Int),.int .u8 ((UInt8.ofNat (n/256)).toNat:Int)] 5))=w2 at f2 r2;generalize w1.heap.size=b2 at r2;clear E0 Y;go_wp2_with (with_reducible refine gP rfl ?_);refine bX rfl (.string (aj [UInt8.ofNat n,UInt8.ofNat (n/256)])) w2 (qY 85 9 5 _ rfl underlying85 underlying5 underlying9 b2 2 2 rfl _ rfl λj a=>by rw[r2.cell];rcases(by simp at a;omega:j=0\/j=1)with rfl|rfl<;>rfl) ?_
 replace r4:=f2.row r4;have an:w.heap.size<=t:=Q;have f0:=f1.trans f2;have G:∀k,(Value.slice ad xs.length cap).ownBlock=some k->k<w.heap.size:=λk hk=>(hv.lt k hk).2
 replace hv:=f0.owns hv;clear f1 f2 Q r2;go_wp2_with fail;generalize ({data:=#[109,97,114,107]}++aj [UInt8.ofNat n,UInt8.ofNat (n/256)]:Ξ)=m
 go_loopw [6] (λc wr=>∃i:Nat,c=.int .i64 i/\i<=xs.length/\aG (Value.slice ad xs.length cap).ownBlock.toList w wr/\Row wr t NQ.cells 122/\wr.ownsRow base 9 1 (.slice ad xs.length cap) xs.length (replicate i (.string m)++(bJ xs).drop i)) λc _=>xs.length-(intOf c).toNat
 case atStart=>exact⟨0,rfl,ϖ,f0.mono,r4,by simpa using hv⟩
 clear hv r4 f0
 case round=>
  obtain⟨i,rfl,hi,f,r4,z⟩:=hrel;by_cases B:i<xs.length
  .obtain⟨g,M,rfl,hg,am,_,al,ac⟩:=cO z;have ag:=G g rfl;have U:∃u,wr.cell? ⟨g,i,none⟩=some u:=by
    rw[hg.cell];exact⟨M[i]'ϖ,τ ϖ⟩
   have⟨u,U⟩:=U;have hz:=hg.thaw i;have P:=TF z rfl B (.string m);have HE:Hid ((replicate i (Value.string m)++(bJ xs).drop i).set i (.string m)=replicate (i+1) (.string m)++(bJ xs).drop (i+1)):=by exact To i (.string m) (bJ xs) (by simpa[bJ] using B)
   go_wp2
   go_roundw
   case rel=>exact⟨i+1,by go_num,ϖ,f.trans (aG.setCell [g] wr ⟨g,i,none⟩ (.string m) ϛ) (by intro j a;left;simpa[Value.ownBlock] using a),(aG.setCell [g] wr ⟨g,i,none⟩ (.string m) ϛ).row r4 (by simp;omega),by rw[<-HE.out];exact P⟩
   case measure=>simp[intOf];omega
  .obtain rfl:i=xs.length:=ϖ;rw[List.drop_eq_nil_of_le (by simp[bJ]),List.append_nil]at z;replace z:wr.ownsRow 0 9 1 (.slice ad xs.length cap) xs.length (replicate xs.length (.string m)):=z.weak (ϕ6 _);have aa:xs.length<=300:=Z;go_wp2_with (with_reducible refine aQ rfl ?_);refine dj rfl 45 9 1 16 cJ _ rfl (.string m) rfl rfl ?_;intro w8 b8 l8 E S;have W:=E.owns z;replace f:=f.trans E;replace r4:=E.row r4;clear z E l8;go_wp2_with (with_reducible refine aM rfl ?_);refine mn rfl 45 9 1 16 cJ _ _ rfl 0 (.slice ad xs.length cap) _ _ rfl W b8 1 1 [.string m] rfl _ _ S rfl rfl (by simp[Value.oneCell']) ϖ ϖ ϖ ϖ ?_;intro F c1 x X L l q1;have V:App w8 x m (.slice ad xs.length cap) xs.length (.slice (some ⟨F,0,none⟩) (xs.length+1) c1) 1:=⟨by rw[<-Dc];exact X,L,l,q1.imp id And.right⟩
   replace f:=f.trans l (by intro j a;left;exact a);replace r4:=l.row r4 (by intro a;have:=G t (by simpa using a);omega);have p:=V.new;have b:=L;clear X L l q1 V W S;go_wp2_with (with_reducible first|refine aQ rfl ?_|refine aM rfl ?_);refine bX rfl _ _ (Ci 45 9 _ _ 16 rfl cJ (.string m) (.string m) rfl rfl rfl rfl) ?_;have d:aG [] x (x.alloc (.cells #[.string m,.string m] 9)):=aG.alloc ..;have r:Row (x.alloc (.cells #[.string m,.string m] 9)) x.heap.size #[.string m,.string m] 9:=Row.new ..;generalize x.alloc (.cells #[.string m,.string m] 9)=wa at d r;generalize x.heap.size=ba at r;replace b:=d.owns b;replace p:=d.owns p;replace f:=f.trans d;replace r4:=d.row r4;clear d;go_wp2_with (with_reducible refine aM rfl ?_);refine mn rfl 45 9 1 16 cJ _ _ rfl 0 (.slice ad xs.length cap) _ _ rfl b ba 2 2 [.string m,.string m] rfl _ _ r rfl rfl (by simp[Value.oneCell']) ϖ ϖ ϖ ϖ ?_;intro C c2 y o2 k2 l R;have K:App wa y m (.slice ad xs.length cap) xs.length (.slice (some ⟨C,0,none⟩) (xs.length+2) c2) 2:=⟨by rw[<-Dc];exact o2,k2,l,R.imp id And.right⟩
   replace p:=K.keeps b p ϖ;replace f:=f.trans l (by intro j a;left;exact a);replace r4:=l.row r4 (by intro a;have:=G t (by simpa using a);omega);have s:=K.new;replace b:=k2;clear o2 k2 l R K r;go_wp2_with (with_reducible first|refine aQ rfl ?_|refine aM rfl ?_);refine bX rfl _ _ (MM 45 9 _ _ _ rfl cJ (.string m) rfl rfl rfl rfl) ?_;have d:aG [] y (y.alloc (.cells #[.string m,.string m,.string m] 9)):=aG.alloc ..;have r:Row (y.alloc (.cells #[.string m,.string m,.string m] 9)) y.heap.size #[.string m,.string m,.string m] 9:=Row.new ..;generalize y.alloc (.cells #[.string m,.string m,.string m] 9)=wc at d r;generalize y.heap.size=bc at r;replace b:=d.owns b;replace p:=d.owns p;replace s:=d.owns s;replace f:=f.trans d;replace r4:=d.row r4;clear d;go_wp2_with (with_reducible refine aM rfl ?_);refine mn rfl 45 9 1 16 cJ _ _ rfl 0 (.slice ad xs.length cap) _ _ rfl b bc 3 3 [.string m,.string m,.string m] rfl _ _ r rfl rfl (by simp[Value.oneCell']) ϖ ϖ ϖ ϖ ?_;intro J I O o3 k3 l T;have D:App wc O m (.slice ad xs.length cap) xs.length (.slice (some ⟨J,0,none⟩) (xs.length+3) I) 3:=⟨by rw[<-Dc];exact o3,k3,l,T.imp id And.right⟩
   replace p:=D.keeps b p ϖ;replace s:=D.keeps b s ϖ;replace f:=f.trans l (by intro j a;left;exact a);replace r4:=l.row r4 (by intro a;have:=G t (by simpa using a);omega);have H:=D.new;replace b:=k3;clear o3 k3 l T D r;go_wp2_with (with_reducible refine bC 122 rfl ?_);refine bX rfl (.agg #[.slice ad xs.length cap,.slice (some ⟨F,0,none⟩) (xs.length+1) c1,.slice (some ⟨C,0,none⟩) (xs.length+2) c2,.slice (some ⟨J,0,none⟩) (xs.length+3) I,.string m]) O ϰ ?_;go_wp2_with (with_reducible refine ah 122 rfl ?_);refine gj rfl 122 _ _ rfl t rfl #[.slice ad xs.length cap,.slice (some ⟨F,0,none⟩) (xs.length+1) c1,.slice (some ⟨C,0,none⟩) (xs.length+2) c2,.slice (some ⟨J,0,none⟩) (xs.length+3) I,.string m] rfl pG (by simp[Value.oneCell']) _ _ r4 rfl ?_;intro we A re;have q:∀{k:Nat}{u:Θ}{ys:ϝ},O.ownsRow 0 9 1 u k ys->∀j∈[t],u.ownBlock≠some j:=λo j a=>by obtain rfl:=ξ.1 a;exact own_ne o r4 (by decide)
   replace b:=A.owns b (q b);replace p:=A.owns p (q p);replace s:=A.owns s (q s);replace H:=A.owns H (q H);replace f:=f.trans A (by intro j a;right;simp at a;omega);clear q r4 A;go_wp2_with fail;refine⟨rfl,.agg #[.slice ad xs.length cap,.slice (some ⟨F,0,none⟩) (xs.length+1) c1,.slice (some ⟨C,0,none⟩) (xs.length+2) c2,.slice (some ⟨J,0,none⟩) (xs.length+3) I,.string m],?_,?_⟩;exact Da (tp:=4) (ty:=122) rfl _ _ t _ _ rfl re ϰ pG;exact⟨_,_,_,m,rfl,⟨_,ϖ,b⟩,⟨_,ϖ,p⟩,⟨_,ϖ,s⟩,⟨_,ϖ,H⟩,f⟩
def il(w:Φ)(t:ϝ):Prop:=∃l g h i m,t=[l,g,h,i,.string m]/\Mk w m l/\Mk w m g/\Mk w m h/\Mk w m i
def Mk.one(h:Mk w m v):v.oneCell'=true:=by
 have⟨n,_,o⟩:=h;obtain⟨ad,cap,rfl⟩:=aY o;rfl
structure rK (w:Φ)(av:Θ)(ts:List (List Θ)):Prop where
 row:w.ownsRow 1 122 5 av ts.length ts.flatten
 ok:∀t∈ts,il w t
def il.ky{w w':Φ}{t:ϝ}{S:ϓ}(h:il w t)(f:aG S w w')(b:∀i∈S,∀{m v},Mk w m v->v.ownBlock≠some i):il w' t:=by
 have⟨l,g,k,i,m,e,h1,h2,d,c⟩:=h;exact⟨l,g,k,i,m,e,h1.ky f λi a=>b i a h1,h2.ky f λi a=>b i a h2,d.ky f λi a=>b i a d,c.ky f λi a=>b i a c⟩
def rK.new{w w':Φ}{av:Θ}{ts:List (List Θ)}(h:rK w av ts)(f:aG [] w w'):rK w' av ts:=⟨f.owns h.row,λt a=>(h.ok t a).ky f ϛ⟩
def rK.off(h:rK w av ts)(f:aG S w w')(k:∀i∈S,w.heap.size<=i\/∃c t,Row w i c t/\t≠122/\t≠9):rK w' av ts:=by
 have ne:∀{b:Nat}{e:θ}{size n:Nat}{v:Θ}{xs:ϝ},w.ownsRow b e size v n xs->(e=122\/e=9)->∀i∈S,v.ownBlock≠some i:=λo d i a q=>by obtain g|⟨c,t,r,h1,h2⟩:=k i a;have:=(o.lt i q).2;omega;exact own_ne o r (by obtain rfl|rfl:=d<;>assumption) q
 exact⟨f.owns h.row (ne h.row (.inl rfl)),λt j=>(h.ok t j).ky f λi a _ _ hm=>by have⟨n,_,o⟩:=hm;exact ne o (.inr rfl) i a⟩
def flat5(ts:List (List Θ))(a:∀t∈ts,t.length=5)(i:Nat)(b:i<ts.length):(ts.flatten.drop (i*5)).take 5=ts[i]:=by
 induction ts generalizing i with
 |nil=>simp at b
 |cons t r c=>
  have e:=a t ϛ;cases i with|zero=>rw[List.flatten_cons,Nat.zero_mul,ϳ,ϵ ϖ,ν ϖ];rfl|succ i=>rw[List.flatten_cons,show(i+1)*5=t.length+i*5 by omega,ϔ6];simp only[Nat.add_sub_cancel_left];rw[List.drop_eq_nil_of_le ϖ,ϸ];exact c (λx d=>a x (by simp[d])) i (by simpa using b)
def Og(g:Nat)(S M K O T R av:Θ)(ts:List (List Θ))(w:Φ)(hr:Row w g #[S,M,K,O,T,R,av] 73)(ha:rK w av ts)(Z:ts.length<=1048576):
  Calls prog 35 #[.pointer (some ⟨g,0,none⟩)] w λe w'=>e=.returned (.bool true)/\aG [] w w':=by
 have Q:∀t∈ts,t.length=5:=λt B=>by obtain⟨_,_,_,_,_,rfl,_⟩:=ha.ok t B;rfl
 have⟨ad,cap,hv⟩:=aY ha.row;subst hv;go_enter func35,ntmps35;go_wp2_with fail
 go_loopw [3,4] (λb c wr=>∃i:Nat,b=.bool true/\c=.int .i64 i/\i<=ts.length/\aG [] w wr) λ_ c _=>ts.length-(intOf c).toNat
 case atStart=>exact⟨0,rfl,rfl,ϖ,aG.refl ..⟩
 case round=>
  obtain⟨i,rfl,rfl,X,f⟩:=hrel;have r:=f.row hr;have a:=ha.new f;have N:=r.val 6 (.slice ad ts.length cap);by_cases n:i<ts.length
  .obtain⟨H,C,rfl,hg,E,_,D,h⟩:=cO a.row;have p:=flat5 ts Q i n;have⟨l,x,y,z,m,B,u,s,A,v⟩:=a.ok _ (ag5 n);have k:(ts.flatten.drop (i*5)).take 5=[l,x,y,z,.string m]:=p.trans B;have o:(C.toList.drop (i*5)).take 5=[l,x,y,z,.string m]:=by
    rw[<-k,<-h,List.drop_take,ϕ7,ϒ1 ϖ]
   clear p k h B;go_wp2_with (with_reducible first|refine ax 122 rfl ?_|refine au rfl ?_);have V:l.oneCell'=true:=u.one;have o2:x.oneCell'=true:=s.one;have o3:y.oneCell'=true:=A.one;have o4:z.oneCell'=true:=v.one;refine bT rfl 122 _ rfl H (i*5) rfl ϰ 5 pG _ _ hg _ o rfl ?_;go_wp2_with (with_reducible refine au rfl ?_);refine br rfl 122 rfl _ yv ?_;intro w1 b l1 f1 G;go_wp2_with (with_reducible refine ah 122 rfl ?_);refine gj rfl 122 _ _ rfl b rfl #[l,x,y,z,.string m] rfl pG (by intro q F;simp only[ac2,aj8,or_false]at F;obtain rfl|rfl|rfl|rfl|rfl:=F<;>first|assumption|rfl) _ _ G rfl ?_;intro w2 f2 r2;have d:aG [] wr w2:=f1.trans f2 (by intro j P;right;simp at P;omega);replace f:=f.trans d;replace u:=u.ky d ϛ;replace s:=s.ky d ϛ;replace A:=A.ky d ϛ;replace v:=v.ky d ϛ;have c0:=r2.val 0 l;have c1:=r2.val 1 x;have c2:=r2.val 2 y;have W:=r2.val 3 z;have U:=r2.val 4 (.string m);clear o hg D E N r a G f1 f2 d r2 l1;go_wp2_with fail;refine(pB w2 m l u).mono ?_;rintro e J⟨rfl,rfl⟩;go_wp2_with fail;refine(pB J m x s).mono ?_;rintro e L⟨rfl,rfl⟩;go_wp2_with fail;refine(pB L m y A).mono ?_;rintro e I⟨rfl,rfl⟩;go_wp2_with fail;refine(pB I m z v).mono ?_;rintro e Y⟨rfl,rfl⟩;go_wp2
   go_roundw
   case rel=>exact⟨i+1,rfl,by go_num,ϖ,f⟩
   case measure=>simp[intOf];omega
  .obtain rfl:i=ts.length:=ϖ
   go_wp2;go_ret;exact⟨rfl,f⟩
end
section
open Go.RowKit Go.Lib Go.Sort
structure NL (H:dE)(N:List jD):Prop where
 nodup:N.Nodup
 mem:∀s p,(s,p)∈N↔H s p≠none
def NL.len{H:dE}{N M:List jD}(h:NL H N)(k:NL H M):N.length=M.length:=
 Nat.le_antisymm (ij N M h.nodup λa ha=>(k.mem a.1 a.2).2 ((h.mem a.1 a.2).1 ha)) (ij M N k.nodup λa ha=>(h.mem a.1 a.2).2 ((k.mem a.1 a.2).1 ha))
def ju(L:ϑ)(n:Nat):Nat:=(taken (DS.fresh L) n).length
def acz(L:ϑ)(n:Nat):ju L n<=aH n:=ac3 (ϐ2 ..) (by rw[ϐ7];exact ε _)
def Rc(L:ϑ)(n:Nat)(a:Int):(taken (DS.calm L a) n).length=ju L n:=rfl
section
variable {L:List η}{n:Nat}{H:dE}{Q:List (List η)}{m:eU}{N:List jD}
def FF(hr:oW L n m)(hm:∀s p,holds m s p (H s p)):NL H ((lD n m).map nameOf):=by
 refine⟨hr.nodup,λs p=>?_⟩;rw[ac9];constructor;rintro⟨f,hf,e⟩;have⟨i,b⟩:=hr.mem.1 hf;exact tK (hm s p) b e;intro a;obtain⟨i,f,hf,rfl,rfl⟩:=tL (hm s p) a;exact⟨f,hr.mem.2 ⟨i,hf⟩,rfl⟩
def Kx(hr:oW L n m):ju L n=(lD n m).length:=by
 have h1:=oJ (x:=DS.fresh L) hr rfl;rw[<-h1];unfold aS ju;rw[af2]
def Has.nl(h:Has L n H):∃N,NL H N/\N.length=ju L n:=by
 have⟨m,hr,hm⟩:=h;exact⟨_,FF hr hm,by rw[af2,Kx hr]⟩
def Has.cnt(h:Has L n H)(a:NL H N):ju L n=N.length:=by
 have⟨M,h1,h2⟩:=h.nl;rw[<-h2,h1.len a]
def Vc(m:eU):(lD n m).length<aH n->∃i,i<aH n/\m i=none:=by
 intro h;by_cases d:∃i,i<aH n/\m i=none;exact d;exfalso;have h2:∀l:List Nat,(∀i∈l,i<aH n)->(l.filterMap m).length=l.length:=by
  intro l;induction l with
  |nil=>intro _;rfl
  |cons a l e=>
   intro c;have ha:=c a ai4;cases hm:m a with|none=>exact absurd ⟨a,ha,hm⟩ d|some f=>rw[List.filterMap_cons_some hm,ϲ,ϲ,e λi b=>c i (af9 _ b)]
 unfold lD at h;rw[h2 _ λi b=>ah9.1 b,ϐ7]at h;omega
def Px(m:eU)(h:∃i,i<aH n/\m i=none):(lD n m).length<aH n:=by
 have⟨i,c,hm⟩:=h;have h2:∀l:List Nat,i∈l->(l.filterMap m).length<l.length:=by
  intro l;induction l with
  |nil=>intro h;simp at h
  |cons a l b=>
   intro h;by_cases e:a=i;subst e;rw[List.filterMap_cons_none hm,ϲ];exact Nat.lt_succ_of_le (ϒ5 ..);have:=b ((ac2.1 h).resolve_left λq=>e q.symm);cases ha:m a with|none=>rw[List.filterMap_cons_none ha,ϲ];omega|some f=>rw[List.filterMap_cons_some ha,ϲ,ϲ];omega
 have:=h2 (range (aH n)) (ah9.2 c);rw[ϐ7]at this;exact this
def PA(d:NL H N)(s:Nat)(p c:ϑ):NL (gn H s p (some c)) (if(s,p)∈N then N else(s,p)::N):=by
 refine⟨?_,λs' a=>?_⟩;split;exact d.nodup;rename_i h;exact ϒ4.2 ⟨h,d.nodup⟩;unfold gn;by_cases e:s'=s/\a=p;obtain⟨rfl,rfl⟩:=e;rw[κ (show s'=s'/\a=a from⟨rfl,rfl⟩)];split;rename_i h;simp[h];simp;rw[Γ e,<-d.mem];have b:(s',a)≠(s,p):=λh=>e (ai6 .. ▸h)
 split;exact Iff.rfl;rw[ac2];exact⟨λh=>h.resolve_left b,.inr⟩
def BT(c:NL H N)(s:Nat)(p:ϑ):NL (gn H s p none) (N.erase (s,p)):=by
 refine⟨c.nodup.erase _,λs' a=>?_⟩;rw[c.nodup.mem_erase_iff];unfold gn;by_cases e:s'=s/\a=p;obtain⟨rfl,rfl⟩:=e;rw[κ (show s'=s'/\a=a from⟨rfl,rfl⟩)];simp;have b:(s',a)≠(s,p):=λh=>e (ai6 .. ▸h)
 rw[Γ e,<-c.mem];exact⟨λh=>h.2,λh=>⟨b,h⟩⟩
def iX.put'(h:iX L n Q H)(s:Nat)(p c:ϑ)(hs:(s<=2/\p∈Q)\/(s=3/\p=[]))(k:c.length<=96):
  (ju L n<aH n/\∃L',iX L' n Q (gn H s p (some c))/\ju L' n=ju L n+(if H s p=none then 1 else 0)/\∀a,(DS.calm L a).put n s (aj p) (aj c)=(DS.calm L' (a+5),.int .i64 0))\/
  (ju L n=aH n/\∀a,(DS.calm L a).put n s (aj p) (aj c)=(DS.calm L a,.int .i64 7)):=by
 have⟨⟨m,hr,hm⟩,j⟩:=h;have f:=Kx hr;by_cases b:∃i,i<aH n/\m i=none;have⟨L',q1,l⟩:=Gf hr hm b s p c (j.name hs) k;refine .inl ⟨by rw[f];exact Px m b,L',⟨q1,j.set hs _⟩,?_,l⟩;have g:=FF hr hm;rw[q1.cnt (PA g s p c),Has.cnt ⟨m,hr,hm⟩ g];have d:=g.mem s p;by_cases e:H s p=none;rw[κ e,Γ λq=>(d.1 q) e,ϲ];rw[Γ e,κ (d.2 e)];rfl;refine .inr ⟨?_,λa=>Fv hr b s _ _ a⟩;have h1:=acz L n;have h2:¬ju L n<aH n:=λq=>b (Vc m (f▸q))
 omega
def iX.De(h:iX L n Q H)(s:Nat)(p:ϑ)(hs:(s<=2/\p∈Q)\/(s=3/\p=[]))(c:H s p≠none):
  ∃L',iX L' n Q (gn H s p none)/\ju L' n+1=ju L n/\∀a,(DS.calm L a).remove n s (aj p)=(DS.calm L' (a+2),.int .i64 0):=by
 have⟨L',q1,e⟩:=IS h.has s p c;refine⟨L',⟨q1,h.qf.set hs _⟩,?_,e⟩;have⟨N,b,d⟩:=h.has.nl;have hm:=(b.mem s p).2 c;rw[q1.cnt (BT b s p),<-d,List.length_erase_of_mem hm];have:0<N.length:=List.length_pos_of_mem hm;omega
def Sf(H:dE):List dS->Prop
 |[]=>True
 |w::r=>(w.set<=2/\(∀c,w.becomes=some c->c.length<=96)/\(w.becomes=none->H w.set w.path≠none)/\w.replaces=(H w.set w.path).isSome)/\Sf (gn H w.set w.path w.becomes) r
def JV(H:dE)(a b:List dS):Sf H (a++b)↔Sf H a/\Sf (oA H a) b:=by
 induction a generalizing H with|nil=>simp[Sf,oA]|cons w r c=>constructor;rintro⟨x,y⟩;exact⟨⟨x,((c _).1 y).1⟩,((c _).1 y).2⟩;rintro⟨⟨x,y⟩,z⟩;exact⟨x,(c _).2 ⟨y,z⟩⟩
def CM{x:DS}{K:dE}(p:List η×Nat)(h2:p.2<=1)(a:∀s:Nat,s<=2->x.content n s (aj p.1)=K s p.1):Sf K (fO x n p)/\oA K (fO x n p)=j6 K p:=by
 have c1:=a (1-p.2) ϖ;have c2:=a 2 ϖ;have cs:=a p.2 ϖ;have g:∀c,K p.2 p.1=some c->c.length<=96:=λc l=>pN (cs.trans l)
 have one:∀(s:Nat)(M:dE),s<=2->s≠p.2->M s p.1=x.content n s (aj p.1)->M p.2 p.1=K p.2 p.1->Sf M (dh x n p s)/\oA M (dh x n p s)=gn M s p.1 (K p.2 p.1):=by intro s M hs i b j;have k:=a s hs;unfold dh;rw[cs];split;rename_i e;refine⟨trivial,?_⟩;rw[<-e,<-b,Lq];rfl;rename_i e;refine⟨⟨⟨hs,g,λo=>?_,?_⟩,trivial⟩,rfl⟩;rw[b];intro q;exact e (q.trans o.symm);rw[b]
 have⟨h,f⟩:=one (1-p.2) K ϖ ϖ c1.symm rfl;have⟨o2,m⟩:=one 2 (gn K (1-p.2) p.1 (K p.2 p.1)) ϖ ϖ (by
  unfold gn;rw[Γ ϖ,c2]) (by
  unfold gn;rw[Γ ϖ])
 unfold fO;refine⟨(JV ..).2 ⟨h,by rw[f];exact o2⟩,?_⟩;rw[As,f,m];funext s q;unfold j6 gn;by_cases d:q=p.1;subst d;by_cases h0:s=2;subst h0;simp;by_cases h1:s=1-p.2;subst h1;simp[h0];by_cases hs:s=p.2;subst hs;simp[h0,h1];simp[h0,h1];intro;omega;simp[d]
def xD{x:DS}(ss:List (List η×Nat))(K:dE)(hs:ss.Pairwise λp q=>p.1≠q.1)(h1:∀p∈ss,p.2<=1)(c:∀p∈ss,∀s:Nat,s<=2->x.content n s (aj p.1)=K s p.1):
  Sf K (bG x n ss)/\oA K (bG x n ss)=ss.foldl j6 K:=by
 induction ss generalizing K with
 |nil=>exact⟨trivial,rfl⟩
 |cons p r d=>
  rw[ϐ3]at hs;have⟨f,g⟩:=CM (n:=n) (x:=x) (K:=K) p (h1 p ϛ) (c p ϛ);have e:bG x n (p::r)=fO x n p++bG x n r:=rfl;have⟨o2,h⟩:=d (j6 K p) hs.2 (λq a=>h1 q (by simp[a])) λq a s b=>by rw[c q (by simp[a]) s b];unfold j6;rw[Γ];exactλe=>hs.1 q a e.1.symm
  rw[e,JV,As,g,h];exact⟨⟨f,o2⟩,rfl⟩
def iX.aik:∀(e:List dS){L:ϑ}{H:dE},iX L n Q H->Sf H e->(∀w∈e,w.path∈Q)->jU e ((aH n:Int)-ju L n)=true->
  ∃L' k,iX L' n Q (oA H e)/\(0:Int)<=k/\k<=5*(e.length:Int)/\∀a,(DS.calm L a).iS n e=(DS.calm L' (a+k),.int .i64 0)
 |[],L,H,h,_,_,_=>⟨L,0,h,ϖ,ϛ,λa=>by simp[DS.iS]⟩
 |w::r,L,H,h,p,hp,hf=>by
  have⟨⟨hs,t,y,b⟩,p⟩:=p;have g:=hp w ai4;have m:=λw' o=>hp w' (af9 _ o)
  have step:∃d i,iX d n Q (gn H w.set w.path w.becomes)/\(0:Int)<=i/\i<=5/\(∀a,(DS.calm L a).yl n w=(DS.calm d (a+i),.int .i64 0))/\jU r ((aH n:Int)-ju d n)=true:=by
   unfold jU at hf;unfold DS.yl;cases l:w.becomes with
   |none=>rw[l]at hf;have⟨d,q1,f,j⟩:=h.De w.set w.path (.inl ⟨hs,g⟩) (y l);refine⟨d,2,q1,ϖ,ϖ,j,?_⟩;rw[show(aH n:Int)-ju d n=(aH n:Int)-ju L n+1 by omega];simpa using hf
   |some c=>
    rw[l]at hf;rw[Γ ϛ]at hf;obtain⟨_,d,q1,f,j⟩|⟨q1,_⟩:=h.put' w.set w.path c (.inl ⟨hs,g⟩) (t c l);refine⟨d,5,q1,ϖ,ϖ,j,?_⟩;by_cases h0:(aH n:Int)-ju L n=0;rw[κ h0]at hf;cases hf;rw[Γ h0]at hf;cases q:H w.set w.path with|none=>rw[q]at b f;rw[b]at hf;rw[show(aH n:Int)-ju d n=(aH n:Int)-ju L n-1 by rw[f];simp;omega];simpa using hf|some v=>rw[q]at b f;rw[b]at hf;rw[show(aH n:Int)-ju d n=(aH n:Int)-ju L n by rw[f];simp];simpa using hf
    rw[κ ϖ]at hf;cases hf
  have⟨d,i,q1,f,j,u,z⟩:=step;have⟨s,k2,x,r2,r3,r4⟩:=iX.aik r q1 p m z;refine⟨s,i+k2,x,ϖ,by rw[ϲ];push_cast;omega,λa=>?_⟩;unfold DS.iS;rw[u a,κ (NY _),r4,Int.add_assoc]
end
section
variable {L:List η}{n:Nat}{H:dE}{Q:List (List η)}{N:List jD}{ps:List (List η)}
def iA(n f0 f1:Nat):Bool:=decide ((f0:Int)<=((n:Int)-24).tdiv 4)&&decide ((f1:Int)<=((n:Int)-24).tdiv 4)
def y9{f0 f1 c:Nat}(hr:iA n f0 f1=true)(h1:c<=f0+f1)(h2:c<=21):c+2<=aH n:=by
 unfold iA at hr;simp only[χ,ai0]at hr;unfold aH;by_cases h:24<=n;rw[ϔ1 ϖ]at hr;omega;have b:((n:Int)-24).tdiv 4<=0:=by rw[show(n:Int)-24=-((24-n:Nat):Int) by omega,Int.neg_tdiv];have:=Int.tdiv_nonneg (show(0:Int)<=((24-n:Nat):Int) by omega) (show(0:Int)<=4 by omega);omega
 have a:20<n:=by
  obtain h|h:=am0 20 n;exact h;exfalso;have:((n:Int)-24).tdiv 4<0:=by have d:n<=20:=h;rw[show(n:Int)-24=-((24-n:Nat):Int) by omega,Int.neg_tdiv,ϔ1 ϖ];omega
  omega
 omega
def TY(c:QF Q H)(e:H 3 []=none)(b:NL H N):N.length<=21:=by
 have:=ij N ((range 3).flatMap λs=>Q.map λp=>(s,p)) b.nodup λa ha=>by have⟨s,p⟩:=a;have d:=(b.mem s p).1 ha;obtain⟨h1,h2⟩|⟨rfl,rfl⟩:=c.names s p d;exact ϐ4.2 ⟨s,ah9.2 ϖ,ac9.2 ⟨p,h2,rfl⟩⟩;exact absurd e d
 have f:((range 3).flatMap λs=>Q.map λp=>(s,p)).length=3*Q.length:=by simp only[List.length_flatMap,af2];simp[List.range_succ];omega
 have:=c.len;omega
def DP(U:List jD)(l:U.length+2<=aH n):∀(i:List dS){K:dE}{N:List jD},NL K N->(∀a∈N,a∈U)->Sf K i->(∀w∈i,w.becomes≠none->(w.set,w.path)∈U)->jU i ((aH n:Int)-N.length-1)=true
 |[],_,_,_,_,_,_=>rfl
 |w::r,K,N,hN,hs,d,hu=>by
  have⟨⟨h1,h2,m,g⟩,d⟩:=d;have e:=λw' j=>hu w' (af9 _ j)
  unfold jU;cases h:w.becomes with
  |none=>rw[κ rfl];rw[h]at d;have hm:=(hN.mem ..).2 (m h);have:=DP U l r (BT hN w.set w.path) (λa ha=>hs a (List.mem_of_mem_erase ha)) d e;rw[List.length_erase_of_mem hm]at this;have p:0<N.length:=List.length_pos_of_mem hm;rw[show(aH n:Int)-N.length-1+1=(aH n:Int)-((N.length-1:Nat):Int)-1 by omega];exact this
  |some c=>
   rw[Γ ϛ];rw[h]at d;have o:=ij N U hN.nodup hs;rw[Γ ϖ];have k:=hu w ai4 (by rw[h];simp);have b:=hN.mem w.set w.path;have f:=DP U l r (PA hN w.set w.path c) (λa ha=>by split at ha;exact hs a ha;obtain rfl|ha:=ac2.1 ha;exact k;exact hs a ha) d e
   cases hk:K w.set w.path with|none=>rw[hk]at g;rw[g];rw[Γ λq=>(b.1 q) hk,ϲ]at f;rw[show(aH n:Int)-N.length-1-1=(aH n:Int)-((N.length+1:Nat):Int)-1 by omega];simpa using f|some v=>rw[hk]at g;rw[g];rw[κ (b.2 (by rw[hk];simp))]at f;simpa using f
def zt(c:QF Q H)(b:m7 H ps):∀l∈ps,l∈Q:=by
 intro l a;have h2:=(b.2 l).1 a;have key:∀s,s<=2->H s l≠none->l∈Q:=λs hs d=>by obtain q|q:=c.names s l d;exact q.2;omega
 by_cases e2:H 2 l=none;obtain h2|h2:=h2;exact key 0 ϖ λq=>h2 (q.trans e2.symm)
 exact key 1 ϖ λq=>h2 (q.trans e2.symm)
 exact key 2 ϖ e2
def oQ{p:List η×Nat}(a:p∈bZ H ps):p.1∈ps/\ly H p.1=some p.2:=by
 unfold bZ at a;have⟨l,b,e⟩:=ϓ5.1 a;obtain⟨q,c,rfl⟩:=ψ.1 e;exact⟨b,c⟩
def CL(e:m7 H ps):(bZ H ps).Pairwise λp q=>p.1<q.1:=by
 unfold bZ;refine List.Pairwise.filterMap _ (λa b c p d q f=>?_) e.1;obtain⟨_,_,rfl⟩:=ψ.1 d;obtain⟨_,_,rfl⟩:=ψ.1 f;exact c
def BA(c:QF Q H)(b:m7 H ps):(bZ H ps).length<=7:=ac3 (ϒ5 ..) (ac3 (ij ps Q (b.1.imp λa e=>by subst e;exact ϑ4 _ a) (zt c b)) c.len)
def Bz(a:QF Q H)(c:m7 H ps):lQ (bZ H ps):=λp b=>⟨a.path _ (zt a c _ (oQ b).1),xY (oQ b).2⟩
def ub(b:m7 H ps):(bZ H ps).Pairwise λp q=>p.1≠q.1:=(CL b).imp λa e=>by rw[e]at a;exact ϑ4 _ a
def wK(f:m7 H ps):(bZ H ps).foldl j6 H=iR H:=by
 have d:=ub f;have h1:∀p∈bZ H ps,p.2<=1:=λp b=>xY (oQ b).2
 funext s p;unfold iR;by_cases h2:s<=2;rw[κ h2];by_cases b:p∈ps
 .cases hs:ly H p with
  |some q=>have hm:(p,q)∈bZ H ps:=ϓ5.2 ⟨p,b,by rw[hs];rfl⟩;exact Gn _ H d h1 hm s h2
  |none=>
   refine tN _ H s p λa ha e=>?_
   have:=(oQ ha).2;rw[e,hs]at this;cases this
 have c:=λq=>b ((f.2 p).2 q)
 have g:H 0 p=H 2 p:=ad2 λq=>c (.inl q)
 have e1:H 1 p=H 2 p:=ad2 λq=>c (.inr q)
 rw[K7 g e1];rw[tN _ H s p λa ha e=>b (e▸(oQ ha).1)];show H s p=H 1 p;rcases(by omega:s=0\/s=1\/s=2)with rfl|rfl|rfl;rw[g,e1];rfl;rw[e1];rw[Γ h2];exact mU ..
def vn{α d:Type}{f g:α->List d}:∀(l:List α),(∀a∈l,f a=g a)->l.flatMap f=l.flatMap g
 |[],_=>rfl
 |a::l,h=>by rw[ϐ6,ϐ6,h a ai4,vn l λb c=>h b (af9 _ c)]
def iX.AF(h:iX L n Q H)(C:H 3 []=none)(u:m7 H ps):
  (lg (DS.calm L 0) n (bZ H ps) ((aH n:Int)-ju L n-1)=false/\bZ H ps≠[]/\∀a,(DS.calm L a).AF n (bZ H ps)=(DS.calm L a,.int .i64 7))\/
  (∃L' k,iX L' n Q (iR H)/\(0:Int)<=k/\k<=80/\(∀a,(DS.calm L a).AF n (bZ H ps)=(DS.calm L' (a+k),.int .i64 0))/\(bZ H ps=[]->L'=L/\k=0)):=by
 have g:=wK u;have I:=BA h.qf u;have c:=Bz h.qf u;by_cases r:bZ H ps=[];rw[r]at g⊢;have hf:H=iR H:=g;refine .inr ⟨L,0,hf▸h,ϖ,ϖ,λa=>?_,λ_=>⟨rfl,rfl⟩⟩;unfold DS.AF;rw[κ rfl,ϒ6];have f:∀(a:Int)(s:Nat)(p:ϑ),(DS.calm L a).content n s (aj p)=H s p:=λa s p=>Has.content (x:=DS.calm L a) h.has rfl s p
 have o:∀a,lg (DS.calm L a) n (bZ H ps) ((aH n:Int)-(taken (DS.calm L a) n).length-1)=lg (DS.calm L 0) n (bZ H ps) ((aH n:Int)-ju L n-1):=λa=>by
  have v:fO (DS.calm L a) n=fO (DS.calm L 0) n:=by funext p;unfold fO dh;simp only[f,show(2:Int)=((2:Nat):Int)from rfl]
  unfold lg bG;rw[v,Rc]
 cases b:lg (DS.calm L 0) n (bZ H ps) ((aH n:Int)-ju L n-1)with
 |false=>refine .inl ⟨rfl,r,λa=>?_⟩;unfold DS.AF DS.begin;rw[Γ r,o,b,κ rfl,Γ (by simp[sx])]
 |true=>
  right;have J:(ec (bZ H ps)).length<=63:=by have:=ri (bZ H ps) λp y=>qO (c p y).1;omega
  have z:0<=(aH n:Int)-ju L n-1/\jU (bG (DS.calm L 0) n (bZ H ps)) ((aH n:Int)-ju L n-1)=true:=by unfold lg at b;simpa using b
  obtain⟨_,L1,q1,q2,q3⟩|⟨q1,_⟩:=h.put' 3 [] (ec (bZ H ps)) (.inr ⟨rfl,rfl⟩) ϖ;rw[κ C]at q2;generalize d:gn H 3 [] (some (ec (bZ H ps)))=m at q1;have i:∀(a:Int)(s:Nat)(p:ϑ),(DS.calm L1 a).content n s (aj p)=m s p:=λa s p=>Has.content (x:=DS.calm L1 a) q1.has rfl s p
  have j:∀s p,s<=2->m s p=H s p:=λs p hs=>by rw[<-d];unfold gn;rw[Γ ϖ]
  have t:∀a,bG (DS.calm L1 a) n (bZ H ps)=bG (DS.calm L 0) n (bZ H ps):=λa=>by
   unfold bG;refine vn _ λp l=>?_
   have G:=(c p l).2;have e2:∀s:Nat,s<=2->dh (DS.calm L1 a) n p s=dh (DS.calm L 0) n p s:=λs hs=>by unfold dh;rw[i,i,f,f,j s _ hs,j p.2 _ ϖ]
   unfold fO;rw[e2 _ ϖ,show((2:Nat))=2 from rfl,e2 2 ϖ]
  have⟨A,B⟩:=xD (n:=n) (x:=DS.calm L1 0) (bZ H ps) m (ub u) (λp l=>(c p l).2) λp l s K=>i 0 s p.1
  rw[t]at A B;have⟨F,k2,E,r2,r3,r4⟩:=q1.aik _ A (λw v=>(h.writes 0 c w v).1.2) (by rw[show(aH n:Int)-ju L1 n=(aH n:Int)-ju L n-1 by rw[q2];push_cast;omega];exact z.2)
  rw[B]at E;have N:(bZ H ps).foldl j6 m 3 []=some (ec (bZ H ps)):=by rw[mU _ _ _ _,<-d];unfold gn;rw[κ ⟨rfl,rfl⟩]
  have⟨O,D,_,t2⟩:=E.De 3 [] (.inr ⟨rfl,rfl⟩) (by rw[N];simp);have q:gn ((bZ H ps).foldl j6 m) 3 [] none=iR H:=by rw[<-g];funext s p;unfold gn;by_cases e:s=3/\p=[];rw[κ e,mU ..,e.1,e.2,C];rw[Γ e];by_cases h2:s<=2;exact Gp _ _ _ j (λp l=>(c p l).2) s p h2;rw[mU _ _ _ _,mU ..,<-d];unfold gn;rw[Γ e]
  rw[q]at D;have P:=lI (DS.calm L 0) n (bZ H ps);refine⟨O,5+k2+2,D,ϖ,ϖ,λa=>?_,λe=>absurd e r⟩;have M:(DS.calm L a).begin n (bZ H ps)=(DS.calm L1 (a+5),.int .i64 0):=by unfold DS.begin;rw[o,b,Γ ϛ];exact q3 a
  unfold DS.AF;rw[Γ r,M,κ (NY _)];show DS.sD (DS.calm L1 (a+5)) n (bZ H ps)=_;unfold DS.sD;rw[t,r4,κ (NY _)];show DS.remove (DS.calm F (a+5+k2)) n 3 ⟨#[]⟩=_;have:=t2 (a+5+k2);rw[show a+5+k2+2=a+(5+k2+2) by omega]at this;exact this;exfalso;omega
def iX.roomy(h:iX L n Q H)(z:H 3 []=none)(l:m7 H ps){e f:List jD}(c:NL H e)(o:NL (iR H) f)(hr:iA n e.length f.length=true):
  lg (DS.calm L 0) n (bZ H ps) ((aH n:Int)-ju L n-1)=true:=by
 have d:=Bz h.qf l;have v:=wK l;have D:=h.has.cnt c;have i:∀(s:Nat)(p:ϑ),(DS.calm L 0).content n s (aj p)=H s p:=λs p=>Has.content (x:=DS.calm L 0) h.has rfl s p
 have⟨B,K⟩:=xD (n:=n) (x:=DS.calm L 0) (bZ H ps) H (ub l) (λp g=>(d p g).2) λp g s E=>i s p.1
 have G:=TY h.qf z c;have C:∃U:List jD,U.length+2<=aH n/\(∀a∈e,a∈U)/\∀w∈bG (DS.calm L 0) n (bZ H ps),w.becomes≠none->(w.set,w.path)∈U:=by
  have r:∀w∈bG (DS.calm L 0) n (bZ H ps),w.becomes≠none->(w.set,w.path)∈f:=by
   intro w b j;refine(o.mem ..).2 ?_;unfold bG at b;have⟨p,g,b⟩:=ϐ4.1 b;have key:∀s:Nat,s<=2->w∈dh (DS.calm L 0) n p s->iR H w.set w.path≠none:=by intro s hs hm;unfold dh at hm;split at hm;simp at hm;obtain rfl:=ξ.1 hm;show iR H s p.1≠none;rw[<-v,Gn _ H (ub l) (λq A=>(d q A).2) g s hs,<-i];exact j
   have h2:=(d p g).2;unfold fO at b;obtain b|b:=ag4.1 b;exact key _ ϖ b;exact key 2 ϖ b
  by_cases u:52<=n;refine⟨(range 3).flatMap λs=>Q.map λp=>(s,p),?_,λa ha=>?_,λw b _=>?_⟩;have J:((range 3).flatMap λs=>Q.map λp=>(s,p)).length=3*Q.length:=by simp only[List.length_flatMap,af2];simp[List.range_succ];omega
  have:=h.qf.len;unfold aH;omega;have⟨s,p⟩:=a;have u:=(c.mem s p).1 ha;obtain⟨h1,h2⟩|⟨rfl,rfl⟩:=h.qf.names s p u;exact ϐ4.2 ⟨s,ah9.2 ϖ,ac9.2 ⟨p,h2,rfl⟩⟩;exact absurd z u;have:=(h.writes 0 d w b).1;exact ϐ4.2 ⟨w.set,ah9.2 ϖ,ac9.2 ⟨w.path,this.2,rfl⟩⟩;refine⟨e++f,?_,λa ha=>ϑ5 _ ha,λw b j=>ϐ1 _ (r w b j)⟩;rw[af0];unfold iA at hr;simp only[χ,ai0]at hr;have j:e.length+f.length<=21:=by
   have I:=h.has;by_cases W4:24<=n;rw[ϔ1 ϖ]at hr;omega;have y:((n:Int)-24).tdiv 4<=0:=by rw[show(n:Int)-24=-((24-n:Nat):Int) by omega,Int.neg_tdiv];have:=Int.tdiv_nonneg (show(0:Int)<=((24-n:Nat):Int) by omega) (show(0:Int)<=4 by omega);omega
   omega
  exact y9 (f0:=e.length) (f1:=f.length) (by unfold iA;simp only[χ,ai0];exact hr) (ε _) j
 have⟨U,t,k,m⟩:=C;have:=DP U t _ c k B m;have F:=ij e U c.nodup k;unfold lg;rw[D,decide_eq_true ϖ,Bool.true_and];exact this
end
end
section
open Go.RowKit Go.Lib
def LA(v:Θ)(w:Φ):Calls prog 101 #[.pointer none,v] w λe w'=>e=.returned (.bool true)/\w'=w:=by
 go_enter func101,ntmps101;go_wp2;go_ret;exact⟨rfl,rfl⟩
def RS.Gr(h:s.a.length<=100/\s.b.length<=100/\s.o.length<=100):s.files<=300:=by unfold RS.files;omega
def LB(q b:Nat)(s t:RS)(w:Φ)(h:bN w q s)(a:bN w b t)(g:s.n<=400):
  Calls prog 101 #[.pointer (some ⟨q,0,none⟩),.pointer (some ⟨b,0,none⟩)] w λe w'=>e=.returned (.bool (iA s.n s.files t.files))/\aG [] w w':=by
 have hf:=RS.Gr h.few;have f:=RS.Gr a.few;have c:=h.size;have d:Hid (iA s.n s.files t.files=(decide ((s.files:Int)<=((s.n:Int)-24).tdiv 4)&&decide ((t.files:Int)<=((s.n:Int)-24).tdiv 4))):=rfl;go_enter func101,ntmps101;go_wp2_with fail;refine(Cg q s w h).mono ?_;rintro e w1⟨rfl,f1⟩;replace a:=a.new f1;clear c h;generalize ((s.n:Int)-24).tdiv 4=M at*
 by_cases h1:(s.files:Int)<=M
 .have hd:decide ((s.files:Int)<=M)=true:=decide_eq_true h1;go_wp2_with fail;refine(Cg b t w1 a).mono ?_;rintro e w2⟨rfl,f2⟩;go_wp2;go_ret;rw[d.out,hd];exact⟨rfl,f1.trans f2⟩
 .have hd:decide ((s.files:Int)<=M)=false:=decide_eq_false h1
  go_wp2;go_ret;rw[d.out,hd];exact⟨rfl,f1⟩
def lx(e f:Int)(c:ϐ)(k:Nat)(t:Θ):Array Θ:=if e=0/\f=0 then c.setIfInBounds (3+k) t else c
def Bv(g:Nat)(k:Nat)(hk:k<=2)(j l m o d i av t:Θ)(w:Φ)(hr:Row w g #[j,l,m,o,d,i,av] 73)(p:w.cell? ⟨g,3+k,none⟩=some (.pointer none))(e f:Int)(hf:f≠0):
  Calls prog 62 #[.pointer (some ⟨g,0,none⟩),.int .i64 k,t,.int .i64 e,.int .i64 f] w λr w'=>r=.returned (.bool (decide (e=f)))/\w'=w:=by
 have n:(k:Int)<3:=ϖ;have c:(f==0)=false:=by rw[ae9];exact hf
 have b:Hid ((e==f)=decide (e=f)):=by show _=_;by_cases h:e=f<;>simp[h]
 clear hf;go_enter func62,ntmps62;go_wp2_with fail;refine(LA t w).mono ?_;rintro r w1⟨rfl,rfl⟩;by_cases h0:e=0
 .have a:(e==0)=true:=by simpa using h0
  clear h0;go_wp2;go_ret;exact⟨by rw[<-b.out];rfl,rfl⟩
 .have a:(e==0)=false:=by simpa using h0
  clear h0;go_wp2;go_ret;exact⟨by rw[<-b.out];rfl,rfl⟩
def qn(e f:Int)(r:Bool):Bool:=(decide (f=0)&&(decide (e=7)&&!r))||decide (e=f)
def Bw(g:Nat)(k:Nat)(hk:k<=2)(c:ϐ)(q v:Nat)(s t:RS)(w:Φ)(hr:Row w g c 73)(K:c.size=7)(x:c[3+k]?=some (.pointer (some ⟨q,0,none⟩)))(h:bN w q s)(B:bN w v t)(J:s.n<=400)(e f:Int):
  Calls prog 62 #[.pointer (some ⟨g,0,none⟩),.int .i64 k,.pointer (some ⟨v,0,none⟩),.int .i64 e,.int .i64 f] w λr w'=>r=.returned (.bool (qn e f (iA s.n s.files t.files)))/\aG [g] w w'/\
   Row w' g (lx e f c k (.pointer (some ⟨v,0,none⟩))) 73:=by
 have H:(k:Int)<3:=ϖ;have y:=hr.val (3+k) (.pointer (some ⟨q,0,none⟩)) x;have I:Hid ((e==f)=decide (e=f)):=by show _=_;by_cases h:e=f<;>simp[h]
 have C:Hid (∀r,qn e f r=((f==0)&&((e==7)&&!r)||(e==f))):=λr=>by unfold qn;rw[<-I.out];rfl
 have m:Hid ((e=0/\f=0)↔((e==0)&&(f==0))=true):=by show _↔_;simp
 go_enter func62,ntmps62;go_wp2_with fail;refine(LB q v s t w h B J).mono ?_;rintro r w1⟨rfl,f1⟩;replace hr:=f1.row hr;have F:=hr.val (3+k) (.pointer (some ⟨q,0,none⟩)) x;have D:w1.frozen? ⟨g,3+k,none⟩=false:=hr.thaw _;clear y x h B;replace f1:aG [g] w w1:=f1.mono;have o:=C.out (iA s.n s.files t.files);generalize A:iA s.n s.files t.files=R at o⊢;have HR:Hid (qn e f (iA s.n s.files t.files)=((f==0)&&((e==7)&&!R)||(e==f))):=by show _=_;rw[A];exact o
 clear C o A;have z:R=true\/R=false:=by cases R<;>simp
 have l:(e==7)=true\/(e==7)=false:=by cases (e==7)<;>simp
 have d:(e==0)=true\/(e==0)=false:=by cases (e==0)<;>simp
 have b:(f==0)=true\/(f==0)=false:=by cases (f==0)<;>simp
 obtain b|b:=b
 .have i:f=0:=ai5.1 b;obtain l|l:=l
  .have n:e=7:=ai5.1 l;have u:(e==0)=false:=by rw[n];rfl
   have a:(e==f)=false:=by rw[n,i];rfl
   clear d n i;obtain rfl|rfl:=z
   .go_wp2
    go_ret;refine⟨?_,f1,?_⟩;rw[HR.out,b,l,a];rfl;unfold lx;rw[Γ (by rw[m.out,u];simp)];exact hr
   .go_wp2
    go_ret;refine⟨?_,f1,?_⟩;rw[HR.out,b,l,a];rfl;unfold lx;rw[Γ (by rw[m.out,u];simp)];exact hr
  .have a:(e==f)=(e==0):=by rw[i]
   clear z i;obtain d|d:=d
   .rw[d]at a
    go_wp2;go_ret;refine⟨?_,f1.trans (aG.setCell [g] w1 ⟨g,3+k,none⟩ _ ϛ) (by intro j G;left;exact G),?_⟩
    rw[HR.out,b,l,a];rfl;unfold lx;rw[κ (by rw[m.out,d,b];rfl)];exact hr.setCell ..
   .rw[d]at a
    go_wp2;go_ret;refine⟨?_,f1,?_⟩
    rw[HR.out,b,l,a];rfl;unfold lx;rw[Γ (by rw[m.out,d];simp)];exact hr
 .clear z l;have p:f≠0:=by simpa using b
  obtain d|d:=d
  .have a:(e==f)=false:=by rw[ai5.1 d];simpa usingλq:0=f=>p q.symm
   clear p;go_wp2;go_ret;refine⟨?_,f1,?_⟩;rw[HR.out,b,a];rfl;unfold lx;rw[Γ (by rw[m.out,b];simp)];exact hr
  .clear p;have E:(e==f)=true\/(e==f)=false:=by cases (e==f)<;>simp
   obtain a|a:=E
   .go_wp2
    go_ret;refine⟨?_,f1,?_⟩;rw[HR.out,b,a];rfl;unfold lx;rw[Γ (by rw[m.out,b];simp)];exact hr
   .go_wp2
    go_ret;refine⟨?_,f1,?_⟩;rw[HR.out,b,a];rfl;unfold lx;rw[Γ (by rw[m.out,b];simp)];exact hr
section
variable (w:Φ)
def jp:Calls prog 44 #[.pointer none] w λe w'=>e=.returned (.bool true)/\w'=w:=by
 go_enter func44,ntmps44;go_wp2;go_ret;exact⟨rfl,rfl⟩
def tJ:Calls prog 46 #[.pointer none] w λe w'=>e=.returned (.bool true)/\w'=w:=by
 go_enter func46,ntmps46;go_wp2_with fail;refine(jp w).mono ?_;rintro e w1⟨rfl,rfl⟩;go_wp2;go_ret;exact⟨rfl,rfl⟩
def A4:Calls prog 54 #[.pointer none] w λe w'=>e=.returned (.int .i64 3)/\w'=w:=by
 go_enter func54,ntmps54;go_wp2_with fail;refine(tJ w).mono ?_;rintro e w1⟨rfl,rfl⟩;go_wp2;go_ret;exact⟨rfl,rfl⟩
def PO(a:Int):Calls prog 23 #[.pointer none,.int .i64 a] w λe w'=>e=.returned (.tuple #[.slice none 0 0,.int .i64 3])/\w'=w:=by
 go_enter func23,ntmps23;go_wp2_with fail;refine(jp w).mono ?_;rintro e w1⟨rfl,rfl⟩;go_wp2
 go_ret2
 exact⟨rfl,rfl⟩
def get_nil(a:Int)(p:Ξ):Calls prog 22 #[.pointer none,.int .i64 a,.string p] w λe w'=>e=.returned (.tuple #[.string ⟨#[]⟩,.int .i64 3])/\w'=w:=by
 go_enter func22,ntmps22;go_wp2_with fail;refine(jp w).mono ?_;rintro e w1⟨rfl,rfl⟩;go_wp2
 go_ret2
 exact⟨rfl,rfl⟩
def Tx(a:Int)(p c:Ξ):Calls prog 39 #[.pointer none,.int .i64 a,.string p,.string c] w λe w'=>e=.returned (.int .i64 3)/\aG [] w w':=by
 go_enter func39,ntmps39;go_wp2_with fail;refine(jp w).mono ?_;rintro e w1⟨rfl,rfl⟩;go_wp2;go_ret;exact⟨rfl,aG.refl ..⟩
def Fp:Calls prog 32 #[.pointer none] w λe w'=>e=.returned (.int .i64 3)/\w'=w:=by
 go_enter func32,ntmps32;go_wp2_with fail;refine(tJ w).mono ?_;rintro e w1⟨rfl,rfl⟩;go_wp2;go_ret;exact⟨rfl,rfl⟩
end
open gz gz.Sq in
def GP{E:aB.Env}{wL:Φ}:aB.CC E 31 #[.pointer none] (λv w'=>v=.tuple #[cL,.int .i64 3]/\nU [] wL w') wL:=by
 refine aB.jZ func31 rfl ?_;refine aB.dI ?_;refine OR {tmps:=#[.pointer none,ϗ,ϗ,ϗ,ϗ,ϗ,ϗ,ϗ,ϗ,ϗ,ϗ,ϗ,ϗ,ϗ,ϗ,ϗ,ϗ,ϗ,ϗ,ϗ,ϗ,ϗ,ϗ,ϗ,ϗ,ϗ,ϗ,ϗ,ϗ,ϗ,ϗ,ϗ,ϗ],defers:=[]} ϰ ?_;refine aB.cU none ⟨_,func31⟩ (λw=>nU [] wL w) (λw t k h=>h.tape t k) (nU.refl ..) λw f o=>?_
 go_wp2_with (with_reducible refine au rfl ?_);refine br rfl 58 rfl _ fN ?_;intro w1 b2 l2 f2 r2;have b:=f.trans f2.blk;have n:wL.heap.size<=b2:=ϖ;clear f f2;go_wp2_with fail;refine aB.dI (aB.cU none ⟨_,func31⟩ (λw=>nU [] wL w/\Row w b2 cL.cells 58) (λw t k h=>⟨h.1.tape t k,h.2⟩) ⟨b,r2⟩ λw2 p a=>?_);have⟨c,d⟩:=p;clear b r2 a;go_wp2_with fail;refine(A4 w2).mono ?_;rintro e l⟨rfl,rfl⟩;go_wp2_with (with_reducible refine bC 58 rfl ?_);refine bX rfl cL l ϰ ?_;go_wp2_with (with_reducible refine ah 58 rfl ?_);refine gj rfl 58 _ _ rfl b2 rfl cL.cells rfl cY (by decide) _ _ d rfl ?_;intro g j r4;go_wp2_with fail;refine⟨g.tape,g.drawn,.tuple #[cL,.int .i64 3],?_,rfl,?_⟩;exact lP (tp:=2) (tq:=3) (ty:=58) rfl _ _ b2 _ _ rfl r4 cY;exact c.trans j.blk (by intro i m;right;simp at m;omega)
def B5(n:Int)(w:Φ):Calls prog 48 #[.int .i64 n] w λe w'=>e=.returned (.bool ((n==0||n==1)||n==2))/\w'=w:=by
 go_enter func48,ntmps48;go_wp2_with fail;refine(kv n w).mono ?_;rintro e w1⟨rfl,rfl⟩;have d1:(n==0||n==1)=true\/(n==0||n==1)=false:=by cases (n==0||n==1)<;>simp
 obtain h1|h1:=d1
 .have a:Hid ((n==0||n==1)=true):=h1;rw[h1];clear h1;go_wp2;go_ret;exact⟨by rw[a.out];rfl,rfl⟩
 .have a:Hid ((n==0||n==1)=false):=h1;rw[h1];clear h1;go_wp2;go_ret;exact⟨by rw[a.out];rfl,rfl⟩
def BJ(n:Int):(n==0||n==1)=decide (0<=n/\n<=1):=by
 by_cases h:0<=n/\n<=1;rw[decide_eq_true h];rcases(by omega:n=0\/n=1)with rfl|rfl<;>rfl
 rw[decide_eq_false h];simp;omega
def EX(n:Int):((n==0||n==1)||n==2)=decide (0<=n/\n<=2):=by
 by_cases h:0<=n/\n<=2;rw[decide_eq_true h];rcases(by omega:n=0\/n=1\/n=2)with rfl|rfl|rfl<;>rfl
 rw[decide_eq_false h];simp;omega
def LL(F:ϓ)(s d n:Nat)(x:DS)(a:Int)(p c:Ξ)(w:Φ)(h:oF w F s d n x)(j:p.size<=9223372036854775807)(m:c.size<=9223372036854775807)(f:¬(0<=a/\a<=1)\/aX p.data.toList=false\/96<c.size):
  Calls prog 39 #[.pointer (some ⟨s,0,none⟩),.int .i64 a,.string p,.string c] w λe w'=>e=.returned (.int .i64 1)/\aG [] w w':=by
 go_enter func39,ntmps39;go_wp2_with fail;refine(dQ F s d n x w h).mono ?_;rintro e w1⟨rfl,rfl⟩;go_wp2_with fail;refine(kv a w1).mono ?_;rintro e w2⟨rfl,rfl⟩;rw[BJ];by_cases h1:0<=a/\a<=1
 .rw[decide_eq_true h1];go_wp2_with fail;refine(iE p w2 j).mono ?_;rintro e l⟨rfl,g⟩;cases i:aX p.data.toList with
  |false=>
   go_wp2;go_ret;exact⟨rfl,g⟩
  |true=>
   have b:(c.size:Int)>96:=by obtain q|q|q:=f<;>first|exact absurd h1 q|(rw[i]at q;cases q)|omega
   have hd:decide ((c.size:Int)>96)=true:=decide_eq_true b;have k:decide (96<(c.size:Int))=true:=decide_eq_true b;clear f;go_wp2;go_ret;exact⟨rfl,g⟩
 .rw[decide_eq_false h1]
  go_wp2;go_ret;exact⟨rfl,aG.refl ..⟩
def Dd(F:ϓ)(s d n:Nat)(x:DS)(a:Int)(p:Ξ)(w:Φ)(h:oF w F s d n x)(f:p.size<=9223372036854775807)(c:¬(0<=a/\a<=1)\/aX p.data.toList=false):
  Calls prog 42 #[.pointer (some ⟨s,0,none⟩),.int .i64 a,.string p] w λe w'=>e=.returned (.int .i64 1)/\aG [] w w':=by
 go_enter func42,ntmps42;go_wp2_with fail;refine(dQ F s d n x w h).mono ?_;rintro e w1⟨rfl,rfl⟩;go_wp2_with fail;refine(kv a w1).mono ?_;rintro e w2⟨rfl,rfl⟩;rw[BJ];by_cases h1:0<=a/\a<=1
 .have b:aX p.data.toList=false:=by obtain q|q:=c<;>first|exact absurd h1 q|exact q
  rw[decide_eq_true h1];go_wp2_with fail;refine(iE p w2 f).mono ?_;rintro e i⟨rfl,g⟩;rw[b];go_wp2;go_ret;exact⟨rfl,g⟩
 .rw[decide_eq_false h1]
  go_wp2;go_ret;exact⟨rfl,aG.refl ..⟩
def MF(F:ϓ)(s d n:Nat)(x:DS)(a:Int)(p:Ξ)(w:Φ)(h:oF w F s d n x)(f:p.size<=9223372036854775807)(c:¬(0<=a/\a<=2)\/aX p.data.toList=false):
  Calls prog 22 #[.pointer (some ⟨s,0,none⟩),.int .i64 a,.string p] w λe w'=>e=.returned (.tuple #[.string ⟨#[]⟩,.int .i64 1])/\aG [] w w':=by
 go_enter func22,ntmps22;go_wp2_with fail;refine(dQ F s d n x w h).mono ?_;rintro e w1⟨rfl,rfl⟩;go_wp2_with fail;refine(B5 a w1).mono ?_;rintro e w2⟨rfl,rfl⟩;rw[EX];by_cases h1:0<=a/\a<=2
 .have b:aX p.data.toList=false:=by obtain q|q:=c<;>first|exact absurd h1 q|exact q
  rw[decide_eq_true h1];go_wp2_with fail;refine(iE p w2 f).mono ?_;rintro e i⟨rfl,g⟩;rw[b];go_wp2
  go_ret2
  exact⟨rfl,g⟩
 .rw[decide_eq_false h1]
  go_wp2
  go_ret2
  exact⟨rfl,aG.refl ..⟩
def IB(F:ϓ)(s d n:Nat)(x:DS)(a:Int)(w:Φ)(h:oF w F s d n x)(h1:¬(0<=a/\a<=2)):
  Calls prog 23 #[.pointer (some ⟨s,0,none⟩),.int .i64 a] w λe w'=>e=.returned (.tuple #[.slice none 0 0,.int .i64 1])/\aG [] w w':=by
 go_enter func23,ntmps23;go_wp2_with fail;refine(dQ F s d n x w h).mono ?_;rintro e w1⟨rfl,rfl⟩;go_wp2_with fail;refine(B5 a w1).mono ?_;rintro e w2⟨rfl,rfl⟩;rw[EX,decide_eq_false h1];go_wp2
 go_ret2
 exact⟨rfl,aG.refl ..⟩
def I4(F:ϓ)(s d n:Nat)(x:DS)(k a:Int)(w:Φ)(h:oF w F s d n x)(hf:x.failed=false)(hk:k<0):
  Calls prog 20 #[.pointer (some ⟨s,0,none⟩),.int .i64 k,.int .i64 a] w λe w'=>e=.returned (.int .i64 1)/\w'=w:=by
 have hd:decide (k<0)=true:=decide_eq_true hk;go_enter func20,ntmps20;go_wp2_with fail;refine(mO F s d n x w h).mono ?_;rintro e w1⟨rfl,rfl⟩;rw[hf];go_wp2;go_ret;exact⟨rfl,rfl⟩
def Ig(a:Int)(p:Ξ)(w:Φ):Calls prog 42 #[.pointer none,.int .i64 a,.string p] w λe w'=>e=.returned (.int .i64 3)/\w'=w:=by
 go_enter func42,ntmps42;go_wp2_with fail;refine(jp w).mono ?_;rintro e w1⟨rfl,rfl⟩;go_wp2;go_ret;exact⟨rfl,rfl⟩
def Ax(w:Φ):Calls prog 18 #[.pointer none] w λe w'=>e=.returned (.int .i64 0)/\w'=w:=by
 go_enter func18,ntmps18;go_wp2_with fail;refine(jp w).mono ?_;rintro e w1⟨rfl,rfl⟩;go_wp2;go_ret;exact⟨rfl,rfl⟩
def Ni(w:Φ):Calls prog 26 #[.pointer none] w λe w'=>e=.returned (.string ⟨#[]⟩)/\w'=w:=by
 go_enter func26,ntmps26;go_wp2_with fail;refine(jp w).mono ?_;rintro e w1⟨rfl,rfl⟩;go_wp2;go_ret;exact⟨rfl,rfl⟩
def Qx(k a:Int)(w:Φ):Calls prog 20 #[.pointer none,.int .i64 k,.int .i64 a] w λe w'=>e=.returned (.int .i64 3)/\w'=w:=by
 go_enter func20,ntmps20;go_wp2_with fail;refine(tJ w).mono ?_;rintro e w1⟨rfl,rfl⟩;go_wp2;go_ret;exact⟨rfl,rfl⟩
def OL(a:Int)(p c:Ξ)(w:Φ):Calls prog 61 #[.pointer none,.int .i64 a,.string p,.string c] w λe w'=>e=.returned (.tuple #[.pointer none,.int .i64 3])/\w'=w:=by
 go_enter func61,ntmps61;go_wp2
 go_ret2
 exact⟨rfl,rfl⟩
def E8(a:Int)(p:Ξ)(w:Φ):Calls prog 63 #[.pointer none,.int .i64 a,.string p] w λe w'=>e=.returned (.tuple #[.pointer none,.int .i64 3])/\w'=w:=by
 go_enter func63,ntmps63;go_wp2
 go_ret2
 exact⟨rfl,rfl⟩
def OO(a:Int)(p:Ξ)(w:Φ):Calls prog 64 #[.pointer none,.int .i64 a,.string p] w λe w'=>e=.returned (.tuple #[.string ⟨#[]⟩,.int .i64 3])/\w'=w:=by
 go_enter func64,ntmps64;go_wp2
 go_ret2
 exact⟨rfl,rfl⟩
def LC(a:Int)(w:Φ):Calls prog 65 #[.pointer none,.int .i64 a] w λe w'=>e=.returned (.tuple #[.slice none 0 0,.int .i64 3])/\w'=w:=by
 go_enter func65,ntmps65;go_wp2
 go_ret2
 exact⟨rfl,rfl⟩
def L5(n:Int)(w:Φ)(h:n<16\/400<n):Calls prog 40 #[.int .i64 n] w λe w'=>e=.returned (.tuple #[.pointer none,.int .i64 1])/\w'=w:=by
 go_enter func40,ntmps40;go_wp2_with fail;refine(tI n w).mono ?_;rintro e w1⟨rfl,rfl⟩;have e1:(decide (16<=n)&&decide (n<=400))=false:=by simp;omega
 rw[e1];go_wp2
 go_ret2
 exact⟨rfl,rfl⟩
def Xt(w:Φ)(g k:Nat)(c:ϐ)(n:Int)(e:Ending)(w':Φ):Prop:=
 e=.returned (.bool true)/\((16<=n/\n<=400/\∃s d F q w2,oF w2 F s d n.toNat (DS.fresh (iF n.toNat))/\aG [] w w2/\aG [g] w2 w'/\oF w' F s d n.toNat (DS.fresh (iF n.toNat))/\bN w' q ⟨[],[],[],n.toNat⟩/\Row w' g ((c.setIfInBounds k (.pointer (some ⟨s,0,none⟩))).setIfInBounds (3+k) (.pointer (some ⟨q,0,none⟩))) 73/\dw [] F w)\/(¬(16<=n/\n<=400)/\Row w' g c 73/\aG [] w w'))
def zB(g k:Nat)(hk:k<=2)(c:ϐ)(n:Int)(w:Φ)(hr:Row w g c 73)(O:c.size=7)(L:-9223372036854775808<=n/\n<=9223372036854775807):
  Calls prog 33 #[.pointer (some ⟨g,0,none⟩),.int .i64 k,.int .i64 n] w (Xt w g k c n):=by
 have K:(k:Int)<3:=ϖ;by_cases hs:16<=n/\n<=400
 .obtain⟨m,rfl⟩:∃m:Nat,n=m:=⟨n.toNat,ϖ⟩
  have hm:16<=m/\m<=400:=ϖ;go_enter func33,ntmps33;go_wp2_with fail;refine(TX m w hm.1 hm.2).mono ?_;rintro e w1⟨s,d,F,rfl,C,f1,y,l1⟩;go_wp2_with fail;refine(Fa m w1).mono ?_;rintro e w2 (⟨b,_⟩|⟨_,q,rfl,G,f2,l2⟩);exact absurd hs b;have p:=C.new f2;have l:=f1.trans f2;have a:=l.row hr;have hg:=hr.lt;have f:∃u,w2.cell? ⟨g,k,none⟩=some u:=by rw[a.cell];exact⟨c[k]'ϖ,τ ϖ⟩
  have i:∃u,(w2.setCell ⟨g,k,none⟩ (.pointer (some ⟨s,0,none⟩))).cell? ⟨g,3+k,none⟩=some u:=by rw[(a.setCell k _).cell];exact⟨_,τ (by simp;omega)⟩
  have D:=a.thaw k;have v:=(a.setCell k (.pointer (some ⟨s,0,none⟩))).thaw (3+k);have⟨u,f⟩:=f;have⟨N,i⟩:=i;have H:=f1.size;clear C f1 hr;go_wp2_with fail;have B:aG [g] w2 (w2.setCell ⟨g,k,none⟩ (.pointer (some ⟨s,0,none⟩))):=aG.setCell ..;have A:=a.setCell k (.pointer (some ⟨s,0,none⟩));have r:=B.trans (aG.setCell [g] (w2.setCell ⟨g,k,none⟩ (.pointer (some ⟨s,0,none⟩))) ⟨g,3+k,none⟩ (.pointer (some ⟨q,0,none⟩)) ϛ) (by intro j I;left;exact I);have z:=A.setCell (3+k) (.pointer (some ⟨q,0,none⟩));have x:g∉F:=λh=>by have:=y g h;simp at this;omega
  have t:=p.ky r (by simp;omega) (by simpa using x);have o:bN _ q ⟨[],[],[],m⟩:=bN.off (by simpa using G) r ϖ a (by decide);clear B A f i D v;generalize (w2.setCell ⟨g,k,none⟩ (.pointer (some ⟨s,0,none⟩))).setCell ⟨g,3+k,none⟩ (.pointer (some ⟨q,0,none⟩))=E at r z t o⊢;refine(jy F s d m _ E t).mono ?_;rintro e M⟨rfl,rfl⟩;have J:(DS.fresh (iF m)).acts=0:=rfl;rw[J];go_wp2;go_ret;exact⟨rfl,.inl ⟨hs.1,hs.2,s,d,F,q,w2,p,l,r,t,o,z,y⟩⟩
 .have hm:n<16\/400<n:=ϖ;go_enter func33,ntmps33;go_wp2_with fail;refine(L5 n w hm).mono ?_;rintro e w1⟨rfl,rfl⟩;go_wp2_with fail;refine(Fa n w1).mono ?_;rintro e w2 (⟨_,rfl,rfl⟩|⟨b,_⟩)
  .go_wp2
   go_ret;exact⟨rfl,.inr ⟨hs,hr,aG.refl ..⟩⟩
  exact absurd b hs
end
section
open Go.RowKit Go.Lib Go.Sort
section
variable {L:List η}{n:Nat}{H:dE}{Q:List (List η)}
def iX.pending(h:iX L n Q H)(a:Int):(DS.calm L a).pending n=(H 3 []).isSome:=by
 have:=Has.content (x:=DS.calm L a) h.has rfl 3 [];unfold DS.pending;exact congrArg Option.isSome this
end
structure Match (n:Nat)(rs:RS)(L:List η):Prop where
 ex:∃Q H,iX L n Q H/\H 3 []=none/\Repr rs H
 n:rs.n=n
section
variable {L:List η}{n:Nat}{H:dE}{Q:List (List η)}{rs:RS}
def Repr.key(h:Repr rs H)(k:Nat)(hk:k<=2)(p:ϑ):p∈(rs.set k).map (·.1)↔H k p≠none:=by
 rw[<-h.at' k hk p,JR,ac9]
def Repr.nl(h:Repr rs H)(n:QF Q H)(o:H 3 []=none):NL H ((rs.a.map λf=>((0:Nat),f.1))++((rs.b.map λf=>((1:Nat),f.1))++(rs.o.map λf=>((2:Nat),f.1)))):=by
 have i:∀(l:fL)(k:Nat),V5 l->(l.map λf=>(k,f.1)).Nodup:=λl k hs=>by refine List.Pairwise.map _ ?_ hs;intro a b g e;have:a.1=b.1:=(Prod.mk.inj e).2;rw[this]at g;exact ϑ4 _ g
 have c:∀(l:fL)(k s:Nat)(p:ϑ),(s,p)∈(l.map λf=>(k,f.1))↔s=k/\p∈l.map (·.1):=λl k s p=>by rw[ac9,ac9];constructor;rintro⟨f,hf,e⟩;exact⟨(Prod.mk.inj e).1.symm,f,hf,(Prod.mk.inj e).2⟩;rintro⟨rfl,f,hf,rfl⟩;exact⟨f,hf,rfl⟩
 refine⟨?_,λs p=>?_⟩;rw[List.nodup_append];refine⟨i _ 0 (h.SL 0 ϖ),?_,λa ha b d e=>?_⟩;rw[List.nodup_append];refine⟨i _ 1 (h.SL 1 ϖ),i _ 2 (h.SL 2 ϖ),λa ha b d e=>?_⟩;subst e;have:=((c _ _ a.1 a.2).1 ha).1;have:=((c _ _ a.1 a.2).1 d).1;omega;subst e;have h0:=((c _ _ a.1 a.2).1 ha).1;obtain d|d:=ag4.1 d;have:=((c _ _ a.1 a.2).1 d).1;omega;have:=((c _ _ a.1 a.2).1 d).1;omega;rw[ag4,ag4,c,c,c];have j:=h.key 0 ϖ p;have m:=h.key 1 ϖ p;have k2:=h.key 2 ϖ p;constructor;rintro(⟨rfl,q⟩|⟨rfl,q⟩|⟨rfl,q⟩);exact j.1 q;exact m.1 q;exact k2.1 q;intro q;obtain⟨h2,_⟩|⟨rfl,rfl⟩:=n.names s p q;rcases(by omega:s=0\/s=1\/s=2)with rfl|rfl|rfl;exact .inl ⟨rfl,j.2 q⟩;exact .inr (.inl ⟨rfl,m.2 q⟩);exact .inr (.inr ⟨rfl,k2.2 q⟩);exact absurd o q
def Repr.cnt(h:Repr rs H)(hf:iX L n Q H)(a:H 3 []=none):ju L n=rs.files:=by
 rw[hf.has.cnt (h.nl hf.qf a)];simp[RS.files];omega
def Repr.in(h:Repr rs H)(b:QF Q H)(k:Nat)(hk:k<=2)(p:ϑ)(a:H k p≠none):p∈Q:=by
 obtain q|q:=b.names k p a;exact q.2;omega
def Repr.yW(h:Repr rs H)(a:QF Q H)(k:Nat)(hk:k<=2):(rs.set k).length<=7:=by
 have:=ij ((rs.set k).map (·.1)) Q (iM (yJ (h.SL k hk))) λp b=>h.in a k hk p ((h.key k hk p).1 b)
 rw[af2]at this;exact ac3 this a.len
def Repr.Dk(h:Repr rs H)(a:QF Q H):rs.paths.length<=7:=by
 refine ac3 (ij rs.paths Q (iM rs.jN) λp b=>?_) a.len;rcases(h.mem p).1 b with q|q|q;exact h.in a 0 ϖ p q;exact h.in a 1 ϖ p q;exact h.in a 2 ϖ p q
def Match.yW(M:Match n rs L)(k:Nat)(hk:k<=2):(rs.set k).length<=7:=by
 have⟨Q,H,hf,b,a⟩:=M.ex;exact a.yW hf.qf k hk
def Match.Dk(M:Match n rs L):rs.paths.length<=7:=by
 have⟨Q,H,hf,b,a⟩:=M.ex;exact a.Dk hf.qf
def Cr(fs:List dk)(l:List (List η))(b:l.Nodup)(hm:∀p,p∈l↔∃f∈fs,f.set≠3/\f.path=p):kz fs=l.length:=by
 show(x8 fs).length=l.length;have c:(x8 fs).Nodup:=Bh vL;exact Nat.le_antisymm (ij _ _ c λp a=>(hm p).2 (xk.1 a)) (ij _ _ b λp a=>xk.2 ((hm p).1 a))
def iX.files(hf:iX L n Q H)(a:Int)(p:ϑ):(∃f∈aS (DS.calm L a) n,f.set≠3/\f.path=p)↔H 0 p≠none\/H 1 p≠none\/H 2 p≠none:=by
 have⟨⟨m,hr,hm⟩,d⟩:=hf;rw[oJ (x:=DS.calm L a) hr rfl];constructor;rintro⟨f,hf,h3,rfl⟩;have⟨i,c⟩:=hr.mem.1 hf;have b:=tK (hm f.set f.path) c rfl;obtain⟨h2,_⟩|⟨q,_⟩:=d.names _ _ b;rcases(by omega:f.set=0\/f.set=1\/f.set=2)with e|e|e;rw[e]at b;exact .inl b;rw[e]at b;exact .inr (.inl b);rw[e]at b;exact .inr (.inr b);exact absurd q h3;have one:∀s:Nat,s<=2->H s p≠none->∃f∈lD n m,f.set≠3/\f.path=p:=λs hs b=>by obtain⟨i,f,c,rfl,rfl⟩:=tL (hm s p) b;exact⟨f,hr.mem.2 ⟨i,c⟩,ϖ,rfl⟩
 rintro(q|q|q);exact one 0 ϖ q;exact one 1 ϖ q;exact one 2 ϖ q
def Repr.put_mem(h:Repr rs H)(a:Nat)(hs:a<=1)(p c:ϑ)(q:ϑ):q∈(rs.upd a (bj p c true false (rs.set a))).paths↔q∈rs.paths\/q=p:=by
 have b:Repr (rs.upd a (bj p c true false (rs.set a))) (gn H a p (some c)):=h.upd a ϖ p c true;rw[b.mem,h.mem];unfold gn;by_cases e:q=p;subst e;refine⟨λ_=>.inr rfl,λ_=>?_⟩;rcases(by omega:a=0\/a=1)with rfl|rfl;left;simp;right;left;simp;have e2:∀s:Nat,¬(s=a/\q=p):=λs r=>e r.2
 rw[Γ (e2 0),Γ (e2 1),Γ (e2 2)];exact⟨λr=>.inl r,λr=>r.resolve_right e⟩
def iX.more(hf:iX L n Q H)(c:∀s p,H s p≠none->(s<=2/\p∈Q')\/(s=3/\p=[]))(a:Q'.length<=7)(b:∀p∈Q',aX p=true):iX L n Q' H:=⟨hf.has,c,a,b⟩
def Ny(n:Nat)(rs:RS)(r:RS×Int)(L L':ϑ)(k e:Int):Prop:=
 (e=0/\r.2=0/\Match n r.1 L')\/(L'=L/\k=0/\e≠0/\r.2=e)\/(L'=L/\k=0/\e=7/\r.2=0/\iA n rs.files r.1.files=false)
def Match.put(M:Match n rs L)(b:Nat)(hs:b<=1)(p c:ϑ)(w:aX p=true)(x:c.length<=96)(a:Int):
  ∃L' k e,(DS.calm L a).AP n b (aj p) (aj c)=(DS.calm L' (a+k),.int .i64 e)/\0<=k/\k<=5/\Ny n rs (rs.put b p c) L L' k e:=by
 have⟨⟨Q,H,hf,j,d⟩,z⟩:=M;have v:=hf.pending a;rw[j]at v;have y:Repr (rs.upd b (bj p c true false (rs.set b))) (gn H b p (some c)):=d.upd b ϖ p c true;have h:rs.put b p c=if 7<(rs.upd b (bj p c true false (rs.set b))).paths.length then(rs,6)else(rs.upd b (bj p c true false (rs.set b)),0):=by unfold RS.put;rw[Γ (by rw[w];simp;omega)];rfl
 have hcd:kz (aS (DS.calm L a) n++[⟨b,(aj p).data.toList,(aj c).data.toList⟩])=(rs.upd b (bj p c true false (rs.set b))).paths.length:=by
  refine Cr _ _ (iM (RS.jN _)) λq=>?_
  rw[d.put_mem b hs p c q,d.mem,<-hf.files a q];constructor;rintro(⟨f,hf,r⟩|rfl);exact⟨f,ag4.2 (.inl hf),r⟩;exact⟨_,ag4.2 (.inr (ξ.2 rfl)),by show b≠3;omega,rfl⟩;rintro⟨f,hm,r1,r2⟩;obtain hm|hm:=ag4.1 hm;exact .inl ⟨f,hm,r1,r2⟩;obtain rfl:=ξ.1 hm;exact .inr r2.symm
 have l:(DS.calm L a).AP n b (aj p) (aj c)=if 7<(rs.upd b (bj p c true false (rs.set b))).paths.length then(DS.calm L a,.int .i64 6)else(DS.calm L a).put n b (aj p) (aj c):=by unfold DS.AP;rw[hcd,v];rfl
 rw[l,h];by_cases i:7<(rs.upd b (bj p c true false (rs.set b))).paths.length;rw[κ i,κ i];exact⟨L,0,6,by rw[ϒ6],ϖ,ϖ,.inr (.inl ⟨rfl,rfl,ϖ,rfl⟩)⟩;rw[Γ i,Γ i];have t:iX L n (rs.upd b (bj p c true false (rs.set b))).paths H:=by
  refine hf.more (λs q g=>?_) ϖ λq g=>?_
  obtain⟨r,_⟩|r:=hf.qf.names s q g;refine .inl ⟨r,(d.put_mem b hs p c q).2 (.inl ((d.mem q).2 ?_))⟩;rcases(by omega:s=0\/s=1\/s=2)with rfl|rfl|rfl;exact .inl g;exact .inr (.inl g);exact .inr (.inr g);exact .inr r;rcases(d.put_mem b hs p c q).1 g with r|rfl;refine hf.qf.path q ?_;rcases(d.mem q).1 r with r|r|r;exact d.in hf.qf 0 ϖ q r;exact d.in hf.qf 1 ϖ q r;exact d.in hf.qf 2 ϖ q r;exact w
 have o:p∈(rs.upd b (bj p c true false (rs.set b))).paths:=(d.put_mem b hs p c p).2 (.inr rfl);obtain⟨_,L',q1,_,q2⟩|⟨hfull,q2⟩:=t.put' b p c (.inl ⟨ϖ,o⟩) x;have u:gn H b p (some c) 3 []=none:=by unfold gn;rw[Γ ϖ];exact j
 exact⟨L',5,0,q2 a,ϖ,ϖ,.inl ⟨rfl,rfl,⟨_,_,q1,u,y⟩,by rw[RS.NZ];exact z⟩⟩;refine⟨L,0,7,by rw[q2 a,ϒ6],ϖ,ϖ,.inr (.inr ⟨rfl,rfl,rfl,rfl,?_⟩)⟩;cases hr:iA n rs.files (rs.upd b (bj p c true false (rs.set b))).files with
 |false=>rfl
 |true=>
  exfalso;have A:=d.yW hf.qf 0 ϖ;have s1:=d.yW hf.qf 1 ϖ;have s2:=d.yW hf.qf 2 ϖ;have m:rs.files<=21:=by have B:(rs.set 0).length=rs.a.length:=rfl;have e1:(rs.set 1).length=rs.b.length:=rfl;have e2:(rs.set 2).length=rs.o.length:=rfl;unfold RS.files;omega
  have:=y9 hr (c:=rs.files) ϖ m;have:=d.cnt hf j;omega
def Match.remove(M:Match n rs L)(b:Nat)(hs:b<=1)(p:ϑ)(m:aX p=true)(a:Int):
  ∃L' k e,(DS.calm L a).lK n b (aj p)=(DS.calm L' (a+k),.int .i64 e)/\0<=k/\k<=5/\Ny n rs (rs.remove b p) L L' k e:=by
 have⟨⟨Q,H,hf,l,d⟩,r⟩:=M;have j:=hf.pending a;rw[l]at j;have i:(DS.calm L a).lK n b (aj p)=(DS.calm L a).remove n b (aj p):=by unfold DS.lK;rw[j];rfl
 have h:rs.remove b p=if gO (rs.set b) p=none then(rs,5)else(rs.upd b (bj p [] false false (rs.set b)),0):=by unfold RS.remove;rw[Γ (by rw[m];simp;omega)];rfl
 rw[i,h,d.at' b ϖ p];by_cases c:H b p=none;rw[κ c,DI hf.has b p c a];exact⟨L,0,5,by rw[ϒ6],ϖ,ϖ,.inr (.inl ⟨rfl,rfl,ϖ,rfl⟩)⟩;rw[Γ c];have f:=d.in hf.qf b ϖ p c;have⟨L',q1,_,q⟩:=hf.De b p (.inl ⟨ϖ,f⟩) c;have o:Repr (rs.upd b (bj p [] false false (rs.set b))) (gn H b p none):=d.upd b ϖ p [] false;have g:gn H b p none 3 []=none:=by unfold gn;rw[Γ ϖ];exact l
 exact⟨L',2,0,q a,ϖ,ϖ,.inl ⟨rfl,rfl,⟨_,_,q1,g,o⟩,by rw[RS.NZ];exact r⟩⟩
def Match.get(M:Match n rs L)(b:Nat)(hs:b<=2)(p:ϑ)(d:aX p=true)(a:Int):
  (DS.calm L a).get n b (aj p)=(.string (aj (rs.get b p).1),(rs.get b p).2):=by
 have⟨⟨Q,H,hf,g,e⟩,h⟩:=M;have f:(DS.calm L a).content n b (aj p)=H b p:=Has.content (x:=DS.calm L a) hf.has rfl b p;have hg:rs.get b p=(match gO (rs.set b) p with|none=>(([],5):List η×Int)|some c=>(c,0)):=by unfold RS.get;rw[Γ (by rw[d];simp;omega)];rfl
 rw[hg,e.at' b hs p];unfold DS.get;rw[f];cases H b p<;>rfl
def Match.open(M:Match n rs L):(DS.fresh L).D4 n=true/\(DS.fresh L).pending n=false:=by
 have⟨⟨Q,H,hf,c,b⟩,d⟩:=M;have a:=hf.pending 0;rw[c]at a;refine⟨?_,a⟩;have hcd:kz (aS (DS.calm L 0) n)=rs.paths.length:=Cr _ _ (iM rs.jN) λq=>by rw[b.mem,<-hf.files 0 q]
 have e:=b.Dk hf.qf;have⟨m,hr,hm⟩:=hf.has;unfold DS.D4;rw[LD (x:=DS.fresh L) hr rfl,Bool.true_and,ai0];have:kz (aS (DS.fresh L) n)=rs.paths.length:=hcd;omega
def Match.empty(n:Nat)(a:16<=n):Match n ⟨[],[],[],n⟩ (iF n):=by
 have e:∀k,(⟨[],[],[],n⟩:RS).set k=[]:=λk=>by unfold RS.set;by_cases h0:k=0;rw[κ h0];rw[Γ h0];by_cases h1:k=1;rw[κ h1];rw[Γ h1]
 refine⟨⟨[],λ_ _=>none,⟨⟨λ_=>none,LF n a,λs p i f hf=>by cases hf⟩,⟨λs p h=>absurd rfl h,ϛ,ϛ⟩⟩,rfl,⟨λk _=>?_,λk _ p=>?_⟩⟩,rfl⟩;rw[e k];exact List.Pairwise.nil;rw[e k];rfl
end
def nn(ps:List (List η)):List (List η):=ps.mergeSort λx y=>decide (x<=y)
def Mg(F:ϓ)(s d n:Nat)(x:DS)(a:Nat)(w:Φ)(h:oF w F s d n x)(hs:a<=2)(hf:x.failed=false):
  Calls prog 23 #[.pointer (some ⟨s,0,none⟩),.int .i64 a] w λe w'=>
   ∃v,e=.returned (.tuple #[v,.int .i64 0])/\w'.ownsRow w.heap.size 9 1 v (nn (cD (aS x n) a)).length (bJ (nn (cD (aS x n) a)))/\aG [] w w':=by
 have c0:=h.cell;have⟨bl,vw,hd⟩:=h.oz;have al:(aS x n).length<=54:=by unfold aS;rw[af2];exact fM x n
 go_enter func23,ntmps23;go_wp2_with fail;refine(dQ F s d n x w h).mono ?_;rintro e w1⟨rfl,rfl⟩;go_wp2_with fail;refine(Ca a w1 hs).mono ?_;rintro e w2⟨rfl,rfl⟩;go_wp2_with fail;refine(mO F s d n x w2 h).mono ?_;rintro e I⟨rfl,rfl⟩;rw[hf];go_wp2_with fail;refine(yq d bl n vw x I hd).mono ?_;rintro e D⟨v,rfl,hv,fa⟩;generalize H:aS x n=fs at*
 have K:Hid (aS x n=fs):=H;clear H;have⟨ad,cap,W⟩:=aY hv;subst W;have R:I.heap.size<=D.heap.size:=fa.size;clear h hd c0;go_wp2_with fail
 go_loopw [6,22] (λu c wr=>∃k:Nat,c=.int .i64 k/\k<=fs.length/\aG [] D wr/\wr.ownsRow D.heap.size 9 1 u (cD (fs.take k) a).length (bJ (cD (fs.take k) a))) λ_ c _=>fs.length-(intOf c).toNat
 case atStart=>exact⟨0,rfl,ϖ,aG.refl ..,World.ownsRow_nil ..⟩
 case round=>
  obtain⟨k,rfl,hk,P,A⟩:=hrel;have C:=P.owns hv;by_cases G:k<fs.length
  .obtain⟨g,r,rfl,hg,ag,_,y,l⟩:=cO C;have t:((r.toList.drop (k*3)).take 3)=cA fs[k].set fs[k].path fs[k].content:=by
    rw[pA l _ _,vh fs k G]
   have b:=EV fs a k G;have X:(cD (fs.take k) a).length<=1000:=by have:=yV (fs.take k) a;rw[ac8]at this;omega
   generalize fs[k]=f at t b;have p:Hid (cD (fs.take (k+1)) a=if f.set=a then cD (fs.take k) a++[f.path]else cD (fs.take k) a):=b;generalize cD (fs.take k) a=ps at*;clear b y l;go_wp2_with (with_reducible refine ax 107 rfl ?_);refine bT rfl 107 _ rfl g (k*3) rfl kV 3 eS _ _ hg (cA f.set f.path f.content) t rfl ?_;clear t hg;go_wp2_with (with_reducible first|refine au rfl ?_|refine ah 107 rfl ?_);refine aas 107 lY _ eS (h1:=by simp[cA,Value.oneCell']) λw5 b5 l5 f4 q5=>?_
   have Y:Row w5 b5 (cA f.set f.path f.content).toArray 107:=q5;have z:=f4;have N:=P.trans z;have Z:=z.owns A;have c0:=Y.val 0 (.int .i64 f.set);have c1:=Y.val 1 (.string (aj f.path));clear q5 f4 z P A l5 C Y;by_cases O:f.set=a
   .have Jv:Hid (cD (fs.take (k+1)) a=ps++[f.path]):=by show _=_;rw[p.out,κ O]
    rw[O]at c0;clear p O;go_wp2_with (with_reducible refine aQ rfl ?_);refine dj rfl 45 9 1 16 cJ _ rfl (.string (aj f.path)) rfl rfl ?_;intro w8 b8 l8 M r8;go_wp2_with (with_reducible first|refine aQ rfl ?_|refine aM rfl ?_);have qi:=M.owns Z;have o:D.heap.size<=w8.heap.size:=by have:=N.size;have:=M.size;omega
    refine dG rfl 45 9 1 16 cJ _ _ rfl D.heap.size u6 _ _ rfl qi b8 1 1 [.string (aj f.path)] rfl _ _ r8 rfl rfl (by simp[Value.oneCell']) ϖ ϖ ϖ o ?_;intro g' aa w9 nK f9 _;have Qu:=(N.trans M).trans f9 (by intro j L;right;simp at L;exact(qi.lt j L).1);clear Z qi r8 M f9 l8 N o c0 c1;go_wp2
    go_roundw
    case rel=>
     refine⟨k+1,by go_num,ϖ,Qu,?_⟩;rw[Jv.out];simpa[bJ,aj] using nK
    case measure=>simp[intOf];omega
   .have Jv:Hid (cD (fs.take (k+1)) a=ps):=by show _=_;rw[p.out,Γ O]
    have ac:((f.set:Int)==(a:Int))=false:=by rw[ae9];omega
    clear p;go_wp2
    go_roundw
    case rel=>exact⟨k+1,by go_num,ϖ,N,by rw[Jv.out];exact Z⟩
    case measure=>simp[intOf];omega
  .rw[ν ϖ]at A;have X:=yV fs a;have fw:aG [] I wr:=fa.trans P;generalize E:cD fs a=ps at*;have J:Hid (cD fs a=ps):=E;clear E;obtain⟨rfl,h0⟩|⟨g,c,r,rfl,hgb,hgh,hnc,_,y,l⟩:=A.2
   .have S:ps=[]:=Ϻ.1 h0;subst S;go_wp2_with fail;refine(Tryz.slices_Sort_string_none none 0 wr).mono ?_;rintro e Q⟨rfl,rfl⟩;go_wp2_with fail
    all_goals
     go_ret2
     exact⟨.slice none 0 0,rfl,by rw[K.out,J.out];show World.ownsRow _ _ _ _ _ (nn []).length (bJ (nn []));unfold nn;rw[List.mergeSort_nil];exact World.ownsRow_nil ..,fw⟩
   .have B:g<wr.heap.size:=(Ψ.1 hgh).1;have hH:Holds encStr wr g 0 ps.toArray:=λj L=>by
     have V:j<ps.length:=by simpa using L
     refine⟨?_,Lib.frozen_of_heap hgh _⟩;rw[Lib.cell_of_heap hgh];have h1:(r.toList.take (ps.length*1))[j]?=(bJ ps)[j]?:=by rw[l]
     rw[ak2 ϖ]at h1;rw[ϐ9,<-ai8,h1,al9 ps.toArray j L];simp[bJ,V]
    clear y l hgh;go_wp2_with fail;refine(Tryz.slices_Sort_string g 0 c ps wr hH B ϖ).mono ?_;rintro e Q⟨rfl,m,os,U⟩;have f6:aG [g] wr Q:=by rw[U];exact(((Qd wr m).mono (T:=[g]) ϛ).trans (pI encStr _ g 0 _) λi hi=>.inl hi).trans (vj ..)
    have sb:aG [] I Q:=fw.trans f6 (by simp;omega);have UF:Q.ownsRow I.heap.size 9 1 (.slice (some ⟨g,0,none⟩) ps.length c) ps.length (bJ (nn ps)):=by have q:=ownsRow_putRow (enc:=encStr) (q:=m) (k:=ps.length) (zs:=ps) (ys:=nn ps) (A.weak R) (ϑ1 _) (ε _);rw[ν (by unfold nn;rw[ϑ1];exact ε _)]at q;rw[U];exact(vj ..).owns q
    clear A;clear U hH f6;go_wp2_with fail
    all_goals
     go_ret2
     exact⟨.slice (some ⟨g,0,none⟩) ps.length c,rfl,by rw[K.out,J.out,show(nn ps).length=ps.length from ϑ1 _];exact UF,sb⟩
def Hv{fs:List dk}(h:(fs.map nameOf).Nodup)(s:Nat):(cD fs s).Nodup:=by
 unfold cD;induction fs with|nil=>simp|cons f r b=>rw[ϴ,ϒ4]at h;by_cases e:f.set=s;rw[ϐ5 (by simpa using e),ϴ,ϒ4];refine⟨λhm=>h.1 ?_,b h.2⟩;have⟨f',a,c⟩:=ac9.1 hm;have⟨h1,h2⟩:=ai3.1 a;refine ac9.2 ⟨f',h1,?_⟩;unfold nameOf;rw[c,e,show f'.set=s by simpa using h2];rw[ϓ1 (by simpa using e)];exact b h.2
def CQ(h:ps.Nodup):(nn ps).Pairwise (·<·):=by
 have h1:(nn ps).Pairwise (·<=·):=vL;have h2:(nn ps).Nodup:=(List.mergeSort_perm ps _).nodup_iff.2 h;refine(List.Pairwise.and h1 h2).imp fun {a b} c=>?_
 obtain q|q:=List.le_iff_lt_or_eq.1 c.1;exact q;exact absurd q c.2
def Match.list{n:Nat}{rs:RS}{L:ϑ}(M:Match n rs L)(b:Nat)(hs:b<=2)(a:Int):nn (cD (aS (DS.calm L a) n) b)=(rs.list b).1/\(rs.list b).2=0:=by
 have⟨⟨Q,H,hf,k,d⟩,g⟩:=M;have h:rs.list b=((rs.set b).map (·.1),0):=by unfold RS.list;rw[Γ ϖ];rfl
 rw[h];refine⟨?_,rfl⟩;have⟨⟨m,hr,hm⟩,j⟩:=hf;rw[oJ (x:=DS.calm L a) hr rfl];refine qo (CQ (Hv hr.nodup b)) (yJ (d.SL b hs)) λp=>?_
 rw[d.key b hs p];unfold nn cD;rw[ϕ5,ac9];constructor;rintro⟨f,hf,rfl⟩;have⟨h1,h2⟩:=ai3.1 hf;have⟨i,c⟩:=hr.mem.1 h1;have e:f.set=b:=by simpa using h2
 exact tK (hm b f.path) c (by unfold nameOf;rw[e]);intro g;obtain⟨i,f,c,e,rfl⟩:=tL (hm b p) g;exact⟨f,ai3.2 ⟨hr.mem.2 ⟨i,c⟩,by simpa using e⟩,rfl⟩
section
variable {L:List η}{n:Nat}{H K:dE}{Q ps:List (List η)}{rs:RS}
def RS.EY(t:RS)(p:ϑ)(c:Option (List η)):∀k,(t.bK p c k).n=t.n
 |0=>rfl
 |k+1=>by show((t.bK p c k).upd k _).n=_;rw[RS.NZ,RS.EY t p c k]
def Repr.bK(h:Repr rs K)(p:ϑ)(c:Option (List η)):Repr (rs.bK p c 3) (λs q=>if q=p/\s<=2 then c else K s q):=by
 refine⟨λj a=>?_,λj a q=>?_⟩;rw[RS.mB _ _ _ j a 3 ϖ,κ ϖ];exact ui _ _ _ _ _ (h.SL j a);rw[RS.mB _ _ _ j a 3 ϖ,κ ϖ,uG,h.at' j a];by_cases e:q=p;have b:q=p/\j<=2:=⟨e,a⟩
 rw[κ e,κ b];cases c<;>rfl
 have b:¬(q=p/\j<=2):=λr=>e r.1
 rw[Γ e,Γ b]
def Repr.congr(h:Repr rs K)(e:∀k,k<=2->∀p,K k p=H k p):Repr rs H:=⟨h.SL,λk hk p=>by rw[h.at' k hk p,e k hk p]⟩
def NI(H:dE)(p:ϑ):Bool:=decide (H 0 p≠H 2 p\/H 1 p≠H 2 p)
def LY(h:Repr rs H)(x:Nw)(p:ϑ):
  (NI H p=false/\rs.one x p=x/\∀s,s<=2->iR H s p=H s p)\/
  (NI H p=true/\ly H p=none/\rs.one x p={x with cK:=x.cK++[p]}/\∀s,s<=2->iR H s p=H s p)\/
  (NI H p=true/\∃q,ly H p=some q/\rs.one x p={x with t:=x.t.bK p (H q p) 3,steps:=x.steps+1}/\∀s,s<=2->iR H s p=H q p):=by
 have ha:gO rs.a p=H 0 p:=h.at' 0 ϖ p;have g:gO rs.b p=H 1 p:=h.at' 1 ϖ p;have i:gO rs.o p=H 2 p:=h.at' 2 ϖ p;have c:∀q,ly H p=some q->∀s,s<=2->iR H s p=H q p:=λq f s hs=>by unfold iR;rw[κ hs,f]
 have d:ly H p=none->∀s,s<=2->iR H s p=H s p:=λf s hs=>by unfold iR;rw[κ hs,f]
 unfold RS.one;rw[ha,g,i];by_cases b:H 0 p=H 2 p;have a:ly H p=some 1:=by unfold ly;rw[κ b]
 by_cases e1:H 1 p=H 2 p;refine .inl ⟨by unfold NI;simp[b,e1],by rw[κ ⟨by rw[b,e1],b⟩],λs hs=>?_⟩;rw[c 1 a s hs];rcases(by omega:s=0\/s=1\/s=2)with rfl|rfl|rfl;rw[b,e1];rfl;exact e1;refine .inr (.inr ⟨by unfold NI;simp[e1],1,a,?_,c 1 a⟩);have e:H 0 p≠H 1 p:=λq=>e1 (by rw[<-q];exact b)
 rw[Γ λq=>e q.1,Γ λq=>q.2.1 b];unfold follow;rw[κ ⟨e,b⟩];by_cases e1:H 1 p=H 2 p;have a:ly H p=some 0:=by unfold ly;rw[Γ b,κ e1]
 refine .inr (.inr ⟨by unfold NI;simp[b],0,a,?_,c 0 a⟩);rw[Γ λq=>b q.2,Γ λq=>q.2.2 e1];unfold follow;rw[Γ λq=>b q.2];by_cases e2:H 0 p=H 1 p;have a:ly H p=some 0:=by unfold ly;rw[Γ b,Γ e1,κ e2]
 refine .inr (.inr ⟨by unfold NI;simp[b],0,a,?_,c 0 a⟩);rw[Γ λq=>b q.2,Γ λq=>q.1 e2];unfold follow;rw[Γ λq=>b q.2];have a:ly H p=none:=by unfold ly;rw[Γ b,Γ e1,Γ e2]
 refine .inr (.inl ⟨by unfold NI;simp[b],a,?_,d a⟩);rw[Γ λq=>b q.2,κ ⟨e2,b,e1⟩]
def vl(h:Repr rs H):∀(a:List (List η)) (x:Nw) (K:dE),a.Nodup->Repr x.t K->(∀p∈a,∀s,s<=2->K s p=H s p)->
  (a.foldl rs.one x).steps=x.steps+(bZ H (a.filter (NI H))).length/\(a.foldl rs.one x).cK=x.cK++ru H (a.filter (NI H))/\(a.foldl rs.one x).t.n=x.t.n/\
  Repr (a.foldl rs.one x).t (λs q=>if q∈a then iR H s q else K s q)
 |[],x,K,_,hK,_=>⟨by simp[bZ],by simp[ru],rfl,hK.congr λk _ p=>ϛ⟩
 |p::a,x,K,hn,hK,hp=>by
  rw[ϒ4]at hn;have b:=hp p ϛ;rw[Ϲ];obtain⟨c1,c2,c3⟩|⟨c1,c2,c3,c4⟩|⟨c1,q,c2,c3,c4⟩:=LY h x p;rw[c2,ϓ1 (by rw[c1];simp)];have⟨c,i2,i3,i4⟩:=vl h a x K hn.2 hK λr hr=>hp r (by simp[hr])
  refine⟨c,i2,i3,i4.congr λk hk r=>?_⟩;by_cases hr:r∈a;rw[κ hr,κ (by simp[hr])];rw[Γ hr];by_cases e:r=p;rw[κ (by simp[e]),e,c3 k hk];exact b k hk;rw[Γ (by simp[e,hr])];rw[c3,ϐ5 (by rw[c1])];have⟨c,i2,i3,i4⟩:=vl h a {x with cK:=x.cK++[p]} K hn.2 hK λr hr=>hp r (by simp[hr])
  refine⟨?_,?_,i3,i4.congr λk hk r=>?_⟩;rw[c];unfold bZ;rw[List.filterMap_cons,c2];rfl;rw[i2];unfold ru;rw[ϐ5 (by rw[c2];rfl)];simp;by_cases hr:r∈a;rw[κ hr,κ (by simp[hr])];rw[Γ hr];by_cases e:r=p;rw[κ (by simp[e]),e,c4 k hk];exact b k hk;rw[Γ (by simp[e,hr])];rw[c3,ϐ5 (by rw[c1])];have⟨c,i2,i3,i4⟩:=vl h a {x with t:=x.t.bK p (H q p) 3,steps:=x.steps+1} (λs r=>if r=p/\s<=2 then H q p else K s r) hn.2 (hK.bK p (H q p)) λr hr s hs=>by
   have d:¬(r=p/\s<=2):=λe=>hn.1 (e.1▸hr)
   rw[Γ d];exact hp r (by simp[hr]) s hs
  refine⟨?_,?_,?_,i4.congr λk hk r=>?_⟩;rw[c];unfold bZ;rw[List.filterMap_cons,c2];simp;omega;rw[i2];unfold ru;rw[ϓ1 (by rw[c2];simp)];rw[i3];exact RS.EY ..;by_cases hr:r∈a;rw[κ hr,κ (by simp[hr])];rw[Γ hr];by_cases e:r=p;have d:r=p/\k<=2:=⟨e,hk⟩
  rw[κ d,κ (by simp[e]),e,c4 k hk];have d:¬(r=p/\k<=2):=λq=>e q.1
  rw[Γ d,Γ (by simp[e,hr])]
def LP(h:Repr rs H)(a:m7 H ps):rs.paths.filter (NI H)=ps:=by
 refine qo (rs.jN.filter _) a.1 λp=>?_
 rw[ai3,h.mem,a.2];unfold NI;rw[ai0];refine⟨λq=>q.2,λq=>⟨?_,q⟩⟩;obtain q|q:=q;by_cases e:H 0 p=none;exact .inr (.inr λe2=>q (by rw[e,e2]));exact .inl e;by_cases e:H 1 p=none;exact .inr (.inr λe2=>q (by rw[e,e2]));exact .inr (.inl e)
def Repr.sync(h:Repr rs H)(f:m7 H ps):rs.sync.steps=(bZ H ps).length/\rs.sync.cK=ru H ps/\rs.sync.t.n=rs.n/\Repr rs.sync.t (iR H):=by
 have⟨d,i2,i3,i4⟩:=vl h rs.paths ⟨rs,0,[]⟩ H (iM rs.jN) h λ_ _ _ _=>rfl
 rw[LP h f]at d i2;refine⟨by rw[show rs.sync.steps=_ from d];simp,by rw[show rs.sync.cK=_ from i2];simp,i3,i4.congr λk hk p=>?_⟩;by_cases b:p∈rs.paths;rw[κ b];rw[Γ b];have a:=λq=>b ((h.mem p).2 q)
 have n0:H 0 p=none:=by cases e:H 0 p with|none=>rfl|some c=>exact absurd (.inl (by rw[e];simp)) a
 have n1:H 1 p=none:=by cases e:H 1 p with|none=>rfl|some c=>exact absurd (.inr (.inl (by rw[e];simp))) a
 have g:H 2 p=none:=by cases e:H 2 p with|none=>rfl|some c=>exact absurd (.inr (.inr (by rw[e];simp))) a
 unfold iR ly;rw[κ hk,n0,g,κ rfl];simp only[n1];rcases(by omega:k=0\/k=1\/k=2)with rfl|rfl|rfl<;>assumption
def QF.sync(h:QF Q H)(c:H 3 []=none):QF Q (iR H):=by
 refine⟨λs p a=>?_,h.len,h.path⟩;unfold iR at a;have out:∀t:Nat,t<=2->H t p≠none->p∈Q:=λt d b=>by obtain r|r:=h.names t p b;exact r.2;omega
 by_cases hs:s<=2;rw[κ hs]at a;refine .inl ⟨hs,?_⟩;cases b:ly H p with|none=>rw[b]at a;exact out s hs a|some q=>rw[b]at a;exact out q (by have:=xY b;omega) a
 rw[Γ hs]at a;exact h.names s p a
def Match.sync(M:Match n rs L)(a:Int)(o:vF (DS.calm L a) n ps):
  (fD (DS.calm L a) n ps).length=rs.sync.steps/\lU (DS.calm L a) n ps=rs.sync.cK/\rs.sync.steps<=7/\rs.sync.cK.length<=7/\
  ∃L' k e,(DS.calm L a).AF n (fD (DS.calm L a) n ps)=(DS.calm L' (a+k),.int .i64 e)/\0<=k/\k<=80/\
   ((e=0/\Match n rs.sync.t L'/\(rs.sync.steps=0->k=0))\/(e=7/\L'=L/\k=0/\iA n rs.files rs.sync.t.files=false)):=by
 have⟨⟨Q,H,hf,c,i⟩,r⟩:=M;have b:=BQ (x:=DS.calm L a) hf.has rfl o;have⟨s1,s2⟩:=BB (x:=DS.calm L a) hf.has rfl ps;have⟨q,r2,r3,r4⟩:=i.sync b;have g:=BA hf.qf b;have h:(ru H ps).length<=7:=ac3 (ϐ2 ..) (ac3 (ij ps Q (iM b.1) λp m=>zt hf.qf b p m) hf.qf.len);rw[s1,s2,q,r2];refine⟨rfl,rfl,g,h,?_⟩;have d:iR H 3 []=none:=by unfold iR;rw[Γ ϖ];exact c
 obtain⟨q1,q2,q3⟩|⟨L',k,q1,q2,q3,q4,q5⟩:=hf.AF c b;refine⟨L,0,7,by rw[q3 a,ϒ6],ϖ,ϖ,.inr ⟨rfl,rfl,rfl,?_⟩⟩;cases hr:iA n rs.files rs.sync.t.files with
 |false=>rfl
 |true=>
  have j:=i.nl hf.qf c;have l:=r4.nl (hf.qf.sync c) d;have l0:((rs.a.map λf=>((0:Nat),f.1))++((rs.b.map λf=>((1:Nat),f.1))++(rs.o.map λf=>((2:Nat),f.1)))).length=rs.files:=by simp[RS.files];omega
  have l1:((rs.sync.t.a.map λf=>((0:Nat),f.1))++((rs.sync.t.b.map λf=>((1:Nat),f.1))++(rs.sync.t.o.map λf=>((2:Nat),f.1)))).length=rs.sync.t.files:=by simp[RS.files];omega
  have:=hf.roomy c b j l (by rw[l0,l1];exact hr);rw[this]at q1;cases q1
 refine⟨L',k,0,q4 a,q2,q3,.inl ⟨rfl,⟨⟨Q,_,q1,d,r4⟩,by rw[r3];exact r⟩,λh0=>(q5 (Ϻ.1 h0)).2⟩⟩
def Match.may(M:Match n rs L)(a:Int):Ix (DS.calm L a) n=0:=by
 have⟨⟨Q,H,hf,c,d⟩,e⟩:=M;have b:=hf.pending a;rw[c]at b;unfold Ix;rw[b];rfl
def Match.XR(M:Match n rs L)(a:Int)(h0:0<=a)(h1:a<=900000000):Jt (DS.calm L a) n:=by
 have⟨⟨Q,H,hf,c,b⟩,d⟩:=M;exact hf.sync a h0 h1
end
def Row.one{t':θ}(h:Row w b c t)(a:Row w b c' t'):c=c'/\t=t':=by
 have q:_=_:=h.symm.trans a;injection q with q;injection q with q1 q2;exact⟨q1,q2⟩
def bN.keep(h:bN w q rs)(f:aG S w w')(b:∀i∈S,∃c t,Row w i c t/\t≠180/\t≠187):bN w' q rs:=by
 have⟨⟨j,g,d,hr,h0,h1,h2⟩,hf⟩:=h;have k:∀{v:Θ}{m:fL},w.ownsRow 0 187 2 v m.length (dd m)->w'.ownsRow 0 187 2 v m.length (dd m):=λo=>f.owns o (λi a e=>by have⟨c,t,r,_,h2⟩:=b i a;exact own_ne o r h2 e)
 refine⟨⟨j,g,d,f.row hr λa=>?_,k h0,k h1,k h2⟩,hf⟩;have⟨c,t,r,h1,_⟩:=b q a;exact h1 (r.one hr).2
def iJ(w:Φ)(F:ϓ)(x y:Θ)(A:Int):Prop:=
 (x=.pointer none/\y=.pointer none/\F=[])\/
 ∃s d n a L q rs,x=.pointer (some ⟨s,0,none⟩)/\y=.pointer (some ⟨q,0,none⟩)/\oF w F s d n (DS.calm L a)/\bN w q rs/\Match n rs L/\0<=a/\a<=A
def oF.types{s:Nat}{x:DS}(h:oF w F s d n x)(b:x.waiting=[]):∀i∈F,∃c t,Row w i c t/\(t=134\/t=148):=by
 obtain⟨f,e,hd,rfl⟩:=h.disk;have hv:=hd.nil b;subst hv;intro i a;simp only[Value.ownBlock,Option.toList_none,ac2,aj8,or_false]at a;obtain rfl|rfl:=a;exact⟨_,_,hd.row,.inl rfl⟩;exact⟨_,_,hd.last,.inr rfl⟩
def iJ.types{w:Φ}{F:ϓ}{x y:Θ}{A:Int}(h:iJ w F x y A):∀i∈F,∃c t,Row w i c t/\(t=134\/t=148):=by
 obtain⟨_,_,rfl⟩|⟨s,d,n,a,L,q,rs,_,_,hS,_⟩:=h;intro i b;simp at b;exact hS.types rfl
def iJ.lt{w:Φ}{F:ϓ}{x y:Θ}{A:Int}(h:iJ w F x y A):∀i∈F,i<w.heap.size:=λi a=>by
 have⟨c,t,r,_⟩:=h.types i a;exact r.lt
def iJ.keep{w w':Φ}{F S:ϓ}{x y:Θ}{A:Int}(h:iJ w F x y A)(f:aG S w w')(o:∀i∈S,i∉F)(g:∀i∈S,∃c t,Row w i c t/\t≠96/\t≠180/\t≠187):iJ w' F x y A:=by
 obtain h|⟨s,d,n,a,L,q,rs,u,k,b,m,l,h0,h1⟩:=h;exact .inl h;refine .inr ⟨s,d,n,a,L,q,rs,u,k,b.ky f (λe=>?_) o,m.keep f λi e=>?_,l,h0,h1⟩;have⟨c,t,r,q1,_⟩:=g s e;exact q1 (r.one b.row).2;have⟨c,t,r,_,p,j⟩:=g i e;exact⟨c,t,r,p,j⟩
def iJ.more{A B:Int}(h:iJ w F x y A)(i:A<=B):iJ w F x y B:=by
 obtain h|⟨s,d,n,a,L,q,rs,e,f,b,c,g,h0,h1⟩:=h;exact .inl h;exact .inr ⟨s,d,n,a,L,q,rs,e,f,b,c,g,h0,ϖ⟩
def oU[OfNat Obj 0](w:Φ):Prop:=xW w/\w.heap[0]?=some (0:Obj)
variable [OfNat Obj 0]
def oU.blk{S:ϓ}{w w':Φ}(h:oU w)(f:nU S w w')(h0:0∉S):oU w':=⟨h.1.blk f h0,(f.block 0 (Ψ.1 h.2).1 h0).trans h.2⟩
structure aU (w:Φ)(g:Nat)(c:Array Θ)(F:Nat->List Nat)(ts:List (List Θ))(A:Int):Prop where
 row:Row w g c 73
 size:c.size=7
 pos:0<g
 lS:oU w
 side:∀k,k<=2->∃x y,c[k]?=some x/\c[3+k]?=some y/\iJ w (F k) x y A
 apart:∀j k,j<=2->k<=2->j≠k->∀i∈F j,i∉F k
 zero:∀k,k<=2->0∉F k
 all:∃av,c[6]?=some av/\rK w av ts
def nW(F:Nat->List Nat)(k:Nat)(G:ϓ):Nat->List Nat:=λj=>if j=k then G else F j
section
variable {w w':Φ}{g:Nat}{c:Array Θ}{F:Nat->List Nat}{ts:List (List Θ)}{A B:Int}
def aU.new(h:aU w g c F ts A)(f:aG [] w w'):aU w' g c F ts A:=by
 refine⟨f.row h.row,h.size,h.pos,h.lS.blk f.blk ϛ,λk hk=>?_,h.apart,h.zero,?_⟩;have⟨x,y,a,d,hs⟩:=h.side k hk;exact⟨x,y,a,d,hs.keep f ϛ ϛ⟩;have⟨av,b,ha⟩:=h.all;exact⟨av,b,ha.new f⟩
end
end
section
open Go.RowKit Go.Lib Go.Sort
variable [OfNat Obj 0]
def lq{F:Nat->List Nat}{G:ϓ}:nW F k G k=G:=κ rfl
section
variable {w w':Φ}{g:Nat}{c:Array Θ}{F:Nat->List Nat}{ts:List (List Θ)}{A B:Int}
def aU.out(h:aU w g c F ts A)(k:Nat)(hk:k<=2):g∉F k:=λb=>by
 have⟨_,_,_,_,a⟩:=h.side k hk;have⟨c',t,r,e⟩:=a.types g b;have:=(r.one h.row).2;subst this;obtain e|e:=e<;>exact absurd e (by decide)
end
structure oV (w:Φ)(g:Nat)(c:Array Θ)(F:Nat->List Nat)(ts:List (List Θ))(A:Int)(k:Nat):Prop where
 row:Row w g c 73
 size:c.size=7
 pos:0<g
 lS:oU w
 side:∀j,j<=2->j≠k->∃x y,c[j]?=some x/\c[3+j]?=some y/\iJ w (F j) x y A
 types:∀i∈F k,∃c t,Row w i c t/\(t=134\/t=148)
 apart:∀i j,i<=2->j<=2->i≠j->∀b∈F i,b∉F j
 zero:∀j,j<=2->0∉F j
 all:∃av,c[6]?=some av/\rK w av ts
section
variable {w w':Φ}{g:Nat}{c:Array Θ}{F:Nat->List Nat}{ts:List (List Θ)}{A B:Int}{k:Nat}
def oV.new(h:oV w g c F ts A k)(f:aG [] w w'):oV w' g c F ts A k:=by
 refine⟨f.row h.row,h.size,h.pos,h.lS.blk f.blk ϛ,λj m a=>?_,λi l=>?_,h.apart,h.zero,?_⟩;have⟨x,y,n,b,hs⟩:=h.side j m a;exact⟨x,y,n,b,hs.keep f ϛ ϛ⟩;have⟨c',t,r,e⟩:=h.types i l;exact⟨c',t,f.row r,e⟩;have⟨av,d,ha⟩:=h.all;exact⟨av,d,ha.new f⟩
def aU.Wo(h:aU w g c F ts A)(k:Nat)(hk:k<=2){G:ϓ}(f:aG (F k) w w')(y:dw (F k) G w){s:Nat}{x:DS}(L:oF w' G s d n x)(J:x.waiting=[]):oV w' g c (nW F k G) ts A k:=by
 have ty:=L.types J;have⟨_,_,_,_,C⟩:=h.side k hk;have u:=C.types;have E:=h.zero k hk;have o:∀j,j<=2->∀b∈F j,b<w.heap.size:=λj l b m=>by have⟨_,_,_,_,D⟩:=h.side j l;exact D.lt b m
 refine⟨f.row h.row (h.out k hk),h.size,h.pos,h.lS.blk f.blk E,λj l e=>?_,λi a=>?_,λi j a l p b m=>?_,λj l=>?_,?_⟩;have⟨x',H,v,z,B⟩:=h.side j l;refine⟨x',H,v,z,?_⟩;unfold nW;rw[Γ e];refine B.keep f (h.apart k j hk l (Ne.symm e)) λi a=>?_
 have⟨c',t,r,e⟩:=u i a;exact⟨c',t,r,by obtain rfl|rfl:=e<;>decide,by obtain rfl|rfl:=e<;>decide,by obtain rfl|rfl:=e<;>decide⟩;unfold nW at a;rw[κ rfl]at a;exact ty i a;unfold nW at m⊢;by_cases e1:i=k;rw[κ e1]at m;have e2:j≠k:=λq=>p (e1.trans q.symm)
 rw[Γ e2];obtain q|q:=y b m;exact h.apart k j hk l (Ne.symm e2) b q;intro K;have:=o j l b K;omega;rw[Γ e1]at m;by_cases e2:j=k;rw[κ e2];intro q;obtain q|q:=y b q;exact h.apart i k a hk e1 b m q;have:=o i a b m;omega;rw[Γ e2];exact h.apart i j a l p b m;unfold nW;by_cases e:j=k;rw[κ e];intro q;obtain q|q:=y 0 q;exact E q;have:=h.row.lt;omega;rw[Γ e];exact h.zero j l;have⟨av,I,ha⟩:=h.all;refine⟨av,I,ha.off f λi a=>.inr ?_⟩;have⟨c',t,r,e⟩:=u i a;exact⟨c',t,r,by obtain rfl|rfl:=e<;>decide,by obtain rfl|rfl:=e<;>decide⟩
def oV.push(h:oV w1 g c F ts A k){oC:Θ}(W1:c[6]?=some av){t:ϝ}(ht:il w1 t)(f:aG av.ownBlock.toList w1 w2)(o:w2.ownsRow 1 122 5 oC (ts.length+1) (ts.flatten++t)):
  oV (w2.setCell ⟨g,6,none⟩ oC) g (c.setIfInBounds 6 oC) F (ts++[t]) A k:=by
 have⟨aa,B,ha⟩:=h.all;rw[W1]at B;injection B with B;subst B;have I:=h.size;have own:∀i∈av.ownBlock.toList,∃c' M,w1.heap[i]?=some (.cells c' 122 M)/\1<=i:=λi l=>by
  have e:av.ownBlock=some i:=by simpa using l
  obtain⟨q,_⟩|⟨g0,cap,cur,q,hb,hg,_⟩:=ha.row.2;rw[q]at e;cases e;rw[q]at e;obtain rfl:g0=i:=by simpa[Value.ownBlock] using e
  exact⟨cur,(0,0),hg,hb⟩
 have no:∀i∈av.ownBlock.toList,∀{c':ϐ}{u:θ},Row w1 i c' u->u≠122->False:=λi l c' u r hu=>by have⟨c2,M,q,_⟩:=own i l;have:_=_:=q.symm.trans r;injection this with this;injection this with _ e;exact hu e.symm
 have K:aG [g] w2 (w2.setCell ⟨g,6,none⟩ oC):=aG.setCell ..;have z:Row w2 g c 73:=f.row h.row λl=>no g l h.row (by decide);have G:=z.setCell 6 oC;have p:aG (g::av.ownBlock.toList) w1 (w2.setCell ⟨g,6,none⟩ oC):=(f.mono (by intro i l;exact .inl (af9 _ l)):aG (g::av.ownBlock.toList) w1 w2).trans K (by intro i l;left;simp at l;simp[l]);have C:∀i∈g::av.ownBlock.toList,∀{c':ϐ}{u:θ},Row w1 i c' u->u≠122->u≠73->False:=λi l c' u r h1 h2=>by obtain rfl|l:=ac2.1 l;exact h2 (r.one h.row).2;exact no i l r h1
 have w:∀i∈g::av.ownBlock.toList,∀{b:Nat}{e:θ}{size n:Nat}{v:Θ}{xs:ϝ},w1.ownsRow b e size v n xs->e≠122->e≠73->v.ownBlock≠some i:=λi l b e size n v xs O h1 h2 q=>by obtain rfl|l:=ac2.1 l;exact own_ne O h.row (Ne.symm h2) q;exact mF O ha.row h1 q (by simpa using l)
 have N:∀t',il w1 t'->il (w2.setCell ⟨g,6,none⟩ oC) t':=λt' Y=>Y.ky p (λi l _ _ hm=>by have⟨n,_,o⟩:=hm;exact w i l o (by decide) (by decide))
 refine⟨G,by simp[I],h.pos,h.lS.blk p.blk λl=>?_,λj V E=>?_,λi l=>?_,h.apart,h.zero,oC,?_,?_,λt' H=>?_⟩;obtain e|l:=ac2.1 l;have:=h.pos;omega;have⟨_,_,_,q⟩:=own 0 l;omega;have⟨x,y,hx,P,hs⟩:=h.side j V E;refine⟨x,y,by rw[ζ ϖ];exact hx,by rw[ζ ϖ];exact P,?_⟩;obtain hs|⟨s,d,n,a,L,q,rs,e1,e2,J,R,Q,h0,h1⟩:=hs;exact .inl hs;have ty:=J.types rfl;refine .inr ⟨s,d,n,a,L,q,rs,e1,e2,J.ky p (λl=>C s l J.row (by decide) (by decide)) λi l U=>?_,?_,Q,h0,h1⟩;have⟨c',u,r,e⟩:=ty i U;exact C i l r (by obtain rfl|rfl:=e<;>decide) (by obtain rfl|rfl:=e<;>decide);have⟨⟨W,T,S,hr,X,q1,Z⟩,hf⟩:=R;have D:∀{v:Θ}{m:fL},w1.ownsRow 0 187 2 v m.length (dd m)->(w2.setCell ⟨g,6,none⟩ oC).ownsRow 0 187 2 v m.length (dd m):=λo=>p.owns o λi l=>w i l o (by decide) (by decide)
 exact⟨⟨W,T,S,p.row hr λl=>C _ l hr (by decide) (by decide),D X,D q1,D Z⟩,hf⟩;have⟨c',u,r,e⟩:=h.types i l;exact⟨c',u,p.row r λq=>C i q r (by obtain rfl|rfl:=e<;>decide) (by obtain rfl|rfl:=e<;>decide),e⟩;rw[ac1 ϖ];have:=K.owns o (λi l=>by obtain rfl:=ξ.1 l;exact own_ne o z (by decide));rw[af0,List.flatten_append];simpa using this;obtain q|q:=ag4.1 H;exact N t' (ha.ok t' q);rw[ξ.1 q];exact N t ht
def aU.toX(h:aU w g c F ts A)(k:Nat)(hk:k<=2):oV w g c F ts A k:=⟨h.row,h.size,h.pos,h.lS,λj a _=>h.side j a,by have⟨_,_,_,_,s⟩:=h.side k hk;exact s.types,h.apart,h.zero,h.all⟩
def aU.push{w1 w2:Φ}(h:aU w1 g c F ts A){av oC:Θ}(a:c[6]?=some av){t:ϝ}(d:il w1 t)(f:aG av.ownBlock.toList w1 w2)(o:w2.ownsRow 1 122 5 oC (ts.length+1) (ts.flatten++t)):
  aU (w2.setCell ⟨g,6,none⟩ oC) g (c.setIfInBounds 6 oC) F (ts++[t]) A:=by
 have h0:=(h.toX 0 ϖ).push a d f o;refine⟨h0.row,h0.size,h0.pos,h0.lS,λj b=>?_,h.apart,h.zero,h0.all⟩;by_cases e:j=0;exact((h.toX 1 ϖ).push a d f o).side j b ϖ;exact h0.side j b e
def oV.done{l:Φ}(h:oV w2 g c F ts A k)(hk:k<=2)(f:aG [g] w2 l)(z:A<=B)(hr:Row l g c' 73)(w:c'.size=7)(a:∀j,j<=2->j≠k->c'[j]?=c[j]? /\c'[3+j]?=c[3+j]?)(v:c'[6]?=c[6]?)(C:c'[k]?=some x)(u:c'[3+k]?=some y)(hs:iJ l (F k) x y B):aU l g c' F ts B:=by
 refine⟨hr,w,h.pos,h.lS.blk f.blk (by simp;have:=h.pos;omega),λj p=>?_,h.apart,h.zero,?_⟩;by_cases e:j=k;subst e;exact⟨x,y,C,u,hs⟩;have⟨x',s,n,o,d⟩:=h.side j p e;have⟨e1,e2⟩:=a j p e;refine⟨x',s,by rw[e1,n],by rw[e2,o],(d.keep f (λi b q=>?_) λi b=>?_).more z⟩;obtain rfl:=ξ.1 b;have⟨c2,t,r,e⟩:=d.types i q;have:=(r.one h.row).2;subst this;obtain e|e:=e<;>exact absurd e (by decide)
 obtain rfl:=ξ.1 b;exact⟨_,_,h.row,by decide,by decide,by decide⟩;have⟨av,m,ha⟩:=h.all;refine⟨av,v.trans m,ha.off f λi b=>.inr ?_⟩;obtain rfl:=ξ.1 b;exact⟨_,_,h.row,by decide,by decide⟩
def CH(h:oV w2 g c F ts A k)(hk:k<=2){s w:Nat}{a j e:Int}(z:c[k]?=some (.pointer (some ⟨s,0,none⟩)))(K:c[3+k]?=some (.pointer (some ⟨q,0,none⟩)))(I:oF w2 (F k) s d n (DS.calm L' (a+j)))(N:bN w2 q rs)(o:bN w2 w r.1)(M:Match n rs L)(h0:0<=a)(h1:a<=A)(Y:0<=j)(U:j<=80)(P:Ny n rs r L L' j e):
  Calls prog 62 #[.pointer (some ⟨g,0,none⟩),.int .i64 k,.pointer (some ⟨w,0,none⟩),.int .i64 e,.int .i64 r.2] w2 λS f=>S=.returned (.bool true)/\aG [g] w2 f/\oF f (F k) s d n (DS.calm L' (a+j))/\∃c',aU f g c' F ts (A+80)/\c'[k]?=some (.pointer (some ⟨s,0,none⟩)):=by
 have l:=h.row;have T:=I.disk;have⟨W,X,hd,_⟩:=T;have R:=hd.hi;refine(Bw g k hk c q w rs r.1 w2 l h.size K N o (by rw[M.n];exact R) e r.2).mono ?_;rintro V f⟨rfl,u,r3⟩;have Q:qn e r.2 (iA rs.n rs.files r.1.files)=true:=by unfold qn;rw[M.n];obtain⟨p1,p2,_⟩|⟨_,_,_,p4⟩|⟨_,_,p3,p4,p5⟩:=P;rw[p1,p2];simp;rw[p4];simp;rw[p3,p4,p5];simp
 rw[Q];have B:g∉F k:=λq=>by have⟨c',t,r,e⟩:=h.types g q;have:=(r.one h.row).2;subst this;obtain e|e:=e<;>exact absurd e (by decide)
 have G:s≠g:=λq=>by subst q;have:=(I.row.one l).2;exact absurd this (by decide)
 have J:=I.ky u (by simpa using G) (by intro i m;simp at m;rw[m];exact B);refine⟨rfl,u,J,?_⟩;have O:∀{p:Nat}{t:RS},bN w2 p t->bN f p t:=λD=>D.keep u λi m=>by obtain rfl:=ξ.1 m;exact⟨_,_,l,by decide,by decide⟩
 have b:∀{p:Nat}{t:RS},bN f p t->Match n t L'->iJ f (F k) (.pointer (some ⟨s,0,none⟩)) (.pointer (some ⟨p,0,none⟩)) (A+80):=fun {p t} D hm=>.inr ⟨s,d,n,a+j,L',p,t,rfl,rfl,J,D,hm,ϖ,ϖ⟩
 by_cases v:e=0/\r.2=0;have C:Match n r.1 L':=by obtain⟨_,_,p3⟩|⟨_,_,p3,_⟩|⟨_,_,p3,_⟩:=P;exact p3;exact absurd v.1 p3;rw[v.1]at p3;omega
 unfold lx at r3;rw[κ v]at r3;have H:=h.size;refine⟨_,h.done hk u ϖ r3 (by simp[H]) (λi m E=>⟨?_,?_⟩) ?_ (x:=.pointer (some ⟨s,0,none⟩)) (y:=.pointer (some ⟨w,0,none⟩)) ?_ ?_ (b (O o) C),?_⟩;rw[ζ ϖ];rw[ζ ϖ];rw[ζ ϖ];rw[ζ ϖ];exact z;rw[ac1 ϖ];rw[ζ ϖ];exact z;have C:Match n rs L':=by obtain⟨p1,p2,_⟩|⟨p1,_⟩|⟨p1,_⟩:=P;exact absurd ⟨p1,p2⟩ v;rw[p1];exact M;rw[p1];exact M
 unfold lx at r3;rw[Γ v]at r3;exact⟨_,h.done hk u ϖ r3 h.size (λi m E=>⟨rfl,rfl⟩) rfl z K (b (O N) C),z⟩
end
end
section
open Go.RowKit Go.Lib Go.Sort
variable [OfNat Obj 0]
section
variable {w w':Φ}{g:Nat}{c:Array Θ}{F:Nat->List Nat}{ts:List (List Θ)}{A B:Int}
def Ay(g:Nat)(ts:List (List Θ))(B:Int)(e:Ending)(w':Φ):Prop:=e=.returned (.bool true)/\∃c' a,aU w' g c' a ts B
def rM(h:aU w g c F ts A)(k:Nat)(hk:k<=2){s i:Nat}{a j e:Int}{G:ϓ}(x:c[k]?=some (.pointer (some ⟨s,0,none⟩)))(o:c[3+k]?=some (.pointer (some ⟨q,0,none⟩)))(f:aG (F k) w w2)(p:dw (F k) G w)(l:oF w2 G s d n (DS.calm L' (a+j)))(t:bN w2 q rs)(b:bN w2 i r.1)(M:Match n rs L)(h0:0<=a)(h1:a<=A)(v:0<=j)(u:j<=80)(P:Ny n rs r L L' j e):
  Calls prog 62 #[.pointer (some ⟨g,0,none⟩),.int .i64 k,.pointer (some ⟨i,0,none⟩),.int .i64 e,.int .i64 r.2] w2 (Ay g ts (A+80)):=by
 refine(CH (h.Wo k hk f p l rfl) hk x o (by rw[lq];exact l) t b M h0 h1 v u P).mono ?_;rintro z y⟨rfl,_,_,c',m,_⟩;exact⟨rfl,c',_,m⟩
def take_nil(h:aU w g c F ts A)(k:Nat)(hk:k<=2)(b:c[3+k]?=some (.pointer none))(t:Θ)(e:Int)(m:e≠0):
  Calls prog 62 #[.pointer (some ⟨g,0,none⟩),.int .i64 k,t,.int .i64 e,.int .i64 e] w (Ay g ts (A+80)):=by
 have f:=h.size;obtain⟨l,i⟩:∃l:List Θ,c=l.toArray:=⟨c.toList,ϛ⟩
 have d:=h.row.val (3+k) (.pointer none) b;have a:=h.row;subst i
 match l,f with
 |[x0,x1,x2,y0,y1,y2,av],_=>refine(Bv g k hk x0 x1 x2 y0 y1 y2 av t w a d e e m).mono ?_;rintro q p⟨rfl,rfl⟩;refine⟨ϛ,#[x0,x1,x2,y0,y1,y2,av],F,?_⟩;exact{h with side:=λj n=>by have⟨x,y,o,b,hs⟩:=h.side j n;exact⟨x,y,o,b,hs.more ϖ⟩}
end
end
section
open Go.RowKit Go.Lib Go.Sort
variable [OfNat Obj 0]
section
variable {w w':Φ}{g:Nat}{c:Array Θ}{F:Nat->List Nat}{ts:List (List Θ)}{A B:Int}
def aU.get(h:aU w g c F ts A)(k:Nat)(hk:k<=2)(d:c[k]?=some x)(e:c[3+k]?=some y):iJ w (F k) x y A:=by
 have⟨x',f,b,a,hs⟩:=h.side k hk;rw[d]at b;rw[e]at a;injection b with b;injection a with a;subst b;subst a;exact hs
def Pd(h:aX p=true):(aj p).size<=8:=by
 rw[da];unfold aX at h;simp only[χ,ai0]at h;omega
def aU.ref(h:aU w g c F ts A)(k:Nat)(hk:k<=2)(a:bN w q rs)(f:aG (F k) w w'):bN w' q rs:=by
 have⟨_,_,_,_,hs⟩:=h.side k hk;refine a.keep f λi b=>?_
 have⟨c',t,r,e⟩:=hs.types i b;exact⟨c',t,r,by obtain rfl|rfl:=e<;>decide,by obtain rfl|rfl:=e<;>decide⟩
def fp(w w':Φ):Prop:=∀i c' t,t≠134->t≠148->Row w i c' t->Row w' i c' t
def fp.new(f:aG [] w w'):fp w w':=λi c' t _ _ r=>f.row r
def aU.keeps(h:aU w g c F ts A)(k:Nat)(hk:k<=2)(f:aG (F k) w w'):fp w w':=λi c' t h1 h2 r=>by
 have⟨_,_,_,_,hs⟩:=h.side k hk;refine f.row r λa=>?_
 have⟨c2,t2,r2,e⟩:=hs.types i a;have:=(r2.one r).2;subst this;obtain e|e:=e;exact h1 e;exact h2 e
def amC(w:Φ)(g k:Nat)(y:Θ)(c:Int)(p f:ϑ)(ts:List (List Θ))(B:Int)(e:Ending)(w1:Φ):Prop:=
 ∃ev,e=.returned (.int .i64 ev)/\fp w w1/\∀a,aG [] w1 a->Calls prog 61 #[y,.int .i64 c,.string (aj p),.string (aj f)] a λe2 w2=>∃t d,e2=.returned (.tuple #[t,.int .i64 d])/\∀b,aG [] w2 b->Calls prog 62 #[.pointer (some ⟨g,0,none⟩),.int .i64 k,t,.int .i64 ev,.int .i64 d] b (Ay g ts B)
def O4(h:aU w g c F ts A)(k:Nat)(hk:k<=2)(W:A<=900000000){x y:Θ}(O:c[k]?=some x)(D:c[3+k]?=some y)(b:Int)(p l:ϑ)(H:p.length<=9223372036854775807)(J:l.length<=9223372036854775807):
  Calls prog 39 #[x,.int .i64 b,.string (aj p),.string (aj l)] w (amC w g k y b p l ts (A+80)):=by
 obtain⟨rfl,rfl,hF⟩|⟨s,d,n,a,L,q,rs,rfl,rfl,hS,hR,M,h0,h1⟩:=h.get k hk O D;refine(Tx w b (aj p) (aj l)).mono ?_;rintro e w1⟨rfl,z⟩;refine⟨3,rfl,fp.new z,λC u=>?_⟩;refine(OL b (aj p) (aj l) C).mono ?_;rintro e2 w2⟨rfl,rfl⟩;exact⟨_,_,rfl,λR v=>take_nil (((h.new z).new u).new v) k hk D _ 3 ϖ⟩;by_cases f:(0<=b/\b<=1)/\aX p=true/\l.length<=96;obtain⟨m,rfl⟩:∃m:Nat,b=m:=⟨b.toNat,ϖ⟩
 have⟨L',j,ev,e1,U,V,P⟩:=M.put m ϖ p l f.2.1 f.2.2 a;refine(K8 (F k) s d n (DS.calm L a) m (aj p) (aj l) w hS (z0 L a 5 h0 ϖ) (by show([]:List (Int×List η)).length<_;simp) ϖ f.2.1 (Pd f.2.1) (by rw[da];exact f.2.2)).mono ?_;rintro e w1 ⟨rfl,⟨G,B,S⟩,f1⟩;rw[e1]at B⊢;have Q:=h.ref k hk hR f1;refine⟨ev,rfl,h.keeps k hk f1,λC u=>?_⟩;refine(E9 q rs m p l C (Q.new u) (λi I=>ac3 (M.yW i I) ϖ) H J).mono ?_;rintro e2 w2⟨T,rfl,o,f2,_⟩;exact⟨_,_,rfl,λR v=>by have K:=(u.trans f2).trans v;exact rM h k hk O D (f1.trans K) S (B.new K) (Q.new K) (o.new v) M h0 h1 U ϖ P⟩
 have N:rs.put b p l=(rs,1):=by
  unfold RS.put;rw[κ ?_];cases E:aX p with|false=>simp|true=>simp[E]at f⊢;omega
 refine(LL (F k) s d n (DS.calm L a) b (aj p) (aj l) w hS (by rw[da];exact H) (by rw[da];exact J) ?_).mono ?_;show _\/aX p=false\/96<(aj l).size;rw[da];cases E:aX p with|false=>simp|true=>simp[E]at f⊢;omega
 rintro e w1⟨rfl,f1⟩;refine⟨1,rfl,fp.new f1,λC u=>?_⟩;refine(E9 q rs b p l C ((hR.new f1).new u) (λi I=>ac3 (M.yW i I) ϖ) H J).mono ?_;rintro e2 w2⟨T,rfl,o,f2,_⟩;rw[N]at o⊢;exact⟨_,_,rfl,λR v=>by have t:=((f1.trans u).trans f2).trans v;exact rM (r:=(rs,1)) (j:=0) h k hk O D (t.mono) (dw.refl _ _) (by rw[ϒ6];exact hS.new t) (hR.new t) (o.new v) M h0 h1 ϖ ϖ (.inr (.inl ⟨rfl,rfl,ϖ,rfl⟩))⟩
def V6(w:Φ)(g k:Nat)(y:Θ)(c:Int)(p:ϑ)(ts:List (List Θ))(B:Int)(e:Ending)(w1:Φ):Prop:=
 ∃ev,e=.returned (.int .i64 ev)/\fp w w1/\∀a,aG [] w1 a->Calls prog 63 #[y,.int .i64 c,.string (aj p)] a λe2 w2=>∃t d,e2=.returned (.tuple #[t,.int .i64 d])/\∀b,aG [] w2 b->Calls prog 62 #[.pointer (some ⟨g,0,none⟩),.int .i64 k,t,.int .i64 ev,.int .i64 d] b (Ay g ts B)
def Fj(h:aU w g c F ts A)(k:Nat)(hk:k<=2)(U:A<=900000000){x y:Θ}(K:c[k]?=some x)(C:c[3+k]?=some y)(b:Int)(p:ϑ)(E:p.length<=9223372036854775807):
  Calls prog 42 #[x,.int .i64 b,.string (aj p)] w (V6 w g k y b p ts (A+80)):=by
 obtain⟨rfl,rfl,hF⟩|⟨s,d,n,a,L,q,rs,rfl,rfl,hS,hR,M,h0,h1⟩:=h.get k hk K C;refine(Ig b (aj p) w).mono ?_;rintro e w1⟨rfl,v⟩;refine⟨3,rfl,fp.new (by rw[v];exact aG.refl _ _),λB t=>?_⟩;refine(E8 b (aj p) B).mono ?_;rintro e2 w2⟨rfl,rfl⟩;subst v;exact⟨_,_,rfl,λO u=>take_nil ((h.new t).new u) k hk C _ 3 ϖ⟩;by_cases f:(0<=b/\b<=1)/\aX p=true;obtain⟨m,rfl⟩:∃m:Nat,b=m:=⟨b.toNat,ϖ⟩
 have⟨L',j,ev,e1,S,T,P⟩:=M.remove m ϖ p f.2 a;refine(CP (F k) s d n (DS.calm L a) m (aj p) w hS (z0 L a 2 h0 ϖ) (by show([]:List (Int×List η)).length<_;simp) ϖ f.2 (Pd f.2)).mono ?_;rintro e w1 ⟨rfl,⟨G,z,Q⟩,f1⟩;rw[e1]at z⊢;have N:=h.ref k hk hR f1;refine⟨ev,rfl,h.keeps k hk f1,λB t=>?_⟩;refine(wX q rs m p B (N.new t) (λi H=>ac3 (M.yW i H) ϖ) E).mono ?_;rintro e2 w2⟨R,rfl,l,f2,_⟩;exact⟨_,_,rfl,λO u=>by have I:=(t.trans f2).trans u;exact rM h k hk K C (f1.trans I) Q (z.new I) (N.new I) (l.new u) M h0 h1 S ϖ P⟩
 have J:rs.remove b p=(rs,1):=by
  unfold RS.remove;rw[κ ?_];cases D:aX p with|false=>simp|true=>simp[D]at f⊢;omega
 refine(Dd (F k) s d n (DS.calm L a) b (aj p) w hS (by rw[da];exact E) ?_).mono ?_;show _\/aX p=false;skip;cases D:aX p with|false=>simp|true=>simp[D]at f⊢;omega
 rintro e w1⟨rfl,f1⟩;refine⟨1,rfl,fp.new f1,λB t=>?_⟩;refine(wX q rs b p B ((hR.new f1).new t) (λi H=>ac3 (M.yW i H) ϖ) E).mono ?_;rintro e2 w2⟨R,rfl,l,f2,_⟩;rw[J]at l⊢;exact⟨_,_,rfl,λO u=>by have o:=((f1.trans t).trans f2).trans u;exact rM (r:=(rs,1)) (j:=0) h k hk K C (o.mono) (dw.refl _ _) (by rw[ϒ6];exact hS.new o) (hR.new o) (l.new u) M h0 h1 ϖ ϖ (.inr (.inl ⟨rfl,rfl,ϖ,rfl⟩))⟩
def Qg(h:aU w g c F ts A)(k:Nat)(hk:k<=2){x y:Θ}(C:c[k]?=some x)(B:c[3+k]?=some y)(b:Int)(p:ϑ)(u:p.length<=9223372036854775807):
  Calls prog 22 #[x,.int .i64 b,.string (aj p)] w λe w1=>∃z ev,e=.returned (.tuple #[.string z,.int .i64 ev])/\fp w w1/\
   ∀r,aG [] w1 r->Calls prog 64 #[y,.int .i64 b,.string (aj p)] r λe2 w2=>e2=.returned (.tuple #[.string z,.int .i64 ev])/\aU w2 g c F ts A:=by
 obtain⟨rfl,rfl,hF⟩|⟨s,d,n,a,L,q,rs,rfl,rfl,hS,hR,M,h0,h1⟩:=h.get k hk C B;refine(get_nil w b (aj p)).mono ?_;rintro e w1⟨rfl,l⟩;refine⟨_,_,rfl,fp.new (by rw[l];exact aG.refl ..),λo j=>?_⟩;refine(OO b (aj p) o).mono ?_;rintro e2 w2⟨rfl,i⟩;subst l;exact⟨rfl,by rw[i];exact h.new j⟩;by_cases f:(0<=b/\b<=2)/\aX p=true;obtain⟨m,rfl⟩:∃m:Nat,b=m:=⟨b.toNat,ϖ⟩
 refine(UV (F k) s d n (DS.calm L a) m (aj p) w hS ϖ f.2 (Pd f.2)).mono ?_;rintro e w1⟨rfl,f1⟩;rw[M.get m ϖ p f.2 a];refine⟨_,_,rfl,fp.new f1,λo j=>?_⟩;refine(Fb q rs m p o ((hR.new f1).new j) u).mono ?_;rintro e2 w2⟨rfl,i⟩;exact⟨rfl,by rw[i];exact(h.new f1).new j⟩;have v:rs.get b p=([],1):=by
  unfold RS.get;rw[κ ?_];cases t:aX p with|false=>simp|true=>simp[t]at f⊢;omega
 refine(MF (F k) s d n (DS.calm L a) b (aj p) w hS (by rw[da];exact u) ?_).mono ?_;show _\/aX p=false;cases t:aX p with|false=>simp|true=>simp[t]at f⊢;omega
 rintro e w1⟨rfl,f1⟩;refine⟨_,_,rfl,fp.new f1,λo j=>?_⟩;refine(Fb q rs b p o ((hR.new f1).new j) u).mono ?_;rintro e2 w2⟨rfl,i⟩;rw[v,i];exact⟨rfl,(h.new f1).new j⟩
def Mf(h:aU w g c F ts A)(k:Nat)(hk:k<=2)(E:c[k]?=some x)(C:c[3+k]?=some y)(b:Int):
  Calls prog 23 #[x,.int .i64 b] w λe w1=>∃v ev xs,e=.returned (.tuple #[v,.int .i64 ev])/\xs.length<=7/\w1.ownsRow w.heap.size 9 1 v xs.length (bJ xs)/\aU w1 g c F ts A/\aG [] w w1/\
   ∀f,aG [] w1 f->Calls prog 65 #[y,.int .i64 b] f λe2 w2=>∃u,e2=.returned (.tuple #[u,.int .i64 ev])/\w2.ownsRow f.heap.size 9 1 u xs.length (bJ xs)/\aG [] f w2:=by
 obtain⟨rfl,rfl,hF⟩|⟨s,d,n,a,L,q,rs,rfl,rfl,hS,hR,M,h0,h1⟩:=h.get k hk E C;refine(PO w b).mono ?_;rintro e w1⟨rfl,i⟩;refine⟨_,_,[],rfl,ϛ,World.ownsRow_nil ..,by rw[i];exact h,by rw[i];exact aG.refl ..,λj l=>?_⟩;refine(LC b j).mono ?_;rintro e2 w2⟨rfl,z⟩;exact⟨_,rfl,World.ownsRow_nil ..,by rw[z];exact aG.refl ..⟩;by_cases p:0<=b/\b<=2;obtain⟨m,rfl⟩:∃m:Nat,b=m:=⟨b.toNat,ϖ⟩
 have⟨e1,e2⟩:=M.list m ϖ a;refine(Mg (F k) s d n (DS.calm L a) m w hS ϖ rfl).mono ?_;rintro e w1⟨v,rfl,B,f1⟩;rw[e1]at B;have t:(rs.list m).1.length<=7:=by
  have:rs.list m=((rs.set m).map (·.1),0):=by unfold RS.list;rw[Γ ϖ];rfl
  rw[this,af2];exact M.yW m ϖ
 refine⟨_,_,_,rfl,t,B,h.new f1,f1,λj l=>?_⟩;refine(BM q rs m j ((hR.new f1).new l)).mono ?_;rintro D w2⟨u,rfl,o,f2⟩;rw[e2];exact⟨u,rfl,o,f2⟩;have r:rs.list b=([],1):=by unfold RS.list;rw[κ ϖ]
 refine(IB (F k) s d n (DS.calm L a) b w hS p).mono ?_;rintro e w1⟨rfl,f1⟩;refine⟨_,_,[],rfl,ϛ,World.ownsRow_nil ..,h.new f1,f1,λj l=>?_⟩;refine(BM q rs b j ((hR.new f1).new l)).mono ?_;rintro D w2⟨u,rfl,o,f2⟩;rw[r]at o⊢;exact⟨u,rfl,o,f2⟩
end
end
section
open Go.RowKit Go.Lib
variable [OfNat Obj 0]
def bB(a on b:Int)(p c:Ξ):Array Θ:=#[.int .i64 a,.int .i64 on,.int .i64 b,.string p,.string c]
section
variable {w w':Φ}{g:Nat}{c:Array Θ}{F:Nat->List Nat}{ts:List (List Θ)}{A B:Int}
def aU.more(h:aU w g c F ts A)(a:A<=B):aU w g c F ts B:=
 {h with side:=λj b=>by have⟨x,y,d,e,hs⟩:=h.side j b;exact⟨x,y,d,e,hs.more a⟩}
def ls(h:aU w g c F ts A)(k:Nat)(hk:k<=2){x y:Θ}{ev d:Int}(H:c[k]?=some x)(z:c[3+k]?=some y)(on b:Int)(p n:Ξ)(u:-9223372036854775808<=b)(r:b<=9223372036854775807)(E:∀{w'},aG [] w w'->Calls prog 18 #[x] w' λe w2=>e=.returned (.int .i64 d)/\w2=w')(D:∀{w'},aG [] w w'->Calls prog 20 #[x,.int .i64 (-1-(ja b 1000:Nat)),.int .i64 b] w' λe w2=>e=.returned (.int .i64 ev)/\w2=w')(hv:(y=.pointer none/\ev=3)\/∃q,y=.pointer (some ⟨q,0,none⟩)/\ev=1):
  Calls prog 69 #[.pointer (some ⟨g,0,none⟩),.agg (bB 8 on b p n),.int .i64 k] w (Ay g ts (A+80)):=by
 have L:(k:Int)<3:=ϖ;go_enter func69,ntmps69;go_wp2_with (with_reducible refine bv rfl ?_);refine eZ rfl 77 _ rfl (.agg (bB 8 on b p n)) rfl ?_;intro w1 I K f1 r4;replace r4:Row w1 I (bB 8 on b p n) 77:=r4;have h1:=h.new f1;have j:=h1.row.val k x H;have t:=h1.row.val (3+k) y z;have N:=r4.val 0 (.int .i64 8);have cs:=r4.val 2 (.int .i64 b);have i:Hid (aU w1 g c F ts (A+80)):=h1.more ϖ;clear h K h1 H z;go_wp2_with fail;refine(E f1).mono ?_;rintro e w2⟨rfl,rfl⟩;have O:=zr b 1000 ϖ
 go_upto_region 17 with fail
 refine ab 14 ?_;have s:aG [] w2 w2.drew:=aG.drew ..;replace i:Hid (aU w2.drew g c F ts (A+80)):=i.out.new s;replace j:w2.drew.cell? ⟨g,k,none⟩=some x:=j;replace cs:w2.drew.cell? ⟨I,2,none⟩=some (.int .i64 b):=cs;replace t:w2.drew.cell? ⟨g,3+k,none⟩=some y:=t;have G:=f1.trans s;generalize w2.drew=B at i j cs t G;have HW:Hid (IntKind.i64.wrap (-1-((ja b 1000:Nat):Int))=-1-((ja b 1000:Nat):Int)):=IntWalk.i64_in _ ϖ;clear s r4 E;refine ap 0 112 ?_;refine ap 1 113 ?_;refine ap 2 114 ?_;refine ap 3 115 ?_;refine ap 4 116 ?_;refine ap 6 118 ?_;refine ap 10 122 ?_;simp only[puts];refine lW (m:=2) (Y:=Unit) [11,10,9,8,7,6,5,4,3,2,1,0] (λ_=>True) (λ_ a=>(((((a.put (some 117) x).put (some 119) (.int .i64 b)).put (some 120) (.int .i64 (ja b 1000:Nat))).put (some 121) (.int .i64 (-1-(ja b 1000:Nat)))).put (some 123) (.int .i64 b))) (λ_=>B) ?_ ?_
 .intro _ _;simp only[puts];refine aO 12 (sc 12 124 (D G) ?_);rintro e M⟨rfl,o⟩;refine⟨_,rfl,?_⟩;subst o;simp only[puts];refine aO 13 (sv 13 12 (v:=.int .i64 ev) (hr:=rfl) ?_);refine ad ?_;simp only[puts];clear D;obtain⟨rfl,rfl⟩|⟨q,rfl,rfl⟩:=hv<;>(go_wp2;go_ret;exact⟨rfl,_,_,i.out⟩)
 intro C;have f:=λl J=>C () l J trivial
 simp only[puts]at f;clear C
 repeat' first
  |((
    first
    |refine aR 5 7 11 ?_ ?_ ?_
    |refine aR 5 8 11 ?_ ?_ ?_
    |refine aR 5 9 11 ?_ ?_ ?_
    |refine aT 5 7 ?_ ?_
    |refine aT 5 8 ?_ ?_
    |refine aT 5 9 ?_ ?_
    |refine aT 5 11 ?_ ?_
    |refine aT 7 11 ?_ ?_
    |refine aT 8 11 ?_ ?_
    |refine aT 9 11 ?_ ?_
    |refine aO 5 ?_
    |refine aO 7 ?_
    |refine aO 8 ?_
    |refine aO 9 ?_
    |refine aO 11 ?_)<;>first
    |(refine sv 5 117 ?_;simp only[puts])
    |(refine sv 7 119 ?_;simp only[puts])
    |(refine sp 8 120 (wh b 1000 B u r ϖ ϖ) ?_;simp only[puts])
    |(refine sv 9 121 (v:=(.int .i64 (-1-(ja b 1000:Nat)))) (hr:=by go_simp;rw[HW.out];exact⟨rfl,rfl⟩) ?_;simp only[puts])
    |(refine sv 11 123 ?_;simp only[puts]))
  |exact f _ ϰ
def LU(h:aU w g c F ts A)(k:Nat)(hk:k<=2)(n:c[k]?=some (.pointer none))(j:c[3+k]?=some (.pointer none))(a on d:Int)(p l:Ξ)(t:-9223372036854775808<=d)(r:d<=9223372036854775807):
  Calls prog 69 #[.pointer (some ⟨g,0,none⟩),.agg (bB a on d p l),.int .i64 k] w (Ay g ts (A+80)):=by
 by_cases s:a=8;subst s;exact ls h k hk n j on d p l t r (λ_=>Ax _) (λ_=>Qx _ _ _) (.inl ⟨rfl,rfl⟩);have K:(a==8)=false:=by simpa using s
 clear s;have G:(k:Int)<3:=ϖ;go_enter func69,ntmps69;go_wp2_with (with_reducible refine bv rfl ?_);refine eZ rfl 77 _ rfl (.agg (bB a on d p l)) rfl ?_;intro w1 H B f1 r4;replace r4:Row w1 H (bB a on d p l) 77:=r4;have h1:=h.new f1;have v:=h1.row.val k (.pointer none) n;have I:=h1.row.val (3+k) (.pointer none) j;have z:=r4.val 0 (.int .i64 a);have cs:=r4.val 2 (.int .i64 d);have m:Hid (aU w1 g c F ts (A+80)):=h1.more ϖ;have M:Hid (c[k]?=some (.pointer none)):=n;have D:Hid (c[3+k]?=some (.pointer none)):=j;clear h f1 B h1 n j;go_wp2_with fail;refine(Ax w1).mono ?_;rintro e w2⟨rfl,rfl⟩;by_cases q:a=6
 .subst q;go_wp2_with fail;refine(Fp w2).mono ?_;rintro e x⟨rfl,rfl⟩;go_wp2;go_ret;exact⟨rfl,_,_,m.out⟩
 .have J:(a==6)=false:=by simpa using q
  clear q;by_cases o:a=7
  .subst o;go_wp2_with (with_reducible refine gP rfl ?_);refine(Ni w2).mono ?_;rintro e x⟨rfl,rfl⟩;go_wp2_with (with_reducible refine gP rfl ?_);refine yA rfl 9 85 5 _ rfl underlying9 underlying85 underlying5 ⟨#[]⟩ rfl ?_;intro y b cap lb u f;have i:Hid (aU y g c F ts (A+80)):=m.out.new u;have C:=i.out.row.val (3+k) (.pointer none) D.out;have E:((⟨#[]⟩:Ξ).size:Nat)=0:=rfl;clear f m I v cs z u;go_wp2;go_ret;exact⟨rfl,_,_,i.out⟩
  .have L:(a==7)=false:=by simpa using o
   clear o;go_wp2;go_ret;exact⟨rfl,_,_,m.out⟩
def Match.pend(M:Match n rs L)(a:Int):(DS.calm L a).pending n=false:=by
 have⟨⟨Q,H,hf,c,d⟩,e⟩:=M;have b:=hf.pending a;rw[c]at b;exact b
def Pn{l b:Φ}(h:aU l g c F ts B)(p:aU b g c F ts B)(k:Nat)(hk:k<=2){s s' v:Nat}{G:ϓ}(C:c[k]?=some (.pointer (some ⟨s,0,none⟩)))(x:c[3+k]?=some (.pointer (some ⟨q,0,none⟩)))(z:aG [] l b)(d:dw [] G l)(u:oF b G s' v n (DS.calm L 0))(y:bN b q rs)(M:Match n rs L)(w:0<=B):∃c' A,aU (b.setCell ⟨g,k,none⟩ (.pointer (some ⟨s',0,none⟩))) g c' A ts B:=by
 have t:aG [g] b (b.setCell ⟨g,k,none⟩ (.pointer (some ⟨s',0,none⟩))):=aG.setCell ..;have r:=h.size;have m:s'≠g:=λe=>by subst e;exact absurd (u.row.one p.row).2 (by decide)
 have f:g∉G:=λe=>by obtain e|e:=d g e;simp at e;have:=h.row.lt;omega
 have o:=y.keep t (λi a=>by obtain rfl:=ξ.1 a;exact⟨_,_,p.row,by decide,by decide⟩);have ne:∀i,i≠k->(c.setIfInBounds k (.pointer (some ⟨s',0,none⟩)))[i]?=c[i]?:=λi a=>ζ (Ne.symm a)
 exact⟨_,_,(h.Wo k hk (z.mono) (λi a=>(d i a).imp ϛ id) u rfl).done hk t (Int.le_refl _) (p.row.setCell k _) (by simp[r]) (λi a j=>⟨ne _ j,ne _ ϖ⟩) (ne _ ϖ) (ac1 ϖ) ((ne _ ϖ).trans x)
  (by rw[lq];exact .inr ⟨s',v,n,0,L,q,rs,rfl,rfl,u.ky t (by simpa using m) (by intro i a;simp at a;rw[a];exact f),o,M,ϖ,w⟩)⟩
def Ip(h:aU w g c F ts A)(k:Nat)(hk:k<=2){s:Nat}{a:Int}(K:c[k]?=some (.pointer (some ⟨s,0,none⟩)))(P:c[3+k]?=some (.pointer (some ⟨q,0,none⟩)))(N:oF w (F k) s d n (DS.calm L a))(hR:bN w q rs)(M:Match n rs L)(a0:0<=a)(a1:a<=A)(i on l:Int)(p Q:Ξ)(al:-9223372036854775808<=l)(T:l<=9223372036854775807):
  Calls prog 69 #[.pointer (some ⟨g,0,none⟩),.agg (bB i on l p Q),.int .i64 k] w (Ay g ts (A+80)):=by
 by_cases U:i=8;subst U;exact ls h k hk K P on l p Q al T (λf=>jy (F k) s d n (DS.calm L a) _ (N.new f)) (λf=>I4 (F k) s d n (DS.calm L a) _ l _ (N.new f) rfl ϖ) (.inr ⟨q,rfl,rfl⟩);have d8:(i==8)=false:=by simpa using U
 clear U;have av:(k:Int)<3:=ϖ;go_enter func69,ntmps69;go_wp2_with (with_reducible refine bv rfl ?_);refine eZ rfl 77 _ rfl (.agg (bB i on l p Q)) rfl ?_;intro w1 b4 l4 f1 r4;replace r4:Row w1 b4 (bB i on l p Q) 77:=r4;have h1:=h.new f1;have cx:=h1.row.val k (.pointer (some ⟨s,0,none⟩)) K;have R:=h1.row.val (3+k) (.pointer (some ⟨q,0,none⟩)) P;have ck:=r4.val 0 (.int .i64 i);have cs:=r4.val 2 (.int .i64 l);have m:Hid (aU w1 g c F ts (A+80)):=h1.more ϖ;have X:Hid (c[k]?=some (.pointer (some ⟨s,0,none⟩))):=K;have O:Hid (c[3+k]?=some (.pointer (some ⟨q,0,none⟩))):=P;have u:Hid (oF w1 (F k) s d n (DS.calm L a)):=N.new f1;have HR:Hid (bN w1 q rs):=hR.new f1;clear h f1 l4 h1 K P N hR;have D:(DS.calm L a).acts=a:=rfl;have B:Hid ((DS.calm L a).acts=a):=D;clear D;go_wp2_with fail;refine(jy (F k) s d n (DS.calm L a) w1 u.out).mono ?_;rintro e w2⟨rfl,rfl⟩;rw[B.out];by_cases k6:i=6
 .subst k6;go_wp2_with fail;refine(Df (F k) s d n (DS.calm L a) w2 u.out rfl (M.pend a)).mono ?_;rintro e v⟨rfl,x⟩;replace m:Hid (aU v g c F ts (A+80)):=m.out.new x;replace u:Hid (oF v (F k) s d n (DS.calm L a)):=u.out.new x;replace cx:v.cell? ⟨g,k,none⟩=some (.pointer (some ⟨s,0,none⟩)):=by rw[m.out.row.cell];exact X.out
  replace R:v.cell? ⟨g,3+k,none⟩=some (.pointer (some ⟨q,0,none⟩)):=by rw[m.out.row.cell];exact O.out
  clear x ck cs r4;go_wp2_with fail;refine(jy (F k) s d n (DS.calm L a) v u.out).mono ?_;rintro e z⟨rfl,rfl⟩;rw[B.out];go_wp2;go_ret;exact⟨rfl,_,_,m.out⟩
 .have d6:(i==6)=false:=by simpa using k6
  clear k6;by_cases V:i=7
  .subst V;have⟨bl,vw,hd⟩:=u.out.oz;have Y:=hd.lo;have PC:=hd.hi;have r:L.length=64*n:=hd.len;clear hd;go_wp2_with (with_reducible refine gP rfl ?_);refine(Hz (F k) s d n (DS.calm L a) w2 u.out).mono ?_;rintro e v⟨rfl,x⟩;replace m:Hid (aU v g c F ts (A+80)):=m.out.new x;replace HR:Hid (bN v q rs):=HR.out.new x;clear x ck cs r4 cx R u;have C:(DS.calm L a).bg=L:=rfl;rw[C];clear C;go_wp2_with (with_reducible refine gP rfl ?_);refine yA rfl 9 85 5 _ rfl underlying9 underlying85 underlying5 ⟨L.toArray⟩ rfl ?_;intro z b cap lb Z o;have E:(⟨L.toArray⟩:Ξ).size=64*n:=by show L.toArray.size=_;simp[r]
   have HC:Hid (∀j,(hj:j<L.length)->z.cell? ⟨b,j,none⟩=some (.int .u8 (L[j].toNat:Int))):=λj hj=>by have:=o j (by show j<L.toArray.toList.length;simpa using hj);simpa using this
   rw[E];replace m:Hid (aU z g c F ts (A+80)):=m.out.new Z;replace HR:Hid (bN z q rs):=HR.out.new Z;have R:=m.out.row.val (3+k) (.pointer (some ⟨q,0,none⟩)) O.out;clear o Z E;go_wp2_with (with_reducible refine gP rfl ?_);refine bX rfl (.string (aj L)) z (qY 85 9 5 _ rfl underlying85 underlying5 underlying9 b (64*n) cap rfl L r HC.out) ?_;have⟨J,I⟩:=M.open;clear HC;go_wp2_with fail;refine(Po (aj L) n z (by rw[da];exact r) Y PC J I).mono ?_;rintro e w5⟨s',d',G,rfl,H,W,aa,_⟩;have t:Hid (aU w5 g c F ts (A+80)):=m.out.new W;have y:=HR.out.new W;have ac:Hid (bN w5 q rs):=y;have S:=y.size;rw[M.n]at S;have ao:=t.out.row.val (3+k) (.pointer (some ⟨q,0,none⟩)) O.out;have aq:=t.out.row.val k (.pointer (some ⟨s,0,none⟩)) X.out;have ar:=t.out.row.thaw k;have ag:Hid (oF w5 G s' d' n (DS.calm L 0)):=H;have am:IntKind.i64.wrap (64*(n:Int))=64*(n:Int):=IntWalk.i64_in _ ϖ;have an:(((64*n:Nat):Int)==64*(n:Int))=true:=by rw[ai5];omega
   clear y H R HR J I;go_wp2;go_ret;exact⟨rfl,Pn m.out t.out k hk X.out O.out W aa ag.out ac.out M ϖ⟩
  .have d7:(i==7)=false:=by simpa using V
   clear V;go_wp2;go_ret;exact⟨rfl,_,_,m.out⟩
def LV(h:aU w g c F ts A)(o:0<=A)(k:Nat)(hk:k<=2)(e on b:Int)(p j:Ξ)(i:-9223372036854775808<=b)(f:b<=9223372036854775807):
  Calls prog 69 #[.pointer (some ⟨g,0,none⟩),.agg (bB e on b p j),.int .i64 k] w (Ay g ts (A+80)):=by
 have⟨x,y,l,m,hs⟩:=h.side k hk;obtain⟨rfl,rfl,_⟩|⟨s,d,n,a,L,q,rs,rfl,rfl,hS,hR,M,a0,a1⟩:=hs;exact LU h k hk l m e on b p j i f;exact Ip h k hk l m hS hR M a0 a1 e on b p j i f
end
end
section
open Go.RowKit Go.Lib
def Lx(w:Φ):Calls prog 103 #[.pointer none] w λe w'=>e=.returned (.tuple #[.pointer none,cL,.int .i64 3])/\aG [] w w':=by
 go_enter func103,ntmps103;go_wp2_with (with_reducible refine au rfl ?_);refine br rfl 58 rfl _ fN ?_;intro w1 a c f1 r3;go_wp2_with (with_reducible refine bC 58 rfl ?_);refine bX rfl cL w1 ϰ ?_;go_wp2_with (with_reducible refine ah 58 rfl ?_);refine gj rfl 58 _ _ rfl a rfl cL.cells rfl cY (by decide) _ _ r3 rfl ?_;intro w2 f2 r2;go_wp2_with fail;refine⟨rfl,.tuple #[.pointer none,cL,.int .i64 3],?_,rfl,f1.trans f2 (by intro i b;right;simp at b;omega)⟩;exact uC (tp:=3) (tq:=4) (tr:=2) (ty:=58) rfl _ _ a _ _ rfl r2 ϰ cY
end
end
end Go.Proofs.YtchcmhodnkgojaaGreat
