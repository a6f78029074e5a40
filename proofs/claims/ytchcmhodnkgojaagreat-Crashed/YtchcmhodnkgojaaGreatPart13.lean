/- On the way to the last text; put together and shortened by program. -/
import Derived.Test.YtchcmhodnkgojaaGreatPart11
import Derived.Test.YtchcmhodnkgojaaGreatPart12
import Derived.Conc.HoldsTime
import Derived.Leaving
import Derived.ProofKit
import Derived.Carry
import Derived.Deep.Slices
import Derived.Lib.SmallJoins
set_option linter.all false
set_option maxRecDepth 100000
set_option maxHeartbeats 8000000
open Go.Proofs.Tryz
namespace Go.Proofs.YtchcmhodnkgojaaGreat
open Value (ren)
open Region (wanted)
open List (range)
noncomputable section
section
open Go.RowKit Go.Lib
theorem oN:37<aK 200:=by decide
section
variable {L:List Γ}{n:Nat}{H:aZ}
theorem BS (h:Has L n H)(e:bF H)(s:Nat)(p c:ϓ)(i:p∈P7)(a:Int):(DS.calm L a).tb n s (aD p) (aD c)=(DS.calm L a).put n s (aD p) (aD c):=by
 obtain⟨m,hr,hm⟩:=h;have d:=e.slots hm;have g:=mY (x:=DS.calm L a) hr rfl d;unfold DS.tb;rw[show(DS.calm L a).failed=false from rfl,g];simp only[ν,if_false];rw[ζ];refine Nat.not_lt.2 (wu _ λf b _=>?_);rcases List.mem_append.1 b with b|b
 .rw[iv (x:=DS.calm L a) hr rfl] at b
  exact(d.files hr f b).2
 .obtain rfl:=ae1.1 b
  exact i
theorem tY (h:Has L n H)(b:bF H)(s:Nat)(p:Ξ)(a:Int):(DS.calm L a).gh n s p=(DS.calm L a).remove n s p:=by
 obtain⟨m,hr,hm⟩:=h;have c:=mY (x:=DS.calm L a) hr rfl (b.slots hm);unfold DS.gh;rw[show(DS.calm L a).failed=false from rfl,c];simp only[ν,if_false]
theorem DO (h:Has L n H)(s:Nat)(p:ϓ)(c:H s p=none)(a:Int):(DS.calm L a).remove n s (aD p)=(DS.calm L a,.int .i64 5):=by
 obtain⟨m,hr,hm⟩:=h;have b:=hm s p;rw[c] at b;exact xe n s (aD p) (DS.calm L a) (oX (x:=DS.calm L a) hr rfl s p b)
theorem bF.set {H:aZ}(h:bF H){s:Nat}{p:ϓ}(b:s<=2/\p∈P7)(r:Option (List Γ)):bF (eR H s p r):=λs' c a=>by
 unfold eR at a;split at a
 .rename_i e;rw[e.1,e.2];exact b
 .exact h s' c a
def CO (H:aZ)(k sd pt:Int)(ct:Ξ):aZ×Int:=
 if bH k 4=2 then(if H (bH sd 2) (cD (bH pt 7))=none then(H,5) else(eR H (bH sd 2) (cD (bH pt 7)) none,0))
 else(eR H (bH sd 2) (cD (bH pt 7)) (some (dR ct).data.toList),0)
theorem Nt (h:Has L n H)(e:bF H)(p:37<aK n)(k b pt:Int)(c:Ξ):
  ∃L' N,Has L' n (CO H k b pt c).1/\bF (CO H k b pt c).1/\(0:Int)<=N/\N<=5/\∀a,(DS.calm L a).act n k b pt c=(DS.calm L' (a+N),.int .i64 (CO H k b pt c).2):=by
 have r:=mj b 2;have o:=mj pt 7;have i:=GO c;have d:=L9 (bH pt 7) o;have f:bH b 2<=2/\cD (bH pt 7)∈P7:=⟨ϖ,d⟩
 unfold CO DS.act
 by_cases l:bH k 4=2
 .simp only[φ l]
  by_cases g:H (bH b 2) (cD (bH pt 7))=none
  .simp only[φ g]
   refine⟨L,0,h,e,ϖ,ϖ,λa=>?_⟩;rw[tY h e,<-kK,DO h _ _ g,Int.add_zero]
  .simp only[ζ g]
   obtain⟨L',q1,j⟩:=pj h _ _ g;refine⟨L',2,q1,e.set f _,ϖ,ϖ,λa=>?_⟩;rw[tY h e,<-kK,j]
 .simp only[ζ l]
  obtain⟨L',q1,j⟩:=uP h e.eight ϖ (bH b 2) (cD (bH pt 7)) _ (yD ϖ d) i;refine⟨L',5,q1,e.set f _,ϖ,ϖ,λa=>?_⟩;have m:aD (dR c).data.toList=dR c:=by simp[aD]
  have:=BS h e (bH b 2) (cD (bH pt 7)) (dR c).data.toList d a;rw[m,kK] at this;rw[this];have q:=j a;rw[m,kK] at q;exact q
end
def vk (H:aZ):List (List Γ):=@dite _ (∃ps,fV H ps) (Classical.propDecidable _) (λh=>h.choose) λ_=>[]
theorem GX {H:aZ}{ps:List (List Γ)}(h:fV H ps):vk H=ps:=by
 unfold vk;rw[dif_pos ⟨ps,h⟩];exact(Exists.choose_spec (⟨ps,h⟩:∃ps,fV H ps)).uniq h
def yN (L:List Γ)(H:aZ):List Γ×Int:=(((DS.calm L 0).sU 200 (cz H (vk H))).1.aB,((DS.calm L 0).sU 200 (cz H (vk H))).1.acts)
def JC (L:ϓ)(H:aZ)(k sd pt:Int)(ct:Ξ):List Γ×Int:=
 if bH k 4=3 then yN L H else(((DS.calm L 0).act 200 k sd pt ct).1.aB,((DS.calm L 0).act 200 k sd pt ct).1.acts)
theorem yM {L L':ϓ}{H:aZ}{k:Int}{ps:List (List Γ)}{v:Φ}(b:fV H ps)(h:∀a,(DS.calm L a).sU 200 (cz H ps)=(DS.calm L' (a+k),v)):yN L H=(L',k):=by
 unfold yN;rw[GX b,h 0,Int.zero_add];rfl
structure bq (w:Ω)(F:List Nat)(s d:Nat)(L:List Γ)(a:Int)(H:aZ):Prop where
 store:aE w F s d 200 (DS.calm L a)
 has:Has L 200 H
 seven:bF H
 lo:0<=a
section
variable {w w' wL:Ω}{F:List Nat}{s d:Nat}{L:List Γ}{a:Int}{H:aZ}
theorem bq.ax (h:bq w F s d L a H)(t:Go.Proofs.YtchcmhodnkgojaaGreat.eL)(k:Nat):bq (ax w t k) F s d L a H:=⟨h.store.ax t k,h.has,h.seven,h.lo⟩
theorem bq.blk {S:ϑ}(h:bq w F s d L a H)(f:cX S w w')(h1:s∉S)(h2:∀k∈S,k∉F):bq w' F s d L a H:=⟨h.store.blk f h1 h2,h.has,h.seven,h.lo⟩
theorem bq.new (h:bq w F s d L a H)(f:aQ [] w w'):bq w' F s d L a H:=⟨h.store.new f,h.has,h.seven,h.lo⟩
theorem bq.ok (h:bq w F s d L a H)(ha:a<=900000000):AG (DS.calm L a) 200:=Sx h.has h.seven oN a h.lo ha
theorem bq.synced (h:bq wL F s d L a H){v:Φ}(j:sV F s d 200 (DS.calm L a) wL v w'):
  ∃ps b F' L' k,v= .tuple #[.agg #[.int .i64 (cz H ps).length,b],.int .i64 0]/\fV H ps/\bq w' F' s d L' (a+k) (aU H)/\bC F F' wL/\cX F wL w'/\(0:Int)<=k/\k<=80/\(cz H ps=[]->L'=L/\k=0)/\
   w'.ownsRow wL.heap.size 9 1 b (qV H ps).length (hU (qV H ps))/\(∀g,b.ownBlock=some g->g∉F')/\yN L H=(L',k):=by
 have hm:=FF h.has h.seven a;rcases j with⟨h1,_⟩|⟨_,ps,F',hP,hS,hG,hB,hv⟩
 .exact absurd hm h1
 .have f:=oe (x:=DS.calm L a) h.has rfl hP
  obtain⟨e1,e2⟩:=nU (x:=DS.calm L a) h.has rfl ps;obtain⟨L',k,q1,m,l,i,c,n⟩:=vH h.has h.seven oN f;rw[e1,c a] at hS;rw[e1,e2,c a] at hv;rcases hv with⟨b,_,rfl,h7,h8⟩|⟨e,h6,h7,_⟩
  .exact⟨ps,b,F',L',k,rfl,f,⟨hS,q1,m,by have:=h.lo;omega⟩,hG,hB,l,i,n,h7,h8,yM f c⟩
  .cases h7;exact absurd rfl h6
theorem bq.Sy (h:bq wL F s d L a H){e:Int}(g:j9 F s d 200 (DS.calm L a) wL e w'):e=0/\∃F' L' k,bq w' F' s d L' (a+k) (aU H)/\bC F F' wL/\cX F wL w'/\(0:Int)<=k/\k<=80/\yN L H=(L',k):=by
 have hm:=FF h.has h.seven a;rcases g with⟨h1,_⟩|⟨_,ps,F',hP,hS,hG,hB,hv⟩
 .exact absurd hm h1
 .have b:=oe (x:=DS.calm L a) h.has rfl hP
  obtain⟨e1,e2⟩:=nU (x:=DS.calm L a) h.has rfl ps;obtain⟨L',k,q1,i,j,f,c,l⟩:=vH h.has h.seven oN b;rw[e1,c a] at hS hv;cases hv;exact⟨rfl,F',L',k,⟨hS,q1,i,by have:=h.lo;omega⟩,hG,hB,j,f,yM b c⟩
def Bz (H:aZ)(k sd pt:Int)(ct:Ξ):aZ×Int:=if bH k 4=3 then(aU H,0) else CO H k sd pt ct
theorem RH (H:aZ)(k a pt:Int)(b:Ξ):(Bz H k a pt b).2=0\/(Bz H k a pt b).2=5:=by
 unfold Bz CO;split
 .exact .inl rfl
 .split
  .split
   .exact .inr rfl
   .exact .inl rfl
  .exact .inl rfl
theorem bq.gW (h:bq wL F s d L a H){k b pt:Int}{c:Ξ}{v:Φ}(l:VU F s d 200 (DS.calm L a) k b pt c wL v w'):
  v= .int .i64 (Bz H k b pt c).2/\∃F' L' N,bq w' F' s d L' (a+N) (Bz H k b pt c).1/\bC F F' wL/\cX F wL w'/\(0:Int)<=N/\N<=80/\JC L H k b pt c=(L',N):=by
 rcases l with⟨h3,rfl,F',h4,h5,h6⟩|⟨h3,e,rfl,hE⟩
 .unfold Bz
  rw[ζ h3];obtain⟨L',N,q1,i,g,j,f⟩:=Nt h.has h.seven oN k b pt c;have m:JC L H k b pt c=(L',N):=by
   unfold JC;rw[ζ h3,f 0,Int.zero_add];rfl
  rw[f a] at h4⊢;exact⟨rfl,F',L',N,⟨h4,q1,i,by have:=h.lo;omega⟩,h5,h6,g,ϖ,m⟩
 .unfold Bz
  rw[φ h3];obtain⟨rfl,F',L',N,q1,i,g,j,f,n⟩:=h.Sy hE;exact⟨rfl,F',L',N,q1,i,g,j,f,by unfold JC;rw[φ h3];exact n⟩
end
def H0:aZ:=λ_ _=>none
theorem wl (n:Nat)(h:16<=n):Has (ii n) n H0:=⟨_,LR n h,λ_ _ i f a=>by cases a⟩
def H1:aZ:=eR H0 0 [97] (some [102,105,114,115,116])
theorem WV:([97]:List Γ)∈P7:=zG.2 ⟨0,ϖ,by decide⟩
theorem Db:bF H0:=λ_ _ h=>absurd rfl h
theorem Xy:bF H1:=Db.set ⟨ϖ,WV⟩ _
theorem Xn {ps:List (List Γ)}(h:fV H1 ps):cz H1 ps=[([97],0)]:=by
 have a:∀l,l∈ps↔l=[97]:=λl=>by
  rw[h.2];unfold H1 eR H0
  by_cases e:l=[97]<;>simp[e]
 have b:ps=[[97]]:=by
  cases ps with
  |nil=>exact absurd ((a [97]).2 rfl) ϛ
  |cons p r=>
   have c:=(a p).1 ϛ;subst c;cases r with
   |nil=>rfl
   |cons q r=>
    have d:=(a q).1 ϛ;subst d;have:=(List.pairwise_cons.1 h.1).1 [97] ϛ;exact absurd this (List.lt_irrefl _)
 rw[b];rfl
abbrev St:=List Γ×Int×aZ
def DW:List Γ:=((DS.calm (ii 200) 0).put 200 0 ⟨#[97]⟩ (aD [102,105,114,115,116])).1.aB
def st0:St:=((yN DW H1).1,5+(yN DW H1).2,aU H1)
def nxt (st:St)(y:rj):St:=((JC st.1 st.2.2 y.kind y.side y.path y.content).1,st.2.1+(JC st.1 st.2.2 y.kind y.side y.path y.content).2,(Bz st.2.2 y.kind y.side y.path y.content).1)
def B0 (l:List rj):St:=l.foldl nxt st0
theorem Ii {l:List rj}{k:Nat}{L L':ϓ}{a N:Int}{H:aZ}(b:k<l.length)(h:B0 (l.take k)=(L,a,H))(c:JC L H l[k].kind l[k].side l[k].path l[k].content=(L',N)):
  B0 (l.take (k+1))=(L',a+N,(Bz H l[k].kind l[k].side l[k].path l[k].content).1):=by
 unfold B0 at h⊢;rw[ac4 b,List.foldl_append,h];simp only[List.foldl_cons,List.foldl_nil,nxt,c]
theorem ad7:aU H1 1 [97]=some [102,105,114,115,116]:=by decide
theorem Dn (F:ϑ)(s d n:Nat)(x:DS)(w:Ω)(h:aE w F s d n x)(c:x.failed=false)(b:x.pending n=false):Calls prog 32 #[.pointer (some ⟨s,0,none⟩)] w λe w'=>e= .returned (.int .i64 0)/\aQ [] w w':=by
 have c0:=h.cell;obtain⟨g,i,a⟩:=h.jG;have hd:=kE F s d n x w h;have f:=qD d g n i x w a;rw[c] at hd;rw[b] at f;clear c b a;go_enter func32,ntmps32;go_wp2_with fail;refine hd.mono ?_;rintro e w1 ⟨rfl,rfl⟩;go_wp2_with fail;refine f.mono ?_;rintro e j ⟨rfl,f2⟩;go_wp2;go_ret;exact⟨rfl,f2⟩
theorem Dm (F:ϑ)(s d n:Nat)(x:DS)(ss:List (List Γ×Nat))(w:Ω)(h:aE w F s d n x)(u:x.failed=false)(o:x.pending n=true)(k:x.Fit 100)(m:x.waiting.length<55)(l:x.content n 3 ⟨#[]⟩=some (db ss))(h0:0<ss.length)(j:ss.length<=7)(b:m7 ss)(v:ss.Pairwise λp q=>p.1<q.1):
  Calls prog 32 #[.pointer (some ⟨s,0,none⟩)] w λe w'=>e= .returned (x.oA n ss).2/\∃F',aE w' F' s d n (x.oA n ss).1/\bC F F' w/\aQ F w w':=by
 have c0:=h.cell;obtain⟨B,D,a⟩:=h.jG;have hd:=kE F s d n x w h;have t:=qD d B n D x w a;have c:=λf f2=>Gw F d n x ss f ((h.new f2).disk) k m l h0 j b v
 rw[u] at hd;rw[o] at t;clear u o a l k m h0 j b v;replace c:Hid _:=c;generalize A:x.oA n ss=z at c⊢;clear A;go_enter func32,ntmps32;go_wp2_with fail;refine hd.mono ?_;rintro e w1 ⟨rfl,rfl⟩;go_wp2_with fail;refine t.mono ?_;rintro e f ⟨rfl,f2⟩;have h2:=h.new f2;have c2:=h2.cell;clear c0;go_wp2_with fail;refine(c.out f f2).mono ?_;rintro e G ⟨rfl,F',C,r,g⟩
 clear c2;go_wp2;go_ret;exact⟨rfl,F',⟨r.row h2.row h2.ne,C,λE=>(g s E).elim h2.ne λq=>by have:=h2.row.lt;omega⟩,(bC.refl F _).trans g f2.size,(f2.mono).trans r (λi y=> .inl y)⟩
def ci (H:aZ):List (List Γ):=nW (λq=>H (q/7) (cD (q%7))) 21
def dI (H:aZ):(ci H).length=21:=io _ _
theorem SG (H:aZ)(s p:Nat)(b:s<3)(a:p<7):(ci H)[s*7+p]? =some (cellOf (H s (cD p))):=by
 unfold ci nW;rw[List.getElem?_map,List.getElem?_range (by omega:s*7+p<21),ξ,φ ϖ];show some (cellOf (H ((s*7+p)/7) (cD ((s*7+p)%7))))=_;rw[show(s*7+p)/7=s by omega,show(s*7+p)%7=p by omega]
theorem Jl {a b:Option (List Γ)}(h:cellOf a=cellOf b):a=b:=by
 cases a<;>cases b<;>simp[cellOf] at h
 .rfl
 .rw[h]
theorem Vr (a b:Option (List Γ)):((aD (cellOf a)).toList==(aD (cellOf b)).toList)=decide (a=b):=by
 rw[lg,lg]
 by_cases h:a=b
 .simp[h]
 .have h2:cellOf a≠cellOf b:=λq=>h (Jl q)
  simp[h,h2]
theorem Di {w:Ω}{b:Nat}{H:aZ}{t:η}(h:Row w b (aN (ci H)) t)(s p:Nat)(c:s<3)(a:p<7):w.cell? ⟨b,s*7+p,none⟩=some (.string (aD (cellOf (H s (cD p))))):=by
 rw[h.cell,qe _ _ (by rw[dI];omega),(List.getElem_eq_iff _).2 (SG H s p c a)]
section
variable {w w':Ω}{F:List Nat}{s d:Nat}{L:List Γ}{a:Int}{H:aZ}
theorem Has.state (h:Has L 200 H)(a:Int):(DS.calm L a).state 200=ci H:=by
 unfold DS.state ci
 congr 1
 funext q
 exact Has.content (x:=DS.calm L a) h rfl (q/7) (cD (q%7))
theorem bq.seen (h:bq w F s d L a H):Calls prog 15 #[.pointer (some ⟨s,0,none⟩)] w λe w'=>e= .returned (.tuple #[.agg (aN (ci H)),.bool true])/\aQ [] w w':=by
 obtain⟨m,hr,hm⟩:=id h.has;have:=OH F s d 200 (DS.calm L a) m w h.store rfl rfl hr (h.seven.slots hm)
 rwa [h.has.state a] at this
theorem bq.acts (h:bq w F s d L a H):Calls prog 18 #[.pointer (some ⟨s,0,none⟩)] w λe w'=>e= .returned (.int .i64 a)/\w'=w:=nZ F s d 200 _ w h.store
theorem bq.copied (h:bq w F s d L a H):Calls prog 16 #[.pointer (some ⟨s,0,none⟩)] w λe w'=>∃s' b F',e= .returned (.pointer (some ⟨s',0,none⟩))/\bq w' F' s' b L 0 H/\aQ [] w w'/\bC [] F' w/\w.heap.size<=s':=by
 obtain⟨m,hr,hm⟩:=id h.has;refine(Ak F s d 200 (DS.calm L a) m w h.store hr (h.seven.slots hm)).mono ?_;rintro e w' ⟨s',b,F',rfl,h1,h2,f,c⟩;exact⟨s',b,F',rfl,⟨h1,h.has,h.seven,Int.le_refl _⟩,h2,f,c⟩
theorem bq.bytes (h:bq w F s d L a H):Calls prog 26 #[.pointer (some ⟨s,0,none⟩)] w λe w'=>e= .returned (.string ⟨L.toArray⟩)/\aQ [] w w':=kx F s d 200 _ w h.store
theorem cB (H:aZ):(prog.info? 33).map (·.size)=some (aN (ci H)).size:=by rw[cM,dI];exact pi
theorem cX.row {S:ϑ}(h:cX S w w'){b:Nat}{c:ϐ}{t:η}(hr:Row w b c t)(a:b∉S:=by simp):Row w' b c t:=by
 unfold Row at*;rw[h.block b (Ψ.1 hr).1 a];exact hr
end
theorem dE {P:ω}{ops:Ϙ}{Q:ϔ}{a:Act}{w:Ω}{rest:ϧ}{o:Oper}(h:wpList P ops Q ({o with guard:=none}::rest) a w)(b:Region.wanted o (yielded ops a.tmps)=true:=by kernel_rfl):wpList P ops Q (o::rest) a w:=by
 unfold wpList at h⊢;rw[φ b];rw[φ (by simp[Region.wanted])] at h;exact h
def WW (wL:Ω)(v:Φ)(w':Ω):Prop:=v= .bool true/\cX [] wL w'
def acy (r:Nat)(wL:Ω)(a:Act)(w:Ω):Prop:=WW wL (a.tmps.getD r undef) w
theorem Te {r:Nat}{wL w:Ω}{a:Act}(h:a.tmps.getD r undef= .bool true)(b:cX [] wL w):∃(t:Go.Proofs.YtchcmhodnkgojaaGreat.eL)(d:Nat),acy r wL a (ax w t d):=⟨w.tape,w.drawn,h,b⟩
end
section
open Go.RowKit Go.Lib Go.Sort
section
variable {L:List Γ}{n:Nat}{m:ew}{x:DS}
theorem E3 (h:lV x.aB n m)(y:x.waiting=[])(s:Nat)(A:∀i f,m i=some f->f.set=s->f.path∈P7):
  (bK (aO x n) s).length=((List.range 7).filter λk=>(x.content n s (d7 k)).isSome).length:=by
 rw[iv h y];have g:∀p,p∈bK (iS n m) s↔∃i f,m i=some f/\nameOf f=(s,p):=by
  intro p;unfold bK;rw[ad1];constructor
  .rintro⟨f,d,e⟩
   rw[ad2] at d;obtain⟨i,q⟩:=h.mem.1 d.1;exact⟨i,f,q,by unfold nameOf;rw[<-e];have:=d.2;simp at this;rw[this]⟩
  .rintro⟨i,f,d,e⟩
   unfold nameOf at e;simp only[ai1] at e;exact⟨f,ad2.2 ⟨h.mem.2 ⟨i,d⟩,by simp[e.1]⟩,e.2⟩
 have u:(bK (iS n m) s).Nodup:=by
  have h1:=h.nodup;unfold List.Nodup at h1⊢;unfold bK;rw[List.pairwise_map] at h1⊢;refine(h1.filter _).imp_of_mem ?_;intro a b ha t j e;have e1:=(ad2.1 ha).2;have e2:=(ad2.1 t).2;simp at e1 e2;exact j (by unfold nameOf;rw[e,e1,e2])
 have w:∀k,(x.content n s (d7 k)).isSome=true↔cD k∈bK (iS n m) s:=by
  intro k;rw[g];obtain⟨r,hr⟩:=Cz m s (cD k);rw[<-kK,qw h y hr];cases r with
  |none=>
   simp only[Option.isSome_none,ν,false_iff];rintro⟨i,f,d,e⟩;exact hr i f d e
  |some c=>
   obtain⟨i,q⟩:=hr;simp only[Option.isSome_some,true_iff];exact⟨i,_,q,rfl⟩
 have v:(((List.range 7).filter λk=>(x.content n s (d7 k)).isSome).map cD).Nodup:=by
  unfold List.Nodup;rw[List.pairwise_map];refine(List.pairwise_lt_range.filter _).imp_of_mem ?_;intro a b ha t j e;have e1:=ae2.1 (ad2.1 ha).1;have e2:=ae2.1 (ad2.1 t).1;have:=Ce a e1 b e2 e;omega
 rw[show((List.range 7).filter λk=>(x.content n s (d7 k)).isSome).length=(((List.range 7).filter λk=>(x.content n s (d7 k)).isSome).map cD).length from(ah1 _).symm]
 apply Nat.le_antisymm
 .refine kN _ _ u λp l=>?_
  obtain⟨i,f,d,e⟩:=(g p).1 l;unfold nameOf at e;simp only[ai1] at e;obtain⟨k,o,e2⟩:=zG.1 (A i f d e.1);have z:cD k=p:=by rw[<-e2,e.2]
  exact ad1.2 ⟨k,ad2.2 ⟨ae2.2 o,(w k).2 (z▸l)⟩,z⟩
 .refine kN _ _ v λp l=>?_
  obtain⟨k,o,e⟩:=ad1.1 l;rw[<-e];exact(w k).1 (ad2.1 o).2
end
structure bh (w:Ω)(F:List Nat)(s d:Nat)(L:List Γ)(a:Int)(K:aZ):Prop where
 store:aE w F s d 200 (DS.calm L a)
 has:Has L 200 K
 eight:kh K
 lo:0<=a
def Way (H:aZ)(ss:List (List Γ×Nat))(K:aZ):Prop:=bF K\/(dW ss/\ss≠[]/\Mid H ss K)
section
variable {w w':Ω}{F:List Nat}{s d:Nat}{L:List Γ}{a:Int}{H K:aZ}{ss:List (List Γ×Nat)}
theorem bh.calm (h:bh w F s d L a K)(b:bF K):bq w F s d L a K:=⟨h.store,h.has,b,h.lo⟩
theorem bh.ax (h:bh w F s d L a K)(t:Go.Proofs.YtchcmhodnkgojaaGreat.eL)(k:Nat):bh (ax w t k) F s d L a K:=⟨h.store.ax t k,h.has,h.eight,h.lo⟩
theorem bh.blk {S:ϑ}(h:bh w F s d L a K)(f:cX S w w')(h1:s∉S)(h2:∀k∈S,k∉F):bh w' F s d L a K:=⟨h.store.blk f h1 h2,h.has,h.eight,h.lo⟩
theorem bh.new (h:bh w F s d L a K)(f:aQ [] w w'):bh w' F s d L a K:=⟨h.store.new f,h.has,h.eight,h.lo⟩
theorem bh.seen (h:bh w F s d L a K):Calls prog 15 #[.pointer (some ⟨s,0,none⟩)] w λe w'=>e= .returned (.tuple #[.agg (aN (ci K)),.bool true])/\aQ [] w w':=by
 obtain⟨m,hr,hm⟩:=id h.has;have:=E6 F s d 200 (DS.calm L a) w h.store rfl rfl λb g=>E3 (x:=DS.calm L a) hr rfl b λi f c e=>by
  rcases h.eight.slots (L:=L) (n:=200) hm i f c with q|q
  .exact q.2
  .omega
 rwa [h.has.state a] at this
theorem nh {x:DS}(h:Has x.aB 200 K)(a:x.waiting=[]):x.pending 200=(K 3 []).isSome:=by
 have:=Has.content h a 3 [];unfold DS.pending;rw[show(⟨#[]⟩:Ξ)=aD [] from rfl,show((3:Int))=((3:Nat):Int) from rfl,this]
theorem Hg (a:kh K):K 0 pK.data.toList=none:=by
 cases hv:K 0 pK.data.toList with
 |none=>rfl
 |some v=>
  rcases a 0 pK.data.toList (by rw[hv];simp) with⟨_,q⟩|⟨q,_⟩
  .exact absurd q KZ
  .omega
theorem bh.Cw (h:bh w F s d L a K)(ha:a<=900000000):Calls prog 24 #[.pointer (some ⟨s,0,none⟩)] w λe w'=>e= .returned (.tuple #[.bool (K 3 []).isSome,.bool true])/\(∃F',aE w' F' s d 200 (DS.calm L a)/\bC F F' w)/\aQ F w w':=by
 have g:=nh (x:=DS.calm L a) h.has rfl;have j:(DS.calm L a).Fit 2:=oy L a 2 h.lo;have c:(DS.calm L a).gh 200 0 pK=(DS.calm L a,.int .i64 (if(K 3 []).isSome then 4 else 5)):=by
  unfold DS.gh;rw[g,show(DS.calm L a).failed=false from rfl];cases k:(K 3 []).isSome
  .simp only[ν,if_false]
   refine xe 200 0 pK _ ?_;obtain⟨m,hr,hm⟩:=h.has;exact oX (x:=DS.calm L a) hr rfl 0 pK.data.toList λi f b e=>by
    have:=tz (hm 0 pK.data.toList) b e;exact this (Hg h.eight)
  .simp
 refine(Bd F s d 200 (DS.calm L a) w h.store j (by show 0<60;omega) _ (by rw[c])).mono ?_;rintro e w' ⟨rfl,h1,h2⟩;rw[c] at h1;refine⟨?_,h1,h2⟩;cases (K 3 []).isSome<;>rfl
theorem PI {x:DS}(a:x.waiting=[])(h:Has x.aB 200 K)(b:kh K)(e:ss.length<=7):x.zQ 200 ss=true:=by
 have d:(taken x 200).length<=22:=by
  obtain⟨m,hr,hm⟩:=h;have h1:=iv (x:=x) hr a;have h2:=J0 hr (b.slots (L:=x.aB) (n:=200) hm);rw[<-h1] at h2;unfold aO at h2
  rwa [ah1] at h2
 have c:=fZ x 200 ss;have f:=oN;unfold DS.zQ mH;rw[decide_eq_true ϖ,Bool.true_and];exact kG _ _ ϖ
theorem Bn {x:DS}(a:x.waiting=[])(h:Has x.aB 200 K)(d:kh K):x.gO 200=true:=by
 obtain⟨m,hr,hm⟩:=h;unfold DS.gO;rw[B5 hr a,iv hr a,Bool.true_and,decide_eq_true_eq];refine wu _ λf c b=>?_
 obtain⟨i,e⟩:=hr.mem.1 c;rcases d.slots (L:=x.aB) (n:=200) hm i f e with q|q
 .exact q.2
 .exact absurd q.1 b
theorem Mid.af4 {x:DS}(hm:Mid H ss K)(a:dW ss)(b:ss≠[])(h:Has x.aB 200 K)(c:x.waiting=[]):RM x 200 ss where
 text:=by
  have:=Has.content h c 3 [];rw[show(⟨#[]⟩:Ξ)=aD [] from rfl,show((3:Int))=((3:Nat):Int) from rfl,this,hm.jrn]
 OC:=List.length_pos_iff.2 b
 few:=a.len
 ok:=a.ok
 order:=a.strict
theorem tJ {x:DS}(h:aE w F s d 200 x)(a:Has x.aB 200 K)(k:Way H ss K):
  Calls prog 16 #[.pointer (some ⟨s,0,none⟩)] w λe w'=>∃s' b F',e= .returned (.pointer (some ⟨s',0,none⟩))/\bh w' F' s' b x.aB 0 K/\aQ [] w w'/\bC [] F' w/\w.heap.size<=s':=by
 rcases k with i|⟨j,c,hm⟩
 .obtain⟨m,hr,hm⟩:=id a
  refine(Ak F s d 200 x m w h hr (i.slots hm)).mono ?_;rintro e w' ⟨s',b,F',rfl,h1,h2,g,f⟩;exact⟨s',b,F',rfl,⟨h1,a,i.eight,Int.le_refl _⟩,h2,g,f⟩
 .refine(GK F s d 200 x ss w h (Bn (x:=DS.fresh x.aB) rfl a hm.eight) (hm.af4 j c (x:=DS.fresh x.aB) a rfl) (PI (x:=DS.fresh x.aB) rfl a hm.eight j.len)).mono ?_
  rintro e w' ⟨s',b,F',rfl,h1,h2,g,f⟩;exact⟨s',b,F',rfl,⟨h1,a,hm.eight,Int.le_refl _⟩,h2,g,f⟩
theorem Lf (h:Has L 200 H)(e:bF H){ps:List (List Γ)}(f:fV H ps):
  ∃N L' g,oF 200 L (λx=>x.sU 200 (cz H ps)) N L' g/\N<=80/\Has L' 200 (aU H)/\bF (aU H)/\dW (cz H ps)/\∀j kp,j<N->∃K,Has (g j kp) 200 K/\(K=H\/(cz H ps≠[]/\Mid H (cz H ps) K)\/K=aU H):=by
 have i:=lZ e f;have a:=p7 e f;obtain⟨_,_,_,b,_⟩:=vH h e oN f
 by_cases d:cz H ps=[]
 .rw[d] at i⊢
  refine⟨0,L,λ_ _=>L,oF.nil.congr λx _ _ _=>?_,ϖ,by rw[<-i];exact h,b,d▸a,λj kp k=>ϖ⟩;unfold DS.sU;rw[φ rfl]
 .obtain⟨N,L',g,t,_,l,c,hg⟩:=Sr h e a d oN
  rw[i] at c hg;refine⟨N,L',g,t,l,c,b,a,λj kp k=>?_⟩;rcases hg j kp k with q|⟨m,q1,n⟩|q
  .exact⟨H,q,.inl rfl⟩
  .exact⟨m,n,.inr (.inl ⟨d,q1⟩)⟩
  .exact⟨_,q,.inr (.inr rfl)⟩
def DS.eV (L:List Γ)(a j kp:Int):DS:=⟨L,[],a,true,j,kp,false⟩
theorem Ol (h:Has L 200 H)(m:bF H)(a j kp:Int)(h0:0<=a)(h1:a<=900000000)(i:0<=j/\j<=9223372036854775807):AG (DS.eV L a j kp) 200:=by
 refine⟨rfl,λ_=>⟨h0,by show a+_<=_;omega,i.1,i.2⟩,λps q=>?_⟩;have s:=oe (x:=DS.eV L a j kp) h rfl q;rw[(nU (x:=DS.eV L a j kp) h rfl ps).1];have b:=p7 m s;generalize cz H ps=ss at b;refine⟨b.len,b.ok,λc=>?_⟩;have t:(db ss).length<=63:=by have:=oB ss λp d=>og (b.ok p d).1;have:=b.len;omega
 obtain⟨r,v,l,g,n⟩:=yL h m.eight (by decide) 3 [] (db ss) (by rfl) ϖ;have f:(DS.eV L a j kp).begin 200 ss=(DS.eV L a j kp).put 200 3 ⟨#[]⟩ (aD (db ss))\/pV ((DS.eV L a j kp).begin 200 ss).2≠0:=by
  unfold DS.begin;split
  .right;simp[pV]
  .left;rfl
 rcases f with e|e
 .rw[e] at c⊢
  by_cases u:j<5
  .obtain⟨k,rfl⟩:∃k:Nat,j=k:=⟨j.toNat,ϖ⟩
   have:=l.falls a kp k ϖ;rw[show(DS.eV L a (k:Int) kp).put 200 3 ⟨#[]⟩ (aD (db ss))=_ from this] at c;exact absurd c (by simp[pV])
  .have:=l.room a kp j ϖ
   rw[show(DS.eV L a j kp).put 200 3 ⟨#[]⟩ (aD (db ss))=_ from this];have o:=Has.content (x:=⟨r,[],a+5,true,j-5,kp,false⟩) g rfl 3 [];rw[show(⟨#[]⟩:Ξ)=aD [] from rfl];refine o.trans ?_;unfold eR;rw[φ ⟨rfl,rfl⟩]
 .exact absurd c e
end
end
section
open Go.RowKit Go.Lib
def xM (X A B:aZ)(w:Ω)(x:∀s p,s<3->p<7->X s (cD p)=A s (cD p)\/X s (cD p)=B s (cD p)):
  Calls prog 36 #[.agg (aN (ci X)),.agg (aN (ci A)),.agg (aN (ci B))] w λe w'=>e= .returned (.bool true)/\aQ [] w w':=by
 go_enter func36,ntmps36;go_wp2_with (with_reducible refine bA rfl ?_);refine eQ rfl 33 _ rfl (.agg (aN (ci X))) rfl ?_;intro w1 b1 l1 r t;go_wp2_with (with_reducible refine bA rfl ?_);refine eQ rfl 33 _ rfl (.agg (aN (ci A))) rfl ?_;intro H b2 l2 f2 r2;go_wp2_with (with_reducible refine bA rfl ?_)
 refine eQ rfl 33 _ rfl (.agg (aN (ci B))) rfl ?_;intro g v C h r3;have q1:Row g b1 (aN (ci X)) 33:=h.row (f2.row t ϛ);have D:Row g b2 (aN (ci A)) 33:=h.row r2;have z:Row g v (aN (ci B)) 33:=r3;have E:=(r.trans f2).trans h;clear t r2 r3 r f2 h l1 l2 C;go_wp2_with fail
 go_loopw [7] (λi wr=>∃k:Nat,i= .int .i64 k/\k<=3/\aQ [] g wr) (λi _=>3-(intOf i).toNat)
 case atStart=>exact⟨0,rfl,ϖ,aQ.refl _ _⟩
 case round=>
  obtain⟨k,rfl,F,o⟩:=hrel
  by_cases c:k<3
  .go_wp2_with fail
   rw[show decide ((k:Int)<3)=true from decide_eq_true ϖ]
   go_loopw [8] (λi l=>∃p:Nat,i= .int .i64 p/\p<=7/\aQ [] g l) (λi _=>7-(intOf i).toNat)
   case atStart=>exact⟨0,rfl,ϖ,o⟩
   case round=>
    obtain⟨p,rfl,G,f⟩:=hrel
    by_cases a:p<7
    .have c1:=Di (f.row q1) k p c a
     have c2:=Di (f.row D) k p c a;have n:=Di (f.row z) k p c a;have b:=x k p c a;generalize X k (cD p)=m at c1 b;generalize A k (cD p)=q at c2 b;generalize B k (cD p)=y at n b
     by_cases e1:m=q
     .subst e1
      clear b;go_wp2_with fail
      go_quiet (fail)
      have d:aQ [] wr (wr.drewN nq):=aQ.drewN _ _ _;generalize wr.drewN nq=u at d⊢;have j:=f.trans d;clear c1 c2 n d;go_wp2
      go_roundw
      case rel=>exact⟨p+1,by go_num,ϖ,j⟩
      case measure=>simp[intOf]<;>omega
     .obtain rfl:m=y:=b.resolve_left e1
      have n1:((aD (cellOf m)).toList==(aD (cellOf q)).toList)=false:=by rw[Vr];simpa using e1
      clear b e1;go_wp2_with fail
      go_quiet (fail)
      have d:aQ [] wr (wr.drewN nq):=aQ.drewN _ _ _;generalize wr.drewN nq=u at d⊢;have j:=f.trans d;clear c1 c2 n d n1;go_wp2
      go_roundw
      case rel=>exact⟨p+1,by go_num,ϖ,j⟩
      case measure=>simp[intOf]<;>omega
    .obtain rfl:p=7:=ϖ
     go_wp2
     go_roundw
     case rel=>exact⟨k+1,by go_num,ϖ,f⟩
     case measure=>simp[intOf]<;>omega
  .obtain rfl:k=3:=ϖ
   go_wp2;go_ret;exact⟨rfl,E.trans o⟩
def zc (a b:Ξ)(j:Nat):Bool:=(a.extract (64*j) (64*j+64)).toList==(b.extract (64*j) (64*j+64)).toList
def jM (a b:Ξ)(k:Nat):Nat:=((List.range k).filter λj=>!zc a b j).length
theorem I9 (a b:Ξ)(k:Nat):jM a b (k+1)=jM a b k+if zc a b k then 0 else 1:=by
 unfold jM;rw[List.range_succ,List.filter_append,ah2];cases h:zc a b k<;>simp[h]
def Q3 (a b:Ξ)(k:Nat):jM a b k<=k:=by
 unfold jM;exact ac7 (ϑ7 _ _) ϛ
def tI (a b:Ξ)(n:Nat)(w:Ω)(ha:a.size=64*n)(o:b.size=64*n)(s:n<=1000):
  Calls prog 27 #[.string a,.string b] w λe w'=>e= .returned (.int .i64 (jM a b n))/\aQ [] w w':=by
 go_enter func27,ntmps27;have u:((a.size:Int)==(b.size:Int))=true:=by rw[ha,o];simp
 go_wp2_with fail
 go_loopw [5,6] (λc i wr=>∃k:Nat,i= .int .i64 (64*k:Nat)/\k<=n/\c= .int .i64 (jM a b k)/\aQ [] w wr) (λ_ i _=>64*n-(intOf i).toNat)
 case atStart=>exact⟨0,rfl,ϖ,rfl,aQ.refl _ _⟩
 case round=>
  obtain⟨k,rfl,r,rfl,l⟩:=hrel
  by_cases p:k<n
  .have j:=Q3 a b k
   have d:=I9 a b k;have h1:64*k+64<=a.size:=ϖ
   have h2:64*k+64<=b.size:=ϖ
   have h:Hid (zc a b k=((a.extract (64*k) (64*k+64)).toList==(b.extract (64*k) (64*k+64)).toList)):=rfl;have f:Hid (jM a b (k+1)=jM a b k+if zc a b k then 0 else 1):=d;clear d;generalize jM a b k=q at j f;go_wp2_with fail
   go_quiet (fail)
   have f2:aQ [] wr (wr.drewN nq):=aQ.drewN _ _ _;generalize wr.drewN nq=t at f2⊢;have m:=l.trans f2;cases g:((a.extract (64*k) (64*k+64)).toList==(b.extract (64*k) (64*k+64)).toList) with
   |true=>
    rw[g] at h;rw[h.out] at f;go_wp2
    go_roundw
    case rel=>exact⟨k+1,by go_num,ϖ,by rw[f.out];rfl,m⟩
    case measure=>simp[intOf];omega
   |false=>
    rw[g] at h;rw[h.out] at f;go_wp2
    go_roundw
    case rel=>exact⟨k+1,by go_num,ϖ,by rw[f.out];rfl,m⟩
    case measure=>simp[intOf];omega
  .obtain rfl:k=n:=ϖ
   generalize g:jM a b k=q;have HQ:Hid (jM a b k=q):=g;clear g;go_wp2;go_ret;exact⟨by rw[HQ.out];rfl,l⟩
end
section
open Go.RowKit Go.Lib Go.Sort
def mO (H:aZ)(ss:List (List Γ×Nat))(Kd K:aZ):Prop:=K=Kd\/(dW ss/\ss≠[]/\Mid H ss K/\Kd=ss.foldl eW H)
section
variable {w w':Ω}{F:List Nat}{s d:Nat}{L:List Γ}{a:Int}{H K Kd:aZ}{ss:List (List Γ×Nat)}
theorem mO.way (h:mO H ss Kd K)(a:bF Kd):Way H ss K:=by
 rcases h with rfl|⟨h1,h2,b,_⟩
 .exact .inl a
 .exact .inr ⟨h1,h2,b⟩
theorem kv (h:bF K):K 3 []=none:=by
 cases hv:K 3 [] with
 |none=>rfl
 |some v=>have:=(h 3 [] (by rw[hv];simp)).1;omega
structure acz (L:List Γ)(H:aZ)(ss:List (List Γ×Nat))(Kd:aZ)(f:DS->DS×Φ)(N:Nat)(L':List Γ)(g:Nat->Int->List Γ):Prop where
 Ss:oF 200 L f N L' g
 few:N<=80
 has:Has L' 200 Kd
 falls:∀j kp,j<N->∃K,Has (g j kp) 200 K/\mO H ss Kd K
 runs:∀(x:DS) (w:Ω) (F:List Nat) (s d:Nat),x.aB=L->x.waiting=[]->x.failed=false->x.Fit 100->aE w F s d 200 x->
  Calls Tryz.prog 32 #[.pointer (some ⟨s,0,none⟩)] w λe w'=>e= .returned (f x).2/\∃F',aE w' F' s d 200 (f x).1/\bC F F' w/\aQ F w w'
def Fq (l:Has L 200 K)(u:mO H ss Kd K)(y:bF H)(v:bF Kd):∃f N L' g,acz L H ss Kd f N L' g:=by
 rcases u with rfl|⟨p,k,hm,hd⟩
 .refine⟨λx=>(x,.int .i64 0),0,L,λ_ _=>L,oF.nil,ϖ,l,λj kp a=>ϖ,λx w F s d m i o _ h=>?_⟩
  have n:x.pending 200=false:=by
   rw[nh (x:=x) (by rw[m];exact l) i,kv v];rfl
  refine(Dn F s d 200 x w h o n).mono ?_;rintro e w' ⟨rfl,f⟩;exact⟨rfl,F,h.new f,bC.refl _ _,f.mono⟩
 .have⟨N,L',g,t,_,z,r,hg⟩:=Ex l hm y p (by decide)
  refine⟨λx=>x.oA 200 ss,N,L',g,t,ϖ,by rw[hd];exact r,λj kp a=>?_,λx w F s d m i o c h=>?_⟩
  .rcases hg j kp a with⟨K',q1,q2⟩|q
   .exact⟨K',q2,.inr ⟨p,k,q1,hd⟩⟩
   .exact⟨Kd,by rw[hd];exact q,.inl rfl⟩
  .have b:Has x.aB 200 K:=by rw[m];exact l
   have n:x.pending 200=true:=by
    rw[nh b i,hm.jrn];rfl
   have a:=hm.af4 p k b i;exact Dm F s d 200 x ss w h o n c (by rw[i];simp) a.text a.OC a.few a.ok a.order
end
def acG (l:List rj)(wL:Ω)(v:Φ)(w':Ω):Prop:=∃s d F L a H,v= .pointer (some ⟨s,0,none⟩)/\bq w' F s d L a H/\bC [] F wL/\cX [] wL w'/\wL.heap.size<=s/\a<=30000/\B0 (l.take 300)=(L,a,H)
def wK (sl:Φ)(s k:Nat)(u:Nat->Φ):Act:={tmps:=#[sl,u 1,u 2,.pointer (some ⟨s,0,none⟩),u 4,u 5,u 6,u 7,u 8,u 9,.int .i64 k,u 11,u 12,u 13,u 14,u 15,u 16,u 17,u 18,u 19,u 20,u 21,u 22,u 23,u 24,u 25,u 26,u 27,u 28,u 29,u 30,u 31,u 32,u 33,u 34,u 35,u 36,u 37,u 38,u 39,u 40,u 41,u 42,u 43,u 44,u 45,u 46,u 47,u 48,u 49,u 50,u 51,u 52,u 53,u 54,u 55,u 56,u 57,u 58,u 59,u 60,u 61,u 62,u 63,u 64,u 65,u 66,u 67,u 68,u 69,u 70,u 71,u 72,u 73,u 74],defers:=[]}
theorem bC.nil {F:ϑ}{w:Ω}(g:bC [] F w)(a:pJ w):0∉F:=g.zero a ϛ
theorem qL {F:ϑ}{w a b:Ω}(g:bC [] F w)(e:cX F a b)(c:cX [] w a):cX [] w b:=(c.trans e λi d=>(g i d).imp ϛ id)
end
section
open Go.Conc
namespace af
section
variable (Ok:Env)(r:List Nat)
def eM (f:ac0)(D:kU)(t:ϕ)(R:ϝ)(a:Act)(wL:Ω):Prop:=
 ∀(CS:ϙ)(π:Ϛ)(M:Machine)(tr:Trace),BD Ok π wL M tr (G ((base f).at (ba π a D) t) CS)->VA Ok.H wL a.tmps->a.defers=[]->
  (∀(a':Act)(D':kU)(bO:Ω)(cA:Ϛ)(M':Machine)(kd:Trace)(todo:ϕ),(∀y∈r,y∉sl D')->(∃t d,R a' (ax bO t d))->BD Ok cA bO M' kd (G {(base f).at (ba cA a' D') todo with mode:= .returning} CS)->
   VA Ok.H bO a'.tmps->a'.defers=[]->(∀b,b<wL.heap.size->cA b=π b)->wL.heap.size<=bO.heap.size->Ok.Ok M' kd)->Ok.Ok M tr
end
section
variable {Ok:Env}{r:List Nat}{f:ac0}{D:kU}{k t:List Item}{R:Act->Ω->Prop}{a:Act}{wL:Ω}
theorem jq (t':eL)(d:Nat):eM Ok r f D t R a (ax wL t' d)↔eM Ok r f D t R a wL:=
 ⟨λh CS π M b c=>h CS π M b ((BD.ax t' d).2 c),λh CS π M b c=>h CS π M b ((BD.ax t' d).1 c)⟩
theorem jt {t':ϕ}(m:∀(b:Act)(CS:ϙ)(w:Ω),(∀x,jY (sl D) x=true->a.eval x= .bool true->b.eval x= .bool true)->(∀x,jY (sl D) x=true->a.eval x= .bool false->b.eval x= .bool false)->stepG PP true (G ((base f).at b t) CS) w= .go (G ((base f).at b t') CS) w)(h:eM Ok r f D t' R a wL):eM Ok r f D t R a wL:=λCS π M o k ha hd j=>by
 have ev:∀(x:ab7)(t:Bool),jY (sl D) x=true->a.eval x= .bool t->(ba π a D).eval x= .bool t:=λx t c d=>by
  cases x with
  |tmp i=>
   show(ym D (a.tmps.map (Value.ren π))).getD i undef=_;rw[ac6,ux D _ i (Kb c),<-ac6,k8,show a.tmps.getD i undef=_ from d];simp
  |const v=>exact d
  |global g=>cases d
  |func f=>cases d
 exact eJ k (m _ _ · (λx c=>ev x true c) λx c=>ev x false c) λn l e=>h CS π n l e ha hd j
theorem aW {x y:Code}(h:eM Ok r f D (.code x::.code y::k) R a wL):eM Ok r f D (.code (.seq x y)::k) R a wL:=jt (λ_ _ _ _ _=>stepG_seq) h
theorem rY {id:Nat}{c:Code}(h:eM Ok r f D (.code c::.inBlock id::k) R a wL):eM Ok r f D (.code (.block id c)::k) R a wL:=jt (λ_ _ _ _ _=>stepG_block) h
theorem xL {id:Nat}(h:eM Ok r f D k R a wL):eM Ok r f D (.inBlock id::k) R a wL:=jt (λ_ _ _ _ _=>stepG_inBlock) h
theorem Rb {c:Code}(h:eM Ok r f D (.code c::.inLoop c::k) R a wL):eM Ok r f D (.code (.loop c)::k) R a wL:=jt (λ_ _ _ _ _=>stepG_loop) h
theorem Ji {c:Code}(h:eM Ok r f D (.code c::.inLoop c::k) R a wL):eM Ok r f D (.inLoop c::k) R a wL:=jt (λ_ _ _ _ _=>stepG_inLoop) h
theorem GS (h:eM Ok r f D k R a wL):eM Ok r f D (.code .skip::k) R a wL:=jt (λ_ _ _ _ _=>stepG_skip) h
theorem Aq {id:Nat}{k':ϕ}(b:exitTo id k=some k')(h:eM Ok r f D k' R a wL):eM Ok r f D (.code (.exit id)::k) R a wL:=jt (λ_ _ _ _ _=>stepG_exit b) h
theorem qW {x:ab7}{p q:Code}{b:Bool}(c:a.eval x= .bool b)(d:jY (sl D) x=true)(h:eM Ok r f D (.code (if b then p else q)::k) R a wL):eM Ok r f D (.code (.cond x p q)::k) R a wL:=by
 refine jt (λe CS w h1 h2=>?_) h;cases b with
 |true=>exact stepG_cond (h1 x d c)
 |false=>exact stepG_cond (h2 x d c)
theorem fC {id:Nat}{ops:Ϙ}(h:eM Ok r f D (.inRegion ops (List.range ops.size)::k) R a wL):eM Ok r f D (.code (.region id ops false)::k) R a wL:=jt (λ_ _ _ _ _=>stepG_region) h
theorem ej {ops:Ϙ}(h:eM Ok r f D k R a wL):eM Ok r f D (.inRegion ops []::k) R a wL:=jt (λ_ _ _ _ _=>stepG_region_end) h
def AE (Ok:Env)(r:ϑ)(i6:ϣ)(f:ac0)(D:kU)(k:ϕ)(R:ϝ):Exit->Act->Ω->Prop
 |.normal,a,w=>eM Ok r f D k R a w
 |.exit id,a,w=>i6=some id/\∃k',exitTo id k=some k'/\eM Ok r f D k' R a w
 |.ret,a,w=>∃t d,R a (ax w t d)
 |_,_,_=>False
theorem Ip {b:ϣ}:QOk b (AE Ok r b f D k R) where
 tape:=λe a w t d=>by
  cases e with
  |normal=>exact jq t d
  |exit id=>exact and_congr Iff.rfl (exists_congr λk'=>and_congr Iff.rfl (jq t d))
  |ret=>exact Iff.rfl
  |_=>exact Iff.rfl
 out:=λe a w h=>by
  cases e with
  |normal=>exact .inl rfl
  |ret=>exact .inr (.inl rfl)
  |exit id=>exact .inr (.inr ⟨id,rfl,h.1⟩)
  |_=>exact h.elim
theorem GU {t0:ϕ}(E:ϣ)(hr:∀y∈r,y∉sl D)(h0:∃fn,PP.funcs[f]? =some fn)(Ci:∀it∈t0,cF (sl D) PP S0 E0 true it=true)(I:∀id,E=some id->∃y,exitTo id k=some y)(o:∀t d,WpT PP t0 (AE Ok r E f D k R) a (ax wL t d)):eM Ok r f D (t0++k) R a wL:=λCS π M V L ha hd x=>by
 refine lS L (λown w m=>PR EJ (λ_ _ h=>h) h0 zU Ip (B:=base f) (D0:=D) (CS:=CS) (kT:=k) rfl (by simp[base]) I Ci m ha hd o) ?_;rintro Dead s g w u n A ⟨e,a',bO,cA,q,m,j,l,hg,i,c⟩ H;have go:∀k',g=G ((base f).at (ba cA a' D) k') CS->eM Ok r f D k' R a' bO->Ok.Ok u n:=λk' e h=>
  h CS cA u n ⟨Dead,s,w,e▸A,m,H⟩ l j λU O P T K J todo r2 N p v d Q z=>x U O P T K J todo r2 N p v d (λb C=>(Q b (ψ C c)).trans (i b C)) (ac7 c z)
 cases e with
 |normal=>exact go k hg q
 |exit id=>
  obtain⟨_,k',h1,h2⟩:=q;obtain⟨y,F,S⟩:=hg;rw[h1] at F;cases F;exact go k' S h2
 |ret=>
  obtain⟨todo,rfl⟩:=hg;exact x a' D bO cA u n todo hr q ⟨Dead,s,w,A,m,H⟩ l j i c
 |_=>exact q.elim
theorem aX {c:Code}(e:ϣ)(hr:∀y∈r,y∉sl D)(h0:∃fn,PP.funcs[f]? =some fn)(I:Ϥ)(j:∀w t d,I w->I (ax w t d))(h:I wL)(g:∀w,I w->w.heap.size=wL.heap.size->c.wp PP (AE Ok r e f D k R) a w)(Ci:fN (sl D) PP S0 E0 true c=true:=by kernel_rfl)(i:∀id,e=some id->∃y,exitTo id k=some y:=by simp):eM Ok r f D (.code c::k) R a wL:=
 GU (t0:=[.code c]) e hr h0 (λit b=>by simp at b;subst b;exact Ci) i λt d=>g _ (j _ t d h) rfl
def yy {ops:Ϙ}{i:Nat}{rest:ϑ}{o:Oper}(K:ops[i]? =some o)(tO:ft (sl D) PP S0 E0 true o=true)(L:∀π,wanted o (yielded ops (ba π a D).tmps)=true)(h:∀t d,uponE o a (λa' w'=>eM Ok r f D (.inRegion ops rest::k) R a' w') (λ_ _ _=>False) ((execOp a.eval o).run PP (ax wL t d))):eM Ok r f D (.inRegion ops (i::rest)::k) R a wL:=λCS π M tr Q ha hd hk=>by
 have y:(base f).kind≠.early:=by simp[base]
 have⟨_,_,l⟩:=mm tO;refine lS (Stop:=λs g w=>∃a' bO cA,eM Ok r f D (.inRegion ops rest::k) R a' bO/\g=G ((base f).at (ba cA a' D) (.inRegion ops rest::k)) CS/\Link Ok.H no s no cA bO w/\VA Ok.H bO a'.tmps/\a'.defers=[]/\(∀b,b<wL.heap.size->cA b=π b)/\wL.heap.size<=bO.heap.size) Q (λown w C=>?_) ?_
 .refine aG.step rfl λw₁ hR=>?_
  have⟨P,r2,r3⟩:=zU.rel own w w₁ hR;have⟨cA,c,J,j⟩:=C.rely P r2 r3;have E:LW Ok.H no (ax wL w₁.tape w₁.drawn):=c.lw.ax _ _;have B:ba π a D=ba cA a D:=kC ha (λb m=>(J b m).symm) D;have h1:=h w₁.tape w₁.drawn
  have n:=fun {x bO} (hr:(execOp a.eval o).run PP (ax wL w₁.tape w₁.drawn)= .ok x bO)=>pH EJ c.inj c.zero (λ_ _ h=>h) E c.wr D ha tO hr λi _=>j i
  cases hr:(execOp a.eval o).run PP (ax wL w₁.tape w₁.drawn) with
  |halt hh u=>rw[hr] at h1;exact h1.elim
  |ok Y u=>
   rw[hr] at h1;have⟨l1,l2,x',w',e1,e2,e3,e4,e5,e6⟩:=n hr;have⟨O,o2⟩:=c.uv (λi _=>j i) l1 l2 e3 e4 (λe he=>e5 e (mem_listed (fn:=(base f).fn) he))
   have A:∀v:Φ,eM Ok r f D (.inRegion ops rest::k) R (a.put o.dst v) u->VV (iG Ok.H u) v->aG PP true mL (λs g w=>∃a' bO cA,eM Ok r f D (.inRegion ops rest::k) R a' bO/\g=G ((base f).at (ba cA a' D) (.inRegion ops rest::k)) CS/\Link Ok.H no s no cA bO w/\VA Ok.H bO a'.tmps/\a'.defers=[]/\(∀b,b<wL.heap.size->cA b=π b)/\wL.heap.size<=bO.heap.size)
     (mL.up own w₁ w') (G ((base f).at (ba cA (a.put o.dst v) D) (.inRegion ops rest::k)) CS) w':=λv H hv=>
    .stop λN ⟨d,e⟩=>⟨_,u,cA,H,rfl,by rw[e];exact(o2 _ λb=>Iff.rfl).at d,jW (VA.grow ha l2) hv,(put_defers _ _ _).trans hd,λb m=>(J b m).symm,l2⟩
   cases Y with
   |value v=>
    cases e2;refine⟨_,w',_,by rw[B];exact stepG_value K (L _) y e1,O,?_⟩;rw[jd _ _ _ _ l];exact A v h1 e6
   |skip=>
    cases e2;refine⟨_,w',_,by rw[B];exact stepG_none K (L _) y e1,O,?_⟩;have e:(ba cA a D).put o.dst undef=ba cA (a.put o.dst undef) D:=by
     have:=jd (π:=cA) a D o.dst undef l
     rwa [show ren cA undef=undef by simp[undef]] at this
    rw[e];exact A undef h1 ik
   |_=>exact h1.elim
 .rintro Dead s g w W U S ⟨a',bO,cA,H,rfl,C,I,F,j,q⟩ hs
  exact H CS cA W U ⟨Dead,s,w,S,C,hs⟩ I F λa2 D2 Z V M2 X todo r2 T p v d g2 z=>hk a2 D2 Z V M2 X todo r2 T p v d (λb m=>(g2 b (ψ m q)).trans (j b m)) (ac7 q z)
theorem Ra {ops:Ϙ}{i:Nat}{rest:ϑ}{o:Oper}(b:ops[i]? =some o)(tO:ft (sl D) PP S0 E0 true o=true)(hg:o.guard=none)(h:∀t d,uponE o a (λa' w'=>eM Ok r f D (.inRegion ops rest::k) R a' w') (λ_ _ _=>False) ((execOp a.eval o).run PP (ax wL t d))):eM Ok r f D (.inRegion ops (i::rest)::k) R a wL:=
 yy b tO (λπ=>by simp[Region.wanted,hg]) h
def KM {ops:Ϙ}{i:Nat}{rest:ϑ}{o:Oper}(m:ops[i]? =some o)(b:∀t,o.dst=some t->t∉sl D)(l:∀π,wanted o (yielded ops (ba π a D).tmps)=false)(h:eM Ok r f D (.inRegion ops rest::k) R (a.put o.dst undef) wL):eM Ok r f D (.inRegion ops (i::rest)::k) R a wL:=λCS π M p g ha hd d=>by
 refine eJ g (λw=>stepG_unwanted m (l π)) λn j c=>?_
 have e:=jd (π:=π) a D o.dst undef b;rw[show ren π undef=undef by simp[undef]] at e;rw[e] at c;exact h CS π n j c (jW ha ik) ((put_defers _ _ _).trans hd) d
def CM {ops:Ϙ}{i:Nat}{rest:ϑ}{o:Oper}(v:Φ)(hv:∀r,¬Value.Has r v)(s:ops[i]? =some o)(hg:o.guard=none)(d:∀t,o.dst=some t->t∉sl D)(b:∀(π:Ϛ)(w:Ω),(execOp (ba π a D).eval o).runT PP w #[]=(.ok (.value v) w,#[]))(h:eM Ok r f D (.inRegion ops rest::k) R (a.put o.dst v) wL):eM Ok r f D (.inRegion ops (i::rest)::k) R a wL:=λCS π M x p ha hd n=>by
 have m:∀c:Array Φ,wanted o (yielded ops c)=true:=λc=>by simp[wanted,hg]
 have j:(base f).kind≠.early:=by simp[base]
 have l:∀w,listed PP (base f).fn (ba π a D) o w=#[]:=λw=>by
  unfold listed;rw[show(execOp (ba π a D).eval o).events PP w #[]=#[] from congrArg Prod.snd (b π w)];simp[seen]
 refine eJ p (λw=>by rw[stepG_value s (m _) j (by rw[<-Sem.runT_fst PP _ w #[],b]),l]) λu q g=>?_
 have e:=jd (π:=π) a D o.dst v d;rw[gP v λr hr=>absurd hr (hv r)] at e;rw[e] at g;exact h CS π u q g (jW ha λr hr=>absurd hr (hv r)) ((put_defers _ _ _).trans hd) n
def lI:kU->Nat->Φ->kU
 |[],_,_=>[]
 |p::D,d,v=>if p.1=d then(d,v)::D else p::lI D d v
theorem FA:∀(D:kU)(d:Nat)(v:Φ)(c:ϐ),(sl D).Nodup->d∈sl D->(ym D c).setIfInBounds d v=ym (lI D d v) c
 |[],_,_,_,_,h=>by simp[sl] at h
 |p::D,d,v,c,hn,h=>by
  simp only[sl,List.map_cons,List.nodup_cons] at hn;unfold lI;split
  .rename_i e
   show(ym D (c.setIfInBounds p.1 p.2)).setIfInBounds d v=ym D (c.setIfInBounds d v);have hd:d∉sl D:=e▸hn.1;rw[Dv D _ d v hd,e]
   congr 1
   simp
  .rename_i e
   have hd:d∈sl D:=by
    simp only[sl,List.map_cons,ac1] at h;exact h.resolve_left λq=>e q.symm
   exact FA D d v (c.setIfInBounds p.1 p.2) hn.2 hd
theorem Q8 {ops:Ϙ}{i:Nat}{rest:ϑ}{o:Oper}(d:Nat)(v:Φ)(u:ops[i]? =some o)(n:∀π,Region.wanted o (yielded ops (ba π a D).tmps)=true)(c:o.dst=some d)(q:(sl D).Nodup)(g:d∈sl D)(b:∀(π:Ϛ)(w:Ω),(execOp (ba π a D).eval o).runT PP w #[]=(.ok (.value v) w,#[]))(h:eM Ok r f (lI D d v) (.inRegion ops rest::k) R a wL):eM Ok r f D (.inRegion ops (i::rest)::k) R a wL:=λCS π M y s ha hd p=>by
 have l:(base f).kind≠.early:=by simp[base]
 have m:∀w,listed PP (base f).fn (ba π a D) o w=#[]:=λw=>by
  unfold listed;rw[show(execOp (ba π a D).eval o).events PP w #[]=#[] from congrArg Prod.snd (b π w)];simp[seen]
 refine eJ s (λw=>by rw[stepG_value u (n π) l (by rw[<-Sem.runT_fst PP _ w #[],b]),m]) λx t j=>?_
 have e:(ba π a D).put o.dst v=ba π a (lI D d v):=by
  rw[c];simp only[Act.put,ba];rw[FA D d v _ q g]
 rw[e] at j;exact h CS π x t j ha hd p
theorem jy {ops:Ϙ}{i:Nat}{rest:ϑ}{o:Oper}(d:Nat)(v:Φ)(j:ops[i]? =some o)(hg:o.guard=none)(c:o.dst=some d)(g:(sl D).Nodup)(e:d∈sl D)(b:∀(π:Ϛ)(w:Ω),(execOp (ba π a D).eval o).runT PP w #[]=(.ok (.value v) w,#[]))(h:eM Ok r f (lI D d v) (.inRegion ops rest::k) R a wL):eM Ok r f D (.inRegion ops (i::rest)::k) R a wL:=
 Q8 d v j (λπ=>by simp[Region.wanted,hg]) c g e b h
def qX {ops:Ϙ}{i:Nat}{rest:ϑ}{o:Oper}{f2:ac0}(xs:Array ab7)(args:ϐ){R2:ϥ}(I:ops[i]? =some o)(hg:o.guard=none)(u:xs.all oh=true)(q:xs.all (jY (sl D))=true)(m:∀t,o.dst=some t->t∉sl D)(j:∀(b:Act)(w:Ω),(execOp b.eval o).runT PP w #[]=(.ok (.enter f2 (xs.map b.eval)) w,#[]))(l:xs.map a.eval=args)(A:CC Ok f2 args R2 wL)(h:∀v w',R2 v w'->wL.heap.size<=w'.heap.size->eM Ok r f D (.inRegion ops rest::k) R (a.put o.dst v) w'):eM Ok r f D (.inRegion ops (i::rest)::k) R a wL:=λCS π M tr O ha hd J=>by
 subst l;have G:∀c:Array Φ,wanted o (yielded ops c)=true:=λc=>by simp[wanted,hg]
 have B:(base f).kind≠.early:=by simp[base]
 have C:xs.map (ba π a D).eval=(xs.map a.eval).map (ren π):=by
  rw[Ϙ3];exact ϸ λx y=>mI a D (af8.1 u x y) (af8.1 q x y)
 have hr:∀w,(execOp (ba π a D).eval o).run PP w= .ok (.enter f2 ((xs.map a.eval).map (ren π))) w:=λw=>by rw[<-Sem.runT_fst PP _ w #[],j,C]
 have E:∀w,listed PP (base f).fn (ba π a D) o w=#[]:=λw=>by
  unfold listed;rw[show(execOp (ba π a D).eval o).events PP w #[]=#[] from congrArg Prod.snd (j _ w)];simp[seen]
 refine eJ O (λw=>by rw[stepG_enter I (G _) B (hr w),E]) λM1 Q F=>?_
 refine A _ CS π M1 Q F (λv hv=>?_) λv bO cA K V ⟨t,d,U⟩ s hv n g=>?_
 .obtain⟨x,y,rfl⟩:=Ϙ4.1 hv
  exact j6 ha (af8.1 u x y)
 .have P:eM Ok r f D (.inRegion ops rest::k) R (a.put o.dst v) bO:=(jq t d).1 (h v _ U g)
  have e:((base f).at (ba π a D) (.inRegion ops (i::rest)::k)).finish (ren cA v)=(base f).at (ba cA (a.put o.dst v) D) (.inRegion ops rest::k):=by
   rw[Frame.finish_at,I,ϒ6,kC ha n,jd _ _ _ _ m]
  rw[e] at s;exact P CS cA K V s (jW (VA.grow ha g) hv) ((put_defers _ _ _).trans hd) λZ T W Y N L todo r2 S p v d X z=>J Z T W Y N L todo r2 S p v d (λb H=>(X b (ψ H g)).trans (n b H)) (ac7 g z)
def CCt (Ok:Env)(f:ac0)(a:ϐ)(R:ϥ)(wL:Ω):Prop:=
 ∀(c:κ)(CS:ϙ)(π:Ϛ)(M:Machine)(e:Trace),BD Ok π wL M e (G (Frame.enter PP f a .normal) (c::CS))->
  (∀(v:Φ)(bO:Ω)(cA:Ϛ)(h:Machine)(g:Trace),(∃t d,R v (ax bO t d))->BD Ok cA bO h g (G (c.finish (Value.ren cA v)) CS)->VV (iG Ok.H bO) v->
   (∀b,b<wL.heap.size->cA b=π b)->wL.heap.size<=bO.heap.size->Ok.Ok h g)->Ok.Ok M e
theorem rL {a:Act}{π:Ϛ}{D:kU}{r:Nat}(h:r∉sl D):(ba π a D).tmps.getD r undef=Value.ren π (a.tmps.getD r undef):=by
 show(ym D (a.tmps.map (Value.ren π))).getD r undef=_;rw[ac6,ux D _ r h,<-ac6,k8]
theorem Jm {fn:Func}{r:Tmp}{t:Code}{d:ϐ}{R2:ϥ}(i:Act)(D0:kU)(u:PP.funcs[f]? =some fn)(C:fn.body=some t)(g:fn.results=#[.tmp r])(p:VA Ok.H wL i.tmps)(m:i.defers=[])(B:∀π,ba π i D0={tmps:=d++Array.replicate (fn.ntmps-d.size) undef,defers:=[]})(h:eM Ok [r] f D0 [.code t] (λa w=>R2 (a.tmps.getD r undef) w) i wL):CCt Ok f d R2 wL:=λc CS π M F s y=>by
 rw[enter_at _ u C,<-B π] at s;refine h (c::CS) π M F s p m λa' n bO cA H G todo hr E q o D k l=>?_
 have hg:=rL (a:=a') (π:=cA) (hr r ϛ);refine eJ q (λw=>stepG_leave (b:=base f) (a:=ba cA a' n) (todo:=todo) (v:=Value.ren cA (a'.tmps.getD r undef)) rfl rfl u ?_ ?_) λA z j=>y _ bO cA A z E j (j6 (x:= .tmp r) o rfl) k l
 .rw[results_tmp g,hg]
 .have e:results fn (ba cA a' n).tmps=pure ((ba cA a' n).tmps.getD r undef):=by simp[results,g]
  rw[e];rfl
def CCm (Ok:Env)(f:ac0)(xx:ϡ)(a:(Nat->Nat)->Array Φ)(R:ϥ)(wL:Ω):Prop:=
 (∀v∈xx,VV (iG Ok.H wL) v)->∀(c:κ)(CS:ϙ)(π:Ϛ)(M:Machine)(e:Trace),BD Ok π wL M e (G (Frame.enter PP f (a π) .normal) (c::CS))->
  (∀(v:Φ)(bO:Ω)(cA:Ϛ)(h:Machine)(g:Trace),(∃t d,R v (ax bO t d))->BD Ok cA bO h g (G (c.finish (Value.ren cA v)) CS)->VV (iG Ok.H bO) v->
   (∀b,b<wL.heap.size->cA b=π b)->wL.heap.size<=bO.heap.size->Ok.Ok h g)->Ok.Ok M e
theorem Jo {fn:Func}{A:Code}{xx:ϡ}{d:(Nat->Nat)->Array Φ}{R2:ϥ}(p q:Tmp)(k:Act)(D0:kU)(C:PP.funcs[f]? =some fn)(g:fn.body=some A)(i:fn.results=#[.tmp p,.tmp q])(u:(∀v∈xx,VV (iG Ok.H wL) v)->VA Ok.H wL k.tmps)(s:k.defers=[])(G:∀π,ba π k D0={tmps:=d π++Array.replicate (fn.ntmps-(d π).size) undef,defers:=[]})(h:eM Ok [p,q] f D0 [.code A] (λa w=>R2 (.tuple #[a.tmps.getD p undef,a.tmps.getD q undef]) w) k wL):CCm Ok f xx d R2 wL:=λo c CS π M J z D=>by
 rw[enter_at _ C g,<-G π] at z;refine h (c::CS) π M J z (u o) s λa' B bO cA L K todo hr I y j H n r=>?_
 have l:=rL (a:=a') (π:=cA) (hr p ϛ);have t:=rL (a:=a') (π:=cA) (hr q ϛ);have e:results fn (ba cA a' B).tmps=pure (Value.ren cA (.tuple #[a'.tmps.getD p undef,a'.tmps.getD q undef])):=by
  rw[show Value.ren cA (.tuple #[a'.tmps.getD p undef,a'.tmps.getD q undef])= .tuple #[Value.ren cA (a'.tmps.getD p undef),Value.ren cA (a'.tmps.getD q undef)] by simp,<-l,<-t];simp[results,i]
 refine eJ y (λw=>stepG_leave (b:=base f) (a:=ba cA a' B) (todo:=todo) (v:=Value.ren cA (.tuple #[a'.tmps.getD p undef,a'.tmps.getD q undef])) rfl rfl C ?_ ?_) λF E m=>D _ bO cA F E I m ?_ n r
 .rw[e];rfl
 .rw[e];rfl
 .intro b g
  cases g with
  |tuple hv g=>
   simp only[List.mem_toArray,ac1,al7,or_false] at hv;rcases hv with rfl|rfl
   .exact j6 (x:= .tmp p) j rfl b g
   .exact j6 (x:= .tmp q) j rfl b g
def Np {ops:Ϙ}{i:Nat}{rest:ϑ}{o:Oper}{f2:ac0}{xx:ϡ}(g:(Nat->Nat)->Array Φ){R2:ϥ}(F:ops[i]? =some o)(hg:o.guard=none)(m:∀t,o.dst=some t->t∉sl D)(l:∀(π:Ϛ)(w:Ω),(execOp (ba π a D).eval o).runT PP w #[]=(.ok (.enter f2 (g π)) w,#[]))(u:∀v∈xx,∃x,oh x=true/\a.eval x=v)(s:CCm Ok f2 xx g R2 wL)(h:∀v w',R2 v w'->wL.heap.size<=w'.heap.size->eM Ok r f D (.inRegion ops rest::k) R (a.put o.dst v) w'):eM Ok r f D (.inRegion ops (i::rest)::k) R a wL:=λCS π M Z L ha hd G=>by
 have C:∀c:Array Φ,wanted o (yielded ops c)=true:=λc=>by simp[wanted,hg]
 have y:(base f).kind≠.early:=by simp[base]
 have hr:∀w,(execOp (ba π a D).eval o).run PP w= .ok (.enter f2 (g π)) w:=λw=>by rw[<-Sem.runT_fst PP _ w #[],l]
 have A:∀w,listed PP (base f).fn (ba π a D) o w=#[]:=λw=>by
  unfold listed;rw[show(execOp (ba π a D).eval o).events PP w #[]=#[] from congrArg Prod.snd (l π w)];simp[seen]
 refine eJ L (λw=>by rw[stepG_enter F (C _) y (hr w),A]) λY O B=>?_
 refine s (λv hv=>by obtain⟨x,I,rfl⟩:=u v hv;exact j6 ha I) _ CS π Y O B λv bO cA H T ⟨t,d,S⟩ q hv n j=>?_
 have N:eM Ok r f D (.inRegion ops rest::k) R (a.put o.dst v) bO:=(jq t d).1 (h v _ S j);have e:((base f).at (ba π a D) (.inRegion ops (i::rest)::k)).finish (ren cA v)=(base f).at (ba cA (a.put o.dst v) D) (.inRegion ops rest::k):=by
  rw[Frame.finish_at,F,ϒ6,kC ha n,jd _ _ _ _ m]
 rw[e] at q;exact N CS cA H T q (jW (VA.grow ha j) hv) ((put_defers _ _ _).trans hd) λX Q U W K J todo r2 P p v d V z=>G X Q U W K J todo r2 P p v d (λb E=>(V b (ψ E j)).trans (n b E)) (ac7 j z)
def No {ops:Ϙ}{i:Nat}{rest:ϑ}{o:Oper}{f2:ac0}(g:ϐ){R2:ϥ}(C:ops[i]? =some o)(hg:o.guard=none)(m:∀t,o.dst=some t->t∉sl D)(l:∀(π:Ϛ)(w:Ω),(execOp (ba π a D).eval o).runT PP w #[]=(.ok (.enter f2 g) w,#[]))(s:CCt Ok f2 g R2 wL)(h:∀v w',R2 v w'->wL.heap.size<=w'.heap.size->eM Ok r f D (.inRegion ops rest::k) R (a.put o.dst v) w'):eM Ok r f D (.inRegion ops (i::rest)::k) R a wL:=λCS π M W I ha hd E=>by
 have A:∀c:Array Φ,wanted o (yielded ops c)=true:=λc=>by simp[wanted,hg]
 have u:(base f).kind≠.early:=by simp[base]
 have hr:∀w,(execOp (ba π a D).eval o).run PP w= .ok (.enter f2 g) w:=λw=>by rw[<-Sem.runT_fst PP _ w #[],l]
 have x:∀w,listed PP (base f).fn (ba π a D) o w=#[]:=λw=>by
  unfold listed;rw[show(execOp (ba π a D).eval o).events PP w #[]=#[] from congrArg Prod.snd (l π w)];simp[seen]
 refine eJ I (λw=>by rw[stepG_enter C (A _) u (hr w),x]) λV K y=>?_
 refine s _ CS π V K y λv bO cA F P ⟨t,d,O⟩ q hv n j=>?_
 have J:eM Ok r f D (.inRegion ops rest::k) R (a.put o.dst v) bO:=(jq t d).1 (h v _ O j);have e:((base f).at (ba π a D) (.inRegion ops (i::rest)::k)).finish (ren cA v)=(base f).at (ba cA (a.put o.dst v) D) (.inRegion ops rest::k):=by
  rw[Frame.finish_at,C,ϒ6,kC ha n,jd _ _ _ _ m]
 rw[e] at q;exact J CS cA F P q (jW (VA.grow ha j) hv) ((put_defers _ _ _).trans hd) λU N Q T H G todo r2 L p v d S z=>E U N Q T H G todo r2 L p v d (λb B=>(S b (ψ B j)).trans (n b B)) (ac7 j z)
theorem vj {c:Code}(I:kU->Act->Ω->Prop)(e:Act->Ω->Nat)(h0:I D a wL)(b:∀D a w,I D a w->(∀d a' w',I d a' w'->e a' w'<e a w->eM Ok r f d (.inLoop c::k) R a' w')->eM Ok r f D (.code c::.inLoop c::k) R a w):eM Ok r f D (.code (.loop c)::k) R a wL:=by
 have h:∀n D a w,I D a w->e a w=n->eM Ok r f D (.code c::.inLoop c::k) R a w:=by
  intro n
  induction n using Nat.strongRecOn with
  |_ n m=>exactλD a w l i=>b D a w l λd a' w' g j=>Ji (m _ (i▸j) d a' w' g rfl)
 exact Rb (h _ _ _ _ h0 rfl)
def Nn {ops:Ϙ}{i:Nat}{rest:ϑ}{o:Oper}(q:Nat)(ob:Obj)(n:Ok.K q=some ob)(v:Φ)(hv:∀r,¬Value.Has r v)(K:ops[i]? =some o)(A:∀π,wanted o (yielded ops (ba π a D).tmps)=true)(c:∀t,o.dst=some t->t∉sl D)(m:∀(π:Ϛ)(w:Ω),w.heap[q]? =some ob->(execOp (ba π a D).eval o).run PP w= .ok (.value v) w)(z:∀(π:Ϛ)(w:Ω),w.heap[q]? =some ob->∀e∈(execOp (ba π a D).eval o).events PP w #[],e.sync=false/\aI.mP q e.loc)(h:eM Ok r f D (.inRegion ops rest::k) R (a.put o.dst v) wL):eM Ok r f D (.inRegion ops (i::rest)::k) R a wL:=λCS π M U H ha hd E=>by
 have y:(base f).kind≠.early:=by simp[base]
 have⟨Sh,own,w,h1,h2,P,O,u⟩:=H
 let p:Nat->Prop:=λq=>∃o,Ok.K q=some o
 have L:∀q,p q->q<w.heap.size/\∀l,aI.mP q l->¬Sh l:=λq ⟨o,n⟩=>⟨(Ψ.1 (u q o n).2.1).1,(u q o n).2.2⟩
 have J:=P.union p L;have e:=jd (π:=π) a D o.dst v c;rw[gP v λr hr=>absurd hr (hv r)] at e;have j:aG PP true mL (λs g w'=>s=(λb=>own b\/p b)/\g=G ((base f).at (ba π (a.put o.dst v) D) (.inRegion ops rest::k)) CS/\∃d,w'=w.at d) (λb=>own b\/p b) (G ((base f).at (ba π a D) (.inRegion ops (i::rest)::k)) CS) w:=by
  refine aG.step rfl λw₁ I=>?_
  obtain⟨d,rfl⟩:=I;have B:(w.at d).heap[q]? =some ob:=(u q ob n).2.1;refine⟨_,w.at d,_,stepG_value K (A π) y (m π _ B),⟨ι _,λ_ _ _=>rfl,rfl,rfl,rfl,λev F=>?_⟩,?_⟩
  .have⟨_,x⟩:=z π _ B ev (by simpa using mem_listed (fn:=(base f).fn) F)
   exact .inl ⟨q,.inl (.inr ⟨ob,n⟩),x⟩
  .rw[JK,e]
   exact .stop λC ⟨d2,e2⟩=>⟨rfl,rfl,d2,by rw[e2];rfl⟩
 obtain⟨N,S,t',g',w',e1,e2,⟨s',⟨rfl,rfl,d,rfl⟩,Q⟩,T,_⟩:=mr h1 (yq j J);exact Ok.back _ _ _ _ _ e1 (h CS π S t' ⟨Sh,own,_,e2,h2.at d,Q.part λb x=> .inl x,O,u⟩ (jW ha λr hr=>absurd hr (hv r)) ((put_defers _ _ _).trans hd) E)
theorem Ao {ops:Ϙ}{i:Nat}{rest:ϑ}{o:Oper}(q:Nat)(ob:Obj)(j:Ok.K q=some ob)(v:Φ)(hv:∀r,¬Value.Has r v)(g:ops[i]? =some o)(hg:o.guard=none)(b:∀t,o.dst=some t->t∉sl D)(c:∀(π:Ϛ)(w:Ω),w.heap[q]? =some ob->(execOp (ba π a D).eval o).run PP w= .ok (.value v) w)(d:∀(π:Ϛ)(w:Ω),w.heap[q]? =some ob->∀e∈(execOp (ba π a D).eval o).events PP w #[],e.sync=false/\aI.mP q e.loc)(h:eM Ok r f D (.inRegion ops rest::k) R (a.put o.dst v) wL):eM Ok r f D (.inRegion ops (i::rest)::k) R a wL:=
 Nn q ob j v hv g (λπ=>by simp[Region.wanted,hg]) b c d h
end
theorem FK {f:ac0}{fn:Func}{Z:Code}{r:Tmp}{args:ϐ}{W:Ω}{H:ϒ}{K:Nat->Option Obj}{wL:Ω}{R2:ϥ}{Post:ϥ}(P:PP.funcs[f]? =some fn)(c:fn.body=some Z)(X:PP.inits.idxOf? f=none)(g:fn.results=#[.tmp r])(V:Link H no (λb=>b<W.heap.size/\K b=none) no id wL W)(S:∀q o,K q=some o->W.heap[q]? =some o)(E:Act)(D0:kU)(R:VA H wL E.tmps)(O:E.defers=[])(A:ba id E D0={tmps:=args++Array.replicate (fn.ntmps-args.size) undef,defers:=[]})(u:wL.heap.size=W.heap.size)(h:eM (WM Post W H K) [r] f D0 [.code Z] (λa w=>R2 (a.tmps.getD r undef) w) E wL)(z:∀(v:Φ)(bO:Ω)(π:Ϛ)(own:ϒ)(w':Ω),(∃t d,R2 v (ax bO t d))->Link H no own no π bO w'->VV (iG H bO) v->(∀b,b<W.heap.size->π b=b)->W.heap.size<=bO.heap.size->W.heap.size<=w'.heap.size->ConcM.OsLater W.os w'.os->w'.output=W.output->(∀q o,K q=some o->w'.heap[q]? =some o)->Post (Value.ren π v) w'):
  RJ Post (solo (G (Frame.enter PP f args .normal) []) W) #[]:=by
 have hz:Zero PP (λ_=>False) (solo (G (Frame.enter PP f args .normal) []) W) #[] (G (Frame.enter PP f args .normal) []) W:=
  ⟨⟨_,none,_,rfl,rfl,leavers_one PP _,by simp[Ids]⟩,⟨past_nil.clean,λi a ha=>absurd ha (by simp[touchAt,Trace.act?]),past_nil.over,rfl,ϛ⟩⟩
 have Y:BD (WM Post W H K) id wL (solo (G (Frame.enter PP f args .normal) []) W) #[] (G (Frame.enter PP f args .normal) []):=⟨λ_=>False,_,W,hz,V,⟨λb c l V h=>h,λb c=>c.1,λl b h=>h.elim,λl h=>h.elim⟩,⟨.refl _,rfl⟩,λq o (J:K q=some o)=>⟨λc=>(by rw[c.2] at J;cases J),S q o J,λ_ _ h=>h⟩⟩
 rw[enter_at _ P c,<-A] at Y;rw[enter_at _ P c,<-A];refine h [] id _ _ Y R O λa' F bO cA M' kd todo I hR U Q aa s p=>?_
 have T:=rL (a:=a') (π:=cA) (I r ϛ);obtain⟨Dead,own,w,m,y,hs,k,N⟩:=U;obtain⟨gs,sl,q,rfl,h0,hL,_⟩:=m.ex;have M:VV (iG H bO) (a'.tmps.getD r undef):=j6 (x:= .tmp r) Q rfl;have L:W.heap.size<=w.heap.size:=by
  rcases Nat.eq_zero_or_pos W.heap.size with h0|h0
  .omega
  .have h1:=y.lt (W.heap.size-1) ϖ
   rw[s _ ϖ] at h1;have h2:W.heap.size-1<w.heap.size:=h1;omega
 have j:=λw'' (d:Nat) (e:w''=w.at d)=>z (a'.tmps.getD r undef) bO cA own w'' hR (by rw[e];exact y.at d) M (λb c=>(s b (by rw[u];exact c)).trans rfl) (u▸p) (by rw[e];exact L) (by rw[e];exact k.1) (by rw[e];exact k.2) λq o hq=>by rw[e];exact(N q o hq).2.1
 refine beside_ends (Shun:=Dead) (B:=w.heap.size) (D:=λ_ _ _=>False) (λ_ _ _ h=>h.elim) (n:=0) h0 hL m.past λw₁ ⟨d,e⟩=>⟨rfl,Value.ren cA (a'.tmps.getD r undef),#[],?_,ϛ,j w₁ d e⟩
 have hr:(results fn (ba cA a' F).tmps).run PP w₁= .ok (Value.ren cA (a'.tmps.getD r undef)) w₁:=by
  rw[results_tmp g];rw[T]
 have A:(results fn (ba cA a' F).tmps).events PP w₁ #[]=#[]:=by
  have e:results fn (ba cA a' F).tmps=pure ((ba cA a' F).tmps.getD r undef):=by simp[results,g]
  rw[e];rfl
 simp[G,stepG,unwind,doReturn,Frame.at,base,P,X,ba,ym] at hr A⊢;rw[hr,A];have C:=X;simp at C;simp[seen,GStep.after,C]
end af
end
section
open Go.Conc Go.RowKit Go.Lib Go.Sort
def rn (u:Nat->Φ):Nat->Nat->List Φ->List Φ
 |_,0,r=>r
 |i,n+1,r=>u i::rn u (i+1) n r
namespace af
section
variable {Ok:Env}{r:List Nat}{f:ac0}{D:kU}{k t:List Item}{R:Act->Ω->Prop}{a:Act}{wL w1:Ω}{ops:Array Oper}{i:Nat}{rest:List Nat}{o:Oper}
theorem fi (x:ab7)(c:ops[i]? =some o)(b:o.op= .assign x\/o.op= .move x)(hg:o.guard=none)(h:eM Ok r f D (.inRegion ops rest::k) R (a.put o.dst (a.eval x)) wL)(tO:ft (sl D) PP S0 E0 true o=true:=by kernel_rfl):eM Ok r f D (.inRegion ops (i::rest)::k) R a wL:=by
 refine Ra c tO hg λt d=>?_
 have e:(execOp a.eval o).run PP (ax wL t d)= .ok (.value (a.eval x)) (ax wL t d):=by
  unfold execOp;rcases b with b|b<;>rw[b]<;>rfl
 rw[e];exact(jq t d).2 h
theorem gz (v:Φ)(b:ops[i]? =some o)(hg:o.guard=none)(hr:∀t d,(execOp a.eval o).run PP (ax wL t d)= .ok (.value v) (ax w1 t d))(h:eM Ok r f D (.inRegion ops rest::k) R (a.put o.dst v) w1)(tO:ft (sl D) PP S0 E0 true o=true:=by kernel_rfl):eM Ok r f D (.inRegion ops (i::rest)::k) R a wL:=by
 refine Ra b tO hg λt d=>?_
 rw[hr];exact(jq t d).2 h
theorem GR (v:Φ)(c:ops[i]? =some o)(tO:ft (sl D) PP S0 E0 true o=true)(b:∀π,Region.wanted o (yielded ops (ba π a D).tmps)=true)(hr:∀t d,(execOp a.eval o).run PP (ax wL t d)= .ok (.value v) (ax w1 t d))(h:eM Ok r f D (.inRegion ops rest::k) R (a.put o.dst v) w1):eM Ok r f D (.inRegion ops (i::rest)::k) R a wL:=by
 refine yy c tO b λt d=>?_
 rw[hr];exact(jq t d).2 h
theorem pB (a':Act)(e:a=a')(h:eM Ok r f D t R a' wL):eM Ok r f D t R a wL:=e▸h
theorem dz (B:(Nat->Φ)->Act)(h:∀u,eM Ok r f D t R (B u) wL)(e:a=B λi=>a.tmps.getD i undef:=by kernel_rfl):eM Ok r f D t R a wL:=e▸h _
theorem KL (b:kU)(e:D=b)(h:eM Ok r f b t R a wL):eM Ok r f D t R a wL:=e▸h
theorem z9 {π:Ϛ}{x:ab7}{q:IntKind}{n:Int}(b:oh x=true)(c:jY (sl D) x=true)(h:a.eval x= .int q n):(ba π a D).eval x= .int q n:=(mI a D b c).trans (by rw[h];simp)
theorem amE (t:η)(x:ab7)(g:ops[i]? =some o)(e:o.op= .load t x)(tO:ft (sl D) PP S0 E0 true o=true)(hg:o.guard=none)(ha:(prog.underlying t).map (λd=>match d with|.struct _|.array _ _=>true|_=>false)=some false)(b:Addr)(j:a.eval x= .pointer (some b))(v:Φ)(l:wL.cell? b=some v)(h:eM Ok r f D (.inRegion ops rest::k) R (a.put o.dst v) wL):eM Ok r f D (.inRegion ops (i::rest)::k) R a wL:=by
 refine gz (w1:=wL) v g (tO:=tO) hg (λt' d=>?_) h;have c:(ax wL t' d).cell? b=some v:=l;have h1:aI.RT (lE.load t (.pointer (some b))).sem (ax wL t' d) (.value v) (ax wL t' d) #[⟨.cell b,false,false⟩]:=by
  refine aI.RT.fI (x:=v) ?_ (.pure _);show aI.RT (do if<-isAgg t then Pure.pure (.agg (<-loadCells b (<-Go.sizeOf t))) else load b) _ _ _ _;refine(aI.iP ha).aT ?_;simp only[ν,if_false];exact aI.kP c
 have:=h1.run;unfold execOp;rw[e];show(do pure (.value (<-Instr.loadAt t (a.eval x))):Sem Next).run _ _=_;rw[j];exact this
theorem Q9 {l:ϑ}(e:ϣ)(hr:∀y∈r,y∉sl D)(h0:∃fn,PP.funcs[f]? =some fn)(Ci:cF (sl D) PP S0 E0 true (.inRegion ops l)=true)(h:∀id,e=some id->∃y,exitTo id k=some y)(I:Ϥ)(i:∀w t d,I w->I (ax w t d))(j:I wL)(g:∀w,I w->w.heap.size=wL.heap.size->wpOps PP ops (AE Ok r e f D k R) l a w):eM Ok r f D (.inRegion ops l::k) R a wL:=
 GU (t0:=[.inRegion ops l]) e hr h0 (λit c=>by simp at c;subst c;exact Ci) h λt d b k cs=>wp_ops l a _ (g _ (i _ t d j) rfl) b k cs
theorem vi {l:ϑ}(m:Nat)(e:l=List.range' m (ops.toList.drop m).length)(hr:∀y∈r,y∉sl D)(h0:∃fn,PP.funcs[f]? =some fn)(I:Ϥ)(g:∀w t d,I w->I (ax w t d))(c:I wL)(b:∀w,I w->w.heap.size=wL.heap.size->wpList PP ops (AE Ok r none f D k R) (ops.toList.drop m) a w)(Ci:cF (sl D) PP S0 E0 true (.inRegion ops l)=true:=by kernel_rfl):eM Ok r f D (.inRegion ops l::k) R a wL:=by
 refine Q9 none hr h0 Ci ϛ I g c λw h1 h2=>?_
 rw[e,wpOps_eq_wpList (ops.toList.drop m) m λj=>by rw[ai6,al1]];exact b w h1 h2
end
end af
theorem xj {w w':Ω}{q off:Nat}{ob:Obj}{l:ϡ}(h:w.rangeAt q off l)(b:w.heap[q]? =some ob)(a:w'.heap[q]? =some ob):w'.rangeAt q off l:=λi v hv=>by
 have:=h i v hv;unfold World.cell? at this⊢;rw[b] at this;rw[a];exact this
namespace aI
theorem YW {w:Ω}{t:η}{m:Nat}(b off len cap j:Nat)(c:j<len)(a:PP.underlying t=some (.slice (PP.elem t)))(hm:(PP.info? (PP.elem t)).map (·.size)=some m):
  RT (Instr.indexAt t (.slice (some ⟨b,off,none⟩) len cap) (.int .i64 j)) w (.pointer (some ⟨b,off+j*m,none⟩)) w #[]:=by
 unfold Instr.indexAt;refine RT.aT (x:=(IntKind.i64,(j:Int))) (.pure _) ?_;refine(iM a).aT ?_;refine RT.aT (.pure _) ?_;refine(iM a).aT ?_;simp only;rw[φ ⟨ϖ,ϖ⟩];refine(rv hm).aT ?_;have e:(Addr.add ⟨b,off,none⟩ ((j:Int).toNat*m))=⟨b,off+j*m,none⟩:=by rw[Int.toNat_natCast,Addr.add_mid]
 rw[e];exact .pure _
end aI
section
variable {o:Oper}{x y:ab7}
theorem IN {t:η}{m:Nat}(d:af.PP.underlying t=some (.slice (af.PP.elem t)))(hm:(af.PP.info? (af.PP.elem t)).map (·.size)=some m)(b off len cap j:Nat)(g:j<len)(a:Act)(c:o.op= .indexAddr t x y)(f:a.eval x= .slice (some ⟨b,off,none⟩) len cap)(e:a.eval y= .int .i64 j)(w:Ω):
  (execOp a.eval o).runT af.PP w #[]=(.ok (.value (.pointer (some ⟨b,off+j*m,none⟩))) w,#[]):=by
 have h:aI.RT (do pure (.value (<-Instr.indexAt t (a.eval x) (a.eval y))):Sem Next) w (.value (.pointer (some ⟨b,off+j*m,none⟩))) w #[]:=by
  rw[f,e];exact(aI.YW b off len cap j g d hm).aT (.pure _)
 unfold execOp;rw[c];exact h #[]
theorem DE {t:η}{b off:Nat}{ob:Obj}{c:ϐ}{w:Ω}(ha:(af.PP.underlying t).map (λd=>match d with|.struct _|.array _ _=>true|_=>false)=some true)(s:(af.PP.info? t).map (·.size)=some c.size)(h0:0<c.size)(k:w.heap[b]? =some ob)(p:∀w:Ω,w.heap[b]? =some ob->w.rangeAt b off c.toList)(a:Act)(l:o.op= .load t x)(r:a.eval x= .pointer (some ⟨b,off,none⟩)):
  (execOp a.eval o).run af.PP w= .ok (.value (.agg c)) w/\∀e∈(execOp a.eval o).events af.PP w #[],e.sync=false/\aI.mP b e.loc:=by
 have hr:=p w k;have g:∀i,i<c.size->w.cell? ⟨b,off+i,none⟩=c[i]? :=λi h=>by
  have:=hr i c[i] (by rw[al1,τ h]);rw[this,τ h]
 obtain⟨cs,u,f,rfl⟩:∃cs u f,ob= .cells cs u f:=by
  have:=g 0 h0;rw[τ h0] at this;unfold World.cell? at this;rw[k] at this;cases ob with
  |cells cs u f=>exact⟨cs,u,f,rfl⟩
  |_=>cases this
 have q:∀i,i<c.size->cs[off+i]? =c[i]? :=λi h=>by
  have:=g i h;unfold World.cell? at this;rw[k] at this;simpa using this
 have m:off+c.size<=cs.size:=by
  have:=q (c.size-1) ϖ;rw[τ (by omega:c.size-1<c.size)] at this;have:=(Ψ.1 this).1;omega
 have j:cs.extract off (off+c.size)=c:=by
  apply Array.ext_getElem?
  intro i;rw[Array.getElem?_extract]
  by_cases h:i<c.size
  .rw[φ ϖ,q i h]
  .rw[ζ ϖ,Array.getElem?_eq_none ϖ]
 obtain⟨ev,h1,h2⟩:=aI.kY (t:=t) (off:=off) (n:=c.size) k ha s m;rw[j] at h1;have y:execOp a.eval o=(lE.load t (.pointer (some ⟨b,off,none⟩))).sem:=by
  unfold execOp;rw[l];show(do pure (.value (<-Instr.loadAt t (a.eval x))):Sem Next)=_;rw[r];rfl
 rw[y];refine⟨h1.run,λe j=>(h2 e ?_).1⟩;have v:(lE.load t (.pointer (some ⟨b,off,none⟩))).sem.events af.PP w #[]=#[]++ev:=congrArg Prod.snd (h1 #[]);rw[v] at j;simpa using j
end
theorem UC {k a pt:Int}{b:Ξ}:∀r,¬Value.Has r (.agg (fJ k a pt b)):=λr h=>by
 cases h with
 |agg hv h=>
  simp[fJ] at hv;rcases hv with rfl|rfl|rfl|rfl<;>cases h
end
section
open Go.RowKit Go.Lib Go.Sort
def Iv (sv x y z:Φ):kU:=[(0,sv),(53,x),(63,y),(65,z)]
section
variable {sv x y z:Φ}
theorem pN:∀i∈[2],i∉sl (Iv sv x y z):=by simp[sl,Iv]
theorem vV:(sl (Iv sv x y z)).Nodup:=by simp[sl,Iv]
theorem Zo:53∈sl (Iv sv x y z):=by simp[sl,Iv]
theorem Zn:63∈sl (Iv sv x y z):=by simp[sl,Iv]
theorem Zm:65∈sl (Iv sv x y z):=by simp[sl,Iv]
end
def KY (K:Nat->Option Obj)(ad:Ϡ)(l:List rj):Prop:=∀j,(hj:j<l.length)->(l[j]).Ok/\∃b off,ad=some ⟨b,off,none⟩/\∃ob,K b=some ob/\∀w:Ω,w.heap[b]? =some ob->w.rangeAt b (off+j*4) (l[j]).cells.toList
open aI aI.Sq in
theorem Nq {E:af.Env}{wL:Ω}(ad:Option Addr)(cap:Nat)(l:List rj)(h:KY E.K ad l)(hG:pJ wL):
  af.CCt E 30 #[.slice ad l.length cap] (acG l wL) wL:=by
 refine af.Jm (r:=2) {tmps:=#[undef,undef,undef,undef,undef,undef,undef,undef,undef,undef,undef,undef,undef,undef,undef,undef,undef,undef,undef,undef,undef,undef,undef,undef,undef,undef,undef,undef,undef,undef,undef,undef,undef,undef,undef,undef,undef,undef,undef,undef,undef,undef,undef,undef,undef,undef,undef,undef,undef,undef,undef,undef,undef,undef,undef,undef,undef,undef,undef,undef,undef,undef,undef,undef,undef,undef,undef,undef,undef,undef,undef,undef,undef,undef,undef],defers:=[]} (Iv (.slice ad l.length cap) undef undef undef) Tryz.func30 rfl rfl (λv hv=>?_) rfl (λπ=>by kernel_rfl) ?_
 .simp only[List.mem_toArray,ac1,al7,or_self,or_false] at hv
  subst hv;exact ik
 refine af.aW ?_;refine af.aX none pN ⟨_,Tryz.func30⟩ (λw=>cX [] wL w) (λw t k h=>h.tape t k) (cX.refl _ _) λw hB hsz=>?_
 clear hsz;go_wp2_with fail;refine af.aW ?_;refine af.aX none pN ⟨_,Tryz.func30⟩ (λw=>cX [] wL w) (λw t k h=>h.tape t k) hB λw2 hB2 hsz=>?_
 clear hB hsz;go_wp2_with fail;refine(TR 200 w2 (by omega) (by omega)).mono ?_;rintro e w3 ⟨s,d,F,rfl,hs,f3,g3,l3⟩;have hC:bq w3 F s d (ii 200) 0 H0:=⟨hs,wl 200 (by omega),Db,by omega⟩
 have hB:cX [] wL w3:=hB2.trans f3.blk;have hg:bC [] F wL:=(bC.refl [] wL).trans g3 hB2.size;have hls:wL.heap.size<=s:=ac7 hB2.size l3;clear hs f3 g3 l3 hB2;go_wp2_with fail;refine af.aW ?_
 refine af.aX none pN ⟨_,Tryz.func30⟩ (λw=>bq w F s d (ii 200) 0 H0/\cX [] wL w) (λw t k h=>⟨h.1.ax t k,h.2.tape t k⟩) ⟨hC,hB⟩ λw4 hI hsz=>?_
 clear hC hB hsz;obtain⟨hC,hB⟩:=hI;go_wp2_with fail
 obtain⟨L1,q1,q2⟩:=uP (wl 200 (by omega)) Db.eight (by decide) 0 [97] [102,105,114,115,116] (by decide) (by decide);have VP:Hid (DW=L1):=by
  show _=_;unfold DW;exact(congrArg (λz:DS×Φ=>z.1.aB) (q2 0)).trans rfl
 have aik:Hid ((DS.calm (ii 200) 0).tb 200 0 ⟨#[97]⟩ z6=(DS.calm L1 5,.int .i64 0)):=((BS (wl 200 (by omega)) Db 0 [97] [102,105,114,115,116] WV 0).trans (q2 0)).trans (by rw[Int.zero_add]);refine af.aW ?_
 refine af.aX none pN ⟨_,Tryz.func30⟩ (λw=>bq w F s d (ii 200) 0 H0/\cX [] wL w) (λw t k h=>⟨h.1.ax t k,h.2.tape t k⟩) ⟨hC,hB⟩ λw4 hI hsz=>?_
 clear hC hB hsz;obtain⟨hC,hB⟩:=hI;go_wp2_with fail;refine(BR F s d 200 _ 0 ⟨#[97]⟩ z6 w4 hC.store (oy _ _ _ (by omega)) (by show 0<55;omega) (by omega) (by decide) (by decide) (by decide)).mono ?_;rintro e w5 ⟨rfl,⟨F1,hs1,g1⟩,f1⟩;rw[aik.out] at hs1⊢;have hC1:bq w5 F1 s d L1 5 H1:=⟨hs1,q1,Xy,by omega⟩
 have hB1:cX [] wL w5:=qL hg f1.blk hB;have hg1:bC [] F1 wL:=hg.trans g1 hB.size;clear hC hB hs1 f1 g1 aik q1 q2 hg;go_wp2_with fail
 refine af.aW (af.fC (af.fi _ rfl (.inr rfl) rfl ?_))
 refine af.qX (f2:=31) #[.tmp 24] #[.pointer (some ⟨s,0,none⟩)] (R2:=sV F1 s d 200 (DS.calm L1 5) w5) rfl rfl (by kernel_rfl) (by kernel_rfl) (dG (by kernel_rfl)) (λb w=>by kernel_rfl) (by kernel_rfl) (vn hC1.store (hG.blk hB1 (by simp)) (hg1.nil hG) (hC1.ok (by omega))) λv w6 hR _=>?_
 obtain⟨ps,cv,F2,L2,k2,rfl,hP,hC2,hg2,hB2,hk0,hk1,_,hcv,_,hsl⟩:=hC1.synced hR;have HST:Hid (st0=(L2,5+k2,aU H1)):=by
  show _=_;unfold st0;rw[VP.out,hsl]
 clear hsl VP;rw[Xn hP];have hB2':cX [] wL w6:=qL hg1 hB2 hB1;have agy:bC [] F2 wL:=hg1.trans hg2 hB1.size;obtain⟨Nu,wI,MK⟩:=ce hcv;generalize (qV H1 ps).length=cl at MK;subst MK;clear hcv hR hC1 hB1 hg1 hg2 hB2 hP
 refine af.fi _ rfl (.inr rfl) rfl (af.gz (w1:=w6) (.agg #[.int .i64 1,.slice Nu cl wI]) rfl rfl (λt d=>by kernel_rfl) (af.gz (w1:=w6) (.int .i64 0) rfl rfl (λt d=>by kernel_rfl) ?_))
 refine af.pB {tmps:=(undef::undef::.pointer none::.pointer (some ⟨s,0,none⟩)::.int .i64 0::.int .i64 0::rn (λ_=>undef) 0 5 (.tuple #[.pointer (some ⟨s,0,none⟩),.int .i64 0]::.tuple #[.pointer (some ⟨s,0,none⟩),.int .i64 0]::.pointer (some ⟨s,0,none⟩)::.int .i64 0::.pointer (some ⟨s,0,none⟩)::.bool false::.bool false::.int .i64 0::.bool false::.bool false::.pointer (some ⟨s,0,none⟩)::.int .i64 0::.tuple #[.agg #[.int .i64 1,.slice Nu cl wI],.int .i64 0]::.pointer (some ⟨s,0,none⟩)::.tuple #[.agg #[.int .i64 1,.slice Nu cl wI],.int .i64 0]::.agg #[.int .i64 1,.slice Nu cl wI]::.int .i64 0::rn (λ_=>undef) 0 47 [])).toArray,defers:=[]} (by kernel_rfl) ?_
 simp only[rn];refine af.vi 5 rfl pN ⟨_,Tryz.func30⟩ (λw=>bq w F2 s d L2 (5+k2) (aU H1)/\cX [] wL w) (λw t k h=>⟨h.1.ax t k,h.2.tape t k⟩) ⟨hC2,hB2'⟩ λw7 hI _=>?_
 clear hC2 hB2';obtain⟨hC,hB⟩:=hI;show wpList _ _ _ [_,_,_] _ _;refine aA rfl ?_;refine aj.go (bj rfl 58 rfl _ mQ ?_);intro w8 b8 l8 f8 r8;go_wp2_with (with_reducible first|refine ai 58 rfl ?_);refine aj.go (fX rfl 58 _ _ rfl b8 rfl #[.int .i64 1,.slice Nu cl wI] rfl gv (by simp[Value.oneCell']) _ _ r8 rfl ?_);intro w9 f9 r9
 have f79:aQ [] w7 w9:=f8.trans f9 (by simpa using l8);have hC9:=hC.new f79;have hB9:=hB.trans f79.blk;clear hC hB f8 f9 r8 l8 f79;go_wp2_with fail
 have ail:Hid ((DS.calm L2 (5+k2)).get 200 1 ⟨#[97]⟩=(.string z6,0)):=by
  show _=_;have h1:=Has.content (x:=DS.calm L2 (5+k2)) hC9.has rfl 1 [97];rw[ad7] at h1;unfold DS.get;rw[show(DS.calm L2 (5+k2)).failed=false from rfl,ζ (by simp)];have h2:(DS.calm L2 (5+k2)).content 200 1 ⟨#[97]⟩=some [102,105,114,115,116]:=h1;rw[show((1:Nat):Int)=1 from rfl,h2];rfl
 refine af.aW ?_;refine af.aX none pN ⟨_,Tryz.func30⟩ (λw=>bq w F2 s d L2 (5+k2) (aU H1)/\cX [] wL w/\Row w b8 #[.int .i64 1,.slice Nu cl wI] 58) (λw t k h=>⟨h.1.ax t k,h.2.1.tape t k,h.2.2⟩) ⟨hC9,hB9,r9⟩ λw4 hI hsz=>?_
 clear hC9 hB9 r9 hsz;obtain⟨hC,hB,r8⟩:=hI;go_wp2_with fail;refine(Kz F2 s d 200 _ 1 ⟨#[97]⟩ w4 hC.store (by omega) (by decide) (by decide)).mono ?_;rintro e w5 ⟨rfl,f5⟩;rw[ail.out];have hC5:=hC.new f5;have hB5:=hB.trans f5.blk;have r5:=f5.row r8;clear ail hC hB r8 f5;go_wp2_with fail;refine af.aW ?_
 refine af.aX none pN ⟨_,Tryz.func30⟩ (λw=>bq w F2 s d L2 (5+k2) (aU H1)/\cX [] wL w/\Row w b8 #[.int .i64 1,.slice Nu cl wI] 58) (λw t k h=>⟨h.1.ax t k,h.2.1.tape t k,h.2.2⟩) ⟨hC5,hB5,r5⟩ λw4 hI hsz=>?_
 clear hC5 hB5 r5 hsz;obtain⟨hC,hB,r8⟩:=hI;have c8:w4.cell? ⟨b8,0,none⟩=some (.int .i64 1):=by rw[r8.cell];rfl
 have hfl:(!z6.toList==[102,105,114,115,116])=false:=by rw[show z6=aD [102,105,114,115,116] from rfl,lg];rfl
 go_wp2_with fail;clear hfl c8 r8
 refine af.aW (af.aW ?_);refine af.aX none pN ⟨_,Tryz.func30⟩ (λw=>bq w F2 s d L2 (5+k2) (aU H1)/\cX [] wL w) (λw t k h=>⟨h.1.ax t k,h.2.tape t k⟩) ⟨hC,hB⟩ λw5 hI hsz=>?_
 clear hC hB hsz;obtain⟨hC,hB⟩:=hI;go_wp2_with fail;refine af.rY ?_;refine af.dz (wK undef s 0) λu=>?_
 refine af.vj (λD a w=>∃(x y z:Φ) (k:Nat) (F:List Nat) (L:List Γ) (aa:Int) (H:aZ) (u:Nat->Φ),D=Iv (.slice ad l.length cap) x y z/\a=wK undef s k u/\k<=l.length/\k<=300/\bq w F s d L aa H/\aa<=100+80*k/\bC [] F wL/\cX [] wL w/\Hid (B0 (l.take k)=(L,aa,H))) (λa _=>300-(intOf (a.tmps.getD 10 undef)).toNat)
  ⟨_,_,_,0,F2,L2,5+k2,aU H1,u,rfl,rfl,by omega,by omega,hC,by omega,agy,hB,HST⟩ ?_
 clear hC hB agy u HST;rintro D a w ⟨x,y,z,k,Fk,Lk,ak,Hk,u,rfl,rfl,hkl,hk3,hC,hak,hgk,hB,HR⟩ ih
 have ih':∀(x y z:Φ) (k':Nat) (F:List Nat) (L:List Γ) (aa:Int) (H:aZ) (u:Nat->Φ) (w':Ω),k'=k+1->k'<=l.length->k'<=300->bq w' F s d L aa H->aa<=100+80*k'->bC [] F wL->cX [] wL w'->Hid (B0 (l.take k')=(L,aa,H))->af.eM _ _ _ (Iv (.slice ad l.length cap) x y z) _ _ (wK undef s k' u) w':=λx y z k' F L aa H u w' e1 e2 e3 e4 e5 e6 e7 e8=>ih _ _ _ ⟨x,y,z,k',F,L,aa,H,u,rfl,rfl,e2,e3,e4,e5,e6,e7,e8⟩ (by subst e1;simp[wK,intOf];omega)
 clear ih;unfold wK at ih'⊢;refine af.aW (af.aW (af.fC ?_));refine af.fi _ rfl (.inr rfl) rfl (af.jy 53 (.slice ad l.length cap) rfl rfl rfl vV Zo (λπ w=>by kernel_rfl) ?_);refine af.KL (Iv (.slice ad l.length cap) (.slice ad l.length cap) y z) rfl ?_
 refine af.CM (.int .i64 l.length) (by intro r hr;cases hr) rfl rfl (dG (by kernel_rfl)) (λπ w=>by kernel_rfl) ?_;refine af.gz (w1:=w) (.bool (decide ((k:Int)<(l.length:Int)))) rfl rfl (λt d=>by kernel_rfl) (af.fi _ rfl (.inr rfl) rfl ?_)
 by_cases hlt:k<l.length
 .by_cases hlt3:k<300
  .obtain⟨hok,b,off,rfl,ob,hK,hra⟩:=h k hlt
   have HS:=λ(L':List Γ) (N:Int)=>Ii (L':=L') (N:=N) hlt HR.out
   clear HR;generalize l[k]=y at hok hra HS;replace HS:Hid _:=HS;have hd1:decide ((k:Int)<(l.length:Int))=true:=by simp;omega
   have hd2:decide ((k:Int)<300)=true:=by simp;omega
   rw[hd1];refine af.pB {tmps:=(undef::u 1::u 2::.pointer (some ⟨s,0,none⟩)::rn u 4 6 (.int .i64 k::rn u 11 41 (.int .i64 k::u 53::.int .i64 l.length::.bool true::.bool true::rn u 57 18 []))).toArray,defers:=[]} (by kernel_rfl) ?_;simp only[rn]
   refine af.yy rfl (by kernel_rfl) (λπ=>by kernel_rfl) (λtt dd=>(show af.eM _ _ _ _ _ _ _ (ax w tt dd) from(af.jq tt dd).2 ?_));refine af.GR (w1:=w) (.bool (decide ((k:Int)<300))) rfl (by kernel_rfl) (λπ=>by kernel_rfl) (λt d=>by kernel_rfl) ?_;rw[hd2]
   refine af.gz (w1:=w) (.bool true) rfl rfl (λt d=>by kernel_rfl) (af.ej ?_);refine af.pB {tmps:=(undef::u 1::u 2::.pointer (some ⟨s,0,none⟩)::rn u 4 6 (.int .i64 k::rn u 11 41 (.int .i64 k::u 53::.int .i64 l.length::.bool true::.bool true::.int .i64 k::.bool true::.bool true::rn u 60 15 []))).toArray,defers:=[]} (by kernel_rfl) ?_;simp only[rn]
   clear hd1 hd2;refine af.qW (b:=true) rfl rfl ?_;rw[φ rfl];refine af.GS (af.aW (af.rY (af.aW (af.fC ?_))));refine af.fi _ rfl (.inr rfl) rfl (af.jy 63 (.slice (some ⟨b,off,none⟩) l.length cap) rfl rfl rfl vV Zn (λπ w=>by kernel_rfl) (af.fi _ rfl (.inr rfl) rfl ?_))
   refine af.jy 65 (.pointer (some ⟨b,off+k*4,none⟩)) rfl rfl rfl vV Zm (λπ w=>IN (m:=4) (x:= .tmp 63) (y:= .tmp 64) (by kernel_rfl) (by kernel_rfl) b off l.length cap k hlt _ rfl (by kernel_rfl) (af.z9 (by kernel_rfl) (by kernel_rfl) (by kernel_rfl)) w) ?_
   refine af.KL (Iv (.slice (some ⟨b,off,none⟩) l.length cap) (.slice (some ⟨b,off,none⟩) l.length cap) (.slice (some ⟨b,off,none⟩) l.length cap) (.pointer (some ⟨b,off+k*4,none⟩))) rfl ?_
   refine af.Ao b ob hK (.agg y.cells) UC rfl rfl (dG (by kernel_rfl)) (λπ w hw=>(DE (x:= .tmp 65) (by kernel_rfl) FZ (by show 0<4;omega) hw hra _ rfl (by kernel_rfl)).1) (λπ w hw=>(DE (x:= .tmp 65) (by kernel_rfl) FZ (by show 0<4;omega) hw hra _ rfl (by kernel_rfl)).2) ?_
   refine af.qX (f2:=17) #[.tmp 62,.tmp 66] #[.pointer (some ⟨s,0,none⟩),.agg (fJ y.kind y.side y.path y.content)] (R2:=VU Fk s d 200 (DS.calm Lk ak) y.kind y.side y.path y.content w) rfl rfl (by kernel_rfl) (by kernel_rfl) (dG (by kernel_rfl)) (λb w=>by kernel_rfl) (by kernel_rfl)
    (acf y.kind y.side y.path y.content hC.store (hG.blk hB (by simp)) (hgk.nil hG) (oy _ _ _ hC.lo) (by show 0<55;omega) (λ_=>hC.ok (by omega)) hok.1.1 hok.1.2 hok.2.1.1 hok.2.1.2 hok.2.2.1 hok.2.2.2) λv w6 hR _=>?_
   obtain⟨rfl,F',L',N,hC',hg',hB',hN0,hN1,hal⟩:=hC.gW hR;have HR:=HS.out L' N hal;clear hal HS;have aaR:=RH Hk y.kind y.side y.path y.content;have hgn:bC [] F' wL:=hgk.trans hg' hB.size;have NW:cX [] wL w6:=qL hgk hB' hB;generalize Bz Hk y.kind y.side y.path y.content=re at aaR hC' HR⊢;obtain⟨Hn,en⟩:=re;clear hR hg' hB' hC hB hra hgk hK
   refine af.fi _ rfl (.inl rfl) rfl (af.ej ?_);refine af.dz (λu=>{tmps:=(undef::u 1::u 2::.pointer (some ⟨s,0,none⟩)::.int .i64 en::rn u 5 5 (.int .i64 k::rn u 11 64 [])).toArray,defers:=[]}) λu=>?_
   simp only[rn];simp only at aaR hC' HR;replace HR:Hid _:=HR;refine af.aX none pN ⟨_,Tryz.func30⟩ (λw=>bq w F' s d L' (ak+N) Hn/\cX [] wL w) (λw t k h=>⟨h.1.ax t k,h.2.tape t k⟩) ⟨hC',NW⟩ λw7 hI hsz=>?_
   clear hC' NW hsz;obtain⟨hC,hB⟩:=hI;rcases aaR with rfl|rfl
   all_goals
    go_wp2_with fail;refine af.xL ?_;refine af.aX none pN ⟨_,Tryz.func30⟩ (λw=>bq w F' s d L' (ak+N) Hn/\cX [] wL w) (λw t k h=>⟨h.1.ax t k,h.2.tape t k⟩) ⟨hC,hB⟩ λw8 hI hsz=>?_
    clear hC hB hsz;obtain⟨hC,hB⟩:=hI;go_wp2_with fail;refine af.dz (wK undef s (k+1)) λu=>?_
    exact ih' _ _ _ (k+1) F' L' (ak+N) Hn u w8 rfl (by omega) (by omega) hC (by push_cast;omega) hgn hB HR
  .have hd1:decide ((k:Int)<(l.length:Int))=true:=by simp;omega
   have hd2:decide ((k:Int)<300)=false:=by simp;omega
   rw[hd1];refine af.pB {tmps:=(undef::u 1::u 2::.pointer (some ⟨s,0,none⟩)::rn u 4 6 (.int .i64 k::rn u 11 41 (.int .i64 k::u 53::.int .i64 l.length::.bool true::.bool true::rn u 57 18 []))).toArray,defers:=[]} (by kernel_rfl) ?_;simp only[rn]
   refine af.yy rfl (by kernel_rfl) (λπ=>by kernel_rfl) (λtt dd=>(show af.eM _ _ _ _ _ _ _ (ax w tt dd) from(af.jq tt dd).2 ?_));refine af.GR (w1:=w) (.bool (decide ((k:Int)<300))) rfl (by kernel_rfl) (λπ=>by kernel_rfl) (λt d=>by kernel_rfl) ?_;rw[hd2]
   refine af.gz (w1:=w) (.bool false) rfl rfl (λt d=>by kernel_rfl) (af.ej ?_);refine af.pB {tmps:=(undef::u 1::u 2::.pointer (some ⟨s,0,none⟩)::rn u 4 6 (.int .i64 k::rn u 11 41 (.int .i64 k::u 53::.int .i64 l.length::.bool true::.bool true::.int .i64 k::.bool false::.bool false::rn u 60 15 []))).toArray,defers:=[]} (by kernel_rfl) ?_
   simp only[rn];refine af.qW (b:=false) rfl rfl ?_;rw[ζ (by simp)];refine af.Aq rfl (af.aX none pN ⟨_,Tryz.func30⟩ (λw=>bq w Fk s d Lk ak Hk/\cX [] wL w) (λw t k h=>⟨h.1.ax t k,h.2.tape t k⟩) ⟨hC,hB⟩ λw6 hI hsz=>?_);go_wp2_with fail
   exact⟨w6.tape,w6.drawn,s,d,Fk,Lk,ak,Hk,rfl,hI.1,hgk,hI.2,hls,by omega,by rw[<-HR.out,show l.take 300=l.take k by rw[show k=300 by omega]]⟩
 .have hd1:decide ((k:Int)<(l.length:Int))=false:=by simp;omega
  rw[hd1];refine af.pB {tmps:=(undef::u 1::u 2::.pointer (some ⟨s,0,none⟩)::rn u 4 6 (.int .i64 k::rn u 11 41 (.int .i64 k::u 53::.int .i64 l.length::.bool false::.bool false::rn u 57 18 []))).toArray,defers:=[]} (by kernel_rfl) ?_;simp only[rn]
  refine af.KM rfl (dG (by kernel_rfl)) (λπ=>by kernel_rfl) (af.KM rfl (dG (by kernel_rfl)) (λπ=>by kernel_rfl) ?_);refine af.gz (w1:=w) (.bool false) rfl rfl (λt d=>by kernel_rfl) (af.ej ?_)
  refine af.pB {tmps:=(undef::u 1::u 2::.pointer (some ⟨s,0,none⟩)::rn u 4 6 (.int .i64 k::rn u 11 41 (.int .i64 k::u 53::.int .i64 l.length::.bool false::.bool false::undef::undef::.bool false::rn u 60 15 []))).toArray,defers:=[]} (by kernel_rfl) ?_;simp only[rn];refine af.qW (b:=false) rfl rfl ?_;rw[ζ (by simp)]
  refine af.Aq rfl (af.aX none pN ⟨_,Tryz.func30⟩ (λw=>bq w Fk s d Lk ak Hk/\cX [] wL w) (λw t k h=>⟨h.1.ax t k,h.2.tape t k⟩) ⟨hC,hB⟩ λw6 hI hsz=>?_);go_wp2_with fail
  exact⟨w6.tape,w6.drawn,s,d,Fk,Lk,ak,Hk,rfl,hI.1,hgk,hI.2,hls,by omega,by rw[<-HR.out,show l.take 300=l.take k by rw[θ (by omega),θ (by omega)]]⟩
structure Ap (F:List Nat)(s:Nat)(F':List Nat)(s':Nat):Prop where
 a:s∉F'
 b:s'∉F
 c:s≠s'
 d:∀k∈F',k∉F
section
variable {w w':Ω}{F F' G:List Nat}{s s' d:Nat}{L:List Γ}{a:Int}{H:aZ}
theorem Ap.symm (h:Ap F s F' s'):Ap F' s' F s:=⟨h.b,h.a,h.c.symm,λk b a=>h.d k a b⟩
theorem Ap.fresh (b:bq w F s d L a H)(g:bC [] F' w)(e:w.heap.size<=s'):Ap F s F' s':=by
 have h1:=b.store.row.lt;refine⟨λq=>(g s q).elim ϛ ϖ,λq=>?_,ϖ,λk c q=>?_⟩
 .have:=b.store.disk.lt s' q
  omega
 .have:=b.store.disk.lt k q
  exact(g k c).elim ϛ ϖ
theorem bq.off (b:bq w F s d L a H)(h:Ap F s F' s')(c:cX F' w w'):bq w' F s d L a H:=b.blk c h.a h.d
end
def adD:kU->Nat->Φ
 |[],_=>undef
 |p::D,i=>if p.1=i then p.2 else adD D i
theorem jz {Ok:af.Env}{r:ϑ}{f:ac0}{D:kU}{t:ϕ}{R:ϝ}{a:Act}{wL:Ω}(B:(Nat->Φ)->kU)(h:∀x,af.eM Ok r f (B x) t R a wL)(e:D=B λi=>adD D i:=by kernel_rfl):af.eM Ok r f D t R a wL:=e▸h _
theorem Mw:(af.PP.underlying 3).map (λd=>match d with|.struct _|.array _ _=>true|_=>false)=some false:=ϰ
theorem uG {o:Oper}{x:ab7}{b off:Nat}{v:Φ}{w:Ω}(i:w.cell? ⟨b,off,none⟩=some v)(a:Act)(c:o.op= .load 3 x)(h:a.eval x= .pointer (some ⟨b,off,none⟩):=by kernel_rfl):
  (execOp a.eval o).run af.PP w= .ok (.value v) w/\∀e∈(execOp a.eval o).events af.PP w #[],e.sync=false/\aI.mP b e.loc:=by
 have h1:aI.RT (lE.load 3 (.pointer (some ⟨b,off,none⟩))).sem w (.value v) w #[⟨.cell ⟨b,off,none⟩,false,false⟩]:=by
  refine aI.RT.fI (x:=v) ?_ (.pure _);show aI.RT (do if<-isAgg 3 then Pure.pure (.agg (<-loadCells ⟨b,off,none⟩ (<-Go.sizeOf 3))) else load ⟨b,off,none⟩) _ _ _ _;refine(aI.iP Mw).aT ?_;simp only[ν,if_false];exact aI.kP i
 have g:execOp a.eval o=(lE.load 3 (.pointer (some ⟨b,off,none⟩))).sem:=by
  unfold execOp;rw[c];show(do pure (.value (<-Instr.loadAt 3 (a.eval x))):Sem Next)=_;rw[h];rfl
 rw[g];refine⟨h1.run,λe d=>?_⟩;have f:(lE.load 3 (.pointer (some ⟨b,off,none⟩))).sem.events af.PP w #[]=#[]++#[⟨.cell ⟨b,off,none⟩,false,false⟩]:=congrArg Prod.snd (h1 #[]);rw[f] at d;simp only[Array.empty_append,List.mem_toArray,ae1] at d;subst d;exact⟨rfl,.inl ⟨_,rfl,rfl⟩⟩
end
section
open Go.RowKit Go.Lib
theorem G1 (L:ϓ)(j:Nat):((aD L).extract (64*j) (64*j+64)).toList=gn L j:=by
 rw[ByteArray.toList_eq,ByteArray.data_extract,Array.toList_extract];unfold gn aD;simp[List.extract]
theorem LM (a b:ϓ)(j:Nat):zc (aD a) (aD b) j=(gn a j==gn b j):=by
 unfold zc;rw[G1,G1]
theorem Af (a b:ϓ)(n:Nat):jM (aD a) (aD b) n=gV a b n:=by
 unfold jM gV
 congr 1
 apply List.filter_congr
 intro j _;rw[LM];rfl
end
section
open Go.RowKit Go.Lib Go.Sort
def AJ (K:Nat->Option Obj)(ad:Ϡ)(l:List (Int×Int)):Prop:=∀j,(hj:j<l.length)->(-9223372036854775808<=l[j].1/\l[j].1<=9223372036854775807)/\∃b off,ad=some ⟨b,off,none⟩/\∃ob,K b=some ob/\
 ∀w:Ω,w.heap[b]? =some ob->w.rangeAt b (off+j*2) [.int .i64 l[j].1,.int .i64 l[j].2]
section
variable {w w':Ω}{F F':List Nat}{s d s':Nat}{L:List Γ}{a:Int}{H K Kd:aZ}{ss:List (List Γ×Nat)}
theorem Ap.abL (b:bh w F s d L a K)(g:bC [] F' w)(e:w.heap.size<=s'):Ap F s F' s':=by
 have h1:=b.store.row.lt;refine⟨λq=>(g s q).elim ϛ ϖ,λq=>?_,ϖ,λk c q=>?_⟩
 .have:=b.store.disk.lt s' q
  omega
 .have:=b.store.disk.lt k q
  exact(g k c).elim ϛ ϖ
theorem Ap.ag4 {G:ϑ}(h:Ap F s F' s')(b:bh w F s d L a K)(g:bC F' G w):Ap F s G s':=by
 have h1:=b.store.row.lt;refine⟨λq=>(g s q).elim h.a ϖ,h.b,h.c,λk c q=>?_⟩;have:=b.store.disk.lt k q;exact(g k c).elim (λx=>h.d k x q) ϖ
theorem bh.off (b:bh w F s d L a K)(h:Ap F s F' s')(c:cX F' w w'):bh w' F s d L a K:=b.blk c h.a h.d
def Th {f:DS->DS×Φ}{N:Nat}{L':ϓ}{g:Nat->Int->List Γ}(b:acz L H ss Kd f N L' g)(gC:Nat)(kp:Int)(a:Int):
  ∃(y:DS)(e:Int)(d:Nat)(c:aZ),f (DS.eV L a gC kp)=(y,.int .i64 e)/\y.acts=a+d/\d<=80/\Has y.aB 200 c/\mO H ss Kd c/\lq e d gC 0 N=true/\(¬gC<N->gV L' y.aB 200=0):=by
 have i:=b.few
 by_cases h:gC<N
 .have⟨c,q1,j⟩:=b.falls gC kp h
  refine⟨_,3,gC,c,b.Ss.falls a kp gC h,rfl,ϖ,q1,j,?_,λq=>absurd h q⟩;unfold lq;rw[φ ϖ];simp
 .refine⟨_,0,N,Kd,b.Ss.room a kp gC ϖ,rfl,i,b.has,.inl rfl,?_,λ_=>oC _ _⟩
  unfold lq;rw[ζ ϖ];simp
theorem rP (L:ϓ)(a kp:Int)(gC:Nat):(DS.calm L a).tC gC kp=(DS.eV L a gC kp,0):=by
 unfold DS.tC;rw[show(DS.calm L a).failed=false from rfl,ζ ϛ,ζ ϖ];rfl
def JE (F:ϑ)(Kd:aZ)(wL:Ω)(v:Φ)(w':Ω):Prop:=
 ∃(s' d':Nat)(F':ϑ)(L':ϓ)(a':Int),v= .tuple #[.pointer (some ⟨s',0,none⟩),.bool true]/\bh w' F' s' d' L' a' Kd/\a'<=200000/\bC F F' wL/\cX F wL w'
end
def WX (F:ϑ)(Kd:aZ)(wL:Ω)(a:Act)(w:Ω):Prop:=JE F Kd wL (.tuple #[a.tmps.getD 8 undef,a.tmps.getD 9 undef]) w
theorem vR (π:Ϛ)(xs:List (List Γ)):(aN xs).map (Value.ren π)=aN xs:=by
 unfold aN;rw[List.map_toArray,List.map_map]
 congr 1
 exact List.map_congr_left λb _=>ϛ
theorem O5 (π:Ϛ)(xs:List (List Γ)):Value.ren π (.agg (aN xs))= .agg (aN xs):=by
 simp[vR]
theorem af.rX {Ok:af.Env}{r:ϑ}{f:ac0}{D:kU}{k:ϕ}{R:ϝ}{a:Act}{wL:Ω}{g:Code}(hr:∀y∈r,y∉sl D)(h0:∃fn,af.PP.funcs[f]? =some fn)(Ci:fN (sl D) af.PP S0 E0 true g=true)(B:(Nat->Φ)->Act)(I:Ϥ)(m:∀w t d,I w->I (ax w t d))(b:I wL)(j:∀w,I w->w.heap.size=wL.heap.size->g.wp af.PP (λe a' w'=>e= .normal/\I w'/\a'=B λi=>a'.tmps.getD i undef) a w)(h:∀u w',I w'->af.eM Ok r f D k R (B u) w'):af.eM Ok r f D (.code g::k) R a wL:=
 af.aX none hr h0 (Ci:=Ci) I m b λw b c=>wp_mono (j w b c) λe a' w' ⟨l,b,n⟩=>by
  subst l;rw[n];exact h _ _ b
def rI (sv:Φ)(x:Nat->Φ):kU:=[(3,sv),(26,x 26),(39,x 39),(41,x 41),(42,x 42),(51,x 51),(53,x 53),(54,x 54)]
section
variable {sv:Φ}{x:Nat->Φ}
theorem jm:∀y∈[8,9],y∉sl (rI sv x):=by simp[sl,rI]
end
def uo (s:Nat)(A B:aZ):Act:={tmps:=(.pointer (some ⟨s,0,none⟩)::.agg (aN (ci A))::.agg (aN (ci B))::rn (λ_=>undef) 3 127 []).toArray,defers:=[]}
def Cc (s a b k:Nat)(u:Ϟ):Act:={tmps:=#[.pointer (some ⟨s,0,none⟩),u 1,u 2,undef,u 4,.pointer (some ⟨a,0,none⟩),.pointer (some ⟨b,0,none⟩),u 7,u 8,u 9,.int .i64 k,u 11,u 12,u 13,u 14,u 15,u 16,u 17,u 18,u 19,u 20,u 21,u 22,u 23,u 24,u 25,undef,u 27,u 28,u 29,u 30,u 31,u 32,u 33,u 34,u 35,u 36,u 37,u 38,undef,u 40,undef,undef,u 43,u 44,u 45,u 46,u 47,u 48,u 49,u 50,undef,u 52,undef,undef,u 55,u 56,u 57,u 58,u 59,u 60,u 61,u 62,u 63,u 64,u 65,u 66,u 67,u 68,u 69,u 70,u 71,u 72,u 73,u 74,u 75,u 76,u 77,u 78,u 79,u 80,u 81,u 82,u 83,u 84,u 85,u 86,u 87,u 88,u 89,u 90,u 91,u 92,u 93,u 94,u 95,u 96,u 97,u 98,u 99,u 100,u 101,u 102,u 103,u 104,u 105,u 106,u 107,u 108,u 109,u 110,u 111,u 112,u 113,u 114,u 115,u 116,u 117,u 118,u 119,u 120,u 121,u 122,u 123,u 124,u 125,u 126,u 127,u 128,u 129],defers:=[]}
def ez:Code->Option Code
 |.seq _ b=>some b
 |_=>none
def LJ:Code->Option Code
 |.seq a _=>some a
 |_=>none
def sb:Code->Option Code
 |.block _ c=>some c
 |_=>none
def IE:Code->Option Code
 |.loop c=>some c
 |_=>none
def akD:Option Code:=Tryz.f37.body.bind λc=>(ez c).bind λc=>(LJ c).bind λc=>(ez c).bind λc=>(sb c).bind λc=>(IE c).bind λc=>(ez c).bind λc=>(LJ c).bind λc=>(sb c).bind λc=>(ez c).bind λc=>(ez c).bind λc=>(ez c).bind λc=>(ez c).bind λc=>(ez c).bind λc=>(ez c).bind λc=>(ez c).bind λc=>(ez c).bind λc=>(ez c).bind λc=>(ez c).bind ez
open aI aI.Sq in
theorem To {E:af.Env}{w0 wL:Ω}{b off n cap:Nat}{x u:Ϟ}{z D:ϑ}{m F j l k N gC dd:Nat}{C:ϓ}{i A B:aZ}{t:ϕ}{R:ϝ}{I:Code}(P:akD=some I)
  (c:bh wL D m F C 0 i) (d:cX z w0 wL) (r5:Row wL j (aN (ci A)) 33) (a:Row wL l (aN (ci B)) 33) (r:¬gC<N->dd=0) (M:∀s p,s<3->p<7->i s (cD p)=A s (cD p)\/i s (cD p)=B s (cD p))
  (K:∀(u:Ϟ)(w':Ω),bh w' D m F C 0 i->cX z w0 w'->Row w' j (aN (ci A)) 33->Row w' l (aN (ci B)) 33->af.eM E [8,9] 37 (rI (.slice (some ⟨b,off,none⟩) n cap) x) t R {tmps:=#[.pointer (some ⟨m,0,none⟩),u 1,u 2,undef,u 4,.pointer (some ⟨j,0,none⟩),.pointer (some ⟨l,0,none⟩),u 7,u 8,u 9,.int .i64 k,u 11,u 12,u 13,u 14,u 15,u 16,u 17,u 18,u 19,u 20,u 21,u 22,u 23,u 24,u 25,undef,u 27,u 28,u 29,u 30,u 31,u 32,u 33,u 34,u 35,u 36,u 37,u 38,undef,u 40,undef,undef,u 43,u 44,u 45,u 46,u 47,u 48,u 49,u 50,undef,u 52,undef,undef,u 55,u 56,u 57,u 58,u 59,u 60,u 61,u 62,u 63,u 64,u 65,u 66,u 67,u 68,u 69,u 70,u 71,u 72,u 73,u 74,u 75,u 76,u 77,u 78,u 79,u 80,u 81,u 82,u 83,u 84,u 85,u 86,u 87,u 88,u 89,u 90,u 91,u 92,u 93,u 94,u 95,u 96,u 97,u 98,u 99,u 100,u 101,u 102,u 103,u 104,u 105,u 106,u 107,u 108,u 109,u 110,u 111,u 112,u 113,u 114,u 115,u 116,u 117,u 118,u 119,u 120,u 121,u 122,u 123,u 124,u 125,u 126,u 127,u 128,u 129],defers:=[]} w'):
  af.eM E [8,9] 37 (rI (.slice (some ⟨b,off,none⟩) n cap) x) (.code I::t) R {tmps:=#[.pointer (some ⟨m,0,none⟩),u 1,u 2,undef,u 4,.pointer (some ⟨j,0,none⟩),.pointer (some ⟨l,0,none⟩),u 7,u 8,u 9,.int .i64 k,u 11,.int .i64 0,.int .i64 N,.int .i64 gC,u 15,u 16,.bool true,.int .i64 dd,u 19,u 20,u 21,u 22,u 23,u 24,u 25,undef,u 27,u 28,u 29,u 30,u 31,u 32,u 33,u 34,u 35,u 36,u 37,u 38,undef,u 40,undef,undef,u 43,u 44,u 45,u 46,u 47,u 48,u 49,u 50,undef,u 52,undef,undef,u 55,u 56,u 57,u 58,u 59,u 60,u 61,u 62,u 63,u 64,u 65,u 66,u 67,u 68,u 69,u 70,u 71,u 72,u 73,u 74,u 75,u 76,u 77,u 78,u 79,u 80,u 81,u 82,u 83,u 84,u 85,u 86,u 87,u 88,u 89,u 90,u 91,u 92,u 93,u 94,u 95,u 96,u 97,u 98,u 99,u 100,u 101,u 102,u 103,u 104,u 105,u 106,u 107,u 108,u 109,u 110,u 111,u 112,u 113,u 114,u 115,u 116,u 117,u 118,u 119,u 120,u 121,u 122,u 123,u 124,u 125,u 126,u 127,u 128,u 129],defers:=[]} wL:=by
 obtain rfl:=(ac2 P).symm;clear P;refine af.aW ?_
 refine af.rX jm ⟨_,func37⟩ ϰ (λu=>{tmps:=#[.pointer (some ⟨m,0,none⟩),u 1,u 2,undef,u 4,.pointer (some ⟨j,0,none⟩),.pointer (some ⟨l,0,none⟩),u 7,u 8,u 9,.int .i64 k,u 11,u 12,u 13,u 14,u 15,u 16,u 17,u 18,u 19,u 20,u 21,u 22,u 23,u 24,u 25,undef,u 27,u 28,u 29,u 30,u 31,u 32,u 33,u 34,u 35,u 36,u 37,u 38,undef,u 40,undef,undef,u 43,u 44,u 45,u 46,u 47,u 48,u 49,u 50,undef,u 52,undef,undef,u 55,u 56,u 57,u 58,u 59,u 60,u 61,u 62,u 63,u 64,u 65,u 66,u 67,u 68,u 69,u 70,u 71,u 72,u 73,u 74,u 75,u 76,u 77,u 78,u 79,u 80,u 81,u 82,u 83,u 84,u 85,u 86,u 87,u 88,u 89,u 90,u 91,u 92,u 93,u 94,u 95,u 96,u 97,u 98,u 99,u 100,u 101,u 102,u 103,u 104,u 105,u 106,u 107,u 108,u 109,u 110,u 111,u 112,u 113,u 114,u 115,u 116,u 117,u 118,u 119,u 120,u 121,u 122,u 123,u 124,u 125,u 126,u 127,u 128,u 129],defers:=[]}) (λw=>bh w D m F C 0 i/\cX z w0 w/\Row w j (aN (ci A)) 33/\Row w l (aN (ci B)) 33) (λw t k h=>⟨h.1.ax t k,h.2.1.tape t k,h.2.2.1,h.2.2.2⟩) ⟨c,d,r5,a⟩ (λV o f=>?_) λu V o=>?_
 .clear c d r5 a f
  have W:decide ((dd:Int)<0)=false:=ϛ
  rcases(show(N<=gC/\dd=0)\/¬N<=gC from(Nat.lt_or_ge gC N).elim (λq=> .inr ϖ) λq=> .inl ⟨q,r ϖ⟩) with⟨q1,rfl⟩|q1
  all_goals
   clear r;go_wp2
   all_goals exact⟨rfl,o,ϰ⟩
 clear c d r5 a;obtain⟨c,d,r5,a⟩:=o;clear r;refine af.aW ?_;refine af.aX none jm ⟨_,func37⟩ (λw=>bh w D m F C 0 i/\cX z w0 w/\Row w j (aN (ci A)) 33/\Row w l (aN (ci B)) 33) (λw t k h=>⟨h.1.ax t k,h.2.1.tape t k,h.2.2.1,h.2.2.2⟩) ⟨c,d,r5,a⟩ λw4 o f=>?_
 clear c d r5 a f;obtain⟨c,d,r5,a⟩:=o;go_wp2_with fail;refine c.seen.mono ?_;rintro e Z ⟨rfl,J⟩;replace c:=c.new J;replace d:=d.trans J.blk;replace r5:=J.row r5;replace a:=J.row a;clear J;go_wp2_with (with_reducible first|refine aA rfl ?_|refine ai 33 rfl ?_);refine bj rfl 33 rfl _ iH ?_
 intro T v Q S O;go_wp2_with (with_reducible refine ai 33 rfl ?_);refine fX rfl 33 _ _ rfl v rfl (aN (ci (i))) rfl (cB _) (nX _) _ _ O (by rw[cM,dI];rfl) ?_;intro L H y;have G:aQ [] Z L:=S.trans H (by simpa using Q);clear S H O Q;replace c:=c.new G;replace d:=d.trans G.blk
 replace r5:=G.row r5;replace a:=G.row a;clear G;go_wp2_with fail;refine af.aW ?_
 refine af.aX none jm ⟨_,func37⟩ (λw=>bh w D m F C 0 i/\cX z w0 w/\Row w j (aN (ci A)) 33/\Row w l (aN (ci B)) 33/\Row w v (aN (ci (i))) 33) (λw t k h=>⟨h.1.ax t k,h.2.1.tape t k,h.2.2.1,h.2.2.2.1,h.2.2.2.2⟩) ⟨c,d,r5,a,y⟩ λY o f=>?_
 clear c d r5 a y f;obtain⟨c,d,r5,a,y⟩:=o;go_wp2_with (with_reducible refine au 33 rfl ?_);refine dD rfl 33 _ rfl v rfl cK (aN (ci i)) _ y (cB _) ?_;go_wp2_with (with_reducible refine au 33 rfl ?_);refine dD rfl 33 _ rfl j rfl cK (aN (ci A)) _ r5 (cB _) ?_
 go_wp2_with (with_reducible refine au 33 rfl ?_);refine dD rfl 33 _ rfl l rfl cK (aN (ci B)) _ a (cB _) ?_;go_wp2_with fail;refine(xM i A B _ M).mono ?_;rintro e U ⟨rfl,g⟩;replace c:=c.new g;replace d:=d.trans g.blk;replace r5:=g.row r5;replace a:=g.row a
 replace y:=g.row y;clear g;clear y;go_wp2_with fail;refine af.aX none jm ⟨_,func37⟩ (λw=>bh w D m F C 0 i/\cX z w0 w/\Row w j (aN (ci A)) 33/\Row w l (aN (ci B)) 33) (λw t k h=>⟨h.1.ax t k,h.2.1.tape t k,h.2.2.1,h.2.2.2⟩) ⟨c,d,r5,a⟩ λX o f=>?_
 clear c d r5 a f;obtain⟨c,d,r5,a⟩:=o;go_wp2_with fail;refine af.dz (λu=>{tmps:=(.pointer (some ⟨m,0,none⟩)::u 1::u 2::undef::u 4::.pointer (some ⟨j,0,none⟩)::.pointer (some ⟨l,0,none⟩)::rn u 7 3 (.int .i64 k::rn u 11 15 (undef::rn u 27 12 (undef::u 40::undef::undef::rn u 43 8 (undef::u 52::undef::undef::rn u 55 75 []))))).toArray,defers:=[]}) λu=>?_
 simp only[rn];exact K u _ c d r5 a
def akE:Option Code:=Tryz.f37.body.bind λc=>(ez c).bind λc=>(LJ c).bind λc=>(ez c).bind λc=>(sb c).bind λc=>(IE c).bind λc=>(ez c).bind λc=>(LJ c).bind λc=>(sb c).bind λc=>(ez c).bind λc=>(ez c).bind λc=>(ez c).bind λc=>(ez c).bind λc=>(ez c).bind λc=>(ez c).bind ez
def rcY:Option Code:=Tryz.f37.body.bind λc=>(ez c).bind ez
open aI aI.Sq in
theorem Y0 {E:af.Env}{w0 wL:Ω}{b off n cap:Nat}{x u:Nat->Φ}{F0 F F3:List Nat}{s d s2 d2 b5 b6 k N gC:Nat}{L L':List Γ}{aa yk:Int}{H Kd A B:aZ}{ss:List (List Γ×Nat)}{f:DS->DS×Φ}{g:Nat->Int->List Γ}{t:List Item}{R:Act->Ω->Prop}{c12:Code}(hc:akE=some c12)
  (hD:aE wL F s d 200 (DS.eV L aa gC yk)) (hB:cX F0 w0 wL) (r5:Row wL b5 (aN (ci A)) 33) (r6:Row wL b6 (aN (ci B)) 33) (hT:bh wL F3 s2 d2 L' N Kd) (apS:Ap F3 s2 F s) (hg:bC F0 F w0) (hb5:b5∉F) (hb6:b6∉F)
  (hR:acz L H ss Kd f N L' g) (vA:bF Kd) (hlo:0<=aa) (haft:gC<N+2) (haa:aa<=100000) (hbt:∀K,mO H ss Kd K->∀s p,s<3->p<7->K s (cD p)=A s (cD p)\/K s (cD p)=B s (cD p))
  (hend:∀(u:Nat->Φ) (w':Ω) (s5 d5:Nat) (F5:List Nat) (L5:List Γ) (K2:aZ),bh w' F5 s5 d5 L5 0 K2->cX F0 w0 w'->Row w' b5 (aN (ci A)) 33->Row w' b6 (aN (ci B)) 33->bC F0 F5 w0->mO H ss Kd K2->b5∉F5->b6∉F5->af.eM E [8,9] 37 (rI (.slice (some ⟨b,off,none⟩) n cap) x) t R {tmps:=#[.pointer (some ⟨s5,0,none⟩),u 1,u 2,undef,u 4,.pointer (some ⟨b5,0,none⟩),.pointer (some ⟨b6,0,none⟩),u 7,u 8,u 9,.int .i64 k,u 11,u 12,u 13,u 14,u 15,u 16,u 17,u 18,u 19,u 20,u 21,u 22,u 23,u 24,u 25,undef,u 27,u 28,u 29,u 30,u 31,u 32,u 33,u 34,u 35,u 36,u 37,u 38,undef,u 40,undef,undef,u 43,u 44,u 45,u 46,u 47,u 48,u 49,u 50,undef,u 52,undef,undef,u 55,u 56,u 57,u 58,u 59,u 60,u 61,u 62,u 63,u 64,u 65,u 66,u 67,u 68,u 69,u 70,u 71,u 72,u 73,u 74,u 75,u 76,u 77,u 78,u 79,u 80,u 81,u 82,u 83,u 84,u 85,u 86,u 87,u 88,u 89,u 90,u 91,u 92,u 93,u 94,u 95,u 96,u 97,u 98,u 99,u 100,u 101,u 102,u 103,u 104,u 105,u 106,u 107,u 108,u 109,u 110,u 111,u 112,u 113,u 114,u 115,u 116,u 117,u 118,u 119,u 120,u 121,u 122,u 123,u 124,u 125,u 126,u 127,u 128,u 129],defers:=[]} w'):
  af.eM E [8,9] 37 (rI (.slice (some ⟨b,off,none⟩) n cap) x) (.code c12::t) R {tmps:=#[.pointer (some ⟨s,0,none⟩),u 1,u 2,undef,u 4,.pointer (some ⟨b5,0,none⟩),.pointer (some ⟨b6,0,none⟩),u 7,u 8,u 9,.int .i64 k,.pointer (some ⟨s2,0,none⟩),.int .i64 0,.int .i64 N,.int .i64 gC,.int .i64 aa,u 16,u 17,u 18,u 19,u 20,u 21,u 22,u 23,u 24,u 25,undef,u 27,u 28,u 29,u 30,u 31,u 32,u 33,u 34,u 35,u 36,u 37,u 38,undef,u 40,undef,undef,u 43,u 44,u 45,u 46,u 47,u 48,u 49,u 50,undef,u 52,undef,undef,u 55,u 56,u 57,u 58,u 59,u 60,u 61,u 62,u 63,u 64,u 65,u 66,u 67,u 68,u 69,u 70,u 71,u 72,u 73,u 74,u 75,u 76,u 77,u 78,u 79,u 80,u 81,u 82,u 83,u 84,u 85,u 86,u 87,u 88,u 89,u 90,u 91,u 92,u 93,u 94,u 95,u 96,u 97,u 98,u 99,u 100,u 101,u 102,u 103,u 104,u 105,u 106,u 107,u 108,u 109,u 110,u 111,u 112,u 113,u 114,u 115,u 116,u 117,u 118,u 119,u 120,u 121,u 122,u 123,u 124,u 125,u 126,u 127,u 128,u 129],defers:=[]} wL:=by
 have hN:=hR.few;obtain rfl:=(ac2 hc).symm;clear hc;refine af.aW ?_
 refine af.aX none jm ⟨_,Tryz.func37⟩ (λw=>cX F0 w0 w/\Row w b5 (aN (ci A)) 33/\Row w b6 (aN (ci B)) 33/\bh w F3 s2 d2 L' N Kd/\aE w F s d 200 (DS.eV L aa gC yk)) (λw t k h=>⟨h.1.tape t k,h.2.1,h.2.2.1,h.2.2.2.1.ax t k,h.2.2.2.2.ax t k⟩) ⟨hB,r5,r6,hT,hD⟩ λw17 hI hsz=>?_
 clear hB r5 r6 hT hD hsz;obtain⟨hB,r5,r6,hT,hD⟩:=hI;go_wp2_with fail;obtain⟨y,ev,dn,K2,ey,hya,hdn,hyL,hyW,Ge,hyd⟩:=Th hR gC yk aa;replace hya:Hid _:=hya;replace Ge:Hid _:=Ge;refine(hR.runs (DS.eV L aa gC yk) _ F s d rfl rfl rfl ⟨hlo,by show aa+_<=_;omega,by show(0:Int)<=gC;omega,by show(gC:Int)<=_;omega⟩ hD).mono ?_;rintro e wg ⟨rfl,F4,hY,g4,f4⟩;rw[ey] at hY
 replace hT:=hT.off apS f4.blk;replace r5:=f4.row r5 hb5;replace r6:=f4.row r6 hb6;replace hB:=hB.trans f4.blk hg;clear hD g4 f4 hg hb5 hb6 apS;rw[ey];clear ey;go_wp2_with fail;refine af.aW ?_
 refine af.aX none jm ⟨_,Tryz.func37⟩ (λw=>cX F0 w0 w/\Row w b5 (aN (ci A)) 33/\Row w b6 (aN (ci B)) 33/\bh w F3 s2 d2 L' N Kd/\aE w F4 s d 200 y) (λw t k h=>⟨h.1.tape t k,h.2.1,h.2.2.1,h.2.2.2.1.ax t k,h.2.2.2.2.ax t k⟩) ⟨hB,r5,r6,hT,hY⟩ λw18 hI hsz=>?_
 clear hB r5 r6 hT hY hsz;obtain⟨hB,r5,r6,hT,hY⟩:=hI;go_wp2_with fail;refine(nZ F4 s d 200 y _ hY).mono ?_;rintro e w19 ⟨rfl,rfl⟩;rw[hya.out];have hsub:wrap64 (aa+(dn:Int)-aa)=dn:=by rw[show aa+(dn:Int)-aa=dn by omega];exact IntWalk.wrap64_in _ (by omega)
 go_wp2_with fail;rw[show aa+(dn:Int)-aa=dn by omega];refine(Ck ev dn gC 0 N _).mono ?_;rintro e w20 ⟨rfl,rfl⟩;rw[Ge.out];clear hsub;go_wp2_with fail;refine af.aW ?_
 refine af.aX none jm ⟨_,Tryz.func37⟩ (λw=>cX F0 w0 w/\Row w b5 (aN (ci A)) 33/\Row w b6 (aN (ci B)) 33/\bh w F3 s2 d2 L' N Kd/\aE w F4 s d 200 y) (λw t k h=>⟨h.1.tape t k,h.2.1,h.2.2.1,h.2.2.2.1.ax t k,h.2.2.2.2.ax t k⟩) ⟨hB,r5,r6,hT,hY⟩ λw21 hI hsz=>?_
 clear hB r5 r6 hT hY hsz;obtain⟨hB,r5,r6,hT,hY⟩:=hI;go_wp2_with fail;refine(kx F3 s2 d2 200 _ _ hT.store).mono ?_;rintro e w22 ⟨rfl,f23⟩;replace hB:=hB.trans f23.blk;replace r5:=f23.row r5;replace r6:=f23.row r6;replace hT:=hT.new f23;replace hY:=hY.new f23;clear f23;go_wp2_with fail;refine(kx F4 s d 200 y _ hY).mono ?_;rintro e w24 ⟨rfl,f25⟩
 replace hB:=hB.trans f25.blk;replace r5:=f25.row r5;replace r6:=f25.row r6;replace hT:=hT.new f25;replace hY:=hY.new f25;clear f25;have hl1:(⟨(DS.calm L' N).aB.toArray⟩:Ξ).size=64*200:=by
  obtain⟨bl,vw,hd⟩:=hT.store.jG;have:=hd.len;show(DS.calm L' N).aB.toArray.size=_;simpa using this
 have hl2:(⟨y.aB.toArray⟩:Ξ).size=64*200:=by
  obtain⟨bl,vw,hd⟩:=hY.jG;have:=hd.len;show y.aB.toArray.size=_;simpa using this
 have hdd:¬gC<N->jM ⟨(DS.calm L' N).aB.toArray⟩ ⟨y.aB.toArray⟩ 200=0:=λq=>(Af _ _ _).trans (hyd q)
 go_wp2_with fail;refine(tI _ _ 200 _ hl1 hl2 (by omega)).mono ?_;rintro e w26 ⟨rfl,f27⟩;replace hB:=hB.trans f27.blk;replace r5:=f27.row r5;replace r6:=f27.row r6;replace hT:=hT.new f27;replace hY:=hY.new f27;clear f27;generalize jM ⟨(DS.calm L' N).aB.toArray⟩ ⟨y.aB.toArray⟩ 200=dd at hdd⊢;clear hl1 hl2 hyd;go_wp2_with fail
 refine af.aW ?_;refine af.aX none jm ⟨_,Tryz.func37⟩ (λw=>cX F0 w0 w/\Row w b5 (aN (ci A)) 33/\Row w b6 (aN (ci B)) 33/\bh w F3 s2 d2 L' N Kd/\aE w F4 s d 200 y) (λw t k h=>⟨h.1.tape t k,h.2.1,h.2.2.1,h.2.2.2.1.ax t k,h.2.2.2.2.ax t k⟩) ⟨hB,r5,r6,hT,hY⟩ λw28 hI hsz=>?_
 clear hB r5 r6 hT hY hsz;obtain⟨hB,r5,r6,hT,hY⟩:=hI;go_wp2_with fail;refine(tJ hY hyL (hyW.way vA)).mono ?_;rintro e wc5 ⟨s5,d5,F5,rfl,hC,fc,gc,lc⟩;have hg5:bC F0 F5 w0:=λi hi=>(gc i hi).elim (λq=>by simp at q) (λq=> .inr (by have:=hB.size;omega))
 have aaM:b5∉F5:=λq=>(gc b5 q).elim (by simp) (λz=>by have:=r5.lt;omega)
 have aaK:b6∉F5:=λq=>(gc b6 q).elim (by simp) (λz=>by have:=r6.lt;omega)
 clear gc lc hY hT;replace hB:=hB.trans fc.blk;replace r5:=fc.row r5;replace r6:=fc.row r6;clear fc;go_wp2_with fail
 refine af.dz (λu=>{tmps:=(.pointer (some ⟨s5,0,none⟩)::u 1::u 2::undef::u 4::.pointer (some ⟨b5,0,none⟩)::.pointer (some ⟨b6,0,none⟩)::rn u 7 3 (.int .i64 k::u 11::.int .i64 0::.int .i64 N::.int .i64 gC::u 15::u 16::.bool true::.int .i64 dd::rn u 19 7 (undef::rn u 27 12 (undef::u 40::undef::undef::rn u 43 8 (undef::u 52::undef::undef::rn u 55 75 []))))).toArray,defers:=[]}) λu=>?_
 simp only[rn];exact To rfl hC hB r5 r6 hdd (hbt K2 hyW) λu w' hC hB r5 r6=>hend u w' s5 d5 F5 y.aB K2 hC hB r5 r6 hg5 hyW aaM aaK
open aI aI.Sq in
theorem Y2 {E:af.Env}{w0 wL:Ω}{sv:Φ}{x u:Ϟ}{l F:ϑ}{s d:Nat}{L:ϓ}{c:Int}{H K Kd:aZ}{ss:List (List Γ×Nat)}{t:ϕ}{G:Code}(I:rcY=some G)
  (a:bh wL F s d L c K) (b:cX l w0 wL) (hg:bC l F w0) (U:mO H ss Kd K) (S:bF H) (q:bF Kd) (R:c<=100000):
  af.eM E [8,9] 37 (rI sv x) (.code G::t) (WX l Kd w0) {tmps:=#[.pointer (some ⟨s,0,none⟩),u 1,u 2,undef,u 4,u 5,u 6,u 7,u 8,u 9,u 10,u 11,u 12,u 13,u 14,u 15,u 16,u 17,u 18,u 19,u 20,u 21,u 22,u 23,u 24,u 25,undef,u 27,u 28,u 29,u 30,u 31,u 32,u 33,u 34,u 35,u 36,u 37,u 38,undef,u 40,undef,undef,u 43,u 44,u 45,u 46,u 47,u 48,u 49,u 50,undef,u 52,undef,undef,u 55,u 56,u 57,u 58,u 59,u 60,u 61,u 62,u 63,u 64,u 65,u 66,u 67,u 68,u 69,u 70,u 71,u 72,u 73,u 74,u 75,u 76,u 77,u 78,u 79,u 80,u 81,u 82,u 83,u 84,u 85,u 86,u 87,u 88,u 89,u 90,u 91,u 92,u 93,u 94,u 95,u 96,u 97,u 98,u 99,u 100,u 101,u 102,u 103,u 104,u 105,u 106,u 107,u 108,u 109,u 110,u 111,u 112,u 113,u 114,u 115,u 116,u 117,u 118,u 119,u 120,u 121,u 122,u 123,u 124,u 125,u 126,u 127,u 128,u 129],defers:=[]} wL:=by
 obtain rfl:=(ac2 I).symm;clear I;refine af.aW ?_;refine af.aX none jm ⟨_,func37⟩ (λw=>bh w F s d L c K/\cX l w0 w) (λw t k h=>⟨h.1.ax t k,h.2.tape t k⟩) ⟨a,b⟩ λQ p j=>?_
 clear a b j;obtain⟨a,b⟩:=p;go_wp2_with fail;obtain⟨f,N,L',g,o⟩:=Fq a.has U S q;have V:=o.few;have v:f (DS.calm L c)=(DS.calm L' (c+N),.int .i64 0):=o.Ss.free c 0 0;have y:=a.lo;refine(o.runs (DS.calm L c) _ F s d rfl rfl rfl (oy L c 100 y) a.store).mono ?_;rintro e A ⟨rfl,z,m,D,J⟩;rw[v] at m
 have i:bh A z s d L' (c+N) Kd:=⟨m,o.has,q.eight,ϖ⟩
 have n:bC l z w0:=hg.trans D b.size;replace b:=b.trans J.blk hg;clear a m D J;have a:=i;clear i;rw[v];clear v;go_wp2_with fail;refine af.aW ?_;refine af.aX none jm ⟨_,func37⟩ (λw=>bh w z s d L' (c+N) Kd/\cX l w0 w) (λw t k h=>⟨h.1.ax t k,h.2.tape t k⟩) ⟨a,b⟩ λT p j=>?_
 clear a b j;obtain⟨a,b⟩:=p;go_wp2_with fail;refine(a.Cw ϖ).mono ?_;rintro e C ⟨rfl,⟨r,m,M⟩,O⟩;have i:bh C r s d L' (c+N) Kd:=⟨m,o.has,q.eight,ϖ⟩
 have B:bC l r w0:=n.trans M b.size;replace b:=b.trans O.blk n;clear a m M O;have a:=i;clear i;rw[kv q];simp only[Option.isSome_none];go_wp2_with fail;refine af.aX none jm ⟨_,func37⟩ (λw=>bh w r s d L' (c+N) Kd/\cX l w0 w) (λw t k h=>⟨h.1.ax t k,h.2.tape t k⟩) ⟨a,b⟩ λP p j=>?_
 clear a b j;obtain⟨a,b⟩:=p;go_wp2;exact⟨_,_,s,d,r,L',c+N,rfl,a,ϖ,B,b⟩
def rc4:Option Code:=Tryz.f37.body.bind λc=>(ez c).bind λc=>(LJ c).bind λc=>(ez c).bind λc=>(sb c).bind λc=>(IE c).bind λc=>(ez c).bind λc=>(LJ c).bind sb
open aI aI.Sq in
theorem Y1 {E:af.Env}{w0 wL:Ω}{b off cap:Nat}{ob:Obj}{ya yk:Int}{l:List (Int×Int)}{x u:Nat->Φ}{F0 F:List Nat}{s d b5 b6 k:Nat}{L:List Γ}{aa:Int}{H K Kd A B:aZ}{ss:List (List Γ×Nat)}{t:List Item}{R:Act->Ω->Prop}{c4:Code}(hc:rc4=some c4)
  (hok:-9223372036854775808<=ya/\ya<=9223372036854775807) (hK:E.K b=some ob) (hra:∀w:Ω,w.heap[b]? =some ob->w.rangeAt b (off+k*2) [.int .i64 ya,.int .i64 yk]) (hlt:k<l.length)
  (hC:bh wL F s d L aa K) (hB:cX F0 w0 wL) (r5:Row wL b5 (aN (ci A)) 33) (r6:Row wL b6 (aN (ci B)) 33) (hg:bC F0 F w0) (x7:mO H ss Kd K) (hb5:b5∉F) (hb6:b6∉F) (h7:bF H) (vA:bF Kd) (haa:aa<=100000)
  (hbt:∀K,mO H ss Kd K->∀s p,s<3->p<7->K s (cD p)=A s (cD p)\/K s (cD p)=B s (cD p))
  (hend:∀(x u:Nat->Φ) (w':Ω) (s5 d5:Nat) (F5:List Nat) (L5:List Γ) (K2:aZ),bh w' F5 s5 d5 L5 0 K2->cX F0 w0 w'->Row w' b5 (aN (ci A)) 33->Row w' b6 (aN (ci B)) 33->bC F0 F5 w0->mO H ss Kd K2->b5∉F5->b6∉F5->af.eM E [8,9] 37 (rI (.slice (some ⟨b,off,none⟩) l.length cap) x) t R {tmps:=#[.pointer (some ⟨s5,0,none⟩),u 1,u 2,undef,u 4,.pointer (some ⟨b5,0,none⟩),.pointer (some ⟨b6,0,none⟩),u 7,u 8,u 9,.int .i64 k,u 11,u 12,u 13,u 14,u 15,u 16,u 17,u 18,u 19,u 20,u 21,u 22,u 23,u 24,u 25,undef,u 27,u 28,u 29,u 30,u 31,u 32,u 33,u 34,u 35,u 36,u 37,u 38,undef,u 40,undef,undef,u 43,u 44,u 45,u 46,u 47,u 48,u 49,u 50,undef,u 52,undef,undef,u 55,u 56,u 57,u 58,u 59,u 60,u 61,u 62,u 63,u 64,u 65,u 66,u 67,u 68,u 69,u 70,u 71,u 72,u 73,u 74,u 75,u 76,u 77,u 78,u 79,u 80,u 81,u 82,u 83,u 84,u 85,u 86,u 87,u 88,u 89,u 90,u 91,u 92,u 93,u 94,u 95,u 96,u 97,u 98,u 99,u 100,u 101,u 102,u 103,u 104,u 105,u 106,u 107,u 108,u 109,u 110,u 111,u 112,u 113,u 114,u 115,u 116,u 117,u 118,u 119,u 120,u 121,u 122,u 123,u 124,u 125,u 126,u 127,u 128,u 129],defers:=[]} w'):
  af.eM E [8,9] 37 (rI (.slice (some ⟨b,off,none⟩) l.length cap) x) (.code c4::t) R {tmps:=#[.pointer (some ⟨s,0,none⟩),u 1,u 2,undef,u 4,.pointer (some ⟨b5,0,none⟩),.pointer (some ⟨b6,0,none⟩),u 7,u 8,u 9,.int .i64 k,u 11,u 12,u 13,u 14,u 15,u 16,u 17,u 18,u 19,u 20,u 21,u 22,u 23,u 24,u 25,undef,u 27,u 28,u 29,u 30,u 31,u 32,u 33,u 34,u 35,u 36,u 37,u 38,undef,u 40,undef,undef,u 43,u 44,u 45,u 46,u 47,u 48,u 49,u 50,undef,u 52,undef,undef,u 55,u 56,u 57,u 58,u 59,u 60,u 61,u 62,u 63,u 64,u 65,u 66,u 67,u 68,u 69,u 70,u 71,u 72,u 73,u 74,u 75,u 76,u 77,u 78,u 79,u 80,u 81,u 82,u 83,u 84,u 85,u 86,u 87,u 88,u 89,u 90,u 91,u 92,u 93,u 94,u 95,u 96,u 97,u 98,u 99,u 100,u 101,u 102,u 103,u 104,u 105,u 106,u 107,u 108,u 109,u 110,u 111,u 112,u 113,u 114,u 115,u 116,u 117,u 118,u 119,u 120,u 121,u 122,u 123,u 124,u 125,u 126,u 127,u 128,u 129],defers:=[]} wL:=by
 obtain rfl:=(ac2 hc).symm;clear hc;refine af.aW ?_;refine af.aX none jm ⟨_,Tryz.func37⟩ (λw=>bh w F s d L aa K/\cX F0 w0 w/\Row w b5 (aN (ci A)) 33/\Row w b6 (aN (ci B)) 33) (λw t k h=>⟨h.1.ax t k,h.2.1.tape t k,h.2.2.1,h.2.2.2⟩) ⟨hC,hB,r5,r6⟩ λw29 hI hsz=>?_
 clear hC hB r5 r6 hsz;obtain⟨hC,hB,r5,r6⟩:=hI;go_wp2_with fail;refine(tJ hC.store hC.has (x7.way vA)).mono ?_;rintro e wc ⟨s2,d2,F2,rfl,hT,fc,gc,lc⟩;have ap:=Ap.abL hC gc lc;have hg2:bC F0 F2 w0:=λi hi=>(gc i hi).elim (λq=>by simp at q) (λq=> .inr (by have:=hB.size;omega))
 have aaN:b5∉F2:=λhF2=>(gc b5 hF2).elim (by simp) (λq=>by have:=r5.lt;omega)
 have aaL:b6∉F2:=λhF2=>(gc b6 hF2).elim (by simp) (λq=>by have:=r6.lt;omega)
 clear gc lc;replace hC:=hC.new fc;replace hB:=hB.trans fc.blk;replace r5:=fc.row r5;replace r6:=fc.row r6;clear fc;go_wp2_with fail;refine af.aW ?_
 refine af.aX none jm ⟨_,Tryz.func37⟩ (λw=>bh w F s d L aa K/\cX F0 w0 w/\Row w b5 (aN (ci A)) 33/\Row w b6 (aN (ci B)) 33/\bh w F2 s2 d2 L 0 K) (λw t k h=>⟨h.1.ax t k,h.2.1.tape t k,h.2.2.1,h.2.2.2.1,h.2.2.2.2.ax t k⟩) ⟨hC,hB,r5,r6,hT⟩ λw30 hI hsz=>?_
 clear hC hB r5 r6 hT hsz;obtain⟨hC,hB,r5,r6,hT⟩:=hI;go_wp2_with fail;refine af.aW ?_
 refine af.aX none jm ⟨_,Tryz.func37⟩ (λw=>bh w F s d L aa K/\cX F0 w0 w/\Row w b5 (aN (ci A)) 33/\Row w b6 (aN (ci B)) 33/\bh w F2 s2 d2 L 0 K) (λw t k h=>⟨h.1.ax t k,h.2.1.tape t k,h.2.2.1,h.2.2.2.1,h.2.2.2.2.ax t k⟩) ⟨hC,hB,r5,r6,hT⟩ λw31 hI hsz=>?_
 clear hC hB r5 r6 hT hsz;obtain⟨hC,hB,r5,r6,hT⟩:=hI;go_wp2_with fail;obtain⟨f,N,L',g,hR⟩:=Fq hC.has x7 h7 vA;have hN:=hR.few;have e0:f (DS.calm L 0)=(DS.calm L' (0+N),.int .i64 0):=hR.Ss.free 0 0 0;refine(hR.runs (DS.calm L 0) _ F2 s2 d2 rfl rfl rfl (oy L 0 100 (by omega)) hT.store).mono ?_;rintro e wr1 ⟨rfl,F3,hS,g3,f3⟩;rw[e0] at hS;have hBs:=hB.size;have r5z:=r5.lt
 have r6z:=r6.lt;replace r5:=f3.row r5 aaN;replace r6:=f3.row r6 aaL;replace hB:=hB.trans f3.blk hg2;have hap:=ap;replace ap:=ap.ag4 hC g3;replace hC:=hC.off hap f3.blk;replace hg2:bC F0 F3 w0:=hg2.trans g3 hBs;replace aaN:b5∉F3:=λq=>(g3 b5 q).elim aaN (λz=>by have:=r5z;omega)
 replace aaL:b6∉F3:=λq=>(g3 b6 q).elim aaL (λz=>by have:=r6z;omega)
 rw[show(0:Int)+N=N by omega] at hS e0;have hT':bh wr1 F3 s2 d2 L' N Kd:=⟨hS,hR.has,vA.eight,by omega⟩
 clear hT hS g3 f3 hap hBs r5z r6z;have hT:=hT';clear hT';rw[e0];go_wp2_with fail;refine af.aW ?_
 refine af.aX none jm ⟨_,Tryz.func37⟩ (λw=>bh w F s d L aa K/\cX F0 w0 w/\Row w b5 (aN (ci A)) 33/\Row w b6 (aN (ci B)) 33/\bh w F3 s2 d2 L' N Kd) (λw t k h=>⟨h.1.ax t k,h.2.1.tape t k,h.2.2.1,h.2.2.2.1,h.2.2.2.2.ax t k⟩) ⟨hC,hB,r5,r6,hT⟩ λw32 hI hsz=>?_
 clear hC hB r5 r6 hT hsz;obtain⟨hC,hB,r5,r6,hT⟩:=hI;go_wp2_with fail;refine(nZ F3 s2 d2 200 _ _ hT.store).mono ?_;rintro e w33 ⟨rfl,rfl⟩;go_wp2_with fail;refine af.aW (af.fC ?_)
 refine af.dz (λu=>{tmps:=(.pointer (some ⟨s,0,none⟩)::u 1::u 2::undef::u 4::.pointer (some ⟨b5,0,none⟩)::.pointer (some ⟨b6,0,none⟩)::rn u 7 3 (.int .i64 k::.pointer (some ⟨s2,0,none⟩)::.int .i64 0::.int .i64 N::rn u 14 12 (undef::rn u 27 12 (undef::u 40::undef::undef::rn u 43 8 (undef::u 52::undef::undef::rn u 55 75 []))))).toArray,defers:=[]}) λu=>?_
 simp only[rn];refine jz (λx=>rI (.slice (some ⟨b,off,none⟩) l.length cap) x) λx=>?_
 refine af.jy 39 (.slice (some ⟨b,off,none⟩) l.length cap) rfl rfl rfl (by simp[sl,rI,af.lI]) (by simp[sl,rI,af.lI]) (λπ w=>by kernel_rfl) (af.fi _ rfl (.inr rfl) rfl ?_)
 refine af.jy 41 (.pointer (some ⟨b,off+k*2,none⟩)) rfl rfl rfl (by simp[sl,rI,af.lI]) (by simp[sl,rI,af.lI]) (λπ w=>IN (m:=2) (x:= .tmp 39) (y:= .tmp 40) (by kernel_rfl) (by kernel_rfl) b off l.length cap k hlt _ rfl (by kernel_rfl) (af.z9 (by kernel_rfl) (by kernel_rfl) (by kernel_rfl)) w) ?_
 refine af.jy 42 (.pointer (some ⟨b,off+k*2,none⟩)) rfl rfl rfl (by simp[sl,rI,af.lI]) (by simp[sl,rI,af.lI]) (λπ w=>by kernel_rfl) ?_
 refine af.Ao b ob hK (.int .i64 ya) (by intro r hr;cases hr) rfl rfl (dG (by kernel_rfl)) (λπ w hw=>(uG (x:= .tmp 42) (hra w hw 0 _ rfl) _ rfl).1) (λπ w hw=>(uG (x:= .tmp 42) (hra w hw 0 _ rfl) _ rfl).2) ?_
 refine af.dz (λu=>{tmps:=(.pointer (some ⟨s,0,none⟩)::u 1::u 2::undef::u 4::.pointer (some ⟨b5,0,none⟩)::.pointer (some ⟨b6,0,none⟩)::rn u 7 3 (.int .i64 k::.pointer (some ⟨s2,0,none⟩)::.int .i64 0::.int .i64 N::rn u 14 12 (undef::rn u 27 12 (undef::u 40::undef::undef::.int .i64 ya::rn u 44 7 (undef::u 52::undef::undef::rn u 55 75 []))))).toArray,defers:=[]}) λu=>?_
 simp only[rn];refine jz (λx=>rI (.slice (some ⟨b,off,none⟩) l.length cap) x) λx=>?_
 refine af.vi 5 rfl jm ⟨_,Tryz.func37⟩ (λw=>bh w F s d L aa K/\cX F0 w0 w/\Row w b5 (aN (ci A)) 33/\Row w b6 (aN (ci B)) 33/\bh w F3 s2 d2 L' N Kd) (λw t k h=>⟨h.1.ax t k,h.2.1.tape t k,h.2.2.1,h.2.2.2.1,h.2.2.2.2.ax t k⟩) ⟨hC,hB,r5,r6,hT⟩ λw34 hI _=>?_
 clear hC hB r5 r6 hT;obtain⟨hC,hB,r5,r6,hT⟩:=hI;show wpList _ _ _ [_,_,_,_] _ _;have hn2:wrap64 ((N:Int)+2)=((N+2:Nat):Int):=by rw[IntWalk.wrap64_in _ (by omega)];omega
 go_wp2_with fail;refine(od ya (N+2) _ hok.1 hok.2).mono ?_;rintro e wp ⟨rfl,rfl⟩;have haft:=mj ya (N+2);generalize bH ya (N+2)=gC at haft⊢;clear hn2;go_wp2_with fail;refine af.aW ?_
 refine af.aX none jm ⟨_,Tryz.func37⟩ (λw=>bh w F s d L aa K/\cX F0 w0 w/\Row w b5 (aN (ci A)) 33/\Row w b6 (aN (ci B)) 33/\bh w F3 s2 d2 L' N Kd) (λw t k h=>⟨h.1.ax t k,h.2.1.tape t k,h.2.2.1,h.2.2.2.1,h.2.2.2.2.ax t k⟩) ⟨hC,hB,r5,r6,hT⟩ λw35 hI hsz=>?_
 clear hC hB r5 r6 hT hsz;obtain⟨hC,hB,r5,r6,hT⟩:=hI;go_wp2_with fail;refine(nZ F s d 200 _ _ hC.store).mono ?_;rintro e w36 ⟨rfl,rfl⟩;go_wp2_with fail;refine af.aW (af.fC ?_)
 refine af.dz (λu=>{tmps:=(.pointer (some ⟨s,0,none⟩)::u 1::u 2::undef::u 4::.pointer (some ⟨b5,0,none⟩)::.pointer (some ⟨b6,0,none⟩)::rn u 7 3 (.int .i64 k::.pointer (some ⟨s2,0,none⟩)::.int .i64 0::.int .i64 N::.int .i64 gC::.int .i64 aa::rn u 16 10 (undef::rn u 27 12 (undef::u 40::undef::undef::rn u 43 8 (undef::u 52::undef::undef::rn u 55 75 []))))).toArray,defers:=[]}) λu=>?_
 simp only[rn];refine jz (λx=>rI (.slice (some ⟨b,off,none⟩) l.length cap) x) λx=>?_
 refine af.fi _ rfl (.inr rfl) rfl (af.fi _ rfl (.inr rfl) rfl ?_);refine af.jy 51 (.slice (some ⟨b,off,none⟩) l.length cap) rfl rfl rfl (by simp[sl,rI,af.lI]) (by simp[sl,rI,af.lI]) (λπ w=>by kernel_rfl) (af.fi _ rfl (.inr rfl) rfl ?_)
 refine af.jy 53 (.pointer (some ⟨b,off+k*2,none⟩)) rfl rfl rfl (by simp[sl,rI,af.lI]) (by simp[sl,rI,af.lI]) (λπ w=>IN (m:=2) (x:= .tmp 51) (y:= .tmp 52) (by kernel_rfl) (by kernel_rfl) b off l.length cap k hlt _ rfl (by kernel_rfl) (af.z9 (by kernel_rfl) (by kernel_rfl) (by kernel_rfl)) w) ?_
 refine af.jy 54 (.pointer (some ⟨b,off+k*2+1,none⟩)) rfl rfl rfl (by simp[sl,rI,af.lI]) (by simp[sl,rI,af.lI]) (λπ w=>by kernel_rfl) ?_
 refine af.Ao b ob hK (.int .i64 yk) (by intro r hr;cases hr) rfl rfl (dG (by kernel_rfl)) (λπ w hw=>(uG (x:= .tmp 54) (hra w hw 1 _ rfl) _ rfl).1) (λπ w hw=>(uG (x:= .tmp 54) (hra w hw 1 _ rfl) _ rfl).2) ?_
 refine af.dz (λu=>{tmps:=(.pointer (some ⟨s,0,none⟩)::u 1::u 2::undef::u 4::.pointer (some ⟨b5,0,none⟩)::.pointer (some ⟨b6,0,none⟩)::rn u 7 3 (.int .i64 k::.pointer (some ⟨s2,0,none⟩)::.int .i64 0::.int .i64 N::.int .i64 gC::.int .i64 aa::rn u 16 10 (undef::rn u 27 12 (undef::u 40::undef::undef::rn u 43 6 (.pointer (some ⟨s,0,none⟩)::.int .i64 gC::undef::u 52::undef::undef::.int .i64 yk::rn u 56 74 []))))).toArray,defers:=[]}) λu=>?_
 simp only[rn];refine jz (λx=>rI (.slice (some ⟨b,off,none⟩) l.length cap) x) λx=>?_
 refine af.vi 7 rfl jm ⟨_,Tryz.func37⟩ (λw=>bh w F s d L aa K/\cX F0 w0 w/\Row w b5 (aN (ci A)) 33/\Row w b6 (aN (ci B)) 33/\bh w F3 s2 d2 L' N Kd) (λw t k h=>⟨h.1.ax t k,h.2.1.tape t k,h.2.2.1,h.2.2.2.1,h.2.2.2.2.ax t k⟩) ⟨hC,hB,r5,r6,hT⟩ λw37 hI _=>?_
 clear hC hB r5 r6 hT;obtain⟨hC,hB,r5,r6,hT⟩:=hI;show wpList _ _ _ [_] _ _;have hlo:=hC.lo;go_wp2_with fail;refine(y9 F s d 200 (DS.calm L aa) gC yk _ hC.store).mono ?_;rintro e wf ⟨rfl,hD,ff⟩;rw[rP] at hD;have apS:=ap.symm;replace hT:=hT.off apS ff.blk;replace r5:=ff.row r5 hb5;replace r6:=ff.row r6 hb6;replace hB:=hB.trans ff.blk hg;clear ff;rw[rP];go_wp2_with fail
 clear hC
 refine af.dz (λu=>{tmps:=(.pointer (some ⟨s,0,none⟩)::u 1::u 2::undef::u 4::.pointer (some ⟨b5,0,none⟩)::.pointer (some ⟨b6,0,none⟩)::rn u 7 3 (.int .i64 k::.pointer (some ⟨s2,0,none⟩)::.int .i64 0::.int .i64 N::.int .i64 gC::.int .i64 aa::rn u 16 10 (undef::rn u 27 12 (undef::u 40::undef::undef::rn u 43 8 (undef::u 52::undef::undef::rn u 55 75 []))))).toArray,defers:=[]}) λu=>?_
 simp only[rn];exact Y0 rfl hD hB r5 r6 hT apS hg hb5 hb6 hR vA hlo haft haa hbt (hend _)
open aI aI.Sq in
theorem Bt {E:af.Env}{wL:Ω}(ad:Option Addr)(cap:Nat)(l:List (Int×Int))(hF:AJ E.K ad l)(hll:l.length<=9223372036854775807){F0:List Nat}{s0 d0:Nat}{L0:List Γ}{a0:Int}{H K0 Kd A B:aZ}{ss:List (List Γ×Nat)}
  (hC:bh wL F0 s0 d0 L0 a0 K0) (x7:mO H ss Kd K0) (h7:bF H) (vA:bF Kd) (ha0:a0<=100000) (hbt:∀K,mO H ss Kd K->∀s p,s<3->p<7->K s (cD p)=A s (cD p)\/K s (cD p)=B s (cD p)) {cd:Code} (hcd:Tryz.f37.body=some cd):
  af.eM E [8,9] 37 (rI (.slice ad l.length cap) λ_=>undef) [.code cd] (WX F0 Kd wL) (uo s0 A B) wL:=by
 obtain rfl:=(ac2 hcd).symm;clear hcd;have hB:cX F0 wL wL:=cX.refl _ _;unfold uo;simp only[rn];refine af.aW ?_;refine af.aX none jm ⟨_,Tryz.func37⟩ (λw=>bh w F0 s0 d0 L0 a0 K0/\cX F0 wL w) (λw t k h=>⟨h.1.ax t k,h.2.tape t k⟩) ⟨hC,hB⟩ λw1 hI hsz=>?_
 clear hC hB hsz;obtain⟨hC,hB⟩:=hI;go_wp2_with (with_reducible first|refine bA rfl ?_);refine aj.go (eQ rfl 33 _ rfl (.agg (aN (ci A))) rfl ?_);intro wa b5 l5 f5 r5;have hb5:b5∉F0:=λhF=>by have:=hC.store.disk.lt b5 hF;omega
 clear l5;replace hC:=hC.new f5;replace hB:=hB.trans f5.blk;clear f5;go_wp2_with (with_reducible first|refine bA rfl ?_);refine aj.go (eQ rfl 33 _ rfl (.agg (aN (ci B))) rfl ?_);intro wb b6 l6 f6 r6;have hb6:b6∉F0:=λhF=>by have:=hC.store.disk.lt b6 hF;omega
 clear l6;replace hC:=hC.new f6;replace hB:=hB.trans f6.blk;replace r5:=f6.row r5;clear f6;go_wp2_with fail;refine af.aW (af.aW ?_)
 refine af.aX none jm ⟨_,Tryz.func37⟩ (λw=>bh w F0 s0 d0 L0 a0 K0/\cX F0 wL w/\Row w b5 (aN (ci A)) 33/\Row w b6 (aN (ci B)) 33) (λw t k h=>⟨h.1.ax t k,h.2.1.tape t k,h.2.2.1,h.2.2.2⟩) ⟨hC,hB,r5,r6⟩ λw2 hI hsz=>?_
 clear hC hB r5 r6 hsz;obtain⟨hC,hB,r5,r6⟩:=hI;go_wp2_with fail;refine af.rY ?_;refine af.dz (Cc s0 b5 b6 0) λu=>?_
 refine af.vj (λD a w=>∃(x:Nat->Φ) (k:Nat) (F:List Nat) (s d:Nat) (L:List Γ) (aa:Int) (K:aZ) (u:Nat->Φ),D=rI (.slice ad l.length cap) x/\a=Cc s b5 b6 k u/\k<=l.length/\bh w F s d L aa K/\cX F0 wL w/\Row w b5 (aN (ci A)) 33/\Row w b6 (aN (ci B)) 33/\bC F0 F wL/\mO H ss Kd K/\b5∉F/\b6∉F/\aa<=100000) (λa _=>l.length-(intOf (a.tmps.getD 10 undef)).toNat)
  ⟨_,0,F0,s0,d0,L0,a0,K0,u,rfl,rfl,by omega,hC,hB,r5,r6,bC.refl _ _,x7,hb5,hb6,ha0⟩ ?_
 clear hC hB r5 r6 u x7 hb5 hb6 ha0;rintro D a w ⟨x,k,F,s,d,L,aa,K,u,rfl,rfl,hkl,hC,hB,r5,r6,hg,x7,hb5,hb6,haa⟩ ih
 have ih':∀(x:Nat->Φ) (k':Nat) (F:List Nat) (s d:Nat) (L:List Γ) (aa:Int) (K:aZ) (u:Nat->Φ) (w:Ω),k'=k+1->k'<=l.length->(bh w F s d L aa K/\cX F0 wL w/\Row w b5 (aN (ci A)) 33/\Row w b6 (aN (ci B)) 33/\bC F0 F wL/\mO H ss Kd K/\b5∉F/\b6∉F/\aa<=100000)->af.eM _ _ _ (rI (.slice ad l.length cap) x) _ _ (Cc s b5 b6 k' u) w:=λx k' F s d L aa K u w e1 e2 e3=>ih _ _ _ ⟨x,k',F,s,d,L,aa,K,u,rfl,rfl,e2,e3⟩ (by subst e1;simp[Cc,intOf];omega)
 clear ih;unfold Cc at ih'⊢;refine af.aW (af.aW (af.fC ?_));refine af.fi _ rfl (.inr rfl) rfl (af.jy 26 (.slice ad l.length cap) rfl rfl rfl (by simp[sl,rI,af.lI]) (by simp[sl,rI,af.lI]) (λπ w=>by kernel_rfl) ?_)
 refine af.CM (.int .i64 l.length) (by intro r hr;cases hr) rfl rfl (dG (by kernel_rfl)) (λπ w=>by kernel_rfl) ?_;refine af.gz (w1:=w) (.bool (decide ((k:Int)<(l.length:Int)))) rfl rfl (λt d=>by kernel_rfl) ?_;refine af.ej ?_
 by_cases hlt:k<l.length
 .have hd1:decide ((k:Int)<(l.length:Int))=true:=by simp;omega
  rw[hd1];clear hd1;refine af.dz (λu=>{tmps:=(.pointer (some ⟨s,0,none⟩)::u 1::u 2::undef::u 4::.pointer (some ⟨b5,0,none⟩)::.pointer (some ⟨b6,0,none⟩)::rn u 7 3 (.int .i64 k::rn u 11 15 (undef::u 27::.bool true::rn u 29 10 (undef::u 40::undef::undef::rn u 43 8 (undef::u 52::undef::undef::rn u 55 75 []))))).toArray,defers:=[]}) λu=>?_
  simp only[rn];refine af.qW (b:=true) rfl rfl ?_;rw[φ rfl];refine af.GS (af.aW (af.rY ?_));obtain⟨hok,b,off,rfl,ob,hK,hra⟩:=hF k hlt;generalize l[k]=y at hok hra;obtain⟨ya,yk⟩:=y;simp only at hok hra;refine jz (λx=>rI (.slice (some ⟨b,off,none⟩) l.length cap) x) λx=>?_
  refine af.dz (λu=>{tmps:=(.pointer (some ⟨s,0,none⟩)::u 1::u 2::undef::u 4::.pointer (some ⟨b5,0,none⟩)::.pointer (some ⟨b6,0,none⟩)::rn u 7 3 (.int .i64 k::rn u 11 15 (undef::rn u 27 12 (undef::u 40::undef::undef::rn u 43 8 (undef::u 52::undef::undef::rn u 55 75 []))))).toArray,defers:=[]}) λu=>?_
  simp only[rn];refine Y1 rfl hok hK hra hlt hC hB r5 r6 hg x7 hb5 hb6 h7 vA haa hbt λx u w' s5 d5 F5 L5 K2 hC hB r5 r6 hg5 hyW aaM aaK=>?_
  refine af.xL ?_;refine af.aX none jm ⟨_,Tryz.func37⟩ (λw=>bh w F5 s5 d5 L5 0 K2/\cX F0 wL w/\Row w b5 (aN (ci A)) 33/\Row w b6 (aN (ci B)) 33) (λw t k h=>⟨h.1.ax t k,h.2.1.tape t k,h.2.2.1,h.2.2.2⟩) ⟨hC,hB,r5,r6⟩ λw41 hI hsz=>?_
  clear hC hB r5 r6 hsz;obtain⟨hC,hB,r5,r6⟩:=hI;go_wp2_with fail;refine af.dz (Cc s5 b5 b6 (k+1)) λu=>?_
  exact ih' _ (k+1) F5 s5 d5 L5 0 K2 u _ rfl (by omega) ⟨hC,hB,r5,r6,hg5,hyW,aaM,aaK,by omega⟩
 .have hd1:decide ((k:Int)<(l.length:Int))=false:=by simp;omega
  rw[hd1];clear hd1;refine af.dz (λu=>{tmps:=(.pointer (some ⟨s,0,none⟩)::u 1::u 2::undef::u 4::.pointer (some ⟨b5,0,none⟩)::.pointer (some ⟨b6,0,none⟩)::rn u 7 3 (.int .i64 k::rn u 11 15 (undef::u 27::.bool false::rn u 29 10 (undef::u 40::undef::undef::rn u 43 8 (undef::u 52::undef::undef::rn u 55 75 []))))).toArray,defers:=[]}) λu=>?_
  simp only[rn];refine af.qW (b:=false) rfl rfl ?_;rw[ζ (by simp)];refine af.Aq rfl ?_;clear ih' hlt hkl;refine jz (λx=>rI (.slice ad l.length cap) x) λx=>?_
  refine af.dz (λu=>{tmps:=(.pointer (some ⟨s,0,none⟩)::u 1::u 2::undef::rn u 4 22 (undef::rn u 27 12 (undef::u 40::undef::undef::rn u 43 8 (undef::u 52::undef::undef::rn u 55 75 [])))).toArray,defers:=[]}) λu=>?_
  simp only[rn];exact Y2 rfl hC hB hg x7 h7 vA haa
def Bu {E:af.Env}{wL:Ω}(ad:Ϡ)(cap:Nat)(l:List (Int×Int))(o:AJ E.K ad l)(e:l.length<=9223372036854775807){i:ϑ}{c q:Nat}{n:ϓ}{j:Int}{H K0 Kd A B:aZ}{ss:List (List Γ×Nat)}(r:bh wL i c q n j K0)(u:mO H ss Kd K0)(t:bF H)(k:bF Kd)(f:j<=100000)(g:∀K,mO H ss Kd K->∀s p,s<3->p<7->K s (cD p)=A s (cD p)\/K s (cD p)=B s (cD p)):
  af.CCm E 37 [.pointer (some ⟨c,0,none⟩)] (λπ=>#[.pointer (some ⟨π c,0,none⟩),.agg (aN (ci A)),.agg (aN (ci B)),.slice ad l.length cap]) (JE i Kd wL) wL:=by
 refine af.Jo 8 9 (uo c A B) (rI (.slice ad l.length cap) λ_=>undef) func37 rfl ϰ (λm v hv=>?_) rfl (λπ=>?_) (Bt ad cap l o e r u t k f g rfl)
 .unfold uo at hv
  simp only[rn,ϐ4,ac1,al7,or_false,or_self] at hv;rcases hv with rfl|rfl|rfl|rfl
  .exact m _ ϛ
  .intro b d
   cases d with
   |agg a h=>
    unfold aN at a;simp only[ϐ4,ad1] at a;obtain⟨_,_,rfl⟩:=a;cases h
  .intro b d
   cases d with
   |agg a h=>
    unfold aN at a;simp only[ϐ4,ad1] at a;obtain⟨_,_,rfl⟩:=a;cases h
  .exact ik
 .unfold uo
  simp only[rn];simp[ba,ym,rI,bn];exact⟨vR _ _,vR _ _,by simp[undef]⟩
section
variable {L:List Γ}{H K:aZ}{ps:List (List Γ)}
theorem Oj (k:Has L 200 H)(n:bF H)(l:fV H ps):∃(N:Nat)(L':ϓ),N<=80/\Has L' 200 (aU H)/\bF (aU H)/\dW (cz H ps)/\gV L L' 200<=N-1/\
  (∀a,(DS.calm L a).sU 200 (cz H ps)=(DS.calm L' (a+N),.int .i64 0))/\
  ∀(gC:Nat)(kp a:Int),∃(y:DS)(e:Int)(d:Nat)(b:aZ),(DS.eV L a gC kp).sU 200 (cz H ps)=(y,.int .i64 e)/\y.acts=a+d/\d<=80/\Has y.aB 200 b/\
   (b=H\/(cz H ps≠[]/\Mid H (cz H ps) b)\/b=aU H)/\lq e d gC 0 N=true/\gV L y.aB 200<=gC/\(e=0/\b=aU H\/e=3):=by
 obtain⟨N,L',g,t,j,c,f,i,hg⟩:=Lf k n l;refine⟨N,L',j,c,f,i,t.all,λa=>t.free a 0 0,λgC kp a=>?_⟩
 by_cases h:gC<N
 .obtain⟨b,q1,m⟩:=hg gC kp h
  refine⟨_,3,gC,b,t.falls a kp gC h,rfl,ϖ,q1,m,?_,t.near kp gC h,.inr rfl⟩;unfold lq;rw[φ ϖ];simp
 .refine⟨_,0,N,aU H,t.room a kp gC ϖ,rfl,j,c,.inr (.inr rfl),?_,ac7 t.all ϖ,.inl ⟨rfl,rfl⟩⟩
  unfold lq;rw[ζ ϖ];simp
theorem Xa (b:bF H)(a:bF (aU H))(f:fV H ps)(d:dW (cz H ps))(e:K=H\/(cz H ps≠[]/\Mid H (cz H ps) K)\/K=aU H):
  ∃Kd,mO H (cz H ps) Kd K/\bF Kd/\(Kd=H\/Kd=aU H)/\(K 3 []=none->Kd=K)/\(K 3 []≠none->Kd=aU H):=by
 rcases e with rfl|⟨c,hm⟩|rfl
 .exact⟨K,.inl rfl,b,.inl rfl,λ_=>rfl,λq=>absurd (kv b) q⟩
 .exact⟨aU H,.inr ⟨d,c,hm,(lZ b f).symm⟩,a,.inr rfl,(λq=>by rw[hm.jrn] at q;cases q),λ_=>rfl⟩
 .exact⟨aU H,.inl rfl,a,.inr rfl,λ_=>rfl,λq=>absurd (kv a) q⟩
theorem wO (a:bF H)(b:fV H ps){Kd:aZ}(hd:Kd=H\/Kd=aU H)(h:mO H (cz H ps) Kd K)(s p:Nat)(c:s<3):K s (cD p)=H s (cD p)\/K s (cD p)=aU H s (cD p):=by
 rcases h with rfl|⟨_,_,hm,_⟩
 .rcases hd with rfl|rfl
  .exact .inl rfl
  .exact .inr rfl
 .have:=hm.btw s (cD p) ϖ
  rwa [lZ a b] at this
end
def xo (sv sx:Φ)(x:Nat->Φ):kU:=[(0,sv),(2,sx),(28,x 28),(189,x 189)]
section
variable {sv sx:Φ}{x:Nat->Φ}
theorem gp:∀y∈[6],y∉sl (xo sv sx x):=by simp[sl,xo]
end
def pS (l:List Φ):Act:={tmps:=l.toArray,defers:=[]}
def pA (a b:Int):Act:={tmps:=(undef::.agg #[.int .i64 a,.int .i64 b]::rn (λ_=>undef) 2 239 []).toArray,defers:=[]}
def Vk:Option Code:=Tryz.f11.body.bind λc=>(ez c).bind λc=>(ez c).bind λc=>(ez c).bind λc=>(ez c).bind λc=>(ez c).bind λc=>(ez c).bind λc=>(ez c).bind λc=>(ez c).bind λc=>(ez c).bind λc=>(ez c).bind ez
open aI aI.Sq in
theorem amD {E:af.Env}{wL:Ω}(ad tM:Option Addr)(cap cap2:Nat)(l:List rj)(l2:List (Int×Int))(h:KY E.K ad l)(fa fk:Int)(hG:pJ wL){R:Act->Ω->Prop}{cd c13:Code}(hcd:Tryz.f11.body=some cd)(hc:Vk=some c13)
  (hend:∀(x u:Nat->Φ) (w':Ω) (s d b4 b8 b15 N dd:Nat) (F:List Nat) (L:List Γ) (a:Int) (H:aZ) (ps:List (List Γ)),bq w' F s d L a H->cX [] wL w'->bC [] F wL->a<=30000->Row w' b4 #[.int .i64 fa,.int .i64 fk] 26->Row w' b8 (aN (ci H)) 33->Row w' b15 (aN (ci (aU H))) 33->b4∉F->b8∉F->b15∉F->fV H ps->N<=80->bF (aU H)->dW (cz H ps)->dd<=N-1->
   (∀(gC:Nat) (kp a:Int),∃(y:DS) (e:Int) (dn:Nat) (K2:aZ),(DS.eV L a gC kp).sU 200 (cz H ps)=(y,.int .i64 e)/\y.acts=a+dn/\dn<=80/\Has y.aB 200 K2/\(K2=H\/(cz H ps≠[]/\Mid H (cz H ps) K2)\/K2=aU H)/\lq e dn gC 0 N=true/\gV L y.aB 200<=gC/\(e=0/\K2=aU H\/e=3))->
   af.eM E [6] 11 (xo (.slice ad l.length cap) (.slice tM l2.length cap2) x) [.code c13] R (pS (undef::u 1::undef::u 3::.pointer (some ⟨b4,0,none⟩)::u 5::u 6::.pointer (some ⟨s,0,none⟩)::.pointer (some ⟨b8,0,none⟩)::.bool true::u 10::.string ⟨L.toArray⟩::u 12::.int .i64 0::.int .i64 N::.pointer (some ⟨b15,0,none⟩)::.int .i64 dd::rn u 17 11 (undef::rn u 29 160 (undef::rn u 190 51 [])))) w'):
  af.eM E [6] 11 (xo (.slice ad l.length cap) (.slice tM l2.length cap2) λ_=>undef) [.code cd] R (pA fa fk) wL:=by
 obtain rfl:=(ac2 hcd).symm;obtain rfl:=(ac2 hc).symm;clear hcd hc;have hB:cX [] wL wL:=cX.refl _ _;unfold pA;simp only[rn];refine af.aW ?_;refine af.aX none gp ⟨_,Tryz.func11⟩ (λw=>cX [] wL w) (λw t k h=>h.tape t k) hB λapo hI hsz=>?_
 clear hB hsz;have hB:=hI;clear hI;go_wp2_with (with_reducible first|refine bA rfl ?_);refine aj.go (eQ rfl 26 _ rfl (.agg #[.int .i64 fa,.int .i64 fk]) rfl ?_);intro wa b4 l4 f4 r4;have r4:Row wa b4 #[.int .i64 fa,.int .i64 fk] 26:=r4;clear l4;replace hB:=hB.trans f4.blk;clear f4;go_wp2_with fail
 refine af.dz (λu=>(pS (undef::u 1::undef::u 3::.pointer (some ⟨b4,0,none⟩)::rn u 5 23 (undef::rn u 29 160 (undef::rn u 190 51 []))))) λu=>?_
 simp only[rn,pS];refine jz (λx=>xo (.slice ad l.length cap) (.slice tM l2.length cap2) x) λx=>?_
 refine af.aW (af.fC ?_);refine af.jy 28 (.slice ad l.length cap) rfl rfl rfl (by simp[sl,xo,af.lI]) (by simp[sl,xo,af.lI]) (λπ w=>by kernel_rfl) ?_;refine af.No (f2:=30) #[.slice ad l.length cap] rfl rfl (dG (by kernel_rfl)) (λπ w=>by kernel_rfl) (Nq ad cap l h (hG.blk hB (by simp))) λv wb hR _=>?_
 obtain⟨s,d,F,L,a,H,rfl,hC,hg,hB0,hls,ha,hRs⟩:=hR;have alP:b4∉F:=λq=>(hg b4 q).elim (by simp) (λz=>by have:=r4.lt;omega)
 have aqi:s≠b4:=by have:=r4.lt;omega
 replace hg:bC [] F wL:=(bC.refl [] wL).trans hg hB.size;replace hB:=hB.trans hB0;replace r4:=hB0.row r4;clear hB0 hls hRs;refine af.fi _ rfl (.inl rfl) rfl (af.ej ?_)
 refine af.dz (λu=>(pS (undef::u 1::undef::u 3::.pointer (some ⟨b4,0,none⟩)::u 5::u 6::.pointer (some ⟨s,0,none⟩)::rn u 8 20 (undef::rn u 29 160 (undef::rn u 190 51 []))))) λu=>?_
 simp only[rn,pS];refine jz (λx=>xo (.slice ad l.length cap) (.slice tM l2.length cap2) x) λx=>?_
 refine af.aW ?_;refine af.aX none gp ⟨_,Tryz.func11⟩ (λw=>bq w F s d L a H/\cX [] wL w/\Row w b4 #[.int .i64 fa,.int .i64 fk] 26) (λw t k h=>⟨h.1.ax t k,h.2.1.tape t k,h.2.2⟩) ⟨hC,hB,r4⟩ λapn hI hsz=>?_
 clear hC hB r4 hsz;obtain⟨hC,hB,r4⟩:=hI;go_wp2_with fail;refine af.aW ?_;refine af.aX none gp ⟨_,Tryz.func11⟩ (λw=>bq w F s d L a H/\cX [] wL w/\Row w b4 #[.int .i64 fa,.int .i64 fk] 26) (λw t k h=>⟨h.1.ax t k,h.2.1.tape t k,h.2.2⟩) ⟨hC,hB,r4⟩ λapm hI hsz=>?_
 clear hC hB r4 hsz;obtain⟨hC,hB,r4⟩:=hI;go_wp2_with fail;refine hC.seen.mono ?_;rintro e akf ⟨rfl,f105⟩;replace hC:=hC.new f105;replace hB:=hB.trans f105.blk;replace r4:=f105.row r4;clear f105;go_wp2_with (with_reducible first|refine aA rfl ?_|refine ai 33 rfl ?_);refine aj.go (bj rfl 33 rfl _ iH ?_);intro apl b8 afY f107 aeS
 go_wp2_with (with_reducible first|refine ai 33 rfl ?_);refine aj.go (fX rfl 33 _ _ rfl b8 rfl (aN (ci (H))) rfl (cB _) (nX _) _ _ aeS (by rw[cM,dI];rfl) ?_);intro akd f111 r8;have ff:aQ [] akf akd:=f107.trans f111 (by simpa using afY);have agI:b8∉F/\s≠b8:=⟨λhF=>by have:=hC.store.disk.lt b8 hF;omega,by have:=hC.store.row.lt;omega⟩
 clear f107 f111 aeS afY;replace hC:=hC.new ff;replace hB:=hB.trans ff.blk;replace r4:=ff.row r4;clear ff;go_wp2_with fail;refine af.aW ?_
 refine af.aX none gp ⟨_,Tryz.func11⟩ (λw=>bq w F s d L a H/\cX [] wL w/\Row w b4 #[.int .i64 fa,.int .i64 fk] 26/\Row w b8 (aN (ci (H))) 33) (λw t k h=>⟨h.1.ax t k,h.2.1.tape t k,h.2.2.1,h.2.2.2⟩) ⟨hC,hB,r4,r8⟩ λapk hI hsz=>?_
 clear hC hB r4 r8 hsz;obtain⟨hC,hB,r4,r8⟩:=hI;go_wp2_with fail;refine hC.copied.mono ?_;rintro e wc ⟨s2,d2,F2,rfl,hT,fc,gc,lc⟩;have ap:=Ap.fresh hC gc lc;have hg2:bC [] F2 wL:=(bC.refl [] wL).trans gc hB.size;have agL:b4∉F2:=λq=>(gc b4 q).elim (by simp) (λz=>by have:=r4.lt;omega)
 have agJ:b8∉F2:=λq=>(gc b8 q).elim (by simp) (λz=>by have:=r8.lt;omega)
 clear gc lc;replace hC:=hC.new fc;replace hB:=hB.trans fc.blk;replace r4:=fc.row r4;replace r8:=fc.row r8;clear fc;go_wp2_with fail;refine af.aW ?_
 refine af.aX none gp ⟨_,Tryz.func11⟩ (λw=>bq w F s d L a H/\cX [] wL w/\Row w b4 #[.int .i64 fa,.int .i64 fk] 26/\Row w b8 (aN (ci (H))) 33/\bq w F2 s2 d2 L 0 H) (λw t k h=>⟨h.1.ax t k,h.2.1.tape t k,h.2.2.1,h.2.2.2.1,h.2.2.2.2.ax t k⟩) ⟨hC,hB,r4,r8,hT⟩ λapj hI hsz=>?_
 clear hC hB r4 r8 hT hsz;obtain⟨hC,hB,r4,r8,hT⟩:=hI;go_wp2_with fail;refine af.aW ?_
 refine af.aX none gp ⟨_,Tryz.func11⟩ (λw=>bq w F s d L a H/\cX [] wL w/\Row w b4 #[.int .i64 fa,.int .i64 fk] 26/\Row w b8 (aN (ci (H))) 33/\bq w F2 s2 d2 L 0 H) (λw t k h=>⟨h.1.ax t k,h.2.1.tape t k,h.2.2.1,h.2.2.2.1,h.2.2.2.2.ax t k⟩) ⟨hC,hB,r4,r8,hT⟩ λapi hI hsz=>?_
 clear hC hB r4 r8 hT hsz;obtain⟨hC,hB,r4,r8,hT⟩:=hI;go_wp2_with fail;refine hC.bytes.mono ?_;rintro e akc ⟨rfl,f116⟩;replace hC:=hC.new f116;replace hB:=hB.trans f116.blk;replace r4:=f116.row r4;replace r8:=f116.row r8;replace hT:=hT.new f116;clear f116;go_wp2_with fail;refine af.aW (af.fC ?_)
 refine af.dz (λu=>(pS (undef::u 1::undef::u 3::.pointer (some ⟨b4,0,none⟩)::u 5::u 6::.pointer (some ⟨s,0,none⟩)::.pointer (some ⟨b8,0,none⟩)::.bool true::.pointer (some ⟨s2,0,none⟩)::.string ⟨L.toArray⟩::rn u 12 16 (undef::rn u 29 160 (undef::rn u 190 51 []))))) λu=>?_
 simp only[rn,pS];refine jz (λx=>xo (.slice ad l.length cap) (.slice tM l2.length cap2) x) λx=>?_
 refine af.fi _ rfl (.inr rfl) rfl ?_;refine af.qX (f2:=31) #[.tmp 48] #[.pointer (some ⟨s2,0,none⟩)] (R2:=sV F2 s2 d2 200 (DS.calm L 0) akc) rfl rfl (by kernel_rfl) (by kernel_rfl) (dG (by kernel_rfl)) (λb w=>by kernel_rfl) (by kernel_rfl) (vn hT.store (hG.blk hB (by simp)) (hg2.nil hG) (hT.ok (by omega))) λv ws hR _=>?_
 obtain⟨ps,cv,G2,M2,k2,rfl,hP,hT',hgn,NW,_,_,_,hcv,_,hsl⟩:=hT.synced hR;obtain⟨N,L',hN,hL',hs7,hok,hdN,hcalm,hout⟩:=Oj hC.has hC.seven hP;obtain⟨rfl,rfl⟩:M2=L'/\k2=N:=by
  have:=hsl.symm.trans (yM hP hcalm);simpa using this
 replace hC:=hC.off ap NW;replace r4:=NW.row r4 agL;replace r8:=NW.row r8 agJ;replace hB:cX [] wL ws:=qL hg2 NW hB;obtain⟨Nu,wI,MK⟩:=ce hcv;subst MK;clear hR hT hg2 hgn NW hcv hsl hcalm ap agL agJ;have hT:=hT';clear hT'
 refine af.fi _ rfl (.inr rfl) rfl (af.gz (w1:=ws) (.agg #[.int .i64 (cz H ps).length,.slice Nu (qV H ps).length wI]) rfl rfl (λt d=>by kernel_rfl) (af.gz (w1:=ws) (.int .i64 0) rfl rfl (λt d=>by kernel_rfl) ?_));generalize (cz H ps).length=S1;generalize (qV H ps).length=Q1
 refine af.dz (λu=>(pS (undef::u 1::undef::u 3::.pointer (some ⟨b4,0,none⟩)::u 5::u 6::.pointer (some ⟨s,0,none⟩)::.pointer (some ⟨b8,0,none⟩)::.bool true::.pointer (some ⟨s2,0,none⟩)::.string ⟨L.toArray⟩::rn u 12 16 (undef::rn u 29 21 (.agg #[.int .i64 S1,.slice Nu Q1 wI]::.int .i64 0::rn u 52 137 (undef::rn u 190 51 [])))))) λu=>?_
 simp only[rn,pS];refine jz (λx=>xo (.slice ad l.length cap) (.slice tM l2.length cap2) x) λx=>?_
 refine af.vi 5 rfl gp ⟨_,Tryz.func11⟩ (λw=>bq w F s d L a H/\cX [] wL w/\Row w b4 #[.int .i64 fa,.int .i64 fk] 26/\Row w b8 (aN (ci (H))) 33/\bq w G2 s2 d2 M2 (0+N) (aU H)) (λw t k h=>⟨h.1.ax t k,h.2.1.tape t k,h.2.2.1,h.2.2.2.1,h.2.2.2.2.ax t k⟩) ⟨hC,hB,r4,r8,hT⟩ λakb hI _=>?_
 clear hC hB r4 r8 hT;obtain⟨hC,hB,r4,r8,hT⟩:=hI;show wpList _ _ _ [_,_,_] _ _;refine aA rfl ?_;refine aj.go (bj rfl 58 rfl _ mQ ?_);intro aph b12 afX f119 aeR;go_wp2_with (with_reducible first|refine ai 58 rfl ?_)
 refine aj.go (fX rfl 58 _ _ rfl b12 rfl (#[.int .i64 S1,.slice Nu Q1 wI]) rfl gv (by simp[Value.oneCell']) _ _ aeR rfl ?_);intro aka f123 r12;have ff:aQ [] akb aka:=f119.trans f123 (by simpa using afX);clear f119 f123 aeR afX;replace hC:=hC.new ff;replace hB:=hB.trans ff.blk;replace r4:=ff.row r4;replace r8:=ff.row r8
 replace hT:=hT.new ff;clear ff;go_wp2_with fail;clear r12;refine af.aW ?_
 refine af.aX none gp ⟨_,Tryz.func11⟩ (λw=>bq w F s d L a H/\cX [] wL w/\Row w b4 #[.int .i64 fa,.int .i64 fk] 26/\Row w b8 (aN (ci (H))) 33/\bq w G2 s2 d2 M2 (0+N) (aU H)) (λw t k h=>⟨h.1.ax t k,h.2.1.tape t k,h.2.2.1,h.2.2.2.1,h.2.2.2.2.ax t k⟩) ⟨hC,hB,r4,r8,hT⟩ λapg hI hsz=>?_
 clear hC hB r4 r8 hT hsz;obtain⟨hC,hB,r4,r8,hT⟩:=hI;go_wp2_with fail;refine hT.acts.mono ?_;rintro e apf ⟨rfl,rfl⟩;go_wp2_with fail;refine af.aW ?_
 refine af.aX none gp ⟨_,Tryz.func11⟩ (λw=>bq w F s d L a H/\cX [] wL w/\Row w b4 #[.int .i64 fa,.int .i64 fk] 26/\Row w b8 (aN (ci (H))) 33/\bq w G2 s2 d2 M2 (0+N) (aU H)) (λw t k h=>⟨h.1.ax t k,h.2.1.tape t k,h.2.2.1,h.2.2.2.1,h.2.2.2.2.ax t k⟩) ⟨hC,hB,r4,r8,hT⟩ λape hI hsz=>?_
 clear hC hB r4 r8 hT hsz;obtain⟨hC,hB,r4,r8,hT⟩:=hI;go_wp2_with fail;refine hT.seen.mono ?_;rintro e aj9 ⟨rfl,f128⟩;replace hC:=hC.new f128;replace hB:=hB.trans f128.blk;replace r4:=f128.row r4;replace r8:=f128.row r8;replace hT:=hT.new f128;clear f128;go_wp2_with (with_reducible first|refine aA rfl ?_|refine ai 33 rfl ?_)
 refine aj.go (bj rfl 33 rfl _ iH ?_);intro apd b15 afW f130 aeQ;go_wp2_with (with_reducible first|refine ai 33 rfl ?_);refine aj.go (fX rfl 33 _ _ rfl b15 rfl (aN (ci (aU H))) rfl (cB _) (nX _) _ _ aeQ (by rw[cM,dI];rfl) ?_);intro aj8 f134 dg;have ff:aQ [] aj9 aj8:=f130.trans f134 (by simpa using afW)
 have aaQ:b15∉F/\s≠b15:=⟨λhF=>by have:=hC.store.disk.lt b15 hF;omega,by have:=hC.store.row.lt;omega⟩
 clear f130 f134 aeQ afW;replace hC:=hC.new ff;replace hB:=hB.trans ff.blk;replace r4:=ff.row r4;replace r8:=ff.row r8;replace hT:=hT.new ff;clear ff;go_wp2_with fail;refine af.aW ?_
 refine af.aX none gp ⟨_,Tryz.func11⟩ (λw=>bq w F s d L a H/\cX [] wL w/\Row w b4 #[.int .i64 fa,.int .i64 fk] 26/\Row w b8 (aN (ci (H))) 33/\bq w G2 s2 d2 M2 (0+N) (aU H)/\Row w b15 (aN (ci (aU H))) 33) (λw t k h=>⟨h.1.ax t k,h.2.1.tape t k,h.2.2.1,h.2.2.2.1,h.2.2.2.2.1.ax t k,h.2.2.2.2.2⟩) ⟨hC,hB,r4,r8,hT,dg⟩ λapc hI hsz=>?_
 clear hC hB r4 r8 hT dg hsz;obtain⟨hC,hB,r4,r8,hT,dg⟩:=hI;go_wp2_with fail;refine hT.bytes.mono ?_;rintro e apb ⟨rfl,f137⟩;replace hC:=hC.new f137;replace hB:=hB.trans f137.blk;replace r4:=f137.row r4;replace r8:=f137.row r8;replace hT:=hT.new f137;replace dg:=f137.row dg;clear f137;have hl1:(⟨L.toArray⟩:Ξ).size=64*200:=by
  obtain⟨m,hr,_⟩:=hC.has;have:=hr.len;show L.toArray.size=_;simpa using this
 have hl2:(⟨M2.toArray⟩:Ξ).size=64*200:=by
  obtain⟨m,hr,_⟩:=hL';have:=hr.len;show M2.toArray.size=_;simpa using this
 have hdd:jM ⟨L.toArray⟩ ⟨M2.toArray⟩ 200<=N-1:=ac7 (ai8 (Af L M2 200)) hdN;go_wp2_with fail;refine(tI _ _ 200 _ hl1 hl2 (by omega)).mono ?_;rintro e apa ⟨rfl,f139⟩;replace hC:=hC.new f139;replace hB:=hB.trans f139.blk;replace r4:=f139.row r4;replace r8:=f139.row r8;replace hT:=hT.new f139;replace dg:=f139.row dg
 clear f139;generalize jM ⟨L.toArray⟩ ⟨M2.toArray⟩ 200=dd at hdd⊢;clear hl1 hl2 hdN;go_wp2_with fail
 refine af.dz (λu=>(pS (undef::u 1::undef::u 3::.pointer (some ⟨b4,0,none⟩)::u 5::u 6::.pointer (some ⟨s,0,none⟩)::.pointer (some ⟨b8,0,none⟩)::.bool true::u 10::.string ⟨L.toArray⟩::u 12::.int .i64 0::.int .i64 N::.pointer (some ⟨b15,0,none⟩)::.int .i64 dd::rn u 17 11 (undef::rn u 29 160 (undef::rn u 190 51 []))))) λu=>?_
 exact hend _ u _ s d b4 b8 b15 N dd F L a H ps hC hB hg ha r4 r8 dg alP agI.1 aaQ.1 hP hN hs7 hok hdd hout
section
variable {w' wL:Ω}{F:List Nat}{s d:Nat}{L:List Γ}{a kp:Int}{gC:Nat}{H:aZ}{ps:List (List Γ)}
theorem GB {v:Φ}(f:sV F s d 200 (DS.eV L a gC kp) wL v w')(b:Has L 200 H)(g:bF H)(k:fV H ps):
  ∃(c0 c1:Φ)(e:Int)(F':ϑ)(y:DS),v= .tuple #[.agg #[c0,c1],.int .i64 e]/\c0.oneCell'=true/\c1.oneCell'=true/\(DS.eV L a gC kp).sU 200 (cz H ps)=(y,.int .i64 e)/\aE w' F' s d 200 y/\bC F F' wL/\cX F wL w':=by
 obtain⟨c0,c1,e,rfl,h,i,l⟩:=f.cases;have hm:x4 (DS.eV L a gC kp) 200=0:=by
  unfold x4;rw[nh (x:=DS.eV L a gC kp) b rfl,kv g];rfl
 rcases l with⟨h1,_⟩|⟨_,ps',F',hP',hS,hG,hB,hv⟩
 .exact absurd hm h1
 .have c:=oe (x:=DS.eV L a gC kp) b rfl hP'
  obtain⟨e1,_⟩:=nU (x:=DS.eV L a gC kp) b rfl ps';have j:ps'=ps:=c.uniq k;subst j;rw[e1] at hS hv;exact⟨c0,c1,e,F',_,rfl,h,i,Prod.ext rfl hv,hS,hG,hB⟩
end
def Vj:Option Code:=Vk.bind λc=>(ez c).bind λc=>(ez c).bind λc=>(ez c).bind λc=>(ez c).bind ez
open aI aI.Sq in
theorem amC {E:af.Env}{w0 wL:Ω}{sv sx:Φ}{x u:Ϟ}{l o:Int}(C:-9223372036854775808<=l/\l<=9223372036854775807){s d b4 m b N dd:Nat}{F:ϑ}{L:ϓ}{a:Int}{H:aZ}{t:ϕ}{R:ϝ}{y v:Code}(S:Vk=some y)(A:Vj=some v)
  (f:bq wL F s d L a H) (c:cX [] w0 wL) (hg:bC [] F w0) (r4:Row wL b4 #[.int .i64 l,.int .i64 o] 26) (i:Row wL m (aN (ci H)) 33) (j:Row wL b (aN (ci (aU H))) 33) (I:b4∉F) (U:m∉F) (W:b∉F) (hN:N<=80) (r:dd<=N-1) (q:True)
  (D:∀(u:Ϟ)(w':Ω)(gC:Nat),gC<N+2->aE w' F s d 200 (DS.eV L a gC o)->cX [] w0 w'->Row w' b4 #[.int .i64 l,.int .i64 o] 26->Row w' m (aN (ci H)) 33->Row w' b (aN (ci (aU H))) 33->Has L 200 H->bF H->0<=a->
   af.eM E [6] 11 (xo sv sx x) (.code v::t) R (pS (undef::u 1::undef::u 3::.pointer (some ⟨b4,0,none⟩)::u 5::u 6::.pointer (some ⟨s,0,none⟩)::.pointer (some ⟨m,0,none⟩)::.bool true::u 10::.string ⟨L.toArray⟩::u 12::.int .i64 0::.int .i64 N::.pointer (some ⟨b,0,none⟩)::.int .i64 dd::.int .i64 gC::.int .i64 a::rn u 19 9 (undef::rn u 29 160 (undef::rn u 190 51 [])))) w'):
  af.eM E [6] 11 (xo sv sx x) (.code y::t) R (pS (undef::u 1::undef::u 3::.pointer (some ⟨b4,0,none⟩)::u 5::u 6::.pointer (some ⟨s,0,none⟩)::.pointer (some ⟨m,0,none⟩)::.bool true::u 10::.string ⟨L.toArray⟩::u 12::.int .i64 0::.int .i64 N::.pointer (some ⟨b,0,none⟩)::.int .i64 dd::rn u 17 11 (undef::rn u 29 160 (undef::rn u 190 51 [])))) wL:=by
 obtain rfl:=(ac2 S).symm;obtain rfl:=(ac2 A).symm;clear S A;simp only[rn,pS];refine af.aW ?_
 refine af.rX gp ⟨_,func11⟩ ϰ (λu=>(pS (undef::u 1::undef::u 3::.pointer (some ⟨b4,0,none⟩)::u 5::u 6::.pointer (some ⟨s,0,none⟩)::.pointer (some ⟨m,0,none⟩)::.bool true::u 10::.string ⟨L.toArray⟩::u 12::.int .i64 0::.int .i64 N::.pointer (some ⟨b,0,none⟩)::.int .i64 dd::rn u 17 11 (undef::rn u 29 160 (undef::rn u 190 51 []))))) (λw=>bq w F s d L a H/\cX [] w0 w/\Row w b4 #[.int .i64 l,.int .i64 o] 26/\Row w m (aN (ci H)) 33/\Row w b (aN (ci (aU H))) 33) (λw t k h=>⟨h.1.ax t k,h.2.1.tape t k,h.2.2.1,h.2.2.2.1,h.2.2.2.2⟩) ⟨f,c,r4,i,j⟩ (λQ n g=>?_) λu Q n=>?_
 .clear f c r4 i j g q
  have X:decide ((dd:Int)<0)=false:=ϛ
  rcases(show dd=0\/(0<dd/\dd<=N-1) by omega) with rfl|⟨q0,Y⟩
  .clear r
   go_wp2_with fail
   all_goals first|exact⟨rfl,n,ϰ⟩|kernel_rfl
  .have q1:wrap64 ((N:Int)-1)=(N:Int)-1:=IntWalk.wrap64_in _ ϖ
   have q3:decide ((N:Int)-1<(dd:Int))=false:=decide_eq_false ϖ;clear r Y;go_wp2_with fail
   all_goals first|exact⟨rfl,n,ϰ⟩|kernel_rfl
 clear f c r4 i j;obtain⟨f,c,r4,i,j⟩:=n;simp only[rn,pS];refine af.aW ?_
 refine af.aX none gp ⟨_,func11⟩ (λw=>bq w F s d L a H/\cX [] w0 w/\Row w b4 #[.int .i64 l,.int .i64 o] 26/\Row w m (aN (ci H)) 33/\Row w b (aN (ci (aU H))) 33) (λw t k h=>⟨h.1.ax t k,h.2.1.tape t k,h.2.2.1,h.2.2.2.1,h.2.2.2.2⟩) ⟨f,c,r4,i,j⟩ λG n g=>?_
 clear f c r4 i j g;obtain⟨f,c,r4,i,j⟩:=n;have O:G.cell? ⟨b4,0,none⟩=some (.int .i64 l):=by rw[r4.cell];rfl
 have J:wrap64 ((N:Int)+2)=((N+2:Nat):Int):=by rw[IntWalk.wrap64_in _ ϖ];omega
 go_wp2_with fail;refine(od l (N+2) _ C.1 C.2).mono ?_;rintro e wp ⟨rfl,rfl⟩;have p:=mj l (N+2);generalize bH l (N+2)=gC at p⊢;clear J O;go_wp2_with fail;refine af.aW ?_
 refine af.aX none gp ⟨_,func11⟩ (λw=>bq w F s d L a H/\cX [] w0 w/\Row w b4 #[.int .i64 l,.int .i64 o] 26/\Row w m (aN (ci H)) 33/\Row w b (aN (ci (aU H))) 33) (λw t k h=>⟨h.1.ax t k,h.2.1.tape t k,h.2.2.1,h.2.2.2.1,h.2.2.2.2⟩) ⟨f,c,r4,i,j⟩ λV n g=>?_
 clear f c r4 i j g;obtain⟨f,c,r4,i,j⟩:=n;go_wp2_with fail;refine f.acts.mono ?_;rintro e aa ⟨rfl,rfl⟩;go_wp2_with fail;refine af.aW ?_
 refine af.aX none gp ⟨_,func11⟩ (λw=>bq w F s d L a H/\cX [] w0 w/\Row w b4 #[.int .i64 l,.int .i64 o] 26/\Row w m (aN (ci H)) 33/\Row w b (aN (ci (aU H))) 33) (λw t k h=>⟨h.1.ax t k,h.2.1.tape t k,h.2.2.1,h.2.2.2.1,h.2.2.2.2⟩) ⟨f,c,r4,i,j⟩ λM n g=>?_
 clear f c r4 i j g;obtain⟨f,c,r4,i,j⟩:=n;have P:M.cell? ⟨b4,1,none⟩=some (.int .i64 o):=by rw[r4.cell];rfl
 go_wp2_with fail;refine(y9 F s d 200 (DS.calm L a) gC o _ f.store).mono ?_;rintro e wf ⟨rfl,B,z⟩;rw[rP] at B;replace r4:=z.row r4 I;replace i:=z.row i U;replace j:=z.row j W;replace c:=c.trans z.blk hg;have K:=f.lo;have T:=f.has;have h7:=f.seven;clear z P f;rw[rP];go_wp2_with fail;refine af.aW ?_
 refine af.aX none gp ⟨_,func11⟩ (λw=>cX [] w0 w/\Row w b4 #[.int .i64 l,.int .i64 o] 26/\Row w m (aN (ci H)) 33/\Row w b (aN (ci (aU H))) 33/\aE w F s d 200 (DS.eV L a gC o)) (λw t k h=>⟨h.1.tape t k,h.2.1,h.2.2.1,h.2.2.2.1,h.2.2.2.2.ax t k⟩) ⟨c,r4,i,j,B⟩ λZ n g=>?_
 clear c r4 i j B g;obtain⟨c,r4,i,j,B⟩:=n;go_wp2_with fail
 refine af.dz (λu=>(pS (undef::u 1::undef::u 3::.pointer (some ⟨b4,0,none⟩)::u 5::u 6::.pointer (some ⟨s,0,none⟩)::.pointer (some ⟨m,0,none⟩)::.bool true::u 10::.string ⟨L.toArray⟩::u 12::.int .i64 0::.int .i64 N::.pointer (some ⟨b,0,none⟩)::.int .i64 dd::.int .i64 gC::.int .i64 a::rn u 19 9 (undef::rn u 29 160 (undef::rn u 190 51 []))))) λu=>?_
 exact D u _ gC p B c r4 i j T h7 K
def Vi:Option Code:=Vj.bind λc=>(ez c).bind λc=>(ez c).bind λc=>(ez c).bind λc=>(ez c).bind λc=>(ez c).bind ez
open aI aI.Sq in
theorem amB {E:af.Env}{w0 wL:Ω}{sv sx:Φ}{x u:Ϟ}{fk:Int}{s d b4 p c N dd gC:Nat}{F:ϑ}{L:ϓ}{a:Int}{H:aZ}{ps:List (List Γ)}{t:ϕ}{R:ϝ}{P W:Code}(hc:Vj=some P)(V:Vi=some W)
  (hD:aE wL F s d 200 (DS.eV L a gC fk)) (f:cX [] w0 wL) (hg:bC [] F w0) (hG:pJ w0) (g:Row wL p (aN (ci H)) 33) (i:Row wL c (aN (ci (aU H))) 33) (NT:p∉F) (uO:c∉F) (hN:N<=80) (ao:gC<N+2) (ab:0<=a) (ha:a<=30000) (hL:Has L 200 H) (h7:bF H) (ae:bF (aU H)) (ad:dW (cz H ps)) (hP:fV H ps)
  (D:∀(gC:Nat)(kp a:Int),∃(y:DS)(e:Int)(I:Nat)(r:aZ),(DS.eV L a gC kp).sU 200 (cz H ps)=(y,.int .i64 e)/\y.acts=a+I/\I<=80/\Has y.aB 200 r/\(r=H\/(cz H ps≠[]/\Mid H (cz H ps) r)\/r=aU H)/\lq e I gC 0 N=true/\gV L y.aB 200<=gC/\(e=0/\r=aU H\/e=3))
  (Q:∀(u:Ϟ)(w':Ω)(ev:Bool)(M d5:Nat)(B:ϑ)(L5:ϓ)(r Kd:aZ),bh w' B M d5 L5 0 r->cX [] w0 w'->bC [] B w0->Row w' p (aN (ci H)) 33->Row w' c (aN (ci (aU H))) 33->p∉B->c∉B->mO H (cz H ps) Kd r->bF Kd->(Kd=H\/Kd=aU H)->(r 3 []=none->Kd=r)->(r 3 []≠none->Kd=aU H)->(ev=true->r=aU H)->
   af.eM E [6] 11 (xo sv sx x) (.code W::t) R (pS (undef::u 1::undef::rn u 3 4 (.pointer (some ⟨s,0,none⟩)::.pointer (some ⟨p,0,none⟩)::.bool true::rn u 10 5 (.pointer (some ⟨c,0,none⟩)::u 16::.int .i64 gC::u 18::u 19::.bool ev::.pointer (some ⟨M,0,none⟩)::rn u 22 6 (undef::rn u 29 160 (undef::rn u 190 51 [])))))) w'):
  af.eM E [6] 11 (xo sv sx x) (.code P::t) R (pS (undef::u 1::undef::u 3::.pointer (some ⟨b4,0,none⟩)::u 5::u 6::.pointer (some ⟨s,0,none⟩)::.pointer (some ⟨p,0,none⟩)::.bool true::u 10::.string ⟨L.toArray⟩::u 12::.int .i64 0::.int .i64 N::.pointer (some ⟨c,0,none⟩)::.int .i64 dd::.int .i64 gC::.int .i64 a::rn u 19 9 (undef::rn u 29 160 (undef::rn u 190 51 [])))) wL:=by
 obtain rfl:=(ac2 hc).symm;obtain rfl:=(ac2 V).symm;clear hc V;simp only[rn,pS];refine af.aW (af.fC ?_);refine af.fi _ rfl (.inr rfl) rfl ?_
 refine af.qX (f2:=31) #[.tmp 98] #[.pointer (some ⟨s,0,none⟩)] (R2:=sV F s d 200 (DS.eV L a gC fk) wL) rfl rfl ϰ ϰ (dG ϰ) (λb w=>ϰ) ϰ (vn hD (hG.blk f ϛ) (hg.nil hG) (Ol hL h7 a gC fk ab ϖ ϖ)) λv ws hR _=>?_
 obtain⟨c0,c1,e,F',y,rfl,o0,o1,ey,j,gY,bY⟩:=GB hR hL h7 hP;obtain⟨A,K,I,r,Y,J,aR,U,an,Ge,S,G⟩:=D gC fk a;obtain⟨rfl,rfl⟩:A=y/\K=e:=by
  have:=Y.symm.trans ey;simpa using this
 replace J:Hid _:=J;replace Ge:Hid _:=Ge;replace G:Hid _:=G;replace g:=bY.row g NT;replace i:=bY.row i uO;replace f:=f.trans bY hg;clear hR hD ey Y gY bY NT uO D o0 o1
 refine af.fi _ rfl (.inr rfl) rfl (af.gz (w1:=ws) (.agg #[c0,c1]) rfl rfl (λt d=>ϰ) (af.gz (w1:=ws) (.int .i64 K) rfl rfl (λt d=>ϰ) ?_));refine af.fi _ rfl (.inl rfl) rfl (af.ej ?_)
 refine af.dz (λu=>(pS (undef::u 1::undef::u 3::.pointer (some ⟨b4,0,none⟩)::u 5::u 6::.pointer (some ⟨s,0,none⟩)::.pointer (some ⟨p,0,none⟩)::.bool true::u 10::.string ⟨L.toArray⟩::u 12::.int .i64 K::.int .i64 N::.pointer (some ⟨c,0,none⟩)::.int .i64 dd::.int .i64 gC::.int .i64 a::rn u 19 9 (undef::rn u 29 160 (undef::rn u 190 51 []))))) λu=>?_
 simp only[rn,pS];refine af.aW ?_;refine af.aX none gp ⟨_,func11⟩ (λw=>cX [] w0 w/\Row w p (aN (ci H)) 33/\Row w c (aN (ci (aU H))) 33/\aE w F' s d 200 A) (λw t k h=>⟨h.1.tape t k,h.2.1,h.2.2.1,h.2.2.2.ax t k⟩) ⟨f,g,i,j⟩ λa3 C l=>?_
 clear f g i j l;obtain⟨f,g,i,j⟩:=C;go_wp2_with fail;refine(nZ F' s d 200 A _ j).mono ?_;rintro e a2 ⟨rfl,rfl⟩;rw[J.out];go_wp2_with fail;rw[show a+(I:Int)-a=I by omega];refine(Ck K I gC 0 N _).mono ?_;rintro e aB ⟨rfl,rfl⟩;rw[Ge.out];go_wp2_with fail;refine af.aW ?_
 refine af.aX none gp ⟨_,func11⟩ (λw=>cX [] w0 w/\Row w p (aN (ci H)) 33/\Row w c (aN (ci (aU H))) 33/\aE w F' s d 200 A) (λw t k h=>⟨h.1.tape t k,h.2.1,h.2.2.1,h.2.2.2.ax t k⟩) ⟨f,g,i,j⟩ λar C l=>?_
 clear f g i j l;obtain⟨f,g,i,j⟩:=C;go_wp2_with fail;refine(kx F' s d 200 A _ j).mono ?_;rintro e av ⟨rfl,n⟩;replace f:=f.trans n.blk;replace g:=n.row g;replace i:=n.row i;replace j:=j.new n;clear n;have O:(⟨L.toArray⟩:Ξ).size=64*200:=by
  obtain⟨m,hr,_⟩:=hL;have:=hr.len;show L.toArray.size=_;simpa using this
 have T:(⟨A.aB.toArray⟩:Ξ).size=64*200:=by
  obtain⟨m,hr,_⟩:=U;have:=hr.len;show A.aB.toArray.size=_;simpa using this
 have X:jM ⟨L.toArray⟩ ⟨A.aB.toArray⟩ 200<=gC:=ac7 (ai8 (Af L A.aB 200)) S;go_wp2_with fail;refine(tI _ _ 200 _ O T ϖ).mono ?_;rintro e aw ⟨rfl,o⟩;replace f:=f.trans o.blk;replace g:=o.row g;replace i:=o.row i;replace j:=j.new o;clear o
 generalize jM ⟨L.toArray⟩ ⟨A.aB.toArray⟩ 200=d2 at X⊢;clear O T S;go_wp2_with fail;refine af.aW ?_
 refine af.aX none gp ⟨_,func11⟩ (λw=>cX [] w0 w/\Row w p (aN (ci H)) 33/\Row w c (aN (ci (aU H))) 33/\aE w F' s d 200 A) (λw t k h=>⟨h.1.tape t k,h.2.1,h.2.2.1,h.2.2.2.ax t k⟩) ⟨f,g,i,j⟩ λa1 C l=>?_
 clear f g i j l;obtain⟨f,g,i,j⟩:=C;go_wp2_with fail;refine af.aW ?_;refine af.aX none gp ⟨_,func11⟩ (λw=>cX [] w0 w/\Row w p (aN (ci H)) 33/\Row w c (aN (ci (aU H))) 33/\aE w F' s d 200 A) (λw t k h=>⟨h.1.tape t k,h.2.1,h.2.2.1,h.2.2.2.ax t k⟩) ⟨f,g,i,j⟩ λaq C l=>?_
 clear f g i j l;obtain⟨f,g,i,j⟩:=C;go_wp2_with fail;obtain⟨Kd,Z,vA,Kw,ag,ac⟩:=Xa h7 ae hP ad an;refine(tJ j U (Z.way vA)).mono ?_;rintro e wc ⟨M,d5,B,rfl,hT,fc,gc,lc⟩;have am:bC [] B w0:=(bC.refl [] w0).trans gc f.size;have aa:p∉B:=λq=>(gc p q).elim ϛ (λz=>by have:=g.lt;omega)
 have ak:c∉B:=λq=>(gc c q).elim ϛ (λz=>by have:=i.lt;omega)
 clear gc lc j;replace f:=f.trans fc.blk;replace g:=fc.row g;replace i:=fc.row i;clear fc;go_wp2_with fail;refine af.aW ?_
 refine af.aX none gp ⟨_,func11⟩ (λw=>bh w B M d5 A.aB 0 r/\cX [] w0 w/\Row w p (aN (ci H)) 33/\Row w c (aN (ci (aU H))) 33) (λw t k h=>⟨h.1.ax t k,h.2.1.tape t k,h.2.2.1,h.2.2.2⟩) ⟨hT,f,g,i⟩ λa0 C l=>?_
 clear hT f g i l;obtain⟨hT,f,g,i⟩:=C;have aL:decide ((d2:Int)<0)=false:=ϛ
 have hq:¬gC<d2:=ϖ
 clear X;go_wp2_with fail;refine af.dz (λu=>(pS (undef::u 1::undef::rn u 3 4 (.pointer (some ⟨s,0,none⟩)::.pointer (some ⟨p,0,none⟩)::.bool true::rn u 10 5 (.pointer (some ⟨c,0,none⟩)::u 16::.int .i64 gC::u 18::u 19::.bool (K==0)::.pointer (some ⟨M,0,none⟩)::rn u 22 6 (undef::rn u 29 160 (undef::rn u 190 51 []))))))) λu=>?_
 exact Q u _ (K==0) M d5 B A.aB r Kd hT f am g i aa ak Z vA Kw ag ac (G.out.elim (λq _=>q.2) λq z=>by rw[q] at z;simp at z)
def Vh:Option Code:=Vi.bind λc=>(ez c).bind λc=>(ez c).bind λc=>(ez c).bind ez
open aI aI.Sq in
theorem amA {E:af.Env}{w0 wL:Ω}{sv sx:Φ}{x u:Ϟ}{s l g gC:Nat}{ev:Bool}{r I:Nat}{A:ϑ}{G:ϓ}{H i Kd:aZ}{ps:List (List Γ)}{t:ϕ}{R:ϝ}{ad ab:Code}(hc:Vi=some ad)(ac:Vh=some ab)
  (a:bh wL A r I G 0 i) (d:cX [] w0 wL) (hg:bC [] A w0) (c:Row wL l (aN (ci H)) 33) (b:Row wL g (aN (ci (aU H))) 33) (NT:l∉A) (uO:g∉A) (h7:bF H) (hP:fV H ps) (ak:mO H (cz H ps) Kd i) (Kw:Kd=H\/Kd=aU H) (aa:i 3 []=none->Kd=i) (F:ev=true->i=aU H) (Z:bF (aU H))
  (U:∀(u:Ϟ)(w':Ω)(j:Nat)(o:ϑ)(B:Bool),bh w' o r I G 0 i->cX [] w0 w'->bC [] o w0->Row w' l (aN (ci H)) 33->Row w' g (aN (ci (aU H))) 33->Row w' j (aN (ci i)) 33->l∉o->g∉o->j∉o->B=(i 3 []).isSome->
   af.eM E [6] 11 (xo sv sx x) (.code ab::t) R (pS (undef::u 1::undef::rn u 3 4 (.pointer (some ⟨s,0,none⟩)::.pointer (some ⟨l,0,none⟩)::rn u 9 6 (.pointer (some ⟨g,0,none⟩)::rn u 16 4 (.bool ev::.pointer (some ⟨r,0,none⟩)::.pointer (some ⟨j,0,none⟩)::u 23::.bool B::rn u 25 3 (undef::rn u 29 160 (undef::rn u 190 51 []))))))) w'):
  af.eM E [6] 11 (xo sv sx x) (.code ad::t) R (pS (undef::u 1::undef::rn u 3 4 (.pointer (some ⟨s,0,none⟩)::.pointer (some ⟨l,0,none⟩)::.bool true::rn u 10 5 (.pointer (some ⟨g,0,none⟩)::u 16::.int .i64 gC::u 18::u 19::.bool ev::.pointer (some ⟨r,0,none⟩)::rn u 22 6 (undef::rn u 29 160 (undef::rn u 190 51 [])))))) wL:=by
 obtain rfl:=(ac2 hc).symm;obtain rfl:=(ac2 ac).symm;clear hc ac;simp only[rn,pS];refine af.aW ?_
 refine af.aX none gp ⟨_,func11⟩ (λw=>bh w A r I G 0 i/\cX [] w0 w/\Row w l (aN (ci H)) 33/\Row w g (aN (ci (aU H))) 33) (λw t k h=>⟨h.1.ax t k,h.2.1.tape t k,h.2.2.1,h.2.2.2⟩) ⟨a,d,c,b⟩ λa1 C n=>?_
 clear a d c b n;obtain⟨a,d,c,b⟩:=C;go_wp2_with fail;refine a.seen.mono ?_;rintro e av ⟨rfl,QP⟩;replace a:=a.new QP;replace d:=d.trans QP.blk;replace c:=QP.row c;replace b:=QP.row b;clear QP;go_wp2_with (with_reducible first|refine aA rfl ?_|refine ai 33 rfl ?_)
 refine bj rfl 33 rfl _ iH ?_;intro a6 j ag S Q;go_wp2_with (with_reducible refine ai 33 rfl ?_);refine fX rfl 33 _ _ rfl j rfl (aN (ci (i))) rfl (cB _) (nX _) _ _ Q (by rw[cM,dI];rfl) ?_;intro ar Y f;have V:aQ [] av ar:=S.trans Y (by simpa using ag)
 have aq:j∉A/\r≠j:=⟨λhF=>by have:=a.store.disk.lt j hF;omega,by have:=a.store.row.lt;omega⟩
 clear S Y Q ag;replace a:=a.new V;replace d:=d.trans V.blk;replace c:=V.row c;replace b:=V.row b;clear V;go_wp2_with fail;have IX:j∉A:=aq.1;refine af.aW ?_
 refine af.aX none gp ⟨_,func11⟩ (λw=>bh w A r I G 0 i/\cX [] w0 w/\Row w l (aN (ci H)) 33/\Row w g (aN (ci (aU H))) 33/\Row w j (aN (ci (i))) 33) (λw t k h=>⟨h.1.ax t k,h.2.1.tape t k,h.2.2.1,h.2.2.2.1,h.2.2.2.2⟩) ⟨a,d,c,b,f⟩ λa2 C n=>?_
 clear a d c b f n;obtain⟨a,d,c,b,f⟩:=C;go_wp2_with (with_reducible refine au 33 rfl ?_);refine dD rfl 33 _ rfl j rfl cK (aN (ci (i))) _ f (cB _) ?_;go_wp2_with (with_reducible refine au 33 rfl ?_);refine dD rfl 33 _ rfl l rfl cK (aN (ci (H))) _ c (cB _) ?_
 go_wp2_with (with_reducible refine au 33 rfl ?_);refine dD rfl 33 _ rfl g rfl cK (aN (ci (aU H))) _ b (cB _) ?_;go_wp2_with fail;refine(xM i H (aU H) _ (λs p hs _=>wO h7 hP Kw ak s p hs)).mono ?_;rintro e aL ⟨rfl,O⟩;replace a:=a.new O;replace d:=d.trans O.blk
 replace c:=O.row c;replace b:=O.row b;replace f:=O.row f;clear O;go_wp2_with fail;refine af.aW ?_
 refine af.aX none gp ⟨_,func11⟩ (λw=>bh w A r I G 0 i/\cX [] w0 w/\Row w l (aN (ci H)) 33/\Row w g (aN (ci (aU H))) 33/\Row w j (aN (ci (i))) 33) (λw t k h=>⟨h.1.ax t k,h.2.1.tape t k,h.2.2.1,h.2.2.2.1,h.2.2.2.2⟩) ⟨a,d,c,b,f⟩ λaR C n=>?_
 clear a d c b f n;obtain⟨a,d,c,b,f⟩:=C;go_wp2_with fail;refine(a.Cw ϖ).mono ?_;rintro e wi ⟨rfl,⟨o,hS,g6⟩,f6⟩;have ao:l∉o:=λq=>(g6 l q).elim NT (λz=>by have:=c.lt;omega)
 have aw:g∉o:=λq=>(g6 g q).elim uO (λz=>by have:=b.lt;omega)
 have am:j∉o:=λq=>(g6 j q).elim IX (λz=>by have:=f.lt;omega)
 replace c:=f6.row c NT;replace b:=f6.row b uO;replace f:=f6.row f IX;have ae:=d.size;replace d:=d.trans f6.blk hg;have X:bh wi o r I G 0 i:=⟨hS,a.has,a.eight,ϖ⟩
 replace hg:bC [] o w0:=hg.trans g6 ae;clear a hS f6 g6 ae NT uO IX;have a:=X;clear X;generalize W:(i 3 []).isSome=B;go_wp2_with fail;have y:B=(i 3 []).isSome:=W.symm;have m:∃P xb:Bool,Hid ((ci i==ci H)=P)/\Hid ((ci i==ci (aU H))=xb)/\((ev=true/\B=false/\xb=true)\/(ev=false/\B=true)\/(ev=false/\B=false/\(P=true\/P=false/\xb=true))):=by
  refine⟨_,_,rfl,rfl,?_⟩;cases ev with
  |true=>exact .inl ⟨rfl,by rw[y,F rfl,kv Z];rfl,by rw[F rfl];simp⟩
  |false=>
   cases hz:i 3 [] with
   |some v=>exact .inr (.inl ⟨rfl,by rw[y,hz];rfl⟩)
   |none=>
    refine .inr (.inr ⟨rfl,by rw[y,hz];rfl,?_⟩);rw[<-aa hz];cases hq:(ci Kd==ci H) with
    |true=>exact .inl rfl
    |false=>
     refine .inr ⟨rfl,?_⟩;rcases Kw with q|q
     .rw[q] at hq;simp at hq
     .rw[q];simp
 clear W;obtain⟨P,xb,T,D,m⟩:=m;refine af.aW ?_
 refine af.rX gp ⟨_,func11⟩ ϰ (λu=>(pS (undef::u 1::undef::rn u 3 4 (.pointer (some ⟨s,0,none⟩)::.pointer (some ⟨l,0,none⟩)::rn u 9 6 (.pointer (some ⟨g,0,none⟩)::rn u 16 4 (.bool ev::.pointer (some ⟨r,0,none⟩)::.pointer (some ⟨j,0,none⟩)::u 23::.bool B::rn u 25 3 (undef::rn u 29 160 (undef::rn u 190 51 [])))))))) (λw=>bh w o r I G 0 i/\cX [] w0 w/\Row w l (aN (ci H)) 33/\Row w g (aN (ci (aU H))) 33/\Row w j (aN (ci (i))) 33) (λw t k h=>⟨h.1.ax t k,h.2.1.tape t k,h.2.2.1,h.2.2.2.1,h.2.2.2.2⟩) ⟨a,d,c,b,f⟩ (λan C n=>?_) λu an C=>?_
 .clear a d c b f n ak Kw aa F Z y h7 hP
  obtain⟨a,d,c,b,f⟩:=C;rcases m with⟨rfl,rfl,rfl⟩|⟨rfl,rfl⟩|⟨rfl,rfl,hk⟩
  .skip
   go_wp2_with (with_reducible refine au 33 rfl ?_);refine dE (dD rfl 33 _ rfl j rfl cK (aN (ci (i))) _ f (cB _) ?_);go_wp2_with (with_reducible refine au 33 rfl ?_);refine dE (dD rfl 33 _ rfl g rfl cK (aN (ci (aU H))) _ b (cB _) ?_)
   go_wp2_with fail;refine(kX (ci (i)) (ci (aU H)) (dI _) (dI _) _).mono ?_;rintro e a4 ⟨rfl,K⟩;rw[D.out];replace a:=a.new K;replace d:=d.trans K.blk;replace c:=K.row c;replace b:=K.row b;replace f:=K.row f;clear K;go_wp2_with (with_reducible refine au 33 rfl ?_)
   refine dE (dD rfl 33 _ rfl j rfl cK (aN (ci (i))) _ f (cB _) ?_);go_wp2_with (with_reducible refine au 33 rfl ?_);refine dE (dD rfl 33 _ rfl l rfl cK (aN (ci (H))) _ c (cB _) ?_);go_wp2_with fail
   refine(kX (ci (i)) (ci (H)) (dI _) (dI _) _).mono ?_;rintro e a0 ⟨rfl,J⟩;rw[T.out];replace a:=a.new J;replace d:=d.trans J.blk;replace c:=J.row c;replace b:=J.row b;replace f:=J.row f;clear J;cases P
   .skip
    go_wp2_with (with_reducible refine au 33 rfl ?_);refine dE (dD rfl 33 _ rfl j rfl cK (aN (ci (i))) _ f (cB _) ?_);go_wp2_with (with_reducible refine au 33 rfl ?_);refine dE (dD rfl 33 _ rfl g rfl cK (aN (ci (aU H))) _ b (cB _) ?_)
    go_wp2_with fail;refine(kX (ci (i)) (ci (aU H)) (dI _) (dI _) _).mono ?_;rintro e aB ⟨rfl,N⟩;rw[D.out];replace a:=a.new N;replace d:=d.trans N.blk;replace c:=N.row c;replace b:=N.row b;replace f:=N.row f;clear N;go_wp2_with fail
    all_goals first|exact⟨rfl,⟨a,d,c,b,f⟩,ϰ⟩|kernel_rfl
   .skip
    go_wp2_with fail
    all_goals first|exact⟨rfl,⟨a,d,c,b,f⟩,ϰ⟩|kernel_rfl
  .skip
   go_wp2_with fail
   all_goals first|exact⟨rfl,⟨a,d,c,b,f⟩,ϰ⟩|kernel_rfl
  .skip
   go_wp2_with (with_reducible refine au 33 rfl ?_);refine dE (dD rfl 33 _ rfl j rfl cK (aN (ci (i))) _ f (cB _) ?_);go_wp2_with (with_reducible refine au 33 rfl ?_);refine dE (dD rfl 33 _ rfl l rfl cK (aN (ci (H))) _ c (cB _) ?_);go_wp2_with fail
   refine(kX (ci (i)) (ci (H)) (dI _) (dI _) _).mono ?_;rintro e a3 ⟨rfl,L⟩;rw[T.out];replace a:=a.new L;replace d:=d.trans L.blk;replace c:=L.row c;replace b:=L.row b;replace f:=L.row f;clear L;rcases hk with rfl|⟨rfl,rfl⟩
   .skip
    go_wp2_with fail
    all_goals first|exact⟨rfl,⟨a,d,c,b,f⟩,ϰ⟩|kernel_rfl
   .skip
    go_wp2_with (with_reducible refine au 33 rfl ?_);refine dE (dD rfl 33 _ rfl j rfl cK (aN (ci (i))) _ f (cB _) ?_);go_wp2_with (with_reducible refine au 33 rfl ?_);refine dE (dD rfl 33 _ rfl g rfl cK (aN (ci (aU H))) _ b (cB _) ?_)
    go_wp2_with fail;refine(kX (ci (i)) (ci (aU H)) (dI _) (dI _) _).mono ?_;rintro e a5 ⟨rfl,M⟩;rw[D.out];replace a:=a.new M;replace d:=d.trans M.blk;replace c:=M.row c;replace b:=M.row b;replace f:=M.row f;clear M;go_wp2_with fail
    all_goals first|exact⟨rfl,⟨a,d,c,b,f⟩,ϰ⟩|kernel_rfl
 clear a d c b f;obtain⟨a,d,c,b,f⟩:=C;exact U u _ j o B a d hg c b f ao aw am y
theorem af.KN {Ok:af.Env}{r:ϑ}{f:ac0}{D:kU}{k:ϕ}{R:ϝ}{a:Act}{wL:Ω}{ops:Ϙ}{i:Nat}{rest:ϑ}{o:Oper}(t:η)(x:ab7)(m:ops[i]? =some o)(e:o.op= .load t x)(tO:ft (sl D) af.PP S0 E0 true o=true)(hg:o.guard=none)(ha:(af.PP.underlying t).map (λd=>match d with|.struct _|.array _ _=>true|_=>false)=some true){c:ϐ}(j:(af.PP.info? t).map (·.size)=some c.size)(h0:0<c.size)(b:Nat)(g:a.eval x= .pointer (some ⟨b,0,none⟩)){u:η}(hr:Row wL b c u)(h:af.eM Ok r f D (.inRegion ops rest::k) R (a.put o.dst (.agg c)) wL):af.eM Ok r f D (.inRegion ops (i::rest)::k) R a wL:=
 af.gz (w1:=wL) (.agg c) m (tO:=tO) hg (λt' d=>(DE (w:=ax wL t' d) (ob:= .cells c u (0,0)) ha j h0 hr (λ_ l=>Row.range l) a e g).1) h
def acd:Option Code:=Vh.bind λc=>(ez c).bind ez
open aI aI.Sq in
theorem amz {E:af.Env}{w0 wL:Ω}{sv:Φ}(g:Ϡ)(b:Nat)(l2:List (Int×Int))(X:AJ E.K g l2)(T:l2.length<=9223372036854775807){x u:Ϟ}{s e a c:Nat}{ev G:Bool}{n d5:Nat}{o:ϑ}{Z:ϓ}{H F Kd:aZ}{ps:List (List Γ)}{t:ϕ}{R:ϝ}{B D:Code}(V:Vh=some B)(C:acd=some D)
  (m:bh wL o n d5 Z 0 F) (l:cX [] w0 wL) (hg:bC [] o w0) (j:Row wL e (aN (ci H)) 33) (f:Row wL a (aN (ci (aU H))) 33) (i:Row wL c (aN (ci F)) 33) (J:e∉o) (L:a∉o) (S:c∉o) (W:bF H) (hP:fV H ps) (U:mO H (cz H ps) Kd F) (vA:bF Kd) (Kw:Kd=H\/Kd=aU H)
  (r:∀(x u:Ϟ)(w':Ω)(s' I:Nat)(F':ϑ)(L':ϓ)(a':Int),bh w' F' s' I L' a' Kd->a'<=200000->cX [] w0 w'->bC [] F' w0->Row w' a (aN (ci (aU H))) 33->Row w' c (aN (ci F)) 33->a∉F'->c∉F'->
   af.eM E [6] 11 (xo sv (.slice g l2.length b) x) (.code D::t) R (pS (undef::u 1::undef::rn u 3 12 (.pointer (some ⟨a,0,none⟩)::rn u 16 5 (.pointer (some ⟨s',0,none⟩)::.pointer (some ⟨c,0,none⟩)::u 23::.bool G::rn u 25 3 (undef::rn u 29 160 (undef::rn u 190 51 [])))))) w'):
  af.eM E [6] 11 (xo sv (.slice g l2.length b) x) (.code B::t) R (pS (undef::u 1::undef::rn u 3 4 (.pointer (some ⟨s,0,none⟩)::.pointer (some ⟨e,0,none⟩)::rn u 9 6 (.pointer (some ⟨a,0,none⟩)::rn u 16 4 (.bool ev::.pointer (some ⟨n,0,none⟩)::.pointer (some ⟨c,0,none⟩)::u 23::.bool G::rn u 25 3 (undef::rn u 29 160 (undef::rn u 190 51 []))))))) wL:=by
 obtain rfl:=(ac2 V).symm;obtain rfl:=(ac2 C).symm;clear V C;simp only[rn,pS];refine af.aW (af.fC ?_);refine af.fi _ rfl (.inr rfl) rfl ?_;refine af.KN 33 (.tmp 8) rfl rfl ϰ rfl ϰ (cB _) (by rw[cM,dI];omega) e rfl j ?_
 refine af.KN 33 (.tmp 15) rfl rfl ϰ rfl ϰ (cB _) (by rw[cM,dI];omega) a rfl f ?_;refine af.jy 189 (.slice g l2.length b) rfl rfl rfl (by simp[sl,xo,af.lI]) (by simp[sl,xo,af.lI]) (λπ w=>ϰ) ?_
 refine af.Np (f2:=37) (xx:=[.pointer (some ⟨n,0,none⟩)]) (λπ=>#[Value.ren π (.pointer (some ⟨n,0,none⟩)),Value.ren π (.agg (aN (ci H))),Value.ren π (.agg (aN (ci (aU H)))),.slice g l2.length b]) (R2:=JE o Kd wL) rfl rfl (dG ϰ) (λπ w=>ϰ) (λv hv=>⟨.tmp 186,rfl,by rw[ae1.1 hv];kernel_rfl⟩)
  (by simp only[O5,show ∀π,Value.ren π (.pointer (some ⟨n,0,none⟩))= .pointer (some ⟨π n,0,none⟩) fromλπ=>by simp[bn]];exact Bu g b l2 X T m U W vA ϖ λK hk s p hs _=>wO W hP Kw hk s p hs) λv w' hR _=>?_
 obtain⟨s',I,F',L',a',rfl,y,O,gY,A⟩:=hR;have ab:e∉F':=λq=>(gY e q).elim J (λz=>by have:=j.lt;omega)
 have M:a∉F':=λq=>(gY a q).elim L (λz=>by have:=f.lt;omega)
 have Q:c∉F':=λq=>(gY c q).elim S (λz=>by have:=i.lt;omega)
 replace j:=A.row j J;replace f:=A.row f L;replace i:=A.row i S;have P:bC [] F' w0:=hg.trans gY l.size;replace l:=l.trans A hg;clear m gY A J L S;have m:=y;clear y
 refine af.fi _ rfl (.inr rfl) rfl (af.gz (w1:=w') (.pointer (some ⟨s',0,none⟩)) rfl rfl (λt d=>ϰ) (af.gz (w1:=w') (.bool true) rfl rfl (λt d=>ϰ) ?_));refine af.fi _ rfl (.inl rfl) rfl (af.fi _ rfl (.inl rfl) rfl (af.ej ?_))
 refine af.dz (λu=>(pS (undef::u 1::undef::rn u 3 5 (.pointer (some ⟨e,0,none⟩)::.bool true::rn u 10 5 (.pointer (some ⟨a,0,none⟩)::rn u 16 4 (.bool ev::.pointer (some ⟨s',0,none⟩)::.pointer (some ⟨c,0,none⟩)::u 23::.bool G::rn u 25 3 (undef::rn u 29 160 (undef::rn u 190 51 [])))))))) λu=>?_
 simp only[rn,pS];refine jz (λx=>xo (sv) (.slice g l2.length b) x) λx=>?_
 refine af.aW ?_;refine af.aX none gp ⟨_,func11⟩ (λw=>bh w F' s' I L' a' Kd/\cX [] w0 w/\Row w e (aN (ci H)) 33/\Row w a (aN (ci (aU H))) 33/\Row w c (aN (ci F)) 33) (λw t k h=>⟨h.1.ax t k,h.2.1.tape t k,h.2.2.1,h.2.2.2.1,h.2.2.2.2⟩) ⟨m,l,j,f,i⟩ λaa Y N=>?_
 clear m l j f i N;obtain⟨m,l,j,f,i⟩:=Y;go_wp2_with fail;refine af.dz (λu=>(pS (undef::u 1::undef::rn u 3 12 (.pointer (some ⟨a,0,none⟩)::rn u 16 5 (.pointer (some ⟨s',0,none⟩)::.pointer (some ⟨c,0,none⟩)::u 23::.bool G::rn u 25 3 (undef::rn u 29 160 (undef::rn u 190 51 []))))))) λu=>?_
 exact r x u _ s' I F' L' a' m O l P f i M Q
open aI aI.Sq in
theorem amy {E:af.Env}{w0 wL:Ω}{sv sx:Φ}{x u:Ϟ}{s d i V:Nat}{pn:Bool}{F:ϑ}{L:ϓ}{a:Int}{H p Kd:aZ}{U:Code}(hc:acd=some U)
  (c:bh wL F s d L a Kd) (ha:a<=200000) (g:cX [] w0 wL) (hg:bC [] F w0) (hG:pJ w0) (f:Row wL i (aN (ci (aU H))) 33) (j:Row wL V (aN (ci p)) 33) (uO:i∉F) (vA:bF Kd) (Kw:Kd=H\/Kd=aU H) (P:p 3 []=none->Kd=p) (K:p 3 []≠none->Kd=aU H) (C:pn=(p 3 []).isSome):
  af.eM E [6] 11 (xo sv sx x) [.code U] (acy 6 w0) (pS (undef::u 1::undef::rn u 3 12 (.pointer (some ⟨i,0,none⟩)::rn u 16 5 (.pointer (some ⟨s,0,none⟩)::.pointer (some ⟨V,0,none⟩)::u 23::.bool pn::rn u 25 3 (undef::rn u 29 160 (undef::rn u 190 51 [])))))) wL:=by
 obtain rfl:=(ac2 hc).symm;clear hc;simp only[rn,pS];have o:(pn=true/\Hid ((ci Kd==ci (aU H))=true))\/(pn=false/\Hid ((ci Kd==ci p)=true)):=by
  cases hz:p 3 [] with
  |some v=>exact .inl ⟨by rw[C,hz];rfl,by show _=_;rw[K (by rw[hz];simp)];simp⟩
  |none=>exact .inr ⟨by rw[C,hz];rfl,by show _=_;rw[P hz];simp⟩
 have A:Hid (aU Kd=aU H):=by
  show _=_;rcases Kw with q|q
  .rw[q]
  .rw[q,EB]
 clear P K C Kw;refine af.aW ?_;refine af.aX none gp ⟨_,func11⟩ (λw=>bh w F s d L a Kd/\cX [] w0 w/\Row w i (aN (ci (aU H))) 33/\Row w V (aN (ci p)) 33) (λw t k h=>⟨h.1.ax t k,h.2.1.tape t k,h.2.2.1,h.2.2.2⟩) ⟨c,g,f,j⟩ λav z l=>?_
 clear c g f j l;obtain⟨c,g,f,j⟩:=z;go_wp2_with fail;refine c.seen.mono ?_;rintro e ae ⟨rfl,N⟩;replace c:=c.new N;replace g:=g.trans N.blk;replace f:=N.row f;replace j:=N.row j;clear N;go_wp2_with (with_reducible first|refine aA rfl ?_|refine ai 33 rfl ?_)
 refine bj rfl 33 rfl _ iH ?_;intro an y W O Q;go_wp2_with (with_reducible refine ai 33 rfl ?_);refine fX rfl 33 _ _ rfl y rfl (aN (ci (Kd))) rfl (cB _) (nX _) _ _ Q (by rw[cM,dI];rfl) ?_;intro aa Z m;have r:aQ [] ae aa:=O.trans Z (by simpa using W)
 clear O Z Q W;replace c:=c.new r;replace g:=g.trans r.blk;replace f:=r.row f;replace j:=r.row j;clear r;go_wp2_with fail;refine af.aW ?_
 refine af.rX gp ⟨_,func11⟩ ϰ (λu=>(pS (undef::u 1::undef::rn u 3 12 (.pointer (some ⟨i,0,none⟩)::rn u 16 5 (.pointer (some ⟨s,0,none⟩)::rn u 22 6 (undef::rn u 29 160 (undef::rn u 190 51 []))))))) (λw=>bh w F s d L a Kd/\cX [] w0 w/\Row w i (aN (ci (aU H))) 33/\Row w V (aN (ci p)) 33/\Row w y (aN (ci (Kd))) 33) (λw t k h=>⟨h.1.ax t k,h.2.1.tape t k,h.2.2.1,h.2.2.2.1,h.2.2.2.2⟩) ⟨c,g,f,j,m⟩ (λM z l=>?_) λu M z=>?_
 .clear c g f j m l A
  obtain⟨c,g,f,j,m⟩:=z;rcases o with⟨rfl,he⟩|⟨rfl,he⟩
  .skip
   go_wp2_with (with_reducible refine au 33 rfl ?_);refine dE (dD rfl 33 _ rfl y rfl cK (aN (ci (Kd))) _ m (cB _) ?_);go_wp2_with (with_reducible refine au 33 rfl ?_);refine dE (dD rfl 33 _ rfl i rfl cK (aN (ci (aU H))) _ f (cB _) ?_)
   go_wp2_with fail;refine(kX (ci (Kd)) (ci (aU H)) (dI _) (dI _) _).mono ?_;rintro e ak ⟨rfl,I⟩;rw[he.out];replace c:=c.new I;replace g:=g.trans I.blk;replace f:=I.row f;replace j:=I.row j;replace m:=I.row m;clear I;go_wp2_with fail
   all_goals first|exact⟨rfl,⟨c,g,f,j,m⟩,ϰ⟩|kernel_rfl
  .skip
   iterate 24 (first|go_skip|go_guarded|go_step|go_upon|go_back)
   go_wp2_with (with_reducible refine au 33 rfl ?_);refine dE (dD rfl 33 _ rfl y rfl cK (aN (ci (Kd))) _ m (cB _) ?_);go_wp2_with (with_reducible refine au 33 rfl ?_);refine dE (dD rfl 33 _ rfl V rfl cK (aN (ci (p))) _ j (cB _) ?_)
   go_wp2_with fail;refine(kX (ci (Kd)) (ci (p)) (dI _) (dI _) _).mono ?_;rintro e aw ⟨rfl,G⟩;rw[he.out];replace c:=c.new G;replace g:=g.trans G.blk;replace f:=G.row f;replace j:=G.row j;replace m:=G.row m;clear G;go_wp2_with fail
   all_goals first|exact⟨rfl,⟨c,g,f,j,m⟩,ϰ⟩|kernel_rfl
 clear c g f j m o;obtain⟨c,g,f,j,m⟩:=z;simp only[rn,pS];clear j m;replace c:=c.calm vA;refine af.aW (af.fC ?_);refine af.fi _ rfl (.inr rfl) rfl ?_
 refine af.qX (f2:=31) #[.tmp 222] #[.pointer (some ⟨s,0,none⟩)] (R2:=sV F s d 200 (DS.calm L a) M) rfl rfl ϰ ϰ (dG ϰ) (λb w=>ϰ) ϰ (vn c.store (hG.blk g ϛ) (hg.nil hG) (c.ok ϖ)) λv ws hR _=>?_
 obtain⟨ps,cv,G2,M2,k2,rfl,hP,B,ab,NW,_,_,_,S,_,ag⟩:=c.synced hR;rw[A.out] at B;replace f:=NW.row f uO;replace g:cX [] w0 ws:=qL hg NW g;obtain⟨Nu,wI,MK⟩:=ce S;subst MK;clear hR c hg ab NW S ag hP A;have c:=B;clear B
 refine af.fi _ rfl (.inr rfl) rfl (af.gz (w1:=ws) (.agg #[.int .i64 (cz Kd ps).length,.slice Nu (qV Kd ps).length wI]) rfl rfl (λt d=>ϰ) (af.gz (w1:=ws) (.int .i64 0) rfl rfl (λt d=>ϰ) ?_));refine af.fi _ rfl (.inl rfl) rfl (af.ej ?_)
 refine af.dz (λu=>(pS (undef::u 1::undef::rn u 3 10 (.int .i64 0::u 14::.pointer (some ⟨i,0,none⟩)::rn u 16 5 (.pointer (some ⟨s,0,none⟩)::rn u 22 6 (undef::rn u 29 160 (undef::rn u 190 51 []))))))) λu=>?_
 simp only[rn,pS];refine jz (λx=>xo (sv) (sx) x) λx=>?_
 refine af.aW ?_;refine af.aX none gp ⟨_,func11⟩ (λw=>bq w G2 s d M2 (a+k2) (aU H)/\cX [] w0 w/\Row w i (aN (ci (aU H))) 33) (λw t k h=>⟨h.1.ax t k,h.2.1.tape t k,h.2.2⟩) ⟨c,g,f⟩ λaq z l=>?_
 clear c g f l;obtain⟨c,g,f⟩:=z;go_wp2_with fail;refine c.seen.mono ?_;rintro e ac ⟨rfl,U5⟩;replace c:=c.new U5;replace g:=g.trans U5.blk;replace f:=U5.row f;clear U5;go_wp2_with (with_reducible first|refine aA rfl ?_|refine ai 33 rfl ?_);refine bj rfl 33 rfl _ iH ?_;intro am D R Y X
 go_wp2_with (with_reducible refine ai 33 rfl ?_);refine fX rfl 33 _ _ rfl D rfl (aN (ci (aU H))) rfl (cB _) (nX _) _ _ X (by rw[cM,dI];rfl) ?_;intro ad T n;have r:aQ [] ac ad:=Y.trans T (by simpa using R);clear Y T X R;replace c:=c.new r;replace g:=g.trans r.blk
 replace f:=r.row f;clear r;go_wp2_with fail;refine af.aX none gp ⟨_,func11⟩ (λw=>bq w G2 s d M2 (a+k2) (aU H)/\cX [] w0 w/\Row w i (aN (ci (aU H))) 33/\Row w D (aN (ci (aU H))) 33) (λw t k h=>⟨h.1.ax t k,h.2.1.tape t k,h.2.2.1,h.2.2.2⟩) ⟨c,g,f,n⟩ λao z l=>?_
 clear c g f n l;obtain⟨c,g,f,n⟩:=z;go_wp2_with (with_reducible refine au 33 rfl ?_);refine dE (dD rfl 33 _ rfl D rfl cK (aN (ci (aU H))) _ n (cB _) ?_);go_wp2_with (with_reducible refine au 33 rfl ?_)
 refine dE (dD rfl 33 _ rfl i rfl cK (aN (ci (aU H))) _ f (cB _) ?_);go_wp2_with fail;refine(kX (ci (aU H)) (ci (aU H)) (dI _) (dI _) _).mono ?_;rintro e ar ⟨rfl,J⟩;rw[show(ci (aU H)==ci (aU H))=true by simp];replace c:=c.new J;replace g:=g.trans J.blk
 replace f:=J.row f;replace n:=J.row n;clear J;go_wp2;exact Te ϰ g
open aI aI.Sq in
theorem GV {E:af.Env}{wL:Ω}(ad:Ϡ)(cap:Nat)(l:List rj)(h:KY E.K ad l)(A V:Int)(S:-9223372036854775808<=A/\A<=9223372036854775807)(z:Ϡ)(c:Nat)(l2:List (Int×Int))(h2:AJ E.K z l2)(U:l2.length<=9223372036854775807)(B:pJ wL){X:Code}(I:Tryz.f11.body=some X):
  af.eM E [6] 11 (xo (.slice ad l.length cap) (.slice z l2.length c) λ_=>undef) [.code X] (acy 6 wL) (pA A V) wL:=by
 obtain⟨ac,r⟩:=Option.isSome_iff_exists.1 (show Vk.isSome=true by kernel_rfl);obtain⟨Z,n⟩:=Option.isSome_iff_exists.1 (show Vj.isSome=true by kernel_rfl);obtain⟨ae,q⟩:=Option.isSome_iff_exists.1 (show Vi.isSome=true by kernel_rfl);obtain⟨ab,j⟩:=Option.isSome_iff_exists.1 (show Vh.isSome=true by kernel_rfl)
 obtain⟨ag,k⟩:=Option.isSome_iff_exists.1 (show acd.isSome=true by kernel_rfl);refine amD ad z cap c l l2 h A V B I r λx u w1 s d b4 b8 aa N dd F L a H ps hC f hg ha r4 g e n4 i b P W o G T m=>?_
 refine amC S r n hC f hg r4 g e n4 i b W T trivial λu w2 gC w hD f r4 g e hL R C=>?_
 refine amB (b4:=b4) (dd:=dd) n q hD f hg B g e i b W w C ha hL R o G P m λu w3 ev s5 d5 F5 L5 K2 Kd v f hg g e i b y Y Q p D K=>?_
 refine amA (gC:=gC) q j v f hg g e i b R P y Q p K o λu w4 oE F6 pn v f hg g e J i b t O=>?_
 refine amz z c l2 h2 U j k v f hg g e J i b t R P y Y Q λx u w5 s6 d6 F7 L7 a7 v M f hg e J b t=>?_
 exact amy k v M f hg B e J b Y Q p D O
end
section
open Go.ChangeShapes Go.WideShapes Go.ChangeAt Go.RowKit Go.Deep Go.Joins Go.Lib Go.Conc Go.ConcM
theorem pq {n:Int}(h:(Lit.int .i64 n).wf=true):pr n:=by
 unfold pr;simp[Lit.wf] at h;exact h
section
variable {H:Type}{enc:η×Φ->H}{w:Ω}{base:Nat}{spare:Nat->Bool}{held:Bool}
theorem wE:prog.cellsOf 24=4:=ϰ
theorem CN:prog.cellsOf 3=1:=ϰ
theorem xQ {a:Nat}{cs:ϡ}{x:DataW H×List MemPlace}(h:DataW.trod enc prog w base spare held a 24 cs=some x):∃y:rj,y.Ok/\cs=y.cells.toList:=by
 obtain⟨m,r,p,q,n,l,b,h0,h1,h2,d⟩:=trod_struct4 underlying24 h;rw[wE] at b;simp only[CN,vl] at h0 h1 h2 d
 match cs,b with
 |[c0,c1,c2,c3],_=>
  obtain⟨f,c,_,w0⟩:=DataW.trod_int underlying3 h0;obtain⟨k,e1,_,w1⟩:=DataW.trod_int underlying3 h1;obtain⟨j,e2,_,g⟩:=DataW.trod_int underlying3 h2;obtain⟨i,e,_,o⟩:=DataW.trod_string underlying9 d;simp at c e1 e2 e;subst c e1 e2 e;exact⟨⟨f,k,j,i⟩,⟨pq w0,pq w1,pq g⟩,rfl⟩
theorem nP:prog.cellsOf 26=2:=ϰ
theorem lu {a:Nat}{cs:ϡ}{x:DataW H×List MemPlace}(h:DataW.trod enc prog w base spare held a 26 cs=some x):∃d e,pr d/\cs=[.int .i64 d,.int .i64 e]:=by
 obtain⟨j,k,n,i,b,h0,h1⟩:=trod_struct2 underlying26 h;rw[nP] at b;simp only[CN] at h0 h1
 match cs,b with
 |[c0,c1],_=>
  obtain⟨f,c,_,w0⟩:=DataW.trod_int underlying3 h0;obtain⟨g,e1,_,w1⟩:=DataW.trod_int underlying3 h1;simp at c e1;subst c e1;exact⟨f,g,pq w0,rfl⟩
theorem DF {α:Type}{b:Nat->α->Prop}:∀n:Nat,(∀i,i<n->∃y,b i y)->∃l:List α,l.length=n/\∀i,(h:i<l.length)->b i l[i]
 |0,_=>⟨[],rfl,λi h=>by simp at h⟩
 |n+1,h=>by
  obtain⟨l,c,e⟩:=DF n λi d=>h i ϖ
  obtain⟨y,f⟩:=h n ϖ;refine⟨l++[y],by simp[c],λi d=>?_⟩
  by_cases a:i<l.length
  .rw[List.getElem_append_left a]
   exact e i a
  .have:i=n:=by simp at d;omega
   subst this;rw[List.getElem_append_right ϖ];simpa [c] using f
theorem Ec {W:Ω}{a:Ϡ}{len cap g:Nat}{x:DataW H×List MemPlace}(h:DataW.trod enc prog W 0 spare held g 22 [.slice a len cap]=some x):∃l:List rj,l.length=len/\RS W a l/\len<=cap/\cap<=maxLen:=by
 rcases open_slice underlying22 h with⟨hcs,_⟩|⟨ad,len',cap',m,n,D,Pl,hcs,_,hl,hm,hmm,_,hcell⟩
 .simp at hcs
  obtain⟨rfl,rfl,rfl⟩:=hcs;exact⟨[],rfl,λj e=>by simp at e,ϖ,ϖ⟩
 .simp at hcs
  obtain⟨rfl,rfl,rfl⟩:=hcs;have B:len<=m:=by rw[hmm];split<;>omega
  have o:∀i,i<len->∃y:rj,y.Ok/\∃b off,some ad=some (⟨b,off,none⟩:Addr)/\W.rangeAt b (off+i*4) y.cells.toList:=by
   intro i C;obtain⟨u,h1,h2⟩:=hcell i ϖ;obtain⟨y,t,rfl⟩:=xQ h2;refine⟨y,t,?_⟩;obtain⟨_,c,s⟩:=World.cells?_some h1;rw[wE] at h1 c s;obtain⟨b,off,f⟩:=ad;have d:f=none:=by
    obtain⟨z,A,k2⟩:=hcell 0 ϖ;obtain⟨q,_,rfl⟩:=xQ k2;obtain⟨_,_,k3⟩:=World.cells?_some A;rw[wE] at k3;have:=World.cell?_spot ((k3 0 ϖ).trans (show q.cells.toList[0]? =some (.int .i64 q.kind) from rfl));simpa [Addr.add] using this
   subst d;refine⟨b,off,rfl,λj v e=>?_⟩;have p:j<4:=by
    have:=(List.getElem?_eq_some_iff.1 e).1;rw[c] at this;exact this
   have r:=s j p;rw[Addr.add_mid,Addr.add_mid,e] at r;exact r
  obtain⟨l,k,w⟩:=DF len o;exact⟨l,k,λj e=>w j e,hl,hm⟩
end
theorem Ln:((begin prog (λ_ _=>0) default).world.heap[0]?).bind Obj.row? =some (#[.int .i64 0],3):=ϰ
theorem AY:prog.globals.size=1:=ϰ
theorem Au:prog.cellTypes prog.depth 3=some [3]:=ϰ
def AI (w:Ω):Prop:=∃c t f,w.heap[0]? =some (.cells c t f)/\∀v∈c,∃q,v= .int .i64 q/\c.size=1
theorem AI.Bg {w:Ω}(h:AI w):pJ w:=by
 obtain⟨c,t,f,h1,h2⟩:=h;refine⟨c,t,f,h1,λv hv r hr=>?_⟩;obtain⟨q,rfl,_⟩:=h2 v hv;cases hr
theorem z0 {w:Ω}(h:w.ShapedOpen prog):AI w:=by
 obtain⟨cs,h1,h2,d⟩:=h.1 0 _ _ (by rw[AY];omega) Ln;obtain⟨f,e1,_,e⟩:=d ϰ;rw[Au] at e1;obtain rfl:=ac2 e1;refine⟨cs,_,_,h1,λv hv=>?_⟩;obtain⟨i,c,rfl⟩:=Array.mem_iff_getElem.1 hv;obtain⟨u,b,a⟩:=e i cs[i] (by simp[c]);have:u=3:=by
  simp only[List.length_singleton,Nat.mod_one] at b;simpa using b.symm
 subst this;unfold Cell.ok at a;rw[show prog.underlying 3=some (.int .i64) by kernel_rfl] at a;generalize cs[i]=x at a;cases x<;>simp at a;rename_i k n;exact⟨n,by rw[a.1],by simpa using h2⟩
def hide (W:Ω):Ω:={W with heap:=W.heap.mapIdx λb o=>if b=0 then o else .cells #[] 1000000 (0,0)}
def hidden (W:Ω)(b:Nat):Prop:=b<W.heap.size/\b≠0
theorem jg (W:Ω):(hide W).heap.size=W.heap.size:=by simp[hide]
theorem uN (W:Ω)(b:Nat):(hide W).heap[b]? =(W.heap[b]?).map λo=>if b=0 then o else .cells #[] 1000000 (0,0):=by simp[hide]
theorem MI {W:Ω}(h:pJ W):pJ (hide W):=by
 obtain⟨c,t,f,h1,h2⟩:=h;exact⟨c,t,f,by rw[uN,h1];simp,h2⟩
theorem PN {W:Ω}(h:pJ W):Link (hidden W) af.no (λb=>b<W.heap.size) af.no id (hide W) W:=by
 obtain⟨c,t,f,h1,h2⟩:=h;have h0:=(Ψ.1 h1).1;have g:∀b o,(hide W).heap[b]? =some o->¬hidden W b->b=0/\o= .cells c t f:=λb o a n=>by
  have l:b<W.heap.size:=by rw[<-jg];exact(Ψ.1 a).1
  have j:b=0:=ac9 λq=>n ⟨l,q⟩
  subst j;rw[uN,h1] at a;simp at a;exact⟨rfl,a.symm⟩
 have k:∀b o,(hide W).heap[b]? =some o->hidden W b->o= .cells #[] 1000000 (0,0):=λb o a d=>by
  rw[uN,τ d.1,ξ,ζ d.2] at a;exact(ac2 a).symm
 have low:∀b,hidden W b\/af.no b->b<(hide W).heap.size:=λb a=>by rw[jg];exact a.elim (·.1) False.elim
 have p:iG (hidden W) (hide W) 0:=⟨by rw[jg];exact h0,λq=>q.2 rfl⟩
 refine⟨λ_ _ e=>e,rfl,λb a=>by rw[jg] at a;exact a,⟨λb o a d _=>?_,k,λb o _ j=>j.elim,low,λb j=>j.elim,p,λb o a d r hr=>?_⟩,⟨λ_ _ e=>e,rfl,rfl,λb a _=>by
  have a:b<(hide W).heap.size:=a;rw[jg] at a;exact a,λb o a d _=>?_,k,λb o _ j=>j.elim,low,λb o a i m=>?_⟩,λb a _=>by rw[<-jg];exact a.1,λb j=>j.elim⟩
 .obtain⟨rfl,rfl⟩:=g b o a d
  trivial
 .obtain⟨rfl,rfl⟩:=g b o a d
  cases hr with
  |cells hv hr=>exact absurd hr (h2 _ hv r)
 .obtain⟨rfl,rfl⟩:=g b o a d
  refine⟨trivial,?_⟩;show W.heap[0]? =_;rw[h1];rw[qy λr hr=>by cases hr with|cells hv hr=>exact absurd hr (h2 _ hv r)]
 .by_cases d:hidden W b
  .have:=k b o a d
   subst this;exact m.elim
  .obtain⟨rfl,rfl⟩:=g b o a d
   exact m.elim
theorem IF {W:Ω}(h:pJ W)(K:Nat->Option Obj)(h0:K 0=none):Link (hidden W) af.no (λb=>b<W.heap.size/\K b=none) af.no id (hide W) W:=by
 have a:=PN h;refine⟨a.inj,a.zero,a.lt,a.lw,a.wr,λb hv d=>⟨a.own b hv d,?_⟩,a.ro⟩;have c:b=0:=ac9 λq=>hv.2 ⟨by have:=hv.1;rwa [jg] at this,q⟩
 subst c;exact h0
theorem oV {H:Type}{enc:η×Φ->H}{a:Assume}{os:Os}{f:ac0}{fn:Func}{s:ChangeSpec}{F:Stop.Interp}{conds:List PathCond}{apart fresh c:Bool}(own:ownKnob prog.godebug=none)(d:os.Started)(r:prog.funcs[f]? =some fn)(g:∃(w:Ω)(tape:Tape)(i:Input),w.os=os/\(w.forCall tape i).Shaped Tryz.checked.prog/\i.vars=[]/\Input.okWide Tryz.checked.prog (w.forCall tape i) .any w.heap.size f i/\
   s.pre6 enc Tryz.checked.prog fn conds apart (w.forCall tape i).memory i.args/\a.holds Tryz.checked.prog (lone (Frame.enter Tryz.checked.prog f i.args .normal) [] (w.forCall tape i)))(q:∀(W:Ω) (base:Nat) (args:ϐ) (p m:List (DataW H)) (b:List MemPlace),AI W->
   (∀(j:Nat) t v,fn.params[j]? =some t->args[j]? =some v->Value.okWide prog W .any base t v)->
   DataW.Whole enc prog fn.params.toList s.vars apart W args.toList p m b->
   conds.all (PathCond.test prog ⟨fn.params.toList,p,s.plain.varTypes prog,m⟩)=true->
   (DataW.weightsEach prog (fn.params.toList++s.plain.varTypes prog) (p++m)).all (·<=reachBytes)=true->
   af.RJ (λv A=>s.post enc prog fn apart fresh c false W args v {A with os:=W.os}/\OsLater W.os A.os) (solo (G (Frame.enter prog f args .normal) []) W) #[]):
  ReturnsInLeavingWide a Tryz.checked os f .any (s.pre6 enc Tryz.checked.prog fn conds apart) ((OpenSpec.ofChange s).postWith enc Tryz.checked.prog fn F (outsideKept [.timePasses]) apart fresh c):=by
 refine returnsInLeavingWide_of_good own d g ?_;intro w tape i _ u _ z k _;obtain⟨_,_,_,x,l,_,_,_,_,h⟩:=z;have e:x=fn:=ac2 (l.symm.trans r);subst e;obtain⟨⟨p,m,b,C,E⟩,I⟩:=k;have y:=DataW.Whole.of_heap (w':=w.forCall tape i) (by rfl) C
 obtain⟨N,n,o,w',t',D,r2,r3,v,e,B,r4⟩:=q (w.forCall tape i) w.heap.size i.args p m b (z0 u) h y E (I.weights C);exact⟨N,n,o,w',t',D,r2,r3,v,e,postWith_blind (postWith_of_post B.1 B.2),r4⟩
theorem PV:ownKnob prog.godebug=none:=ϰ
theorem wh:laidOutB prog=true:=ϰ
def K0 (W:Ω)(b:Nat):Option Obj:=if b=0 then none else W.heap[b]?
theorem af3 {W:Ω}(q:Nat)(o:Obj)(h:K0 W q=some o):W.heap[q]? =some o:=by
 unfold K0 at h;split at h
 .cases h
 .exact h
theorem acv {W:Ω}{ad:Ϡ}{l:List rj}(g:AI W)(h:RS W ad l):KY (K0 W) ad l:=λj i=>by
 obtain⟨h1,b,off,rfl,h2⟩:=h j i;have a:W.cell? ⟨b,off+j*4+3,none⟩=some (.string l[j].content):=h2 3 _ rfl;obtain⟨ob,e⟩:∃ob,W.heap[b]? =some ob:=by
  unfold World.cell? at a;cases m:W.heap[b]? with
  |none=>rw[m] at a;cases a
  |some ob=>exact⟨ob,rfl⟩
 have d:b≠0:=by
  rintro rfl;obtain⟨c,t,f,k,o⟩:=g;unfold World.cell? at a;rw[k] at a;simp only[Option.isSome_none,ν,if_false] at a;obtain⟨q,p,_⟩:=o _ (Array.mem_of_getElem? a);cases p
 exact⟨h1,b,off,rfl,ob,by unfold K0;rw[ζ d];exact e,λw n=>xj h2 e n⟩
section
variable {W bO w':Ω}{π:Nat->Nat}{own:Nat->Prop}
theorem FS {t:Go.Proofs.YtchcmhodnkgojaaGreat.eL}{d:Nat}(h:AI W)(i:cX [] (hide W) (ax bO t d))(b:Link (hidden W) af.no own af.no π bO w')(j:∀q o,K0 W q=some o->w'.heap[q]? =some o):∀k,k<W.heap.size->w'.heap[k]? =W.heap[k]? :=λk a=>by
 by_cases h0:k=0
 .subst h0
  obtain⟨c,t',f,g,l⟩:=h;have e1:bO.heap[0]? =(hide W).heap[0]? :=i.block 0 (by rw[jg];exact a) ϛ;rw[uN,g] at e1;simp only[ξ,if_true] at e1;have e2:=(b.wr.ok 0 _ e1 (λq=>q.2 rfl) id).2;rw[b.zero,qy λr hr=>by
   cases hr with
   |cells hv hr=>
    obtain⟨q,rfl,_⟩:=l _ hv;cases hr] at e2
  rw[e2,g]
 .have e:W.heap[k]? =some W.heap[k]:=τ a
  rw[j k W.heap[k] (by unfold K0;rw[ζ h0];exact e),e]
theorem tu {H:Type}{enc:η×Φ->H}{P:ω}{t:η}(i:laidOutB P=true)(hr:P.readableRec t=true)(c:t<P.types.size){W f:Ω}{v:Φ}{d:DataW H}{ps:List MemPlace}(h:DataW.Trod enc P W 0 (λ_=>true) true t v d ps)(g:∀k,k<W.heap.size->f.heap[k]? =W.heap[k]?)(a:∀x∈ps,x.block<W.heap.size):
  DataW.Trod enc P f 0 (λb=>decide (b<W.heap.size)) true t v d ps:=
 WideElems.Trod_stays i hr c h (λx e=>by
  cases x with
  |cell b o=>exact World.cell?_of_block (w:=W) (g b (a _ e))
  |map b=>exact g b (a _ e)) (λx e=>by simpa using a x e)
theorem FT {W w':Ω}(a:w'.os=W.os)(c:w'.output=W.output)(e:∀k,k<W.heap.size->w'.heap[k]? =W.heap[k]?)(b:MemPlace->Prop):W.keptBut w' b:=by
 refine⟨a,c,λi d=>?_⟩;rw[e i d];split<;>simp_all
end
end
end
end Go.Proofs.YtchcmhodnkgojaaGreat
