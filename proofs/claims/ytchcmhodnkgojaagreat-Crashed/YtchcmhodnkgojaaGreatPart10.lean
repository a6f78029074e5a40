/- On the way to the last text; put together and shortened by program. -/
import Derived.Test.YtchcmhodnkgojaaGreatPart9
import Derived.Handy
import Derived.Lib.AppendStr
import Derived.Sort.Walk0
import Derived.Laws.ResultCell
import Derived.BigQuiet
set_option linter.all false
set_option maxRecDepth 100000
set_option maxHeartbeats 8000000
open Go.Proofs.Tryz
namespace Go.Proofs.YtchcmhodnkgojaaGreat
open Value (ren)
open Region (wanted)
open Region (ready)
open Sem (run_bind)
open List (range)
open List (replicate)
noncomputable section
section
open Go.RowKit Go.Lib
structure Step (P:ω)(ops:Array Oper)(Q:Exit->Act->Ω->Prop)(n m:Nat)(l:List Nat)(i:Nat)(a:Act)(w:Ω):Prop where
 ex:∃oi,ops[i]? =some oi/\oi.guard=none/\∀K:Act->Ω->Prop,(∀a w,AK P ops Q n m (i::l) a w->K a w)->oi.wp P a w K Q
section
variable {P:ω}{ops:Array Oper}{Q:Exit->Act->Ω->Prop}{n m:Nat}{l:List Nat}{a:Act}{w:Ω}
def il (i:Nat){c:Oper}(e:ops[i]? =some c)(hg:c.guard=none)(b:Ϩ)(hd:c.dst=b)(v:Φ)(w1:Ω)(hr:(execOp a.eval c).run P w= .ok (.value v) w1)(h:AK P ops Q n m (i::l) (a.put b v) w1):Step P ops Q n m l i a w:=
 ⟨c,e,hg,λK d=>by
  subst hd;unfold Oper.wp;rw[hr];exact d _ _ h⟩
def Ot (i:Nat){c:Oper}(d:ops[i]? =some c)(hg:c.guard=none)(b:Ϩ)(hd:c.dst=b)(v:Φ)(hr:(execOp a.eval c).run P w= .ok (.value v) w)(h:AK P ops Q n m (i::l) (a.put b v) w):Step P ops Q n m l i a w:=il i d hg b hd v w hr h
def nV (i:Nat){b:Oper}(j:ops[i]? =some b)(hg:b.guard=none)(c:Ϩ)(hd:b.dst=c)(f:ac0)(args:ϐ)(hr:(execOp a.eval b).run P w= .ok (.enter f args) w)(R:Ending->Ω->Prop)(d:Calls P f args w R)(h:∀e w',R e w'->∃v,e= .returned v/\AK P ops Q n m (i::l) (a.put c v) w'):Step P ops Q n m l i a w:=
 ⟨b,j,hg,λK g=>by
  subst hd;unfold Oper.wp;rw[hr];simp only[Oper.upon];refine d.mono ?_;intro e w' k;obtain⟨v,rfl,hv⟩:=h e w' k;exact g _ _ hv⟩
def p8 (i:Nat){c:Oper}(g:ops[i]? =some c)(hg:c.guard=none)(b:Ϩ)(hd:c.dst=b)(f:ac0)(args:ϐ)(hr:(execOp a.eval c).run P w= .ok (.enter f args) w){v:Φ}(d:Calls P f args w λe w'=>e= .returned v/\w'=w)(h:AK P ops Q n m (i::l) (a.put b v) w):Step P ops Q n m l i a w:=
 nV i g hg b hd f args hr _ d (by rintro e w' ⟨rfl,rfl⟩;exact⟨_,rfl,h⟩)
def SA (i:Nat){b:Oper}(c:ops[i]? =some b)(hg:b.guard=none)(h:∀K:Act->Ω->Prop,(∀a w,AK P ops Q n m (i::l) a w->K a w)->b.wp P a w K Q):Step P ops Q n m l i a w:=⟨b,c,hg,h⟩
def JA (is:ϑ)(c:is≠[])(hr:ready .any ops (marks n l)=is)(b:∀i∈is,i<n)(h:∀i∈is,Step P ops Q n m l i a w):AK P ops Q n (m+1) l a w:=
 wpAny_all hr (by simpa using c) λi d=>by
  have⟨f,h1,h2,e⟩:=h i d;unfold wpOp;simp only[h1];rw[φ (by simp[wanted,h2])];exact .inl (e _ λa w x=>by rw[vX n i l (b i d)];exact x)
def eE (i:Nat)(h:Step P ops Q n m l i a w)(hr:ready .any ops (marks n l)=[i]:=by kernel_rfl)(b:i<n:=by omega):AK P ops Q n (m+1) l a w:=
 JA [i] ϛ hr (by simpa using b) (by simpa using h)
def ly (i j:Nat)(hr:ready .any ops (marks n l)=[i,j])(h1:Step P ops Q n m l i a w)(h2:Step P ops Q n m l j a w)(c:i<n:=by omega)(b:j<n:=by omega):AK P ops Q n (m+1) l a w:=
 JA [i,j] ϛ hr (by simp[c,b]) (by simp[h1,h2])
end
def ab2 {P:ω}{a:ab7->Φ}{w:Ω}{o:Oper}(t e:η)(size bytes:Nat)(E:Elem P t e size bytes)(x:ab7)(c:o.op= .buildSlice t 1 #[(0,x)])(b:size<=1000)(v:Φ)(d:a x=v)(hv:v.cells.size=size):
  (execOp a o).run P w= .ok (.value (.slice (some ⟨w.heap.size,0,none⟩) 1 1)) (w.alloc (.cells v.cells e)):=by
 have⟨i,z,h1,h2,h,f,g⟩:=E.open;exact wo t e x c E.slice i z v h1 h2 (by have:=E.pos;omega) ϖ d ϖ
def Oo {P:ω}{ops:Ϙ}{Q:ϔ}{n m:Nat}{l:ϑ}{a:Act}{w:Ω}(i:Nat){d:Oper}(k:ops[i]? =some d)(hg:d.guard=none)(c:Ϩ)(hd:d.dst=c)(t e:η)(size bytes:Nat)(E:Elem P t e size bytes)(x:ab7)(g:d.op= .buildSlice t 1 #[(0,x)])(f:size<=1000)(v:Φ)(j:a.eval x=v)(hv:v.cells.size=size)(h:∀b w',aQ [] w w'->Row w' b v.cells e->AK P ops Q n m (i::l) (a.put c (.slice (some ⟨b,0,none⟩) 1 1)) w'):Step P ops Q n m l i a w:=
 il i k hg c hd _ _ (ab2 t e size bytes E x g f v j hv) (h _ _ (aQ.alloc ..) (Row.new ..))
def Eb {P:ω}{ops:Ϙ}{Q:ϔ}{n m k:Nat}{l0:ϑ}{a:Act}{w:Ω}{Y:Type}(l:ϑ)(C:Y->Prop)(A:Y->Act->Act)(W:Y->Ω)(h:∀y,C y->AK P ops Q n m l (A y a) (W y))(t:(∀y b,marks n b=marks n l->C y->AK P ops Q n m b (A y a) (W y))->AK P ops Q n k l0 a w):AK P ops Q n k l0 a w:=
 t λy b c d=>by have:=h y d;unfold AK at this⊢;rw[c];exact this
def Pp {w:Ω}{b c:Nat}{e:η}{size:Nat}{v:Φ}{n:Nat}{xs:ϡ}(h:w.ownsRow b e size v n xs)(f:c<=b):w.ownsRow c e size v n xs:=by
 have⟨h1,h2⟩:=h;refine⟨h1,?_⟩;rcases h2 with h2|⟨g,cap,a,e1,e2,d⟩
 .exact .inl h2
 .exact .inr ⟨g,cap,a,e1,ϖ,d⟩
def Rq (s:Int)(p c:Ξ):prog.built 107 [(0,.agg (dH s p)),(1,.string c)]=some #[.int .i64 s,.string p,.string c]:=ϰ
def DS.tb (x:DS)(n s:Nat)(p c:Ξ):DS×Φ:=
 if x.failed then(x,.int .i64 3) else if x.pending n then(x,.int .i64 4)
 else if 7<kH (aO x n++[⟨s,p.data.toList,c.data.toList⟩]) then(x,.int .i64 6) else x.put n s p c
def BR (F:ϑ)(s d n:Nat)(x:DS)(b:Nat)(p c:Ξ)(w:Ω)(h:aE w F s d n x)(hx:x.Fit 5)(iA:x.waiting.length<55)(hs:b<=1)(hp:cL p.data.toList=true)(ar:p.size<=8)(aq:c.size<=96):
  Calls prog 39 #[.pointer (some ⟨s,0,none⟩),.int .i64 b,.string p,.string c] w λe w'=>e= .returned (x.tb n b p c).2/\(∃F',aE w' F' s d n (x.tb n b p c).1/\bC F F' w)/\aQ F w w':=by
 have G:Hid (x.tb n b p c=if x.failed then(x,.int .i64 3) else if x.pending n then(x,.int .i64 4) else if 7<kH (aO x n++[⟨b,p.data.toList,c.data.toList⟩]) then(x,.int .i64 6) else x.put n b p c):=rfl;have e1:((b:Int)==0||(b:Int)==1)=true:=by
  rcases(by omega:b=0\/b=1) with rfl|rfl<;>rfl
 go_enter func39,ntmps39;go_wp2_with fail;refine(gG F s d n x w h).mono ?_;rintro e w1 ⟨rfl,rfl⟩;go_wp2_with fail;refine(tx b w1).mono ?_;rintro e w2 ⟨rfl,rfl⟩;rw[e1];go_wp2_with fail;refine(mz p w2 ϖ).mono ?_;rintro e w3 ⟨rfl,f3⟩;rw[hp];have h3:=h.new f3;have ao:¬(c.size:Int)>96:=ϖ
 go_wp2_with fail;refine(nJ F s d n x w3 h3).mono ?_;rintro e w4 ⟨rfl,f4⟩;have h4:=h3.new f4;have fw:=f3.trans f4;cases hf:x.failed with
 |true=>
  rw[hf] at G;have f:Hid (x.tb n b p c=(x,.int .i64 3)):=by show _=_;rw[G.out];rfl
  simp only[if_true];go_wp2_with fail
  all_goals
   go_ret;rw[f.out];exact⟨rfl,⟨F,h4,bC.refl _ _⟩,fw.mono⟩
 |false=>
  rw[hf] at G;cases W:x.pending n with
  |true=>
   rw[W] at G;have f:Hid (x.tb n b p c=(x,.int .i64 4)):=by show _=_;rw[G.out];rfl
   simp only[if_true,ν,if_false];go_wp2_with fail
   all_goals
    go_ret;rw[f.out];exact⟨rfl,⟨F,h4,bC.refl _ _⟩,fw.mono⟩
  |false=>
   rw[W] at G;simp only[ν,if_false];go_wp2_with (with_reducible first|refine bM 103 rfl ?_|refine bM 107 rfl ?_|refine aA rfl ?_|refine ai 107 rfl ?_);refine cT rfl (.agg (dH b p)) w4 (iT _ _ rfl _ (Aw b p)) ?_
   go_wp2_with (with_reducible first|refine bM 107 rfl ?_|refine aA rfl ?_|refine ai 107 rfl ?_);refine cT rfl (.agg #[.int .i64 b,.string p,.string c]) w4 (iT _ _ rfl _ (Rq b p c)) ?_;go_wp2_with (with_reducible first|refine aA rfl ?_|refine ai 107 rfl ?_);refine bj rfl 107 rfl yE lP ?_
   intro w5 j l5 f5 r5;go_wp2_with (with_reducible first|refine aA rfl ?_|refine ai 107 rfl ?_);refine bQ rfl 107 _ _ rfl _ 0 rfl _ rfl 3 eZ ?_ ?_ _ _ r5 ?_ ?_
   .rfl
   .simp[Value.oneCell']
   .decide
   intro w6 f6 q6;rw[bL _ _ (by rfl)] at q6;have Za:Row w6 j #[.int .i64 b,.string p,.string c] 107:=q6;have M:=f5.trans f6 (by simpa using l5);have h6:=h4.new M;have tB:=fw.trans M;clear q6 r5 f5 f6 M h4 h3 l5;go_wp2_with fail;refine iq 10 rfl ?_;refine vu ?_;have fd:aQ [] w6 w6.drew:=aQ.drew _ _;have r:=h6.new fd
   have D:=fd.row Za;have B:=tB.trans fd;generalize w6.drew=A at r D B;clear fd h6 Za tB fw f3 f4;have fb:=B;replace B:aQ [] A A:=aQ.refl _ _;refine fh 0 (some 36) rfl rfl (λ_ _ _ h=>h) rfl (v:= .pointer (some ⟨s,0,none⟩)) (λ_=>rfl) ?_
   refine fh 1 (some 37) rfl rfl (λ_ _ _ h=>h) rfl (v:= .pointer (some ⟨s,0,none⟩)) (λ_=>by go_simp) ?_;refine fh 2 (some 38) rfl rfl (λ_ _ _ h=>h) rfl (v:= .pointer (some ⟨s,0,none⟩)) (λ_=>by go_simp) ?_;simp only[Act.put,co,cq,ck]
   refine Eb (m:=3) [6,5,4,3,2,1,0] (λ(y:Φ×Nat×Ω)=>aE y.2.2 F s d n x/\Row y.2.2 j #[.int .i64 b,.string p,.string c] 107/\aQ [] A y.2.2/\y.2.2.ownsRow A.heap.size 107 3 y.1 (aO x n).length (jp (aO x n))/\Row y.2.2 y.2.1 #[.int .i64 b,.string p,.string c] 107) (λy a=>((((a.put (some 39) (.pointer (some ⟨d,0,none⟩))).put (some 40) y.1).put (some 41) (.agg #[.int .i64 b,.string p,.string c])).put (some 42) (.slice (some ⟨y.2.1,0,none⟩) 1 1))) (λy=>y.2.2) ?_ ?_
   .rintro⟨v,P,w8⟩ ⟨h8,q8,tP,O,r8⟩
    simp only at h8 q8 tP O r8;simp only[Act.put,co,cq,ck];have an:(aO x n).length<=54:=by unfold aO;rw[ah1];exact fy x n
    have HF:Hid (jp (aO x n++[⟨b,p.data.toList,c.data.toList⟩])=jp (aO x n)++[.int .i64 b,.string p,.string c]):=by
     show _=_;rw[uU];rfl
    have z:∀k,v.ownBlock=some k->A.heap.size<=k:=λk u=>(O.lt k u).1
    have ag:=r.row.lt;have ab:=λk u=>r.disk.lt k u
    have am:=D.lt;clear r D;refine eE 7 (SA 7 rfl rfl λK hK=>BH 104 107 3 40 rS _ _ rfl A.heap.size v _ _ rfl O P 1 1 [.int .i64 b,.string p,.string c] rfl _ _ r8 rfl rfl (by simp[Value.oneCell']) ϖ ϖ ϖ tP.size λg cap V o9 t _=>hK _ _ ?_)
    have q9:=t.row q8 (by intro u;have:=z j (by simpa using u);omega);have h9:aE V F s d n x:=⟨t.row h8.row (by intro u;have:=z s (by simpa using u);omega),h8.disk.yw t (λk u hF=>by have:=z k (by simpa using u);have:=ab k hF;omega),h8.ne⟩
    have Q:aQ [] A V:=tP.trans t (λk u=> .inr (z k (by simpa using u)));have S:aQ [] w2 V:=fb.trans Q;clear h8 q8 tP O r8 t z ag ab am fb B Q
    change AK _ _ _ _ _ _ (Act.put _ (some 43) _) _
    simp only[Act.put,co,cq,ck];have I:(aO x n++[(⟨b,p.data.toList,c.data.toList⟩:dl)]).length=(aO x n).length+1:=ϛ
    have q:=wv A.heap.size (.slice (some ⟨g,0,none⟩) ((aO x n).length+1) cap) (aO x n++[⟨b,p.data.toList,c.data.toList⟩]) V (by rw[I,HF.out];exact o9) ϖ;clear o9 HF I an;generalize (aO x n).length+1=ln at*;refine eE 8 (nV 8 rfl rfl (some 44) rfl 75 #[.slice (some ⟨g,0,none⟩) ln cap] (by go_simp) _ q ?_)
    rintro e Z ⟨rfl,fc⟩;refine⟨_,rfl,?_⟩;have hc:=h9.new fc;have qc:=fc.row q9;have N:=S.trans fc;clear q h9 q9 S fc;generalize kH (aO x n++[⟨b,p.data.toList,c.data.toList⟩])=m at*;simp only[Act.put,co,cq,ck]
    by_cases hm:7<m
    .have f:Hid (x.tb n b p c=(x,.int .i64 6)):=by show _=_;rw[G.out];simp[hm]
     refine eE 9 (il 9 rfl rfl (some 45) rfl (.bool true) Z (by go_simp;omega) ?_);refine vr ?_;simp only[Act.put,co,cq,ck];go_wp2_with fail
     all_goals
      go_ret;rw[f.out];exact⟨rfl,⟨F,hc,bC.refl _ _⟩,N.mono⟩
    .have f:Hid (x.tb n b p c=x.put n b p c):=by show _=_;rw[G.out];simp[hm]
     refine eE 9 (il 9 rfl rfl (some 45) rfl (.bool false) Z (by go_simp;omega) ?_);refine vr ?_;simp only[Act.put,co,cq,ck];clear hm;go_wp2_with fail;refine iq 7 rfl ?_;have E:aQ [] Z Z.drew:=aQ.drew _ _;have hd:=hc.new E;have qd:=E.row qc;have C:=N.trans E
     generalize Z.drew=wd at hd qd C;clear E hc qc N G hK;have Y:Lets (λw':Ω=>Row w' s #[.pointer (some ⟨d,0,none⟩)] 96):=⟨λw o h=>(aQ.alloc [] w o).row h,λw h=>h⟩
     have X:Lets (λw':Ω=>Row w' j #[.int .i64 b,.string p,.string c] 107):=⟨λw o h=>(aQ.alloc [] w o).row h,λw h=>h⟩
     refine cy 0 (some 46) rfl rfl (λ_ _ _ h=>h) rfl (v:= .pointer (some ⟨s,0,none⟩)) (λ_=>rfl) ?_;refine cy 1 (some 47) rfl rfl (λ_ _ _ h=>h) rfl (v:= .pointer (some ⟨s,0,none⟩)) (λ_=>by go_simp) ?_
     refine cy 2 (some 48) rfl rfl (λ_ _ _ h=>h) rfl (v:= .pointer (some ⟨s,0,none⟩)) (λ_=>by go_simp) ?_;simp only[Act.put,co,cq,ck]
     refine nn 3 _ Y hd.row (some 49) rfl rfl (λ_ _ _ h=>h) rfl (v:= .pointer (some ⟨d,0,none⟩)) (λw' J=>by have:=J.cell 0;go_simp) ?_;simp only[Act.put,co,cq,ck]
     refine nn 4 _ X qd (some 50) rfl rfl (λ_ _ _ h=>h) rfl (v:= .agg #[.int .i64 b,.string p,.string c]) (λw' J=>j4 107 _ rfl j 0 rfl kZ 3 eZ _ _ J [.int .i64 b,.string p,.string c] rfl rfl) ?_;simp only[Act.put,co,cq,ck]
     refine G7 5 ϖ (some 51) rfl rfl ϰ rfl 76 #[.pointer (some ⟨d,0,none⟩),.agg #[.int .i64 b,.string p,.string c]] (by go_simp) _ (zr F d n x b p c wd hd.disk hx iA ϖ ϖ ϖ) ?_;rintro e we ⟨rfl,Fe,he,fe,ge⟩;refine⟨_,rfl,?_⟩;have gw:=(bC.refl F w2).trans ge C.size
     have ak:aE we Fe s d n (x.put n b p c).1:=⟨fe.row hd.row hd.ne,he,λhF=>(gw s hF).elim h.ne (λhh=>by have:=h.row.lt;omega)⟩
     have ae:aQ F w2 we:=(C.mono (T:=F) ϛ).trans fe (λi hi=> .inl hi);clear Y X hd qd C he fe ge;refine cy 6 (some 8) rfl rfl (λ_ _ _ h=>h) rfl (v:=(x.put n b p c).2) (λ_=>rfl) ?_;simp only[Act.put,co,cq,ck];refine nr ?_;generalize R:x.put n b p c=y at*
     have av:Hid (x.put n b p c=y):=R;clear R;go_wp2_with fail
     all_goals
      go_ret;rw[f.out];exact⟨rfl,⟨Fe,ak,gw⟩,ae⟩
   intro wQ;have H:∀v P l,marks 10 l=marks 10 [6,5,4,3,2,1,0]->∀L,aE L F s d n x->Row L j #[.int .i64 b,.string p,.string c] 107->aQ [] A L->L.ownsRow A.heap.size 107 3 v (aO x n).length (jp (aO x n))->Row L P #[.int .i64 b,.string p,.string c] 107->_:=λv P l hl L a1 a2 a3 a4 a5=>wQ (v,P,L) l hl ⟨a1,a2,a3,a4,a5⟩
   simp only[Act.put,co,cq,ck] at H;clear wQ;have r7:True:=trivial;have o7:True:=trivial
   repeat' first
    |((
      first
      |refine ly 3 5 (by decide+kernel) ?_ ?_
      |refine ly 4 5 (by decide+kernel) ?_ ?_
      |refine ly 4 6 (by decide+kernel) ?_ ?_
      |refine ly 3 6 (by decide+kernel) ?_ ?_
      |refine eE 3 (hr:=(by decide+kernel)) ?_
      |refine eE 4 (hr:=(by decide+kernel)) ?_
      |refine eE 5 (hr:=(by decide+kernel)) ?_
      |refine eE 6 (hr:=(by decide+kernel)) ?_)<;>first
      |(
        show Step _ _ _ _ _ _ 3 _ _;refine Ot 3 rfl rfl (some 39) rfl (.pointer (some ⟨d,0,none⟩)) (by have c0:=r.cell;go_simp) ?_;simp only[Act.put,co,cq,ck])
      |(
        show Step _ _ _ _ _ _ 4 _ _;have⟨ac,ad,aa⟩:=r.jG;refine nV 4 rfl rfl (some 40) rfl 51 #[.pointer (some ⟨d,0,none⟩)] (by go_simp) _ (vq d ac n ad x _ aa) ?_;rintro e w8 ⟨v,rfl,O,U⟩;refine⟨v,rfl,?_⟩;replace o7:=Pp O B.size;replace r:=r.new U;replace D:=U.row D;replace B:=B.trans U
        try replace r7:=U.row r7
        clear U aa;simp only[Act.put,co,cq,ck])
      |(
        show Step _ _ _ _ _ _ 5 _ _;refine il 5 rfl rfl (some 41) rfl (.agg #[.int .i64 b,.string p,.string c]) _ (j4 107 _ rfl j 0 rfl kZ 3 eZ _ _ D [.int .i64 b,.string p,.string c] rfl rfl) ?_;simp only[Act.put,co,cq,ck])
      |(
        show Step _ _ _ _ _ _ 6 _ _;refine Oo 6 rfl rfl (some 42) rfl 104 107 3 40 rS _ rfl ϖ (.agg #[.int .i64 b,.string p,.string c]) rfl rfl ?_;intro P V t r9;replace r:=r.new t;replace D:=t.row D;replace B:=B.trans t
        try replace o7:=t.owns o7
        replace r7:=r9;clear t;simp only[Act.put,co,cq,ck]))
    |exact H _ _ _ ϰ _ r D B o7 r7
def bH (c:Int)(n:Nat):Nat:=((if c<0 then -(c+1) else c)%(n:Int)).toNat
def mj (c:Int)(n:Nat)(h:0<n:=by omega):bH c n<n:=by
 unfold bH;have h1:=Int.emod_lt_of_pos (if c<0 then -(c+1) else c) (show(0:Int)<n by omega);have h2:=Int.emod_nonneg (if c<0 then -(c+1) else c) (show(n:Int)≠0 by omega);omega
def Is (c:Int)(n:Nat)(h:0<n):((bH c n:Nat):Int)=(if c<0 then -(c+1) else c)%(n:Int):=by
 unfold bH;have h2:=Int.emod_nonneg (if c<0 then -(c+1) else c) (show(n:Int)≠0 by omega);omega
def od (c:Int)(n:Nat)(w:Ω)(h0:-9223372036854775808<=c)(h1:c<=9223372036854775807)(f:0<n:=by omega)(h:n<=1000000000:=by omega):
  Calls prog 19 #[.int .i64 c,.int .i64 n] w λe w'=>e= .returned (.int .i64 (bH c n))/\w'=w:=by
 have a:Hid (((bH c n:Nat):Int)=(if c<0 then -(c+1) else c)%(n:Int)):=Is c n f;have g:((n:Int)==0)=false:=by rw[ac3];omega
 have b:(n:Int)≠0:=ϖ
 go_enter func19,ntmps19
 by_cases d:c<0
 .have HQ:Hid (((bH c n:Nat):Int)=-((c+1).tmod (n:Int))):=by
   show _=_;rw[a.out,φ d,<-Int.neg_tmod,Int.tmod_eq_emod_of_nonneg ϖ]
  go_wp2;go_ret;exact⟨by rw[HQ.out];rfl,rfl⟩
 .have HQ:Hid (((bH c n:Nat):Int)=c%(n:Int)):=by
   show _=_;rw[a.out,ζ d]
  go_wp2;go_ret;exact⟨by rw[HQ.out];rfl,rfl⟩
def dR (s:Ξ):Ξ:=if s.size>96 then s.extract 0 96 else s
def GN (s:Ξ)(w:Ω):Calls prog 43 #[.string s] w λe w'=>e= .returned (.string (dR s))/\w'=w:=by
 go_enter func43,ntmps43
 by_cases b:s.size>96
 .have HQ:Hid (dR s=s.extract 0 96):=by show _=_;unfold dR;rw[φ b]
  have a:(s.size:Int)>96:=ϖ
  go_wp2;go_ret;exact⟨by rw[HQ.out];rfl,rfl⟩
 .have HQ:Hid (dR s=s):=by show _=_;unfold dR;rw[ζ b]
  have a:¬(s.size:Int)>96:=ϖ
  go_wp2;go_ret;exact⟨by rw[HQ.out];rfl,rfl⟩
def d7 (i:Nat):Ξ:=(⟨#[97,98,99,100,101,102,103]⟩:Ξ).extract i (i+1)
def zA (i:Nat)(h:i<7):cL (d7 i).data.toList=true/\(d7 i).size=1:=by
 rcases(by omega:i=0\/i=1\/i=2\/i=3\/i=4\/i=5\/i=6) with rfl|rfl|rfl|rfl|rfl|rfl|rfl<;>exact⟨by decide,by decide⟩
def zz (c:Int)(w:Ω)(h0:-9223372036854775808<=c)(h1:c<=9223372036854775807):Calls prog 41 #[.int .i64 c] w λe w'=>e= .returned (.string (d7 (bH c 7)))/\w'=w:=by
 have b:=mj c 7;go_enter func41,ntmps41;go_wp2_with fail;refine(od c 7 w h0 h1).mono ?_;rintro e w1 ⟨rfl,rfl⟩;generalize a:bH c 7=i at*;have d:Hid (bH c 7=i):=a;clear a;rcases(by omega:i=0\/i=1\/i=2\/i=3\/i=4\/i=5\/i=6) with rfl|rfl|rfl|rfl|rfl|rfl|rfl
 all_goals
  go_wp2;go_ret;exact⟨by rw[d.out];rfl,rfl⟩
def gn (L:ϓ)(j:Nat):List Γ:=(L.drop (64*j)).take 64
def E7 (L:ϓ)(j k:Nat):(gn L j)[k]? =if k<64 then L[64*j+k]? else none:=by
 unfold gn;rw[al8];split
 .rw[ai6]
 .rfl
def Tu (L:ϓ)(n:Nat)(e:L.length=64*n)(i:Nat)(d:i<n)(b:ϓ)(c:b.length=64)(m:Nat):
  (bg L ((i:Int),b))[m]? =if m<64*i then L[m]? else if m<64*i+64 then b[m-64*i]? else L[m]? :=by
 unfold bg;simp only[ϒ4];rw[List.getElem?_append,List.getElem?_append];simp only[ah2,ac8,c,al8,ai6];have h1:min (64*i) L.length=64*i:=ϖ
 rw[h1]
 by_cases h2:m<64*i
 .simp[h2];omega
 .by_cases a:m<64*i+64
  .simp[h2,a]
  .simp only[h2,a,if_false]
   congr 1
   omega
def gT (L:ϓ)(n:Nat)(e:L.length=64*n)(i:Nat)(f:i<n)(b:ϓ)(d:b.length=64)(j:Nat):gn (bg L ((i:Int),b)) j=if j=i then b else gn L j:=by
 apply ϒ5
 intro k;rw[E7,Tu L n e i f b d]
 by_cases c:j=i
 .subst c
  simp only[if_true]
  by_cases a:k<64
  .rw[φ a,ζ ϖ,φ ϖ]
   congr 1;omega
  .rw[ζ a,ai5 ϖ]
 .rw[ζ c,E7]
  by_cases a:k<64
  .rw[φ a,φ a]
   by_cases h2:64*j+k<64*i
   .rw[φ h2]
   .rw[ζ h2,ζ ϖ]
  .rw[ζ a,ζ a]
def Ki (L:ϓ)(n:Nat)(d:L.length=64*n)(i:Nat)(c:i<n)(b:ϓ)(a:b.length=64):(bg L ((i:Int),b)).length=64*n:=by
 unfold bg;simp only[ϒ4,ah2,ac8,ϐ3,a];omega
def zp (x:DS)(h:x.waiting=[])(j:Nat):x.read j=gn x.aB j:=by
 unfold DS.read seenIn gn;rw[h];simp
def rG (x:DS)(h:x.waiting=[]):x.read 0=gn x.aB 0:=zp x h 0
abbrev ew:=Nat->Option dl
def Gf (n:Nat):List Γ:=nK++[UInt8.ofNat (n/256),UInt8.ofNat n]
def cG (n:Nat)(m:ew):List Γ:=Gf n++(range 54).map λi=>if(m i).isSome then(1:Γ) else 0
def pd (n:Nat):(Gf n).length=10:=rfl
def ie (n:Nat)(m:ew):(cG n m).length=64:=by simp[cG,pd]
def rD (n:Nat)(m:ew)(k:Nat):(cG n m)[k]? =if k<10 then(Gf n)[k]? else if k<64 then some (if(m (k-10)).isSome then(1:Γ) else 0) else none:=by
 unfold cG;rw[List.getElem?_append,pd];split
 .rfl
 .rename_i h
  rw[List.getElem?_map]
  by_cases h2:k<64
  .rw[List.getElem?_range ϖ,φ h2];rfl
  .rw[ai5 (by simp;omega),ζ h2];rfl
def LQ (n k:Nat):(jl n)[k]? =if k<10 then(Gf n)[k]? else if k<64 then some 0 else none:=by
 unfold jl;rw[show nK++[UInt8.ofNat (n/256),UInt8.ofNat n]=Gf n from rfl,List.getElem?_append,pd];split
 .rfl
 .rw[List.getElem?_replicate]
  by_cases h2:k<64
  .rw[φ h2,φ ϖ]
  .rw[ζ h2,ζ ϖ]
def vY (n:Nat)(m:ew)(i:Nat)(a:i<54):dP (cG n m) i=if(m i).isSome then 1 else 0:=by
 unfold dP;rw[ϻ,rD,ζ ϖ,φ ϖ];simp
def Ho (n:Nat)(m:ew)(k:Nat)(b:k<=54):jP (cG n m) k=(range k).filter λi=>(m i).isSome:=by
 unfold jP
 apply List.filter_congr
 intro i a;rw[ae2] at a;rw[vY n m i ϖ];cases (m i).isSome<;>rfl
def Bb (l:ϑ):∀(r:ϓ)(j:Nat),(d8 r l)[j]? =if(∃i∈l,10+i=j)/\j<r.length then some 1 else r[j]? :=by
 induction l with
 |nil=>intro r j;simp[d8]
 |cons a l d=>
  intro r j;unfold d8;rw[ϒ1];have:=d (r.set (10+a) 1) j;unfold d8 at this;rw[this,List.length_set,List.getElem?_set]
  by_cases h1:(∃i∈l,10+i=j)/\j<r.length
  .rw[φ h1,φ ⟨by have⟨⟨i,b,e⟩,_⟩:=h1;exact⟨i,ak9 _ b,e⟩,h1.2⟩]
  .rw[ζ h1]
   by_cases h2:10+a=j
   .rw[φ h2]
    by_cases c:j<r.length
    .rw[φ ϖ,φ ⟨⟨a,ϒ2,h2⟩,c⟩]
    .rw[ζ ϖ,ζ ϖ,ai5 ϖ]
   .rw[ζ h2,ζ]
    rintro⟨⟨i,b,e⟩,c⟩;rcases ac1.1 b with rfl|b
    .exact h2 e
    .exact h1 ⟨⟨i,b,e⟩,c⟩
def kQ (n:Nat):(jl n).length=64:=by simp[jl,nK]
def zj (n:Nat)(m:ew)(k:Nat)(hm:∀i,(m i).isSome->i<k):d8 (jl n) ((range k).filter λi=>(m i).isSome)=cG n m:=by
 apply ϒ5
 intro j;rw[Bb,rD,LQ,kQ]
 by_cases h1:j<10
 .rw[φ h1,φ h1,ζ (by rintro⟨⟨i,_,e⟩,_⟩;omega)]
 .rw[ζ h1,ζ h1]
  by_cases h2:j<64
  .rw[φ h2,φ h2]
   cases a:(m (j-10)).isSome with
   |true=>
    rw[φ ⟨⟨j-10,by rw[ad2,ae2];exact⟨hm _ a,a⟩,ϖ⟩,h2⟩];rfl
   |false=>
    rw[ζ]
    .rfl
    .rintro⟨⟨i,hi,e⟩,_⟩
     rw[ad2] at hi;obtain rfl:i=j-10:=ϖ
     rw[a] at hi;exact absurd hi.2 (by decide)
  .rw[ζ h2,ζ h2,ζ ϖ]
def upd (m:ew)(i:Nat)(v:Option dl):ew:=λj=>if j=i then v else m j
def E5 (n:Nat)(m:ew)(i:Nat)(e:i<54)(v:Option dl):(cG n m).set (10+i) (if v.isSome then 1 else 0)=cG n (upd m i v):=by
 apply ϒ5
 intro j;rw[List.getElem?_set,ie,rD,rD]
 by_cases h1:10+i=j
 .have b:j-10=i:=ϖ
  have a:¬(j<10):=ϖ
  have c:j<64:=ϖ
  have d:10+i<64:=ϖ
  simp[upd,b,a,c,d,h1]
 .rw[ζ h1]
  by_cases h2:j<10
  .rw[φ h2,φ h2]
  .rw[ζ h2,ζ h2]
   have:¬(j-10=i):=ϖ
   simp[upd,this]
def yT (l:ϓ)(o:Nat)(v:ϓ)(h:o+v.length<=l.length)(k:Nat):(splice l o v)[k]? =if k<o then l[k]? else if k<o+v.length then v[k-o]? else l[k]? :=by
 unfold splice;rw[List.getElem?_append,List.getElem?_append];simp only[ah2,ac8,al8,ai6];have h1:min o l.length=o:=ϖ
 rw[h1]
 by_cases h2:k<o
 .simp[h2];omega
 .by_cases a:k<o+v.length
  .simp[h2,a]
  .simp only[h2,a,if_false]
   congr 1
   omega
def pg (l:ϓ)(o:Nat)(v:ϓ)(h:o+v.length<=l.length):(splice l o v).length=l.length:=by
 unfold splice;simp only[ah2,ac8,ϐ3];omega
def vc (s:Nat)(p c:ϓ)(a:p.length<=8)(d:c.length<=96)(k:Nat):
  (cI s p c)[k]? =if k<3 then(eP s p.length c.length)[k]? else if k<3+p.length then p[k-3]? else if k<11 then(eP s p.length c.length)[k]? else if k<11+c.length then c[k-11]? else(eP s p.length c.length)[k]? :=by
 have b:(eP s p.length c.length).length=128:=by simp[eP]
 unfold cI;rw[θ a,θ (by omega:c.length<=117)];rw[yT _ _ _ (by rw[pg _ _ _ ϖ];omega),yT _ _ _ ϖ]
 by_cases h1:k<3
 .rw[φ ϖ,φ h1,φ h1]
 .rw[ζ h1,ζ h1]
  by_cases h2:k<3+p.length
  .rw[φ ϖ,φ h2,φ h2]
  .rw[ζ h2,ζ h2]
def Kj (s:Nat)(p c:ϓ)(b:p.length<=8)(d:c.length<=96):(cI s p c).length=128:=by
 have a:(eP s p.length c.length).length=128:=by simp[eP]
 unfold cI;rw[θ b,θ (by omega:c.length<=117)];rw[pg _ _ _ (by rw[pg _ _ _ ϖ];omega),pg _ _ _ ϖ,a]
def zX (s p c:Nat):(eP s p c)[0]? =some (UInt8.ofNat s)/\(eP s p c)[1]? =some (UInt8.ofNat p)/\(eP s p c)[2]? =some (UInt8.ofNat c):=by
 refine⟨?_,?_,?_⟩<;>simp[eP,List.getElem?_set]
def KI (s:Nat)(p c:ϓ)(d:s<256)(b:p.length<=8)(a:c.length<=96):fQ (cI s p c)=s:=by
 unfold fQ fH;rw[ϻ,vc s p c b a,φ ϖ,(zX ..).1];simp;omega
def QW (s:Nat)(p c:ϓ)(b:p.length<=8)(a:c.length<=96):fH (cI s p c) 1=p.length:=by
 unfold fH;rw[ϻ,vc s p c b a,φ ϖ,(zX ..).2.1];simp;omega
def QX (s:Nat)(p c:ϓ)(b:p.length<=8)(a:c.length<=96):fH (cI s p c) 2=c.length:=by
 unfold fH;rw[ϻ,vc s p c b a,φ ϖ,(zX ..).2.2];simp;omega
def Gx (s:Nat)(p c:ϓ)(a:p.length<=8)(b:c.length<=96):dm (cI s p c)=p:=by
 unfold dm;rw[QW s p c a b,Nat.min_eq_left a]
 apply ϒ5
 intro k;rw[al8]
 by_cases h:k<p.length
 .rw[φ h,ai6,vc s p c a b,ζ ϖ,φ ϖ]
  congr 1;omega
 .rw[ζ h,ai5 ϖ]
def qS (s:Nat)(p c:ϓ)(b:p.length<=8)(a:c.length<=96):bJ (cI s p c)=c:=by
 unfold bJ;rw[QX s p c b a,Nat.min_eq_left a]
 apply ϒ5
 intro k;rw[al8]
 by_cases h:k<c.length
 .rw[φ h,ai6,vc s p c b a,ζ ϖ,ζ ϖ,ζ ϖ,φ ϖ]
  congr 1;omega
 .rw[ζ h,ai5 ϖ]
def kN {α:Type}[BEq α][LawfulBEq α]:∀(l r:List α),l.Nodup->(∀a∈l,a∈r)->l.length<=r.length
 |[],_,_,_=>ϛ
 |a::l,r,hn,hs=>by
  rw[List.nodup_cons] at hn;have ha:a∈r:=hs a ϒ2;have h:=kN l (r.erase a) hn.2 λb d=>by
   have c:b≠a:=λe=>hn.1 (e▸d)
   exact(List.mem_erase_of_ne c).2 (hs b (ak9 _ d))
  rw[List.length_erase_of_mem ha] at h;have:=List.length_pos_of_mem ha;rw[ϳ];omega
structure lV (L:List Γ)(n:Nat)(m:ew):Prop where
 len:L.length=64*n
 lo:16<=n
 root:gn L 0=cG n m
 recs:∀i f,m i=some f->gn L (1+2*i)++gn L (2+2*i)=cI f.set f.path f.content
 lt:∀i f,m i=some f->i<aK n
 good:∀i f,m i=some f->eD f.set f.path=true/\f.content.length<=96
 inj:∀i j f g,m i=some f->m j=some g->nameOf f=nameOf g->i=j
def oq (n:Nat):aK n<=54:=Nat.min_le_right ..
def Cl (n i:Nat)(h:i<aK n):2+2*i<n:=by
 unfold aK at h;omega
def qJ {s:Nat}{p:ϓ}(h:eD s p=true):p.length<=8/\s<=3:=by
 unfold eD at h;split at h
 .unfold cL at h
  simp only[ε,decide_eq_true_eq] at h;omega
 .split at h
  .have:p=[]:=by simpa using h
   subst this;simp;omega
  .cases h
def iS (n:Nat)(m:ew):List dl:=(range (aK n)).filterMap m
section
variable {L:List Γ}{n:Nat}{m:ew}{x:DS}
def lV.Mv (h:lV L n m):∀i,(m i).isSome->i<aK n:=λi a=>by
 have⟨f,b⟩:=ϐ6.1 a;exact h.lt i f b
def vP (h:lV x.aB n m)(a:x.waiting=[]):taken x n=(range (aK n)).filter λi=>(m i).isSome:=by
 unfold taken;rw[rG x a,h.root,Ho n m _ (oq n)]
def Dk (h:lV x.aB n m)(a:x.waiting=[]){i:Nat}{f:dl}(b:m i=some f):cO x i=cI f.set f.path f.content:=by
 unfold cO DS.sec;rw[zp x a,zp x a,h.recs i f b]
def Fi (h:lV x.aB n m)(c:x.waiting=[]){i:Nat}{f:dl}(b:m i=some f):fileAt x i=f:=by
 have hg:=h.good i f b;have a:=qJ hg.1;unfold fileAt;rw[Dk h c b,KI _ _ _ ϖ a.1 hg.2,Gx _ _ _ a.1 hg.2,qS _ _ _ a.1 hg.2]
def pQ (g:Nat->dl):∀(l:ϑ),(∀i∈l,∀f,m i=some f->g i=f)->(l.filter λi=>(m i).isSome).map g=l.filterMap m
 |[],_=>rfl
 |a::l,h=>by
  have b:=pQ g l λi c=>h i (ak9 _ c)
  cases hm:m a with
  |none=>rw[List.filter_cons_of_neg (by simp[hm]),List.filterMap_cons_none hm,b]
  |some f=>rw[List.filter_cons_of_pos (by simp[hm]),ϴ,List.filterMap_cons_some hm,b,h a ϒ2 f hm]
def iv (h:lV x.aB n m)(a:x.waiting=[]):aO x n=iS n m:=by
 unfold aO iS;rw[vP h a];exact pQ _ _ λi _ f b=>Fi h a b
def Ca (h:lV x.aB n m)(a:x.waiting=[]){i:Nat}{f:dl}(b:m i=some f)(s:Int)(p:Ξ):named x s p i=((f.set:Int)==s&&aD f.path==p):=by
 have:=Fi h a b;unfold fileAt at this;unfold named;rw[<-this]
def JO (s:Int)(p:Ξ)(i:Nat):∀(l:ϑ),i∈l->(∀j∈l,named x s p j=decide (j=i))->cN x s p l=i
 |[],h,_=>by simp at h
 |a::l,h,hn=>by
  unfold cN;rw[hn a ϒ2]
  by_cases ha:a=i
  .simp[ha]
  .rw[decide_eq_false ha]
   rcases ac1.1 h with e|b
   .exact absurd e.symm ha
   .simpa using JO s p i l b λj c=>hn j (ak9 _ c)
def EM (s:Int)(p:Ξ):∀(l:ϑ),(∀j∈l,named x s p j=false)->cN x s p l=-1
 |[],_=>rfl
 |a::l,hn=>by
  unfold cN;rw[hn a ϒ2];simpa using EM s p l λj b=>hn j (ak9 _ b)
def yl (h:lV x.aB n m)(b:x.waiting=[]){i:Nat}:i∈taken x n↔∃f,m i=some f:=by
 rw[vP h b,ad2,ae2,ϐ6];exact⟨λh=>h.2,λ⟨f,a⟩=>⟨h.lt i f a,f,a⟩⟩
def Fg (h:lV x.aB n m)(b:x.waiting=[]){i:Nat}{f:dl}(c:m i=some f):cN x f.set (aD f.path) (taken x n)=i:=by
 refine JO _ _ i _ ((yl h b).2 ⟨f,c⟩) λj d=>?_
 have⟨g,hg⟩:=(yl h b).1 d;rw[Ca h b hg]
 by_cases a:j=i
 .subst a
  rw[c] at hg;obtain rfl:=ac2 hg;rw[vo];simp
 .rw[decide_eq_false a,ϔ9]
  by_cases h1:g.set=f.set
  .right
   rw[vo,ac3];intro e;exact a (h.inj j i g f hg c (by unfold nameOf;rw[h1,e]))
  .left
   rw[ac3];omega
def oX (h:lV x.aB n m)(a:x.waiting=[])(s:Nat)(p:ϓ)(c:∀i f,m i=some f->nameOf f≠(s,p)):cN x s (aD p) (taken x n)=-1:=by
 refine EM _ _ _ λj b=>?_
 have⟨g,hg⟩:=(yl h a).1 b;rw[Ca h a hg,ϔ9]
 by_cases h1:g.set=s
 .right
  rw[vo,ac3];intro e;exact c j g hg (by unfold nameOf;rw[h1,e])
 .left
  rw[ac3];omega
def Tf (h:lV x.aB n m)(b:x.waiting=[]){i:Nat}{f:dl}(a:m i=some f):x.content n f.set (aD f.path)=some f.content:=by
 have hg:=h.good i f a;have c:=qJ hg.1;unfold DS.content;rw[Fg h b a];show some (bJ (cO x i))=_;rw[Dk h b a,qS _ _ _ c.1 hg.2]
def zk (h:lV x.aB n m)(b:x.waiting=[])(s:Nat)(p:ϓ)(a:∀i f,m i=some f->nameOf f≠(s,p)):x.content n s (aD p)=none:=by
 unfold DS.content;rw[oX h b s p a];rfl
def holds (m:ew)(s:Nat)(p:ϓ)(r:Option (List Γ)):Prop:=
 match r with
 |some c=>∃i,m i=some ⟨s,p,c⟩
 |none=>∀i f,m i=some f->nameOf f≠(s,p)
def qw (h:lV x.aB n m)(a:x.waiting=[]){s:Nat}{p:ϓ}{r:Option (List Γ)}(hr:holds m s p r):x.content n s (aD p)=r:=by
 cases r with
 |none=>exact zk h a s p hr
 |some c=>
  have⟨i,b⟩:=hr;exact Tf h a b
def Cz (m:ew)(s:Nat)(p:ϓ):∃r,holds m s p r:=by
 by_cases h:∃i f,m i=some f/\nameOf f=(s,p)
 .have⟨i,f,a,e⟩:=h
  refine⟨some f.content,i,?_⟩;have⟨fs,c,b⟩:=f;simp only[nameOf,ai1] at e;rw[a,e.1,e.2]
 .exact⟨none,λi f a e=>h ⟨i,f,a,e⟩⟩
def FE:∀(fs:List dl)(seen:List pU),(∀f∈fs,eD f.set f.path=true)->(seen++fs.map nameOf).Nodup->eX seen fs=true
 |[],_,_,_=>rfl
 |f::fs,seen,h,hn=>by
  unfold eX;rw[h f ϒ2,ϕ5,ε];constructor
  .rw[ϓ5,<-Bool.not_eq_true,List.contains_iff_mem]
   intro hm;rw[List.nodup_append] at hn;exact hn.2.2 _ hm _ ϛ rfl
  .refine FE fs _ (λg hg=>h g (ak9 _ hg)) ?_
   rw[List.append_assoc];exact hn
def lV.mem (h:lV L n m){f:dl}:f∈iS n m↔∃i,m i=some f:=by
 unfold iS;rw[ϓ1];exact⟨λ⟨i,_,a⟩=>⟨i,a⟩,λ⟨i,a⟩=>⟨i,ae2.2 (h.lt i f a),a⟩⟩
def lV.nodup (h:lV L n m):((iS n m).map nameOf).Nodup:=by
 unfold iS List.Nodup;rw[ϑ8,List.pairwise_filterMap];refine List.Pairwise.imp ?_ ϔ7;intro i j a f b g hg e;have:=h.inj i j f g b hg e;omega
def B5 (h:lV x.aB n m)(a:x.waiting=[]):x.sound n=true:=by
 unfold DS.sound;rw[ε,ε];refine⟨?_,?_,?_⟩
 .unfold DS.vO
  rw[vP h a,zj n m _ h.Mv,rG x a,h.root];simp
 .unfold DS.oZ
  rw[ad6];intro i d;have⟨f,b⟩:=(yl h a).1 d;have hg:=h.good i f b;have c:=qJ hg.1;unfold xh;rw[Dk h a b,KI _ _ _ ϖ c.1 hg.2,Gx _ _ _ c.1 hg.2,qS _ _ _ c.1 hg.2];simp
 .unfold DS.eX
  rw[iv h a];refine FE _ _ (λf b=>?_) (by simpa using h.nodup);have⟨i,d⟩:=h.mem.1 b;exact(h.good i f d).1
end
def xE (root:ϓ)(M:Nat):∀(f k:Nat),eU root M f k=-1->∀i,k<=i->i<M->i<k+f->dP root i≠0
 |0,k,_,i,h1,_,h3=>ϖ
 |f+1,k,h,i,h1,h2,h3=>by
  unfold eU at h;rw[φ ϖ] at h;split at h
  .omega
  .rename_i a
   by_cases e:i=k
   .subst e
    intro h0;exact a (by simp[h0])
   .exact xE root M f (k+1) h i ϖ h2 ϖ
def uX (root:ϓ)(M:Nat):∀(f k:Nat),eU root M f k≠-1->∃i:Nat,i<M/\eU root M f k=i/\dP root i=0
 |0,k,h=>absurd rfl h
 |f+1,k,h=>by
  unfold eU at h⊢
  by_cases h1:k<M
  .rw[φ h1] at h⊢
   by_cases h2:(dP root k==0)=true
   .rw[φ h2]
    exact⟨k,h1,rfl,by simpa using h2⟩
   .rw[ζ h2] at h⊢
    exact uX root M f (k+1) h
  .rw[ζ h1] at h
   exact absurd rfl h
def Fh {n:Nat}{m:ew}{x:DS}(h:lV x.aB n m)(g:x.waiting=[])(a:∃i,i<aK n/\m i=none):∃i:Nat,i<aK n/\eg x n=i/\m i=none:=by
 have j:=oq n;unfold eg;rw[rG x g,h.root];have c:eU (cG n m) (aK n) (aK n) 0≠-1:=by
  intro e;have⟨i,b,hm⟩:=a;have:=xE _ _ _ _ e i ϖ b ϖ;rw[vY n m i ϖ,hm] at this;exact this rfl
 have⟨i,b,e,hm⟩:=uX _ _ _ _ c;refine⟨i,b,e,?_⟩;rw[vY n m i ϖ] at hm;cases d:m i with
 |none=>rfl
 |some f=>rw[d] at hm;simp at hm
end
section
open Go.RowKit Go.Lib Go.Sort
def cD (k:Nat):List Γ:=(d7 k).data.toList
def P7:List (List Γ):=(range 7).map cD
def zG {p:ϓ}:p∈P7↔∃k,k<7/\p=cD k:=by
 unfold P7;rw[ad1];exact⟨λ⟨k,a,e⟩=>⟨k,ae2.1 a,e.symm⟩,λ⟨k,a,e⟩=>⟨k,ae2.2 a,e.symm⟩⟩
def kK (k:Nat):aD (cD k)=d7 k:=rfl
def Ce:∀a,a<7->∀b,b<7->cD a=cD b->a=b:=by decide
def BU {d:List (List Γ)}:(d.mergeSort λx y=>decide (x<=y)).Pairwise λx y=>x<=y:=by
 have h:=List.pairwise_mergeSort (le:=λx y:List Γ=>decide (x<=y)) (λa b c h1 h2=>by simp only[decide_eq_true_eq] at*;exact List.le_trans h1 h2)
  (λa b=>by simp only[Ϲ,decide_eq_true_eq];exact List.le_total a b) d
 exact h.imp λh=>by simpa using h
def GQ {c:List (List Γ)}{a:ϓ}(h:a∈compact c):a∈c:=by
 unfold compact compactUpTo at h;have⟨i,d,e⟩:=ad1.1 h;have b:=ae2.1 (ad2.1 d).1;rw[getElem!_pos c.toArray i (by simpa using b)] at e;rw[<-e];simp
def Bs {a:List (List Γ)}(f:a.Pairwise λx y=>x<=y):(compact a).Nodup:=by
 unfold compact compactUpTo List.Nodup;rw[ϑ8];refine(ϔ7.filter _).imp_of_mem ?_;intro i j l g h e;have d:=ae2.1 (ad2.1 l).1;have c:=ae2.1 (ad2.1 g).1;have b:=(ad2.1 g).2;unfold keeps at b;rw[decide_eq_true_eq] at b;rcases b with b|b
 .omega
 rw[getElem!_pos a.toArray i (by simpa using d),getElem!_pos a.toArray j (by simpa using c)] at e;rw[getElem!_pos a.toArray (j-1) (by simp;omega),getElem!_pos a.toArray j (by simpa using c)] at b;simp only[List.getElem_toArray] at e b;rw[ϑ3] at f;have h1:a[i]<=a[j-1]:=by
  by_cases k:i=j-1
  .subst k;exact List.le_refl _
  .exact f i (j-1) d ϖ ϖ
 have h2:a[j-1]<=a[j]:=f (j-1) j ϖ c ϖ;exact b (List.le_antisymm (e▸h1) h2)
def wu (fs:List dl)(h:∀f∈fs,f.set≠3->f.path∈P7):kH fs<=7:=by
 unfold kH;refine ac7 (kN _ P7 (Bs BU) λa ha=>?_) (ai8 (by rfl));have h1:=GQ ha;rw[List.mem_mergeSort] at h1;unfold fq at h1;have⟨f,b,e⟩:=ad1.1 h1;rw[ad2] at b;rw[<-e];exact h f b.1 (by simpa using b.2)
def Seven (m:ew):Prop:=∀i f,m i=some f->f.set<=2/\f.path∈P7
section
variable {L:List Γ}{n:Nat}{m:ew}{x:DS}
def Seven.files (a:Seven m)(h:lV L n m):∀f∈iS n m,f.set<=2/\f.path∈P7:=λf c=>by
 have⟨i,b⟩:=h.mem.1 c;exact a i f b
def mY (h:lV x.aB n m)(b:x.waiting=[])(a:Seven m):x.pending n=false:=by
 have:=zk h b 3 [] λi f c e=>by
  have:=a i f c;unfold nameOf at e;simp only[ai1] at e;omega
 unfold DS.pending;rw[show(⟨#[]⟩:Ξ)=aD [] from rfl];rw[show((3:Int))=((3:Nat):Int) from rfl,this];rfl
def Ff (h:lV x.aB n m)(a:x.waiting=[])(b:Seven m):x.gO n=true:=by
 unfold DS.gO;rw[B5 h a,iv h a,ϕ5,decide_eq_true_eq];exact wu _ λf c _=>(b.files h f c).2
def Ic (h:lV x.aB n m)(z:x.waiting=[])(A:Seven m)(s:Nat):
  (bK (aO x n) s).length=((range 7).filter λk=>(x.content n s (d7 k)).isSome).length:=by
 rw[iv h z];have g:∀p,p∈bK (iS n m) s↔∃i f,m i=some f/\nameOf f=(s,p):=by
  intro p;unfold bK;rw[ad1];constructor
  .rintro⟨f,d,e⟩
   rw[ad2] at d;have⟨i,v⟩:=h.mem.1 d.1;exact⟨i,f,v,by unfold nameOf;rw[<-e];have:=d.2;simp at this;rw[this]⟩
  .rintro⟨i,f,d,e⟩
   unfold nameOf at e;simp only[ai1] at e;exact⟨f,ad2.2 ⟨h.mem.2 ⟨i,d⟩,by simp[e.1]⟩,e.2⟩
 have t:(bK (iS n m) s).Nodup:=by
  have h1:=h.nodup;unfold List.Nodup at h1⊢;unfold bK;rw[ϑ8] at h1⊢;refine(h1.filter _).imp_of_mem ?_;intro a b ha o j e;have e1:=(ad2.1 ha).2;have e2:=(ad2.1 o).2;simp at e1 e2;exact j (by unfold nameOf;rw[e,e1,e2])
 have y:∀k,(x.content n s (d7 k)).isSome=true↔cD k∈bK (iS n m) s:=by
  intro k;rw[g];have⟨r,hr⟩:=Cz m s (cD k);rw[<-kK,qw h z hr];cases r with
  |none=>
   simp only[Ϻ,ν,false_iff];rintro⟨i,f,d,e⟩;exact hr i f d e
  |some c=>
   have⟨i,v⟩:=hr;simp only[ϑ1,true_iff];exact⟨i,_,v,rfl⟩
 have q:(((range 7).filter λk=>(x.content n s (d7 k)).isSome).map cD).Nodup:=by
  unfold List.Nodup;rw[ϑ8];refine(ϔ7.filter _).imp_of_mem ?_;intro a b ha o j e;have e1:=ae2.1 (ad2.1 ha).1;have e2:=ae2.1 (ad2.1 o).1;have:=Ce a e1 b e2 e;omega
 rw[show((range 7).filter λk=>(x.content n s (d7 k)).isSome).length=(((range 7).filter λk=>(x.content n s (d7 k)).isSome).map cD).length from(ah1 _).symm]
 apply Nat.le_antisymm
 .refine kN _ _ t λp l=>?_
  have⟨i,f,d,e⟩:=(g p).1 l;unfold nameOf at e;simp only[ai1] at e;have⟨k,u,e2⟩:=zG.1 (A i f d).2;have w:cD k=p:=by rw[<-e2,e.2]
  exact ad1.2 ⟨k,ad2.2 ⟨ae2.2 u,(y k).2 (w▸l)⟩,w⟩
 .refine kN _ _ q λp l=>?_
  have⟨k,u,e⟩:=ad1.1 l;rw[<-e];exact(y k).1 (ad2.1 u).2
end
structure cX (S:List Nat)(w w':Ω):Prop where
 os:w'.os=w.os
 size:w.heap.size<=w'.heap.size
 block:∀k,k<w.heap.size->k∉S->w'.heap[k]? =w.heap[k]?
def aQ.blk {S:ϑ}{w w':Ω}(h:aQ S w w'):cX S w w':=⟨h.os,h.size,h.block⟩
def cX.refl (S:ϑ)(w:Ω):cX S w w:=⟨rfl,ι _,λ_ _ _=>rfl⟩
def cX.tape {S:ϑ}{w w':Ω}(h:cX S w w')(t:Go.Proofs.YtchcmhodnkgojaaGreat.eL)(d:Nat):cX S w (ax w' t d):=⟨h.os,h.size,h.block⟩
def cX.trans {S T:ϑ}{w w' a:Ω}(h:cX S w w')(b:cX T w' a)(e:∀i∈T,i∈S\/w.heap.size<=i:=by simp):cX S w a:=
 ⟨b.os.trans h.os,ac7 h.size b.size,λk c d=>(b.block k (ψ c h.size) λx=>(e k x).elim d λq=>ϖ).trans (h.block k c d)⟩
def cX.mono {S T:ϑ}{w w':Ω}(h:cX S w w')(a:∀i∈S,i∈T\/w.heap.size<=i:=by simp):cX T w w':=⟨h.os,h.size,λk b c=>h.block k b λx=>(a k x).elim c λq=>ϖ⟩
namespace aI
namespace Sq
def ww {E:af.Env}{f:ac0}{k:ϕ}{R:ϝ}{a:Act}{wL:Ω}(a':Act)(e:a=a')(h:af.CI E f k R a' wL):af.CI E f k R a wL:=e▸h
def KU (f:Ξ->Option Φ)(wL:Ω)(v:Φ)(w':Ω):Prop:=∃a:List (List Γ),a.Pairwise (·<=·)/\a.Nodup/\(∀l,l∈a↔f (aD l)≠none)/\cX [] wL w'/\
 ((v= .slice none 0 0/\a=[])\/∃g cap,v= .slice (some ⟨g,0,none⟩) a.length cap/\wL.heap.size<=g/\g<w'.heap.size/\Holds encStr w' g 0 a.toArray)
def Ns {E:af.Env}{wL:Ω}{bx:Nat}{f:Ξ->Option Φ}{es:Ϧ}(h:af.CC E 134 #[oS bx] (NL f wL) wL)(N:∀ks:List Ξ,ks.Nodup->(∀s,s∈ks↔f s≠none)->ks.length<1000000):
  af.CC E 89 #[oS bx] (KU f wL) wL:=by
 refine af.oD func89 rfl ?_;refine af.fU (af.e9 (gZ _ rfl (.inl rfl) rfl (af.de ?_)));refine af.fU (af.e9 (gZ _ rfl (.inr rfl) rfl ?_));refine mJ (f2:=134) #[.tmp 4] #[oS bx] (R2:=NL f wL) rfl rfl ϰ (λb w=>ϰ) ϰ h λv w1 hR Y=>?_
 refine gZ _ rfl (.inl rfl) rfl (af.de ?_);refine ww {tmps:=#[oS bx,ϗ,.slice none 0 0,v,oS bx,v,ϗ,ϗ,ϗ],defers:=[]} ϰ ?_;have⟨ks,K,n,hv⟩:=hR;have z:=N ks K n;rcases hv with⟨rfl,rfl,t,d,rfl⟩|⟨cap,rfl,hle,t,d,rfl⟩
 .refine af.ij none ⟨_,func89⟩ (λw=>cX [] wL w) (λw t d h=>h.tape t d) ((cX.refl ..).tape t d) λw R W=>?_
  go_wp2_with fail;refine(Tryz.slices_Sort_string_none none 0 w).mono ?_;rintro e p ⟨rfl,rfl⟩;go_wp2;exact⟨p.tape,p.drawn,.slice none 0 0,ϰ,[],.nil,.nil,λl=>by rw[<-n];simp,R,.inl ⟨rfl,rfl⟩⟩
 .obtain⟨c,o⟩:∃c:List (List Γ),c=ks.map λk=>k.data.toList:=⟨_,rfl⟩
  have B:c.length=ks.length:=by rw[o];simp
  have A:ks.map Value.string=c.map encStr:=by
   rw[o,List.map_map];refine List.map_congr_left λk _=>?_
   simp[encStr]
  have M:∀l,l∈c↔f (aD l)≠none:=λl=>by
   rw[o,ad1,<-n];constructor
   .rintro⟨k,C,rfl⟩
    simpa [aD] using C
   .intro Z
    exact⟨aD l,Z,by simp[aD]⟩
  have F:c.Nodup:=by
   rw[o];refine List.Pairwise.map _ (λa b S he=>S ?_) K;have:a.data=b.data:=Array.ext' he;cases a;cases b;simp_all
  have I:c.length<4611686018427387904:=ϖ
  rw[<-B,A];clear A B z o n K;refine af.ij none ⟨_,func89⟩ (λw=>cX [] wL w/\wL.heap.size<w.heap.size/\Holds encStr w wL.heap.size 0 c.toArray) (λw t d h=>⟨h.1.tape t d,h.2.1,h.2.2⟩) ⟨?_,?_,?_⟩ λw R W=>?_
  .exact⟨rfl,by simp[ax],λk C _=>by show(wL.heap.push _)[k]? =_;rw[ac5 C];exact(τ C).symm⟩
  .show wL.heap.size<(wL.heap.push _).size
   simp
  .intro j V
   have r:j<c.length:=by simpa using V
   have q:(ax {wL with heap:=wL.heap.push (.cells (c.map encStr++replicate (cap-c.length) (Value.string ⟨#[]⟩)).toArray aI.lh (0,0))} t d).heap[wL.heap.size]? =some (.cells (c.map encStr++replicate (cap-c.length) (Value.string ⟨#[]⟩)).toArray aI.lh (0,0)):=by
    show(wL.heap.push _)[wL.heap.size]? =_;simp
   refine⟨?_,Lib.frozen_of_heap q _⟩;rw[Lib.cell_of_heap q,ϓ9];rw[List.getElem?_toArray,List.getElem?_append_left (by simpa using r),getElem!_pos c.toArray j V];simp[r]
  have⟨U,hg,O⟩:=R;generalize u:wL.heap.size=g at*;go_wp2_with fail;refine(Tryz.slices_Sort_string g 0 cap c w O hg I).mono ?_;rintro e p ⟨rfl,m,os,G⟩;have D:(c.mergeSort λx y=>decide (x<=y)).length=c.length:=List.length_mergeSort _;have J:Holds encStr p g 0 (c.mergeSort λx y=>decide (x<=y)).toArray:=by
   rw[G];exact holds_grow _ _ _ _ _ _ (by rw[size_putRow];exact hg) (holds_putRow _ _ _ _ _ _ (holds_ahead _ _ _ _ _ _ O) ϛ)
  have Q:aQ [g] w p:=by
   rw[G];exact(((rN w m).mono (T:=[g]) ϛ).trans (po encStr _ g 0 _) (λi hi=> .inl hi)).trans (z4 ..)
  have X:cX [] wL p:=U.trans Q.blk (by simp[u]);have P:g<p.heap.size:=ψ hg Q.size;have hp:(c.mergeSort λx y=>decide (x<=y)).Pairwise (·<=·):=BU;have L:(c.mergeSort λx y=>decide (x<=y)).Nodup:=(List.mergeSort_perm ..).nodup_iff.2 F;have H:∀l,l∈(c.mergeSort λx y=>decide (x<=y))↔f (aD l)≠none:=λl=>by rw[List.mem_mergeSort];exact M l
  clear G Q O U W;generalize (c.mergeSort λx y=>decide (x<=y))=rs at*;go_wp2;exact⟨p.tape,p.drawn,.slice (some ⟨g,0,none⟩) c.length cap,ϰ,rs,hp,L,H,X,.inr ⟨g,cap,by rw[D],by rw[u];exact ι _,P,J⟩⟩
end Sq
end aI
end
section
open Go.RowKit Go.Lib
def l9 (a b:Option (Bool×Ξ)):Option Nat:=match a,b with
 |none,_=>some 1
 |some _,none=>some 0
 |some x,some y=>if x=y then some 0 else none
section
variable {P:ω}{ops:Array Oper}{Q:Exit->Act->Ω->Prop}{a:Act}{w:Ω}{rest:List Oper}{o:Oper}
def JJ (b:wanted o (yielded ops a.tmps)=true)(v:Φ)(w1:Ω)(hr:(execOp a.eval o).run P w= .ok (.value v) w1)(h:wpList P ops Q rest (a.put o.dst v) w1):wpList P ops Q (o::rest) a w:=by
 unfold wpList;rw[φ b];refine .inl ?_;unfold Oper.wp;rw[hr];exact h
end
def Ls (a c:Bool)(xs b:Ξ):l9 (some (a,xs)) (some (c,b))=if(a==c&&xs==b)=true then some 0 else none:=by
 have e:((a==c&&xs==b)=true)↔(a,xs)=(c,b):=by rw[ε,ai7,Go.MapKept.bytes_beq,ai1]
 show(if(a,xs)=(c,b) then some 0 else none)=_
 by_cases h:(a,xs)=(c,b)
 .rw[φ h,φ (e.2 h)]
 .rw[ζ h,ζ λq=>h (e.1 q)]
def Tb {w:Ω}(b1 b2:Bool)(s1 s2:Ξ):aI.RT (lE.bin .eql aI.TH (aI.hv b1 s1) (aI.hv b2 s2)).sem w (.value (.bool (b1==b2&&s1==s2))) w #[]:=by
 have hg:prog.eqGuardType prog.depth aI.TH=false:=ϰ
 refine aI.RT.aT (x:= .bool (b1==b2&&s1==s2)) (aI.RT.aT (x:=()) (w1:=w) ?_ ?_) (.pure _)
 .unfold eqGuard
  simp only[aI.hv];refine aI.iO.aT (aI.iO.aT ?_);rw[hg];exact .pure _
 .exact aI.RT.aT (aI.B4 9998 b1 b2 s1 s2) (.pure _)
section
variable {ops:Array Oper}{Q:Exit->Act->Ω->Prop}{a:Act}{w:Ω}{rest:List Oper}{o:Oper}
def Sl (d:wanted o (yielded ops a.tmps)=true)(x y:Nat)(u:η)(c:o.op= .binOp .eql aI.TH (.tmp x) (.tmp y) u){b1 b2:Bool}{s1 s2:Ξ}(e:a.eval (.tmp x)=aI.hv b1 s1)(b:a.eval (.tmp y)=aI.hv b2 s2)(h:wpList prog ops Q rest (a.put o.dst (.bool (b1==b2&&s1==s2))) w):wpList prog ops Q (o::rest) a w:=by
 refine JJ d _ w ?_ h;have:=(Tb (w:=w) b1 b2 s1 s2).run;unfold execOp;rw[c];show(do pure (.value (<-(do eqGuard .eql aI.TH (.tmp x) (.tmp y) (a.eval (.tmp x)) (a.eval (.tmp y));binOp .eql aI.TH (a.eval (.tmp x)) (a.eval (.tmp y))))):Sem Next).run _ _=_;rw[e,b,qR _ _ _ _ rfl rfl];exact this
def Ep (g:wanted o (yielded ops a.tmps)=true)(t:η)(x:ab7)(i:o.op= .load t x)(b off:Nat)(j:a.eval x= .pointer (some ⟨b,off,none⟩)){cs:ϐ}{u:η}{f:Nat×Nat}{n:Nat}(hr:w.heap[b]? =some (.cells cs u f))(ha:(prog.underlying t).map (λd=>match d with|.struct _|.array _ _=>true|_=>false)=some true)(e:(prog.info? t).map (·.size)=some n)(c:off+n<=cs.size)(v:Φ)(hv:Value.agg (cs.extract off (off+n))=v)(h:wpList prog ops Q rest (a.put o.dst v) w):wpList prog ops Q (o::rest) a w:=by
 have⟨ev,h1,_⟩:=aI.kY hr ha e c;rw[hv] at h1;refine JJ g _ w ?_ h;have:=h1.run;unfold execOp;rw[i];show(do pure (.value (<-Instr.loadAt t (a.eval x))):Sem Next).run _ _=_;rw[j];exact this
end
theorem Hx (a b:Option (Bool×Ξ))(w:Ω):
  Calls prog 91 #[.agg (aI.cg a b)] w λe w'=>e= .returned (.tuple #[.int .i64 ((l9 a b).getD 0),.bool (l9 a b).isSome])/\aQ [] w w':=by
 go_enter func91,ntmps91;go_wp2_with (with_reducible refine bA rfl ?_);refine eQ rfl 164 _ rfl (.agg (aI.cg a b)) rfl ?_;intro w1 b1 l1 j i;have c0:w1.cell? ⟨b1,0,none⟩=some (.bool a.isSome):=by rw[i.cell];rfl
 have c1:w1.cell? ⟨b1,1,none⟩=some (.bool b.isSome):=by rw[i.cell];rfl
 cases a with
 |none=>
  simp only[Option.isSome_none] at c0;go_wp2_with (with_reducible first|refine au 161 rfl ?_|refine dX 161 rfl ?_)
  go_ret2
  exact⟨rfl,j⟩
 |some x=>
  simp only[Option.isSome_some] at c0;cases b with
  |none=>
   simp only[Option.isSome_none] at c1;go_wp2_with (with_reducible first|refine au 161 rfl ?_|refine dX 161 rfl ?_)
   go_ret2
   exact⟨rfl,j⟩
  |some y=>
   simp only[Option.isSome_some] at c1;go_wp2_with (with_reducible first|refine au 161 rfl ?_|refine dX 161 rfl ?_);obtain⟨g,xs⟩:=x;obtain⟨f,d⟩:=y;refine Ep rfl 161 _ rfl b1 2 rfl i ϰ (n:=2) ϰ (by simp[aI.cg,Value.cells]) (aI.hv g xs) (by simp[aI.cg,Value.cells,aI.hv]) ?_
   go_wp2_with (with_reducible first|refine au 161 rfl ?_|refine dX 161 rfl ?_);refine Ep rfl 161 _ rfl b1 4 rfl i ϰ (n:=2) ϰ (by simp[aI.cg,Value.cells]) (aI.hv f d) (by simp[aI.cg,Value.cells,aI.hv]) ?_;go_wp2_with (with_reducible first|refine au 161 rfl ?_|refine dX 161 rfl ?_)
   refine Sl rfl 15 18 _ rfl (b1:=g) (b2:=f) (s1:=xs) (s2:=d) rfl rfl ?_;have c:=Ls g f xs d;cases h:(g==f&&xs==d) with
   |true=>
    have k:Hid (l9 (some (g,xs)) (some (f,d))=some 0):=by show _=_;rw[c,h];rfl
    clear c;go_wp2_with (with_reducible first|refine au 161 rfl ?_|refine dX 161 rfl ?_)
    go_ret2
    exact⟨by rw[k.out];rfl,j⟩
   |false=>
    have k:Hid (l9 (some (g,xs)) (some (f,d))=none):=by show _=_;rw[c,h];rfl
    clear c;go_wp2_with (with_reducible first|refine au 161 rfl ?_|refine dX 161 rfl ?_)
    go_ret2
    exact⟨by rw[k.out];rfl,j⟩
end
section
open Go.RowKit Go.Lib Go.Sort
open Go.Conc (base G stepG_value listed)
namespace aI
namespace Sq
abbrev WK:Nat:=90
def W3 (m:Nat)(wL:Ω)(v:Φ)(w':Ω):Prop:=v=oS wL.heap.size/\∃t d,w'=ax {wL with heap:=wL.heap.push (.cells #[.map (some m)] RI (0,0))} t d
def pC {E:af.Env}{f:ac0}{k:ϕ}{R:ϝ}{a:Act}{wL w1:Ω}{ops:Ϙ}{i:Nat}{rest:ϑ}{o:Oper}(v:Φ)(b:ops[i]? =some o)(hg:o.guard=none)(hr:∀t d,(execOp a.eval o).run PP (ax wL t d)= .ok (.value v) (ax w1 t d))(h:af.CI E f (.inRegion ops rest::k) R (a.put o.dst v) w1)(tO:nI PP S0 E0 true o=true:=by kernel_rfl):af.CI E f (.inRegion ops (i::rest)::k) R a wL:=by
 refine af.WO b tO hg λt d=>?_
 rw[hr];exact(af.pD t d).2 h
def GW {E:af.Env}{f:ac0}{k:ϕ}{R:ϝ}{a:Act}{wL:Ω}{ops:Ϙ}{i:Nat}{rest:ϑ}{o:Oper}(g j:Nat)(t:ops[i]? =some o)(hg:o.guard=none)(l:o.op= .makeFunc (.func g) #[] #[.tmp j])(h:af.CI E f (.inRegion ops rest::k) R (a.put o.dst (.func (.func g) #[] #[a.eval (.tmp j)])) wL):af.CI E f (.inRegion ops (i::rest)::k) R a wL:=λCS π M A y ha hd v=>by
 have m:∀c:Array Φ,wanted o (yielded ops c)=true:=λc=>by simp[wanted,hg]
 have p:(base f).kind≠.early:=by simp[base]
 have hv:VV (iG E.H wL) (a.eval (.tmp j)):=j6 (x:= .tmp j) ha rfl;have hr:∀w es,(execOp (ba π a []).eval o).runT PP w es=(.ok (.value (.func (.func g) #[] #[(ba π a []).eval (.tmp j)])) w,es):=λw es=>by
  unfold execOp;rw[l];show(do pure (.value (<-Instr.makeFunc (.func g) ((#[]:Array ab7).map (ba π a []).eval) ((#[.tmp j]:Array ab7).map (ba π a []).eval))):Sem Next).runT PP w es=_;rw[show(#[]:Array ab7).map (ba π a []).eval=#[] by simp,show(#[.tmp j]:Array ab7).map (ba π a []).eval=#[(ba π a []).eval (.tmp j)] by simp];rfl
 have n:∀w,listed PP (base f).fn (ba π a []) o w=#[]:=λw=>by
  unfold listed;rw[show(execOp (ba π a []).eval o).events PP w #[]=#[] from congrArg Prod.snd (hr w #[])];simp[seen]
 refine af.eJ y (λw=>by rw[stepG_value t (m _) p (by rw[<-Sem.runT_fst PP _ w #[],hr]),n]) λz s b=>?_
 have e:(ba π a []).put o.dst (.func (.func g) #[] #[(ba π a []).eval (.tmp j)])=ba π (a.put o.dst (.func (.func g) #[] #[a.eval (.tmp j)])) []:=by
  have h1:=ut (π:=π) a o.dst (.func (.func g) #[] #[a.eval (.tmp j)]);have h2:ren π (.func (.func g) #[] #[a.eval (.tmp j)])= .func (.func g) #[] #[(ba π a []).eval (.tmp j)]:=by
   have u:(ba π a []).eval (.tmp j)=ren π (a.eval (.tmp j)):=by
    show(a.tmps.map (ren π)).getD j ϗ=_;rw[k8];rfl
   rw[u];simp[qz]
  rw[<-h2];exact h1
 rw[e] at b;refine h CS π z s b (jW ha λr hr=>?_) ((put_defers ..).trans hd) v;cases hr with
 |first d _=>simp at d
 |Jr d q=>
  simp at d;subst d;exact hv r q
def Vs {E:af.Env}{wL:Ω}(m:Nat):af.CC E WK #[.map (some m)] (W3 m wL) wL:=by
 refine af.oD func90 rfl ?_;refine af.fU (af.e9 (pC (w1:={wL with heap:=wL.heap.push (.cells #[.map (some m)] RI (0,0))}) (pb wL.heap.size) rfl rfl (λt d=>ϰ) ?_));refine gZ _ rfl (.inl rfl) rfl (af.de ?_);refine af.fU (af.e9 (GW WJ 1 rfl rfl rfl ?_))
 refine gZ _ rfl (.inl rfl) rfl (af.de (af.Jj ?_));exact⟨oS wL.heap.size,ϰ,rfl,wL.tape,wL.drawn,rfl⟩
end Sq
end aI
def jk (x:DS)(n:Nat)(s:Int):aI.jO:=aI.k9 (sP s (aO x n)) (sP 2 (aO x n))
def jB (b a:aI.jO)(c:List (List Γ)):List (List Γ×Nat):=c.filterMap λl=>(l9 (b (aD l)) (a (aD l))).map λs=>(l,s)
def kI (a c:aI.jO)(b:List (List Γ)):List (List Γ):=b.filter λl=>(l9 (a (aD l)) (c (aD l))).isNone
def cU (ss:List (List Γ×Nat)):List Φ:=ss.flatMap λp=>[.string (aD p.1),.int .i64 p.2]
def KC (set:Int)(fs:List dl)(s:Ξ)(h:sP set fs s≠none):∃f∈fs,s=aD f.path:=by
 have a:∀(fs:List dl)(g:Ξ->Option Ξ),fs.foldl (λg f=>if(f.set:Int)=set then λs=>if s=aD f.path then some (aD f.content) else g s else g) g s≠none->(∃f∈fs,s=aD f.path)\/g s≠none:=by
  intro fs
  induction fs with
  |nil=>intro g h;exact .inr h
  |cons f fs d=>
   intro g h;rcases d _ h with⟨x,hx,e⟩|h
   .exact .inl ⟨x,by simp[hx],e⟩
   .dsimp only at h
    by_cases b:(f.set:Int)=set
    .rw[φ b] at h
     by_cases c:s=aD f.path
     .exact .inl ⟨f,ϛ,c⟩
     .rw[ζ c] at h;exact .inr h
    .rw[ζ b] at h;exact .inr h
 rcases a fs _ h with h|h
 .exact h
 .exact absurd rfl h
def UY {x:DS}{n:Nat}{s:Ξ}(h:aI.comb (jk x n 0 s) (jk x n 1 s)≠none):∃f∈aO x n,s=aD f.path:=by
 have one:∀set,jk x n set s≠none->∃f∈aO x n,s=aD f.path:=λset a=>by
  unfold jk aI.k9 at a;split at a
  .exact absurd rfl a
  .rename_i b
   by_cases h1:sP set (aO x n) s=none
   .exact KC 2 _ s λq=>b (h1.trans q.symm)
   .exact KC set _ s h1
 by_cases h0:jk x n 0 s=none
 .by_cases h1:jk x n 1 s=none
  .rw[h0,h1] at h;exact absurd rfl h
  .exact one 1 h1
 .exact one 0 h0
def few {x:DS}{n:Nat}(ks:ϱ)(g:ks.Nodup)(h:∀s∈ks,aI.comb (jk x n 0 s) (jk x n 1 s)≠none):ks.length<=54:=by
 have i:(aO x n).length<=54:=by unfold aO;rw[ah1];exact fy x n
 have h1:(ks.map λk=>k.data.toList).Nodup:=by
  refine List.Pairwise.map _ (λa b c l=>c ?_) g;have:a.data=b.data:=Array.ext' l;cases a;cases b;simp_all
 have h2:=kN (ks.map λk=>k.data.toList) ((aO x n).map (·.path)) h1 λa ha=>by
  obtain⟨k,j,rfl⟩:=ad1.1 ha;have⟨f,d,e⟩:=UY (h k j);refine ad1.2 ⟨f,d,?_⟩;rw[e];simp[aD]
 simp at h2;omega
def aI.dS.few {es:Ϧ}{c:Nat}{f:Ξ->Option Φ}(h:aI.dS es c f):∃ks:List Ξ,ks.Nodup/\ks.length=es.size/\∀s∈ks,f s≠none:=by
 refine⟨es.toList.map λe=>match e.key with|.string s=>s|_=>⟨#[]⟩,?_,ϛ,λs d=>?_⟩
 .have l:=((Go.MapKept.stamped_iff es c).1 h.stamped).2.2
  refine(ϑ8).2 (l.imp_of_mem fun {a b} ha k i g=>?_);have⟨s,d⟩:=aI.jK (h.keys a ha);have⟨s',j⟩:=aI.jK (h.keys b k);rw[d,j] at g i;simp only at g;subst g
  simp_all
 .obtain⟨e,g,rfl⟩:=ad1.1 d
  have⟨s,d⟩:=aI.jK (h.keys e g);rw[d];rw[(h.has s e.val).2 ⟨e,g,d,rfl⟩];simp
end
section
open Go.RowKit Go.Lib Go.Sort
open Go.Conc (base G)
def rR:Elem prog 109 168 2 24:=⟨ϰ,ϰ,ϖ⟩
def Q7 {a b:Option (Bool×Ξ)}:aI.comb a b≠none↔(a≠none\/b≠none):=by
 unfold aI.comb;cases a<;>cases b<;>simp
def World.ownsRow.amf {S:ϑ}{w w':Ω}{base:Nat}{e:η}{size:Nat}{v:Φ}{n:Nat}{xs:ϡ}(h:w.ownsRow base e size v n xs)(f:cX S w w')(d:∀g,v.ownBlock=some g->g∉S):w'.ownsRow base e size v n xs:=by
 refine⟨h.1,h.2.imp id λ⟨g,cap,a,e1,e2,b,c⟩=>⟨g,cap,a,e1,e2,?_,c⟩⟩;rw[f.block g (Ψ.1 b).1 (d g (by rw[e1];rfl))];exact b
def EC (c b:aI.jO)(a:List (List Γ))(k:Nat)(d:k<a.length):jB c b (a.take (k+1))=jB c b (a.take k)++((l9 (c (aD a[k])) (b (aD a[k]))).map λs=>(a[k],s)).toList:=by
 unfold jB;rw[ac4 d,List.filterMap_append]
 congr 1
 all_goals (cases h:l9 (c (aD a[k])) (b (aD a[k]))<;>simp[h])
def GP (c b:aI.jO)(a:List (List Γ))(k:Nat)(d:k<a.length):kI c b (a.take (k+1))=kI c b (a.take k)++if(l9 (c (aD a[k])) (b (aD a[k]))).isNone then [a[k]] else []:=by
 unfold kI;rw[ac4 d,ϓ2]
 congr 1
 all_goals (cases h:l9 (c (aD a[k])) (b (aD a[k]))<;>simp[h])
def Hr (b c:aI.jO)(a:List (List Γ)):(jB b c a).length<=a.length:=List.length_filterMap_le ..
def Jh (b c:aI.jO)(a:List (List Γ)):(kI b c a).length<=a.length:=ϑ7 ..
def tV (a b:List (List Γ×Nat)):cU (a++b)=cU a++cU b:=by simp[cU]
section
variable {ops:Array Oper}{Q:Exit->Act->Ω->Prop}{a:Act}{w:Ω}{rest:List Oper}{o:Oper}
def wT {t:η}{x y:ab7}{b:Bool}(_:o.op= .lookup t x y b)(h:aj (wpList prog ops Q (o::rest) a w)):wpList prog ops Q (o::rest) a w:=h
def K9 (hg:o.guard=none)(t kt vt:η)(x y:ab7)(g:o.op= .lookup t x y false)(e:prog.underlying t=some (.map kt vt))(i:prog.underlying kt=some .string){z:Φ}(d:(prog.info? vt).bind (·.zero)=some z){m c:Nat}{es:Ϧ}{f:Ξ->Option Φ}{s:Ξ}(j:a.eval x= .map (some m))(k:a.eval y= .string s)(hm:w.heap[m]? =some (.map es c))(b:aI.dS es c f)(v:Φ)(hv:(f s).getD z=v)(h:wpList prog ops Q rest (a.put o.dst v) w):wpList prog ops Q (o::rest) a w:=by
 refine cT hg v w ?_ h;have:=(aI.ry (t:=t) (s:=s) e i d hm b).run;rw[hv] at this;unfold execOp;rw[g];show(do pure (.value (<-Instr.lookup t (a.eval x) (a.eval y) false)):Sem Next).run _ _=_;rw[j,k];exact this
end
def _root_.Go.World.ownsRow.weak {w:Ω}{base a:Nat}{e:η}{size:Nat}{v:Φ}{n:Nat}{xs:ϡ}(h:w.ownsRow base e size v n xs)(d:a<=base):w.ownsRow a e size v n xs:=
 ⟨h.1,h.2.imp id λ⟨g,cap,b,e1,e2,c⟩=>⟨g,cap,b,e1,ac7 d e2,c⟩⟩
def W5 (x:DS)(n:Nat)(wL:Ω)(v:Φ)(w':Ω):Prop:=∃(a:List (List Γ)) (b c:Φ),a.Pairwise (·<=·)/\a.Nodup/\(∀l,l∈a↔aI.comb (jk x n 0 (aD l)) (jk x n 1 (aD l))≠none)/\
 v= .tuple #[b,c]/\cX [] wL w'/\w'.ownsRow wL.heap.size 168 2 b (jB (jk x n 0) (jk x n 1) a).length (cU (jB (jk x n 0) (jk x n 1) a))/\
 w'.ownsRow wL.heap.size 9 1 c (kI (jk x n 0) (jk x n 1) a).length (hU (kI (jk x n 0) (jk x n 1) a))
open aI aI.Sq in
theorem Vt {E:af.Env}{wL:Ω}{d bl n:Nat}{x:DS}(hd:aI.iC d bl n x wL):af.CC E 55 #[.pointer (some ⟨d,0,none⟩)] (W5 x n wL) wL:=by
 refine af.oD func55 rfl ?_;refine af.fU (af.e9 (gZ _ rfl (.inl rfl) rfl (gZ _ rfl (.inl rfl) rfl (af.de ?_))));refine af.fU (af.e9 (gZ _ rfl (.inl rfl) rfl (af.de ?_)))
 refine af.fU (af.e9 (gZ _ rfl (.inl rfl) rfl (af.de ?_)));refine af.fU (af.e9 (gZ _ rfl (.inr rfl) rfl ?_));refine mJ (f2:=88) #[.tmp 11] #[.pointer (some ⟨d,0,none⟩)] (R2:=aih x n wL) rfl rfl ϰ (λb w=>ϰ) ϰ (Jp hd) λv w1 hR _=>?_
 obtain⟨es,c,rfl,⟨t1,d1,rfl⟩,hD⟩:=hR;refine(af.pD t1 d1).2 ?_;obtain⟨es',c',f,e0,hm,hf⟩:=hD;cases e0;have hfix:=GH (a:=jk x n 0) (b:=jk x n 1) (es:=es) (c:=c) ⟨es,c,f,rfl,hm,hf⟩;have hf':∀s,f s=comb (jk x n 0 s) (jk x n 1 s):=hf;obtain⟨w1,hw1⟩:∃w1,w1={wL with heap:=wL.heap.push (.map es c)}:=⟨_,rfl⟩
 rw[<-hw1];have hes:es.size<=54:=by
  obtain⟨ks,k1,k2,k3⟩:=hm.few;rw[<-k2];exact few (x:=x) (n:=n) ks k1 λs hs=>by rw[<-hf'];exact k3 s hs
 have B1:cX [] wL w1:=by
  rw[hw1];exact⟨rfl,ϛ,λk hk _=>by show(wL.heap.push _)[k]? =_;rw[ac5 hk];exact(τ hk).symm⟩
 have hM1:w1.heap[wL.heap.size]? =some (.map es c):=by rw[hw1];simp
 have s1:w1.heap.size=wL.heap.size+1:=by rw[hw1];simp
 clear hw1;refine gZ _ rfl (.inl rfl) rfl (af.de ?_);refine af.fU (af.fU (af.e9 (gZ _ rfl (.inr rfl) rfl ?_)));refine mJ (f2:=WK) #[.tmp 13] #[.map (some wL.heap.size)] (R2:=W3 wL.heap.size w1) rfl rfl ϰ (λb w=>ϰ) ϰ (Vs _) λv w2 hR _=>?_
 obtain⟨rfl,t2,d2,rfl⟩:=hR;refine(af.pD t2 d2).2 ?_;obtain⟨w2,hw2⟩:∃w2,w2={w1 with heap:=w1.heap.push (.cells #[.map (some wL.heap.size)] RI (0,0))}:=⟨_,rfl⟩
 rw[<-hw2];have B2:cX [] w1 w2:=by
  rw[hw2];exact⟨rfl,ϛ,λk hk _=>by show(w1.heap.push _)[k]? =_;rw[ac5 hk];exact(τ hk).symm⟩
 have hB2:w2.heap[w1.heap.size]? =some (.cells #[.map (some wL.heap.size)] RI (0,0)):=by rw[hw2];simp
 have s2:w2.heap.size=w1.heap.size+1:=by rw[hw2];simp
 clear hw2;have hM2:w2.heap[wL.heap.size]? =some (.map es c):=(B2.block _ ϖ ϛ).trans hM1;refine mJ (f2:=89) #[.tmp 14] #[oS w1.heap.size] (R2:=KU f w2) rfl rfl ϰ (λb w=>ϰ) ϰ
  (Ns (es:=es) (Jq (ace hB2 hM2 hm hfix ϖ)) λks k1 k2=>Nat.lt_of_le_of_lt (few (x:=x) (n:=n) ks k1 λs hs=>by rw[<-hf'];exact(k2 s).1 hs) ϖ) λv w3 hR _=>?_
 obtain⟨ps,hs,hn,hmem,B3,hv⟩:=hR;have hM3:w3.heap[wL.heap.size]? =some (.map es c):=(B3.block _ ϖ ϛ).trans hM2;have BL:cX [] wL w3:=(B1.trans B2).trans B3;obtain⟨ad,cap,rfl,hcell⟩:∃ad cap,v= .slice ad ps.length cap/\(0<ps.length->∃g,ad=some ⟨g,0,none⟩/\g<w3.heap.size/\Holds encStr w3 g 0 ps.toArray):=by
  rcases hv with⟨rfl,rfl⟩|⟨g,cap,rfl,_,h2,h3⟩
  .exact⟨none,0,rfl,λh=>absurd h ϛ⟩
  .exact⟨_,cap,rfl,λ_=>⟨g,rfl,h2,h3⟩⟩
 have hpl:ps.length<=54:=by
  have:=few (x:=x) (n:=n) (ps.map aD) (List.Pairwise.map _ (λa b hab he=>hab (by simpa [aD] using he)) hn) λs hs=>by
   obtain⟨l,hl,rfl⟩:=ad1.1 hs;rw[<-hf'];exact(hmem l).1 hl
  simpa using this
 clear hv B1 B2 B3 hM1 hM2 hB2;refine pC (w1:=w3) (.int .i64 ps.length) rfl rfl (λt d=>ϰ) ?_;refine gZ _ rfl (.inr rfl) rfl (af.de ?_)
 refine ww {tmps:=#[.pointer (some ⟨d,0,none⟩),undef,.slice none 0 0,.slice none 0 0,.slice none 0 0,.slice none 0 0,.map (some wL.heap.size),undef,undef,undef,undef,.pointer (some ⟨d,0,none⟩),.map (some wL.heap.size),.map (some wL.heap.size),oS w1.heap.size,.slice ad ps.length cap,.int .i64 ps.length,.int .i64 0,undef,undef,undef,undef,undef,undef,undef,undef,undef,undef,undef,undef,undef,undef,undef,undef,undef,undef,undef,undef,undef,undef,undef,undef],defers:=[]} ϰ ?_
 generalize hmm:wL.heap.size=m at*;generalize w1.heap.size=qb at*;refine af.ij none ⟨_,func55⟩ (λw=>cX [] wL w/\w.heap[m]? =some (.map es c)/\(0<ps.length->∃g,ad=some ⟨g,0,none⟩/\g<w.heap.size/\Holds encStr w g 0 ps.toArray)) (λw t d h=>⟨h.1.tape t d,h.2.1,h.2.2⟩) ⟨BL,hM3,hcell⟩ λw hI hsz=>?_
 obtain⟨hB,hM,hC⟩:=hI;clear BL hM3 hcell hsz;go_wp2_with fail
 go_loopw [4,5,17] (λu4 u5 u17 wr=>∃k:Nat,u17= .int .i64 k/\k<=ps.length/\aQ [] w wr/\wr.ownsRow w.heap.size 168 2 u4 (jB (jk x n 0) (jk x n 1) (ps.take k)).length (cU (jB (jk x n 0) (jk x n 1) (ps.take k)))/\
  wr.ownsRow w.heap.size 9 1 u5 (kI (jk x n 0) (jk x n 1) (ps.take k)).length (hU (kI (jk x n 0) (jk x n 1) (ps.take k)))/\∀g,u4.ownBlock=some g->u5.ownBlock=some g->False) (λ_ _ u17 _=>ps.length-(intOf u17).toNat)
 case atStart=>exact⟨0,rfl,ϖ,aQ.refl _ _,World.ownsRow_nil _ _ _ _,World.ownsRow_nil _ _ _ _,λg h=>by cases h⟩
 case round=>
  obtain⟨k,rfl,hk,fk,ho1,ho2,MJ⟩:=hrel
  by_cases hlt:k<ps.length
  .obtain⟨g,rfl,hg,hH⟩:=hC ϖ
   have hc1:wr.cell? ⟨g,k,none⟩=some (.string (aD ps[k])):=by
    have h1:=(hH k (by simpa using hlt)).1;rw[getElem!_pos ps.toArray k (by simpa using hlt)] at h1;have h2:wr.heap[g]? =w.heap[g]? :=fk.block g hg ϛ;unfold World.cell? at h1⊢;simp only[Nat.zero_add] at h1;rw[h2];simpa [encStr,aD] using h1
   have hM':wr.heap[m]? =some (.map es c):=(fk.block m (Ψ.1 hM).1 ϛ).trans hM;have hs1:=EC (jk x n 0) (jk x n 1) ps k hlt;have hs2:=GP (jk x n 0) (jk x n 1) ps k hlt;have hl1:(jB (jk x n 0) (jk x n 1) (ps.take k)).length<=54:=by have:=Hr (jk x n 0) (jk x n 1) (ps.take k);rw[ac8] at this;omega
   have hl2:(kI (jk x n 0) (jk x n 1) (ps.take k)).length<=54:=by have:=Jh (jk x n 0) (jk x n 1) (ps.take k);rw[ac8] at this;omega
   generalize ps[k]=p at*;have hfp:(f (aD p)).getD zF= .agg (aI.cg (jk x n 0 (aD p)) (jk x n 1 (aD p))):=by rw[hf',An]
   go_wp2_with (with_reducible refine wT rfl ?_);refine K9 rfl 153 9 164 _ _ rfl Of Og N0 rfl rfl hM' hm _ hfp ?_;clear hfp hM' hc1;have HS1:Hid (jB (jk x n 0) (jk x n 1) (ps.take (k+1))=jB (jk x n 0) (jk x n 1) (ps.take k)++((l9 (jk x n 0 (aD p)) (jk x n 1 (aD p))).map λs=>(p,s)).toList):=hs1
   have HS2:Hid (kI (jk x n 0) (jk x n 1) (ps.take (k+1))=kI (jk x n 0) (jk x n 1) (ps.take k)++if(l9 (jk x n 0 (aD p)) (jk x n 1 (aD p))).isNone then [p] else []):=hs2;clear hs1 hs2;generalize jk x n 0 (aD p)=fa at HS1 HS2⊢;generalize jk x n 1 (aD p)=fb at HS1 HS2⊢;go_wp2_with (with_reducible refine wT rfl ?_);refine(Hx fa fb wr).mono ?_
   rintro e w4 ⟨rfl,f4⟩;have WF:=fk.trans f4;have Uv:=f4.owns ho1;have Uu:=f4.owns ho2;cases hsrc:l9 fa fb with
   |some sd=>
    rw[hsrc] at HS1 HS2;simp only[Option.getD_some,Option.isSome_some];go_wp2_with (with_reducible first|refine bM 168 rfl ?_|refine bV rfl ?_|refine bW rfl ?_);refine cT rfl (.agg #[.string (aD p),.int .i64 sd]) w4 ϰ ?_;go_wp2_with (with_reducible first|refine bV rfl ?_|refine bW rfl ?_)
    refine iu rfl 109 168 2 24 rR _ rfl (.agg #[.string (aD p),.int .i64 sd]) rfl rfl ?_;intro w8 b8 l8 f8 r8;go_wp2_with (with_reducible first|refine bV rfl ?_|refine bW rfl ?_);have zW:=f8.owns Uv;have IT:=f8.owns Uu;have Qq:=WF.trans f8;have hbase:w.heap.size<=w8.heap.size:=Qq.size
    refine ja rfl 109 168 2 24 rR _ _ rfl w.heap.size u4 _ _ rfl zW b8 1 1 [.string (aD p),.int .i64 sd] rfl _ _ r8 rfl rfl (by simp[Value.oneCell']) ϖ ϖ ϖ hbase ?_;intro g' cap' w9 IS f9 hg';have Qp:=Qq.trans f9 (by intro j hj;right;simp at hj;exact(zW.lt j hj).1)
    have alw:=f9.owns IT (by intro q hq hq';simp at hq;exact MJ q hq hq');have Qc:∀q,g'=q->u5.ownBlock=some q->False:=λq e hq=>by
     subst e;rcases hg' with h|h
     .exact MJ g' h hq
     .have:=(IT.lt g' hq).2;omega
    clear ho1 ho2 Uv Uu zW IT r8 f8 f9 l8 fk WF Qq f4 hbase MJ hg';go_wp2
    go_roundw
    case rel=>
     refine⟨k+1,by go_num,ϖ,Qp,?_,?_,λq h=>Qc q (by simpa [Value.ownBlock] using h)⟩
     .rw[HS1.out,tV]
      simpa [cU] using IS
     .rw[HS2.out]
      simpa using alw
    case measure=>simp[intOf];omega
   |none=>
    rw[hsrc] at HS1 HS2;simp only[Option.getD_none,Option.isSome_none];go_wp2_with (with_reducible first|refine bM 168 rfl ?_|refine bV rfl ?_|refine bW rfl ?_);refine iu rfl 45 9 1 16 jL _ rfl (.string (aD p)) rfl rfl ?_;intro w8 b8 l8 f8 r8;go_wp2_with (with_reducible first|refine bV rfl ?_|refine bW rfl ?_)
    have zW:=f8.owns Uv;have IT:=f8.owns Uu;have Qq:=WF.trans f8;have hbase:w.heap.size<=w8.heap.size:=Qq.size;refine ja rfl 45 9 1 16 jL _ _ rfl w.heap.size u5 _ _ rfl IT b8 1 1 [.string (aD p)] rfl _ _ r8 rfl rfl (by simp[Value.oneCell']) ϖ ϖ ϖ hbase ?_;intro g' cap' w9 IS f9 hg'
    have Qp:=Qq.trans f9 (by intro j hj;right;simp at hj;exact(IT.lt j hj).1);have alx:=f9.owns zW (by intro q hq hq';simp at hq;exact MJ q hq' hq);have Qc:∀q,u4.ownBlock=some q->g'=q->False:=λq hq e=>by
     subst e;rcases hg' with h|h
     .exact MJ g' hq h
     .have:=(zW.lt g' hq).2;omega
    clear ho1 ho2 Uv Uu zW IT r8 f8 f9 l8 fk WF Qq f4 hbase MJ hg';go_wp2
    go_roundw
    case rel=>
     refine⟨k+1,by go_num,ϖ,Qp,?_,?_,λq h h'=>Qc q h (by simpa [Value.ownBlock] using h')⟩
     .rw[HS1.out]
      simpa using alx
     .rw[HS2.out]
      simpa [hU,encStr,aD] using IS
    case measure=>simp[intOf];omega
  .have hk2:k=ps.length:=ϖ
   subst hk2;rw[θ (ι _)] at ho1 ho2;have hbw:m<=w.heap.size:=by have:=hB.size;omega
   go_wp2_with fail;refine af.fU (af.e9 (gZ _ rfl (.inr rfl) rfl (gZ _ rfl (.inr rfl) rfl (gZ _ rfl (.inl rfl) rfl (gZ _ rfl (.inl rfl) rfl (af.de (af.Jj ?_)))))));refine⟨.tuple #[u4,u5],ϰ,ps,u4,u5,hs,hn,λl=>by rw[<-hf'];exact hmem l,rfl,hB.trans fk.blk,?_,?_⟩
   .rw[hmm];exact ho1.weak hbw
   .rw[hmm];exact ho2.weak hbw
end
section
open Go.RowKit Go.Lib
def zS:∃i,prog.info? 5=some i/\i.size=1/\i.bytes=1/\i.zero=some (.int .u8 0):=by
 have:=wj;cases a:prog.info? 5 with
 |none=>simp[a] at this
 |some i=>simp only[a,ξ,af5,ai1] at this;exact⟨i,rfl,this⟩
def AR (b:Nat)(w w':Ω):Prop:=∀k o,w.heap[k]? =some o->k≠b->(∀c f,o≠.cells c 5 f)->w'.heap[k]? =some o
def AR.refl (b:Nat)(w:Ω):AR b w w:=λ_ _ h _ _=>h
def AR.trans {b:Nat}{w w' a:Ω}(h:AR b w w')(d:AR b w' a):AR b w a:=λk o h1 h2 c=>d k o (h k o h1 h2 c) h2 c
def AR.cell {b off:Nat}{w:Ω}(v:Φ):AR b w (w.setCell ⟨b,off,none⟩ v):=λk o h1 h2 _=>by rw[(Go.Conc.aside_setCell w ⟨b,off,none⟩ v).block k h2];exact h1
def AR.yw {b:Nat}{w w':Ω}(h:aQ [] w w'):AR b w w':=λk o h1 _ _=>by rw[h.block k (Ψ.1 h1).1 ϛ];exact h1
def AR.grown {b B n:Nat}{w w':Ω}{v:Φ}{xs:ϡ}(a:w.ownsRow B 5 1 v n xs)(h:w.grownBy w' v.ownBlock):AR b w w':=λk o h1 _ c=>by
 rw[h.block k (Ψ.1 h1).1 λe=>?_]
 .exact h1
 .rcases a.2 with⟨rfl,_⟩|⟨g,cap,cur,rfl,_,hg,_⟩
  .cases e
  .have:g=k:=by simpa [Value.ownBlock] using e.symm
   subst this;rw[hg] at h1;exact c _ _ (ac2 h1).symm
def xJ (B b:Nat)(bs:ϡ)(w:Ω)(h:IsBuilder 146 5 B b bs w):
  Calls prog 129 #[.pointer (some ⟨b,0,none⟩)] w λe w'=>e= .returned (.tuple #[])/\BuilderAt 146 5 B b (.pointer (some ⟨b,0,none⟩)) bs w'/\Below B w w'/\AR b w w':=by
 rcases h with h|h
 .refine(pT b w h.cell0 h.shape h.frozen0).mono ?_
  rintro e w' ⟨rfl,rfl⟩;exact⟨rfl,h.used _,(Below.refl B w).setCell (p:=⟨b,0,none⟩) h.1 _,AR.cell _⟩
 .refine(qU b w h.cell0).mono ?_
  rintro e w' ⟨rfl,rfl⟩;exact⟨rfl,h,Below.refl B _,AR.refl _ _⟩
def Ng:Elem prog 85 5 1 1:=⟨rl,ϰ,ϖ⟩
def La (B b:Nat)(bs:ϡ)(c:Int)(w:Ω)(h:IsBuilder 146 5 B b bs w)(F:bs.length+1<=1000000)(J:B<=w.heap.size):
  Calls prog 179 #[.pointer (some ⟨b,0,none⟩),.int .u8 c] w λe w'=>e= .returned .nilIface/\BuilderAt 146 5 B b (.pointer (some ⟨b,0,none⟩)) (bs++[.int .u8 c]) w'/\Below B w w'/\AR b w w':=by
 have⟨N,O,s⟩:=zS;go_enter func179,ntmps179;go_wp2_with fail;refine(xJ B b bs w h).mono ?_;rintro e w1 ⟨rfl,D,d,C⟩;have⟨H,v,l,o,z⟩:=D;have c0:w1.cell? ⟨b,0,none⟩=some (.pointer (some ⟨b,0,none⟩)):=by rw[Lib.cell_of_heap l];rfl
 have c1:w1.cell? ⟨b,1,none⟩=some v:=by rw[Lib.cell_of_heap l];rfl
 have t:b<w1.heap.size:=(Ψ.1 l).1;go_wp2_with (with_reducible first|refine bV rfl ?_|refine bW rfl ?_);refine iu rfl 85 5 1 1 Ng _ rfl (.int .u8 c) rfl rfl ?_;intro x b2 l2 f2 r2;have f:=f2.owns o
 have q:x.heap[b]? =some (.cells #[.pointer (some ⟨b,0,none⟩),v] 146 (0,0)):=by rw[f2.block b t ϛ];exact l
 have K:=d.size;have E:=f2.size;have m:∀j u,[Value.int .u8 c][j]? =some u->x.cell? ((⟨b2,0,none⟩:Addr).add j)=some u:=λj u M=>by
  rw[Addr.add_mid,r2.cell];simpa [Value.cells] using M
 clear c0 c1;go_wp2_with (at_builtin;refine wpList_append_own _ rfl _ _ 85 rfl B 5 N (.int .u8 0) 1 1 rl O s.2.2 s.1 s.2.1 rfl (by decide) _ _ _ rfl f ⟨b2,0,none⟩ 1 1 [.int .u8 c] rfl rfl m (by simp[Value.oneCell']) ?c3 ?c4 ?c5 ?_)
 case c3=>unfold maxLen;omega
 case c4=>omega
 case c5=>omega
 intro L r i a _;have n:r.heap[b]? =some (.cells #[.pointer (some ⟨b,0,none⟩),v] 146 (0,0)):=by
  rw[a.block b ϖ (λe=>z e.symm)];exact q
 have P:r.cell? ⟨b,0,none⟩=some (.pointer (some ⟨b,0,none⟩)):=by rw[Lib.cell_of_heap n];rfl
 have d1:r.cell? ⟨b,1,none⟩=some v:=by rw[Lib.cell_of_heap n];rfl
 have Q:r.frozen? ⟨b,1,none⟩=false:=Lib.frozen_of_heap n 1;obtain⟨I,G,cap,rfl⟩:∃I G cap,L= .slice I G cap:=by
  rcases i.2 with⟨hv,_⟩|⟨g,cap,cur,hv,_⟩
  .exact⟨_,_,_,hv⟩
  .exact⟨_,_,_,hv⟩
 have y:Below B w x:=⟨f2.os.trans d.os,f2.tape.trans d.tape,f2.output.trans d.output,ϖ,λk A=>by rw[f2.block k (by have:=d.size;omega) ϛ];exact d.block k A⟩
 go_wp2;go_ret;refine⟨rfl,?_,?_,((C.trans (AR.yw f2)).trans (AR.grown f a)).trans (AR.cell _)⟩
 .exact Lib.BuilderAt.put (T:=146) (e:=5) H n (bs':=bs++[.int .u8 c]) (by simpa using i) (by decide)
 .exact(y.grown a ϖ (λk A=>(o.lt k A).1)).setCell (p:=⟨b,1,none⟩) H _
def El (B b:Nat)(bs:ϡ)(s:Ξ)(w:Ω)(h:IsBuilder 146 5 B b bs w)(r:bs.length+s.size<=1000000)(y:B<=w.heap.size):
  Calls prog 153 #[.pointer (some ⟨b,0,none⟩),.string s] w λe w'=>e= .returned (.tuple #[.int .i64 s.size,.nilIface])/\BuilderAt 146 5 B b (.pointer (some ⟨b,0,none⟩)) (bs++strCells s) w'/\Below B w w'/\AR b w w':=by
 have⟨E,F,m⟩:=zS;go_enter func153,ntmps153;go_wp2_with fail;refine(xJ B b bs w h).mono ?_;rintro e w1 ⟨rfl,q,j,o⟩;have⟨u,v,f,c,n⟩:=q;have c0:w1.cell? ⟨b,0,none⟩=some (.pointer (some ⟨b,0,none⟩)):=by rw[Lib.cell_of_heap f];rfl
 have c1:w1.cell? ⟨b,1,none⟩=some v:=by rw[Lib.cell_of_heap f];rfl
 have z:b<w1.heap.size:=(Ψ.1 f).1;have A:=j.size;go_wp2_with (at_builtin;refine Lib.wpList_append_own_string _ rfl _ _ 85 9 rfl B 5 E rl underlying9 F m.2.2 m.1 m.2.1 _ _ _ rfl c s rfl ?c3 ?c4 ?c5 ?_)
 case c3=>unfold maxLen;omega
 case c4=>omega
 case c5=>omega
 intro C l d a _;have i:l.heap[b]? =some (.cells #[.pointer (some ⟨b,0,none⟩),v] 146 (0,0)):=by
  rw[a.block b ϖ (λe=>n e.symm)];exact f
 have G:l.cell? ⟨b,0,none⟩=some (.pointer (some ⟨b,0,none⟩)):=by rw[Lib.cell_of_heap i];rfl
 have d1:l.cell? ⟨b,1,none⟩=some v:=by rw[Lib.cell_of_heap i];rfl
 have H:l.frozen? ⟨b,1,none⟩=false:=Lib.frozen_of_heap i 1;obtain⟨x,t,cap,rfl⟩:∃x t cap,C= .slice x t cap:=by
  rcases d.2 with⟨hv,_⟩|⟨g,cap,cur,hv,_⟩
  .exact⟨_,_,_,hv⟩
  .exact⟨_,_,_,hv⟩
 clear c0 c1;go_wp2
 go_ret2
 refine⟨rfl,?_,?_,(o.trans (AR.grown c a)).trans (AR.cell _)⟩
 .exact Lib.BuilderAt.put (T:=146) (e:=5) u i (bs':=bs++strCells s) (by rw[ah2,strCells_length];exact d) (by decide)
 .exact(j.grown a ϖ (λk D=>(c.lt k D).1)).setCell (p:=⟨b,1,none⟩) u _
def db (ss:List (List Γ×Nat)):List Γ:=ss.flatMap λp=>(if p.2=0 then 76 else 82)::p.1
def Gy (a b:List (List Γ×Nat)):db (a++b)=db a++db b:=by simp[db]
def p9 (l:List (List Γ×Nat))(k:Nat)(a:k<l.length):((cU l).drop (k*2)).take 2=[.string (aD l[k].1),.int .i64 l[k].2]:=by
 have h:∀(l:List (List Γ×Nat)) (k:Nat),(cU l).drop (k*2)=cU (l.drop k):=by
  intro l
  induction l with
  |nil=>intro k;simp[cU]
  |cons f r b=>
   intro k;cases k with
   |zero=>simp
   |succ k=>
    have:=b k;have e:cU (f::r)=[.string (aD f.1),.int .i64 f.2]++cU r:=rfl;rw[e,show(k+1)*2=2+k*2 by omega,<-List.drop_drop];simpa using this
 rw[h,ae5 a];rfl
def row_step:(prog.underlying 168).map TypeDesc.isRow=some true:=ϰ
def rK:(prog.info? 168).map (·.size)=some 2:=ϰ
def BF:(prog.info? 168).map (·.zero)=some (some (.agg #[.string ⟨#[]⟩,.int .i64 0])):=ϰ
def yP (l:ϓ):strCells (aD l)=byteCells l:=by
 unfold strCells aD byteCells;simp
def FV (base:Nat)(v:Φ)(ss:List (List Γ×Nat))(w:Ω)(hv:w.ownsRow base 168 2 v ss.length (cU ss))(hl:ss.length<=54)(V:∀p∈ss,p.1.length<=8/\p.2<=1):
  Calls prog 138 #[v] w λe w'=>e= .returned (.string (aD (db ss)))/\aQ [] w w':=by
 have⟨ad,cap,K⟩:=ce hv;subst K;have N:∀k,k<=ss.length->(db (ss.take k)).length<=9*k:=by
  intro k
  induction k with
  |zero=>intro _;simp[db]
  |succ k ih=>
   intro R;rw[ac4 ϖ,Gy,ah2];have h1:=ih ϖ;have h2:=(V ss[k] (ai2 ϖ)).1;have h3:(db [ss[k]]).length=1+ss[k].1.length:=by simp[db];omega
   omega
 go_enter func138,ntmps138;go_wp2_with (with_reducible refine aA rfl ?_);refine bj rfl 146 rfl _ tQ ?_;intro w1 d l3 X r3;have q:IsBuilder 146 5 w.heap.size d (byteCells (db (ss.take 0))) w1:=
  .inl ⟨l3,.slice none 0 0,r3,by simpa [byteCells,db] using World.ownsRow_nil _ _ _ _,by simp[Value.ownBlock]⟩
 go_wp2_with fail;clear r3
 go_loopw [8] (λc wr=>∃k:Nat,c= .int .i64 k/\k<=ss.length/\aQ [] w wr/\IsBuilder 146 5 w.heap.size d (byteCells (db (ss.take k))) wr) (λc _=>ss.length-(intOf c).toNat)
 case atStart=>exact⟨0,rfl,ϖ,X,q⟩
 case round=>
  obtain⟨k,rfl,R,A,f⟩:=hrel;clear X q
  by_cases i:k<ss.length
  .have z:=A.owns hv
   obtain⟨g,L,rfl,hg,aa,_,F,n⟩:=eT z;have h:((L.toList.drop (k*2)).take 2)=[.string (aD ss[k].1),.int .i64 ss[k].2]:=by
    rw[cx n _ _,p9 ss k i]
   have o:=V ss[k] (ai2 i);have ab:=N k R;have M:Hid (db (ss.take (k+1))=db (ss.take k)++((if ss[k].2=0 then 76 else 82)::ss[k].1)):=by
    show _=_;rw[ac4 i,Gy];simp[db]
   generalize ss[k]=p at*;have⟨p1,l⟩:=p;simp only at h o M;generalize db (ss.take k)=b at*;clear F n z;go_wp2_with (with_reducible first|refine aA rfl ?_|refine au 168 rfl ?_|refine ai 168 rfl ?_);refine bZ rfl 168 _ rfl g (k*2) rfl row_step 2 rK _ _ hg _ h rfl ?_;clear h hg
   go_wp2_with (with_reducible first|refine aA rfl ?_|refine ai 168 rfl ?_);refine bj rfl 168 rfl _ BF ?_;intro w4 j l5 S r5;go_wp2_with (with_reducible first|refine aA rfl ?_|refine ai 168 rfl ?_);refine bQ rfl 168 _ _ rfl _ 0 rfl _ rfl 2 rK ?_ ?_ _ _ r5 ?_ ?_
   .rfl
   .simp[Value.oneCell']
   .decide
   intro E W Q;rw[bL _ _ (by rfl)] at Q;have D:Row E j #[.string (aD p1),.int .i64 l] 168:=Q;have P:aQ [] wr E:=S.trans W (by simpa using l5);have H:=A.trans P;have x:=Km f P;have c0:E.cell? ⟨j,0,none⟩=some (.string (aD p1)):=by rw[D.cell];rfl
   have J:j≠d:=by
    have:d<wr.heap.size:=by
     rcases f with f|f<;>exact f.lt
    omega
   have a:(byteCells b).length+1<=1000000:=by rw[ah];omega
   clear Q r5 S W P A f;have ac:(aD p1).size<=8:=by simpa [aD,ByteArray.size] using o.1
   obtain⟨B,O,G⟩:∃B:Γ,Hid (B=if l=0 then 76 else 82)/\Hid (db (ss.take (k+1))=b++[B]++p1):=⟨_,rfl,by show _=_;rw[M.out];rcases(by omega:l=0\/l=1) with rfl|rfl<;>simp⟩
   clear M;rcases(by omega:l=0\/l=1) with rfl|rfl
   all_goals
    have c1:=D.cell 1;simp at c1;go_wp2_with fail;refine(La w.heap.size d _ _ E x a H.size).mono ?_;rintro e u ⟨rfl,m,C,s⟩;have t:=lT H C;have U:IsBuilder 146 5 w.heap.size d (byteCells (b++[B])) u:=by
     rw[byteCells_append,O.out];exact .inr m
    have T:Row u j _ 168:=s j _ D J ϛ;have Z:u.cell? ⟨j,0,none⟩=some (.string (aD p1)):=by rw[T.cell];rfl
    have Y:(byteCells (b++[B])).length+(aD p1).size<=1000000:=by rw[ah,ah2,List.length_singleton];omega
    clear m C s x D T H c0 c1 a;go_wp2_with fail;refine(El w.heap.size d _ _ u U Y t.size).mono ?_;rintro e w7 ⟨rfl,y,r,_⟩;have AP:=lT t r;have I:IsBuilder 146 5 w.heap.size d (byteCells (db (ss.take (k+1)))) w7:=by
     rw[G.out,byteCells_append,<-yP p1];exact .inr y
    clear y r U t Z Y;go_wp2
    go_roundw
    case rel=>exact⟨k+1,by go_num,ϖ,AP,I⟩
    case measure=>simp[intOf];omega
  .obtain rfl:k=ss.length:=ϖ
   rw[θ ϖ] at f;go_wp2_with fail;refine(Tryz.Builder_String_any w.heap.size d (db ss) wr f A.size).mono ?_;rintro e u ⟨rfl,C⟩;have t:=lT A C;go_wp2;go_ret;exact⟨rfl,t⟩
def hvD (o:Option (List Γ)):Φ:=aI.hv o.isSome (aD (o.getD []))
def hcells (o:Option (List Γ)):Array Φ:=#[.bool o.isSome,.string (aD (o.getD []))]
def uk:(prog.underlying 161).map TypeDesc.isRow=some true:=ϰ
def kF:(prog.info? 161).map (·.size)=some 2:=ϰ
def vD:(prog.info? 161).map (·.zero)=some (some (.agg #[.bool false,.string ⟨#[]⟩])):=ϰ
def Ct (d m n:Nat)(l:Φ)(x:DS)(s:Int)(p:Ξ)(w:Ω)(h:bG w d m n l x):
  Calls prog 142 #[.pointer (some ⟨d,0,none⟩),.agg (dH s p)] w λe w'=>e= .returned (hvD (x.content n s p))/\aQ [] w w':=by
 go_enter func142,ntmps142;go_wp2_with (with_reducible first|refine bA rfl ?_|refine aA rfl ?_|refine au 103 rfl ?_);refine eQ rfl 103 _ rfl (.agg (dH s p)) rfl ?_;intro w1 f C b r3;have h1:=h.new b;go_wp2_with (with_reducible first|refine aA rfl ?_|refine au 103 rfl ?_)
 refine bj rfl 161 rfl _ vD ?_;intro q b4 y f2 r4;have h2:=h1.new f2;have a:Row q f (dH s p) 103:=by unfold Row;rw[f2.block f (Ψ.1 r3).1 ϛ];exact r3
 go_wp2_with (with_reducible refine au 103 rfl ?_);refine bZ rfl 103 _ rfl f 0 rfl fl 2 dN _ _ a [.int .i64 s,.string p] rfl rfl ?_;go_wp2_with fail;refine(oz d m n l x s p q h2).mono ?_;rintro e r ⟨rfl,k⟩
 have i:Row r b4 #[.bool false,.string ⟨#[]⟩] 161:=by unfold Row;rw[k.block b4 (Ψ.1 r4).1 ϛ];exact r4
 have u:=(b.trans f2).trans k;have j:w.heap.size<=b4:=ac7 b.size y;clear h1 h2 r3 r4 a b f2 k;obtain⟨o,g⟩:∃o,x.content n s p=o:=⟨_,rfl⟩
 have A:Hid (x.content n s p=o):=g;rw[g];clear g;go_wp2_with (with_reducible first|refine bM 161 rfl ?_|refine ai 161 rfl ?_);refine cT rfl (.agg (hcells o)) r ϰ ?_;go_wp2_with (with_reducible refine ai 161 rfl ?_);refine bQ rfl 161 _ _ rfl b4 0 rfl (hcells o) rfl 2 kF ?_ ?_ _ _ i ?_ ?_
 .rfl
 .simp[hcells,Value.oneCell']
 .decide
 intro v z c;rw[bL _ _ (by rfl)] at c;have B:Row v b4 (hcells o) 161:=c;have t:=u.trans z (by simp;exact j);clear c;go_wp2;exact mX rfl b4 rfl rfl _ _ B uk (by exact kF) ⟨by rw[A.out];rfl,t⟩
def A8 (s:Nat)(a:s<=1)(w:Ω):Calls prog 143 #[.int .i64 s] w λe w'=>e= .returned (.int .i64 (1-s:Nat))/\w'=w:=by
 rcases(by omega:s=0\/s=1) with rfl|rfl
 .go_enter func143,ntmps143
  go_wp2;go_ret;exact⟨rfl,rfl⟩
 .go_enter func143,ntmps143
  go_wp2;go_ret;exact⟨rfl,rfl⟩
structure dw where
 set:Nat
 path:List Γ
 becomes:Option (List Γ)
 replaces:Bool
def dw.vals (w:dw):List Φ:=[.int .i64 w.set,.string (aD w.path),.bool w.becomes.isSome,.string (aD (w.becomes.getD [])),.bool w.replaces]
def kW (a:List dw):List Φ:=a.flatMap dw.vals
def dU (x:DS)(n:Nat)(p:List Γ×Nat)(set:Nat):List dw:=if x.content n set (aD p.1)=x.content n p.2 (aD p.1) then [] else [⟨set,p.1,x.content n p.2 (aD p.1),(x.content n set (aD p.1)).isSome⟩]
def fL (x:DS)(n:Nat)(p:List Γ×Nat):List dw:=dU x n p (1-p.2)++dU x n p 2
def bu (x:DS)(n:Nat)(ss:List (List Γ×Nat)):List dw:=ss.flatMap (fL x n)
def AT (x:DS)(n:Nat)(ss:List (List Γ×Nat))(k:Nat)(a:k<ss.length):bu x n (ss.take (k+1))=bu x n (ss.take k)++fL x n ss[k]:=by
 unfold bu;rw[ac4 a,List.flatMap_append];simp
def p5 (x:DS)(n:Nat)(p:List Γ×Nat)(s:Nat):(dU x n p s).length<=1:=by unfold dU;split<;>simp
def fZ (x:DS)(n:Nat)(ss:List (List Γ×Nat)):(bu x n ss).length<=2*ss.length:=by
 induction ss with
 |nil=>simp[bu]
 |cons p ss a=>
  have e:bu x n (p::ss)=fL x n p++bu x n ss:=rfl;have h1:=p5 x n p (1-p.2);have h2:=p5 x n p 2;rw[e,ah2,ϳ];unfold fL;rw[ah2];omega
def K4 (a b:List dw):kW (a++b)=kW a++kW b:=by simp[kW]
def Ad:Elem prog 173 176 5 56:=⟨ϰ,ϰ,ϖ⟩
def P1 {a b:Option (List Γ)}:(a.isSome==b.isSome&&aD (a.getD [])==aD (b.getD []))=true↔a=b:=by
 rw[ε,ai7,Go.MapKept.bytes_beq];constructor
 .rintro⟨h1,h2⟩
  have c:a.getD []=b.getD []:=by
   have:=congrArg (λs:Ξ=>s.data.toList) h2;simpa [aD] using this
  cases a<;>cases b<;>simp_all
 .rintro rfl
  exact⟨rfl,rfl⟩
section
variable {ops:Array Oper}{Q:Exit->Act->Ω->Prop}{a:Act}{w:Ω}{rest:List Oper}{o:Oper}
def sZ {t:η}{x y:ab7}(_:o.op= .index t x y)(h:aj (wpList prog ops Q (o::rest) a w)):wpList prog ops Q (o::rest) a w:=h
def Sj (hg:o.guard=none)(x y:Nat)(u:η)(c:o.op= .binOp .neq aI.TH (.tmp x) (.tmp y) u){b1 b2:Bool}{s1 s2:Ξ}(d:a.eval (.tmp x)=aI.hv b1 s1)(b:a.eval (.tmp y)=aI.hv b2 s2)(h:wpList prog ops Q rest (a.put o.dst (.bool (!(b1==b2&&s1==s2)))) w):wpList prog ops Q (o::rest) a w:=by
 refine cT hg _ w ?_ h;have:=(aI.JY (w:=w) b1 b2 s1 s2).run;unfold execOp;rw[c];show(do pure (.value (<-(do eqGuard .neq aI.TH (.tmp x) (.tmp y) (a.eval (.tmp x)) (a.eval (.tmp y));binOp .neq aI.TH (a.eval (.tmp x)) (a.eval (.tmp y))))):Sem Next).run _ _=_;rw[d,b,qR _ _ _ _ rfl rfl];exact this
end
def Row.aside {w w':Ω}{b base size n:Nat}{c:ϐ}{t e:η}{v:Φ}{xs:ϡ}(r:Row w b c t)(h:w.ownsRow base e size v n xs)(a:t≠e)(f:aQ v.ownBlock.toList w w'):Row w' b c t:=by
 unfold Row at r⊢;rw[f.block b (Ψ.1 r).1 λd=>?_]
 .exact r
 .rcases h.2 with⟨rfl,_⟩|⟨g,cap,cur,rfl,_,hg,_⟩
  .simp[Value.ownBlock] at d
  .have:b=g:=by simpa [Value.ownBlock] using d
   subst this;rw[r] at hg;cases hg;exact a rfl
def Row.yw {w w':Ω}{b:Nat}{c:ϐ}{t:η}(r:Row w b c t)(f:aQ [] w w'):Row w' b c t:=by
 unfold Row at r⊢;rw[f.block b (Ψ.1 r).1 ϛ];exact r
def yF (d bl n:Nat)(vw:Φ)(x:DS)(base:Nat)(v:Φ)(ss:List (List Γ×Nat))(w:Ω)(h:bG w d bl n vw x)(hv:w.ownsRow base 168 2 v ss.length (cU ss))(hl:ss.length<=54)(hp:∀p∈ss,p.2<=1):
  Calls prog 95 #[.pointer (some ⟨d,0,none⟩),v] w λe w'=>∃u,e= .returned u/\w'.ownsRow w.heap.size 176 5 u (bu x n ss).length (kW (bu x n ss))/\aQ [] w w':=by
 have⟨ad,cap,ao⟩:=ce hv;subst ao;go_enter func95,ntmps95;go_wp2_with fail
 go_loopw [5,15] (λu c wr=>∃k:Nat,c= .int .i64 k/\k<=ss.length/\aQ [] w wr/\wr.ownsRow w.heap.size 176 5 u (bu x n (ss.take k)).length (kW (bu x n (ss.take k)))) (λ_ c _=>ss.length-(intOf c).toNat)
 case atStart=>exact⟨0,rfl,ϖ,aQ.refl ..,World.ownsRow_nil ..⟩
 case round=>
  obtain⟨k,rfl,hk,fk,ho⟩:=hrel
  by_cases M:k<ss.length
  .have ab:=fk.owns hv
   obtain⟨g,aq,rfl,hg,aL,_,am,Q⟩:=eT ab;have F:((aq.toList.drop (k*2)).take 2)=[.string (aD ss[k].1),.int .i64 ss[k].2]:=by
    rw[cx Q _ _,p9 ss k M]
   have T:=hp ss[k] (ai2 M);have aB:(bu x n (ss.take k)).length<=108:=by have:=fZ x n (ss.take k);rw[ac8] at this;omega
   have HX:Hid (bu x n (ss.take (k+1))=bu x n (ss.take k)++fL x n ss[k]):=AT x n ss k M;generalize ss[k]=p at*;generalize bu x n (ss.take k)=i at*;have⟨p1,a⟩:=p;simp only at F T;clear am Q ab;go_wp2_with (with_reducible first|refine aA rfl ?_|refine au 168 rfl ?_|refine ai 168 rfl ?_)
   refine bZ rfl 168 _ rfl g (k*2) rfl row_step 2 rK _ _ hg _ F rfl ?_;clear F hg;go_wp2_with (with_reducible first|refine aA rfl ?_|refine ai 168 rfl ?_);refine bj rfl 168 rfl _ BF ?_;intro w4 P l7 f4 r4;go_wp2_with (with_reducible first|refine aA rfl ?_|refine ai 168 rfl ?_)
   refine bQ rfl 168 _ _ rfl _ 0 rfl _ rfl 2 rK ?_ ?_ _ _ r4 ?_ ?_
   .rfl
   .simp[Value.oneCell']
   .decide
   intro L f5 q5;rw[bL _ _ (by rfl)] at q5;have mK:Row L P #[.string (aD p1),.int .i64 a] 168:=q5;have lj:aQ [] wr L:=f4.trans f5 (by simpa using l7);have qM:=fk.trans lj;have Be:=lj.owns ho;have h5:=h.new qM;have c0:L.cell? ⟨P,0,none⟩=some (.string (aD p1)):=by rw[mK.cell];rfl
   have c1:L.cell? ⟨P,1,none⟩=some (.int .i64 a):=by rw[mK.cell];rfl
   clear q5 r4 f4 f5 fk ho;go_wp2_with (with_reducible first|refine bM 103 rfl ?_|refine aA rfl ?_);refine cT rfl (.agg (dH a (aD p1))) L ϰ ?_;go_wp2_with (with_reducible refine aA rfl ?_);refine(Ct d bl n vw x a (aD p1) L h5).mono ?_;rintro e w6 ⟨rfl,f6⟩;obtain⟨o,H⟩:∃o,x.content n a (aD p1)=o:=⟨_,rfl⟩
   have HB:Hid (x.content n a (aD p1)=o):=H;rw[H];clear H h5 c0 c1;go_wp2_with (with_reducible refine aA rfl ?_);refine bj rfl 161 rfl _ vD ?_;intro w7 W l8 f7 r7;go_wp2_with (with_reducible refine ai 161 rfl ?_);refine bQ rfl 161 _ _ rfl W 0 rfl (hcells o) rfl 2 kF ?_ ?_ _ _ r7 ?_ ?_
   .rfl
   .simp[hcells,Value.oneCell']
   .decide
   intro w8 f8 q8;rw[bL _ _ (by rfl)] at q8;have S:Row w8 W (hcells o) 161:=q8;have A:aQ [] L w8:=f6.trans (f7.trans f8 (by simpa using l8));have tP:=qM.trans A;have q7:=mK.yw A;have C:=A.owns Be;have c1:w8.cell? ⟨P,1,none⟩=some (.int .i64 a):=by rw[q7.cell];rfl
   clear q8 r7 f6 f7 f8 A qM mK Be;go_wp2_with fail;refine(A8 a T w8).mono ?_;rintro e w9 ⟨rfl,rfl⟩;go_wp2_with (with_reducible refine bM 233 rfl ?_);refine cT rfl (.agg #[.int .i64 (1-a:Nat),.int .i64 2]) w9 ϰ ?_;go_wp2_with fail
   go_loopw [5,30] (λu c z=>∃j:Nat,c= .int .i64 j/\j<=2/\aQ [] w z/\Row z P #[.string (aD p1),.int .i64 a] 168/\Row z W (hcells o) 161/\
    z.ownsRow w.heap.size 176 5 u (i++([1-a,2].take j).flatMap (dU x n (p1,a))).length (kW (i++([1-a,2].take j).flatMap (dU x n (p1,a))))) (λ_ c _=>2-(intOf c).toNat)
   case atStart=>exact⟨0,rfl,ϖ,tP,q7,S,by simpa using C⟩
   case round=>
    obtain⟨j,rfl,hj,fr,D,R,t⟩:=hrel;clear c1 q7 S C tP
    by_cases aR:j<2
    .have Kt:(i++([1-a,2].take j).flatMap (dU x n (p1,a))).length<=110:=by
      have h1:=p5 x n (p1,a) (1-a);rw[ah2];rcases(by omega:j=0\/j=1) with rfl|rfl<;>simp<;>omega
     obtain⟨b,V,HT,HJ,HY⟩:∃b V:Nat,Hid (b=if j=0 then 1-a else 2)/\Hid (V=j+1)/\Hid (([1-a,2].take V).flatMap (dU x n (p1,a))=([1-a,2].take j).flatMap (dU x n (p1,a))++dU x n (p1,a) b):=⟨_,_,rfl,rfl,by show _=_;rcases(by omega:j=0\/j=1) with rfl|rfl<;>simp⟩
     obtain⟨ar,P5⟩:∃l,l=i++([1-a,2].take j).flatMap (dU x n (p1,a)):=⟨_,rfl⟩
     have U:Hid (ar=i++([1-a,2].take j).flatMap (dU x n (p1,a))):=P5;rw[<-P5] at t Kt;clear P5;rcases(by omega:j=0\/j=1) with rfl|rfl
     all_goals
      have c0:wr.cell? ⟨P,0,none⟩=some (.string (aD p1)):=by rw[D.cell];rfl
      go_wp2_with (with_reducible refine sZ rfl ?_);refine cT rfl (.int .i64 (b:Nat)) wr (by rw[HT.out];kernel_rfl) ?_;go_wp2_with (with_reducible first|refine bM 103 rfl ?_|refine aA rfl ?_);refine cT rfl (.agg (dH b (aD p1))) wr ϰ ?_;go_wp2_with (with_reducible refine aA rfl ?_)
      refine bj rfl 103 rfl N4 BG ?_;intro v1 y m1 g1 s1;go_wp2_with (with_reducible refine ai 103 rfl ?_);refine bQ rfl 103 _ _ rfl y 0 rfl (dH b (aD p1)) rfl 2 dN ?_ ?_ _ _ s1 ?_ ?_
      .rfl
      .simp[dH,Value.oneCell']
      .decide
      intro v2 g2 s2;rw[bL _ _ (by rfl)] at s2;have G:Row v2 y (dH b (aD p1)) 103:=s2;have r:aQ [] wr v2:=g1.trans g2 (by simpa using m1);have E:=fr.trans r;have h2:=h.new E;have ag:=D.yw r;have Y:=R.yw r;have aa:=r.owns t;clear s1 s2 g1 g2 r fr D R t c0
      go_wp2_with (with_reducible first|refine au 103 rfl ?_|refine aA rfl ?_);refine bZ rfl 103 _ rfl y 0 rfl fl 2 dN _ _ G [.int .i64 (b:Nat),.string (aD p1)] rfl rfl ?_;go_wp2_with (with_reducible refine aA rfl ?_);refine(Ct d bl n vw x b (aD p1) v2 h2).mono ?_;rintro e v3 ⟨rfl,g3⟩
      obtain⟨o2,IU⟩:∃o,x.content n b (aD p1)=o:=⟨_,rfl⟩
      have I:Hid (x.content n b (aD p1)=o2):=IU;rw[IU];clear IU h2;go_wp2_with (with_reducible refine aA rfl ?_);refine bj rfl 161 rfl _ vD ?_;intro v4 b12 m4 g4 s4;go_wp2_with (with_reducible refine ai 161 rfl ?_);refine bQ rfl 161 _ _ rfl b12 0 rfl (hcells o2) rfl 2 kF ?_ ?_ _ _ s4 ?_ ?_
      .rfl
      .simp[hcells,Value.oneCell']
      .decide
      intro v5 g5 s5;rw[bL _ _ (by rfl)] at s5;have J:Row v5 b12 (hcells o2) 161:=s5;have m:aQ [] v2 v5:=g3.trans (g4.trans g5 (by simpa using m4));have N:=E.trans m;have Y3:=ag.yw m;have Z:=Y.yw m;have K:=m.owns aa;have ac:=G.yw m;have c12:v5.cell? ⟨b12,0,none⟩=some (.bool o2.isSome):=by rw[J.cell];rfl
      clear s4 s5 g3 g4 g5 m E ag Y aa G;go_wp2_with (with_reducible first|refine au 161 rfl ?_|refine dX 161 rfl ?_);refine bZ rfl 161 _ rfl b12 0 rfl uk 2 kF _ _ J [.bool o2.isSome,.string (aD (o2.getD []))] rfl rfl ?_;go_wp2_with (with_reducible first|refine au 161 rfl ?_|refine dX 161 rfl ?_)
      refine bZ rfl 161 _ rfl W 0 rfl uk 2 kF _ _ Z [.bool o.isSome,.string (aD (o.getD []))] rfl rfl ?_;go_wp2_with (with_reducible first|refine au 161 rfl ?_|refine dX 161 rfl ?_);refine Sj rfl 40 41 _ rfl (b1:=o2.isSome) (b2:=o.isSome) (s1:=aD (o2.getD [])) (s2:=aD (o.getD [])) rfl rfl ?_
      by_cases f:(o2.isSome==o.isSome&&aD (o2.getD [])==aD (o.getD []))=true
      .have HW:Hid (dU x n (p1,a) b=[]):=by
        show _=_;unfold dU;rw[φ (by rw[I.out,HB.out];exact P1.1 f)]
       rw[f];clear f;go_wp2
       go_roundw
       case rel=>exact⟨V,by rw[HJ.out];rfl,by rw[HJ.out];omega,N,Y3,Z,by rw[HY.out,HW.out,List.append_nil,<-U.out];exact K⟩
       case measure=>simp[intOf]
      .have HW:Hid (dU x n (p1,a) b=[⟨b,p1,o,o2.isSome⟩]):=by
        show _=_;unfold dU;rw[ζ (by rw[I.out,HB.out];exactλq=>f (P1.2 q)),I.out,HB.out]
       have B:(o2.isSome==o.isSome&&aD (o2.getD [])==aD (o.getD []))=false:=by simpa using f
       rw[B];clear f B;go_wp2_with (with_reducible first|refine au 161 rfl ?_|refine au 103 rfl ?_|refine bM 176 rfl ?_);refine bZ rfl 103 _ rfl y 0 rfl fl 2 dN _ _ ac [.int .i64 (b:Nat),.string (aD p1)] rfl rfl ?_;go_wp2_with (with_reducible first|refine au 161 rfl ?_|refine bM 176 rfl ?_)
       refine bZ rfl 161 _ rfl W 0 rfl uk 2 kF _ _ Z [.bool o.isSome,.string (aD (o.getD []))] rfl rfl ?_;go_wp2_with (with_reducible refine bM 176 rfl ?_);refine cT rfl (.agg (dw.vals ⟨b,p1,o,o2.isSome⟩).toArray) v5 ϰ ?_;go_wp2_with (with_reducible first|refine bV rfl ?_|refine bW rfl ?_)
       refine iu rfl 173 176 5 56 Ad _ rfl (.agg (dw.vals ⟨b,p1,o,o2.isSome⟩).toArray) rfl rfl ?_;intro v8 b9 m8 g8 s8;go_wp2_with (with_reducible first|refine bV rfl ?_|refine bW rfl ?_);have C:=g8.owns K;have O:=N.trans g8;have ae:=Y3.yw g8;have X:=Z.yw g8
       have s:w.heap.size<=v8.heap.size:=O.size;refine ja rfl 173 176 5 56 Ad _ _ rfl w.heap.size u5 _ _ rfl C b9 1 1 (dw.vals ⟨b,p1,o,o2.isSome⟩) rfl _ _ s8 rfl rfl (by simp[dw.vals,Value.oneCell']) ϖ ϖ ϖ s ?_;intro g' aw v9 IS g9 _;have av:=O.trans g9 (by intro j hj;right;simp at hj;exact(C.lt j hj).1)
       have ak:=ae.aside C (by decide) g9;have an:=X.aside C (by decide) g9;clear K C s8 g8 g9 m8 N O Y3 Z ae X s c12 J ac;go_wp2
       go_roundw
       case rel=>
        refine⟨V,by rw[HJ.out];rfl,by rw[HJ.out];omega,av,ak,an,?_⟩;rw[HY.out,HW.out,<-List.append_assoc,<-U.out,K4,ah2];simpa [kW] using IS
       case measure=>simp[intOf]
    .obtain rfl:j=2:=ϖ
     have HZ:Hid (i++([1-a,2].take 2).flatMap (dU x n (p1,a))=bu x n (ss.take (k+1))):=by
      show _=_;rw[HX.out];simp[fL]
     go_wp2
     go_roundw
     case rel=>exact⟨k+1,by go_num,ϖ,fr,by rw[<-HZ.out];exact t⟩
     case measure=>simp[intOf];omega
  .obtain rfl:k=ss.length:=ϖ
   rw[θ ϖ] at ho;go_wp2;go_ret;exact⟨u5,rfl,ho,fk⟩
def mG:List dw->Int->Bool
 |[],_=>true
 |w::r,f=>if w.becomes=none then mG r (f+1) else if f=0 then false else if w.replaces=false then mG r (f-1) else mG r f
def mH (x:DS)(n:Nat)(ss:List (List Γ×Nat))(a:Int):Bool:=decide (0<=a)&&mG (bu x n ss) a
def Ek (l:List dw)(k:Nat)(a:k<l.length):((kW l).drop (k*5)).take 5=l[k].vals:=by
 have h:∀(l:List dw)(k:Nat),(kW l).drop (k*5)=kW (l.drop k):=by
  intro l
  induction l with
  |nil=>intro k;simp[kW]
  |cons f r b=>
   intro k;cases k with
   |zero=>simp
   |succ k=>
    have:=b k;have e:kW (f::r)=f.vals++kW r:=rfl;rw[e,show(k+1)*5=5+k*5 by omega,<-List.drop_drop];have e2:(f.vals++kW r).drop 5=kW r:=by simp[dw.vals]
    rw[e2];simpa using this
 rw[h,ae5 a];rfl
def Ik:(prog.underlying 176).map TypeDesc.isRow=some true:=ϰ
def uI:(prog.info? 176).map (·.size)=some 5:=ϰ
def zJw:Φ:= .agg #[.int .i64 0,.string ⟨#[]⟩,.bool false,.string ⟨#[]⟩,.bool false]
def JG:(prog.info? 176).map (·.zero)=some (some zJw):=ϰ
def Gp (d L n:Nat)(K:Φ)(x:DS)(base:Nat)(v:Φ)(ss:List (List Γ×Nat))(b:Int)(w:Ω)(h:bG w d L n K x)(hv:w.ownsRow base 168 2 v ss.length (cU ss))(V:ss.length<=54)(Q:∀p∈ss,p.2<=1)(T:-1<=b)(hf:b<=1000):
  Calls prog 136 #[.pointer (some ⟨d,0,none⟩),v,.int .i64 b] w λe w'=>e= .returned (.bool (mH x n ss b))/\aQ [] w w':=by
 by_cases J:b<0
 .have r:Hid (mH x n ss b=false):=by show _=_;unfold mH;rw[decide_eq_false ϖ];rfl
  have⟨ad,cap,j⟩:=ce hv;subst j;go_enter func136,ntmps136;go_wp2;go_ret;exact⟨by rw[r.out];rfl,aQ.refl ..⟩
 .have r:Hid (mH x n ss b=mG (bu x n ss) b):=by show _=_;unfold mH;rw[decide_eq_true ϖ];rfl
  have ab:(bu x n ss).length<=108:=by have:=fZ x n ss;omega
  have⟨ad,cap,j⟩:=ce hv;subst j;go_enter func136,ntmps136;go_wp2_with fail;refine(yF d L n K x base _ ss w h hv V Q).mono ?_;rintro e w1 ⟨u,rfl,P,M⟩;generalize bu x n ss=i at*;have⟨tM,O,S⟩:=ce P;subst S;clear hv Q;go_wp2_with fail
  go_loopw [2,15] (λvf c wr=>∃(k:Nat)(f:Int),c= .int .i64 k/\k<=i.length/\vf= .int .i64 f/\0<=f/\f<=1000+k/\aQ [] w1 wr/\mG (i.drop k) f=mG i b) (λ_ c _=>i.length-(intOf c).toNat)
  case atStart=>exact⟨0,b,rfl,ϖ,rfl,ϖ,ϖ,aQ.refl ..,ϛ⟩
  case round=>
   obtain⟨k,f,rfl,hk,rfl,U,aa,y,a⟩:=hrel
   by_cases l:k<i.length
   .have q:=y.owns P
    obtain⟨g,G,rfl,hg,X,_,z,m⟩:=eT q;have o:((G.toList.drop (k*5)).take 5)=i[k].vals:=by
     rw[cx m _ _,Ek i k l]
    have hd:mG (i.drop k) f=if i[k].becomes=none then mG (i.drop (k+1)) (f+1) else if f=0 then false else if i[k].replaces=false then mG (i.drop (k+1)) (f-1) else mG (i.drop (k+1)) f:=by
     rw[ae5 l];rfl
    rw[hd] at a;clear hd;generalize i[k]=Y at*;have⟨W,pt,C,B⟩:=Y;simp only at a;clear z m q;go_wp2_with (with_reducible first|refine aA rfl ?_|refine au 176 rfl ?_|refine ai 176 rfl ?_);refine bZ rfl 176 _ rfl g (k*5) rfl Ik 5 uI _ _ hg _ o rfl ?_;clear o hg
    go_wp2_with (with_reducible first|refine aA rfl ?_|refine ai 176 rfl ?_);refine bj rfl 176 rfl _ JG ?_;intro w4 D N R r4;go_wp2_with (with_reducible first|refine aA rfl ?_|refine ai 176 rfl ?_);refine bQ rfl 176 _ _ rfl _ 0 rfl _ rfl 5 uI ?_ ?_ _ _ r4 ?_ ?_
    .rfl
    .simp[dw.vals,Value.oneCell']
    .decide
    intro s I F;rw[bL _ _ (by rfl)] at F;have H:Row s D (dw.vals ⟨W,pt,C,B⟩).toArray 176:=F;have t:=y.trans (R.trans I (by simpa using N):aQ [] wr s);have c2:s.cell? ⟨D,2,none⟩=some (.bool C.isSome):=by rw[H.cell];rfl
    have c4:s.cell? ⟨D,4,none⟩=some (.bool B):=by rw[H.cell];rfl
    clear F H r4 R I y N;cases C with
    |none=>
     simp only[Ϻ] at c2;rw[φ rfl] at a;go_wp2
     go_roundw
     case rel=>exact⟨k+1,f+1,by go_num,ϖ,by go_num,ϖ,ϖ,t,a⟩
     case measure=>simp[intOf];omega
    |some bb=>
     simp only[ϑ1] at c2;rw[ζ ϛ] at a
     by_cases A:f=0
     .subst A
      rw[φ rfl] at a;have E:Hid (mG i b=false):=a.symm;clear a;go_wp2;go_ret;exact⟨by rw[r.out,E.out];rfl,M.trans t⟩
     .rw[ζ A] at a
      have Z:(f==0)=false:=by simpa using A
      cases B with
      |false=>
       rw[φ rfl] at a;go_wp2
       go_roundw
       case rel=>exact⟨k+1,f-1,by go_num,ϖ,by go_num,ϖ,ϖ,t,a⟩
       case measure=>simp[intOf];omega
      |true=>
       rw[ζ ϛ] at a;go_wp2
       go_roundw
       case rel=>exact⟨k+1,f,by go_num,ϖ,rfl,ϖ,ϖ,t,a⟩
       case measure=>simp[intOf];omega
   .obtain rfl:k=i.length:=ϖ
    rw[List.drop_length] at a;have E:Hid (mG i b=true):=a.symm;clear a;go_wp2;go_ret;exact⟨by rw[r.out,E.out];rfl,M.trans y⟩
def DS.vd (x:DS)(n:Nat)(w:dw):DS×Φ:=match w.becomes with
 |none=>x.remove n w.set (aD w.path)
 |some c=>x.put n w.set (aD w.path) (aD c)
def Q0 (F:ϑ)(d n:Nat)(x:DS)(f:dw)(w:Ω)(h:bT w F d n x)(p:x.Fit 5)(E:x.waiting.length<55)(C:f.set<256)(B:f.path.length<256)(A:∀c,f.becomes=some c->c.length<256):
  Calls prog 96 #[.agg f.vals.toArray,.pointer (some ⟨d,0,none⟩)] w λe w'=>e= .returned (x.vd n f).2/\∃k,bT w' k d n (x.vd n f).1/\aQ F w w'/\bC F k w:=by
 have⟨a,pt,m,i⟩:=f;simp only at C B A;have v:(aD pt).size<256:=by simpa [aD,ByteArray.size] using B
 go_enter func96,ntmps96;go_wp2_with (with_reducible refine bA rfl ?_);refine eQ rfl 176 _ rfl (.agg (dw.vals ⟨a,pt,m,i⟩).toArray) rfl ?_;intro w1 b2 l1 l q;have h1:=h.new l;have b:Row w1 b2 (dw.vals ⟨a,pt,m,i⟩).toArray 176:=q;have c2:w1.cell? ⟨b2,2,none⟩=some (.bool m.isSome):=by rw[b.cell];rfl
 have z:w1.cell? ⟨b2,3,none⟩=some (.string (aD (m.getD []))):=by rw[b.cell];rfl
 clear q;cases m with
 |none=>
  simp only[Ϻ] at c2;have o:Hid (x.vd n ⟨a,pt,none,i⟩=x.remove n a (aD pt)):=rfl;go_wp2_with (with_reducible refine au 103 rfl ?_);refine bZ rfl 103 _ rfl b2 0 rfl fl 2 dN _ _ b [.int .i64 a,.string (aD pt)] rfl rfl ?_;clear c2 z b;go_wp2_with fail
  refine(qA F d n x a (aD pt) w1 h1 ⟨p.lD,by have:=p.lC;omega,p.lB,p.lA⟩ ϖ).mono ?_;rintro e D ⟨rfl,k,h2,f2,t⟩;obtain⟨r,hr⟩:∃r,x.remove n a (aD pt)=r:=⟨_,rfl⟩
  rw[hr] at h2⊢;have g:Hid (x.vd n ⟨a,pt,none,i⟩=r):=o.out.trans hr;clear hr o;have⟨q,r2⟩:=r;go_wp2;go_ret;rw[g.out];exact⟨rfl,k,h2,(l.mono).trans f2 (λj y=> .inl y),(bC.refl F w).trans t l.size⟩
 |some c=>
  simp only[ϑ1] at c2;have s:(aD c).size<256:=by simpa [aD,ByteArray.size] using A c rfl
  have o:Hid (x.vd n ⟨a,pt,some c,i⟩=x.put n a (aD pt) (aD c)):=rfl;have u:w1.cell? ⟨b2,3,none⟩=some (.string (aD c)):=z;clear z;go_wp2_with (with_reducible first|refine au 103 rfl ?_|refine bM 107 rfl ?_);refine bZ rfl 103 _ rfl b2 0 rfl fl 2 dN _ _ b [.int .i64 a,.string (aD pt)] rfl rfl ?_
  go_wp2_with (with_reducible refine bM 107 rfl ?_);refine cT rfl (.agg #[.int .i64 a,.string (aD pt),.string (aD c)]) w1 ϰ ?_;clear c2 u b;go_wp2_with fail;refine(zr F d n x a (aD pt) (aD c) w1 h1 p E C v s).mono ?_;rintro e D ⟨rfl,k,h2,f2,t⟩;obtain⟨r,hr⟩:∃r,x.put n a (aD pt) (aD c)=r:=⟨_,rfl⟩
  rw[hr] at h2⊢;have g:Hid (x.vd n ⟨a,pt,some c,i⟩=r):=o.out.trans hr;clear hr o;have⟨q,r2⟩:=r;go_wp2;go_ret;rw[g.out];exact⟨rfl,k,h2,(l.mono).trans f2 (λj y=> .inl y),(bC.refl F w).trans t l.size⟩
def C1 (l:List (List Γ×Nat))(k:Nat)(a:k<l.length):(cU l)[k*2]? =some (.string (aD l[k].1)):=by
 have h:=p9 l k a;have h1:(((cU l).drop (k*2)).take 2)[0]? =some (.string (aD l[k].1)):=by rw[h];rfl
 rw[List.getElem?_take_of_lt ϖ,ai6] at h1;simpa using h1
def aQ.WP {w w':Ω}{b off:Nat}{v:Φ}(f:aQ [] w w')(h:w.cell? ⟨b,off,none⟩=some v)(_:True):w'.cell? ⟨b,off,none⟩=some v:=by
 have c:b<w.heap.size:=by
  unfold World.cell? at h;cases a:w.heap[b]? with
  |none=>simp[a] at h
  |some o=>exact(Ψ.1 a).1
 unfold World.cell? at h⊢;rw[f.block b c ϛ];exact h
def Ga (base:Nat)(v:Φ)(ss:List (List Γ×Nat))(w:Ω)(hv:w.ownsRow base 168 2 v ss.length (cU ss))(h0:0<ss.length)(B:ss.length<=54)(A:ss.Pairwise λp q=>p.1<q.1):
  Calls prog 141 #[v] w λe w'=>e= .returned (.bool true)/\aQ [] w w':=by
 have⟨ad,cap,m⟩:=ce hv;subst m;obtain⟨g,n,rfl,hg,y,_,t,r⟩:=eT hv;have f:∀k (o:k<ss.length),n[k*2]? =some (.string (aD ss[k].1)):=λk o=>by
  have h1:=C1 ss k o;rw[<-r,List.getElem?_take_of_lt ϖ] at h1;simpa using h1
 go_enter func141,ntmps141;go_wp2_with fail
 go_loopw [7] (λc wr=>∃k:Nat,c= .int .i64 k/\k+1<=ss.length/\aQ [] w wr) (λc _=>ss.length-(intOf c).toNat)
 case atStart=>exact⟨0,rfl,ϖ,aQ.refl ..⟩
 case round=>
  obtain⟨k,rfl,o,l⟩:=hrel
  by_cases d:k+1<ss.length
  .have i:=l.row (b:=g) hg ϛ
   have c1:wr.cell? ⟨g,k*2,none⟩=some (.string (aD (ss[k]'ϖ).1)):=by rw[i.cell];exact f k ϖ
   have c2:wr.cell? ⟨g,(k+1)*2,none⟩=some (.string (aD (ss[k+1]'d).1)):=by rw[i.cell];exact f (k+1) d
   have h:(ss[k]'ϖ).1<(ss[k+1]'d).1:=(ϑ3.1 A) k (k+1) ϖ d ϖ;generalize (ss[k]'ϖ).1=p1 at*;generalize (ss[k+1]'d).1=z at*;go_wp2_with fail;have u:∀(Z:List (Nat×Φ)),True:=λ_=>trivial
   refine kJ ?_;refine bP rfl (some 10) rfl (.slice (some ⟨g,0,none⟩) ss.length cap) (λw' a=>by go_simp) ?_;simp only[Act.put,co,cq,ck];refine bP rfl (some 11) rfl (.int .i64 k) (λw' a=>by go_simp) ?_;simp only[Act.put,co,cq,ck]
   refine bP rfl (some 12) rfl (.pointer (some ⟨g,k*2,none⟩)) (λw' a=>by go_simp;intro s;omega) ?_;simp only[Act.put,co,cq,ck];refine bP rfl (some 13) rfl (.pointer (some ⟨g,k*2,none⟩)) (λw' a=>by go_simp) ?_;simp only[Act.put,co,cq,ck];refine bP rfl (some 14) rfl (.string (aD p1)) (λw' a=>by have x:=a.WP c1 ϛ;go_simp) ?_
   simp only[Act.put,co,cq,ck];refine bP rfl (some 15) rfl (.slice (some ⟨g,0,none⟩) ss.length cap) (λw' a=>by go_simp) ?_;simp only[Act.put,co,cq,ck];refine bP rfl (some 16) rfl (.int .i64 k) (λw' a=>by go_simp) ?_;simp only[Act.put,co,cq,ck];refine bP rfl (some 17) rfl (.int .i64 (k+1:Nat)) (λw' a=>by go_simp;rw[IntKind.wrap_i64];omega) ?_
   simp only[Act.put,co,cq,ck];refine bP rfl (some 18) rfl (.pointer (some ⟨g,(k+1)*2,none⟩)) (λw' a=>by go_simp;intro s;have:=s ϖ;omega) ?_;simp only[Act.put,co,cq,ck];refine bP rfl (some 19) rfl (.pointer (some ⟨g,(k+1)*2,none⟩)) (λw' a=>by go_simp) ?_;simp only[Act.put,co,cq,ck]
   refine bP rfl (some 20) rfl (.string (aD z)) (λw' a=>by have x:=a.WP c2 ϛ;go_simp) ?_;simp only[Act.put,co,cq,ck];refine bP rfl (some 21) rfl (.bool false) (λw' a=>by go_simp;rw[bytesLess_eq,Lib.toList_data,Lib.toList_data];exact decide_eq_true (by simpa [aD] using h)) ?_;simp only[Act.put,co,cq,ck];intro C f2
   have j:=l.trans f2;go_wp2
   go_roundw
   case rel=>exact⟨k+1,by go_num,ϖ,j⟩
   case measure=>simp[intOf];omega
  .go_wp2
   go_ret;exact⟨rfl,l⟩
def chJ (s:Nat):Γ:=if s=0 then 76 else 82
def wq (p:List Γ×Nat)(r:List (List Γ×Nat)):db (p::r)=chJ p.2::(p.1++db r):=rfl
def uJ (a:ϓ):∀(p r:ϓ),(∀b∈p,a.contains b=false)->indexAny (p++r) a=if indexAny r a=-1 then -1 else indexAny r a+p.length
 |[],r,_=>by
  by_cases h:indexAny r a=-1<;>simp[h]
 |b::p,r,h=>by
  have h1:=h b ϛ;have e:=uJ a p r λx d=>h x (by simp[d])
  have hg:=indexAny_ge a r;show(if a.contains b then 0 else if indexAny (p++r) a==-1 then -1 else indexAny (p++r) a+1)=_;rw[h1,e]
  by_cases c:indexAny r a=-1
  .simp[c]
  .simp only[c,if_false,ν]
   rw[ζ (by simp;omega)];simp;omega
def IG {b:Γ}(h:jo b=true):([76,82]:List Γ).contains b=false:=by
 unfold jo at h;rw[ε] at h;have h1:97<=b.toNat:=by simpa using h.1
 simp only[List.contains_cons,List.contains_nil,Bool.or_false,Bool.or_eq_false_iff,ac3];constructor<;>(intro e;subst e;revert h1;decide)
def DM {p:ϓ}(a:cL p=true)(r:List (List Γ×Nat)):indexAny (p++db r) [76,82]=if r=[] then -1 else(p.length:Int):=by
 unfold cL at a;simp only[ε,ad6] at a;rw[uJ _ p _ λb c=>IG (a.2 b c)];cases r with
 |nil=>rfl
 |cons q r=>
  have:indexAny (db (q::r)) [76,82]=0:=by
   rw[wq];show(if([76,82]:List Γ).contains (chJ q.2) then 0 else _)=_;rw[φ (by unfold chJ;split<;>decide)]
  rw[this];simp
def NG {ss:List (List Γ×Nat)}(h:∀p∈ss,cL p.1=true):∀b∈db ss,b.toNat<128:=by
 intro b a;unfold db at a;rw[List.mem_flatMap] at a;have⟨p,c,a⟩:=a;rcases ac1.1 a with rfl|a
 .split<;>decide
 .have:=h p c
  unfold cL at this;simp only[ε,ad6] at this;have:=this.2 b a;unfold jo at this;rw[ε] at this;have:b.toNat<=122:=by simpa using this.2
  omega
def pF (l:ϓ)(a b:Nat):(aD l).extract a b=aD ((l.take b).drop a):=by
 have h:((aD l).extract a b).data=(l.toArray).extract a b:=by simp[aD,ByteArray.data_extract]
 have h2:(l.toArray).extract a b=((l.take b).drop a).toArray:=by simp[ϕ8,List.drop_take]
 have:((aD l).extract a b).data=(aD ((l.take b).drop a)).data:=h.trans h2;cases c:(aD l).extract a b;rw[c] at this;simp only at this;rw[this]
def iI {P:ω}{ops:Ϙ}{Q:ϔ}{a:Act}{w:Ω}{rest:ϧ}{o:Oper}{t:η}{x:ab7}{l h m:Option ab7}(_:o.op= .slice t x l h m)(k:aj (wpList P ops Q (o::rest) a w)):wpList P ops Q (o::rest) a w:=k
def oB:∀(l:List (List Γ×Nat)),(∀p∈l,p.1.length<=8)->(db l).length<=9*l.length
 |[],_=>by simp[db]
 |p::l,h=>by
  have h1:=h p ϛ;have h2:=oB l λq a=>h q (by simp[a])
  rw[wq,ϳ,ah2,ϳ];omega
def og {p:ϓ}(h:cL p=true):p.length<=8:=by
 unfold cL at h;simp only[ε] at h;simpa using h.1.2
def GI (c:Γ)(p R:ϓ):(aD (c::(p++R))).extract (1+(p.length:Int)).toNat (aD (c::(p++R))).size=aD R:=by
 rw[pF,fg,θ (ι _),show(1+(p.length:Int)).toNat=p.length+1 by omega];simp
def CL (c:Γ)(p:ϓ):(aD (c::p)).extract (1+(p.length:Int)).toNat (aD (c::p)).size=aD (db []):=by
 have:=GI c p [];rw[List.append_nil] at this;exact this
def Om {P:ω}{ops:Ϙ}{Q:ϔ}{a:Act}{w:Ω}{rest:ϧ}{o:Oper}{b:Array ab7}{c:ϫ}(_:o.op= .call {callee:= .builtin .len,args:=b,argTypes:=c})(k:aj (wpList P ops Q (o::rest) a w)):wpList P ops Q (o::rest) a w:=k
def xy (ss:List (List Γ×Nat))(w:Ω)(h0:0<ss.length)(hl:ss.length<=54)(N:∀p∈ss,cL p.1=true/\p.2<=1)(hs:ss.Pairwise λp q=>p.1<q.1):
  Calls prog 94 #[.string (aD (db ss))] w λe w'=>∃u,e= .returned (.tuple #[u,.bool true])/\w'.ownsRow w.heap.size 168 2 u ss.length (cU ss)/\aQ [] w w':=by
 go_enter func94,ntmps94;go_wp2_with fail
 go_loopw [4,5] (λu t wr=>∃k:Nat,t= .string (aD (db (ss.drop k)))/\k<=ss.length/\aQ [] w wr/\wr.ownsRow w.heap.size 168 2 u k (cU (ss.take k))) (λ_ t _=>match t with|.string s=>s.size|_=>0)
 case atStart=>exact⟨0,rfl,ϖ,aQ.refl ..,World.ownsRow_nil ..⟩
 case round=>
  obtain⟨k,rfl,hk,Q,x⟩:=hrel
  by_cases o:k<ss.length
  .have hd:ss.drop k=ss[k]::ss.drop (k+1):=ae5 o
   have g:=N ss[k] (ai2 o);have z:ss.take (k+1)=ss.take k++[ss[k]]:=ac4 o;have HR:Hid (ss.take (k+1)=ss.take k++[ss[k]]):=z;have a:∀b∈db (ss.drop k),b.toNat<128:=NG λp l=>(N p (List.mem_of_mem_drop l)).1
   have d:(db (ss.drop k)).length<=1000:=by
    have h1:=oB (ss.drop k) λp l=>og (N p (List.mem_of_mem_drop l)).1
    have h2:(ss.drop k).length<=54:=by rw[ϐ3];omega
    omega
   rw[hd,wq] at a d⊢;have HD:Hid (ss.drop k=ss[k]::ss.drop (k+1)):=hd;clear hd z;generalize ss[k]=p at*;have⟨p1,h⟩:=p;simp only at g a d⊢;have J:∃(c:Γ)(i:Int),Hid (c=chJ h)/\Hid (i=h)/\Hid (Lib.indexByte [76,82] c=i):=⟨chJ h,h,rfl,rfl,by show _=_;rcases(by omega:h=0\/h=1) with rfl|rfl<;>decide⟩
   have⟨c,i,hc,n,A⟩:=J;rcases(by omega:h=0\/h=1) with rfl|rfl
   all_goals
    obtain⟨r,m⟩:∃r,ss.drop (k+1)=r:=⟨_,rfl⟩
    rw[m] at HD a d⊢;go_wp2_with (with_reducible first|refine dX 9 rfl ?_|refine sZ rfl ?_|refine iI rfl ?_);refine cT rfl (.bool true) wr (by go_simp;simp[aD]) ?_;go_wp2_with (with_reducible first|refine dX 9 rfl ?_|refine sZ rfl ?_|refine iI rfl ?_)
    refine cT rfl (.int .u8 c.toNat) wr (by rw[hc.out];kernel_rfl) ?_;go_wp2_with (with_reducible first|refine dX 9 rfl ?_|refine iI rfl ?_);refine(Tryz.strings_IndexByte ⟨#[76,82]⟩ c.toNat wr).mono ?_;rintro e w1 ⟨rfl,rfl⟩;rw[show Lib.indexByte (⟨#[76,82]⟩:Ξ).data.toList (c.toNat:Int).toNat.toUInt8=i by simpa using A.out,n.out];clear A
    go_wp2_with (with_reducible first|refine dX 9 rfl ?_|refine iI rfl ?_);refine cT rfl (.string (aD (p1++db r))) w1 (by go_simp;rw[φ (by rw[fg];simp;omega),pF,fg,θ (ι _)];rfl) ?_;go_wp2_with (with_reducible first|refine dX 9 rfl ?_|refine iI rfl ?_);have B:=DM g.1 r
    refine(Tryz.strings_IndexAny_laid (aD (p1++db r)) ⟨#[76,82]⟩ w1 (by rw[fg];simp at d⊢;omega) (by decide) (λj b v=>a b (by
     have:b∈p1++db r:=ai9 (by simpa [aD] using v);exact ak9 _ this)) (λj b v=>by
     have:b∈([76,82]:List Γ):=ai9 v;simp at this;rcases this with rfl|rfl<;>decide)).mono ?_
    rintro e G ⟨rfl,E⟩;have f2:aQ [] w1 G:=lT (aQ.refl ..) E;have D:Lib.indexAny (aD (p1++db r)).data.toList (⟨#[76,82]⟩:Ξ).data.toList=if r=[] then -1 else(p1.length:Int):=by simpa [aD] using B
    rw[D];clear B D E a;have aa:p1.length<=8:=by
     have:=g.1;unfold cL at this;simp only[ε] at this;simpa using this.1.2
    have ac:k<=54:=ϖ
    have I:Hid (ss.drop (k+1)=r):=m;clear m;have S:(aD p1).size<=9223372036854775807:=by rw[fg];omega
    by_cases hr:r=[]
    all_goals
     first
      |(
        rw[φ hr];have H:p1++db r=p1:=by rw[hr];simp[db]
        rw[H];clear H)
      |(
        rw[ζ hr];go_wp2_with (with_reducible refine iI rfl ?_);refine cT rfl (.string (aD p1)) G (by go_simp;rw[φ (by rw[fg];simp),pF];simp) ?_)
     go_wp2_with (with_reducible first|refine bV rfl ?_|refine bW rfl ?_);refine(mz (aD p1) G S).mono ?_;rintro e w3 ⟨rfl,U⟩;have F:cL (aD p1).data.toList=true:=by simpa [aD] using g.1
     rw[F];clear F;have Y:=(Q.trans f2).trans U;have C:=U.owns (f2.owns x ϛ);clear x f2 U;go_wp2_with (with_reducible first|refine bM 168 rfl ?_|refine bV rfl ?_|refine bW rfl ?_);refine cT rfl (.agg #[.string (aD p1),.int .i64 i]) w3 (by rw[n.out];kernel_rfl) ?_
     go_wp2_with (with_reducible first|refine bV rfl ?_|refine bW rfl ?_);refine iu rfl 109 168 2 24 rR _ rfl (.agg #[.string (aD p1),.int .i64 i]) rfl rfl ?_;intro w8 b8 l8 K X;go_wp2_with (with_reducible first|refine bV rfl ?_|refine bW rfl ?_);have T:=K.owns C;have O:=Y.trans K
     have f:w.heap.size<=w8.heap.size:=O.size;refine ja rfl 109 168 2 24 rR _ _ rfl w.heap.size u4 _ _ rfl T b8 1 1 [.string (aD p1),.int .i64 i] rfl _ _ X rfl rfl (by simp[Value.oneCell']) ϖ ϖ ϖ f ?_;intro g' y L M V _;have Qp:=O.trans V (by intro j v;right;simp at v;exact(T.lt j v).1)
     have P:L.ownsRow w.heap.size 168 2 (.slice (some ⟨g',0,none⟩) (k+1) y) (k+1) (cU (ss.take (k+1))):=by
      rw[HR.out,tV];rw[n.out] at M;exact M
     clear C T M X K V l8 Q Y O f;go_wp2_with (with_reducible first|refine Om rfl ?_|refine iI rfl ?_);refine cT rfl (.int .i64 p1.length) L ϰ ?_;have ab:wrap64 (1+(p1.length:Int))=1+p1.length:=IntWalk.wrap64_in _ ϖ;go_wp2_with (with_reducible refine iI rfl ?_)
     refine cT rfl (.string (aD (db r))) L (by go_simp;rw[φ (by rw[fg];simp;omega)];first|rw[GI]|rw[CL]|rw[CL,hr]) ?_;go_wp2
     go_roundw
     case rel=>exact⟨k+1,by simp only[I.out,hr],ϖ,Qp,P⟩
     case measure=>simp[fg,hr];omega
  .obtain rfl:k=ss.length:=ϖ
   rw[List.drop_length];rw[θ ϖ] at x;have H:aD (db [])=⟨#[]⟩:=rfl;rw[H];have⟨Z,W,R⟩:=ce x;subst R;go_wp2_with fail;refine(Ga w.heap.size _ ss wr x h0 hl hs).mono ?_;rintro e G ⟨rfl,f2⟩;go_wp2
   go_ret2
   exact⟨_,rfl,f2.owns x,Q.trans f2⟩
def Gk (d i n:Nat)(g:Φ)(x:DS)(w:Ω)(h:bG w d i n g x):
  Calls prog 137 #[.pointer (some ⟨d,0,none⟩)] w λe w'=>e= .returned (.int .i64 ((aK n:Int)-(taken x n).length))/\aQ [] w w':=by
 have m:aK n<=54:=by unfold aK;omega
 have p:=fy x n;go_enter func137,ntmps137;go_wp2_with fail;refine(mV d i n g x w h).mono ?_;rintro e w1 ⟨rfl,rfl⟩;go_wp2_with fail;refine(nB n h.lo h.hi w1).mono ?_;rintro e o ⟨rfl,rfl⟩;go_wp2_with fail;refine(jQ d i n g x o h).mono ?_;rintro e r ⟨v,rfl,j,q⟩;have⟨ad,cap,hv⟩:=ce j;subst hv
 obtain⟨f,a⟩:∃f,(taken x n).length=f:=⟨_,rfl⟩
 obtain⟨c,b⟩:∃c,aK n=c:=⟨_,rfl⟩
 have H1:Hid ((taken x n).length=f):=a;have l:Hid (aK n=c):=b;rw[a] at p j⊢;rw[b] at m⊢;clear a b;have k:wrap64 ((c:Int)-f)=c-f:=IntWalk.wrap64_in _ ϖ;go_wp2;go_ret;exact⟨by rw[H1.out,l.out];rfl,q⟩
def m7 (ss:List (List Γ×Nat)):Prop:=∀p∈ss,cL p.1=true/\p.2<=1
def DS.begin (x:DS)(n:Nat)(ss:List (List Γ×Nat)):DS×Φ:=
 if mH x n ss ((aK n:Int)-(taken x n).length-1)=false then(x,.int .i64 7) else x.put n 3 ⟨#[]⟩ (aD (db ss))
def Jx (F:ϑ)(d n:Nat)(x:DS)(base:Nat)(v:Φ)(ss:List (List Γ×Nat))(w:Ω)(h:bT w F d n x)(W:x.Fit 5)(T:x.waiting.length<55)(hv:w.ownsRow base 168 2 v ss.length (cU ss))(hl:ss.length<=7)(C:m7 ss)(hF:∀g,v.ownBlock=some g->g∉F):
  Calls prog 92 #[.pointer (some ⟨d,0,none⟩),v] w λe w'=>e= .returned (x.begin n ss).2/\∃t,bT w' t d n (x.begin n ss).1/\aQ F w w'/\bC F t w:=by
 have hn:aK n<=54:=by unfold aK;omega
 have ht:=fy x n;have⟨I,H,hd,X⟩:=id h;have o:∀p∈ss,p.1.length<=8/\p.2<=1:=λp b=>⟨og (C p b).1,(C p b).2⟩
 have S:(db ss).length<=63:=by have:=oB ss λp b=>(o p b).1;omega
 have⟨ad,cap,B⟩:=ce hv;subst B;have q:Hid (x.begin n ss=if mH x n ss ((aK n:Int)-(taken x n).length-1)=false then(x,.int .i64 7) else x.put n 3 ⟨#[]⟩ (aD (db ss))):=rfl;go_enter func92,ntmps92;go_wp2_with fail;refine(Gk d I n H x w hd).mono ?_;rintro e w1 ⟨rfl,i⟩;have k:=hd.new i;have h1:=h.new i;have f:=i.owns hv
 have O:(taken x n).length<=aK n:=p6 (x.read 0) (aK n);generalize (taken x n).length=y at*;generalize aK n=s at*;have P:wrap64 ((s:Int)-y-1)=s-y-1:=IntWalk.wrap64_in _ ϖ;go_wp2_with fail;refine(Gp d I n H x base _ ss (s-y-1) w1 k f ϖ (λp b=>(C p b).2) ϖ ϖ).mono ?_;rintro e M ⟨rfl,f2⟩
 have h2:=h1.new f2;have m:=f2.owns f;have z:=i.trans f2;have K:aQ F w M:=z.mono;clear hd k h1 f i f2;cases a:mH x n ss (s-y-1) with
 |false=>
  have c:Hid (x.begin n ss=(x,.int .i64 7)):=by show _=_;rw[q.out,a];rfl
  clear q a;go_wp2;go_ret;rw[c.out];exact⟨rfl,F,h2,K,bC.refl _ _⟩
 |true=>
  have c:Hid (x.begin n ss=x.put n 3 ⟨#[]⟩ (aD (db ss))):=by show _=_;rw[q.out,a];rfl
  clear q a;go_wp2_with fail;refine(fY M).mono ?_;rintro e Y ⟨rfl,u⟩;have N:=h2.new u;have l:=u.owns m;have E:=z.trans u;clear h2 m u z K;go_wp2_with fail;refine(FV base _ ss Y l ϖ o).mono ?_;rintro e G ⟨rfl,D⟩;have R:=N.new D;have J:=E.trans D;clear N l D E
  go_wp2_with (with_reducible refine bM 107 rfl ?_);refine cT rfl (.agg #[.int .i64 (3:Nat),.string ⟨#[]⟩,.string (aD (db ss))]) G ϰ ?_;go_wp2_with fail;refine(zr F d n x 3 ⟨#[]⟩ (aD (db ss)) G R W T ϖ (by decide) (by rw[fg];omega)).mono ?_;rintro e w5 ⟨rfl,t,L,Q,U⟩
  obtain⟨r,hr⟩:∃r,x.put n 3 ⟨#[]⟩ (aD (db ss))=r:=⟨_,rfl⟩
  rw[hr] at L⊢;have A:Hid (x.begin n ss=r):=c.out.trans hr;clear hr c;have⟨Z,r2⟩:=r;go_wp2;go_ret;rw[A.out];exact⟨rfl,t,L,(J.mono).trans Q (λj V=> .inl V),(bC.refl F w).trans U J.size⟩
def pV:Φ->Int
 |.int _ e=>e
 |_=>0
def DS.Fit.weak {x:DS}{m k:Nat}(h:x.Fit (m+k)):x.Fit m:=⟨h.lD,by have:=h.lC;omega,h.lB,h.lA⟩
def Cp {x:DS}{t o:Int}{m:Nat}(a:x.Fit (m+2))(h:x.fT t o=true):(x.mark t o).Fit m/\(x.mark t o).waiting=[]:=by
 unfold DS.fT at h;rw[ε] at h;unfold DS.mark;rw[φ h.1];refine⟨DS.CD (DS.kj (r:=m+1) a h.1) h.2,?_⟩;unfold DS.flush;rw[φ h.2]
def Ft {x:DS}{n s m:Nat}{p c:Ξ}(b:x.Fit (m+5)):∃e:Int,(x.put n s p c).2= .int .i64 e/\(e=0->(x.put n s p c).1.Fit m/\(x.put n s p c).1.waiting=[]):=by
 unfold DS.put;split
 .exact⟨7,rfl,λh=>by cases h⟩
 .split
  .rename_i h1 h2
   refine⟨_,rfl,λh=>?_⟩;have a:=(DS.Eo (m:=m+2) b h2).1;split at h
   .exact Cp a (by assumption)
   .cases h
  .exact⟨3,rfl,λh=>by cases h⟩
def Fo {x:DS}{n s m:Nat}{p:Ξ}(b:x.Fit (m+5)):∃e:Int,(x.remove n s p).2= .int .i64 e/\(e=0->(x.remove n s p).1.Fit m/\(x.remove n s p).1.waiting=[]):=by
 unfold DS.remove;split
 .exact⟨5,rfl,λh=>by cases h⟩
 .refine⟨_,rfl,λh=>?_⟩
  have a:x.Fit (m+3+2):=b;split at h
  .have:=Cp a (by assumption)
   exact⟨this.1.weak (k:=3),this.2⟩
  .cases h
def Q2 {x:DS}{n m:Nat}{w:dw}(a:x.Fit (m+5)):∃e:Int,(x.vd n w).2= .int .i64 e/\(e=0->(x.vd n w).1.Fit m/\(x.vd n w).1.waiting=[]):=by
 unfold DS.vd;cases w.becomes with
 |none=>exact Fo a
 |some c=>exact Ft a
def DS.iV (x:DS)(n:Nat):List dw->DS×Φ
 |[]=>(x,.int .i64 0)
 |w::r=>if pV (x.vd n w).2=0 then(x.vd n w).1.iV n r else x.vd n w
def DS.oA (x:DS)(n:Nat)(ss:List (List Γ×Nat)):DS×Φ:=
 if pV (x.iV n (bu x n ss)).2=0 then(x.iV n (bu x n ss)).1.remove n 3 ⟨#[]⟩ else x.iV n (bu x n ss)
def vg {x:DS}{n:Nat}{s:Int}{p:Ξ}{c:ϓ}(h:x.content n s p=some c):c.length<=96:=by
 unfold DS.content at h;split at h
 .rw[<-ac2 h]
  unfold bJ;rw[ac8];omega
 .cases h
def K5 {x:DS}{n:Nat}{ss:List (List Γ×Nat)}(f:m7 ss):∀w∈bu x n ss,w.set<256/\w.path.length<256/\∀c,w.becomes=some c->c.length<256:=by
 intro w a;unfold bu at a;have⟨p,d,a⟩:=List.mem_flatMap.1 a;have b:=f p d;have one:∀set,set<=2->w∈dU x n p set->w.set<256/\w.path.length<256/\∀c,w.becomes=some c->c.length<256:=λset g hm=>by
  unfold dU at hm;split at hm
  .simp at hm
  .simp only[ae1] at hm
   subst hm;exact⟨by show set<256;omega,by have:=og b.1;show p.1.length<256;omega,λc e=>by have:=vg e;omega⟩
 unfold fL at a;rcases ϐ1.1 a with a|a
 .exact one _ ϖ a
 .exact one _ ϖ a
def bT.apart {w:Ω}{F:ϑ}{d n:Nat}{x:DS}(h:bT w F d n x){b:Nat}{c:ϐ}{t:η}(r:Row w b c t)(h1:t≠134)(h2:t≠148)(f:t≠240):b∉F:=by
 obtain⟨j,i,hd,rfl⟩:=h;unfold Row at r;intro a;rcases ac1.1 a with rfl|a
 .have:=hd.row
  unfold Row at this;rw[r] at this;cases this;exact h1 rfl
 rcases ac1.1 a with rfl|a
 .have:=hd.last
  unfold Row at this;rw[r] at this;cases this;exact h2 rfl
 .rcases hd.own.2 with⟨e,_⟩|⟨g,cap,cur,e,_,hg,_⟩
  .rw[e] at a;simp[Value.ownBlock] at a
  .rw[e] at a
   have:b=g:=by simpa [Value.ownBlock] using a
   subst this;rw[r] at hg;cases hg;exact f rfl
def Ma {w:Ω}{F:ϑ}{d n base size k:Nat}{x:DS}{v:Φ}{e:η}{xs:ϡ}(h:bT w F d n x)(a:w.ownsRow base e size v k xs)(h1:e≠134)(h2:e≠148)(f:e≠240):∀j∈F,v.ownBlock≠some j:=λj b hv=>by
 rcases a.2 with⟨rfl,_⟩|⟨g,cap,cur,rfl,_,hg,_⟩
 .cases hv
 .have:g=j:=by simpa [Value.ownBlock] using hv
  subst this;exact h.apart (c:=cur) (t:=e) hg h1 h2 f b
def Gw (F:ϑ)(d n:Nat)(x:DS)(ss:List (List Γ×Nat))(w:Ω)(h:bT w F d n x)(hx:x.Fit 100)(iA:x.waiting.length<55)(i:x.content n 3 ⟨#[]⟩=some (db ss))(h0:0<ss.length)(hl:ss.length<=7)(hp:m7 ss)(hs:ss.Pairwise λp q=>p.1<q.1):
  Calls prog 58 #[.pointer (some ⟨d,0,none⟩)] w λe w'=>e= .returned (x.oA n ss).2/\∃F',bT w' F' d n (x.oA n ss).1/\aQ F w w'/\bC F F' w:=by
 have⟨bl,vw,hd,a0⟩:=id h;go_enter func58,ntmps58;go_wp2_with fail;refine(fY w).mono ?_;rintro e w1 ⟨rfl,f1⟩;have A:=hd.new f1;go_wp2_with fail;refine(oz d bl n vw x 3 ⟨#[]⟩ w1 A).mono ?_;rintro e w2 ⟨rfl,f2⟩;have K:=A.new f2;have MN:=f1.trans f2;rw[i];simp only[ϕ9,ϑ1];go_wp2_with fail
 refine(xy ss w2 h0 ϖ hp hs).mono ?_;rintro e w3 ⟨u,rfl,P,f3⟩;have R:=K.new f3;have vB:=MN.trans f3;go_wp2_with fail;refine(yF d bl n vw x _ u ss w3 R P ϖ λp am=>(hp p am).2).mono ?_;rintro e H ⟨v,rfl,O,f4⟩;have L:=vB.trans f4;have h4:=h.new L
 have a1:(bu x n ss).length<=14:=by have:=fZ x n ss;omega
 have aw:=K5 (x:=x) (n:=n) hp;have T:Hid (x.oA n ss=if pV (x.iV n (bu x n ss)).2=0 then(x.iV n (bu x n ss)).1.remove n 3 ⟨#[]⟩ else x.iV n (bu x n ss)):=rfl;generalize bu x n ss=a at*;clear hd A K R f1 f2 f3 f4 MN vB P;have⟨ad,cap,hv⟩:=ce O;subst hv;go_wp2_with fail
 go_loopw [25] (λc wr=>∃(k:Nat)(y:DS)(G:ϑ),c= .int .i64 k/\k<=a.length/\bT wr G d n y/\y.Fit (5*(14-k)+5)/\y.waiting.length<55/\y.iV n (a.drop k)=x.iV n a/\aQ F H wr/\bC F G H/\wr.ownsRow w3.heap.size 176 5 (Value.slice ad a.length cap) a.length (kW a)) (λc _=>a.length-(intOf c).toNat)
 case atStart=>exact⟨0,x,F,rfl,ϖ,h4,DS.Fit.weak (k:=25) hx,iA,ϛ,aQ.refl _ _,bC.refl _ _,O⟩
 case round=>
  obtain⟨k,y,G,rfl,hk,V,s,aB,b,Y,W,o⟩:=hrel
  by_cases C:k<a.length
  .have ak:=Ma V o (by decide) (by decide) (by decide)
   have⟨g,ae,ao,hg,aR,_,ac,M⟩:=eT o;have N:((ae.toList.drop (k*5)).take 5)=a[k].vals:=by
    rw[cx M _ _,Ek a k C]
   have hd:y.iV n (a.drop k)=if pV (y.vd n a[k]).2=0 then(y.vd n a[k]).1.iV n (a.drop (k+1)) else y.vd n a[k]:=by
    rw[ae5 C];rfl
   rw[hd] at b;obtain⟨m,hm⟩:∃m,5*(14-k)+5=m+5:=⟨_,rfl⟩
   have ab:m=5*(14-(k+1))+5:=ϖ
   rw[hm] at s;have⟨e,he,f⟩:=Q2 (n:=n) (w:=a[k]) s;have B:=aw a[k] (ai2 C);clear hd ac M;generalize a[k]=t at*;subst ao;go_wp2_with (with_reducible first|refine aA rfl ?_|refine au 176 rfl ?_|refine ai 176 rfl ?_);refine bZ rfl 176 _ rfl g (k*5) rfl Ik 5 uI _ _ hg _ N rfl ?_;clear N hg
   go_wp2_with (with_reducible first|refine aA rfl ?_|refine ai 176 rfl ?_);refine bj rfl 176 rfl _ JG ?_;intro w5 b7 l7 D r5;go_wp2_with (with_reducible first|refine aA rfl ?_|refine au 176 rfl ?_|refine ai 176 rfl ?_);refine bQ rfl 176 _ _ rfl _ 0 rfl _ rfl 5 uI ?_ ?_ _ _ r5 ?_ ?_
   .rfl
   .simp[dw.vals,Value.oneCell']
   .decide
   intro I U q6;rw[bL _ _ (by rfl)] at q6;have Za:Row I b7 t.vals.toArray 176:=q6;have J:aQ [] wr I:=D.trans U (by simpa using l7);have aL:=V.new J;have an:=J.owns o;clear q6 r5 D U o V;go_wp2_with (with_reducible first|refine aA rfl ?_|refine au 176 rfl ?_)
   refine bZ rfl 176 _ rfl b7 0 rfl Ik 5 uI _ _ Za t.vals (by rfl) rfl ?_;clear Za;go_wp2_with fail;refine(Q0 G d n y t I aL ⟨s.lD,by have:=s.lC;omega,s.lB,s.lA⟩ aB B.1 B.2.1 B.2.2).mono ?_;rintro e w7 ⟨rfl,E,h7,f7,g7⟩
   have S:aQ F H w7:=Y.trans ((J.mono).trans f7 (λj i=> .inl i):aQ G wr w7) (λj i=>W j i);have Q:bC F E H:=W.trans (bC.trans (bC.refl G wr) g7 J.size) Y.size;have aq:=f7.owns an ak;rw[he] at b⊢;have Z:Hid (x.iV n a=if pV (.int .i64 e)=0 then(y.vd n t).1.iV n (a.drop (k+1)) else y.vd n t):=b.symm
   have HP:Hid (y.vd n t=((y.vd n t).1,.int .i64 e)):=Prod.ext rfl he;clear b he;generalize (y.vd n t).1=z at*
   by_cases X:e=0
   .subst X
    have⟨ar,av⟩:=f rfl;have l:Hid (x.iV n a=z.iV n (a.drop (k+1))):=Z.out;clear f Z HP;go_wp2
    go_roundw
    case rel=>exact⟨k+1,z,E,by go_num,ϖ,h7,ab▸ar,by rw[av];decide,l.out.symm,S,Q,aq⟩
    case measure=>simp[intOf];omega
   .have a2:(e==0)=false:=by simpa using X
    have l:Hid (x.oA n ss=(z,.int .i64 e)):=by
     have h1:x.iV n a=(z,.int .i64 e):=by rw[Z.out,ζ (by simpa [pV] using X),HP.out]
     show _=_;rw[T.out,h1,ζ (by simpa [pV] using X)]
    clear f Z HP T;go_wp2;go_ret;rw[l.out];exact⟨rfl,E,h7,(L.mono).trans S (λj i=> .inl i),(bC.refl F w).trans Q L.size⟩
  .obtain rfl:k=a.length:=ϖ
   rw[List.drop_length] at b;have l:Hid (x.oA n ss=y.remove n 3 ⟨#[]⟩):=by
    have h1:x.iV n a=(y,.int .i64 0):=b.symm;show _=_;rw[T.out,h1];rfl
   clear b T o;go_wp2_with fail;refine(fY wr).mono ?_;rintro e w5 ⟨rfl,D⟩;have h5:=V.new D;go_wp2_with fail;refine(qA G d n y 3 ⟨#[]⟩ w5 h5 ⟨s.lD,by have:=s.lC;omega,s.lB,s.lA⟩ ϖ).mono ?_;rintro e I ⟨rfl,E,h6,U,g6⟩;obtain⟨r,hr⟩:∃r,y.remove n 3 ⟨#[]⟩=r:=⟨_,rfl⟩
   rw[hr] at h6⊢;have ag:Hid (x.oA n ss=r):=l.out.trans hr;clear hr l;have⟨r1,r2⟩:=r;go_wp2;go_ret;rw[ag.out];have J:aQ F H I:=Y.trans ((D.mono).trans U (λj i=> .inl i):aQ G wr I) (λj i=>W j i);have aa:bC F E H:=W.trans (bC.trans (bC.refl G wr) g6 D.size) Y.size
   exact⟨rfl,E,h6,(L.mono).trans J (λj i=> .inl i),(bC.refl F w).trans aa L.size⟩
def Tt (x:DS)(n s:Nat)(p c:Ξ):∃e:Int,(x.put n s p c).2= .int .i64 e:=by
 unfold DS.put;split
 .exact⟨_,rfl⟩
 .split<;>exact⟨_,rfl⟩
def zn (x:DS)(n s:Nat)(p:Ξ):∃e:Int,(x.remove n s p).2= .int .i64 e:=by
 unfold DS.remove;split<;>exact⟨_,rfl⟩
def CG (n:Nat):∀(a:List dw)(x:DS),∃e:Int,(x.iV n a).2= .int .i64 e
 |[],_=>⟨0,rfl⟩
 |w::r,x=>by
  unfold DS.iV;split
  .exact CG n r _
  .unfold DS.vd
   cases w.becomes with
   |none=>exact zn ..
   |some c=>exact Tt ..
def QV (x:DS)(n:Nat)(ss:List (List Γ×Nat)):∃e:Int,(x.oA n ss).2= .int .i64 e:=by
 unfold DS.oA;split
 .exact zn ..
 .exact CG ..
def Ay {x:DS}{n m:Nat}{ss:List (List Γ×Nat)}(a:x.Fit (m+5)):∃e:Int,(x.begin n ss).2= .int .i64 e/\(e=0->(x.begin n ss).1.Fit m/\(x.begin n ss).1.waiting=[]):=by
 unfold DS.begin;split
 .exact⟨7,rfl,λh=>by cases h⟩
 .exact Ft a
def DS.sU (x:DS)(n:Nat)(ss:List (List Γ×Nat)):DS×Φ:=
 if ss=[] then(x,.int .i64 0) else if pV (x.begin n ss).2=0 then(x.begin n ss).1.oA n ss else x.begin n ss
def Vc (x:DS)(n:Nat)(ss:List (List Γ×Nat))(a:x.Fit 105):∃e:Int,(x.sU n ss).2= .int .i64 e:=by
 unfold DS.sU;split
 .exact⟨0,rfl⟩
 .split
  .exact QV ..
  .exact(Ay (m:=100) a).imp λe h=>h.1
def aE.moved {w w':Ω}{F a:ϑ}{s d n:Nat}{x x':DS}(h:aE w F s d n x)(hd:bT w' a d n x')(f:aQ F w w')(g:bC F a w):aE w' a s d n x':=
 ⟨f.row h.row h.ne,hd,λb=>(g s b).elim h.ne (λc=>by have:=h.row.lt;omega)⟩
def Va (F:ϑ)(s d n:Nat)(x:DS)(base:Nat)(v:Φ)(ss:List (List Γ×Nat))(w:Ω)(h:aE w F s d n x)(t:x.Fit 105)(Q:x.waiting.length<55)(hv:w.ownsRow base 168 2 v ss.length (cU ss))(B:ss.length<=7)(I:m7 ss)(N:ss.Pairwise λp q=>p.1<q.1)(S:∀g,v.ownBlock=some g->g∉F)(o:pV (x.begin n ss).2=0->(x.begin n ss).1.content n 3 ⟨#[]⟩=some (db ss)):
  Calls prog 56 #[.pointer (some ⟨s,0,none⟩),v] w λe w'=>e= .returned (x.sU n ss).2/\(∃M,aE w' M s d n (x.sU n ss).1/\bC F M w)/\aQ F w w':=by
 have c0:=h.cell;have⟨ad,cap,H⟩:=ce hv;subst H;have f:Hid (x.sU n ss=if ss=[] then(x,.int .i64 0) else if pV (x.begin n ss).2=0 then(x.begin n ss).1.oA n ss else x.begin n ss):=rfl;go_enter func56,ntmps56
 by_cases h0:ss.length=0
 .have b:Hid (x.sU n ss=(x,.int .i64 0)):=f.out.trans (φ (ϔ4.1 h0))
  rw[h0];clear f hv N I o B h0;go_wp2;go_ret;rw[b.out];exact⟨rfl,⟨F,h,bC.refl _ _⟩,aQ.refl _ _⟩
 .have l:ss≠[]:=λe=>h0 (by rw[e];rfl)
  have G:0<ss.length:=ϖ
  have k:((ss.length:Int)==0)=false:=by simp;omega
  have⟨e1,c,a⟩:=Ay (m:=100) (n:=n) (ss:=ss) t;go_wp2_with fail;refine(Jx F d n x base _ ss w h.disk ⟨t.lD,by have:=t.lC;omega,t.lB,t.lA⟩ Q hv B I S).mono ?_;rintro e w1 ⟨rfl,L,h1,u,z⟩;have i:=h.moved h1 u z;have c1:=i.cell;rw[c] at o f⊢;have A:Hid (x.begin n ss=((x.begin n ss).1,.int .i64 e1)):=Prod.ext rfl c;clear c c0 h0
  generalize (x.begin n ss).1=y at*
  by_cases D:e1=0
  .subst D
   have⟨O,E⟩:=a rfl;have b:Hid (x.sU n ss=y.oA n ss):=f.out.trans (ζ l);have C:=o rfl;clear f A o a k;go_wp2_with fail;refine(Gw L d n y ss w1 h1 O (by rw[E];decide) C G B I N).mono ?_;rintro e V ⟨rfl,P,h2,f2,K⟩;obtain⟨r,hr⟩:∃r,y.oA n ss=r:=⟨_,rfl⟩
   rw[hr] at h2⊢;have J:Hid (x.sU n ss=r):=b.out.trans hr;clear hr b;have⟨U,r2⟩:=r;go_wp2;go_ret;rw[J.out];exact⟨rfl,⟨P,i.moved h2 f2 K,z.trans K u.size⟩,u.trans f2 (λj R=>z j R)⟩
  .have T:(e1==0)=false:=by simpa using D
   have b:Hid (x.sU n ss=(y,.int .i64 e1)):=f.out.trans ((ζ l).trans ((ζ (by simpa [pV] using D)).trans A.out));clear f A o a k;go_wp2;go_ret;rw[b.out];exact⟨rfl,⟨L,i,z⟩,u⟩
def aN (l:List (List Γ)):Array Φ:=(l.map λb=>Value.string (aD b)).toArray
def cM (l:List (List Γ)):(aN l).size=l.length:=by simp[aN]
def qe (l:List (List Γ))(i:Nat)(h:i<l.length):(aN l)[i]? =some (.string (aD l[i])):=by simp[aN,h]
def lg (b:ϓ):(aD b).toList=b:=by rw[ϔ3];rfl
def OA (l:List (List Γ))(i:Nat):(aN l).extract i (i+7)=aN ((l.drop i).take 7):=by
 apply Array.toList_inj.1
 rw[Array.toList_extract];simp[aN,List.extract,List.map_take,List.map_drop]
section
variable {P:ω}(w:Ω)
def va (d:Nat){e:η}(c:P.plainKey e=true)(f:P.underlying e=some .string)(xs a:List (List Γ)):∀is:List Nat,(∀i∈is,i<xs.length/\i<a.length)->
  (Op.eqItems (d+1) e 1 (aN xs) (aN a) is).run P w= .ok (is.all λi=>xs[i]? ==a[i]?) w
 |[],_=>by simp[Op.eqItems]
 |i::is,h=>by
  have b:=h i ϛ;have l:=va d c f xs a is λj k=>h j (by simp[k])
  have m:=run_part_plain (P:=P) (w:=w) c (xs:=aN xs) (off:=i*1) (v:= .string (aD xs[i])) (by rw[Nat.mul_one];exact qe xs i b.1);have g:=run_part_plain (P:=P) (w:=w) c (xs:=aN a) (off:=i*1) (v:= .string (aD a[i])) (by rw[Nat.mul_one];exact qe a i b.2);have e1:((aD xs[i]).toList==(aD a[i]).toList)=(xs[i]? ==a[i]?):=by
   rw[lg,lg,List.getElem?_eq_getElem b.1,List.getElem?_eq_getElem b.2];rfl
  simp only[Op.eqItems,run_bind,m,g,run_equalIn_string w d e _ _ f,Result.andThen_ok,e1,ϒ8];cases n:(xs[i]? ==a[i]?)
  .simp
  .simpa using l
def Jz (xs a:List (List Γ))(n:Nat)(d:xs.length=n)(c:a.length=n):((range n).all λi=>xs[i]? ==a[i]?)=(xs==a):=by
 rw[ϐ2];simp only[ad6,ae2,ai7];constructor
 .intro h
  apply ϒ5
  intro i;rcases ϐ5 i n with b|b
  .exact h i b
  .rw[ai5 ϖ,ai5 ϖ]
 .rintro rfl i _;rfl
def QS (d:Nat){t e:η}(c:P.underlying t=some (.array 7 e))(i:TypeInfo)(k:P.info? e=some i)(h:P.cellsOf e=1)(m:P.plainKey e=true)(f:P.underlying e=some .string)(xs a:List (List Γ))(l:xs.length=7)(b:a.length=7):
  (Op.equalIn (d+2) t (.agg (aN xs)) (.agg (aN a))).run P w= .ok (xs==a) w:=by
 rw[run_equalIn_array w (d+1) _ _ c k,h,va w d m f xs a _ (by intro j g;rw[ae2] at g;omega),Jz xs a 7 l b]
def vb (d:Nat){t e:η}(k:P.underlying t=some (.array 7 e))(m:TypeInfo)(c:P.info? t=some m)(b:P.cellsOf t=7)(i:TypeInfo)(o:P.info? e=some i)(f:P.cellsOf e=1)(p:P.plainKey e=true)(l:P.underlying e=some .string)(xs a:List (List Γ)):∀is:List Nat,(∀i∈is,i*7+7<=xs.length/\i*7+7<=a.length)->
  (Op.eqItems (d+2) t 7 (aN xs) (aN a) is).run P w= .ok (is.all λi=>(xs.drop (i*7)).take 7==(a.drop (i*7)).take 7) w
 |[],_=>by simp[Op.eqItems]
 |j::is,h=>by
  have n:=h j ϛ;have q:=vb d k m c b i o f p l xs a is λj n=>h j (by simp[n])
  have pt:∀g:List (List Γ),(part t (aN g) (j*7)).run P w= .ok (.agg (aN ((g.drop (j*7)).take 7))) w:=λg=>by
   rw[<-OA];simp[part,isAgg,run_underlying k,run_sizeOf w c,b]
  have e1:=QS (P:=P) w d k i o f p l ((xs.drop (j*7)).take 7) ((a.drop (j*7)).take 7) (by rw[ac8,ϐ3];omega) (by rw[ac8,ϐ3];omega);simp only[Op.eqItems,run_bind,pt,e1,Result.andThen_ok,ϒ8];cases f:((xs.drop (j*7)).take 7==(a.drop (j*7)).take 7)
  .simp
  .simpa using q
def OZ (xs a:List (List Γ))(d:xs.length=21)(c:a.length=21):((range 3).all λi=>(xs.drop (i*7)).take 7==(a.drop (i*7)).take 7)=(xs==a):=by
 rw[ϐ2];simp only[ad6,ae2,ai7];constructor
 .intro h
  apply ϒ5
  intro k;rcases ϐ5 k 21 with b|b
  .have h1:=congrArg (·[k%7]?) (h (k/7) ϖ)
   simp only[al8,ai6] at h1;rw[φ (Nat.mod_lt _ ϖ),φ (Nat.mod_lt _ ϖ)] at h1;rw[show k/7*7+k%7=k by omega] at h1;exact h1
  .rw[ai5 ϖ,ai5 ϖ]
 .rintro rfl i _;rfl
end
def Ds:prog.plainKey 9=true:=ϰ
def vl:prog.cellsOf 9=1:=ϰ
def Ar:prog.cellsOf 30=7:=ϰ
def xz:(prog.info? 9).map (·.size)=some 1:=ϰ
def Mz:(prog.info? 30).map (·.size)=some 7:=ϰ
def Cy:(prog.info? 31).map (·.size)=some 21:=ϰ
def pi:(prog.info? 33).map (·.size)=some 21:=ϰ
def Fc:(prog.underlying 31).map TypeDesc.isRow=some true:=ϰ
def cK:(prog.underlying 33).map TypeDesc.isRow=some true:=ϰ
def Oe:prog.underlying 30=some (.array 7 9):=ϰ
def Od:prog.underlying 31=some (.array 3 30):=ϰ
def IZ (c:BinOp)(x y:ab7)(a b:ϐ)(w:Ω):(eqGuard c 31 x y (.agg a) (.agg b)).run prog w= .ok () w:=by
 cases c<;>kernel_rfl
def BV {n:Nat}{t:η}(h:(prog.info? t).map (·.size)=some n):∃i,prog.info? t=some i:=by
 cases a:prog.info? t with
 |none=>simp[a] at h
 |some i=>exact⟨i,rfl⟩
def QR (xs a:List (List Γ))(g:xs.length=21)(c:a.length=21)(w:Ω):(binOp .eql 31 (.agg (aN xs)) (.agg (aN a))).run prog w= .ok (.bool (xs==a)) w:=by
 have⟨i,f⟩:=BV xz;have⟨d,b⟩:=BV Mz;rw[run_eql_struct,run_equalIn_array w 9999 _ _ Od b,Ar,vb w 9997 Oe d b Ar i f vl Ds underlying9 xs a _ (by intro j e;rw[ae2] at e;omega),OZ xs a g c];rfl
def kX (xs a:List (List Γ))(h:xs.length=21)(i:a.length=21)(w:Ω):
  Calls prog 25 #[.agg (aN xs),.agg (aN a)] w λe w'=>e= .returned (.bool (xs==a))/\aQ [] w w':=by
 go_enter func25,ntmps25;go_wp2_with (with_reducible first|refine bA rfl ?_|refine au 31 rfl ?_|refine dX 31 rfl ?_);refine eQ rfl 33 _ rfl (.agg (aN xs)) rfl ?_;intro w1 b1 l1 g f;go_wp2_with (with_reducible first|refine bA rfl ?_|refine au 31 rfl ?_|refine dX 31 rfl ?_)
 refine eQ rfl 33 _ rfl (.agg (aN a)) rfl ?_;intro b b2 l2 f2 r2;have q1:Row b b1 (aN xs) 33:=f2.row f;have k:Row b b2 (aN a) 33:=r2;have j:=g.trans f2;clear f r2 g f2;have c:((aN xs).toList.drop 0).take 21=(aN xs).toList:=by rw[ϲ];exact θ (by rw[af9,cM];omega)
 have d:((aN a).toList.drop 0).take 21=(aN a).toList:=by rw[ϲ];exact θ (by rw[af9,cM];omega)
 go_wp2_with (with_reducible first|refine au 31 rfl ?_|refine dX 31 rfl ?_);refine bZ rfl 31 _ rfl b1 0 rfl Fc 21 Cy _ _ q1 _ c (by rw[af9,cM];exact h) ?_;go_wp2_with (with_reducible first|refine au 31 rfl ?_|refine dX 31 rfl ?_)
 refine bZ rfl 31 _ rfl b2 0 rfl Fc 21 Cy _ _ k _ d (by rw[af9,cM];exact i) ?_;go_wp2_with (with_reducible refine dX 31 rfl ?_);refine cT rfl (.bool (xs==a)) b (tE .eql 31 31 _ _ rfl (.agg (aN xs)) (.agg (aN a)) rfl rfl _ (IZ ..) (QR xs a h i b)) ?_;go_wp2;go_ret
 exact⟨rfl,j⟩
end
section
open Go.RowKit Go.Lib Go.Sort
section
variable {L:List Γ}{n:Nat}{m:ew}
def lV.loose (h:lV L n m){j:Nat}{b:ϓ}(a:j<n)(h0:j≠0)(c:b.length=64)(d:∀i f,m i=some f->j≠1+2*i/\j≠2+2*i):lV (bg L ((j:Int),b)) n m where
 len:=Ki L n h.len j a b c
 lo:=h.lo
 root:=by rw[gT L n h.len j a b c,ζ ϖ,h.root]
 recs i f hm:=by
  have h1:=d i f hm;rw[gT L n h.len j a b c,gT L n h.len j a b c,ζ ϖ,ζ ϖ,h.recs i f hm]
 lt:=h.lt
 good:=h.good
 inj:=h.inj
def mD {i:Nat}(b:m i=none){j:Nat}(c:j=1+2*i\/j=2+2*i):∀k f,m k=some f->j≠1+2*k/\j≠2+2*k:=by
 intro k f a;have:k≠i:=λe=>by subst e;rw[b] at a;cases a
 omega
def sS (m:ew)(o:Int):ew:=if o=-1 then m else upd m o.toNat none
def after (m:ew)(i:Nat)(f:dl)(o:Int):ew:=sS (upd m i (some f)) o
def ug (m:ew)(o:Int)(a:-1<=o/\o<54):iE (cG n m) o 0=cG n (sS m o):=by
 unfold iE sS;split
 .rfl
 .exact E5 n m o.toNat ϖ none
def uF (m:ew)(i:Nat)(b:i<54)(f:dl)(o:Int)(a:-1<=o/\o<54):aV (cG n m) i o=cG n (after m i f o):=by
 unfold aV after;have:iE (cG n m) (i:Int) 1=cG n (upd m i (some f)):=by
  unfold iE;rw[ζ ϖ];exact E5 n m i b (some f)
 rw[this,ug _ o a]
def sL (m:ew)(o:Int)(a:-1<=o/\o<54):aV (cG n m) (-1) o=cG n (sS m o):=by
 unfold aV;rw[show iE (cG n m) (-1) 1=cG n m from rfl,ug _ o a]
def iU {m:ew}{o:Int}{j:Nat}{f:dl}(h:sS m o j=some f):m j=some f/\(0<=o->o.toNat≠j):=by
 unfold sS at h;split at h
 .exact⟨h,ϖ⟩
 .unfold upd at h
  split at h
  .cases h
  .rename_i a
   exact⟨h,λ_ e=>a e.symm⟩
def tH {m:ew}{o:Int}{j:Nat}(h:o=-1\/(0<=o/\o≠j)):sS m o j=m j:=by
 unfold sS;split
 .rfl
 .unfold upd
  rw[ζ ϖ]
def lV.rooted (h:lV L n m){a:ew}(b:0<n)(hr:∀i f,a i=some f->gn L (1+2*i)++gn L (2+2*i)=cI f.set f.path f.content)(c:∀i f,a i=some f->i<aK n)(hg:∀i f,a i=some f->eD f.set f.path=true/\f.content.length<=96)(d:∀i j f g,a i=some f->a j=some g->nameOf f=nameOf g->i=j):lV (bg L (0,cG n a)) n a where
 len:=Ki L n h.len 0 b _ (ie ..)
 lo:=h.lo
 root:=by
  have:=gT L n h.len 0 b _ (ie n a) 0;rw[φ rfl] at this;exact this
 recs i f hm:=by
  have h1:=gT L n h.len 0 b _ (ie n a) (1+2*i);have h2:=gT L n h.len 0 b _ (ie n a) (2+2*i);rw[ζ ϖ] at h1 h2;show gn (bg L (((0:Nat):Int),cG n a)) _++gn (bg L (((0:Nat):Int),cG n a)) _=_;rw[h1,h2];exact hr i f hm
 lt:=c
 good:=hg
 inj:=d
def lV.dropped (h:lV L n m)(o:Int):lV (bg L (0,cG n (sS m o))) n (sS m o):=
 h.rooted (by have:=h.lo;omega) (λi f hm=>h.recs i f (iU hm).1) (λi f hm=>h.lt i f (iU hm).1) (λi f hm=>h.good i f (iU hm).1)
  λi j f g a hg e=>h.inj i j f g (iU a).1 (iU hg).1 e
def jI {m:ew}{i:Nat}{f:dl}{o:Int}{j:Nat}{g:dl}(h:after m i f o j=some g):(j=i/\g=f)\/(j≠i/\m j=some g/\(0<=o->o.toNat≠j)):=by
 unfold after at h;have⟨h1,h2⟩:=iU h;unfold upd at h1;split at h1
 .rename_i e
  exact .inl ⟨e,(ac2 h1).symm⟩
 .rename_i e
  exact .inr ⟨e,h1,h2⟩
def lV.put (h:lV L n m){i:Nat}{f:dl}{o:Int}(l:i<aK n)(a:gn L (1+2*i)++gn L (2+2*i)=cI f.set f.path f.content)(hg:eD f.set f.path=true/\f.content.length<=96)(b:∀j g,m j=some g->nameOf g=nameOf f->o=j):lV (bg L (0,cG n (after m i f o))) n (after m i f o):=by
 refine h.rooted (by have:=h.lo;omega) (λj g hm=>?_) (λj g hm=>?_) (λj g hm=>?_) λj k g g' d c e=>?_
 .rcases jI hm with⟨rfl,rfl⟩|⟨_,h1,_⟩
  .exact a
  .exact h.recs j g h1
 .rcases jI hm with⟨rfl,rfl⟩|⟨_,h1,_⟩
  .exact l
  .exact h.lt j g h1
 .rcases jI hm with⟨rfl,rfl⟩|⟨_,h1,_⟩
  .exact hg
  .exact h.good j g h1
 .rcases jI d with⟨rfl,rfl⟩|⟨_,h1,h2⟩
  .rcases jI c with⟨rfl,rfl⟩|⟨_,h3,h4⟩
   .rfl
   .have:=b k g' h3 e.symm
    have:=h4 ϖ;omega
  .rcases jI c with⟨rfl,rfl⟩|⟨_,h3,h4⟩
   .have:=b j g h1 e
    have:=h2 ϖ;omega
   .exact h.inj j k g g' h1 h3 e
end
def half (r:ϓ)(k:Nat):List Γ:=(r.drop (k*64)).take 64
def uQ (r:ϓ)(h:r.length=128)(k:Nat)(a:k<2:=by omega):(half r k).length=64:=by
 unfold half;rw[ac8,ϐ3];omega
def halves (r:ϓ)(h:r.length=128):half r 0++half r 1=r:=by
 unfold half;simp only[Nat.zero_mul,ϲ,Nat.one_mul];rw[θ (l:=r.drop 64) (by rw[ϐ3];omega),List.take_append_drop]
def mM (L:ϓ)(i:Nat)(r:ϓ):List Γ:=bg (bg L ((1+2*i:Nat),half r 0)) ((2+2*i:Nat),half r 1)
section
variable (L:List Γ)(a k kp:Int)(n s:Nat)(p c:Ξ)(i:Nat)(o:Int)(root r:List Γ)
def zt (hr:cI s p.data.toList c.data.toList=r)(f:eg ⟨L,[],a,false,k,kp,false⟩ n=i)(d:cN ⟨L,[],a,false,k,kp,false⟩ s p (taken ⟨L,[],a,false,k,kp,false⟩ n)=o)(b:seenIn (mM L i r) [] 0=root):
  (⟨L,[],a,false,k,kp,false⟩:DS).put n s p c=(⟨bg (mM L i r) (0,aV root i o),[],a+5,false,k,kp,false⟩,.int .i64 0):=by
 have e:bg (bg L ((1+2*i:Nat),List.take 64 r)) ((2+2*i:Nat),List.take 64 (List.drop 64 r))=mM L i r:=by simp[mM,half]
 unfold DS.put;rw[f,d,hr,ζ ϖ];simp[DS.iy,DS.lG,DS.wr,DS.write,DS.bp,DS.gW,DS.flush,DS.mark,DS.fT,cu,fR,DS.read];rw[show 1+2*(i:Int)=((1+2*i:Nat):Int) by omega,show((1+2*i:Nat):Int)+1=((2+2*i:Nat):Int) by omega,e,b];simp;omega
def Pd (hr:cI s p.data.toList c.data.toList=r)(f:eg ⟨L,[],a,true,k,kp,false⟩ n=i)(d:cN ⟨L,[],a,true,k,kp,false⟩ s p (taken ⟨L,[],a,true,k,kp,false⟩ n)=o)(b:seenIn (mM L i r) [] 0=root)(l:5<=k):
  (⟨L,[],a,true,k,kp,false⟩:DS).put n s p c=(⟨bg (mM L i r) (0,aV root i o),[],a+5,true,k-5,kp,false⟩,.int .i64 0):=by
 have e:bg (bg L ((1+2*i:Nat),List.take 64 r)) ((2+2*i:Nat),List.take 64 (List.drop 64 r))=mM L i r:=by simp[mM,half]
 have f0:(k==0)=false:=by rw[ac3];omega
 have j:(k-1==0)=false:=by rw[ac3];omega
 have f2:(k-1-1==0)=false:=by rw[ac3];omega
 have g:(k-1-1-1==0)=false:=by rw[ac3];omega
 have h:(k-1-1-1-1==0)=false:=by rw[ac3];omega
 unfold DS.put;rw[f,d,hr,ζ ϖ];simp[DS.iy,DS.lG,DS.wr,DS.write,DS.bp,DS.gW,DS.flush,DS.mark,DS.fT,cu,fR,DS.read,f0,j,f2,g,h,-beq_eq_false_iff_ne,-beq_iff_eq];rw[show 1+2*(i:Int)=((1+2*i:Nat):Int) by omega,show((1+2*i:Nat):Int)+1=((2+2*i:Nat):Int) by omega,e,b];simp;omega
def iF:Nat->List Γ
 |0=>L
 |1=>dQ kp L [((1+2*i:Nat),half r 0)] 1
 |2=>dQ kp L [((1+2*i:Nat),half r 0),((2+2*i:Nat),half r 1)] 2
 |3=>mM L i r
 |_=>dQ kp (mM L i r) [(0,aV root i o)] 1
def LZ (hr:cI s p.data.toList c.data.toList=r)(j:Nat)(k:j<5)(g:eg ⟨L,[],a,true,j,kp,false⟩ n=i)(f:cN ⟨L,[],a,true,j,kp,false⟩ s p (taken ⟨L,[],a,true,j,kp,false⟩ n)=o)(b:seenIn (mM L i r) [] 0=root):
  (⟨L,[],a,true,j,kp,false⟩:DS).put n s p c=(⟨iF L kp i o root r j,[],a+j,true,0,kp,true⟩,.int .i64 3):=by
 have e:bg (bg L ((1+2*i:Nat),List.take 64 r)) ((2+2*i:Nat),List.take 64 (List.drop 64 r))=mM L i r:=by simp[mM,half]
 have h:¬((i:Int)=-1):=ϖ
 have q1:1+2*(i:Int)=((1+2*i:Nat):Int):=ϖ
 have d:((1+2*i:Nat):Int)+1=((2+2*i:Nat):Int):=ϖ
 unfold DS.put;rw[g,f,hr,ζ h];rcases(by omega:j=0\/j=1\/j=2\/j=3\/j=4) with rfl|rfl|rfl|rfl|rfl
 .simp[DS.iy,DS.lG,DS.wr,DS.write,DS.bp,DS.gW,DS.flush,DS.mark,DS.fT,cu,fR,DS.read,DS.stopped,DS.fall,iF,dQ]
 .simp[DS.iy,DS.lG,DS.wr,DS.write,DS.bp,DS.gW,DS.flush,DS.mark,DS.fT,cu,fR,DS.read,DS.stopped,DS.fall,iF,half]
 .simp[DS.iy,DS.lG,DS.wr,DS.write,DS.bp,DS.gW,DS.flush,DS.mark,DS.fT,cu,fR,DS.read,DS.stopped,DS.fall,iF,half]
  rw[q1,d];simp;omega
 .simp[DS.iy,DS.lG,DS.wr,DS.write,DS.bp,DS.gW,DS.flush,DS.mark,DS.fT,cu,fR,DS.read,DS.stopped,DS.fall,iF,dQ]
  rw[q1,d,e];simp;omega
 .simp[DS.iy,DS.lG,DS.wr,DS.write,DS.bp,DS.gW,DS.flush,DS.mark,DS.fT,cu,fR,DS.read,DS.stopped,DS.fall,iF]
  rw[q1,d,e,b];simp;omega
def xe (x:DS)(a:cN x s p (taken x n)=-1):x.remove n s p=(x,.int .i64 5):=by
 unfold DS.remove;rw[φ a]
def qB (c:cN ⟨L,[],a,false,k,kp,false⟩ s p (taken ⟨L,[],a,false,k,kp,false⟩ n)=o)(d:o≠-1)(b:seenIn L [] 0=root):
  (⟨L,[],a,false,k,kp,false⟩:DS).remove n s p=(⟨bg L (0,aV root (-1) o),[],a+2,false,k,kp,false⟩,.int .i64 0):=by
 unfold DS.remove;rw[c,ζ d];simp[DS.write,DS.bp,DS.gW,DS.flush,DS.mark,DS.fT,cu,fR,DS.read,b];omega
def Fm (c:cN ⟨L,[],a,true,k,kp,false⟩ s p (taken ⟨L,[],a,true,k,kp,false⟩ n)=o)(d:o≠-1)(b:seenIn L [] 0=root)(f:2<=k):
  (⟨L,[],a,true,k,kp,false⟩:DS).remove n s p=(⟨bg L (0,aV root (-1) o),[],a+2,true,k-2,kp,false⟩,.int .i64 0):=by
 have f0:(k==0)=false:=by rw[ac3];omega
 have e:(k-1==0)=false:=by rw[ac3];omega
 unfold DS.remove;rw[c,ζ d];simp[DS.write,DS.bp,DS.gW,DS.flush,DS.mark,DS.fT,cu,fR,DS.read,b,f0,e,-beq_eq_false_iff_ne,-beq_iff_eq];omega
def jE:Nat->List Γ
 |0=>L
 |_=>dQ kp L [(0,aV root (-1) o)] 1
def Dl (j:Nat)(e:j<2)(c:cN ⟨L,[],a,true,j,kp,false⟩ s p (taken ⟨L,[],a,true,j,kp,false⟩ n)=o)(d:o≠-1)(b:seenIn L [] 0=root):
  (⟨L,[],a,true,j,kp,false⟩:DS).remove n s p=(⟨jE L kp o root j,[],a+j,true,0,kp,true⟩,.int .i64 3):=by
 unfold DS.remove;rw[c,ζ d];rcases(by omega:j=0\/j=1) with rfl|rfl
 .simp[DS.write,DS.bp,DS.gW,DS.flush,DS.mark,DS.fT,cu,fR,DS.read,DS.stopped,DS.fall,jE,dQ]
 .simp[DS.write,DS.bp,DS.gW,DS.flush,DS.mark,DS.fT,cu,fR,DS.read,DS.stopped,DS.fall,jE,b]
end
end
section
open Go.RowKit Go.Lib
def cellOf (r:Option (List Γ)):List Γ:=match r with
 |none=>[]
 |some c=>43::c
def DS.at (x:DS)(n q:Nat):Option (List Γ):=x.content n ((q/7:Nat):Int) (d7 (q%7))
def nW (c:Nat->Option (List Γ))(q:Nat):List (List Γ):=(range 21).map λi=>if i<q then cellOf (c i) else []
def DS.state (x:DS)(n:Nat):List (List Γ):=nW (x.at n) 21
def io (c:Nat->Option (List Γ))(q:Nat):(nW c q).length=21:=by simp[nW]
def Lr (c:Nat->Option (List Γ))(q:Nat)(h:c q=none):nW c (q+1)=nW c q:=by
 unfold nW
 apply List.map_congr_left
 intro i _
 by_cases h1:i<q
 .rw[φ h1,φ ϖ]
 .by_cases h2:i=q
  .subst h2
   rw[φ ϖ,ζ h1,h];rfl
  .rw[ζ h1,ζ ϖ]
def Lq (c:Nat->Option (List Γ))(q:Nat)(t:ϓ)(h:c q=some t):aN (nW c (q+1))=(aN (nW c q)).setIfInBounds q (.string (aD (43::t))):=by
 apply ϑ9
 intro i;rw[Array.getElem?_setIfInBounds,cM,io]
 by_cases h1:i<21
 .rw[qe _ i (by rw[io];exact h1),qe _ i (by rw[io];exact h1)]
  by_cases h2:q=i
  .subst h2
   rw[φ rfl,φ h1];simp[nW,h,cellOf]
  .rw[ζ h2]
   by_cases a:i<q
   .simp[nW,a,show i<q+1 by omega]
   .simp[nW,a,show ¬i<q+1 by omega]
 .rw[Array.getElem?_eq_none (by rw[cM,io];omega),Array.getElem?_eq_none (by rw[cM,io];omega)]
  by_cases h2:q=i
  .rw[φ h2,ζ ϖ]
  .rw[ζ h2]
def Hh:Φ:= .agg (aN (replicate 21 []))
def iH:(prog.info? 33).map (·.zero)=some (some Hh):=ϰ
def j8 (x:DS)(n s p:Nat):Nat:=((range p).filter λk=>(x.content n s (d7 k)).isSome).length
def D4 (x:DS)(n s p:Nat):j8 x n s (p+1)=j8 x n s p+if(x.content n s (d7 p)).isSome then 1 else 0:=by
 unfold j8;rw[List.range_succ,ϓ2,ah2];cases h:(x.content n s (d7 p)).isSome<;>simp[h]
def Jf (x:DS)(n s p:Nat):j8 x n s p<=p:=by
 unfold j8;exact ac7 (ϑ7 ..) ϛ
def Fz (c n:Nat)(h:c<n):bH c n=c:=by
 unfold bH;rw[ζ ϖ,Int.emod_eq_of_lt ϖ ϖ];rfl
def GL {x:DS}{n:Nat}{s:Int}{p:Ξ}{t:ϓ}(h:x.content n s p=some t):(aD t).size<=96:=by
 unfold DS.content at h;split at h
 .cases h
  exact qC _
 .cases h
def aE.yw {w w':Ω}{S F:ϑ}{s d n:Nat}{x:DS}(h:aE w F s d n x)(f:aQ S w w')(h1:s∉S)(h2:∀k∈S,k∉F):aE w' F s d n x:=⟨f.row h.row h1,h.disk.yw f h2,h.ne⟩
def Pi (t:ϓ):(⟨#[43]⟩:Ξ)++aD t=aD (43::t):=by
 apply ByteArray.ext
 rw[ByteArray.data_append];simp[aD]
section
variable {P:ω}{ops:Array Oper}{Q:Exit->Act->Ω->Prop}{a:Act}{w:Ω}{rest:List Oper}{o:Oper}
def K8 (hg:o.guard=none)(t:η)(x y:ab7)(l:o.op= .store t x y)(b off:Nat)(m:a.eval x= .pointer (some ⟨b,off,none⟩))(v:Ξ)(n:a.eval y= .string v)(j:(P.info? t).map (·.size)=some 1)(c:ϐ)(u:η)(hr:Row w b c u)(d:off<c.size)(h:∀w1:Ω,aQ [b] w w1->Row w1 b (c.setIfInBounds off (.string v)) u->wpList P ops Q rest (a.put o.dst ϗ) w1):wpList P ops Q (o::rest) a w:=by
 refine yd hg (w.setCell ⟨b,off,none⟩ (.string v)) ?_ (h _ (aQ.setCell ..) (hr.setCell ..));have g:=hr.cell off;have k:=hr.thaw off;have p:c[off]? =some c[off]:=by simp[d]
 rw[p] at g;have f:(store ((⟨b,off,none⟩:Addr).add 0) (.string v)).run P w= .ok () (w.setCell ⟨b,off,none⟩ (.string v)):=by
  rw[Addr.add_mid,ϕ1,run_store P w _ _ _ rfl,g];simp[k]
 cases e:P.info? t with
 |none=>simp[e] at j
 |some i=>
  have h1:i.size=1:=by simpa [e] using j
  simp[execOp,l,m,n,Instr.storeAt,Instr.sureAddr,storeVar,sizeOf,typeInfo,e,h1,Value.cells,storeCells,f]
def O4 {fn:Func}{R:Ending->Ω->Prop}{tp tq:Tmp}{ty:η}(i:fn.results=#[.cell tp ty,.tmp tq])(b:Nat)(k:a.tmps.getD tp ϗ= .pointer (some ⟨b,0,none⟩))(hd:a.defers=[])(c:ϐ)(u:η)(hr:Row w b c u)(g:(P.underlying ty).map TypeDesc.isRow=some true)(l:(P.info? ty).map (·.size)=some c.size)(v:Φ)(hv:a.tmps.getD tq ϗ=v)(h:R (.returned (.tuple #[.agg c,v])) w):bodyPost P fn R .ret a w:=by
 have⟨d,e,f⟩:=χ.1 g;have j:=run_loadVar_row (P:=P) w b u ty c (0,0) d hr e (by revert f e;cases d<;>intro x y<;>first|rfl|cases y) l;refine bodyPost_ret ?_ hd h;rw[results_cell_tmp i,k,hv];simp[asAddr,j]
end
def E6 (F:ϑ)(s d n:Nat)(x:DS)(w:Ω)(h:aE w F s d n x)(hf:x.failed=false)(hw:x.waiting=[])(o:∀b,b<3->(bK (aO x n) b).length=j8 x n b 7):
  Calls prog 15 #[.pointer (some ⟨s,0,none⟩)] w λe w'=>e= .returned (.tuple #[.agg (aN (x.state n)),.bool true])/\aQ [] w w':=by
 go_enter func15,ntmps15;go_wp2_with (with_reducible refine aA rfl ?_);refine bj rfl 33 rfl Hh iH ?_;intro w1 b2 l2 V r2;go_wp2_with (with_reducible refine aA rfl ?_);refine bj rfl 33 rfl Hh iH ?_;intro w2 b4 l4 f2 r4;have q2:Row w2 b2 (aN (replicate 21 [])) 33:=f2.row r2
 have q4:Row w2 b4 (aN (nW (x.at n) 0)) 33:=r4;have T:b2≠b4:=by have:=r2.lt;omega
 have K:=V.trans f2;have h2:=h.new K;have U:w.heap.size<=b4:=by have:=V.size;omega
 have H:s≠b4/\b4∉F:=⟨by have:=h.row.lt;omega,λhF=>by have:=h.disk.lt b4 hF;omega⟩
 clear r2 r4 V f2 h l4;go_wp2_with fail
 go_loopw [5] (λi wr=>∃k:Nat,i= .int .i64 k/\k<=3/\aQ [] w wr/\Row wr b2 (aN (replicate 21 [])) 33/\Row wr b4 (aN (nW (x.at n) (7*k))) 33/\aE wr F s d n x) (λi _=>3-(intOf i).toNat)
 case atStart=>exact⟨0,rfl,ϖ,K,q2,q4,h2⟩
 case round=>
  obtain⟨k,rfl,hk,fk,k2,k4,l⟩:=hrel;clear K q2 q4 h2
  by_cases ab:k<3
  .go_wp2_with fail
   refine(PO F s d n x k wr l ϖ).mono ?_;rintro e w3 ⟨⟨ad,cap,rfl⟩,J⟩;have E:=l.new J;have NX:=fk.trans J;have D:=J.row k2;have I:=J.row k4;have z:=o k ab;rw[hf];generalize aa:(bK (aO x n) k).length=ln at z⊢;have Y:Hid (j8 x n k 7=ln):=z.symm;clear aa J fk k2 k4 l z o
   simp only[ν,if_false];go_wp2_with fail;rw[show decide ((k:Int)<3)=true from decide_eq_true ϖ]
   go_loopw [8,9] (λc i w1=>∃p:Nat,i= .int .i64 p/\p<=7/\c= .int .i64 (j8 x n k p)/\aQ [] w w1/\Row w1 b2 (aN (replicate 21 [])) 33/\Row w1 b4 (aN (nW (x.at n) (7*k+p))) 33/\aE w1 F s d n x) (λ_ i _=>7-(intOf i).toNat)
   case atStart=>exact⟨0,rfl,ϖ,rfl,NX,D,I,E⟩
   case round=>
    obtain⟨p,rfl,hp,rfl,Q,O,N,f⟩:=hrel;clear NX D I E
    by_cases q:p<7
    .have C:=D4 x n k p
     have P:=Jf x n k p;have W:=zA p q;have B:bH p 7=p:=Fz p 7 q;have g:x.at n (7*k+p)=x.content n k (d7 p):=by
      unfold DS.at
      rw[show(7*k+p)/7=k by omega,show(7*k+p)%7=p by omega]
     have m:x.get n k (d7 p)=match x.content n k (d7 p) with|none=>((.string ⟨#[]⟩,5):Φ×Int)|some c=>(.string (aD c),0):=by
      unfold DS.get;rw[hf];rfl
     have a:Hid (j8 x n k (p+1)=j8 x n k p+if(x.content n k (d7 p)).isSome then 1 else 0):=C;generalize j8 x n k p=cn at P a;clear C;go_wp2_with fail;refine(zz p wr ϖ ϖ).mono ?_;rintro e w4 ⟨rfl,rfl⟩;rw[B];go_wp2_with fail;refine(Kz F s d n x k (d7 p) w4 f ϖ W.1 ϖ).mono ?_;rintro e w5 ⟨rfl,G⟩;have v:=f.new G
     have r:=Q.trans G;have y:=G.row O;have j:=G.row N;rw[m];clear m G Q O N f B;cases R:x.content n k (d7 p) with
     |none=>
      rw[R] at g a;have e1:=Lr (x.at n) (7*k+p) g;rw[<-e1] at j;go_wp2
      go_roundw
      case rel=>exact⟨p+1,by go_num,ϖ,by rw[a.out];rfl,r,y,j,v⟩
      case measure=>simp[intOf];omega
     |some t=>
      rw[R] at g a;have HE:Hid (aN (nW (x.at n) (7*k+p+1))=(aN (nW (x.at n) (7*k+p))).setIfInBounds (7*k+p) (.string (aD (43::t)))):=Lq (x.at n) (7*k+p) t g;have X:=Pi t;have ac:(aD t).size<=96:=GL R;go_wp2_with (with_reducible refine ai 9 rfl ?_)
      refine K8 rfl 9 _ _ rfl b4 (k*7+p) rfl (aD (43::t)) rfl xz _ _ j (by rw[cM,io];omega) ?_;intro w6 u A;have S:=r.trans u (by simpa using U);have Z:=u.row y (by simpa using T);rw[show k*7+p=7*k+p by omega,<-HE.out] at A;have L:aE w6 F s d n x:=v.yw u (by simpa using H.1) (by simpa using H.2)
      clear y j r v u X ac;go_wp2
      go_roundw
      case rel=>exact⟨p+1,by go_num,ϖ,by rw[a.out];rfl,S,Z,A,L⟩
      case measure=>simp[intOf];omega
    .obtain rfl:p=7:=ϖ
     rw[Y.out];go_wp2
     go_roundw
     case rel=>exact⟨k+1,by go_num,ϖ,Q,O,by rw[show 7*(k+1)=7*k+7 by omega];exact N,f⟩
     case measure=>simp[intOf];omega
  .obtain rfl:k=3:=ϖ
   go_wp2_with (with_reducible first|refine au 33 rfl ?_|refine ai 33 rfl ?_);have M:((aN (nW (x.at n) (7*3))).toList.drop 0).take 21=(aN (nW (x.at n) (7*3))).toList:=by rw[ϲ];exact θ (by rw[af9,cM,io];omega)
   refine bZ rfl 33 _ rfl b4 0 rfl cK 21 pi _ _ k4 _ M (by rw[af9,cM,io]) ?_;go_wp2_with (with_reducible refine ai 33 rfl ?_);refine bQ rfl 33 _ _ rfl _ 0 rfl _ rfl 21 pi ?_ ?_ _ _ k2 ?_ ?_
   .rw[ab3,af9,cM,io]
   .simp[aN,Value.oneCell']
   .rw[cM];decide
   intro w6 u A;rw[bL _ _ (by simp only[af9,cM,io,Ϸ])] at A;simp only[Array.toArray_toList] at A;have Bi:=fk.trans u (by simpa using l2);clear k2 k4 l u;go_wp2;exact O4 rfl b2 rfl rfl _ _ A cK (by rw[cM,io];exact pi) _ rfl ⟨rfl,Bi⟩
def lq (e done after a n:Int):Bool:=if after<n then(e==3&&done==after) else(e==a&&done==n)
def Ck (e done after a n:Int)(w:Ω):Calls prog 21 #[.int .i64 e,.int .i64 done,.int .i64 after,.int .i64 a,.int .i64 n] w λr w'=>r= .returned (.bool (lq e done after a n))/\w'=w:=by
 have b:Hid (lq e done after a n=if after<n then(e==3&&done==after) else(e==a&&done==n)):=rfl;go_enter func21,ntmps21
 by_cases h:after<n
 .have HQ:Hid (lq e done after a n=(e==3&&done==after)):=by show _=_;rw[b.out,φ h]
  cases h1:(e==3)
  .rw[h1] at HQ
   go_wp2_with fail
   all_goals
    go_ret;exact⟨by rw[HQ.out];rfl,rfl⟩
  .rw[h1] at HQ
   go_wp2_with fail
   all_goals
    go_ret;exact⟨by rw[HQ.out];rfl,rfl⟩
 .have HQ:Hid (lq e done after a n=(e==a&&done==n)):=by show _=_;rw[b.out,ζ h]
  cases h1:(e==a)
  .rw[h1] at HQ
   go_wp2_with fail
   all_goals
    go_ret;exact⟨by rw[HQ.out];rfl,rfl⟩
  .rw[h1] at HQ
   go_wp2_with fail
   all_goals
    go_ret;exact⟨by rw[HQ.out];rfl,rfl⟩
def qP {P:ω}{w:Ω}{o:Oper}{f:ab7->Φ}(src a e:η)(x:ab7)(i:o.op= .convert src a x)(m:P.underlying src=some (.slice e))(p:P.underlying e=some (.int .u8))(hd:P.underlying a=some .string)(b n c:Nat)(k:f x= .slice (some ⟨b,0,none⟩) n c)(l:ϓ)(h:l.length=n)(g:∀j,(d:j<l.length)->w.cell? ⟨b,j,none⟩=some (.int .u8 (l[j].toNat:Int))):
  (execOp f o).run P w= .ok (.value (.string (aD l))) w:=by
 subst h;have:=run_convert_bytes_back (P:=P) w src a e ⟨b,0,none⟩ c l m p hd (λj d=>by
  rw[Addr.add_mid,ϓ9];exact g j d)
 simp only[execOp,i,k,run_bind,this];rfl
def Jg (F:ϑ)(s d n:Nat)(x:DS)(w:Ω)(h:aE w F s d n x)(A:(DS.fresh x.aB).gO n=true)(y:(DS.fresh x.aB).pending n=false):
  Calls prog 16 #[.pointer (some ⟨s,0,none⟩)] w λe w'=>∃s' m f,e= .returned (.pointer (some ⟨s',0,none⟩))/\aE w' f s' m n (DS.fresh x.aB)/\aQ [] w w'/\bC [] f w/\w.heap.size<=s':=by
 have⟨N,L,hd⟩:=h.jG;have p:=hd.lo;have t:=hd.hi;have c:=hd.len;go_enter func16,ntmps16;go_wp2_with (with_reducible refine ia rfl ?_);refine(kx F s d n x w h).mono ?_;rintro e w1 ⟨rfl,C⟩;generalize D:x.aB=l at*;have q:Hid (x.aB=l):=D;clear D;go_wp2_with (with_reducible refine ia rfl ?_)
 refine yG rfl 9 85 5 _ rfl underlying9 underlying85 underlying5 ⟨l.toArray⟩ rfl ?_;intro o b cap lb f2 a;have r:(⟨l.toArray⟩:Ξ).size=l.length:=by show l.toArray.size=_;simp
 have k:∀j,(v:j<l.length)->o.cell? ⟨b,j,none⟩=some (.int .u8 (l[j].toNat:Int)):=λj v=>by
  have:=a j (by simpa using v);simpa using this
 have I:Hid (∀j,(v:j<l.length)->o.cell? ⟨b,j,none⟩=some (.int .u8 (l[j].toNat:Int))):=k;have z:=C.trans f2;rw[r];clear a k C f2 h hd;go_wp2_with (with_reducible refine ia rfl ?_);refine cT rfl (.string (aD l)) o (qP 85 9 5 _ rfl underlying85 underlying5 underlying9 b (64*n) cap rfl l c I.out) ?_
 go_wp2_with fail;refine(Pu (aD l) n o (by rw[fg,c]) p t A y).mono ?_;rintro e K ⟨s',m,f,rfl,g,G,E,M⟩;have H:=z.trans G;have B:=z.size;have gw:bC [] f w:=λi J=>(E i J).imp id (λh=>ϖ)
 have u:aE K f s' m n (DS.fresh l):=g;clear G z g E;go_wp2_with fail
 all_goals
  go_ret;exact⟨s',m,f,rfl,by rw[q.out];exact u,H,gw,ϖ⟩
def pK:Ξ:=⟨#[122,122,122,122,122,122,122,122]⟩
def Bd (F:ϑ)(s d n:Nat)(x:DS)(w:Ω)(h:aE w F s d n x)(i:x.Fit 2)(g:x.waiting.length<60)(r:Int)(hr:(x.gh n 0 pK).2= .int .i64 r):
  Calls prog 24 #[.pointer (some ⟨s,0,none⟩)] w λe w'=>e= .returned (.tuple #[.bool (r==4),.bool (r==4||r==5)])/\(∃f,aE w' f s d n (x.gh n 0 pK).1/\bC F f w)/\aQ F w w':=by
 have j:cL pK.data.toList=true:=by decide
 go_enter func24,ntmps24;go_wp2_with fail;refine(tX F s d n x 0 pK w h i g ϖ j (by decide)).mono ?_;rintro e l ⟨rfl,b,f2⟩;rw[hr];clear hr h;cases a:(r==4)
 .have k:r≠4:=by simpa using a
  cases c:(r==5)
  .go_wp2_with fail
   all_goals
    go_ret2
    refine⟨?_,b,f2⟩;simp[a,c]
  .go_wp2_with fail
   all_goals
    go_ret2
    refine⟨?_,b,f2⟩;simp[a,c]
 .go_wp2_with fail
  all_goals
   go_ret2
   refine⟨?_,b,f2⟩;simp[a]
def Hc {P:ω}{ops:Ϙ}{Q:ϔ}{n m:Nat}{l:ϑ}{a:Act}{w:Ω}(i j k:Nat)(hr:ready .any ops (marks n l)=[i,j,k])(c:i<n)(b:j<n)(d:k<n)(h1:Step P ops Q n m l i a w)(h2:Step P ops Q n m l j a w)(e:Step P ops Q n m l k a w):AK P ops Q n (m+1) l a w:=
 JA [i,j,k] ϛ hr (by simp[c,b,d]) (by simp[h1,h2,e])
def Br (s:Ξ):(dR s).size<=96:=by
 unfold dR;split
 .rw[ByteArray.size_extract];omega
 .omega
def fJ (k a pt:Int)(b:Ξ):Array Φ:=#[.int .i64 k,.int .i64 a,.int .i64 pt,.string b]
def DS.act (x:DS)(n:Nat)(k a pt:Int)(b:Ξ):DS×Φ:=
 if bH k 4=2 then x.gh n (bH a 2) (d7 (bH pt 7)) else x.tb n (bH a 2) (d7 (bH pt 7)) (dR b)
end
section
open Go.RowKit Go.Lib Go.Sort
def gV (a b:ϓ)(n:Nat):Nat:=((range n).filter λj=>gn a j !=gn b j).length
def rT (a b:ϓ)(n:Nat)(S:ϑ)(h:∀j,j<n->j∉S->gn a j=gn b j):gV a b n<=S.length:=by
 unfold gV;refine kN _ _ (List.nodup_range.filter _) λj c=>?_
 rw[ad2,ae2] at c
 by_cases d:j∈S
 .exact d
 .have:=h j c.1 d
  simp[this] at c
def oC (a:ϓ)(n:Nat):gV a a n=0:=by
 have:=rT a a n [] λ_ _ _=>rfl
 simpa using this
def zP (kp:Int)(L:ϓ)(p:Int×List Γ):dQ kp L [p] 1=if eB kp 0 then bg L p else L:=by
 simp[dQ]
def PU (kp:Int)(L:ϓ)(p q:Int×List Γ):dQ kp L [p,q] 2=if eB kp 1 then bg (if eB kp 0 then bg L p else L) q else if eB kp 0 then bg L p else L:=by
 simp[dQ]
def GO (c:Ξ):(dR c).data.toList.length<=96:=by
 unfold dR;split
 .have:(c.extract 0 96).size<=96:=by rw[ByteArray.size_extract];omega
  simpa using this
 .have:c.size<=96:=ϖ
  simpa using this
def It (k:Nat)(a:k<7)(s:Nat)(b:s<=2):eD s (cD k)=true:=by
 unfold eD;rw[φ ϖ];exact(zA k a).1
def L9 (k:Nat)(a:k<7):cD k∈P7:=zG.2 ⟨k,a,rfl⟩
def uW (x:DS)(n:Nat)(h:x.waiting=[]):eg x n=eU (gn x.aB 0) (aK n) (aK n) 0:=by
 unfold eg;rw[rG x h]
section
variable {L:List Γ}{n:Nat}{m:ew}
def owner (h:lV L n m)(s:Nat)(p:ϓ):∃o:Int,(∀x:DS,x.aB=L->x.waiting=[]->cN x s (aD p) (taken x n)=o)/\-1<=o/\o<54/\(∀j g,m j=some g->nameOf g=(s,p)->o=j)/\(o≠-1->∃g,m o.toNat=some g/\nameOf g=(s,p)):=by
 by_cases d:∃j g,m j=some g/\nameOf g=(s,p)
 .have⟨j,g,hg,e⟩:=d
  have f:=h.lt j g hg;have:=oq n;have a:=e;unfold nameOf at a;simp only[ai1] at a;refine⟨j,λx b c=>?_,ϖ,ϖ,λk g' l i=>?_,λ_=>⟨g,by simpa using hg,e⟩⟩
  .subst b
   have:=Fg h c hg;rw[a.1,a.2] at this;exact this
  .rw[h.inj k j g' g l hg (i.trans e.symm)]
 .refine⟨-1,λx b c=>?_,ϖ,ϖ,λj g hg e=>absurd ⟨j,g,hg,e⟩ d,λh=>absurd rfl h⟩
  subst b;exact oX h c s p λj g hg e=>d ⟨j,g,hg,e⟩
end
def LR (n:Nat)(h:16<=n):lV (ii n) n λ_=>none where
 len:=by unfold ii;rw[ah2,kQ,Ϸ];omega
 lo:=h
 root:=by
  unfold ii gn;rw[Nat.mul_zero,ϲ,ϔ5 (by rw[kQ];omega),θ (by rw[kQ];omega)];have:=zj n (λ_=>none) 0 ϛ;rw[<-this];rfl
 recs:=λi f hm=>by cases hm
 lt:=λi f hm=>by cases hm
 good:=λi f hm=>by cases hm
 inj:=λi j f g hm=>by cases hm
end
section
open Go.RowKit Go.Lib
def aQ.cell {S:ϑ}{w w':Ω}(h:aQ S w w'){a:Addr}{v:Φ}(b:w.cell? a=some v)(ha:a.block∉S):w'.cell? a=some v:=by
 unfold World.cell? at b⊢;cases c:w.heap[a.block]? with
 |none=>rw[c] at b;cases b
 |some o=>
  rw[h.block a.block (Ψ.1 c).1 ha,c];rw[c] at b;exact b
structure rj where
 kind:Int
 side:Int
 path:Int
 content:Ξ
def pr (x:Int):Prop:=-9223372036854775808<=x/\x<=9223372036854775807
def rj.Ok (a:rj):Prop:=pr a.kind/\pr a.side/\pr a.path
def rj.cells (a:rj):Array Φ:=fJ a.kind a.side a.path a.content
def RS (w:Ω)(ad:Ϡ)(l:List rj):Prop:=∀j,(a:j<l.length)->(l[j]).Ok/\∃b off,ad=some ⟨b,off,none⟩/\w.rangeAt b (off+j*4) (l[j]).cells.toList
def FZ:(prog.info? 24).map (·.size)=some 4:=ϰ
def DS.calm (L:ϓ)(a:Int):DS:=⟨L,[],a,false,0,0,false⟩
def oy (L:ϓ)(a:Int)(r:Nat)(h0:0<=a)(h1:a+r<=1000000000:=by omega):(DS.calm L a).Fit r:=⟨h0,h1,by show(0:Int)<=0;omega,by show(0:Int)<=_;omega⟩
def z6:Ξ:=⟨#[102,105,114,115,116]⟩
section
variable {P:ω}{ops:Array Oper}{Q:Exit->Act->Ω->Prop}{a:Act}{w:Ω}{rest:List Oper}{o:Oper}
def N8 (hg:o.guard=none)(t:η)(x:ab7)(f:o.op= .load t x)(b off:Nat)(i:a.eval x= .pointer (some ⟨b,off,none⟩))(g:(P.underlying t).map TypeDesc.isRow=some true)(c:ϐ)(j:(P.info? t).map (·.size)=some c.size)(hr:w.rangeAt b off c.toList)(h:wpList P ops Q rest (a.put o.dst (.agg c)) w):wpList P ops Q (o::rest) a w:=by
 have⟨d,e,hd⟩:=χ.1 g;exact wpList_load_mid hg t x f b off i c.toList d hr e hd (by rw[j,af9]) h
end
def KZ:pK.data.toList∉P7:=by decide
def Row.range {w:Ω}{b:Nat}{c:ϐ}{t:η}(h:Row w b c t):w.rangeAt b 0 c.toList:=λj v a=>by
 rw[ϓ9,h.cell,<-al1];exact a
section
variable {P:ω}{ops:Array Oper}{Q:Exit->Act->Ω->Prop}{a:Act}{w:Ω}{rest:List Oper}{o:Oper}
def dD (hg:o.guard=none)(t:η)(x:ab7)(d:o.op= .load t x)(b:Nat)(g:a.eval x= .pointer (some ⟨b,0,none⟩))(e:(P.underlying t).map TypeDesc.isRow=some true)(c:ϐ)(u:η)(hr:Row w b c u)(f:(P.info? t).map (·.size)=some c.size)(h:wpList P ops Q rest (a.put o.dst (.agg c)) w):wpList P ops Q (o::rest) a w:=
 N8 hg t x d b 0 g e c f hr.range h
def fX (hg:o.guard=none)(t:η)(x y:ab7)(g:o.op= .store t x y)(b:Nat)(i:a.eval x= .pointer (some ⟨b,0,none⟩))(cells:ϐ)(j:a.eval y= .agg cells)(k:(P.info? t).map (·.size)=some cells.size)(h1:∀v∈cells.toList,v.oneCell'=true)(c:ϐ)(u:η)(hr:Row w b c u)(e:c.size=cells.size)(h:∀w1:Ω,aQ [b] w w1->Row w1 b cells u->wpList P ops Q rest (a.put o.dst ϗ) w1):wpList P ops Q (o::rest) a w:=by
 refine bQ hg t x y g b 0 i cells j cells.size k rfl h1 c u hr ϖ λw1 f d=>h w1 f ?_
 rw[bL _ _ (by rw[e,af9]),Array.toArray_toList] at d;exact d
end
def nX (l:List (List Γ)):∀v∈(aN l).toList,v.oneCell'=true:=by simp[aN,Value.oneCell']
def OH (F:ϑ)(s d n:Nat)(x:DS)(m:ew)(w:Ω)(h:aE w F s d n x)(f:x.failed=false)(b:x.waiting=[])(hr:lV x.aB n m)(c:Seven m):
  Calls prog 15 #[.pointer (some ⟨s,0,none⟩)] w λe w'=>e= .returned (.tuple #[.agg (aN (x.state n)),.bool true])/\aQ [] w w':=
 E6 F s d n x w h f b λa _=>Ic hr b c a
def Ak (F:ϑ)(s d n:Nat)(x:DS)(m:ew)(w:Ω)(h:aE w F s d n x)(hr:lV x.aB n m)(a:Seven m):
  Calls prog 16 #[.pointer (some ⟨s,0,none⟩)] w λe w'=>∃s' c b,e= .returned (.pointer (some ⟨s',0,none⟩))/\aE w' b s' c n (DS.fresh x.aB)/\aQ [] w w'/\bC [] b w/\w.heap.size<=s':=
 Jg F s d n x w h (Ff (x:=DS.fresh x.aB) hr rfl a) (mY (x:=DS.fresh x.aB) hr rfl a)
end
section
open Go.RowKit Go.Lib Go.Sort
open Go.Conc (base G)
def pJ (w:Ω):Prop:=∃c t f,w.heap[0]? =some (.cells c t f)/\∀v∈c,∀r,¬Value.Has r v
def pJ.blk {S:ϑ}{w w':Ω}(h:pJ w)(f:cX S w w')(h0:0∉S):pJ w':=by
 have⟨c,t,a,h1,h2⟩:=h;exact⟨c,t,a,(f.block 0 (Ψ.1 h1).1 h0).trans h1,h2⟩
def bC.zero {F a:ϑ}{w:Ω}(g:bC F a w)(hg:pJ w)(h:0∉F):0∉a:=λh0=>by
 have⟨c,t,b,h1,h2⟩:=hg;have:=(Ψ.1 h1).1;rcases g 0 h0 with q|q
 .exact h q
 .omega
def aE.ax {w:Ω}{F:ϑ}{s d n:Nat}{x:DS}(h:aE w F s d n x)(t:Go.Proofs.YtchcmhodnkgojaaGreat.eL)(k:Nat):aE (ax w t k) F s d n x:=by
 obtain⟨h1,⟨j,i,⟨l,y,f,v,p,o,m,g,r,c,b,e,a⟩,u⟩,q⟩:=h;exact⟨h1,⟨j,i,⟨l,y,f,v,p,o,m,g,r,c,b,e,a⟩,u⟩,q⟩
def bG.blk {w w':Ω}{S:ϑ}{d a n:Nat}{b:Φ}{x:DS}(h:bG w d a n b x)(f:cX S w w')(h1:d∉S)(h2:a∉S)(c:∀k∈S,b.ownBlock≠some k):bG w' d a n b x:=
 {h with row:=(f.block d h.row.lt h1).trans h.row,last:=(f.block a h.last.lt h2).trans h.last,own:=World.ownsRow.amf h.own f λg hg e=>c g e hg}
def aE.blk {w w':Ω}{F S:ϑ}{s d n:Nat}{x:DS}(h:aE w F s d n x)(f:cX S w w')(h1:s∉S)(h2:∀k∈S,k∉F):aE w' F s d n x:=by
 obtain⟨c,b,hd,rfl⟩:=h.disk;exact⟨(f.block s h.row.lt h1).trans h.row,⟨c,b,hd.blk f (λe=>h2 _ e ϛ) (λe=>h2 _ e ϛ) (λk a e=>h2 k a (by simp[e])),rfl⟩,h.ne⟩
def aE.rd {w:Ω}{F:ϑ}{s d n:Nat}{x:DS}(h:aE w F s d n x)(hg:pJ w)(b:x.waiting=[]):∃a,aI.iC d a n x w:=by
 obtain⟨a,c,hd,rfl⟩:=h.disk;have:=hd.nil b;subst this;exact⟨a,⟨⟨_,hd.row⟩,⟨_,hd.last⟩,hg,hd.len,hd.lo,hd.hi,b⟩⟩
def vv (x:DS)(n:Nat)(a:List (List Γ)):Prop:=a.Pairwise (·<=·)/\a.Nodup/\∀l,l∈a↔aI.comb (jk x n 0 (aD l)) (jk x n 1 (aD l))≠none
def BM {d:List (List Γ)}(h:d.Pairwise (·<=·))(e:d.Nodup):d.Pairwise (·<·):=
 (h.and e).imp fun {a b} c=>by
  rcases List.le_iff_lt_or_eq.1 c.1 with q|q
  .exact q
  .exact absurd q c.2
def AW (g f:aI.jO){d:List (List Γ)}(h:d.Pairwise (·<·)):(jB g f d).Pairwise λp q=>p.1<q.1:=by
 unfold jB;refine List.Pairwise.filterMap _ (λa b c p i q e=>?_) h;obtain⟨_,_,rfl⟩:=χ.1 i;obtain⟨_,_,rfl⟩:=χ.1 e;exact c
def fM (x:DS)(n:Nat)(a:List (List Γ)):List (List Γ×Nat):=jB (jk x n 0) (jk x n 1) a
def nm (x:DS)(n:Nat)(a:List (List Γ)):List (List Γ):=kI (jk x n 0) (jk x n 1) a
def gv:(prog.info? 58).map (·.size)=some 2:=ϰ
def i9:Φ:= .agg #[.int .i64 0,.slice none 0 0]
def mQ:(prog.info? 58).map (·.zero)=some (some i9):=ϰ
def oW {fn:Func}{tp tq:Tmp}{ty:η}(i:fn.results=#[.cell tp ty,.tmp tq])(a:ϐ)(w:Ω)(b:Nat)(c:ϐ)(u:η)(k:a.getD tp ϗ= .pointer (some ⟨b,0,none⟩))(hr:Row w b c u)(h:(prog.underlying ty).map (λd=>match d with|.struct _|.array _ _=>true|_=>false)=some true)(l:(prog.info? ty).map (·.size)=some c.size):(results fn a).run prog w= .ok (.tuple #[.agg c,a.getD tq ϗ]) w:=by
 have⟨d,e,g⟩:=χ.1 h;have f:a[tp]?.getD ϗ= .pointer (some ⟨b,0,none⟩):=by simpa using k
 have j:=run_loadVar_row w b u ty c (0,0) d hr e (by revert g e;cases d<;>intro x y<;>first|rfl|cases y) l;simp[results,i,f,asAddr,j]
def ah0 {E:af.Env}{f:ac0}{k:ϕ}{R:ϝ}{a:Act}{wL:Ω}{ops:Ϙ}{i:Nat}{rest:ϑ}{o:Oper}(t:η)(x:ab7)(j:ops[i]? =some o)(c:o.op= .load t x)(tO:nI af.PP S0 E0 true o=true)(hg:o.guard=none)(ha:(prog.underlying t).map (λd=>match d with|.struct _|.array _ _=>true|_=>false)=some false)(b:Addr)(l:a.eval x= .pointer (some b))(v:Φ)(g:wL.cell? b=some v)(h:af.CI E f (.inRegion ops rest::k) R (a.put o.dst v) wL):af.CI E f (.inRegion ops (i::rest)::k) R a wL:=by
 refine aI.Sq.pC (w1:=wL) v j (tO:=tO) hg (λt' d=>?_) h;have e:(ax wL t' d).cell? b=some v:=g;have h1:aI.RT (lE.load t (.pointer (some b))).sem (ax wL t' d) (.value v) (ax wL t' d) #[⟨.cell b,false,false⟩]:=by
  refine aI.RT.fI (x:=v) ?_ (.pure _);show aI.RT (do if<-isAgg t then Pure.pure (.agg (<-loadCells b (<-Go.sizeOf t))) else load b) _ _ _ _;refine(aI.iP ha).aT ?_;simp only[ν,if_false];exact aI.kP e
 have:=h1.run;unfold execOp;rw[c];show(do pure (.value (<-Instr.loadAt t (a.eval x))):Sem Next).run _ _=_;rw[l];exact this
def Vn {E:af.Env}{f:ac0}{k:ϕ}{R:ϝ}{a:Act}{wL:Ω}{ops:Ϙ}{l:ϑ}(m:Nat)(e:l=List.range' m (ops.toList.drop m).length)(h0:∃fn,af.PP.funcs[f]? =some fn)(Ci:Dy af.PP S0 E0 true (.inRegion ops l)=true)(I:Ϥ)(c:∀w t d,I w->I (ax w t d))(g:I wL)(b:∀w,I w->w.heap.size=wL.heap.size->wpList af.PP ops (af.after E none f k R) (ops.toList.drop m) a w):af.CI E f (.inRegion ops l::k) R a wL:=by
 refine af.Vp none h0 Ci ϛ I c g λw h1 h2=>?_
 rw[e,wpOps_eq_wpList (ops.toList.drop m) m λj=>by rw[ai6,al1]];exact b w h1 h2
structure AG (x:DS)(n:Nat):Prop where
 wait:x.waiting=[]
 fit:x.failed=false->x.Fit 105
 steps:∀ps,vv x n ps->(fM x n ps).length<=7/\m7 (fM x n ps)/\(pV (x.begin n (fM x n ps)).2=0->(x.begin n (fM x n ps)).1.content n 3 ⟨#[]⟩=some (db (fM x n ps)))
def x4 (x:DS)(n:Nat):Int:=if x.failed then 3 else if x.pending n then 4 else 0
def sV (F:ϑ)(s d n:Nat)(x:DS)(wL:Ω)(v:Φ)(w':Ω):Prop:=
 (x4 x n≠0/\v= .tuple #[i9,.int .i64 (x4 x n)]/\aE w' F s d n x/\cX [] wL w')\/
 (x4 x n=0/\∃a b,vv x n a/\aE w' b s d n (x.sU n (fM x n a)).1/\bC F b wL/\cX F wL w'/\
  ((∃c,(x.sU n (fM x n a)).2= .int .i64 0/\v= .tuple #[.agg #[.int .i64 (fM x n a).length,c],.int .i64 0]/\w'.ownsRow wL.heap.size 9 1 c (nm x n a).length (hU (nm x n a))/\∀g,c.ownBlock=some g->g∉b)\/
   (∃e:Int,e≠0/\(x.sU n (fM x n a)).2= .int .i64 e/\v= .tuple #[i9,.int .i64 e])))
open aI aI.Sq in
def vn {E:af.Env}{wL:Ω}{F:ϑ}{s d n:Nat}{x:DS}(h:aE wL F s d n x)(hG:pJ wL)(h0:0∉F)(y:AG x n):
  af.CC E 31 #[.pointer (some ⟨s,0,none⟩)] (sV F s d n x wL) wL:=by
 refine af.oD func31 rfl ?_;refine af.fU ?_;refine ww {tmps:=#[.pointer (some ⟨s,0,none⟩),ϗ,ϗ,ϗ,ϗ,ϗ,ϗ,ϗ,ϗ,ϗ,ϗ,ϗ,ϗ,ϗ,ϗ,ϗ,ϗ,ϗ,ϗ,ϗ,ϗ,ϗ,ϗ,ϗ,ϗ,ϗ,ϗ,ϗ,ϗ,ϗ,ϗ,ϗ,ϗ],defers:=[]} ϰ ?_
 refine af.ij none ⟨_,func31⟩ (λw=>aE w F s d n x/\cX [] wL w) (λw t k h=>⟨h.1.ax t k,h.2.tape t k⟩) ⟨h,cX.refl ..⟩ λw S a9=>?_
 have⟨hS,hB⟩:=S;go_wp2_with (with_reducible refine aA rfl ?_);refine bj rfl 58 rfl _ mQ ?_;intro w1 b2 l2 f2 r2;have Q:=hS.new f2;have V:=hB.trans f2.blk;have K:b2∉F:=λhb=>by have:=hS.disk.lt b2 hb;omega
 have G:s≠b2:=by have:=hS.row.lt;omega
 have a5:wL.heap.size<=b2:=ϖ
 clear hS hB f2;go_wp2_with fail;refine af.fU (af.ij none ⟨_,func31⟩ (λw=>aE w F s d n x/\cX [] wL w/\Row w b2 i9.cells 58) (λw t k h=>⟨h.1.ax t k,h.2.1.tape t k,h.2.2⟩) ⟨Q,V,r2⟩ λw2 S R=>?_);have⟨H,av,ae⟩:=S;clear Q V r2 R;go_wp2_with fail;refine(nJ F s d n x w2 H).mono ?_;rintro e o ⟨rfl,f3⟩
 have j:=H.new f3;have r:=av.trans f3.blk;have r3:Row o b2 i9.cells 58:=f3.row ae;have N:Hid (x4 x n=(if x.failed then 3 else if x.pending n then 4 else 0)):=rfl;obtain⟨e0,aB⟩:∃e0:Int,(if x.failed then 3 else if x.pending n then 4 else 0)=e0:=⟨_,rfl⟩
 rw[aB] at N⊢;clear aB H av f3 ae
 by_cases NS:e0=0
 .subst NS
  go_wp2_with fail;have ao:pJ o:=hG.blk r ϛ;have⟨bl,ac⟩:=j.rd ao y.wait
  refine af.fU (af.e9 (gZ _ rfl (.inr rfl) rfl (pC (w1:=o) (.pointer (some ⟨s,0,none⟩)) rfl rfl (λt d=>ϰ) (pC (w1:=o) (.pointer (some ⟨s,0,none⟩)) rfl rfl (λt d=>ϰ) (ah0 _ _ rfl rfl ϰ rfl ϰ ⟨s,0,none⟩ rfl (.pointer (some ⟨d,0,none⟩)) j.cell ?_)))))
  refine mJ (f2:=55) #[.tmp 18] #[.pointer (some ⟨d,0,none⟩)] (R2:=W5 x n o) rfl rfl ϰ (λb w=>ϰ) ϰ (Vt ac) λv A hR aR=>?_
  obtain⟨f,sv,cv,p1,p2,p3,rfl,B,aq,an⟩:=hR;refine gZ _ rfl (.inr rfl) rfl (pC (w1:=A) sv rfl rfl (λt d=>ϰ) (pC (w1:=A) cv rfl rfl (λt d=>ϰ) (gZ _ rfl (.inl rfl) rfl (gZ _ rfl (.inl rfl) rfl (af.de ?_)))));have hP:vv x n f:=⟨p1,p2,p3⟩
  have z:=y.steps f hP;have ak:(fM x n f).Pairwise λp q=>p.1<q.1:=AW _ _ (BM p1 p2)
  have I:A.ownsRow o.heap.size 168 2 sv (fM x n f).length (cU (fM x n f)):=aq;have IU:A.ownsRow o.heap.size 9 1 cv (nm x n f).length (hU (nm x n f)):=an;have aa:aE A F s d n x:=j.blk B ϛ ϛ;have r4:Row A b2 i9.cells 58:=(B.block b2 r3.lt ϛ).trans r3;have Z:=r.trans B
  have a6:wL.heap.size<=o.heap.size:=r.size;have a4:=j.disk.lt;have C:x.Fit 105:=y.fit (by
   have:=N.out;unfold x4 at this;cases hf:x.failed with
   |false=>rfl
   |true=>rw[hf] at this;simp at this)
  generalize ar:fM x n f=ss at*;generalize D:nm x n f=cs at*;clear aq an p1 p2 p3 j r r3 ao ac B;have⟨ad,cap,a0⟩:=ce I;have⟨u,a,a7⟩:=ce IU;subst a0 a7
  refine ww {tmps:=#[.pointer (some ⟨s,0,none⟩),ϗ,.pointer (some ⟨b2,0,none⟩),.int .i64 0,.int .i64 0,.slice ad ss.length cap,.slice u cs.length a,ϗ,.pointer (some ⟨s,0,none⟩),.int .i64 0,.int .i64 0,.bool false,ϗ,ϗ,.tuple #[.slice ad ss.length cap,.slice u cs.length a],.pointer (some ⟨s,0,none⟩),.pointer (some ⟨s,0,none⟩),.pointer (some ⟨s,0,none⟩),.pointer (some ⟨d,0,none⟩),.tuple #[.slice ad ss.length cap,.slice u cs.length a],.slice ad ss.length cap,.slice u cs.length a,ϗ,ϗ,ϗ,ϗ,ϗ,ϗ,ϗ,ϗ,ϗ,ϗ,ϗ],defers:=[]} ϰ ?_
  refine af.ij none ⟨_,func31⟩ (λw=>aE w F s d n x/\cX [] wL w/\Row w b2 i9.cells 58/\w.ownsRow o.heap.size 168 2 (.slice ad ss.length cap) ss.length (cU ss)/\w.ownsRow o.heap.size 9 1 (.slice u cs.length a) cs.length (hU cs)) (λw t k h=>⟨h.1.ax t k,h.2.1.tape t k,h.2.2⟩) ⟨aa,Z,r4,I,IU⟩ λw5 S Y=>?_
  have⟨W,L,r5,Be,c⟩:=S;clear aa Z r4 I IU aR Y;have apart:∀{v:Φ}{e:η}{m k:Nat}{l:ϡ},w5.ownsRow o.heap.size e m v k l->∀g,v.ownBlock=some g->g∉F:=λho g hg U=>by
   have:=(ho.lt g hg).1;have:=a4 g U;omega
  have O:Hid (fM x n f=ss/\nm x n f=cs):=⟨ar,D⟩
  clear ar D;have⟨e5,J⟩:=Vc x n ss C;go_wp2_with fail;refine(Va F s d n x _ _ ss w5 W C (by rw[y.wait];decide) Be z.1 z.2.1 ak (apart Be) z.2.2).mono ?_;rintro e w6 ⟨rfl,⟨M,ag,g6⟩,f6⟩;have r6:=f6.row r5 K;have a2:=f6.owns c λk hk h=>apart c k h hk
  have aL:∀g,(Value.slice u cs.length a).ownBlock=some g->g∉M:=λg hg U=>by
   rcases g6 g U with q|q
   .exact apart c g hg q
   .have:=(c.lt g hg).2;omega
  have am:b2∉M:=λU=>by
   rcases g6 b2 U with q|q
   .exact K q
   .have:=r5.lt;omega
  have aw:bC F M wL:=(bC.refl F wL).trans g6 L.size;have ab:cX F wL w6:=(L.mono).trans f6.blk (λi hi=> .inl hi);have a1:∀g,(Value.slice u cs.length a).ownBlock=some g->g≠b2:=λg hg e=>by
   subst e;rcases c.2 with⟨e1,_⟩|⟨g',cap',cur,e1,_,hg',_⟩
   .rw[e1] at hg;simp[Value.ownBlock] at hg
   .rw[e1] at hg
    have:g'=g:=by simpa [Value.ownBlock] using hg
    subst this;unfold Row at r5;rw[r5] at hg';cases hg'
  have HO:Hid ((x.sU n ss).2= .int .i64 e5):=J;rw[J];have HX:Hid (aE w6 M s d n (x.sU n ss).1):=ag;clear z ak ag J W L r5 Be c f6 g6 apart
  by_cases h5:e5=0
  .subst h5
   go_wp2_with (with_reducible first|refine bM 58 rfl ?_|refine ai 58 rfl ?_);refine cT rfl (.agg #[.int .i64 ss.length,.slice u cs.length a]) w6 ϰ ?_;go_wp2_with (with_reducible refine ai 58 rfl ?_)
   refine fX rfl 58 _ _ rfl b2 rfl #[.int .i64 ss.length,.slice u cs.length a] rfl gv (by simp[Value.oneCell']) _ _ r6 rfl ?_;intro X P r7;have a3:=P.owns a2 (λk hk h=>a1 k h (by simpa using hk));go_wp2_with fail
   refine⟨X.tape,X.drawn,.tuple #[.agg #[.int .i64 ss.length,.slice u cs.length a],.int .i64 0],?_,.inr ⟨N.out,f,M,hP,?_,aw,?_,.inl ⟨_,?_,?_,?_,aL⟩⟩⟩
   .exact oW (tp:=2) (tq:=3) (ty:=58) rfl _ _ b2 _ _ rfl r7 ϰ gv
   .rw[O.out.1]
    exact HX.out.yw P (by simpa using G) (by simpa using am)
   .exact ab.trans P.blk (by intro i hi;right;simp at hi;omega)
   .rw[O.out.1];exact HO.out
   .rw[O.out.1]
   .rw[O.out.2];exact a3.weak a6
  .have bb:(e5==0)=false:=by simpa using h5
   go_wp2_with (with_reducible first|refine bM 58 rfl ?_|refine ai 58 rfl ?_);refine cT rfl i9 w6 ϰ ?_;go_wp2_with (with_reducible refine ai 58 rfl ?_);refine fX rfl 58 _ _ rfl b2 rfl i9.cells rfl gv (by decide) _ _ r6 rfl ?_;intro X P r7;go_wp2_with fail
   refine⟨X.tape,X.drawn,.tuple #[i9,.int .i64 e5],?_,.inr ⟨N.out,f,M,hP,?_,aw,?_,.inr ⟨e5,h5,?_,rfl⟩⟩⟩
   .exact oW (tp:=2) (tq:=3) (ty:=58) rfl _ _ b2 _ _ rfl r7 ϰ gv
   .rw[O.out.1]
    exact HX.out.yw P (by simpa using G) (by simpa using am)
   .exact ab.trans P.blk (by intro i hi;right;simp at hi;omega)
   .rw[O.out.1];exact HO.out
 .have a8:(e0==0)=false:=by simpa using NS
  go_wp2_with (with_reducible first|refine bM 58 rfl ?_|refine ai 58 rfl ?_);refine cT rfl i9 o ϰ ?_;go_wp2_with (with_reducible refine ai 58 rfl ?_);refine fX rfl 58 _ _ rfl b2 rfl i9.cells rfl gv (by decide) _ _ r3 rfl ?_;intro A f4 r4;go_wp2_with fail
  refine⟨A.tape,A.drawn,.tuple #[i9,.int .i64 e0],?_,.inl ⟨by rw[N.out];exact NS,by rw[N.out],j.yw f4 ?_ ?_,?_⟩⟩
  .exact oW (tp:=2) (tq:=3) (ty:=58) rfl _ _ b2 _ _ rfl r4 ϰ gv
  .simpa using G
  .simpa using K
  .exact r.trans (f4.blk.mono (T:=[b2]) ϛ) (by simpa using a5)
end
end
end Go.Proofs.YtchcmhodnkgojaaGreat
