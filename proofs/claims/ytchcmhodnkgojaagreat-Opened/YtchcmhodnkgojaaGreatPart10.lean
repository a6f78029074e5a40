/- On the way to the last text; put together and shortened by program. -/
import Derived.Test.YtchcmhodnkgojaaGreatPart9
import Derived.Handy
import Derived.Lib.AppendStr
import Derived.Sort.Walk0
import Derived.Laws.ResultCell
import Derived.BigQuiet
set_option linter.all false
set_option maxRecDepth 100000
set_option maxHeartbeats 8000000
namespace Go.Proofs.YtchcmhodnkgojaaGreat
noncomputable section
section
open Go.RowKit Go.Lib
structure Step (P:ω)(ops:Array Oper)(Q:Exit->Act->Θ->Prop)(n m:Nat)(l:List Nat)(i:Nat)(a:Act)(w:Θ):Prop where
 ex:∃oi,ops[i]? =some oi/\oi.guard=none/\∀K:Act->Θ->Prop,(∀a w,yv P ops Q n m (i::l) a w->K a w)->oi.wp P a w K Q
section
variable {P:ω}{ops:Array Oper}{Q:Exit->Act->Θ->Prop}{n m:Nat}{l:List Nat}{a:Act}{w:Θ}
theorem fH (i:Nat){oi:Oper}(hi:ops[i]? =some oi)(hg:oi.guard=none)(dst:Option Tmp)(hd:oi.dst=dst)(v:Φ)(w1:Θ)(hr:(execOp a.eval oi).run P w= .ok (.value v) w1)(h:yv P ops Q n m (i::l) (a.put dst v) w1):Step P ops Q n m l i a w:=
 ⟨oi,hi,hg,λK hK=>by
  subst hd;unfold Oper.wp;rw[hr];exact hK _ _ h⟩
theorem K8 (i:Nat){oi:Oper}(hi:ops[i]? =some oi)(hg:oi.guard=none)(dst:Option Tmp)(hd:oi.dst=dst)(v:Φ)(hr:(execOp a.eval oi).run P w= .ok (.value v) w)(h:yv P ops Q n m (i::l) (a.put dst v) w):Step P ops Q n m l i a w:=fH i hi hg dst hd v w hr h
theorem mE (i:Nat){oi:Oper}(hi:ops[i]? =some oi)(hg:oi.guard=none)(dst:Option Tmp)(hd:oi.dst=dst)(f:aa9)(args:Array Φ)(hr:(execOp a.eval oi).run P w= .ok (.enter f args) w)(R:Ending->Θ->Prop)(hc:Calls P f args w R)
  (h:∀e w',R e w'->∃v,e= .returned v/\yv P ops Q n m (i::l) (a.put dst v) w'):Step P ops Q n m l i a w:=
 ⟨oi,hi,hg,λK hK=>by
  subst hd;unfold Oper.wp;rw[hr];simp only[Oper.upon];refine hc.mono ?_;intro e w' he;obtain⟨v,rfl,hv⟩:=h e w' he;exact hK _ _ hv⟩
theorem oy (i:Nat){oi:Oper}(hi:ops[i]? =some oi)(hg:oi.guard=none)(dst:Option Tmp)(hd:oi.dst=dst)(f:aa9)(args:Array Φ)(hr:(execOp a.eval oi).run P w= .ok (.enter f args) w){v:Φ}(hc:Calls P f args w λe w'=>e= .returned v/\w'=w)
  (h:yv P ops Q n m (i::l) (a.put dst v) w):Step P ops Q n m l i a w:=
 mE i hi hg dst hd f args hr _ hc (by rintro e w' ⟨rfl,rfl⟩;exact⟨_,rfl,h⟩)
theorem Ps (i:Nat){oi:Oper}(hi:ops[i]? =some oi)(hg:oi.guard=none)(h:∀K:Act->Θ->Prop,(∀a w,yv P ops Q n m (i::l) a w->K a w)->oi.wp P a w K Q):Step P ops Q n m l i a w:=⟨oi,hi,hg,h⟩
theorem Gx (is:List Nat)(hne:is≠[])(hr:Region.ready .any ops (marks n l)=is)(hlt:∀i∈is,i<n)(h:∀i∈is,Step P ops Q n m l i a w):yv P ops Q n (m+1) l a w:=
 wpAny_all hr (by simpa using hne) λi hi=>by
  obtain⟨oi,h1,h2,h3⟩:=h i hi;unfold wpOp;simp only[h1];rw[χ (by simp[Region.wanted,h2])];exact .inl (h3 _ λa w x=>by rw[tI n i l (hlt i hi)];exact x)
theorem dJ (i:Nat)(h:Step P ops Q n m l i a w)(hr:Region.ready .any ops (marks n l)=[i]:=by kernel_rfl)(hlt:i<n:=by omega):yv P ops Q n (m+1) l a w:=
 Gx [i] (by simp) hr (by simpa using hlt) (by simpa using h)
theorem j0 (i j:Nat)(hr:Region.ready .any ops (marks n l)=[i,j])(h1:Step P ops Q n m l i a w)(h2:Step P ops Q n m l j a w)(hi:i<n:=by omega)(hj:j<n:=by omega):yv P ops Q n (m+1) l a w:=
 Gx [i,j] (by simp) hr (by simp[hi,hj]) (by simp[h1,h2])
end
theorem Y7 {P:ω}{ρ:aa8->Φ}{w:Θ}{o:Oper}(t e:η)(size bytes:Nat)(E:Elem P t e size bytes)(x:aa8)(ho:o.op= .buildSlice t 1 #[(0,x)])(h24:size<=1000)(v:Φ)(hx:ρ x=v)(hv:v.cells.size=size):
  (execOp ρ o).run P w= .ok (.value (.slice (some ⟨w.heap.size,0,none⟩) 1 1)) (w.alloc (.cells v.cells e)):=by
 obtain⟨i,z,h1,h2,h3,h4,h5⟩:=E.open;exact tP t e x ho E.slice i z v h1 h2 (by have:=E.pos;omega) (by omega) hx (by omega)
theorem K6 {P:ω}{ops:Array Oper}{Q:Exit->Act->Θ->Prop}{n m:Nat}{l:List Nat}{a:Act}{w:Θ}(i:Nat){oi:Oper}(hi:ops[i]? =some oi)(hg:oi.guard=none)(dst:Option Tmp)(hd:oi.dst=dst)(t e:η)(size bytes:Nat)(E:Elem P t e size bytes)(x:aa8)(ho:oi.op= .buildSlice t 1 #[(0,x)])(h24:size<=1000)(v:Φ)(hx:a.eval x=v)(hv:v.cells.size=size)
  (h:∀b w',aO [] w w'->Row w' b v.cells e->yv P ops Q n m (i::l) (a.put dst (.slice (some ⟨b,0,none⟩) 1 1)) w'):Step P ops Q n m l i a w:=
 fH i hi hg dst hd _ _ (Y7 t e size bytes E x ho h24 v hx hv) (h _ _ (aO.alloc _ _ _) (Row.new _ _ _))
theorem BE {P:ω}{ops:Array Oper}{Q:Exit->Act->Θ->Prop}{n m k:Nat}{l0:List Nat}{a:Act}{w:Θ}{Y:Type}(l:List Nat)(C:Y->Prop)(A:Y->Act->Act)(W:Y->Θ)
  (h:∀y,C y->yv P ops Q n m l (A y a) (W y)) (t:(∀y l',marks n l'=marks n l->C y->yv P ops Q n m l' (A y a) (W y))->yv P ops Q n k l0 a w):yv P ops Q n k l0 a w:=
 t λy l' hl hy=>by have:=h y hy;unfold yv at this⊢;rw[hl];exact this
theorem L9 {w:Θ}{b b':Nat}{e:η}{size:Nat}{v:Φ}{n:Nat}{xs:List Φ}(h:w.ownsRow b e size v n xs)(hb:b'<=b):w.ownsRow b' e size v n xs:=by
 obtain⟨h1,h2⟩:=h;refine⟨h1,?_⟩;rcases h2 with h2|⟨g,cap,cur,e1,e2,e3⟩
 .exact .inl h2
 .exact .inr ⟨g,cap,cur,e1,by omega,e3⟩
theorem Ot (s:Int)(p c:Ξ):Tryz.prog.built 107 [(0,.agg (cZ s p)),(1,.string c)]=some #[.int .i64 s,.string p,.string c]:=by kernel_rfl
def DS.mF (x:DS)(n s:Nat)(p c:Ξ):DS×Φ:=
 if x.failed then(x,.int .i64 3) else if x.pending n then(x,.int .i64 4)
 else if 7<jw (aM x n++[⟨s,p.data.toList,c.data.toList⟩]) then(x,.int .i64 6) else x.put n s p c
theorem tg (F:List Nat)(s d n:Nat)(x:DS)(side:Nat)(p c:Ξ)(w:Θ)(h:aP w F s d n x)(hx:x.Fit 5)(eZ:x.waiting.length<55)(hs:side<=1)(hp:bQ p.data.toList=true)(hpl:p.size<=8)(hcl:c.size<=96):
  Calls Tryz.prog 39 #[.pointer (some ⟨s,0,none⟩),.int .i64 side,.string p,.string c] w λe w'=>e= .returned (x.mF n side p c).2/\(∃F',aP w' F' s d n (x.mF n side p c).1/\bZ F F' w)/\aO F w w':=by
 have HG:Hid (x.mF n side p c=if x.failed then(x,.int .i64 3) else if x.pending n then(x,.int .i64 4) else if 7<jw (aM x n++[⟨side,p.data.toList,c.data.toList⟩]) then(x,.int .i64 6) else x.put n side p c):=rfl;have e1:((side:Int)==0||(side:Int)==1)=true:=by
  rcases(by omega:side=0\/side=1) with rfl|rfl<;>rfl
 go_enter Tryz.func39,Tryz.ntmps39;go_wp2_with fail;refine(fL F s d n x w h).mono ?_;rintro e w1 ⟨rfl,rfl⟩;go_wp2_with fail;refine(qW side w1).mono ?_;rintro e w2 ⟨rfl,rfl⟩;rw[e1];go_wp2_with fail;refine(ju p w2 (by omega)).mono ?_;rintro e w3 ⟨rfl,f3⟩;rw[hp];have h3:=h.new f3;have hc96:¬(c.size:Int)>96:=by omega
 go_wp2_with fail;refine(mm F s d n x w3 h3).mono ?_;rintro e w4 ⟨rfl,f4⟩;have h4:=h3.new f4;have fw:=f3.trans f4;cases hf:x.failed with
 |true=>
  rw[hf] at HG;have HG2:Hid (x.mF n side p c=(x,.int .i64 3)):=by show _=_;rw[HG.out];rfl
  simp only[if_true];go_wp2_with fail
  all_goals
   go_ret;rw[HG2.out];exact⟨rfl,⟨F,h4,bZ.refl _ _⟩,fw.mono⟩
 |false=>
  rw[hf] at HG;cases hpd:x.pending n with
  |true=>
   rw[hpd] at HG;have HG2:Hid (x.mF n side p c=(x,.int .i64 4)):=by show _=_;rw[HG.out];rfl
   simp only[if_true,ι,if_false];go_wp2_with fail
   all_goals
    go_ret;rw[HG2.out];exact⟨rfl,⟨F,h4,bZ.refl _ _⟩,fw.mono⟩
  |false=>
   rw[hpd] at HG;simp only[ι,if_false];go_wp2_with (with_reducible first|refine bE 103 rfl ?_|refine bE 107 rfl ?_|refine ay rfl ?_|refine ah 107 rfl ?_);refine ai.go (bN rfl (.agg (cZ side p)) w4 (ij _ _ rfl _ (yf side p)) ?_)
   go_wp2_with (with_reducible first|refine bE 107 rfl ?_|refine ay rfl ?_|refine ah 107 rfl ?_);refine ai.go (bN rfl (.agg #[.int .i64 side,.string p,.string c]) w4 (ij _ _ rfl _ (Ot side p c)) ?_);go_wp2_with (with_reducible first|refine ay rfl ?_|refine ah 107 rfl ?_);refine ai.go (bh rfl 107 rfl vU ky ?_)
   intro w5 b10 l5 f5 r5;go_wp2_with (with_reducible first|refine ay rfl ?_|refine ah 107 rfl ?_);refine ai.go (bP rfl 107 _ _ rfl _ 0 rfl _ rfl 3 d8 ?_ ?_ _ _ r5 ?_ ?_)
   .rfl
   .simp[Value.oneCell']
   .decide
   intro w6 f6 q6;rw[bG _ _ (by rfl)] at q6;have Wj:Row w6 b10 #[.int .i64 side,.string p,.string c] 107:=q6;have f46:=f5.trans f6 (by simpa using l5);have h6:=h4.new f46;have qZ:=fw.trans f46;clear q6 r5 f5 f6 f46 h4 h3 l5;go_wp2_with fail;refine fI 10 rfl ?_;refine sY ?_;have fd:aO [] w6 w6.drew:=aO.drew _ _;have h7:=h6.new fd
   have q7:=fd.row Wj;have yA:=qZ.trans fd;generalize w6.drew=w7 at h7 q7 yA;clear fd h6 Wj qZ fw f3 f4;have fb:=yA;replace yA:aO [] w7 w7:=aO.refl _ _;refine ec 0 (some 36) rfl rfl (λ_ _ _ h=>h) rfl (v:= .pointer (some ⟨s,0,none⟩)) (λ_=>rfl) ?_
   refine ec 1 (some 37) rfl rfl (λ_ _ _ h=>h) rfl (v:= .pointer (some ⟨s,0,none⟩)) (λ_=>by go_simp) ?_;refine ec 2 (some 38) rfl rfl (λ_ _ _ h=>h) rfl (v:= .pointer (some ⟨s,0,none⟩)) (λ_=>by go_simp) ?_;simp only[Act.put,bm,bn,bk]
   refine BE (m:=3) [6,5,4,3,2,1,0] (λ(y:Φ×Nat×Θ)=>aP y.2.2 F s d n x/\Row y.2.2 b10 #[.int .i64 side,.string p,.string c] 107/\aO [] w7 y.2.2/\y.2.2.ownsRow w7.heap.size 107 3 y.1 (aM x n).length (ii (aM x n))/\Row y.2.2 y.2.1 #[.int .i64 side,.string p,.string c] 107) (λy a=>((((a.put (some 39) (.pointer (some ⟨d,0,none⟩))).put (some 40) y.1).put (some 41) (.agg #[.int .i64 side,.string p,.string c])).put (some 42) (.slice (some ⟨y.2.1,0,none⟩) 1 1))) (λy=>y.2.2) ?_ ?_
   .rintro⟨v,bz,w8⟩ ⟨h8,q8,ry,o8,r8⟩
    simp only at h8 q8 ry o8 r8;simp only[Act.put,bm,bn,bk];have hfl:(aM x n).length<=54:=by unfold aM;rw[ag0];exact eR x n
    have HF:Hid (ii (aM x n++[⟨side,p.data.toList,c.data.toList⟩])=ii (aM x n)++[.int .i64 side,.string p,.string c]):=by
     show _=_;rw[sI];rfl
    have hv8:∀k,v.ownBlock=some k->w7.heap.size<=k:=λk hk=>(o8.lt k hk).1
    have hs7:=h7.row.lt;have hF7:=λk hk=>h7.disk.lt k hk
    have hb7:=q7.lt;clear h7 q7;refine dJ 7 (Ps 7 rfl rfl λK hK=>zx 104 107 3 40 p8 _ _ rfl w7.heap.size v _ _ rfl o8 bz 1 1 [.int .i64 side,.string p,.string c] rfl _ _ r8 rfl rfl (by simp[Value.oneCell']) (by omega) (by omega) (by omega) ry.size λg cap w9 o9 f9 _=>hK _ _ ?_)
    have q9:=f9.row q8 (by intro hk;have:=hv8 b10 (by simpa using hk);omega);have h9:aP w9 F s d n x:=⟨f9.row h8.row (by intro hk;have:=hv8 s (by simpa using hk);omega),h8.disk.xJ f9 (λk hk hF=>by have:=hv8 k (by simpa using hk);have:=hF7 k hF;omega),h8.ne⟩
    have fw9:aO [] w7 w9:=ry.trans f9 (λk hk=> .inr (hv8 k (by simpa using hk)));have fx9:aO [] w2 w9:=fb.trans fw9;clear h8 q8 ry o8 r8 f9 hv8 hs7 hF7 hb7 fb yA fw9
    change yv _ _ _ _ _ _ (Act.put _ (some 43) _) _
    simp only[Act.put,bm,bn,bk];have hlen:(aM x n++[(⟨side,p.data.toList,c.data.toList⟩:cH)]).length=(aM x n).length+1:=by simp
    have hcount:=Ak w7.heap.size (.slice (some ⟨g,0,none⟩) ((aM x n).length+1) cap) (aM x n++[⟨side,p.data.toList,c.data.toList⟩]) w9 (by rw[hlen,HF.out];exact o9) (by omega);clear o9 HF hlen hfl;generalize (aM x n).length+1=ln at*;refine dJ 8 (mE 8 rfl rfl (some 44) rfl 75 #[.slice (some ⟨g,0,none⟩) ln cap] (by go_simp) _ hcount ?_)
    rintro e wc ⟨rfl,fc⟩;refine⟨_,rfl,?_⟩;have hc:=h9.new fc;have qc:=fc.row q9;have fxc:=fx9.trans fc;clear hcount h9 q9 fx9 fc;generalize jw (aM x n++[⟨side,p.data.toList,c.data.toList⟩])=m at*;simp only[Act.put,bm,bn,bk]
    by_cases hm:7<m
    .have HG2:Hid (x.mF n side p c=(x,.int .i64 6)):=by show _=_;rw[HG.out];simp[hm]
     refine dJ 9 (fH 9 rfl rfl (some 45) rfl (.bool true) wc (by go_simp;omega) ?_);refine sX ?_;simp only[Act.put,bm,bn,bk];go_wp2_with fail
     all_goals
      go_ret;rw[HG2.out];exact⟨rfl,⟨F,hc,bZ.refl _ _⟩,fxc.mono⟩
    .have HG2:Hid (x.mF n side p c=x.put n side p c):=by show _=_;rw[HG.out];simp[hm]
     refine dJ 9 (fH 9 rfl rfl (some 45) rfl (.bool false) wc (by go_simp;omega) ?_);refine sX ?_;simp only[Act.put,bm,bn,bk];clear hm;go_wp2_with fail;refine fI 7 rfl ?_;have fdd:aO [] wc wc.drew:=aO.drew _ _;have hd:=hc.new fdd;have qd:=fdd.row qc;have fxd:=fxc.trans fdd
     generalize wc.drew=wd at hd qd fxd;clear fdd hc qc fxc HG hK;have hL1:Lets (λw':Θ=>Row w' s #[.pointer (some ⟨d,0,none⟩)] 96):=⟨λw o h=>(aO.alloc [] w o).row h,λw h=>h⟩
     have hL2:Lets (λw':Θ=>Row w' b10 #[.int .i64 side,.string p,.string c] 107):=⟨λw o h=>(aO.alloc [] w o).row h,λw h=>h⟩
     refine bY 0 (some 46) rfl rfl (λ_ _ _ h=>h) rfl (v:= .pointer (some ⟨s,0,none⟩)) (λ_=>rfl) ?_;refine bY 1 (some 47) rfl rfl (λ_ _ _ h=>h) rfl (v:= .pointer (some ⟨s,0,none⟩)) (λ_=>by go_simp) ?_
     refine bY 2 (some 48) rfl rfl (λ_ _ _ h=>h) rfl (v:= .pointer (some ⟨s,0,none⟩)) (λ_=>by go_simp) ?_;simp only[Act.put,bm,bn,bk]
     refine lT 3 _ hL1 hd.row (some 49) rfl rfl (λ_ _ _ h=>h) rfl (v:= .pointer (some ⟨d,0,none⟩)) (λw' hw'=>by have:=hw'.cell 0;go_simp) ?_;simp only[Act.put,bm,bn,bk]
     refine lT 4 _ hL2 qd (some 50) rfl rfl (λ_ _ _ h=>h) rfl (v:= .agg #[.int .i64 side,.string p,.string c]) (λw' hw'=>iW 107 _ rfl b10 0 rfl jM 3 d8 _ _ hw' [.int .i64 side,.string p,.string c] rfl rfl) ?_;simp only[Act.put,bm,bn,bk]
     refine Et 5 (by omega) (some 51) rfl rfl (by kernel_rfl) rfl 76 #[.pointer (some ⟨d,0,none⟩),.agg #[.int .i64 side,.string p,.string c]] (by go_simp) _ (wW F d n x side p c wd hd.disk hx eZ (by omega) (by omega) (by omega)) ?_;rintro e we ⟨rfl,Fe,he,fe,ge⟩;refine⟨_,rfl,?_⟩;have gw:=(bZ.refl F w2).trans ge fxd.size
     have hse:aP we Fe s d n (x.put n side p c).1:=⟨fe.row hd.row hd.ne,he,λhF=>(gw s hF).elim h.ne (λhh=>by have:=h.row.lt;omega)⟩
     have Y6:aO F w2 we:=(fxd.mono (T:=F) (by simp)).trans fe (λi hi=> .inl hi);clear hL1 hL2 hd qd fxd he fe ge;refine bY 6 (some 8) rfl rfl (λ_ _ _ h=>h) rfl (v:=(x.put n side p c).2) (λ_=>rfl) ?_;simp only[Act.put,bm,bn,bk];refine lV ?_;generalize hpx:x.put n side p c=y at*
     have HPX:Hid (x.put n side p c=y):=hpx;clear hpx;go_wp2_with fail
     all_goals
      go_ret;rw[HG2.out];exact⟨rfl,⟨Fe,hse,gw⟩,Y6⟩
   intro t8;have tail:∀v bz l,marks 10 l=marks 10 [6,5,4,3,2,1,0]->∀wk,aP wk F s d n x->Row wk b10 #[.int .i64 side,.string p,.string c] 107->aO [] w7 wk->wk.ownsRow w7.heap.size 107 3 v (aM x n).length (ii (aM x n))->Row wk bz #[.int .i64 side,.string p,.string c] 107->_:=λv bz l hl wk a1 a2 a3 a4 a5=>t8 (v,bz,wk) l hl ⟨a1,a2,a3,a4,a5⟩
   simp only[Act.put,bm,bn,bk] at tail;clear t8;have r7:True:=trivial;have o7:True:=trivial
   repeat' first
    |((
      first
      |refine j0 3 5 (by decide+kernel) ?_ ?_
      |refine j0 4 5 (by decide+kernel) ?_ ?_
      |refine j0 4 6 (by decide+kernel) ?_ ?_
      |refine j0 3 6 (by decide+kernel) ?_ ?_
      |refine dJ 3 (hr:=(by decide+kernel)) ?_
      |refine dJ 4 (hr:=(by decide+kernel)) ?_
      |refine dJ 5 (hr:=(by decide+kernel)) ?_
      |refine dJ 6 (hr:=(by decide+kernel)) ?_)<;>first
      |(
        show Step _ _ _ _ _ _ 3 _ _;refine K8 3 rfl rfl (some 39) rfl (.pointer (some ⟨d,0,none⟩)) (by have c0:=h7.cell;go_simp) ?_;simp only[Act.put,bm,bn,bk])
      |(
        show Step _ _ _ _ _ _ 4 _ _;obtain⟨bl8,vw8,hd8⟩:=h7.nF;refine mE 4 rfl rfl (some 40) rfl 51 #[.pointer (some ⟨d,0,none⟩)] (by go_simp) _ (vT d bl8 n vw8 x _ hd8) ?_;rintro e w8 ⟨v,rfl,o8,f8⟩;refine⟨v,rfl,?_⟩;replace o7:=L9 o8 yA.size;replace h7:=h7.new f8;replace q7:=f8.row q7;replace yA:=yA.trans f8
        try replace r7:=f8.row r7
        clear f8 hd8;simp only[Act.put,bm,bn,bk])
      |(
        show Step _ _ _ _ _ _ 5 _ _;refine fH 5 rfl rfl (some 41) rfl (.agg #[.int .i64 side,.string p,.string c]) _ (iW 107 _ rfl b10 0 rfl jM 3 d8 _ _ q7 [.int .i64 side,.string p,.string c] rfl rfl) ?_;simp only[Act.put,bm,bn,bk])
      |(
        show Step _ _ _ _ _ _ 6 _ _;refine K6 6 rfl rfl (some 42) rfl 104 107 3 40 p8 _ rfl (by omega) (.agg #[.int .i64 side,.string p,.string c]) rfl rfl ?_;intro bz w9 f9 r9;replace h7:=h7.new f9;replace q7:=f9.row q7;replace yA:=yA.trans f9
        try replace o7:=f9.owns o7
        replace r7:=r9;clear f9;simp only[Act.put,bm,bn,bk]))
    |exact tail _ _ _ (by kernel_rfl) _ h7 q7 yA o7 r7
def bD (c:Int)(n:Nat):Nat:=((if c<0 then -(c+1) else c)%(n:Int)).toNat
theorem mL (c:Int)(n:Nat)(h:0<n:=by omega):bD c n<n:=by
 unfold bD;have h1:=Int.emod_lt_of_pos (if c<0 then -(c+1) else c) (show(0:Int)<n by omega);have h2:=Int.emod_nonneg (if c<0 then -(c+1) else c) (show(n:Int)≠0 by omega);omega
theorem Fc (c:Int)(n:Nat)(h:0<n):((bD c n:Nat):Int)=(if c<0 then -(c+1) else c)%(n:Int):=by
 unfold bD;have h2:=Int.emod_nonneg (if c<0 then -(c+1) else c) (show(n:Int)≠0 by omega);omega
theorem oZ (c:Int)(n:Nat)(w:Θ)(h0:-9223372036854775808<=c)(h1:c<=9223372036854775807)(hn:0<n:=by omega)(hn2:n<=1000000000:=by omega):
  Calls Tryz.prog 19 #[.int .i64 c,.int .i64 n] w λe w'=>e= .returned (.int .i64 (bD c n))/\w'=w:=by
 have HP:Hid (((bD c n:Nat):Int)=(if c<0 then -(c+1) else c)%(n:Int)):=Fc c n hn;have hne:((n:Int)==0)=false:=by rw[ae8];omega
 have hne':(n:Int)≠0:=by omega
 go_enter Tryz.func19,Tryz.ntmps19
 by_cases hc:c<0
 .have HQ:Hid (((bD c n:Nat):Int)=-((c+1).tmod (n:Int))):=by
   show _=_;rw[HP.out,χ hc,<-Int.neg_tmod,Int.tmod_eq_emod_of_nonneg (by omega)]
  go_wp2_with fail;go_ret;exact⟨by rw[HQ.out];rfl,rfl⟩
 .have HQ:Hid (((bD c n:Nat):Int)=c%(n:Int)):=by
   show _=_;rw[HP.out,ζ hc]
  go_wp2_with fail;go_ret;exact⟨by rw[HQ.out];rfl,rfl⟩
def dj (s:Ξ):Ξ:=if s.size>96 then s.extract 0 96 else s
theorem Eb (s:Ξ)(w:Θ):Calls Tryz.prog 43 #[.string s] w λe w'=>e= .returned (.string (dj s))/\w'=w:=by
 go_enter Tryz.func43,Tryz.ntmps43
 by_cases hc:s.size>96
 .have HQ:Hid (dj s=s.extract 0 96):=by show _=_;unfold dj;rw[χ hc]
  have hc':(s.size:Int)>96:=by omega
  go_wp2_with fail;go_ret;exact⟨by rw[HQ.out];rfl,rfl⟩
 .have HQ:Hid (dj s=s):=by show _=_;unfold dj;rw[ζ hc]
  have hc':¬(s.size:Int)>96:=by omega
  go_wp2_with fail;go_ret;exact⟨by rw[HQ.out];rfl,rfl⟩
def ie (i:Nat):Ξ:=(⟨#[97,98,99,100,101,102,103]⟩:Ξ).extract i (i+1)
theorem De (i:Nat)(h:i<7):bQ (ie i).data.toList=true/\(ie i).size=1:=by
 rcases(by omega:i=0\/i=1\/i=2\/i=3\/i=4\/i=5\/i=6) with rfl|rfl|rfl|rfl|rfl|rfl|rfl<;>exact⟨by decide,by decide⟩
theorem Dd (c:Int)(w:Θ)(h0:-9223372036854775808<=c)(h1:c<=9223372036854775807):Calls Tryz.prog 41 #[.int .i64 c] w λe w'=>e= .returned (.string (ie (bD c 7)))/\w'=w:=by
 have hlt:=mL c 7;go_enter Tryz.func41,Tryz.ntmps41;go_wp2_with fail;refine(oZ c 7 w h0 h1).mono ?_;rintro e w1 ⟨rfl,rfl⟩;generalize hi:bD c 7=i at*;have HI:Hid (bD c 7=i):=hi;clear hi;rcases(by omega:i=0\/i=1\/i=2\/i=3\/i=4\/i=5\/i=6) with rfl|rfl|rfl|rfl|rfl|rfl|rfl
 all_goals
  go_wp2_with fail;go_ret;exact⟨by rw[HI.out];rfl,rfl⟩
def jk (L:List Γ)(j:Nat):List Γ:=(L.drop (64*j)).take 64
theorem CN (L:List Γ)(j k:Nat):(jk L j)[k]? =if k<64 then L[64*j+k]? else none:=by
 unfold jk;rw[List.getElem?_take];split
 .rw[ag2]
 .rfl
theorem Qh (L:List Γ)(n:Nat)(hL:L.length=64*n)(i:Nat)(hi:i<n)(b:List Γ)(hb:b.length=64)(m:Nat):
  (bL L ((i:Int),b))[m]? =if m<64*i then L[m]? else if m<64*i+64 then b[m-64*i]? else L[m]? :=by
 unfold bL;simp only[Int.toNat_natCast];rw[List.getElem?_append,List.getElem?_append];simp only[af1,ae1,hb,List.getElem?_take,ag2];have h1:min (64*i) L.length=64*i:=by omega
 rw[h1]
 by_cases h2:m<64*i
 .simp[h2];omega
 .by_cases h3:m<64*i+64
  .simp[h2,h3]
  .simp only[h2,h3,if_false]
   congr 1
   omega
theorem jK (L:List Γ)(n:Nat)(hL:L.length=64*n)(i:Nat)(hi:i<n)(b:List Γ)(hb:b.length=64)(j:Nat):jk (bL L ((i:Int),b)) j=if j=i then b else jk L j:=by
 apply List.ext_getElem?
 intro k;rw[CN,Qh L n hL i hi b hb]
 by_cases hj:j=i
 .subst hj
  simp only[if_true]
  by_cases hk:k<64
  .rw[χ hk,ζ (by omega),χ (by omega)]
   congr 1;omega
  .rw[ζ hk,List.getElem?_eq_none (by omega)]
 .rw[ζ hj,CN]
  by_cases hk:k<64
  .rw[χ hk,χ hk]
   by_cases h2:64*j+k<64*i
   .rw[χ h2]
   .rw[ζ h2,ζ (by omega)]
  .rw[ζ hk,ζ hk]
theorem He (L:List Γ)(n:Nat)(hL:L.length=64*n)(i:Nat)(hi:i<n)(b:List Γ)(hb:b.length=64):(bL L ((i:Int),b)).length=64*n:=by
 unfold bL;simp only[Int.toNat_natCast,af1,ae1,List.length_drop,hb];omega
theorem oX (x:DS)(h:x.waiting=[])(j:Nat):x.read j=jk x.aJ j:=by
 unfold DS.read seenIn jk;rw[h];simp
theorem pR (x:DS)(h:x.waiting=[]):x.read 0=jk x.aJ 0:=oX x h 0
abbrev dy:=Nat->Option cH
def DI (n:Nat):List Γ:=mn++[UInt8.ofNat (n/256),UInt8.ofNat n]
def d6 (n:Nat)(m:dy):List Γ:=DI n++(List.range 54).map λi=>if(m i).isSome then(1:Γ) else 0
theorem nq (n:Nat):(DI n).length=10:=rfl
theorem iT (n:Nat)(m:dy):(d6 n m).length=64:=by simp[d6,nq]
theorem pP (n:Nat)(m:dy)(k:Nat):(d6 n m)[k]? =if k<10 then(DI n)[k]? else if k<64 then some (if(m (k-10)).isSome then(1:Γ) else 0) else none:=by
 unfold d6;rw[List.getElem?_append,nq];split
 .rfl
 .rename_i h
  rw[List.getElem?_map]
  by_cases h2:k<64
  .rw[List.getElem?_range (by omega),χ h2];rfl
  .rw[List.getElem?_eq_none (by simp;omega),ζ h2];rfl
theorem I5 (n k:Nat):(ic n)[k]? =if k<10 then(DI n)[k]? else if k<64 then some 0 else none:=by
 unfold ic;rw[show mn++[UInt8.ofNat (n/256),UInt8.ofNat n]=DI n from rfl,List.getElem?_append,nq];split
 .rfl
 .rw[List.getElem?_replicate]
  by_cases h2:k<64
  .rw[χ h2,χ (by omega)]
  .rw[ζ h2,ζ (by omega)]
theorem pV (n:Nat)(m:dy)(i:Nat)(hi:i<54:=by omega):da (d6 n m) i=if(m i).isSome then 1 else 0:=by
 unfold da;rw[List.getD_eq_getElem?_getD,pP,ζ (by omega),χ (by omega)];simp
theorem EE (n:Nat)(m:dy)(k:Nat)(hk:k<=54):gz (d6 n m) k=(List.range k).filter λi=>(m i).isSome:=by
 unfold gz
 apply List.filter_congr
 intro i hi;rw[af3] at hi;rw[pV n m i];cases (m i).isSome<;>rfl
theorem yZ (l:List Nat):∀(r:List Γ) (j:Nat),(dw r l)[j]? =if(∃i∈l,10+i=j)/\j<r.length then some 1 else r[j]? :=by
 induction l with
 |nil=>intro r j;simp[dw]
 |cons a l ih=>
  intro r j;unfold dw;rw[List.foldl_cons];have:=ih (r.set (10+a) 1) j;unfold dw at this;rw[this,List.length_set,List.getElem?_set]
  by_cases h1:(∃i∈l,10+i=j)/\j<r.length
  .rw[χ h1,χ ⟨by obtain⟨⟨i,hi,e⟩,_⟩:=h1;exact⟨i,ah3 _ hi,e⟩,h1.2⟩]
  .rw[ζ h1]
   by_cases h2:10+a=j
   .rw[χ h2]
    by_cases h3:j<r.length
    .rw[χ (by omega),χ ⟨⟨a,List.mem_cons_self,h2⟩,h3⟩]
    .rw[ζ (by omega),ζ (by omega),List.getElem?_eq_none (by omega)]
   .rw[ζ h2,ζ]
    rintro⟨⟨i,hi,e⟩,h3⟩;rcases ab8.1 hi with rfl|hi
    .exact h2 e
    .exact h1 ⟨⟨i,hi,e⟩,h3⟩
theorem jD (n:Nat):(ic n).length=64:=by simp[ic,mn]
theorem wP (n:Nat)(m:dy)(k:Nat)(hm:∀i,(m i).isSome->i<k):dw (ic n) ((List.range k).filter λi=>(m i).isSome)=d6 n m:=by
 apply List.ext_getElem?
 intro j;rw[yZ,pP,I5,jD]
 by_cases h1:j<10
 .rw[χ h1,χ h1,ζ (by rintro⟨⟨i,_,e⟩,_⟩;omega)]
 .rw[ζ h1,ζ h1]
  by_cases h2:j<64
  .rw[χ h2,χ h2]
   cases h3:(m (j-10)).isSome with
   |true=>
    rw[χ ⟨⟨j-10,by rw[af9,af3];exact⟨hm _ h3,h3⟩,by omega⟩,h2⟩];rfl
   |false=>
    rw[ζ]
    .rfl
    .rintro⟨⟨i,hi,e⟩,_⟩
     rw[af9] at hi;obtain rfl:i=j-10:=by omega
     rw[h3] at hi;exact absurd hi.2 (by decide)
  .rw[ζ h2,ζ h2,ζ (by omega)]
def upd (m:dy)(i:Nat)(v:Option cH):dy:=λj=>if j=i then v else m j
theorem CM (n:Nat)(m:dy)(i:Nat)(hi:i<54)(v:Option cH):(d6 n m).set (10+i) (if v.isSome then 1 else 0)=d6 n (upd m i v):=by
 apply List.ext_getElem?
 intro j;rw[List.getElem?_set,iT,pP,pP]
 by_cases h1:10+i=j
 .have h3:j-10=i:=by omega
  have h4:¬(j<10):=by omega
  have h5:j<64:=by omega
  have h6:10+i<64:=by omega
  simp[upd,h3,h4,h5,h6,h1]
 .rw[ζ h1]
  by_cases h2:j<10
  .rw[χ h2,χ h2]
  .rw[ζ h2,ζ h2]
   have:¬(j-10=i):=by omega
   simp[upd,this]
theorem wn (l:List Γ)(o:Nat)(v:List Γ)(h:o+v.length<=l.length)(k:Nat):(splice l o v)[k]? =if k<o then l[k]? else if k<o+v.length then v[k-o]? else l[k]? :=by
 unfold splice;rw[List.getElem?_append,List.getElem?_append];simp only[af1,ae1,List.getElem?_take,ag2];have h1:min o l.length=o:=by omega
 rw[h1]
 by_cases h2:k<o
 .simp[h2];omega
 .by_cases h3:k<o+v.length
  .simp[h2,h3]
  .simp only[h2,h3,if_false]
   congr 1
   omega
theorem nr (l:List Γ)(o:Nat)(v:List Γ)(h:o+v.length<=l.length):(splice l o v).length=l.length:=by
 unfold splice;simp only[af1,ae1,List.length_drop];omega
theorem sM (s:Nat)(p c:List Γ)(hp:p.length<=8)(hc:c.length<=96)(k:Nat):
  (cB s p c)[k]? =if k<3 then(dV s p.length c.length)[k]? else if k<3+p.length then p[k-3]? else if k<11 then(dV s p.length c.length)[k]? else if k<11+c.length then c[k-11]? else(dV s p.length c.length)[k]? :=by
 have hh:(dV s p.length c.length).length=128:=by simp[dV]
 unfold cB;rw[θ hp,θ (by omega:c.length<=117)];rw[wn _ _ _ (by rw[nr _ _ _ (by omega)];omega),wn _ _ _ (by omega)]
 by_cases h1:k<3
 .rw[χ (by omega),χ h1,χ h1]
 .rw[ζ h1,ζ h1]
  by_cases h2:k<3+p.length
  .rw[χ (by omega),χ h2,χ h2]
  .rw[ζ h2,ζ h2]
theorem QR (s:Nat)(p c:List Γ)(hp:p.length<=8)(hc:c.length<=96):(cB s p c).length=128:=by
 have hh:(dV s p.length c.length).length=128:=by simp[dV]
 unfold cB;rw[θ hp,θ (by omega:c.length<=117)];rw[nr _ _ _ (by rw[nr _ _ _ (by omega)];omega),nr _ _ _ (by omega),hh]
theorem xE (s p c:Nat):(dV s p c)[0]? =some (UInt8.ofNat s)/\(dV s p c)[1]? =some (UInt8.ofNat p)/\(dV s p c)[2]? =some (UInt8.ofNat c):=by
 refine⟨?_,?_,?_⟩<;>simp[dV,List.getElem?_set]
theorem RU (s:Nat)(p c:List Γ)(hs:s<256)(hp:p.length<=8)(hc:c.length<=96):eB (cB s p c)=s:=by
 unfold eB eI;rw[List.getD_eq_getElem?_getD,sM s p c hp hc,χ (by omega),(xE _ _ _).1];simp;omega
theorem NP (s:Nat)(p c:List Γ)(hp:p.length<=8)(hc:c.length<=96):eI (cB s p c) 1=p.length:=by
 unfold eI;rw[List.getD_eq_getElem?_getD,sM s p c hp hc,χ (by omega),(xE _ _ _).2.1];simp;omega
theorem NR (s:Nat)(p c:List Γ)(hp:p.length<=8)(hc:c.length<=96):eI (cB s p c) 2=c.length:=by
 unfold eI;rw[List.getD_eq_getElem?_getD,sM s p c hp hc,χ (by omega),(xE _ _ _).2.2];simp;omega
theorem NQ (s:Nat)(p c:List Γ)(hp:p.length<=8)(hc:c.length<=96):cN (cB s p c)=p:=by
 unfold cN;rw[NP s p c hp hc,Nat.min_eq_left hp]
 apply List.ext_getElem?
 intro k;rw[List.getElem?_take]
 by_cases h:k<p.length
 .rw[χ h,ag2,sM s p c hp hc,ζ (by omega),χ (by omega)]
  congr 1;omega
 .rw[ζ h,List.getElem?_eq_none (by omega)]
theorem uO (s:Nat)(p c:List Γ)(hp:p.length<=8)(hc:c.length<=96):bu (cB s p c)=c:=by
 unfold bu;rw[NR s p c hp hc,Nat.min_eq_left hc]
 apply List.ext_getElem?
 intro k;rw[List.getElem?_take]
 by_cases h:k<c.length
 .rw[χ h,ag2,sM s p c hp hc,ζ (by omega),ζ (by omega),ζ (by omega),χ (by omega)]
  congr 1;omega
 .rw[ζ h,List.getElem?_eq_none (by omega)]
theorem pJ {α:Type}[BEq α][LawfulBEq α]:∀(l r:List α),l.Nodup->(∀a∈l,a∈r)->l.length<=r.length
 |[],_,_,_=>by simp
 |a::l,r,hn,hs=>by
  rw[List.nodup_cons] at hn;have ha:a∈r:=hs a List.mem_cons_self;have h:=pJ l (r.erase a) hn.2 λb hb=>by
   have hne:b≠a:=λe=>hn.1 (e▸hb)
   exact(List.mem_erase_of_ne hne).2 (hs b (ah3 _ hb))
  rw[List.length_erase_of_mem ha] at h;have:=List.length_pos_of_mem ha;rw[List.length_cons];omega
structure mT (L:List Γ)(n:Nat)(m:dy):Prop where
 len:L.length=64*n
 lo:16<=n
 root:jk L 0=d6 n m
 recs:∀i f,m i=some f->jk L (1+2*i)++jk L (2+2*i)=cB f.set f.path f.content
 lt:∀i f,m i=some f->i<aH n
 good:∀i f,m i=some f->cT f.set f.path=true/\f.content.length<=96
 inj:∀i j f g,m i=some f->m j=some g->nameOf f=nameOf g->i=j
theorem mN (n:Nat):aH n<=54:=Nat.min_le_right _ _
theorem Jm (n i:Nat)(h:i<aH n):2+2*i<n:=by
 unfold aH at h;omega
theorem xj {s:Nat}{p:List Γ}(h:cT s p=true):p.length<=8/\s<=3:=by
 unfold cT at h;split at h
 .unfold bQ at h
  simp only[ξ,ai1] at h;omega
 .split at h
  .have:p=[]:=by simpa using h
   subst this;simp;omega
  .cases h
def lj (n:Nat)(m:dy):List cH:=(List.range (aH n)).filterMap m
section
variable {L:List Γ}{n:Nat}{m:dy}{x:DS}
theorem zP (h:mT x.aJ n m)(hw:x.waiting=[]):taken x n=(List.range (aH n)).filter λi=>(m i).isSome:=by
 unfold taken;rw[pR x hw,h.root,EE n m _ (mN n)]
theorem G1 (h:mT x.aJ n m)(hw:x.waiting=[]){i:Nat}{f:cH}(hf:m i=some f):ci x i=cB f.set f.path f.content:=by
 unfold ci DS.sec;rw[oX x hw,oX x hw,h.recs i f hf]
theorem CU (h:mT x.aJ n m)(hw:x.waiting=[]){i:Nat}{f:cH}(hf:m i=some f):fileAt x i=f:=by
 have hg:=h.good i f hf;have hl:=xj hg.1;unfold fileAt;rw[G1 h hw hf,RU _ _ _ (by omega) hl.1 hg.2,NQ _ _ _ hl.1 hg.2,uO _ _ _ hl.1 hg.2]
theorem n4 (g:Nat->cH):∀(l:List Nat),(∀i∈l,∀f,m i=some f->g i=f)->(l.filter λi=>(m i).isSome).map g=l.filterMap m
 |[],_=>rfl
 |a::l,h=>by
  have ih:=n4 g l λi hi=>h i (ah3 _ hi)
  cases hm:m a with
  |none=>rw[List.filter_cons_of_neg (by simp[hm]),List.filterMap_cons_none hm,ih]
  |some f=>rw[List.filter_cons_of_pos (by simp[hm]),List.map_cons,List.filterMap_cons_some hm,ih,h a List.mem_cons_self f hm]
theorem mI (h:mT x.aJ n m)(hw:x.waiting=[]):aM x n=lj n m:=by
 unfold aM lj;rw[zP h hw];exact n4 _ _ λi _ f hf=>CU h hw hf
theorem zQ (h:mT x.aJ n m)(hw:x.waiting=[]){i:Nat}{f:cH}(hf:m i=some f)(s:Int)(p:Ξ):named x s p i=((f.set:Int)==s&&aB f.path==p):=by
 have:=CU h hw hf;unfold fileAt at this;unfold named;rw[<-this]
theorem GN (s:Int)(p:Ξ)(i:Nat):∀(l:List Nat),i∈l->(∀j∈l,named x s p j=decide (j=i))->cK x s p l=i
 |[],h,_=>by simp at h
 |a::l,h,hn=>by
  unfold cK;rw[hn a List.mem_cons_self]
  by_cases ha:a=i
  .simp[ha]
  .rw[decide_eq_false ha]
   rcases ab8.1 h with e|h'
   .exact absurd e.symm ha
   .simpa using GN s p i l h' λj hj=>hn j (ah3 _ hj)
theorem Cs (s:Int)(p:Ξ):∀(l:List Nat),(∀j∈l,named x s p j=false)->cK x s p l=-1
 |[],_=>rfl
 |a::l,hn=>by
  unfold cK;rw[hn a List.mem_cons_self];simpa using Cs s p l λj hj=>hn j (ah3 _ hj)
theorem AT (h:mT x.aJ n m)(hw:x.waiting=[]){i:Nat}:i∈taken x n↔∃f,m i=some f:=by
 rw[zP h hw,af9,af3,Option.isSome_iff_exists];exact⟨λh=>h.2,λ⟨f,hf⟩=>⟨h.lt i f hf,f,hf⟩⟩
theorem CT (h:mT x.aJ n m)(hw:x.waiting=[]){i:Nat}{f:cH}(hf:m i=some f):cK x f.set (aB f.path) (taken x n)=i:=by
 refine GN _ _ i _ ((AT h hw).2 ⟨f,hf⟩) λj hj=>?_
 obtain⟨g,hg⟩:=(AT h hw).1 hj;rw[zQ h hw hg]
 by_cases hji:j=i
 .subst hji
  rw[hf] at hg;obtain rfl:=ae7 hg;rw[sV];simp
 .rw[decide_eq_false hji,Bool.and_eq_false_iff]
  by_cases h1:g.set=f.set
  .right
   rw[sV,ae8];intro e;exact hji (h.inj j i g f hg hf (by unfold nameOf;rw[h1,e]))
  .left
   rw[ae8];omega
theorem qT (h:mT x.aJ n m)(hw:x.waiting=[])(s:Nat)(p:List Γ)(hn:∀i f,m i=some f->nameOf f≠(s,p)):cK x s (aB p) (taken x n)=-1:=by
 refine Cs _ _ _ λj hj=>?_
 obtain⟨g,hg⟩:=(AT h hw).1 hj;rw[zQ h hw hg,Bool.and_eq_false_iff]
 by_cases h1:g.set=s
 .right
  rw[sV,ae8];intro e;exact hn j g hg (by unfold nameOf;rw[h1,e])
 .left
  rw[ae8];omega
theorem P6 (h:mT x.aJ n m)(hw:x.waiting=[]){i:Nat}{f:cH}(hf:m i=some f):x.content n f.set (aB f.path)=some f.content:=by
 have hg:=h.good i f hf;have hl:=xj hg.1;unfold DS.content;rw[CT h hw hf];show some (bu (ci x i))=_;rw[G1 h hw hf,uO _ _ _ hl.1 hg.2]
theorem wQ (h:mT x.aJ n m)(hw:x.waiting=[])(s:Nat)(p:List Γ)(hn:∀i f,m i=some f->nameOf f≠(s,p)):x.content n s (aB p)=none:=by
 unfold DS.content;rw[qT h hw s p hn];rfl
def holds (m:dy)(s:Nat)(p:List Γ)(r:Option (List Γ)):Prop:=
 match r with
 |some c=>∃i,m i=some ⟨s,p,c⟩
 |none=>∀i f,m i=some f->nameOf f≠(s,p)
theorem CV (h:mT x.aJ n m)(hw:x.waiting=[]){s:Nat}{p:List Γ}{r:Option (List Γ)}(hr:holds m s p r):x.content n s (aB p)=r:=by
 cases r with
 |none=>exact wQ h hw s p hr
 |some c=>
  obtain⟨i,hi⟩:=hr;exact P6 h hw hi
theorem z8 (m:dy)(s:Nat)(p:List Γ):∃r,holds m s p r:=by
 by_cases h:∃i f,m i=some f/\nameOf f=(s,p)
 .obtain⟨i,f,hf,e⟩:=h
  refine⟨some f.content,i,?_⟩;obtain⟨fs,fp,fc⟩:=f;simp only[nameOf,af8] at e;rw[hf,e.1,e.2]
 .exact⟨none,λi f hf e=>h ⟨i,f,hf,e⟩⟩
theorem mT.mem (h:mT L n m){f:cH}:f∈lj n m↔∃i,m i=some f:=by
 unfold lj;rw[List.mem_filterMap];exact⟨λ⟨i,_,hf⟩=>⟨i,hf⟩,λ⟨i,hf⟩=>⟨i,af3.2 (h.lt i f hf),hf⟩⟩
theorem mT.nodup (h:mT L n m):((lj n m).map nameOf).Nodup:=by
 unfold lj List.Nodup;rw[List.pairwise_map,List.pairwise_filterMap];refine List.Pairwise.imp ?_ List.pairwise_lt_range;intro i j hij f hf g hg e;have:=h.inj i j f g hf hg e;omega
end
theorem uK (root:List Γ)(M:Nat):∀(f k:Nat),dY root M f k=-1->∀i,k<=i->i<M->i<k+f->da root i≠0
 |0,k,_,i,h1,_,h3=>by omega
 |f+1,k,h,i,h1,h2,h3=>by
  unfold dY at h;rw[χ (by omega)] at h;split at h
  .omega
  .rename_i hk
   by_cases e:i=k
   .subst e
    intro h0;exact hk (by simp[h0])
   .exact uK root M f (k+1) h i (by omega) h2 (by omega)
theorem sJ (root:List Γ)(M:Nat):∀(f k:Nat),dY root M f k≠-1->∃i:Nat,i<M/\dY root M f k=i/\da root i=0
 |0,k,h=>absurd rfl h
 |f+1,k,h=>by
  unfold dY at h⊢
  by_cases h1:k<M
  .rw[χ h1] at h⊢
   by_cases h2:(da root k==0)=true
   .rw[χ h2]
    exact⟨k,h1,rfl,by simpa using h2⟩
   .rw[ζ h2] at h⊢
    exact sJ root M f (k+1) h
  .rw[ζ h1] at h
   exact absurd rfl h
theorem LI {n:Nat}{m:dy}{x:DS}(h:mT x.aJ n m)(hw:x.waiting=[])(hroom:∃i,i<aH n/\m i=none):∃i:Nat,i<aH n/\dQ x n=i/\m i=none:=by
 have hle:=mN n;unfold dQ;rw[pR x hw,h.root];have hne:dY (d6 n m) (aH n) (aH n) 0≠-1:=by
  intro e;obtain⟨i,hi,hm⟩:=hroom;have:=uK _ _ _ _ e i (by omega) hi (by omega);rw[pV n m i,hm] at this;exact this rfl
 obtain⟨i,hi,e,hm⟩:=sJ _ _ _ _ hne;refine⟨i,hi,e,?_⟩;rw[pV n m i] at hm;cases hq:m i with
 |none=>rfl
 |some f=>rw[hq] at hm;simp at hm
end
section
open Go.RowKit Go.Lib Go.Sort
def nV (k:Nat):List Γ:=(ie k).data.toList
def P7:List (List Γ):=(List.range 7).map nV
theorem Fs {p:List Γ}:p∈P7↔∃k,k<7/\p=nV k:=by
 unfold P7;rw[ae0];exact⟨λ⟨k,hk,e⟩=>⟨k,af3.1 hk,e.symm⟩,λ⟨k,hk,e⟩=>⟨k,af3.2 hk,e.symm⟩⟩
theorem nO (k:Nat):aB (nV k)=ie k:=rfl
theorem zI {ps:List (List Γ)}:(ps.mergeSort λx y=>decide (x<=y)).Pairwise λx y=>x<=y:=by
 have h:=List.pairwise_mergeSort (le:=λx y:List Γ=>decide (x<=y)) (λa b c h1 h2=>by simp only[ai1] at*;exact List.le_trans h1 h2)
  (λa b=>by simp only[ag9,ai1];exact List.le_total a b) ps
 exact h.imp λh=>by simpa using h
theorem uU {qs:List (List Γ)}{a:List Γ}(h:a∈compact qs):a∈qs:=by
 unfold compact compactUpTo at h;obtain⟨i,hi,e⟩:=ae0.1 h;have hi':=af3.1 (af9.1 hi).1;rw[getElem!_pos qs.toArray i (by simpa using hi')] at e;rw[<-e];simp
theorem zk {qs:List (List Γ)}(hs:qs.Pairwise λx y=>x<=y):(compact qs).Nodup:=by
 unfold compact compactUpTo List.Nodup;rw[List.pairwise_map];refine(List.pairwise_lt_range.filter _).imp_of_mem ?_;intro i j hi hj hij e;have hi':=af3.1 (af9.1 hi).1;have hj':=af3.1 (af9.1 hj).1;have hk:=(af9.1 hj).2;unfold keeps at hk;rw[ai1] at hk;rcases hk with hk|hk
 .omega
 rw[getElem!_pos qs.toArray i (by simpa using hi'),getElem!_pos qs.toArray j (by simpa using hj')] at e;rw[getElem!_pos qs.toArray (j-1) (by simp;omega),getElem!_pos qs.toArray j (by simpa using hj')] at hk;simp only[List.getElem_toArray] at e hk;rw[List.pairwise_iff_getElem] at hs;have h1:qs[i]<=qs[j-1]:=by
  by_cases hc:i=j-1
  .subst hc;exact List.le_refl _
  .exact hs i (j-1) hi' (by omega) (by omega)
 have h2:qs[j-1]<=qs[j]:=hs (j-1) j (by omega) hj' (by omega);exact hk (List.le_antisymm (e▸h1) h2)
theorem Ke (fs:List cH)(h:∀f∈fs,f.set≠3->f.path∈P7):jw fs<=7:=by
 unfold jw;refine ae3 (pJ _ P7 (zk zI) λa ha=>?_) (ah1 (by rfl));have h1:=uU ha;rw[List.mem_mergeSort] at h1;unfold dI at h1;obtain⟨f,hf,e⟩:=ae0.1 h1;rw[af9] at hf;rw[<-e];exact h f hf.1 (by simpa using hf.2)
def Seven (m:dy):Prop:=∀i f,m i=some f->f.set<=2/\f.path∈P7
section
variable {L:List Γ}{n:Nat}{m:dy}{x:DS}
theorem Seven.files (h7:Seven m)(h:mT L n m):∀f∈lj n m,f.set<=2/\f.path∈P7:=λf hf=>by
 obtain⟨i,hi⟩:=h.mem.1 hf;exact h7 i f hi
theorem oR (h:mT x.aJ n m)(hw:x.waiting=[])(h7:Seven m):x.pending n=false:=by
 have:=wQ h hw 3 [] λi f hf e=>by
  have:=h7 i f hf;unfold nameOf at e;simp only[af8] at e;omega
 unfold DS.pending;rw[show(⟨#[]⟩:Ξ)=aB [] from rfl];rw[show((3:Int))=((3:Nat):Int) from rfl,this];rfl
end
structure dN (S:List Nat)(w w':Θ):Prop where
 os:w'.os=w.os
 size:w.heap.size<=w'.heap.size
 block:∀k,k<w.heap.size->k∉S->w'.heap[k]? =w.heap[k]?
theorem aO.blk {S:List Nat}{w w':Θ}(h:aO S w w'):dN S w w':=⟨h.os,h.size,h.block⟩
theorem dN.refl (S:List Nat)(w:Θ):dN S w w:=⟨rfl,φ _,λ_ _ _=>rfl⟩
theorem dN.tape {S:List Nat}{w w':Θ}(h:dN S w w')(t:Go.Proofs.YtchcmhodnkgojaaGreat.dZ)(d:Nat):dN S w (az w' t d):=⟨h.os,h.size,h.block⟩
theorem dN.trans {S T:List Nat}{w w' w'':Θ}(h:dN S w w')(h':dN T w' w'')(hs:∀i∈T,i∈S\/w.heap.size<=i:=by simp):dN S w w'':=
 ⟨h'.os.trans h.os,ae3 h.size h'.size,λk hk hS=>(h'.block k (ψ hk h.size) λx=>(hs k x).elim hS λq=>by omega).trans (h.block k hk hS)⟩
theorem dN.mono {S T:List Nat}{w w':Θ}(h:dN S w w')(hs:∀i∈S,i∈T\/w.heap.size<=i:=by simp):dN T w w':=⟨h.os,h.size,λk hk hT=>h.block k hk λx=>(hs k x).elim hT λq=>by omega⟩
namespace aG
namespace Sq
theorem rl {E:av.Env}{f:aa9}{k:List Item}{R:Act->Θ->Prop}{a:Act}{wL:Θ}(a':Act)(e:a=a')(h:av.CI E f k R a' wL):av.CI E f k R a wL:=e▸h
def Il (f:Ξ->Option Φ)(wL:Θ)(v:Φ)(w':Θ):Prop:=∃ps:List (List Γ),ps.Pairwise (·<=·)/\ps.Nodup/\(∀l,l∈ps↔f (aB l)≠none)/\dN [] wL w'/\
 ((v= .slice none 0 0/\ps=[])\/∃g cap,v= .slice (some ⟨g,0,none⟩) ps.length cap/\wL.heap.size<=g/\g<w'.heap.size/\Holds encStr w' g 0 ps.toArray)
theorem Km {E:av.Env}{wL:Θ}{bx:Nat}{f:Ξ->Option Φ}{es:Array af5}(h:av.CC E 134 #[ng bx] (KD f wL) wL)(hes:∀ks:List Ξ,ks.Nodup->(∀s,s∈ks↔f s≠none)->ks.length<1000000):
  av.CC E 89 #[ng bx] (Il f wL) wL:=by
 refine av.lq Tryz.func89 rfl ?_;refine av.ep (av.d9 (fu _ rfl (.inl rfl) rfl (av.cJ ?_)));refine av.ep (av.d9 (fu _ rfl (.inr rfl) rfl ?_));refine lp (f2:=134) #[.tmp 4] #[ng bx] (R2:=KD f wL) rfl rfl (by kernel_rfl) (λb w=>by kernel_rfl) (by kernel_rfl) h λv w1 hR hsz=>?_
 refine fu _ rfl (.inl rfl) rfl (av.cJ ?_);refine rl {tmps:=#[ng bx,undef,.slice none 0 0,v,ng bx,v,undef,undef,undef],defers:=[]} (by kernel_rfl) ?_;obtain⟨ks,hn,hmem,hv⟩:=hR;have hlen:=hes ks hn hmem;rcases hv with⟨rfl,rfl,t,d,rfl⟩|⟨cap,rfl,hle,t,d,rfl⟩
 .refine av.eX none ⟨_,Tryz.func89⟩ (λw=>dN [] wL w) (λw t d h=>h.tape t d) ((dN.refl _ _).tape t d) λw hI hs=>?_
  go_wp2_with fail;refine(Tryz.slices_Sort_string_none none 0 w).mono ?_;rintro e w6 ⟨rfl,rfl⟩;go_wp2_with fail;exact⟨w6.tape,w6.drawn,.slice none 0 0,by kernel_rfl,[],.nil,.nil,λl=>by rw[<-hmem];simp,hI,.inl ⟨rfl,rfl⟩⟩
 .obtain⟨qs,hqs⟩:∃qs:List (List Γ),qs=ks.map λk=>k.data.toList:=⟨_,rfl⟩
  have hql:qs.length=ks.length:=by rw[hqs];simp
  have hqv:ks.map Value.string=qs.map encStr:=by
   rw[hqs,List.map_map];refine List.map_congr_left λk _=>?_
   simp[encStr]
  have hqm:∀l,l∈qs↔f (aB l)≠none:=λl=>by
   rw[hqs,ae0,<-hmem];constructor
   .rintro⟨k,hk,rfl⟩
    simpa [aB] using hk
   .intro hl
    exact⟨aB l,hl,by simp[aB]⟩
  have hqn:qs.Nodup:=by
   rw[hqs];refine List.Pairwise.map _ (λa b hab he=>hab ?_) hn;have:a.data=b.data:=Array.ext' he;cases a;cases b;simp_all
  have hlt:qs.length<4611686018427387904:=by omega
  rw[<-hql,hqv];clear hqv hql hlen hqs hmem hn;refine av.eX none ⟨_,Tryz.func89⟩ (λw=>dN [] wL w/\wL.heap.size<w.heap.size/\Holds encStr w wL.heap.size 0 qs.toArray) (λw t d h=>⟨h.1.tape t d,h.2.1,h.2.2⟩) ⟨?_,?_,?_⟩ λw hI hs=>?_
  .exact⟨rfl,by simp[az],λk hk _=>by show(wL.heap.push _)[k]? =_;rw[ac2 hk];exact(ν hk).symm⟩
  .show wL.heap.size<(wL.heap.push _).size
   simp
  .intro j hj
   have hj':j<qs.length:=by simpa using hj
   have hrow:(az {wL with heap:=wL.heap.push (.cells (qs.map encStr++List.replicate (cap-qs.length) (Value.string ⟨#[]⟩)).toArray aG.jR (0,0))} t d).heap[wL.heap.size]? =some (.cells (qs.map encStr++List.replicate (cap-qs.length) (Value.string ⟨#[]⟩)).toArray aG.jR (0,0)):=by
    show(wL.heap.push _)[wL.heap.size]? =_;simp
   refine⟨?_,Lib.frozen_of_heap hrow _⟩;rw[Lib.cell_of_heap hrow,Nat.zero_add];rw[List.getElem?_toArray,List.getElem?_append_left (by simpa using hj'),getElem!_pos qs.toArray j hj];simp[hj']
  obtain⟨hB,hg,hH⟩:=hI;generalize hgg:wL.heap.size=g at*;go_wp2_with fail;refine(Tryz.slices_Sort_string g 0 cap qs w hH hg hlt).mono ?_;rintro e w6 ⟨rfl,m,os,OZ⟩;have hsl:(qs.mergeSort λx y=>decide (x<=y)).length=qs.length:=List.length_mergeSort _;have hH6:Holds encStr w6 g 0 (qs.mergeSort λx y=>decide (x<=y)).toArray:=by
   rw[OZ];exact holds_grow _ _ _ _ _ _ (by rw[size_putRow];exact hg) (holds_putRow _ _ _ _ _ _ (holds_ahead _ _ _ _ _ _ hH) (by simp))
  have f6:aO [g] w w6:=by
   rw[OZ];exact(((pZ w m).mono (T:=[g]) (by simp)).trans (nA encStr _ g 0 _) (λi hi=> .inl hi)).trans (xI _ _)
  have B6:dN [] wL w6:=hB.trans f6.blk (by simp[hgg]);have hg6:g<w6.heap.size:=ψ hg f6.size;have hp:(qs.mergeSort λx y=>decide (x<=y)).Pairwise (·<=·):=zI;have hn6:(qs.mergeSort λx y=>decide (x<=y)).Nodup:=(List.mergeSort_perm _ _).nodup_iff.2 hqn;have hm6:∀l,l∈(qs.mergeSort λx y=>decide (x<=y))↔f (aB l)≠none:=λl=>by rw[List.mem_mergeSort];exact hqm l
  clear OZ f6 hH hB hs;generalize (qs.mergeSort λx y=>decide (x<=y))=rs at*;go_wp2_with fail;exact⟨w6.tape,w6.drawn,.slice (some ⟨g,0,none⟩) qs.length cap,by kernel_rfl,rs,hp,hn6,hm6,B6,.inr ⟨g,cap,by rw[hsl],by rw[hgg];exact φ _,hg6,hH6⟩⟩
end Sq
end aG
end
section
open Go.RowKit Go.Lib
def kM (a b:Option (Bool×Ξ)):Option Nat:=match a,b with
 |none,_=>some 1
 |some _,none=>some 0
 |some x,some y=>if x=y then some 0 else none
section
variable {P:ω}{ops:Array Oper}{Q:Exit->Act->Θ->Prop}{a:Act}{w:Θ}{rest:List Oper}{o:Oper}
theorem GH (hw:Region.wanted o (yielded ops a.tmps)=true)(v:Φ)(w1:Θ)(hr:(execOp a.eval o).run P w= .ok (.value v) w1)(h:wpList P ops Q rest (a.put o.dst v) w1):wpList P ops Q (o::rest) a w:=by
 unfold wpList;rw[χ hw];refine .inl ?_;unfold Oper.wp;rw[hr];exact h
end
theorem IJ (xb yb:Bool)(xs ys:Ξ):kM (some (xb,xs)) (some (yb,ys))=if(xb==yb&&xs==ys)=true then some 0 else none:=by
 have e:((xb==yb&&xs==ys)=true)↔(xb,xs)=(yb,ys):=by rw[ξ,ai0,Go.MapKept.bytes_beq,af8]
 show(if(xb,xs)=(yb,ys) then some 0 else none)=_
 by_cases h:(xb,xs)=(yb,ys)
 .rw[χ h,χ (e.2 h)]
 .rw[ζ h,ζ λq=>h (e.1 q)]
theorem P2 {w:Θ}(b1 b2:Bool)(s1 s2:Ξ):aG.RT (lu.bin .eql aG.TH (aG.hv b1 s1) (aG.hv b2 s2)).sem w (.value (.bool (b1==b2&&s1==s2))) w #[]:=by
 have hg:Tryz.prog.eqGuardType Tryz.prog.depth aG.TH=false:=by kernel_rfl
 refine aG.RT.aS (x:= .bool (b1==b2&&s1==s2)) (aG.RT.aS (x:=()) (w1:=w) ?_ ?_) (.pure _)
 .unfold eqGuard
  simp only[aG.hv];refine aG.gh.aS (aG.gh.aS ?_);rw[hg];exact .pure _
 .exact aG.RT.aS (aG.zO 9998 b1 b2 s1 s2) (.pure _)
section
variable {ops:Array Oper}{Q:Exit->Act->Θ->Prop}{a:Act}{w:Θ}{rest:List Oper}{o:Oper}
theorem Pf (hw:Region.wanted o (yielded ops a.tmps)=true)(x y:Nat)(u:η)(ho:o.op= .binOp .eql aG.TH (.tmp x) (.tmp y) u){b1 b2:Bool}{s1 s2:Ξ}(hx:a.eval (.tmp x)=aG.hv b1 s1)(hy:a.eval (.tmp y)=aG.hv b2 s2)
  (h:wpList Tryz.prog ops Q rest (a.put o.dst (.bool (b1==b2&&s1==s2))) w):wpList Tryz.prog ops Q (o::rest) a w:=by
 refine GH hw _ w ?_ h;have:=(P2 (w:=w) b1 b2 s1 s2).run;unfold execOp;rw[ho];show(do pure (.value (<-(do eqGuard .eql aG.TH (.tmp x) (.tmp y) (a.eval (.tmp x)) (a.eval (.tmp y));binOp .eql aG.TH (a.eval (.tmp x)) (a.eval (.tmp y))))):Sem Next).run _ _=_;rw[hx,hy,pr _ _ _ _ rfl rfl];exact this
theorem BW (hw:Region.wanted o (yielded ops a.tmps)=true)(t:η)(x:aa8)(ho:o.op= .load t x)(b off:Nat)(hx:a.eval x= .pointer (some ⟨b,off,none⟩)){cs:Array Φ}{u:η}{f:Nat×Nat}{n:Nat}(hr:w.heap[b]? =some (.cells cs u f))
  (ha:(Tryz.prog.underlying t).map (λd=>match d with|.struct _|.array _ _=>true|_=>false)=some true) (hn:(Tryz.prog.info? t).map (·.size)=some n) (hle:off+n<=cs.size) (v:Φ) (hv:Value.agg (cs.extract off (off+n))=v)
  (h:wpList Tryz.prog ops Q rest (a.put o.dst v) w):wpList Tryz.prog ops Q (o::rest) a w:=by
 obtain⟨ev,h1,_⟩:=aG.jL hr ha hn hle;rw[hv] at h1;refine GH hw _ w ?_ h;have:=h1.run;unfold execOp;rw[ho];show(do pure (.value (<-Instr.loadAt t (a.eval x))):Sem Next).run _ _=_;rw[hx];exact this
end
theorem EN (a b:Option (Bool×Ξ))(w:Θ):
  Calls Tryz.prog 91 #[.agg (aG.bR a b)] w λe w'=>e= .returned (.tuple #[.int .i64 ((kM a b).getD 0),.bool (kM a b).isSome])/\aO [] w w':=by
 go_enter Tryz.func91,Tryz.ntmps91;go_wp2_with (with_reducible first|refine bC rfl ?_);refine ai.go (fN rfl 164 _ rfl (.agg (aG.bR a b)) rfl ?_);intro w1 b1 l1 f1 r1;have c0:w1.cell? ⟨b1,0,none⟩=some (.bool a.isSome):=by rw[r1.cell];rfl
 have c1:w1.cell? ⟨b1,1,none⟩=some (.bool b.isSome):=by rw[r1.cell];rfl
 cases a with
 |none=>
  simp only[Option.isSome_none] at c0;go_wp2_with (with_reducible first|refine ax 161 rfl ?_|refine dn 161 rfl ?_)
  go_ret2
  exact⟨rfl,f1⟩
 |some x=>
  simp only[Option.isSome_some] at c0;cases b with
  |none=>
   simp only[Option.isSome_none] at c1;go_wp2_with (with_reducible first|refine ax 161 rfl ?_|refine dn 161 rfl ?_)
   go_ret2
   exact⟨rfl,f1⟩
  |some y=>
   simp only[Option.isSome_some] at c1;go_wp2_with (with_reducible first|refine ax 161 rfl ?_|refine dn 161 rfl ?_);obtain⟨xb,xs⟩:=x;obtain⟨yb,ys⟩:=y;refine ai.go (BW rfl 161 _ rfl b1 2 rfl r1 (by kernel_rfl) (n:=2) (by kernel_rfl) (by simp[aG.bR,Value.cells]) (aG.hv xb xs) (by simp[aG.bR,Value.cells,aG.hv]) ?_)
   go_wp2_with (with_reducible first|refine ax 161 rfl ?_|refine dn 161 rfl ?_);refine ai.go (BW rfl 161 _ rfl b1 4 rfl r1 (by kernel_rfl) (n:=2) (by kernel_rfl) (by simp[aG.bR,Value.cells]) (aG.hv yb ys) (by simp[aG.bR,Value.cells,aG.hv]) ?_);go_wp2_with (with_reducible first|refine ax 161 rfl ?_|refine dn 161 rfl ?_)
   refine ai.go (Pf rfl 15 18 _ rfl (b1:=xb) (b2:=yb) (s1:=xs) (s2:=ys) rfl rfl ?_);have hsrc:=IJ xb yb xs ys;cases heq:(xb==yb&&xs==ys) with
   |true=>
    have hs:Hid (kM (some (xb,xs)) (some (yb,ys))=some 0):=by show _=_;rw[hsrc,heq];rfl
    clear hsrc;go_wp2_with (with_reducible first|refine ax 161 rfl ?_|refine dn 161 rfl ?_)
    go_ret2
    exact⟨by rw[hs.out];rfl,f1⟩
   |false=>
    have hs:Hid (kM (some (xb,xs)) (some (yb,ys))=none):=by show _=_;rw[hsrc,heq];rfl
    clear hsrc;go_wp2_with (with_reducible first|refine ax 161 rfl ?_|refine dn 161 rfl ?_)
    go_ret2
    exact⟨by rw[hs.out];rfl,f1⟩
end
section
open Go.RowKit Go.Lib Go.Sort
open Go.Conc (base G stepG_value listed)
namespace aG
namespace Sq
abbrev TN:Nat:=90
def Ub (m:Nat)(wL:Θ)(v:Φ)(w':Θ):Prop:=v=ng wL.heap.size/\∃t d,w'=az {wL with heap:=wL.heap.push (.cells #[.map (some m)] OJ (0,0))} t d
theorem nK {E:av.Env}{f:aa9}{k:List Item}{R:Act->Θ->Prop}{a:Act}{wL w1:Θ}{ops:Array Oper}{i:Nat}{rest:List Nat}{o:Oper}(v:Φ)(ho:ops[i]? =some o)(hg:o.guard=none)(hr:∀t d,(execOp a.eval o).run PP (az wL t d)= .ok (.value v) (az w1 t d))(h:av.CI E f (.inRegion ops rest::k) R (a.put o.dst v) w1)(s9:mj PP S0 E0 true o=true:=by kernel_rfl):av.CI E f (.inRegion ops (i::rest)::k) R a wL:=by
 refine av.TR ho s9 hg λt d=>?_
 rw[hr];exact(av.nL t d).2 h
theorem Eh {E:av.Env}{f:aa9}{k:List Item}{R:Act->Θ->Prop}{a:Act}{wL:Θ}{ops:Array Oper}{i:Nat}{rest:List Nat}{o:Oper}(g j:Nat)(ho:ops[i]? =some o)(hg:o.guard=none)(hop:o.op= .makeFunc (.func g) #[] #[.tmp j])
  (h:av.CI E f (.inRegion ops rest::k) R (a.put o.dst (.func (.func g) #[] #[a.eval (.tmp j)])) wL):av.CI E f (.inRegion ops (i::rest)::k) R a wL:=λCS π M tr hp ha hd hk=>by
 have hwd:∀c:Array Φ,Region.wanted o (yielded ops c)=true:=λc=>by simp[Region.wanted,hg]
 have hkb:(base f).kind≠.early:=by simp[base]
 have hv:VV (gV E.H wL) (a.eval (.tmp j)):=lR (x:= .tmp j) ha rfl;have hr:∀w es,(execOp (aY π a []).eval o).runT PP w es=(.ok (.value (.func (.func g) #[] #[(aY π a []).eval (.tmp j)])) w,es):=λw es=>by
  unfold execOp;rw[hop];show(do pure (.value (<-Instr.makeFunc (.func g) ((#[]:Array aa8).map (aY π a []).eval) ((#[.tmp j]:Array aa8).map (aY π a []).eval))):Sem Next).runT PP w es=_;rw[show(#[]:Array aa8).map (aY π a []).eval=#[] by simp,show(#[.tmp j]:Array aa8).map (aY π a []).eval=#[(aY π a []).eval (.tmp j)] by simp];rfl
 have hl0:∀w,listed PP (base f).fn (aY π a []) o w=#[]:=λw=>by
  unfold listed;rw[show(execOp (aY π a []).eval o).events PP w #[]=#[] from congrArg Prod.snd (hr w #[])];simp[seen]
 refine av.eC hp (λw=>by rw[stepG_value ho (hwd _) hkb (by rw[<-Sem.runT_fst PP _ w #[],hr]),hl0]) λM1 IA hp1=>?_
 have e:(aY π a []).put o.dst (.func (.func g) #[] #[(aY π a []).eval (.tmp j)])=aY π (a.put o.dst (.func (.func g) #[] #[a.eval (.tmp j)])) []:=by
  have h1:=sa (π:=π) a o.dst (.func (.func g) #[] #[a.eval (.tmp j)]);have h2:Value.ren π (.func (.func g) #[] #[a.eval (.tmp j)])= .func (.func g) #[] #[(aY π a []).eval (.tmp j)]:=by
   have h3:(aY π a []).eval (.tmp j)=Value.ren π (a.eval (.tmp j)):=by
    show(a.tmps.map (Value.ren π)).getD j undef=_;rw[jP];rfl
   rw[h3];simp[oU]
  rw[<-h2];exact h1
 rw[e] at hp1;refine h CS π M1 IA hp1 (jo ha λr hr=>?_) ((put_defers _ _ _).trans hd) hk;cases hr with
 |first hx _=>simp at hx
 |Gn hx hh=>
  simp at hx;subst hx;exact hv r hh
theorem Sf {E:av.Env}{wL:Θ}(m:Nat):av.CC E TN #[.map (some m)] (Ub m wL) wL:=by
 refine av.lq Tryz.func90 rfl ?_;refine av.ep (av.d9 (nK (w1:={wL with heap:=wL.heap.push (.cells #[.map (some m)] OJ (0,0))}) (pb wL.heap.size) rfl rfl (λt d=>by kernel_rfl) ?_));refine fu _ rfl (.inl rfl) rfl (av.cJ ?_);refine av.ep (av.d9 (Eh TL 1 rfl rfl rfl ?_))
 refine fu _ rfl (.inl rfl) rfl (av.cJ (av.Gf ?_));exact⟨ng wL.heap.size,by kernel_rfl,rfl,wL.tape,wL.drawn,rfl⟩
end Sq
end aG
def hY (x:DS)(n:Nat)(s:Int):aG.iJ:=aG.jQ (qE s (aM x n)) (qE 2 (aM x n))
def iw (fa fb:aG.iJ)(ps:List (List Γ)):List (List Γ×Nat):=ps.filterMap λl=>(kM (fa (aB l)) (fb (aB l))).map λs=>(l,s)
def jx (fa fb:aG.iJ)(ps:List (List Γ)):List (List Γ):=ps.filter λl=>(kM (fa (aB l)) (fb (aB l))).isNone
def b6 (ss:List (List Γ×Nat)):List Φ:=ss.flatMap λp=>[.string (aB p.1),.int .i64 p.2]
theorem Hx (set:Int)(fs:List cH)(s:Ξ)(h:qE set fs s≠none):∃f∈fs,s=aB f.path:=by
 have key:∀(fs:List cH) (g:Ξ->Option Ξ),fs.foldl (λg f=>if(f.set:Int)=set then λs=>if s=aB f.path then some (aB f.content) else g s else g) g s≠none->(∃f∈fs,s=aB f.path)\/g s≠none:=by
  intro fs
  induction fs with
  |nil=>intro g h;exact .inr h
  |cons f fs ih=>
   intro g h;rcases ih _ h with⟨x,hx,e⟩|h
   .exact .inl ⟨x,by simp[hx],e⟩
   .dsimp only at h
    by_cases hs:(f.set:Int)=set
    .rw[χ hs] at h
     by_cases he:s=aB f.path
     .exact .inl ⟨f,by simp,he⟩
     .rw[ζ he] at h;exact .inr h
    .rw[ζ hs] at h;exact .inr h
 rcases key fs _ h with h|h
 .exact h
 .exact absurd rfl h
theorem RH {x:DS}{n:Nat}{s:Ξ}(h:aG.comb (hY x n 0 s) (hY x n 1 s)≠none):∃f∈aM x n,s=aB f.path:=by
 have one:∀set,hY x n set s≠none->∃f∈aM x n,s=aB f.path:=λset hs=>by
  unfold hY aG.jQ at hs;split at hs
  .exact absurd rfl hs
  .rename_i hne
   by_cases h1:qE set (aM x n) s=none
   .exact Hx 2 _ s λq=>hne (h1.trans q.symm)
   .exact Hx set _ s h1
 by_cases h0:hY x n 0 s=none
 .by_cases h1:hY x n 1 s=none
  .rw[h0,h1] at h;exact absurd rfl h
  .exact one 1 h1
 .exact one 0 h0
theorem few {x:DS}{n:Nat}(ks:List Ξ)(hn:ks.Nodup)(h:∀s∈ks,aG.comb (hY x n 0 s) (hY x n 1 s)≠none):ks.length<=54:=by
 have h54:(aM x n).length<=54:=by unfold aM;rw[ag0];exact eR x n
 have h1:(ks.map λk=>k.data.toList).Nodup:=by
  refine List.Pairwise.map _ (λa b hab he=>hab ?_) hn;have:a.data=b.data:=Array.ext' he;cases a;cases b;simp_all
 have h2:=pJ (ks.map λk=>k.data.toList) ((aM x n).map (·.path)) h1 λa ha=>by
  obtain⟨k,hk,rfl⟩:=ae0.1 ha;obtain⟨f,hf,e⟩:=RH (h k hk);refine ae0.2 ⟨f,hf,?_⟩;rw[e];simp[aB]
 simp at h2;omega
theorem aG.dk.few {es:Array af5}{c:Nat}{f:Ξ->Option Φ}(h:aG.dk es c f):∃ks:List Ξ,ks.Nodup/\ks.length=es.size/\∀s∈ks,f s≠none:=by
 refine⟨es.toList.map λe=>match e.key with|.string s=>s|_=>⟨#[]⟩,?_,by simp,λs hs=>?_⟩
 .have hp:=((Go.MapKept.stamped_iff es c).1 h.stamped).2.2
  refine(List.pairwise_map).2 (hp.imp_of_mem fun {a b} ha hb hab he=>?_);obtain⟨s,hs⟩:=aG.iG (h.keys a ha);obtain⟨s',hs'⟩:=aG.iG (h.keys b hb);rw[hs,hs'] at he hab;simp only at he;subst he
  simp_all
 .obtain⟨e,he,rfl⟩:=ae0.1 hs
  obtain⟨s,hs⟩:=aG.iG (h.keys e he);rw[hs];rw[(h.has s e.val).2 ⟨e,he,hs,rfl⟩];simp
end
section
open Go.RowKit Go.Lib Go.Sort
open Go.Conc (base G)
theorem kH:Elem Tryz.prog 109 168 2 24:=⟨by kernel_rfl,by kernel_rfl,by omega⟩
theorem NZ {a b:Option (Bool×Ξ)}:aG.comb a b≠none↔(a≠none\/b≠none):=by
 unfold aG.comb;cases a<;>cases b<;>simp
theorem World.ownsRow.aih {S:List Nat}{w w':Θ}{base:Nat}{e:η}{size:Nat}{v:Φ}{n:Nat}{xs:List Φ}(h:w.ownsRow base e size v n xs)(f:dN S w w')(hS:∀g,v.ownBlock=some g->g∉S):w'.ownsRow base e size v n xs:=by
 refine⟨h.1,h.2.imp id λ⟨g,cap,cur,e1,e2,e3,e4⟩=>⟨g,cap,cur,e1,e2,?_,e4⟩⟩;rw[f.block g (Ψ.1 e3).1 (hS g (by rw[e1];rfl))];exact e3
theorem Ch (fa fb:aG.iJ)(ps:List (List Γ))(k:Nat)(hk:k<ps.length):iw fa fb (ps.take (k+1))=iw fa fb (ps.take k)++((kM (fa (aB ps[k])) (fb (aB ps[k]))).map λs=>(ps[k],s)).toList:=by
 unfold iw;rw[ac0 hk,List.filterMap_append]
 congr 1
 all_goals (cases h:kM (fa (aB ps[k])) (fb (aB ps[k]))<;>simp[h])
theorem Ed (fa fb:aG.iJ)(ps:List (List Γ))(k:Nat)(hk:k<ps.length):jx fa fb (ps.take (k+1))=jx fa fb (ps.take k)++if(kM (fa (aB ps[k])) (fb (aB ps[k]))).isNone then [ps[k]] else []:=by
 unfold jx;rw[ac0 hk,List.filter_append]
 congr 1
 all_goals (cases h:kM (fa (aB ps[k])) (fb (aB ps[k]))<;>simp[h])
theorem EH (fa fb:aG.iJ)(ps:List (List Γ)):(iw fa fb ps).length<=ps.length:=List.length_filterMap_le _ _
theorem Gb (fa fb:aG.iJ)(ps:List (List Γ)):(jx fa fb ps).length<=ps.length:=List.length_filter_le _ _
theorem m6 (a b:List (List Γ×Nat)):b6 (a++b)=b6 a++b6 b:=by simp[b6]
section
variable {ops:Array Oper}{Q:Exit->Act->Θ->Prop}{a:Act}{w:Θ}{rest:List Oper}{o:Oper}
theorem ub {t:η}{x y:aa8}{b:Bool}(_:o.op= .lookup t x y b)(h:ai (wpList Tryz.prog ops Q (o::rest) a w)):wpList Tryz.prog ops Q (o::rest) a w:=h
theorem Iu (hg:o.guard=none)(t kt vt:η)(x y:aa8)(ho:o.op= .lookup t x y false)(ht:Tryz.prog.underlying t=some (.map kt vt))(hk:Tryz.prog.underlying kt=some .string){z:Φ}(hz:(Tryz.prog.info? vt).bind (·.zero)=some z)
  {m c:Nat} {es:Array af5} {f:Ξ->Option Φ} {s:Ξ} (hx:a.eval x= .map (some m)) (hy:a.eval y= .string s) (hm:w.heap[m]? =some (.map es c)) (hf:aG.dk es c f) (v:Φ) (hv:(f s).getD z=v)
  (h:wpList Tryz.prog ops Q rest (a.put o.dst v) w):wpList Tryz.prog ops Q (o::rest) a w:=by
 refine bN hg v w ?_ h;have:=(aG.pN (t:=t) (s:=s) ht hk hz hm hf).run;rw[hv] at this;unfold execOp;rw[ho];show(do pure (.value (<-Instr.lookup t (a.eval x) (a.eval y) false)):Sem Next).run _ _=_;rw[hx,hy];exact this
end
theorem _root_.Go.World.ownsRow.weak {w:Θ}{base base':Nat}{e:η}{size:Nat}{v:Φ}{n:Nat}{xs:List Φ}(h:w.ownsRow base e size v n xs)(hb:base'<=base):w.ownsRow base' e size v n xs:=
 ⟨h.1,h.2.imp id λ⟨g,cap,cur,e1,e2,e3⟩=>⟨g,cap,cur,e1,ae3 hb e2,e3⟩⟩
def Ud (x:DS)(n:Nat)(wL:Θ)(v:Φ)(w':Θ):Prop:=∃(ps:List (List Γ)) (sv cv:Φ),ps.Pairwise (·<=·)/\ps.Nodup/\(∀l,l∈ps↔aG.comb (hY x n 0 (aB l)) (hY x n 1 (aB l))≠none)/\
 v= .tuple #[sv,cv]/\dN [] wL w'/\w'.ownsRow wL.heap.size 168 2 sv (iw (hY x n 0) (hY x n 1) ps).length (b6 (iw (hY x n 0) (hY x n 1) ps))/\
 w'.ownsRow wL.heap.size 9 1 cv (jx (hY x n 0) (hY x n 1) ps).length (fx (jx (hY x n 0) (hY x n 1) ps))
open aG aG.Sq in
theorem Sg {E:av.Env}{wL:Θ}{d bl n:Nat}{x:DS}(hd:aG.fQ d bl n x wL):av.CC E 55 #[.pointer (some ⟨d,0,none⟩)] (Ud x n wL) wL:=by
 refine av.lq Tryz.func55 rfl ?_;refine av.ep (av.d9 (fu _ rfl (.inl rfl) rfl (fu _ rfl (.inl rfl) rfl (av.cJ ?_))));refine av.ep (av.d9 (fu _ rfl (.inl rfl) rfl (av.cJ ?_)))
 refine av.ep (av.d9 (fu _ rfl (.inl rfl) rfl (av.cJ ?_)));refine av.ep (av.d9 (fu _ rfl (.inr rfl) rfl ?_));refine lp (f2:=88) #[.tmp 11] #[.pointer (some ⟨d,0,none⟩)] (R2:=aeO x n wL) rfl rfl (by kernel_rfl) (λb w=>by kernel_rfl) (by kernel_rfl) (Gk hd) λv w1 hR _=>?_
 obtain⟨es,c,rfl,⟨t1,d1,rfl⟩,hD⟩:=hR;refine(av.nL t1 d1).2 ?_;obtain⟨es',c',f,e0,hm,hf⟩:=hD;cases e0;have hfix:=Ea (a:=hY x n 0) (b:=hY x n 1) (es:=es) (c:=c) ⟨es,c,f,rfl,hm,hf⟩;have hf':∀s,f s=comb (hY x n 0 s) (hY x n 1 s):=hf;obtain⟨w1,hw1⟩:∃w1,w1={wL with heap:=wL.heap.push (.map es c)}:=⟨_,rfl⟩
 rw[<-hw1];have hes:es.size<=54:=by
  obtain⟨ks,k1,k2,k3⟩:=hm.few;rw[<-k2];exact few (x:=x) (n:=n) ks k1 λs hs=>by rw[<-hf'];exact k3 s hs
 have B1:dN [] wL w1:=by
  rw[hw1];exact⟨rfl,by simp,λk hk _=>by show(wL.heap.push _)[k]? =_;rw[ac2 hk];exact(ν hk).symm⟩
 have hM1:w1.heap[wL.heap.size]? =some (.map es c):=by rw[hw1];simp
 have s1:w1.heap.size=wL.heap.size+1:=by rw[hw1];simp
 clear hw1;refine fu _ rfl (.inl rfl) rfl (av.cJ ?_);refine av.ep (av.ep (av.d9 (fu _ rfl (.inr rfl) rfl ?_)));refine lp (f2:=TN) #[.tmp 13] #[.map (some wL.heap.size)] (R2:=Ub wL.heap.size w1) rfl rfl (by kernel_rfl) (λb w=>by kernel_rfl) (by kernel_rfl) (Sf _) λv w2 hR _=>?_
 obtain⟨rfl,t2,d2,rfl⟩:=hR;refine(av.nL t2 d2).2 ?_;obtain⟨w2,hw2⟩:∃w2,w2={w1 with heap:=w1.heap.push (.cells #[.map (some wL.heap.size)] OJ (0,0))}:=⟨_,rfl⟩
 rw[<-hw2];have B2:dN [] w1 w2:=by
  rw[hw2];exact⟨rfl,by simp,λk hk _=>by show(w1.heap.push _)[k]? =_;rw[ac2 hk];exact(ν hk).symm⟩
 have hB2:w2.heap[w1.heap.size]? =some (.cells #[.map (some wL.heap.size)] OJ (0,0)):=by rw[hw2];simp
 have s2:w2.heap.size=w1.heap.size+1:=by rw[hw2];simp
 clear hw2;have hM2:w2.heap[wL.heap.size]? =some (.map es c):=(B2.block _ (by omega) (by simp)).trans hM1;refine lp (f2:=89) #[.tmp 14] #[ng w1.heap.size] (R2:=Il f w2) rfl rfl (by kernel_rfl) (λb w=>by kernel_rfl) (by kernel_rfl)
  (Km (es:=es) (Gl (Zh hB2 hM2 hm hfix (by omega))) λks k1 k2=>Nat.lt_of_le_of_lt (few (x:=x) (n:=n) ks k1 λs hs=>by rw[<-hf'];exact(k2 s).1 hs) (by omega)) λv w3 hR _=>?_
 obtain⟨ps,hs,hn,hmem,B3,hv⟩:=hR;have X1:w3.heap[wL.heap.size]? =some (.map es c):=(B3.block _ (by omega) (by simp)).trans hM2;have BL:dN [] wL w3:=(B1.trans B2).trans B3;obtain⟨ad,cap,rfl,hcell⟩:∃ad cap,v= .slice ad ps.length cap/\(0<ps.length->∃g,ad=some ⟨g,0,none⟩/\g<w3.heap.size/\Holds encStr w3 g 0 ps.toArray):=by
  rcases hv with⟨rfl,rfl⟩|⟨g,cap,rfl,_,h2,h3⟩
  .exact⟨none,0,rfl,λh=>absurd h (by simp)⟩
  .exact⟨_,cap,rfl,λ_=>⟨g,rfl,h2,h3⟩⟩
 have hpl:ps.length<=54:=by
  have:=few (x:=x) (n:=n) (ps.map aB) (List.Pairwise.map _ (λa b hab he=>hab (by simpa [aB] using he)) hn) λs hs=>by
   obtain⟨l,hl,rfl⟩:=ae0.1 hs;rw[<-hf'];exact(hmem l).1 hl
  simpa using this
 clear hv B1 B2 B3 hM1 hM2 hB2;refine nK (w1:=w3) (.int .i64 ps.length) rfl rfl (λt d=>by kernel_rfl) ?_;refine fu _ rfl (.inr rfl) rfl (av.cJ ?_)
 refine rl {tmps:=#[.pointer (some ⟨d,0,none⟩),undef,.slice none 0 0,.slice none 0 0,.slice none 0 0,.slice none 0 0,.map (some wL.heap.size),undef,undef,undef,undef,.pointer (some ⟨d,0,none⟩),.map (some wL.heap.size),.map (some wL.heap.size),ng w1.heap.size,.slice ad ps.length cap,.int .i64 ps.length,.int .i64 0,undef,undef,undef,undef,undef,undef,undef,undef,undef,undef,undef,undef,undef,undef,undef,undef,undef,undef,undef,undef,undef,undef,undef,undef],defers:=[]} (by kernel_rfl) ?_
 generalize hmm:wL.heap.size=m at*;generalize w1.heap.size=qb at*;refine av.eX none ⟨_,Tryz.func55⟩ (λw=>dN [] wL w/\w.heap[m]? =some (.map es c)/\(0<ps.length->∃g,ad=some ⟨g,0,none⟩/\g<w.heap.size/\Holds encStr w g 0 ps.toArray)) (λw t d h=>⟨h.1.tape t d,h.2.1,h.2.2⟩) ⟨BL,X1,hcell⟩ λw hI hsz=>?_
 obtain⟨hB,hM,hC⟩:=hI;clear BL X1 hcell hsz;go_wp2_with fail
 go_loopw [4,5,17] (λu4 u5 u17 wr=>∃k:Nat,u17= .int .i64 k/\k<=ps.length/\aO [] w wr/\wr.ownsRow w.heap.size 168 2 u4 (iw (hY x n 0) (hY x n 1) (ps.take k)).length (b6 (iw (hY x n 0) (hY x n 1) (ps.take k)))/\
  wr.ownsRow w.heap.size 9 1 u5 (jx (hY x n 0) (hY x n 1) (ps.take k)).length (fx (jx (hY x n 0) (hY x n 1) (ps.take k)))/\∀g,u4.ownBlock=some g->u5.ownBlock=some g->False) (λ_ _ u17 _=>ps.length-(intOf u17).toNat)
 case atStart=>exact⟨0,rfl,by omega,aO.refl _ _,World.ownsRow_nil _ _ _ _,World.ownsRow_nil _ _ _ _,λg h=>by cases h⟩
 case round=>
  obtain⟨k,rfl,hk,fk,ho1,ho2,JM⟩:=hrel
  by_cases hlt:k<ps.length
  .obtain⟨g,rfl,hg,hH⟩:=hC (by omega)
   have hc1:wr.cell? ⟨g,k,none⟩=some (.string (aB ps[k])):=by
    have h1:=(hH k (by simpa using hlt)).1;rw[getElem!_pos ps.toArray k (by simpa using hlt)] at h1;have h2:wr.heap[g]? =w.heap[g]? :=fk.block g hg (by simp);unfold World.cell? at h1⊢;simp only[Nat.zero_add] at h1;rw[h2];simpa [encStr,aB] using h1
   have hM':wr.heap[m]? =some (.map es c):=(fk.block m (Ψ.1 hM).1 (by simp)).trans hM;have hs1:=Ch (hY x n 0) (hY x n 1) ps k hlt;have hs2:=Ed (hY x n 0) (hY x n 1) ps k hlt;have hl1:(iw (hY x n 0) (hY x n 1) (ps.take k)).length<=54:=by have:=EH (hY x n 0) (hY x n 1) (ps.take k);rw[ae1] at this;omega
   have hl2:(jx (hY x n 0) (hY x n 1) (ps.take k)).length<=54:=by have:=Gb (hY x n 0) (hY x n 1) (ps.take k);rw[ae1] at this;omega
   generalize ps[k]=p at*;have hfp:(f (aB p)).getD zF= .agg (aG.bR (hY x n 0 (aB p)) (hY x n 1 (aB p))):=by rw[hf',x9]
   go_wp2_with (with_reducible first|refine ub rfl ?_);refine ai.go (Iu rfl 153 9 164 _ _ rfl K2 K3 KQ rfl rfl hM' hm _ hfp ?_);clear hfp hM' hc1;have HS1:Hid (iw (hY x n 0) (hY x n 1) (ps.take (k+1))=iw (hY x n 0) (hY x n 1) (ps.take k)++((kM (hY x n 0 (aB p)) (hY x n 1 (aB p))).map λs=>(p,s)).toList):=hs1
   have HS2:Hid (jx (hY x n 0) (hY x n 1) (ps.take (k+1))=jx (hY x n 0) (hY x n 1) (ps.take k)++if(kM (hY x n 0 (aB p)) (hY x n 1 (aB p))).isNone then [p] else []):=hs2;clear hs1 hs2;generalize hY x n 0 (aB p)=fa at HS1 HS2⊢;generalize hY x n 1 (aB p)=fb at HS1 HS2⊢;go_wp2_with (with_reducible first|refine ub rfl ?_);refine(EN fa fb wr).mono ?_
   rintro e w4 ⟨rfl,f4⟩;have TF:=fk.trans f4;have Q9:=f4.owns ho1;have Q8:=f4.owns ho2;cases hsrc:kM fa fb with
   |some sd=>
    rw[hsrc] at HS1 HS2;simp only[Option.getD_some,Option.isSome_some];go_wp2_with (with_reducible first|refine bE 168 rfl ?_|refine bq rfl ?_|refine br rfl ?_);refine ai.go (bN rfl (.agg #[.string (aB p),.int .i64 sd]) w4 (by kernel_rfl) ?_);go_wp2_with (with_reducible first|refine bq rfl ?_|refine br rfl ?_)
    refine ai.go (fj rfl 109 168 2 24 kH _ rfl (.agg #[.string (aB p),.int .i64 sd]) rfl rfl ?_);intro w8 b8 l8 f8 r8;go_wp2_with (with_reducible first|refine bq rfl ?_|refine br rfl ?_);have qX:=f8.owns Q9;have FJ:=f8.owns Q8;have FS:=TF.trans f8;have hbase:w.heap.size<=w8.heap.size:=FS.size
    refine ai.go (fK rfl 109 168 2 24 kH _ _ rfl w.heap.size u4 _ _ rfl qX b8 1 1 [.string (aB p),.int .i64 sd] rfl _ _ r8 rfl rfl (by simp[Value.oneCell']) (by omega) (by omega) (by omega) hbase ?_);intro g' cap' w9 BP f9 hg';have JQ:=FS.trans f9 (by intro j hj;right;simp at hj;exact(qX.lt j hj).1)
    have ahH:=f9.owns FJ (by intro q hq hq';simp at hq;exact JM q hq hq');have MW:∀q,g'=q->u5.ownBlock=some q->False:=λq e hq=>by
     subst e;rcases hg' with h|h
     .exact JM g' h hq
     .have:=(FJ.lt g' hq).2;omega
    clear ho1 ho2 Q9 Q8 qX FJ r8 f8 f9 l8 fk TF FS f4 hbase JM hg';go_wp2_with fail
    go_roundw
    case rel=>
     refine⟨k+1,by go_num,by omega,JQ,?_,?_,λq h=>MW q (by simpa [Value.ownBlock] using h)⟩
     .rw[HS1.out,m6]
      simpa [b6] using BP
     .rw[HS2.out]
      simpa using ahH
    case measure=>simp[intOf];omega
   |none=>
    rw[hsrc] at HS1 HS2;simp only[Option.getD_none,Option.isSome_none];go_wp2_with (with_reducible first|refine bE 168 rfl ?_|refine bq rfl ?_|refine br rfl ?_);refine ai.go (fj rfl 45 9 1 16 iH _ rfl (.string (aB p)) rfl rfl ?_);intro w8 b8 l8 f8 r8;go_wp2_with (with_reducible first|refine bq rfl ?_|refine br rfl ?_)
    have qX:=f8.owns Q9;have FJ:=f8.owns Q8;have FS:=TF.trans f8;have hbase:w.heap.size<=w8.heap.size:=FS.size;refine ai.go (fK rfl 45 9 1 16 iH _ _ rfl w.heap.size u5 _ _ rfl FJ b8 1 1 [.string (aB p)] rfl _ _ r8 rfl rfl (by simp[Value.oneCell']) (by omega) (by omega) (by omega) hbase ?_);intro g' cap' w9 BP f9 hg'
    have JQ:=FS.trans f9 (by intro j hj;right;simp at hj;exact(FJ.lt j hj).1);have ahI:=f9.owns qX (by intro q hq hq';simp at hq;exact JM q hq' hq);have MW:∀q,u4.ownBlock=some q->g'=q->False:=λq hq e=>by
     subst e;rcases hg' with h|h
     .exact JM g' hq h
     .have:=(qX.lt g' hq).2;omega
    clear ho1 ho2 Q9 Q8 qX FJ r8 f8 f9 l8 fk TF FS f4 hbase JM hg';go_wp2_with fail
    go_roundw
    case rel=>
     refine⟨k+1,by go_num,by omega,JQ,?_,?_,λq h h'=>MW q h (by simpa [Value.ownBlock] using h')⟩
     .rw[HS1.out]
      simpa using ahI
     .rw[HS2.out]
      simpa [fx,encStr,aB] using BP
    case measure=>simp[intOf];omega
  .have hk2:k=ps.length:=by omega
   subst hk2;rw[θ (φ _)] at ho1 ho2;have hbw:m<=w.heap.size:=by have:=hB.size;omega
   go_wp2_with fail;refine av.ep (av.d9 (fu _ rfl (.inr rfl) rfl (fu _ rfl (.inr rfl) rfl (fu _ rfl (.inl rfl) rfl (fu _ rfl (.inl rfl) rfl (av.cJ (av.Gf ?_)))))));refine⟨.tuple #[u4,u5],by kernel_rfl,ps,u4,u5,hs,hn,λl=>by rw[<-hf'];exact hmem l,rfl,hB.trans fk.blk,?_,?_⟩
   .rw[hmm];exact ho1.weak hbw
   .rw[hmm];exact ho2.weak hbw
end
section
open Go.RowKit Go.Lib
theorem xz:∃i,Tryz.prog.info? 5=some i/\i.size=1/\i.bytes=1/\i.zero=some (.int .u8 0):=by
 have:=tM;cases hi:Tryz.prog.info? 5 with
 |none=>simp[hi] at this
 |some i=>simp only[hi,ε,ae9,af8] at this;exact⟨i,rfl,this⟩
def yD (b:Nat)(w w':Θ):Prop:=∀k o,w.heap[k]? =some o->k≠b->(∀c f,o≠.cells c 5 f)->w'.heap[k]? =some o
theorem yD.refl (b:Nat)(w:Θ):yD b w w:=λ_ _ h _ _=>h
theorem yD.trans {b:Nat}{w w' w'':Θ}(h:yD b w w')(h':yD b w' w''):yD b w w'':=λk o h1 h2 h3=>h' k o (h k o h1 h2 h3) h2 h3
theorem yD.cell {b off:Nat}{w:Θ}(v:Φ):yD b w (w.setCell ⟨b,off,none⟩ v):=λk o h1 h2 _=>by rw[(Go.Conc.aside_setCell w ⟨b,off,none⟩ v).block k h2];exact h1
theorem yD.xJ {b:Nat}{w w':Θ}(h:aO [] w w'):yD b w w':=λk o h1 _ _=>by rw[h.block k (Ψ.1 h1).1 (by simp)];exact h1
theorem yD.grown {b B n:Nat}{w w':Θ}{v:Φ}{xs:List Φ}(ho:w.ownsRow B 5 1 v n xs)(h:w.grownBy w' v.ownBlock):yD b w w':=λk o h1 _ h3=>by
 rw[h.block k (Ψ.1 h1).1 λe=>?_]
 .exact h1
 .rcases ho.2 with⟨rfl,_⟩|⟨g,cap,cur,rfl,_,hg,_⟩
  .cases e
  .have:g=k:=by simpa [Value.ownBlock] using e.symm
   subst this;rw[hg] at h1;exact h3 _ _ (ae7 h1).symm
theorem uT (B b:Nat)(bs:List Φ)(w:Θ)(h:IsBuilder 146 5 B b bs w):
  Calls Tryz.prog 129 #[.pointer (some ⟨b,0,none⟩)] w λe w'=>e= .returned (.tuple #[])/\BuilderAt 146 5 B b (.pointer (some ⟨b,0,none⟩)) bs w'/\Below B w w'/\yD b w w':=by
 rcases h with h|h
 .refine(oa b w h.cell0 h.shape h.frozen0).mono ?_
  rintro e w' ⟨rfl,rfl⟩;exact⟨rfl,h.used _,(Below.refl B w).setCell (p:=⟨b,0,none⟩) h.1 _,yD.cell _⟩
 .refine(pA b w h.cell0).mono ?_
  rintro e w' ⟨rfl,rfl⟩;exact⟨rfl,h,Below.refl B _,yD.refl _ _⟩
theorem J8:Elem Tryz.prog 85 5 1 1:=⟨pI,by kernel_rfl,by omega⟩
theorem Iw (B b:Nat)(bs:List Φ)(c:Int)(w:Θ)(h:IsBuilder 146 5 B b bs w)(hlen:bs.length+1<=1000000)(hBw:B<=w.heap.size):
  Calls Tryz.prog 179 #[.pointer (some ⟨b,0,none⟩),.int .u8 c] w λe w'=>e= .returned .nilIface/\BuilderAt 146 5 B b (.pointer (some ⟨b,0,none⟩)) (bs++[.int .u8 c]) w'/\Below B w w'/\yD b w w':=by
 obtain⟨i0,hi,hz⟩:=xz;go_enter Tryz.func179,Tryz.ntmps179;go_wp2_with fail;refine(uT B b bs w h).mono ?_;rintro e w1 ⟨rfl,h1',hb1,ot1⟩;obtain⟨hB,v,hbk,hown,hne⟩:=h1';have c0:w1.cell? ⟨b,0,none⟩=some (.pointer (some ⟨b,0,none⟩)):=by rw[Lib.cell_of_heap hbk];rfl
 have c1:w1.cell? ⟨b,1,none⟩=some v:=by rw[Lib.cell_of_heap hbk];rfl
 have hlt:b<w1.heap.size:=(Ψ.1 hbk).1;go_wp2_with (with_reducible first|refine bq rfl ?_|refine br rfl ?_);refine ai.go (fj rfl 85 5 1 1 J8 _ rfl (.int .u8 c) rfl rfl ?_);intro w2 b2 l2 f2 r2;have hown2:=f2.owns hown
 have hbk2:w2.heap[b]? =some (.cells #[.pointer (some ⟨b,0,none⟩),v] 146 (0,0)):=by rw[f2.block b hlt (by simp)];exact hbk
 have hsz:=hb1.size;have hsz2:=f2.size;have hcell2:∀j u,[Value.int .u8 c][j]? =some u->w2.cell? ((⟨b2,0,none⟩:Addr).add j)=some u:=λj u hj=>by
  rw[Addr.add_mid,r2.cell];simpa [Value.cells] using hj
 clear c0 c1;go_wp2_with (at_builtin;refine wpList_append_own _ rfl _ _ 85 rfl B 5 i0 (.int .u8 0) 1 1 pI hi hz.2.2 hz.1 hz.2.1 rfl (by decide) _ _ _ rfl hown2 ⟨b2,0,none⟩ 1 1 [.int .u8 c] rfl rfl hcell2 (by simp[Value.oneCell']) ?c3 ?c4 ?c5 ?_)
 case c3=>unfold maxLen;omega
 case c4=>omega
 case c5=>omega
 intro v' w3 hown' hgrow _;have hb3:w3.heap[b]? =some (.cells #[.pointer (some ⟨b,0,none⟩),v] 146 (0,0)):=by
  rw[hgrow.block b (by omega) (λe=>hne e.symm)];exact hbk2
 have d0:w3.cell? ⟨b,0,none⟩=some (.pointer (some ⟨b,0,none⟩)):=by rw[Lib.cell_of_heap hb3];rfl
 have d1:w3.cell? ⟨b,1,none⟩=some v:=by rw[Lib.cell_of_heap hb3];rfl
 have f1:w3.frozen? ⟨b,1,none⟩=false:=Lib.frozen_of_heap hb3 1;obtain⟨ao,n',cap,rfl⟩:∃ao n' cap,v'= .slice ao n' cap:=by
  rcases hown'.2 with⟨hv,_⟩|⟨g,cap,cur,hv,_⟩
  .exact⟨_,_,_,hv⟩
  .exact⟨_,_,_,hv⟩
 have hB2:Below B w w2:=⟨f2.os.trans hb1.os,f2.tape.trans hb1.tape,f2.output.trans hb1.output,by omega,λk hk=>by rw[f2.block k (by have:=hb1.size;omega) (by simp)];exact hb1.block k hk⟩
 go_wp2_with fail;go_ret;refine⟨rfl,?_,?_,((ot1.trans (yD.xJ f2)).trans (yD.grown hown2 hgrow)).trans (yD.cell _)⟩
 .exact Lib.BuilderAt.put (T:=146) (e:=5) hB hb3 (bs':=bs++[.int .u8 c]) (by simpa using hown') (by decide)
 .exact(hB2.grown hgrow (by omega) (λk hk=>(hown.lt k hk).1)).setCell (p:=⟨b,1,none⟩) hB _
theorem BT (B b:Nat)(bs:List Φ)(s:Ξ)(w:Θ)(h:IsBuilder 146 5 B b bs w)(hlen:bs.length+s.size<=1000000)(hBw:B<=w.heap.size):
  Calls Tryz.prog 153 #[.pointer (some ⟨b,0,none⟩),.string s] w λe w'=>e= .returned (.tuple #[.int .i64 s.size,.nilIface])/\BuilderAt 146 5 B b (.pointer (some ⟨b,0,none⟩)) (bs++strCells s) w'/\Below B w w'/\yD b w w':=by
 obtain⟨i0,hi,hz⟩:=xz;go_enter Tryz.func153,Tryz.ntmps153;go_wp2_with fail;refine(uT B b bs w h).mono ?_;rintro e w1 ⟨rfl,h1',hb1,ot1⟩;obtain⟨hB,v,hbk,hown,hne⟩:=h1';have c0:w1.cell? ⟨b,0,none⟩=some (.pointer (some ⟨b,0,none⟩)):=by rw[Lib.cell_of_heap hbk];rfl
 have c1:w1.cell? ⟨b,1,none⟩=some v:=by rw[Lib.cell_of_heap hbk];rfl
 have hlt:b<w1.heap.size:=(Ψ.1 hbk).1;have hsz:=hb1.size;go_wp2_with (at_builtin;refine Lib.wpList_append_own_string _ rfl _ _ 85 9 rfl B 5 i0 pI Tryz.underlying9 hi hz.2.2 hz.1 hz.2.1 _ _ _ rfl hown s rfl ?c3 ?c4 ?c5 ?_)
 case c3=>unfold maxLen;omega
 case c4=>omega
 case c5=>omega
 intro v' w3 hown' hgrow _;have hb3:w3.heap[b]? =some (.cells #[.pointer (some ⟨b,0,none⟩),v] 146 (0,0)):=by
  rw[hgrow.block b (by omega) (λe=>hne e.symm)];exact hbk
 have d0:w3.cell? ⟨b,0,none⟩=some (.pointer (some ⟨b,0,none⟩)):=by rw[Lib.cell_of_heap hb3];rfl
 have d1:w3.cell? ⟨b,1,none⟩=some v:=by rw[Lib.cell_of_heap hb3];rfl
 have f1:w3.frozen? ⟨b,1,none⟩=false:=Lib.frozen_of_heap hb3 1;obtain⟨ao,n',cap,rfl⟩:∃ao n' cap,v'= .slice ao n' cap:=by
  rcases hown'.2 with⟨hv,_⟩|⟨g,cap,cur,hv,_⟩
  .exact⟨_,_,_,hv⟩
  .exact⟨_,_,_,hv⟩
 clear c0 c1;go_wp2_with fail
 go_ret2
 refine⟨rfl,?_,?_,(ot1.trans (yD.grown hown hgrow)).trans (yD.cell _)⟩
 .exact Lib.BuilderAt.put (T:=146) (e:=5) hB hb3 (bs':=bs++strCells s) (by rw[af1,strCells_length];exact hown') (by decide)
 .exact(hb1.grown hgrow (by omega) (λk hk=>(hown.lt k hk).1)).setCell (p:=⟨b,1,none⟩) hB _
def cy (ss:List (List Γ×Nat)):List Γ:=ss.flatMap λp=>(if p.2=0 then 76 else 82)::p.1
theorem D5 (a b:List (List Γ×Nat)):cy (a++b)=cy a++cy b:=by simp[cy]
theorem oz (l:List (List Γ×Nat))(k:Nat)(hk:k<l.length):((b6 l).drop (k*2)).take 2=[.string (aB l[k].1),.int .i64 l[k].2]:=by
 have h:∀(l:List (List Γ×Nat)) (k:Nat),(b6 l).drop (k*2)=b6 (l.drop k):=by
  intro l
  induction l with
  |nil=>intro k;simp[b6]
  |cons f r ih=>
   intro k;cases k with
   |zero=>simp
   |succ k=>
    have:=ih k;have e:b6 (f::r)=[.string (aB f.1),.int .i64 f.2]++b6 r:=rfl;rw[e,show(k+1)*2=2+k*2 by omega,<-List.drop_drop];simpa using this
 rw[h,ae5 hk];rfl
theorem row_step:(Tryz.prog.underlying 168).map TypeDesc.isRow=some true:=by kernel_rfl
theorem pX:(Tryz.prog.info? 168).map (·.size)=some 2:=by kernel_rfl
theorem zv:(Tryz.prog.info? 168).map (·.zero)=some (some (.agg #[.string ⟨#[]⟩,.int .i64 0])):=by kernel_rfl
theorem wi (l:List Γ):strCells (aB l)=byteCells l:=by
 unfold strCells aB byteCells;simp
theorem Dy (base:Nat)(v:Φ)(ss:List (List Γ×Nat))(w:Θ)(hv:w.ownsRow base 168 2 v ss.length (b6 ss))(hl:ss.length<=54)(hp:∀p∈ss,p.1.length<=8/\p.2<=1):
  Calls Tryz.prog 138 #[v] w λe w'=>e= .returned (.string (aB (cy ss)))/\aO [] w w':=by
 obtain⟨ad,cap,hv'⟩:=bM hv;subst hv';have hel:∀k,k<=ss.length->(cy (ss.take k)).length<=9*k:=by
  intro k
  induction k with
  |zero=>intro _;simp[cy]
  |succ k ih=>
   intro hk;rw[ac0 (by omega),D5,af1];have h1:=ih (by omega);have h2:=(hp ss[k] (af4 (by omega))).1;have h3:(cy [ss[k]]).length=1+ss[k].1.length:=by simp[cy];omega
   omega
 go_enter Tryz.func138,Tryz.ntmps138;go_wp2_with (with_reducible first|refine ay rfl ?_);refine ai.go (bh rfl 146 rfl _ rz ?_);intro w1 b3 l3 f1 r3;have hB0:IsBuilder 146 5 w.heap.size b3 (byteCells (cy (ss.take 0))) w1:=
  .inl ⟨l3,.slice none 0 0,r3,by simpa [byteCells,cy] using World.ownsRow_nil _ _ _ _,by simp[Value.ownBlock]⟩
 go_wp2_with fail;clear r3
 go_loopw [8] (λc wr=>∃k:Nat,c= .int .i64 k/\k<=ss.length/\aO [] w wr/\IsBuilder 146 5 w.heap.size b3 (byteCells (cy (ss.take k))) wr) (λc _=>ss.length-(intOf c).toNat)
 case atStart=>exact⟨0,rfl,by omega,f1,hB0⟩
 case round=>
  obtain⟨k,rfl,hk,fk,hb⟩:=hrel;clear f1 hB0
  by_cases hlt:k<ss.length
  .have hvk:=fk.owns hv
   obtain⟨g,cur,rfl,hg,hle,_,hcs,htk⟩:=dL hvk;have hat:((cur.toList.drop (k*2)).take 2)=[.string (aB ss[k].1),.int .i64 ss[k].2]:=by
    rw[bX htk _ _,oz ss k hlt]
   have hpk:=hp ss[k] (af4 hlt);have hek:=hel k hk;have HX:Hid (cy (ss.take (k+1))=cy (ss.take k)++((if ss[k].2=0 then 76 else 82)::ss[k].1)):=by
    show _=_;rw[ac0 hlt,D5];simp[cy]
   generalize ss[k]=p at*;obtain⟨p1,p2⟩:=p;simp only at hat hpk HX;generalize cy (ss.take k)=pre at*;clear hcs htk hvk;go_wp2_with (with_reducible first|refine ay rfl ?_|refine ax 168 rfl ?_|refine ah 168 rfl ?_);refine ai.go (bV rfl 168 _ rfl g (k*2) rfl row_step 2 pX _ _ hg _ hat rfl ?_);clear hat hg
   go_wp2_with (with_reducible first|refine ay rfl ?_|refine ah 168 rfl ?_);refine ai.go (bh rfl 168 rfl _ zv ?_);intro w4 b5 l5 f4 r5;go_wp2_with (with_reducible first|refine ay rfl ?_|refine ah 168 rfl ?_);refine ai.go (bP rfl 168 _ _ rfl _ 0 rfl _ rfl 2 pX ?_ ?_ _ _ r5 ?_ ?_)
   .rfl
   .simp[Value.oneCell']
   .decide
   intro w5 f5 q5;rw[bG _ _ (by rfl)] at q5;have kE:Row w5 b5 #[.string (aB p1),.int .i64 p2] 168:=q5;have jT:aO [] wr w5:=f4.trans f5 (by simpa using l5);have po:=fk.trans jT;have hb5:=Hg hb jT;have c0:w5.cell? ⟨b5,0,none⟩=some (.string (aB p1)):=by rw[kE.cell];rfl
   have hne:b5≠b3:=by
    have:b3<wr.heap.size:=by
     rcases hb with hb|hb<;>exact hb.lt
    omega
   have hlen1:(byteCells pre).length+1<=1000000:=by rw[af];omega
   clear q5 r5 f4 f5 jT fk hb;have hs8:(aB p1).size<=8:=by simpa [aB,ByteArray.size] using hpk.1
   obtain⟨cb,hcb,HX2⟩:∃cb:Γ,Hid (cb=if p2=0 then 76 else 82)/\Hid (cy (ss.take (k+1))=pre++[cb]++p1):=⟨_,rfl,by show _=_;rw[HX.out];rcases(by omega:p2=0\/p2=1) with rfl|rfl<;>simp⟩
   clear HX;rcases(by omega:p2=0\/p2=1) with rfl|rfl
   all_goals
    have c1:=kE.cell 1;simp at c1;go_wp2_with fail;refine(Iw w.heap.size b3 _ _ w5 hb5 hlen1 po.size).mono ?_;rintro e w6 ⟨rfl,hb6,Ss,ot6⟩;have qZ:=kG po Ss;have Rg:IsBuilder 146 5 w.heap.size b3 (byteCells (pre++[cb])) w6:=by
     rw[byteCells_append,hcb.out];exact .inr hb6
    have q6:Row w6 b5 _ 168:=ot6 b5 _ kE hne (by simp);have d0:w6.cell? ⟨b5,0,none⟩=some (.string (aB p1)):=by rw[q6.cell];rfl
    have Hp:(byteCells (pre++[cb])).length+(aB p1).size<=1000000:=by rw[af,af1,List.length_singleton];omega
    clear hb6 Ss ot6 hb5 kE q6 po c0 c1 hlen1;go_wp2_with fail;refine(BT w.heap.size b3 _ _ w6 Rg Hp qZ.size).mono ?_;rintro e w7 ⟨rfl,hb7,bl7,_⟩;have yA:=kG qZ bl7;have ahU:IsBuilder 146 5 w.heap.size b3 (byteCells (cy (ss.take (k+1)))) w7:=by
     rw[HX2.out,byteCells_append,<-wi p1];exact .inr hb7
    clear hb7 bl7 Rg qZ d0 Hp;go_wp2_with fail
    go_roundw
    case rel=>exact⟨k+1,by go_num,by omega,yA,ahU⟩
    case measure=>simp[intOf];omega
  .obtain rfl:k=ss.length:=by omega
   rw[θ (by omega)] at hb;go_wp2_with fail;refine(Tryz.Builder_String_any w.heap.size b3 (cy ss) wr hb fk.size).mono ?_;rintro e w6 ⟨rfl,Ss⟩;have qZ:=kG fk Ss;go_wp2_with fail;go_ret;exact⟨rfl,qZ⟩
def hvD (o:Option (List Γ)):Φ:=aG.hv o.isSome (aB (o.getD []))
def hcells (o:Option (List Γ)):Array Φ:=#[.bool o.isSome,.string (aB (o.getD []))]
theorem rX:(Tryz.prog.underlying 161).map TypeDesc.isRow=some true:=by kernel_rfl
theorem jv:(Tryz.prog.info? 161).map (·.size)=some 2:=by kernel_rfl
theorem ta:(Tryz.prog.info? 161).map (·.zero)=some (some (.agg #[.bool false,.string ⟨#[]⟩])):=by kernel_rfl
theorem z5 (d bl n:Nat)(vw:Φ)(x:DS)(s:Int)(p:Ξ)(w:Θ)(h:bv w d bl n vw x):
  Calls Tryz.prog 142 #[.pointer (some ⟨d,0,none⟩),.agg (cZ s p)] w λe w'=>e= .returned (hvD (x.content n s p))/\aO [] w w':=by
 go_enter Tryz.func142,Tryz.ntmps142;go_wp2_with (with_reducible first|refine bC rfl ?_|refine ay rfl ?_|refine ax 103 rfl ?_);refine ai.go (fN rfl 103 _ rfl (.agg (cZ s p)) rfl ?_);intro w1 b3 l3 f1 r3;have h1:=h.new f1;go_wp2_with (with_reducible first|refine ay rfl ?_|refine ax 103 rfl ?_)
 refine ai.go (bh rfl 161 rfl _ ta ?_);intro w2 b4 l4 f2 r4;have h2:=h1.new f2;have r32:Row w2 b3 (cZ s p) 103:=by unfold Row;rw[f2.block b3 (Ψ.1 r3).1 (by simp)];exact r3
 go_wp2_with (with_reducible first|refine ax 103 rfl ?_);refine ai.go (bV rfl 103 _ rfl b3 0 rfl ee 2 dh _ _ r32 [.int .i64 s,.string p] rfl rfl ?_);go_wp2_with fail;refine(mS d bl n vw x s p w2 h2).mono ?_;rintro e w3 ⟨rfl,f3⟩
 have r43:Row w3 b4 #[.bool false,.string ⟨#[]⟩] 161:=by unfold Row;rw[f3.block b4 (Ψ.1 r4).1 (by simp)];exact r4
 have vp:=(f1.trans f2).trans f3;have hfz:w.heap.size<=b4:=ae3 f1.size l4;clear h1 h2 r3 r4 r32 f1 f2 f3;obtain⟨o,ho⟩:∃o,x.content n s p=o:=⟨_,rfl⟩
 have HC:Hid (x.content n s p=o):=ho;rw[ho];clear ho;go_wp2_with (with_reducible first|refine bE 161 rfl ?_|refine ah 161 rfl ?_);refine ai.go (bN rfl (.agg (hcells o)) w3 (by kernel_rfl) ?_);go_wp2_with (with_reducible first|refine ah 161 rfl ?_);refine ai.go (bP rfl 161 _ _ rfl b4 0 rfl (hcells o) rfl 2 jv ?_ ?_ _ _ r43 ?_ ?_)
 .rfl
 .simp[hcells,Value.oneCell']
 .decide
 intro w4 f4 q4;rw[bG _ _ (by rfl)] at q4;have LM:Row w4 b4 (hcells o) 161:=q4;have fw:=vp.trans f4 (by simp;exact hfz);clear q4;go_wp2_with fail;exact lH rfl b4 rfl rfl _ _ LM rX (by exact jv) ⟨by rw[HC.out];rfl,fw⟩
theorem yT (s:Nat)(hs:s<=1)(w:Θ):Calls Tryz.prog 143 #[.int .i64 s] w λe w'=>e= .returned (.int .i64 (1-s:Nat))/\w'=w:=by
 rcases(by omega:s=0\/s=1) with rfl|rfl
 .go_enter Tryz.func143,Tryz.ntmps143
  go_wp2_with fail;go_ret;exact⟨rfl,rfl⟩
 .go_enter Tryz.func143,Tryz.ntmps143
  go_wp2_with fail;go_ret;exact⟨rfl,rfl⟩
structure db where
 set:Nat
 path:List Γ
 becomes:Option (List Γ)
 replaces:Bool
def db.vals (w:db):List Φ:=[.int .i64 w.set,.string (aB w.path),.bool w.becomes.isSome,.string (aB (w.becomes.getD [])),.bool w.replaces]
def jI (ws:List db):List Φ:=ws.flatMap db.vals
def dl (x:DS)(n:Nat)(p:List Γ×Nat)(set:Nat):List db:=if x.content n set (aB p.1)=x.content n p.2 (aB p.1) then [] else [⟨set,p.1,x.content n p.2 (aB p.1),(x.content n set (aB p.1)).isSome⟩]
def fv (x:DS)(n:Nat)(p:List Γ×Nat):List db:=dl x n p (1-p.2)++dl x n p 2
def bB (x:DS)(n:Nat)(ss:List (List Γ×Nat)):List db:=ss.flatMap (fv x n)
theorem yF (x:DS)(n:Nat)(ss:List (List Γ×Nat))(k:Nat)(hk:k<ss.length):bB x n (ss.take (k+1))=bB x n (ss.take k)++fv x n ss[k]:=by
 unfold bB;rw[ac0 hk,List.flatMap_append];simp
theorem ot (x:DS)(n:Nat)(p:List Γ×Nat)(s:Nat):(dl x n p s).length<=1:=by unfold dl;split<;>simp
theorem gy (x:DS)(n:Nat)(ss:List (List Γ×Nat)):(bB x n ss).length<=2*ss.length:=by
 induction ss with
 |nil=>simp[bB]
 |cons p ss ih=>
  have e:bB x n (p::ss)=fv x n p++bB x n ss:=rfl;have h1:=ot x n p (1-p.2);have h2:=ot x n p 2;rw[e,af1,List.length_cons];unfold fv;rw[af1];omega
theorem Iq (a b:List db):jI (a++b)=jI a++jI b:=by simp[jI]
theorem xW:Elem Tryz.prog 173 176 5 56:=⟨by kernel_rfl,by kernel_rfl,by omega⟩
theorem MM {a b:Option (List Γ)}:(a.isSome==b.isSome&&aB (a.getD [])==aB (b.getD []))=true↔a=b:=by
 rw[ξ,ai0,Go.MapKept.bytes_beq];constructor
 .rintro⟨h1,h2⟩
  have h3:a.getD []=b.getD []:=by
   have:=congrArg (λs:Ξ=>s.data.toList) h2;simpa [aB] using this
  cases a<;>cases b<;>simp_all
 .rintro rfl
  exact⟨rfl,rfl⟩
section
variable {ops:Array Oper}{Q:Exit->Act->Θ->Prop}{a:Act}{w:Θ}{rest:List Oper}{o:Oper}
theorem jf {t:η}{x y:aa8}(_:o.op= .index t x y)(h:ai (wpList Tryz.prog ops Q (o::rest) a w)):wpList Tryz.prog ops Q (o::rest) a w:=h
theorem Pd (hg:o.guard=none)(x y:Nat)(u:η)(ho:o.op= .binOp .neq aG.TH (.tmp x) (.tmp y) u){b1 b2:Bool}{s1 s2:Ξ}(hx:a.eval (.tmp x)=aG.hv b1 s1)(hy:a.eval (.tmp y)=aG.hv b2 s2)
  (h:wpList Tryz.prog ops Q rest (a.put o.dst (.bool (!(b1==b2&&s1==s2)))) w):wpList Tryz.prog ops Q (o::rest) a w:=by
 refine bN hg _ w ?_ h;have:=(aG.GY (w:=w) b1 b2 s1 s2).run;unfold execOp;rw[ho];show(do pure (.value (<-(do eqGuard .neq aG.TH (.tmp x) (.tmp y) (a.eval (.tmp x)) (a.eval (.tmp y));binOp .neq aG.TH (a.eval (.tmp x)) (a.eval (.tmp y))))):Sem Next).run _ _=_;rw[hx,hy,pr _ _ _ _ rfl rfl];exact this
end
theorem Row.aside {w w':Θ}{b base size n:Nat}{c:Array Φ}{t e:η}{v:Φ}{xs:List Φ}(r:Row w b c t)(ho:w.ownsRow base e size v n xs)(hne:t≠e)(f:aO v.ownBlock.toList w w'):Row w' b c t:=by
 unfold Row at r⊢;rw[f.block b (Ψ.1 r).1 λhb=>?_]
 .exact r
 .rcases ho.2 with⟨rfl,_⟩|⟨g,cap,cur,rfl,_,hg,_⟩
  .simp[Value.ownBlock] at hb
  .have:b=g:=by simpa [Value.ownBlock] using hb
   subst this;rw[r] at hg;cases hg;exact hne rfl
theorem Row.xJ {w w':Θ}{b:Nat}{c:Array Φ}{t:η}(r:Row w b c t)(f:aO [] w w'):Row w' b c t:=by
 unfold Row at r⊢;rw[f.block b (Ψ.1 r).1 (by simp)];exact r
theorem vV (d bl n:Nat)(vw:Φ)(x:DS)(base:Nat)(v:Φ)(ss:List (List Γ×Nat))(w:Θ)(h:bv w d bl n vw x)(hv:w.ownsRow base 168 2 v ss.length (b6 ss))(hl:ss.length<=54)(hp:∀p∈ss,p.2<=1):
  Calls Tryz.prog 95 #[.pointer (some ⟨d,0,none⟩),v] w λe w'=>∃u,e= .returned u/\w'.ownsRow w.heap.size 176 5 u (bB x n ss).length (jI (bB x n ss))/\aO [] w w':=by
 obtain⟨ad,cap,hv'⟩:=bM hv;subst hv';go_enter Tryz.func95,Tryz.ntmps95;go_wp2_with fail
 go_loopw [5,15] (λu c wr=>∃k:Nat,c= .int .i64 k/\k<=ss.length/\aO [] w wr/\wr.ownsRow w.heap.size 176 5 u (bB x n (ss.take k)).length (jI (bB x n (ss.take k)))) (λ_ c _=>ss.length-(intOf c).toNat)
 case atStart=>exact⟨0,rfl,by omega,aO.refl _ _,World.ownsRow_nil _ _ _ _⟩
 case round=>
  obtain⟨k,rfl,hk,fk,ho⟩:=hrel
  by_cases hlt:k<ss.length
  .have hvk:=fk.owns hv
   obtain⟨g,cur,rfl,hg,hle,_,hcs,htk⟩:=dL hvk;have hat:((cur.toList.drop (k*2)).take 2)=[.string (aB ss[k].1),.int .i64 ss[k].2]:=by
    rw[bX htk _ _,oz ss k hlt]
   have hpk:=hp ss[k] (af4 hlt);have hlen:(bB x n (ss.take k)).length<=108:=by have:=gy x n (ss.take k);rw[ae1] at this;omega
   have HX:Hid (bB x n (ss.take (k+1))=bB x n (ss.take k)++fv x n ss[k]):=yF x n ss k hlt;generalize ss[k]=p at*;generalize bB x n (ss.take k)=pre at*;obtain⟨p1,sd⟩:=p;simp only at hat hpk;clear hcs htk hvk;go_wp2_with (with_reducible first|refine ay rfl ?_|refine ax 168 rfl ?_|refine ah 168 rfl ?_)
   refine ai.go (bV rfl 168 _ rfl g (k*2) rfl row_step 2 pX _ _ hg _ hat rfl ?_);clear hat hg;go_wp2_with (with_reducible first|refine ay rfl ?_|refine ah 168 rfl ?_);refine ai.go (bh rfl 168 rfl _ zv ?_);intro w4 b7 l7 f4 r4;go_wp2_with (with_reducible first|refine ay rfl ?_|refine ah 168 rfl ?_)
   refine ai.go (bP rfl 168 _ _ rfl _ 0 rfl _ rfl 2 pX ?_ ?_ _ _ r4 ?_ ?_)
   .rfl
   .simp[Value.oneCell']
   .decide
   intro w5 f5 q5;rw[bG _ _ (by rfl)] at q5;have kE:Row w5 b7 #[.string (aB p1),.int .i64 sd] 168:=q5;have jT:aO [] wr w5:=f4.trans f5 (by simpa using l7);have po:=fk.trans jT;have y6:=jT.owns ho;have h5:=h.new po;have c0:w5.cell? ⟨b7,0,none⟩=some (.string (aB p1)):=by rw[kE.cell];rfl
   have c1:w5.cell? ⟨b7,1,none⟩=some (.int .i64 sd):=by rw[kE.cell];rfl
   clear q5 r4 f4 f5 fk ho;go_wp2_with (with_reducible first|refine bE 103 rfl ?_|refine ay rfl ?_);refine ai.go (bN rfl (.agg (cZ sd (aB p1))) w5 (by kernel_rfl) ?_);go_wp2_with (with_reducible first|refine ay rfl ?_);refine(z5 d bl n vw x sd (aB p1) w5 h5).mono ?_;rintro e w6 ⟨rfl,f6⟩;obtain⟨o,ho0⟩:∃o,x.content n sd (aB p1)=o:=⟨_,rfl⟩
   have HB:Hid (x.content n sd (aB p1)=o):=ho0;rw[ho0];clear ho0 h5 c0 c1;go_wp2_with (with_reducible first|refine ay rfl ?_);refine ai.go (bh rfl 161 rfl _ ta ?_);intro w7 b8 l8 f7 r7;go_wp2_with (with_reducible first|refine ah 161 rfl ?_);refine ai.go (bP rfl 161 _ _ rfl b8 0 rfl (hcells o) rfl 2 jv ?_ ?_ _ _ r7 ?_ ?_)
   .rfl
   .simp[hcells,Value.oneCell']
   .decide
   intro w8 f8 q8;rw[bG _ _ (by rfl)] at q8;have q8':Row w8 b8 (hcells o) 161:=q8;have f68:aO [] w5 w8:=f6.trans (f7.trans f8 (by simpa using l8));have ry:=po.trans f68;have q7:=kE.xJ f68;have z9:=f68.owns y6;have c1:w8.cell? ⟨b7,1,none⟩=some (.int .i64 sd):=by rw[q7.cell];rfl
   clear q8 r7 f6 f7 f8 f68 po kE y6;go_wp2_with fail;refine(yT sd hpk w8).mono ?_;rintro e w9 ⟨rfl,rfl⟩;go_wp2_with (with_reducible first|refine bE 233 rfl ?_);refine ai.go (bN rfl (.agg #[.int .i64 (1-sd:Nat),.int .i64 2]) w9 (by kernel_rfl) ?_);go_wp2_with fail
   go_loopw [5,30] (λu c wr2=>∃j:Nat,c= .int .i64 j/\j<=2/\aO [] w wr2/\Row wr2 b7 #[.string (aB p1),.int .i64 sd] 168/\Row wr2 b8 (hcells o) 161/\
    wr2.ownsRow w.heap.size 176 5 u (pre++([1-sd,2].take j).flatMap (dl x n (p1,sd))).length (jI (pre++([1-sd,2].take j).flatMap (dl x n (p1,sd))))) (λ_ c _=>2-(intOf c).toNat)
   case atStart=>exact⟨0,rfl,by omega,ry,q7,q8',by simpa using z9⟩
   case round=>
    obtain⟨j,rfl,hj,fr,rb7,rb8,hor⟩:=hrel;clear c1 q7 q8' z9 ry
    by_cases hj2:j<2
    .have Hp:(pre++([1-sd,2].take j).flatMap (dl x n (p1,sd))).length<=110:=by
      have h1:=ot x n (p1,sd) (1-sd);rw[af1];rcases(by omega:j=0\/j=1) with rfl|rfl<;>simp<;>omega
     obtain⟨tw,jn,HT,HJ,HY⟩:∃tw jn:Nat,Hid (tw=if j=0 then 1-sd else 2)/\Hid (jn=j+1)/\Hid (([1-sd,2].take jn).flatMap (dl x n (p1,sd))=([1-sd,2].take j).flatMap (dl x n (p1,sd))++dl x n (p1,sd) tw):=⟨_,_,rfl,rfl,by show _=_;rcases(by omega:j=0\/j=1) with rfl|rfl<;>simp⟩
     obtain⟨ag4,MQ⟩:∃l,l=pre++([1-sd,2].take j).flatMap (dl x n (p1,sd)):=⟨_,rfl⟩
     have HP2:Hid (ag4=pre++([1-sd,2].take j).flatMap (dl x n (p1,sd))):=MQ;rw[<-MQ] at hor Hp;clear MQ;rcases(by omega:j=0\/j=1) with rfl|rfl
     all_goals
      have c0:wr.cell? ⟨b7,0,none⟩=some (.string (aB p1)):=by rw[rb7.cell];rfl
      go_wp2_with (with_reducible first|refine jf rfl ?_);refine ai.go (bN rfl (.int .i64 (tw:Nat)) wr (by rw[HT.out];kernel_rfl) ?_);go_wp2_with (with_reducible first|refine bE 103 rfl ?_|refine ay rfl ?_);refine ai.go (bN rfl (.agg (cZ tw (aB p1))) wr (by kernel_rfl) ?_);go_wp2_with (with_reducible first|refine ay rfl ?_)
      refine ai.go (bh rfl 103 rfl KR zw ?_);intro v1 b11 m1 g1 s1;go_wp2_with (with_reducible first|refine ah 103 rfl ?_);refine ai.go (bP rfl 103 _ _ rfl b11 0 rfl (cZ tw (aB p1)) rfl 2 dh ?_ ?_ _ _ s1 ?_ ?_)
      .rfl
      .simp[cZ,Value.oneCell']
      .decide
      intro v2 g2 s2;rw[bG _ _ (by rfl)] at s2;have s2':Row v2 b11 (cZ tw (aB p1)) 103:=s2;have g12:aO [] wr v2:=g1.trans g2 (by simpa using m1);have fv2:=fr.trans g12;have h2:=h.new fv2;have abz:=rb7.xJ g12;have abx:=rb8.xJ g12;have ho2:=g12.owns hor;clear s1 s2 g1 g2 g12 fr rb7 rb8 hor c0
      go_wp2_with (with_reducible first|refine ax 103 rfl ?_|refine ay rfl ?_);refine ai.go (bV rfl 103 _ rfl b11 0 rfl ee 2 dh _ _ s2' [.int .i64 (tw:Nat),.string (aB p1)] rfl rfl ?_);go_wp2_with (with_reducible first|refine ay rfl ?_);refine(z5 d bl n vw x tw (aB p1) v2 h2).mono ?_;rintro e v3 ⟨rfl,g3⟩
      obtain⟨o2,FK⟩:∃o,x.content n tw (aB p1)=o:=⟨_,rfl⟩
      have HO2:Hid (x.content n tw (aB p1)=o2):=FK;rw[FK];clear FK h2;go_wp2_with (with_reducible first|refine ay rfl ?_);refine ai.go (bh rfl 161 rfl _ ta ?_);intro v4 b12 m4 g4 s4;go_wp2_with (with_reducible first|refine ah 161 rfl ?_);refine ai.go (bP rfl 161 _ _ rfl b12 0 rfl (hcells o2) rfl 2 jv ?_ ?_ _ _ s4 ?_ ?_)
      .rfl
      .simp[hcells,Value.oneCell']
      .decide
      intro v5 g5 s5;rw[bG _ _ (by rfl)] at s5;have s5':Row v5 b12 (hcells o2) 161:=s5;have Z9:aO [] v2 v5:=g3.trans (g4.trans g5 (by simpa using m4));have fv5:=fv2.trans Z9;have Wc:=abz.xJ Z9;have LK:=abx.xJ Z9;have XL:=Z9.owns ho2;have s25:=s2'.xJ Z9;have c12:v5.cell? ⟨b12,0,none⟩=some (.bool o2.isSome):=by rw[s5'.cell];rfl
      clear s4 s5 g3 g4 g5 Z9 fv2 abz abx ho2 s2';go_wp2_with (with_reducible first|refine ax 161 rfl ?_|refine dn 161 rfl ?_);refine ai.go (bV rfl 161 _ rfl b12 0 rfl rX 2 jv _ _ s5' [.bool o2.isSome,.string (aB (o2.getD []))] rfl rfl ?_);go_wp2_with (with_reducible first|refine ax 161 rfl ?_|refine dn 161 rfl ?_)
      refine ai.go (bV rfl 161 _ rfl b8 0 rfl rX 2 jv _ _ LK [.bool o.isSome,.string (aB (o.getD []))] rfl rfl ?_);go_wp2_with (with_reducible first|refine ax 161 rfl ?_|refine dn 161 rfl ?_);refine ai.go (Pd rfl 40 41 _ rfl (b1:=o2.isSome) (b2:=o.isSome) (s1:=aB (o2.getD [])) (s2:=aB (o.getD [])) rfl rfl ?_)
      by_cases heq:(o2.isSome==o.isSome&&aB (o2.getD [])==aB (o.getD []))=true
      .have HW:Hid (dl x n (p1,sd) tw=[]):=by
        show _=_;unfold dl;rw[χ (by rw[HO2.out,HB.out];exact MM.1 heq)]
       rw[heq];clear heq;go_wp2_with fail
       go_roundw
       case rel=>exact⟨jn,by rw[HJ.out];rfl,by rw[HJ.out];omega,fv5,Wc,LK,by rw[HY.out,HW.out,List.append_nil,<-HP2.out];exact XL⟩
       case measure=>simp[intOf]
      .have HW:Hid (dl x n (p1,sd) tw=[⟨tw,p1,o,o2.isSome⟩]):=by
        show _=_;unfold dl;rw[ζ (by rw[HO2.out,HB.out];exactλq=>heq (MM.2 q)),HO2.out,HB.out]
       have heq':(o2.isSome==o.isSome&&aB (o2.getD [])==aB (o.getD []))=false:=by simpa using heq
       rw[heq'];clear heq heq';go_wp2_with (with_reducible first|refine ax 161 rfl ?_|refine ax 103 rfl ?_|refine bE 176 rfl ?_);refine ai.go (bV rfl 103 _ rfl b11 0 rfl ee 2 dh _ _ s25 [.int .i64 (tw:Nat),.string (aB p1)] rfl rfl ?_);go_wp2_with (with_reducible first|refine ax 161 rfl ?_|refine bE 176 rfl ?_)
       refine ai.go (bV rfl 161 _ rfl b8 0 rfl rX 2 jv _ _ LK [.bool o.isSome,.string (aB (o.getD []))] rfl rfl ?_);go_wp2_with (with_reducible first|refine bE 176 rfl ?_);refine ai.go (bN rfl (.agg (db.vals ⟨tw,p1,o,o2.isSome⟩).toArray) v5 (by kernel_rfl) ?_);go_wp2_with (with_reducible first|refine bq rfl ?_|refine br rfl ?_)
       refine ai.go (fj rfl 173 176 5 56 xW _ rfl (.agg (db.vals ⟨tw,p1,o,o2.isSome⟩).toArray) rfl rfl ?_);intro v8 b9 m8 g8 s8;go_wp2_with (with_reducible first|refine bq rfl ?_|refine br rfl ?_);have z9:=g8.owns XL;have fv8:=fv5.trans g8;have aby:=Wc.xJ g8;have abw:=LK.xJ g8
       have hbase:w.heap.size<=v8.heap.size:=fv8.size;refine ai.go (fK rfl 173 176 5 56 xW _ _ rfl w.heap.size u5 _ _ rfl z9 b9 1 1 (db.vals ⟨tw,p1,o,o2.isSome⟩) rfl _ _ s8 rfl rfl (by simp[db.vals,Value.oneCell']) (by omega) (by omega) (by omega) hbase ?_);intro g' cap' v9 BP g9 _;have fv9:=fv8.trans g9 (by intro j hj;right;simp at hj;exact(z9.lt j hj).1)
       have agU:=aby.aside z9 (by decide) g9;have agT:=abw.aside z9 (by decide) g9;clear XL z9 s8 g8 g9 m8 fv5 fv8 Wc LK aby abw hbase c12 s5' s25;go_wp2_with fail
       go_roundw
       case rel=>
        refine⟨jn,by rw[HJ.out];rfl,by rw[HJ.out];omega,fv9,agU,agT,?_⟩;rw[HY.out,HW.out,<-List.append_assoc,<-HP2.out,Iq,af1];simpa [jI] using BP
       case measure=>simp[intOf]
    .obtain rfl:j=2:=by omega
     have HZ:Hid (pre++([1-sd,2].take 2).flatMap (dl x n (p1,sd))=bB x n (ss.take (k+1))):=by
      show _=_;rw[HX.out];simp[fv]
     go_wp2_with fail
     go_roundw
     case rel=>exact⟨k+1,by go_num,by omega,fr,by rw[<-HZ.out];exact hor⟩
     case measure=>simp[intOf];omega
  .obtain rfl:k=ss.length:=by omega
   rw[θ (by omega)] at ho;go_wp2_with fail;go_ret;exact⟨u5,rfl,ho,fk⟩
def li:List db->Int->Bool
 |[],_=>true
 |w::r,f=>if w.becomes=none then li r (f+1) else if f=0 then false else if w.replaces=false then li r (f-1) else li r f
def n6 (x:DS)(n:Nat)(ss:List (List Γ×Nat))(free:Int):Bool:=decide (0<=free)&&li (bB x n ss) free
theorem BS (l:List db)(k:Nat)(hk:k<l.length):((jI l).drop (k*5)).take 5=l[k].vals:=by
 have h:∀(l:List db) (k:Nat),(jI l).drop (k*5)=jI (l.drop k):=by
  intro l
  induction l with
  |nil=>intro k;simp[jI]
  |cons f r ih=>
   intro k;cases k with
   |zero=>simp
   |succ k=>
    have:=ih k;have e:jI (f::r)=f.vals++jI r:=rfl;rw[e,show(k+1)*5=5+k*5 by omega,<-List.drop_drop];have e2:(f.vals++jI r).drop 5=jI r:=by simp[db.vals]
    rw[e2];simpa using this
 rw[h,ae5 hk];rfl
theorem E3:(Tryz.prog.underlying 176).map TypeDesc.isRow=some true:=by kernel_rfl
theorem sw:(Tryz.prog.info? 176).map (·.size)=some 5:=by kernel_rfl
def zJw:Φ:= .agg #[.int .i64 0,.string ⟨#[]⟩,.bool false,.string ⟨#[]⟩,.bool false]
theorem GC:(Tryz.prog.info? 176).map (·.zero)=some (some zJw):=by kernel_rfl
theorem DU (d bl n:Nat)(vw:Φ)(x:DS)(base:Nat)(v:Φ)(ss:List (List Γ×Nat))(free:Int)(w:Θ)(h:bv w d bl n vw x)(hv:w.ownsRow base 168 2 v ss.length (b6 ss))(hl:ss.length<=54)(hp:∀p∈ss,p.2<=1)(hf0:-1<=free)(hf:free<=1000):
  Calls Tryz.prog 136 #[.pointer (some ⟨d,0,none⟩),v,.int .i64 free] w λe w'=>e= .returned (.bool (n6 x n ss free))/\aO [] w w':=by
 by_cases hneg:free<0
 .have HF:Hid (n6 x n ss free=false):=by show _=_;unfold n6;rw[decide_eq_false (by omega)];rfl
  obtain⟨ad,cap,hv'⟩:=bM hv;subst hv';go_enter Tryz.func136,Tryz.ntmps136;go_wp2_with fail;go_ret;exact⟨by rw[HF.out];rfl,aO.refl _ _⟩
 .have HF:Hid (n6 x n ss free=li (bB x n ss) free):=by show _=_;unfold n6;rw[decide_eq_true (by omega)];rfl
  have hwl:(bB x n ss).length<=108:=by have:=gy x n ss;omega
  obtain⟨ad,cap,hv'⟩:=bM hv;subst hv';go_enter Tryz.func136,Tryz.ntmps136;go_wp2_with fail;refine(vV d bl n vw x base _ ss w h hv hl hp).mono ?_;rintro e w1 ⟨u,rfl,ho,f1⟩;generalize bB x n ss=ws at*;obtain⟨OH,cap2,hu⟩:=bM ho;subst hu;clear hv hp;go_wp2_with fail
  go_loopw [2,15] (λvf c wr=>∃(k:Nat) (f:Int),c= .int .i64 k/\k<=ws.length/\vf= .int .i64 f/\0<=f/\f<=1000+k/\aO [] w1 wr/\li (ws.drop k) f=li ws free) (λ_ c _=>ws.length-(intOf c).toNat)
  case atStart=>exact⟨0,free,rfl,by omega,rfl,by omega,by omega,aO.refl _ _,by simp⟩
  case round=>
   obtain⟨k,f,rfl,hk,rfl,hfn,hfu,fk,hfit⟩:=hrel
   by_cases hlt:k<ws.length
   .have hok:=fk.owns ho
    obtain⟨g,cur,rfl,hg,hle,_,hcs,htk⟩:=dL hok;have hat:((cur.toList.drop (k*5)).take 5)=ws[k].vals:=by
     rw[bX htk _ _,BS ws k hlt]
    have hd:li (ws.drop k) f=if ws[k].becomes=none then li (ws.drop (k+1)) (f+1) else if f=0 then false else if ws[k].replaces=false then li (ws.drop (k+1)) (f-1) else li (ws.drop (k+1)) f:=by
     rw[ae5 hlt];rfl
    rw[hd] at hfit;clear hd;generalize ws[k]=wd at*;obtain⟨st,pt,bc,rp⟩:=wd;simp only at hfit;clear hcs htk hok;go_wp2_with (with_reducible first|refine ay rfl ?_|refine ax 176 rfl ?_|refine ah 176 rfl ?_);refine ai.go (bV rfl 176 _ rfl g (k*5) rfl E3 5 sw _ _ hg _ hat rfl ?_);clear hat hg
    go_wp2_with (with_reducible first|refine ay rfl ?_|refine ah 176 rfl ?_);refine ai.go (bh rfl 176 rfl _ GC ?_);intro w4 b7 l7 f4 r4;go_wp2_with (with_reducible first|refine ay rfl ?_|refine ah 176 rfl ?_);refine ai.go (bP rfl 176 _ _ rfl _ 0 rfl _ rfl 5 sw ?_ ?_ _ _ r4 ?_ ?_)
    .rfl
    .simp[db.vals,Value.oneCell']
    .decide
    intro w5 f5 q5;rw[bG _ _ (by rfl)] at q5;have kE:Row w5 b7 (db.vals ⟨st,pt,bc,rp⟩).toArray 176:=q5;have jT:=fk.trans (f4.trans f5 (by simpa using l7):aO [] wr w5);have c2:w5.cell? ⟨b7,2,none⟩=some (.bool bc.isSome):=by rw[kE.cell];rfl
    have c4:w5.cell? ⟨b7,4,none⟩=some (.bool rp):=by rw[kE.cell];rfl
    clear q5 kE r4 f4 f5 fk l7;cases bc with
    |none=>
     simp only[Option.isSome_none] at c2;rw[χ rfl] at hfit;go_wp2_with fail
     go_roundw
     case rel=>exact⟨k+1,f+1,by go_num,by omega,by go_num,by omega,by omega,jT,hfit⟩
     case measure=>simp[intOf];omega
    |some bb=>
     simp only[Option.isSome_some] at c2;rw[ζ (by simp)] at hfit
     by_cases hz:f=0
     .subst hz
      rw[χ rfl] at hfit;have HZ:Hid (li ws free=false):=hfit.symm;clear hfit;go_wp2_with fail;go_ret;exact⟨by rw[HF.out,HZ.out];rfl,f1.trans jT⟩
     .rw[ζ hz] at hfit
      have hz':(f==0)=false:=by simpa using hz
      cases rp with
      |false=>
       rw[χ rfl] at hfit;go_wp2_with fail
       go_roundw
       case rel=>exact⟨k+1,f-1,by go_num,by omega,by go_num,by omega,by omega,jT,hfit⟩
       case measure=>simp[intOf];omega
      |true=>
       rw[ζ (by simp)] at hfit;go_wp2_with fail
       go_roundw
       case rel=>exact⟨k+1,f,by go_num,by omega,rfl,by omega,by omega,jT,hfit⟩
       case measure=>simp[intOf];omega
   .obtain rfl:k=ws.length:=by omega
    rw[List.drop_length] at hfit;have HZ:Hid (li ws free=true):=hfit.symm;clear hfit;go_wp2_with fail;go_ret;exact⟨by rw[HF.out,HZ.out];rfl,f1.trans fk⟩
def DS.sN (x:DS)(n:Nat)(w:db):DS×Φ:=match w.becomes with
 |none=>x.remove n w.set (aB w.path)
 |some c=>x.put n w.set (aB w.path) (aB c)
theorem NU (F:List Nat)(d n:Nat)(x:DS)(wd:db)(w:Θ)(h:bJ w F d n x)(hx:x.Fit 5)(eZ:x.waiting.length<55)(hs:wd.set<256)(hp:wd.path.length<256)(hc:∀c,wd.becomes=some c->c.length<256):
  Calls Tryz.prog 96 #[.agg wd.vals.toArray,.pointer (some ⟨d,0,none⟩)] w λe w'=>e= .returned (x.sN n wd).2/\∃F',bJ w' F' d n (x.sN n wd).1/\aO F w w'/\bZ F F' w:=by
 obtain⟨st,pt,bc,rp⟩:=wd;simp only at hs hp hc;have hps:(aB pt).size<256:=by simpa [aB,ByteArray.size] using hp
 go_enter Tryz.func96,Tryz.ntmps96;go_wp2_with (with_reducible first|refine bC rfl ?_);refine ai.go (fN rfl 176 _ rfl (.agg (db.vals ⟨st,pt,bc,rp⟩).toArray) rfl ?_);intro w1 b2 l1 f1 r1;have h1:=h.new f1;have r1':Row w1 b2 (db.vals ⟨st,pt,bc,rp⟩).toArray 176:=r1;have c2:w1.cell? ⟨b2,2,none⟩=some (.bool bc.isSome):=by rw[r1'.cell];rfl
 have c3:w1.cell? ⟨b2,3,none⟩=some (.string (aB (bc.getD []))):=by rw[r1'.cell];rfl
 clear r1;cases bc with
 |none=>
  simp only[Option.isSome_none] at c2;have HD:Hid (x.sN n ⟨st,pt,none,rp⟩=x.remove n st (aB pt)):=rfl;go_wp2_with (with_reducible first|refine ax 103 rfl ?_);refine ai.go (bV rfl 103 _ rfl b2 0 rfl ee 2 dh _ _ r1' [.int .i64 st,.string (aB pt)] rfl rfl ?_);clear c2 c3 r1';go_wp2_with fail
  refine(oV F d n x st (aB pt) w1 h1 ⟨hx.kb,by have:=hx.ka;omega,hx.j9,hx.j8⟩ (by omega)).mono ?_;rintro e w2 ⟨rfl,F',h2,f2,g2⟩;obtain⟨r,hr⟩:∃r,x.remove n st (aB pt)=r:=⟨_,rfl⟩
  rw[hr] at h2⊢;have HD2:Hid (x.sN n ⟨st,pt,none,rp⟩=r):=HD.out.trans hr;clear hr HD;obtain⟨r1,r2⟩:=r;go_wp2_with fail;go_ret;rw[HD2.out];exact⟨rfl,F',h2,(f1.mono).trans f2 (λj hj=> .inl hj),(bZ.refl F w).trans g2 f1.size⟩
 |some c=>
  simp only[Option.isSome_some] at c2;have hcs:(aB c).size<256:=by simpa [aB,ByteArray.size] using hc c rfl
  have HD:Hid (x.sN n ⟨st,pt,some c,rp⟩=x.put n st (aB pt) (aB c)):=rfl;have c3':w1.cell? ⟨b2,3,none⟩=some (.string (aB c)):=c3;clear c3;go_wp2_with (with_reducible first|refine ax 103 rfl ?_|refine bE 107 rfl ?_);refine ai.go (bV rfl 103 _ rfl b2 0 rfl ee 2 dh _ _ r1' [.int .i64 st,.string (aB pt)] rfl rfl ?_)
  go_wp2_with (with_reducible first|refine bE 107 rfl ?_);refine ai.go (bN rfl (.agg #[.int .i64 st,.string (aB pt),.string (aB c)]) w1 (by kernel_rfl) ?_);clear c2 c3' r1';go_wp2_with fail;refine(wW F d n x st (aB pt) (aB c) w1 h1 hx eZ hs hps hcs).mono ?_;rintro e w2 ⟨rfl,F',h2,f2,g2⟩;obtain⟨r,hr⟩:∃r,x.put n st (aB pt) (aB c)=r:=⟨_,rfl⟩
  rw[hr] at h2⊢;have HD2:Hid (x.sN n ⟨st,pt,some c,rp⟩=r):=HD.out.trans hr;clear hr HD;obtain⟨r1,r2⟩:=r;go_wp2_with fail;go_ret;rw[HD2.out];exact⟨rfl,F',h2,(f1.mono).trans f2 (λj hj=> .inl hj),(bZ.refl F w).trans g2 f1.size⟩
theorem rI (l:List (List Γ×Nat))(k:Nat)(hk:k<l.length):(b6 l)[k*2]? =some (.string (aB l[k].1)):=by
 have h:=oz l k hk;have h1:(((b6 l).drop (k*2)).take 2)[0]? =some (.string (aB l[k].1)):=by rw[h];rfl
 rw[ah8 (by omega),ag2] at h1;simpa using h1
theorem aO.Ig {w w':Θ}{b off:Nat}{v:Φ}(f:aO [] w w')(h:w.cell? ⟨b,off,none⟩=some v)(_:True):w'.cell? ⟨b,off,none⟩=some v:=by
 have hb:b<w.heap.size:=by
  unfold World.cell? at h;cases hh:w.heap[b]? with
  |none=>simp[hh] at h
  |some o=>exact(Ψ.1 hh).1
 unfold World.cell? at h⊢;rw[f.block b hb (by simp)];exact h
theorem DF (base:Nat)(v:Φ)(ss:List (List Γ×Nat))(w:Θ)(hv:w.ownsRow base 168 2 v ss.length (b6 ss))(h0:0<ss.length)(hl:ss.length<=54)(hs:ss.Pairwise λp q=>p.1<q.1):
  Calls Tryz.prog 141 #[v] w λe w'=>e= .returned (.bool true)/\aO [] w w':=by
 obtain⟨ad,cap,hv'⟩:=bM hv;subst hv';obtain⟨g,cur,rfl,hg,hle,_,hcs,htk⟩:=dL hv;have hcell:∀k (hk:k<ss.length),cur[k*2]? =some (.string (aB ss[k].1)):=λk hk=>by
  have h1:=rI ss k hk;rw[<-htk,ah8 (by omega)] at h1;simpa using h1
 go_enter Tryz.func141,Tryz.ntmps141;go_wp2_with fail
 go_loopw [7] (λc wr=>∃k:Nat,c= .int .i64 k/\k+1<=ss.length/\aO [] w wr) (λc _=>ss.length-(intOf c).toNat)
 case atStart=>exact⟨0,rfl,by omega,aO.refl _ _⟩
 case round=>
  obtain⟨k,rfl,hk,fk⟩:=hrel
  by_cases hlt:k+1<ss.length
  .have hgr:=fk.row (b:=g) hg (by simp)
   have c1:wr.cell? ⟨g,k*2,none⟩=some (.string (aB (ss[k]'(by omega)).1)):=by rw[hgr.cell];exact hcell k (by omega)
   have c2:wr.cell? ⟨g,(k+1)*2,none⟩=some (.string (aB (ss[k+1]'hlt).1)):=by rw[hgr.cell];exact hcell (k+1) hlt
   have hlt2:(ss[k]'(by omega)).1<(ss[k+1]'hlt).1:=(List.pairwise_iff_getElem.1 hs) k (k+1) (by omega) hlt (by omega);generalize (ss[k]'(by omega)).1=p1 at*;generalize (ss[k+1]'hlt).1=p2 at*;go_wp2_with fail;have fin:∀(Z:List (Nat×Φ)),True:=λ_=>trivial
   refine fE ?_;refine aQ rfl (some 10) rfl (.slice (some ⟨g,0,none⟩) ss.length cap) (λw' hw'=>by go_simp) ?_;simp only[Act.put,bm,bn,bk];refine aQ rfl (some 11) rfl (.int .i64 k) (λw' hw'=>by go_simp) ?_;simp only[Act.put,bm,bn,bk]
   refine aQ rfl (some 12) rfl (.pointer (some ⟨g,k*2,none⟩)) (λw' hw'=>by go_simp;intro hh;omega) ?_;simp only[Act.put,bm,bn,bk];refine aQ rfl (some 13) rfl (.pointer (some ⟨g,k*2,none⟩)) (λw' hw'=>by go_simp) ?_;simp only[Act.put,bm,bn,bk];refine aQ rfl (some 14) rfl (.string (aB p1)) (λw' hw'=>by have cc:=hw'.Ig c1 (by simp);go_simp) ?_
   simp only[Act.put,bm,bn,bk];refine aQ rfl (some 15) rfl (.slice (some ⟨g,0,none⟩) ss.length cap) (λw' hw'=>by go_simp) ?_;simp only[Act.put,bm,bn,bk];refine aQ rfl (some 16) rfl (.int .i64 k) (λw' hw'=>by go_simp) ?_;simp only[Act.put,bm,bn,bk];refine aQ rfl (some 17) rfl (.int .i64 (k+1:Nat)) (λw' hw'=>by go_simp;rw[IntKind.wrap_i64];omega) ?_
   simp only[Act.put,bm,bn,bk];refine aQ rfl (some 18) rfl (.pointer (some ⟨g,(k+1)*2,none⟩)) (λw' hw'=>by go_simp;intro hh;have:=hh (by omega);omega) ?_;simp only[Act.put,bm,bn,bk];refine aQ rfl (some 19) rfl (.pointer (some ⟨g,(k+1)*2,none⟩)) (λw' hw'=>by go_simp) ?_;simp only[Act.put,bm,bn,bk]
   refine aQ rfl (some 20) rfl (.string (aB p2)) (λw' hw'=>by have cc:=hw'.Ig c2 (by simp);go_simp) ?_;simp only[Act.put,bm,bn,bk];refine aQ rfl (some 21) rfl (.bool false) (λw' hw'=>by go_simp;rw[bytesLess_eq,Lib.toList_data,Lib.toList_data];exact decide_eq_true (by simpa [aB] using hlt2)) ?_;simp only[Act.put,bm,bn,bk];intro w2 f2
   have RI:=fk.trans f2;go_wp2_with fail
   go_roundw
   case rel=>exact⟨k+1,by go_num,by omega,RI⟩
   case measure=>simp[intOf];omega
  .go_wp2_with fail
   go_ret;exact⟨rfl,fk⟩
def Oc (s:Nat):Γ:=if s=0 then 76 else 82
theorem tR (p:List Γ×Nat)(r:List (List Γ×Nat)):cy (p::r)=Oc p.2::(p.1++cy r):=rfl
theorem sx (chars:List Γ):∀(p r:List Γ),(∀b∈p,chars.contains b=false)->indexAny (p++r) chars=if indexAny r chars=-1 then -1 else indexAny r chars+p.length
 |[],r,_=>by
  by_cases h:indexAny r chars=-1<;>simp[h]
 |b::p,r,h=>by
  have h1:=h b (by simp);have ih:=sx chars p r λx hx=>h x (by simp[hx])
  have hg:=indexAny_ge chars r;show(if chars.contains b then 0 else if indexAny (p++r) chars==-1 then -1 else indexAny (p++r) chars+1)=_;rw[h1,ih]
  by_cases he:indexAny r chars=-1
  .simp[he]
  .simp only[he,if_false,ι]
   rw[ζ (by simp;omega)];simp;omega
theorem Fv {b:Γ}(h:ig b=true):([76,82]:List Γ).contains b=false:=by
 unfold ig at h;rw[ξ] at h;have h1:97<=b.toNat:=by simpa using h.1
 simp only[List.contains_cons,List.contains_nil,Bool.or_false,Bool.or_eq_false_iff,ae8];constructor<;>(intro e;subst e;revert h1;decide)
theorem Bi {p:List Γ}(hp:bQ p=true)(r:List (List Γ×Nat)):indexAny (p++cy r) [76,82]=if r=[] then -1 else(p.length:Int):=by
 unfold bQ at hp;simp only[ξ,ae6] at hp;rw[sx _ p _ λb hb=>Fv (hp.2 b hb)];cases r with
 |nil=>rfl
 |cons q r=>
  have:indexAny (cy (q::r)) [76,82]=0:=by
   rw[tR];show(if([76,82]:List Γ).contains (Oc q.2) then 0 else _)=_;rw[χ (by unfold Oc;split<;>decide)]
  rw[this];simp
theorem Ky {ss:List (List Γ×Nat)}(h:∀p∈ss,bQ p.1=true):∀b∈cy ss,b.toNat<128:=by
 intro b hb;unfold cy at hb;rw[List.mem_flatMap] at hb;obtain⟨p,hp,hb⟩:=hb;rcases ab8.1 hb with rfl|hb
 .split<;>decide
 .have:=h p hp
  unfold bQ at this;simp only[ξ,ae6] at this;have:=this.2 b hb;unfold ig at this;rw[ξ] at this;have:b.toNat<=122:=by simpa using this.2
  omega
theorem gU (l:List Γ)(a b:Nat):(aB l).extract a b=aB ((l.take b).drop a):=by
 have h:((aB l).extract a b).data=(l.toArray).extract a b:=by simp[aB,ByteArray.data_extract]
 have h2:(l.toArray).extract a b=((l.take b).drop a).toArray:=by simp[List.extract_eq_drop_take,List.drop_take]
 have:((aB l).extract a b).data=(aB ((l.take b).drop a)).data:=h.trans h2;cases hx:(aB l).extract a b;rw[hx] at this;simp only at this;rw[this]
theorem cU {P:ω}{ops:Array Oper}{Q:Exit->Act->Θ->Prop}{a:Act}{w:Θ}{rest:List Oper}{o:Oper}{t:η}{x:aa8}{l h m:Option aa8}(_:o.op= .slice t x l h m)(k:ai (wpList P ops Q (o::rest) a w)):wpList P ops Q (o::rest) a w:=k
theorem pu:∀(l:List (List Γ×Nat)),(∀p∈l,p.1.length<=8)->(cy l).length<=9*l.length
 |[],_=>by simp[cy]
 |p::l,h=>by
  have h1:=h p (by simp);have h2:=pu l λq hq=>h q (by simp[hq])
  rw[tR,List.length_cons,af1,List.length_cons];omega
theorem pd {p:List Γ}(h:bQ p=true):p.length<=8:=by
 unfold bQ at h;simp only[ξ] at h;simpa using h.1.2
theorem x4 (c:Γ)(p R:List Γ):(aB (c::(p++R))).extract (1+(p.length:Int)).toNat (aB (c::(p++R))).size=aB R:=by
 rw[gU,cE,θ (φ _),show(1+(p.length:Int)).toNat=p.length+1 by omega];simp
theorem Aj (c:Γ)(p:List Γ):(aB (c::p)).extract (1+(p.length:Int)).toNat (aB (c::p)).size=aB (cy []):=by
 have:=x4 c p [];rw[List.append_nil] at this;exact this
theorem Cg {P:ω}{ops:Array Oper}{Q:Exit->Act->Θ->Prop}{a:Act}{w:Θ}{rest:List Oper}{o:Oper}{as':Array aa8}{ts:Array η}(_:o.op= .call {callee:= .builtin .len,args:=as',argTypes:=ts})(k:ai (wpList P ops Q (o::rest) a w)):wpList P ops Q (o::rest) a w:=k
theorem DA (ss:List (List Γ×Nat))(w:Θ)(h0:0<ss.length)(hl:ss.length<=54)(hp:∀p∈ss,bQ p.1=true/\p.2<=1)(hs:ss.Pairwise λp q=>p.1<q.1):
  Calls Tryz.prog 94 #[.string (aB (cy ss))] w λe w'=>∃u,e= .returned (.tuple #[u,.bool true])/\w'.ownsRow w.heap.size 168 2 u ss.length (b6 ss)/\aO [] w w':=by
 go_enter Tryz.func94,Tryz.ntmps94;go_wp2_with fail
 go_loopw [4,5] (λu t wr=>∃k:Nat,t= .string (aB (cy (ss.drop k)))/\k<=ss.length/\aO [] w wr/\wr.ownsRow w.heap.size 168 2 u k (b6 (ss.take k))) (λ_ t _=>match t with|.string s=>s.size|_=>0)
 case atStart=>exact⟨0,rfl,by omega,aO.refl _ _,World.ownsRow_nil _ _ _ _⟩
 case round=>
  obtain⟨k,rfl,hk,fk,ho⟩:=hrel
  by_cases hlt:k<ss.length
  .have hd:ss.drop k=ss[k]::ss.drop (k+1):=ae5 hlt
   have hpk:=hp ss[k] (af4 hlt);have htk:ss.take (k+1)=ss.take k++[ss[k]]:=ac0 hlt;have HR:Hid (ss.take (k+1)=ss.take k++[ss[k]]):=htk;have hasc:∀b∈cy (ss.drop k),b.toNat<128:=Ky λp hp'=>(hp p (List.mem_of_mem_drop hp')).1
   have hlen:(cy (ss.drop k)).length<=1000:=by
    have h1:=pu (ss.drop k) λp hp'=>pd (hp p (List.mem_of_mem_drop hp')).1
    have h2:(ss.drop k).length<=54:=by rw[List.length_drop];omega
    omega
   rw[hd,tR] at hasc hlen⊢;have HD:Hid (ss.drop k=ss[k]::ss.drop (k+1)):=hd;clear hd htk;generalize ss[k]=p at*;obtain⟨p1,sd⟩:=p;simp only at hpk hasc hlen⊢;have hsc:∃(c:Γ) (sv:Int),Hid (c=Oc sd)/\Hid (sv=sd)/\Hid (Lib.indexByte [76,82] c=sv):=⟨Oc sd,sd,rfl,rfl,by show _=_;rcases(by omega:sd=0\/sd=1) with rfl|rfl<;>decide⟩
   obtain⟨c,sv,hc,hsv,ac9⟩:=hsc;rcases(by omega:sd=0\/sd=1) with rfl|rfl
   all_goals
    obtain⟨r,hdr⟩:∃r,ss.drop (k+1)=r:=⟨_,rfl⟩
    rw[hdr] at HD hasc hlen⊢;go_wp2_with (with_reducible first|refine dn 9 rfl ?_|refine jf rfl ?_|refine cU rfl ?_);refine ai.go (bN rfl (.bool true) wr (by go_simp;simp[aB]) ?_);go_wp2_with (with_reducible first|refine dn 9 rfl ?_|refine jf rfl ?_|refine cU rfl ?_)
    refine ai.go (bN rfl (.int .u8 c.toNat) wr (by rw[hc.out];kernel_rfl) ?_);go_wp2_with (with_reducible first|refine dn 9 rfl ?_|refine cU rfl ?_);refine(Tryz.strings_IndexByte ⟨#[76,82]⟩ c.toNat wr).mono ?_;rintro e w1 ⟨rfl,rfl⟩;rw[show Lib.indexByte (⟨#[76,82]⟩:Ξ).data.toList (c.toNat:Int).toNat.toUInt8=sv by simpa using ac9.out,hsv.out];clear ac9
    go_wp2_with (with_reducible first|refine dn 9 rfl ?_|refine cU rfl ?_);refine ai.go (bN rfl (.string (aB (p1++cy r))) w1 (by go_simp;rw[χ (by rw[cE];simp;omega),gU,cE,θ (φ _)];rfl) ?_);go_wp2_with (with_reducible first|refine dn 9 rfl ?_|refine cU rfl ?_);have hia:=Bi hpk.1 r
    refine(Tryz.strings_IndexAny_laid (aB (p1++cy r)) ⟨#[76,82]⟩ w1 (by rw[cE];simp at hlen⊢;omega) (by decide) (λj b hj=>hasc b (by
     have:b∈p1++cy r:=af7 (by simpa [aB] using hj);exact ah3 _ this)) (λj b hj=>by
     have:b∈([76,82]:List Γ):=af7 hj;simp at this;rcases this with rfl|rfl<;>decide)).mono ?_
    rintro e w2 ⟨rfl,bl2⟩;have f2:aO [] w1 w2:=kG (aO.refl _ _) bl2;have ade:Lib.indexAny (aB (p1++cy r)).data.toList (⟨#[76,82]⟩:Ξ).data.toList=if r=[] then -1 else(p1.length:Int):=by simpa [aB] using hia
    rw[ade];clear hia ade bl2 hasc;have hp8:p1.length<=8:=by
     have:=hpk.1;unfold bQ at this;simp only[ξ] at this;simpa using this.1.2
    have hlk:k<=54:=by omega
    have HDR:Hid (ss.drop (k+1)=r):=hdr;clear hdr;have hps:(aB p1).size<=9223372036854775807:=by rw[cE];omega
    by_cases hr:r=[]
    all_goals
     first
      |(
        rw[χ hr];have e0:p1++cy r=p1:=by rw[hr];simp[cy]
        rw[e0];clear e0)
      |(
        rw[ζ hr];go_wp2_with (with_reducible first|refine cU rfl ?_);refine ai.go (bN rfl (.string (aB p1)) w2 (by go_simp;rw[χ (by rw[cE];simp),gU];simp) ?_))
     go_wp2_with (with_reducible first|refine bq rfl ?_|refine br rfl ?_);refine(ju (aB p1) w2 hps).mono ?_;rintro e w3 ⟨rfl,f3⟩;have hpt:bQ (aB p1).data.toList=true:=by simpa [aB] using hpk.1
     rw[hpt];clear hpt;have JR:=(fk.trans f2).trans f3;have ho3:=f3.owns (f2.owns ho (by simp));clear ho f2 f3;go_wp2_with (with_reducible first|refine bE 168 rfl ?_|refine bq rfl ?_|refine br rfl ?_);refine ai.go (bN rfl (.agg #[.string (aB p1),.int .i64 sv]) w3 (by rw[hsv.out];kernel_rfl) ?_)
     go_wp2_with (with_reducible first|refine bq rfl ?_|refine br rfl ?_);refine ai.go (fj rfl 109 168 2 24 kH _ rfl (.agg #[.string (aB p1),.int .i64 sv]) rfl rfl ?_);intro w8 b8 l8 f8 r8;go_wp2_with (with_reducible first|refine bq rfl ?_|refine br rfl ?_);have qX:=f8.owns ho3;have FS:=JR.trans f8
     have hbase:w.heap.size<=w8.heap.size:=FS.size;refine ai.go (fK rfl 109 168 2 24 kH _ _ rfl w.heap.size u4 _ _ rfl qX b8 1 1 [.string (aB p1),.int .i64 sv] rfl _ _ r8 rfl rfl (by simp[Value.oneCell']) (by omega) (by omega) (by omega) hbase ?_);intro g' cap' w9 BP f9 _;have JQ:=FS.trans f9 (by intro j hj;right;simp at hj;exact(qX.lt j hj).1)
     have XJ:w9.ownsRow w.heap.size 168 2 (.slice (some ⟨g',0,none⟩) (k+1) cap') (k+1) (b6 (ss.take (k+1))):=by
      rw[HR.out,m6];rw[hsv.out] at BP;exact BP
     clear ho3 qX BP r8 f8 f9 l8 fk JR FS hbase;go_wp2_with (with_reducible first|refine Cg rfl ?_|refine cU rfl ?_);refine ai.go (bN rfl (.int .i64 p1.length) w9 (by kernel_rfl) ?_);have hw1:wrap64 (1+(p1.length:Int))=1+p1.length:=IntWalk.wrap64_in _ (by omega);go_wp2_with (with_reducible first|refine cU rfl ?_)
     refine ai.go (bN rfl (.string (aB (cy r))) w9 (by go_simp;rw[χ (by rw[cE];simp;omega)];first|rw[x4]|rw[Aj]|rw[Aj,hr]) ?_);go_wp2_with fail
     go_roundw
     case rel=>exact⟨k+1,by simp only[HDR.out,hr],by omega,JQ,XJ⟩
     case measure=>simp[cE,hr];omega
  .obtain rfl:k=ss.length:=by omega
   rw[List.drop_length];rw[θ (by omega)] at ho;have e0:aB (cy [])=⟨#[]⟩:=rfl;rw[e0];obtain⟨ad4,cap4,hu4⟩:=bM ho;subst hu4;go_wp2_with fail;refine(DF w.heap.size _ ss wr ho h0 hl hs).mono ?_;rintro e w2 ⟨rfl,f2⟩;go_wp2_with fail
   go_ret2
   exact⟨_,rfl,f2.owns ho,fk.trans f2⟩
theorem DQ (d bl n:Nat)(vw:Φ)(x:DS)(w:Θ)(h:bv w d bl n vw x):
  Calls Tryz.prog 137 #[.pointer (some ⟨d,0,none⟩)] w λe w'=>e= .returned (.int .i64 ((aH n:Int)-(taken x n).length))/\aO [] w w':=by
 have hn:aH n<=54:=by unfold aH;omega
 have ht:=eR x n;go_enter Tryz.func137,Tryz.ntmps137;go_wp2_with fail;refine(lF d bl n vw x w h).mono ?_;rintro e w1 ⟨rfl,rfl⟩;go_wp2_with fail;refine(ma n h.lo h.hi w1).mono ?_;rintro e w2 ⟨rfl,rfl⟩;go_wp2_with fail;refine(iK d bl n vw x w2 h).mono ?_;rintro e w3 ⟨v,rfl,ho,f3⟩;obtain⟨ad,cap,hv⟩:=bM ho;subst hv
 obtain⟨tl,htl⟩:∃tl,(taken x n).length=tl:=⟨_,rfl⟩
 obtain⟨ns,hns⟩:∃ns,aH n=ns:=⟨_,rfl⟩
 have H1:Hid ((taken x n).length=tl):=htl;have H2:Hid (aH n=ns):=hns;rw[htl] at ht ho⊢;rw[hns] at hn⊢;clear htl hns;have hw1:wrap64 ((ns:Int)-tl)=ns-tl:=IntWalk.wrap64_in _ (by omega);go_wp2_with fail;go_ret;exact⟨by rw[H1.out,H2.out];rfl,f3⟩
def fg (ss:List (List Γ×Nat)):Prop:=∀p∈ss,bQ p.1=true/\p.2<=1
def DS.begin (x:DS)(n:Nat)(ss:List (List Γ×Nat)):DS×Φ:=
 if n6 x n ss ((aH n:Int)-(taken x n).length-1)=false then(x,.int .i64 7) else x.put n 3 ⟨#[]⟩ (aB (cy ss))
theorem Gu (F:List Nat)(d n:Nat)(x:DS)(base:Nat)(v:Φ)(ss:List (List Γ×Nat))(w:Θ)(h:bJ w F d n x)(hx:x.Fit 5)(eZ:x.waiting.length<55)(hv:w.ownsRow base 168 2 v ss.length (b6 ss))(hl:ss.length<=7)(hp:fg ss)(hF:∀g,v.ownBlock=some g->g∉F):
  Calls Tryz.prog 92 #[.pointer (some ⟨d,0,none⟩),v] w λe w'=>e= .returned (x.begin n ss).2/\∃F',bJ w' F' d n (x.begin n ss).1/\aO F w w'/\bZ F F' w:=by
 have hn:aH n<=54:=by unfold aH;omega
 have ht:=eR x n;obtain⟨bl,vw,hd,hFe⟩:=id h;have hp8:∀p∈ss,p.1.length<=8/\p.2<=1:=λp hpm=>⟨pd (hp p hpm).1,(hp p hpm).2⟩
 have hej:(cy ss).length<=63:=by have:=pu ss λp hpm=>(hp8 p hpm).1;omega
 obtain⟨ad,cap,hv'⟩:=bM hv;subst hv';have HB:Hid (x.begin n ss=if n6 x n ss ((aH n:Int)-(taken x n).length-1)=false then(x,.int .i64 7) else x.put n 3 ⟨#[]⟩ (aB (cy ss))):=rfl;go_enter Tryz.func92,Tryz.ntmps92;go_wp2_with fail;refine(DQ d bl n vw x w hd).mono ?_;rintro e w1 ⟨rfl,f1⟩;have hd1:=hd.new f1;have h1:=h.new f1;have hv1:=f1.owns hv
 have htl:(taken x n).length<=aH n:=ou (x.read 0) (aH n);generalize (taken x n).length=tl at*;generalize aH n=ns at*;have hw1:wrap64 ((ns:Int)-tl-1)=ns-tl-1:=IntWalk.wrap64_in _ (by omega);go_wp2_with fail;refine(DU d bl n vw x base _ ss (ns-tl-1) w1 hd1 hv1 (by omega) (λp hpm=>(hp p hpm).2) (by omega) (by omega)).mono ?_;rintro e w2 ⟨rfl,f2⟩
 have h2:=h1.new f2;have hv2:=f2.owns hv1;have fw:=f1.trans f2;have fF:aO F w w2:=fw.mono;clear hd hd1 h1 hv1 f1 f2;cases hfit:n6 x n ss (ns-tl-1) with
 |false=>
  have HB2:Hid (x.begin n ss=(x,.int .i64 7)):=by show _=_;rw[HB.out,hfit];rfl
  clear HB hfit;go_wp2_with fail;go_ret;rw[HB2.out];exact⟨rfl,F,h2,fF,bZ.refl _ _⟩
 |true=>
  have HB2:Hid (x.begin n ss=x.put n 3 ⟨#[]⟩ (aB (cy ss))):=by show _=_;rw[HB.out,hfit];rfl
  clear HB hfit;go_wp2_with fail;refine(eS w2).mono ?_;rintro e w3 ⟨rfl,f3⟩;have h3:=h2.new f3;have hv3:=f3.owns hv2;have vp:=fw.trans f3;clear h2 hv2 f3 fw fF;go_wp2_with fail;refine(Dy base _ ss w3 hv3 (by omega) hp8).mono ?_;rintro e w4 ⟨rfl,f4⟩;have h4:=h3.new f4;have yB:=vp.trans f4;clear h3 hv3 f4 vp
  go_wp2_with (with_reducible first|refine bE 107 rfl ?_);refine ai.go (bN rfl (.agg #[.int .i64 (3:Nat),.string ⟨#[]⟩,.string (aB (cy ss))]) w4 (by kernel_rfl) ?_);go_wp2_with fail;refine(wW F d n x 3 ⟨#[]⟩ (aB (cy ss)) w4 h4 hx eZ (by omega) (by decide) (by rw[cE];omega)).mono ?_;rintro e w5 ⟨rfl,F',h5,f5,g5⟩
  obtain⟨r,hr⟩:∃r,x.put n 3 ⟨#[]⟩ (aB (cy ss))=r:=⟨_,rfl⟩
  rw[hr] at h5⊢;have HB3:Hid (x.begin n ss=r):=HB2.out.trans hr;clear hr HB2;obtain⟨r1,r2⟩:=r;go_wp2_with fail;go_ret;rw[HB3.out];exact⟨rfl,F',h5,(yB.mono).trans f5 (λj hj=> .inl hj),(bZ.refl F w).trans g5 yB.size⟩
def mC:Φ->Int
 |.int _ e=>e
 |_=>0
theorem DS.Fit.weak {x:DS}{m k:Nat}(h:x.Fit (m+k)):x.Fit m:=⟨h.kb,by have:=h.ka;omega,h.j9,h.j8⟩
theorem zY {x:DS}{t o:Int}{m:Nat}(hx:x.Fit (m+2))(h:x.jq t o=true):(x.mark t o).Fit m/\(x.mark t o).waiting=[]:=by
 unfold DS.jq at h;rw[ξ] at h;unfold DS.mark;rw[χ h.1];refine⟨DS.Ac (DS.jd (r:=m+1) hx h.1) h.2,?_⟩;unfold DS.flush;rw[χ h.2]
theorem C7 {x:DS}{n s m:Nat}{p c:Ξ}(hx:x.Fit (m+5)):∃e:Int,(x.put n s p c).2= .int .i64 e/\(e=0->(x.put n s p c).1.Fit m/\(x.put n s p c).1.waiting=[]):=by
 unfold DS.put;split
 .exact⟨7,rfl,λh=>by cases h⟩
 .split
  .rename_i h1 h2
   refine⟨_,rfl,λh=>?_⟩;have h3:=(DS.BV (m:=m+2) hx h2).1;split at h
   .exact zY h3 (by assumption)
   .cases h
  .exact⟨3,rfl,λh=>by cases h⟩
theorem CZ {x:DS}{n s m:Nat}{p:Ξ}(hx:x.Fit (m+5)):∃e:Int,(x.remove n s p).2= .int .i64 e/\(e=0->(x.remove n s p).1.Fit m/\(x.remove n s p).1.waiting=[]):=by
 unfold DS.remove;split
 .exact⟨5,rfl,λh=>by cases h⟩
 .refine⟨_,rfl,λh=>?_⟩
  have h3:x.Fit (m+3+2):=hx;split at h
  .have:=zY h3 (by assumption)
   exact⟨this.1.weak (k:=3),this.2⟩
  .cases h
theorem NV {x:DS}{n m:Nat}{w:db}(hx:x.Fit (m+5)):∃e:Int,(x.sN n w).2= .int .i64 e/\(e=0->(x.sN n w).1.Fit m/\(x.sN n w).1.waiting=[]):=by
 unfold DS.sN;cases w.becomes with
 |none=>exact CZ hx
 |some c=>exact C7 hx
def DS.ft (x:DS)(n:Nat):List db->DS×Φ
 |[]=>(x,.int .i64 0)
 |w::r=>if mC (x.sN n w).2=0 then(x.sN n w).1.ft n r else x.sN n w
def DS.ll (x:DS)(n:Nat)(ss:List (List Γ×Nat)):DS×Φ:=
 if mC (x.ft n (bB x n ss)).2=0 then(x.ft n (bB x n ss)).1.remove n 3 ⟨#[]⟩ else x.ft n (bB x n ss)
theorem kr {x:DS}{n:Nat}{s:Int}{p:Ξ}{c:List Γ}(h:x.content n s p=some c):c.length<=96:=by
 unfold DS.content at h;split at h
 .rw[<-ae7 h]
  unfold bu;rw[ae1];omega
 .cases h
theorem Ir {x:DS}{n:Nat}{ss:List (List Γ×Nat)}(hp:fg ss):∀w∈bB x n ss,w.set<256/\w.path.length<256/\∀c,w.becomes=some c->c.length<256:=by
 intro w hw;unfold bB at hw;obtain⟨p,hp',hw⟩:=List.mem_flatMap.1 hw;have hpp:=hp p hp';have one:∀set,set<=2->w∈dl x n p set->w.set<256/\w.path.length<256/\∀c,w.becomes=some c->c.length<256:=λset hs hm=>by
  unfold dl at hm;split at hm
  .simp at hm
  .simp only[ad2] at hm
   subst hm;exact⟨by show set<256;omega,by have:=pd hpp.1;show p.1.length<256;omega,λc hc=>by have:=kr hc;omega⟩
 unfold fv at hw;rcases ag8.1 hw with hw|hw
 .exact one _ (by omega) hw
 .exact one _ (by omega) hw
theorem bJ.apart {w:Θ}{F:List Nat}{d n:Nat}{x:DS}(h:bJ w F d n x){b:Nat}{c:Array Φ}{t:η}(r:Row w b c t)(h1:t≠134)(h2:t≠148)(h3:t≠240):b∉F:=by
 obtain⟨bl,vw,hd,rfl⟩:=h;unfold Row at r;intro hb;rcases ab8.1 hb with rfl|hb
 .have:=hd.row
  unfold Row at this;rw[r] at this;cases this;exact h1 rfl
 rcases ab8.1 hb with rfl|hb
 .have:=hd.last
  unfold Row at this;rw[r] at this;cases this;exact h2 rfl
 .rcases hd.own.2 with⟨e,_⟩|⟨g,cap,cur,e,_,hg,_⟩
  .rw[e] at hb;simp[Value.ownBlock] at hb
  .rw[e] at hb
   have:b=g:=by simpa [Value.ownBlock] using hb
   subst this;rw[r] at hg;cases hg;exact h3 rfl
theorem Jf {w:Θ}{F:List Nat}{d n base size k:Nat}{x:DS}{v:Φ}{e:η}{xs:List Φ}(h:bJ w F d n x)(ho:w.ownsRow base e size v k xs)(h1:e≠134)(h2:e≠148)(h3:e≠240):∀j∈F,v.ownBlock≠some j:=λj hj hv=>by
 rcases ho.2 with⟨rfl,_⟩|⟨g,cap,cur,rfl,_,hg,_⟩
 .cases hv
 .have:g=j:=by simpa [Value.ownBlock] using hv
  subst this;exact h.apart (c:=cur) (t:=e) hg h1 h2 h3 hj
theorem Ib (M:Nat)(hM:M<=48)(F:List Nat)(d n:Nat)(x:DS)(ss:List (List Γ×Nat))(w:Θ)(h:bJ w F d n x)(hx:x.Fit (10*M+30))(eZ:x.waiting.length<55)(hj:x.content n 3 ⟨#[]⟩=some (cy ss))(h0:0<ss.length)(hl:ss.length<=M)(hp:fg ss)(hs:ss.Pairwise λp q=>p.1<q.1):
  Calls Tryz.prog 58 #[.pointer (some ⟨d,0,none⟩)] w λe w'=>e= .returned (x.ll n ss).2/\∃F',bJ w' F' d n (x.ll n ss).1/\aO F w w'/\bZ F F' w:=by
 obtain⟨bl,vw,hd,hFe⟩:=id h;go_enter Tryz.func58,Tryz.ntmps58;go_wp2_with fail;refine(eS w).mono ?_;rintro e w1 ⟨rfl,f1⟩;have hd1:=hd.new f1;go_wp2_with fail;refine(mS d bl n vw x 3 ⟨#[]⟩ w1 hd1).mono ?_;rintro e w2 ⟨rfl,f2⟩;have hd2:=hd1.new f2;have fw2:=f1.trans f2;rw[hj];simp only[Option.getD_some,Option.isSome_some];go_wp2_with fail
 refine(DA ss w2 h0 (by omega) hp hs).mono ?_;rintro e w3 ⟨u,rfl,ho3,f3⟩;have hd3:=hd2.new f3;have vp:=fw2.trans f3;go_wp2_with fail;refine(vV d bl n vw x _ u ss w3 hd3 ho3 (by omega) λp hpm=>(hp p hpm).2).mono ?_;rintro e w4 ⟨v,rfl,XM,f4⟩;have yB:=vp.trans f4;have h4:=h.new yB
 have hwl:(bB x n ss).length<=2*M:=by have:=gy x n ss;omega
 have hwo:=Ir (x:=x) (n:=n) hp;have HE:Hid (x.ll n ss=if mC (x.ft n (bB x n ss)).2=0 then(x.ft n (bB x n ss)).1.remove n 3 ⟨#[]⟩ else x.ft n (bB x n ss)):=rfl;generalize bB x n ss=ws at*;clear hd hd1 hd2 hd3 f1 f2 f3 f4 fw2 vp ho3;obtain⟨ad,cap,hv⟩:=bM XM;subst hv;go_wp2_with fail
 go_loopw [25] (λc wr=>∃(k:Nat) (y:DS) (G:List Nat),c= .int .i64 k/\k<=ws.length/\bJ wr G d n y/\y.Fit (5*(2*M-k)+5)/\y.waiting.length<55/\y.ft n (ws.drop k)=x.ft n ws/\aO F w4 wr/\bZ F G w4/\wr.ownsRow w3.heap.size 176 5 (Value.slice ad ws.length cap) ws.length (jI ws)) (λc _=>ws.length-(intOf c).toNat)
 case atStart=>exact⟨0,x,F,rfl,by omega,h4,DS.Fit.weak (k:=25) (by rw[show 5*(2*M-0)+5+25=10*M+30 by omega];exact hx),eZ,by simp,aO.refl _ _,bZ.refl _ _,XM⟩
 case round=>
  obtain⟨k,y,G,rfl,hk,hy,KL,hyw,hdo,fk,gk,hok⟩:=hrel
  by_cases hlt:k<ws.length
  .have hGa:=Jf hy hok (by decide) (by decide) (by decide)
   obtain⟨g,cur,ahW,hg,hle,_,hcs,htk⟩:=dL hok;have hat:((cur.toList.drop (k*5)).take 5)=ws[k].vals:=by
    rw[bX htk _ _,BS ws k hlt]
   have hd:y.ft n (ws.drop k)=if mC (y.sN n ws[k]).2=0 then(y.sN n ws[k]).1.ft n (ws.drop (k+1)) else y.sN n ws[k]:=by
    rw[ae5 hlt];rfl
   rw[hd] at hdo;obtain⟨m,hm⟩:∃m,5*(2*M-k)+5=m+5:=⟨_,rfl⟩
   have hm2:m=5*(2*M-(k+1))+5:=by omega
   rw[hm] at KL;obtain⟨e,he,hgood⟩:=NV (n:=n) (w:=ws[k]) KL;have hwk:=hwo ws[k] (af4 hlt);clear hd hcs htk;generalize ws[k]=wd at*;subst ahW;go_wp2_with (with_reducible first|refine ay rfl ?_|refine ax 176 rfl ?_|refine ah 176 rfl ?_);refine ai.go (bV rfl 176 _ rfl g (k*5) rfl E3 5 sw _ _ hg _ hat rfl ?_);clear hat hg
   go_wp2_with (with_reducible first|refine ay rfl ?_|refine ah 176 rfl ?_);refine ai.go (bh rfl 176 rfl _ GC ?_);intro w5 b7 l7 f5 r5;go_wp2_with (with_reducible first|refine ay rfl ?_|refine ax 176 rfl ?_|refine ah 176 rfl ?_);refine ai.go (bP rfl 176 _ _ rfl _ 0 rfl _ rfl 5 sw ?_ ?_ _ _ r5 ?_ ?_)
   .rfl
   .simp[db.vals,Value.oneCell']
   .decide
   intro w6 f6 q6;rw[bG _ _ (by rfl)] at q6;have Wj:Row w6 b7 wd.vals.toArray 176:=q6;have Bq:aO [] wr w6:=f5.trans f6 (by simpa using l7);have hy6:=hy.new Bq;have ahG:=Bq.owns hok;clear q6 r5 f5 f6 hok hy;go_wp2_with (with_reducible first|refine ay rfl ?_|refine ax 176 rfl ?_)
   refine ai.go (bV rfl 176 _ rfl b7 0 rfl E3 5 sw _ _ Wj wd.vals (by rfl) rfl ?_);clear Wj;go_wp2_with fail;refine(NU G d n y wd w6 hy6 ⟨KL.kb,by have:=KL.ka;omega,KL.j9,KL.j8⟩ hyw hwk.1 hwk.2.1 hwk.2.2).mono ?_;rintro e w7 ⟨rfl,G',h7,f7,g7⟩
   have YS:aO F w4 w7:=fk.trans ((Bq.mono).trans f7 (λj hj=> .inl hj):aO G wr w7) (λj hj=>gk j hj);have gk7:bZ F G' w4:=gk.trans (bZ.trans (bZ.refl G wr) g7 Bq.size) fk.size;have ahF:=f7.owns ahG hGa;rw[he] at hdo⊢;have HD:Hid (x.ft n ws=if mC (.int .i64 e)=0 then(y.sN n wd).1.ft n (ws.drop (k+1)) else y.sN n wd):=hdo.symm
   have HP:Hid (y.sN n wd=((y.sN n wd).1,.int .i64 e)):=Prod.ext rfl he;clear hdo he;generalize (y.sN n wd).1=z at*
   by_cases KM:e=0
   .subst KM
    obtain⟨hzf,hzw⟩:=hgood rfl;have HD2:Hid (x.ft n ws=z.ft n (ws.drop (k+1))):=HD.out;clear hgood HD HP;go_wp2_with fail
    go_roundw
    case rel=>exact⟨k+1,z,G',by go_num,by omega,h7,hm2▸hzf,by rw[hzw];decide,HD2.out.symm,YS,gk7,ahF⟩
    case measure=>simp[intOf];omega
   .have adj:(e==0)=false:=by simpa using KM
    have HD2:Hid (x.ll n ss=(z,.int .i64 e)):=by
     have h1:x.ft n ws=(z,.int .i64 e):=by rw[HD.out,ζ (by simpa [mC] using KM),HP.out]
     show _=_;rw[HE.out,h1,ζ (by simpa [mC] using KM)]
    clear hgood HD HP HE;go_wp2_with fail;go_ret;rw[HD2.out];exact⟨rfl,G',h7,(yB.mono).trans YS (λj hj=> .inl hj),(bZ.refl F w).trans gk7 yB.size⟩
  .obtain rfl:k=ws.length:=by omega
   rw[List.drop_length] at hdo;have HD2:Hid (x.ll n ss=y.remove n 3 ⟨#[]⟩):=by
    have h1:x.ft n ws=(y,.int .i64 0):=hdo.symm;show _=_;rw[HE.out,h1];rfl
   clear hdo HE hok;go_wp2_with fail;refine(eS wr).mono ?_;rintro e w5 ⟨rfl,f5⟩;have h5:=hy.new f5;go_wp2_with fail;refine(oV G d n y 3 ⟨#[]⟩ w5 h5 ⟨KL.kb,by have:=KL.ka;omega,KL.j9,KL.j8⟩ (by omega)).mono ?_;rintro e w6 ⟨rfl,G',h6,f6,g6⟩;obtain⟨r,hr⟩:∃r,y.remove n 3 ⟨#[]⟩=r:=⟨_,rfl⟩
   rw[hr] at h6⊢;have HD3:Hid (x.ll n ss=r):=HD2.out.trans hr;clear hr HD2;obtain⟨r1,r2⟩:=r;go_wp2_with fail;go_ret;rw[HD3.out];have Bq:aO F w4 w6:=fk.trans ((f5.mono).trans f6 (λj hj=> .inl hj):aO G wr w6) (λj hj=>gk j hj);have gk6:bZ F G' w4:=gk.trans (bZ.trans (bZ.refl G wr) g6 f5.size) fk.size
   exact⟨rfl,G',h6,(yB.mono).trans Bq (λj hj=> .inl hj),(bZ.refl F w).trans gk6 yB.size⟩
theorem NL (F:List Nat)(d n:Nat)(x:DS)(ss:List (List Γ×Nat))(w:Θ)(h:bJ w F d n x)(hx:x.Fit 100)(eZ:x.waiting.length<55)(hj:x.content n 3 ⟨#[]⟩=some (cy ss))(h0:0<ss.length)(hl:ss.length<=7)(hp:fg ss)(hs:ss.Pairwise λp q=>p.1<q.1):
  Calls Tryz.prog 58 #[.pointer (some ⟨d,0,none⟩)] w λe w'=>e= .returned (x.ll n ss).2/\∃F',bJ w' F' d n (x.ll n ss).1/\aO F w w'/\bZ F F' w:=Ib 7 (by omega) F d n x ss w h hx eZ hj h0 hl hp hs
theorem Qg (x:DS)(n s:Nat)(p c:Ξ):∃e:Int,(x.put n s p c).2= .int .i64 e:=by
 unfold DS.put;split
 .exact⟨_,rfl⟩
 .split<;>exact⟨_,rfl⟩
theorem wT (x:DS)(n s:Nat)(p:Ξ):∃e:Int,(x.remove n s p).2= .int .i64 e:=by
 unfold DS.remove;split<;>exact⟨_,rfl⟩
theorem Af (n:Nat):∀(ws:List db) (x:DS),∃e:Int,(x.ft n ws).2= .int .i64 e
 |[],_=>⟨0,rfl⟩
 |w::r,x=>by
  unfold DS.ft;split
  .exact Af n r _
  .unfold DS.sN
   cases w.becomes with
   |none=>exact wT ..
   |some c=>exact Qg ..
theorem NO (x:DS)(n:Nat)(ss:List (List Γ×Nat)):∃e:Int,(x.ll n ss).2= .int .i64 e:=by
 unfold DS.ll;split
 .exact wT ..
 .exact Af ..
theorem yh {x:DS}{n m:Nat}{ss:List (List Γ×Nat)}(hx:x.Fit (m+5)):∃e:Int,(x.begin n ss).2= .int .i64 e/\(e=0->(x.begin n ss).1.Fit m/\(x.begin n ss).1.waiting=[]):=by
 unfold DS.begin;split
 .exact⟨7,rfl,λh=>by cases h⟩
 .exact C7 hx
def DS.xX (x:DS)(n:Nat)(ss:List (List Γ×Nat)):DS×Φ:=
 if ss=[] then(x,.int .i64 0) else if mC (x.begin n ss).2=0 then(x.begin n ss).1.ll n ss else x.begin n ss
theorem R5 (x:DS)(n:Nat)(ss:List (List Γ×Nat))(hx:x.Fit 105):∃e:Int,(x.xX n ss).2= .int .i64 e:=by
 unfold DS.xX;split
 .exact⟨0,rfl⟩
 .split
  .exact NO ..
  .exact(yh (m:=100) hx).imp λe h=>h.1
theorem aP.moved {w w':Θ}{F F':List Nat}{s d n:Nat}{x x':DS}(h:aP w F s d n x)(hd:bJ w' F' d n x')(f:aO F w w')(g:bZ F F' w):aP w' F' s d n x':=
 ⟨f.row h.row h.ne,hd,λhF=>(g s hF).elim h.ne (λhh=>by have:=h.row.lt;omega)⟩
theorem R0 (F:List Nat)(s d n:Nat)(x:DS)(base:Nat)(v:Φ)(ss:List (List Γ×Nat))(w:Θ)(h:aP w F s d n x)(hx:x.Fit 105)(eZ:x.waiting.length<55)(hv:w.ownsRow base 168 2 v ss.length (b6 ss))(hl:ss.length<=7)(hp:fg ss)(hs:ss.Pairwise λp q=>p.1<q.1)
  (hF:∀g,v.ownBlock=some g->g∉F) (hB:mC (x.begin n ss).2=0->(x.begin n ss).1.content n 3 ⟨#[]⟩=some (cy ss)):
  Calls Tryz.prog 56 #[.pointer (some ⟨s,0,none⟩),v] w λe w'=>e= .returned (x.xX n ss).2/\(∃F',aP w' F' s d n (x.xX n ss).1/\bZ F F' w)/\aO F w w':=by
 have c0:=h.cell;obtain⟨ad,cap,hv'⟩:=bM hv;subst hv';have HD:Hid (x.xX n ss=if ss=[] then(x,.int .i64 0) else if mC (x.begin n ss).2=0 then(x.begin n ss).1.ll n ss else x.begin n ss):=rfl;go_enter Tryz.func56,Tryz.ntmps56
 by_cases h0:ss.length=0
 .have HD2:Hid (x.xX n ss=(x,.int .i64 0)):=HD.out.trans (χ (List.length_eq_zero_iff.1 h0))
  rw[h0];clear HD hv hs hp hB hl h0;go_wp2_with fail;go_ret;rw[HD2.out];exact⟨rfl,⟨F,h,bZ.refl _ _⟩,aO.refl _ _⟩
 .have hne:ss≠[]:=λe=>h0 (by rw[e];rfl)
  have h0':0<ss.length:=by omega
  have hlb:((ss.length:Int)==0)=false:=by simp;omega
  obtain⟨e1,he1,hgood⟩:=yh (m:=100) (n:=n) (ss:=ss) hx;go_wp2_with fail;refine(Gu F d n x base _ ss w h.disk ⟨hx.kb,by have:=hx.ka;omega,hx.j9,hx.j8⟩ eZ hv hl hp hF).mono ?_;rintro e w1 ⟨rfl,F1,h1,f1,g1⟩;have hs1:=h.moved h1 f1 g1;have c1:=hs1.cell;rw[he1] at hB HD⊢;have HB:Hid (x.begin n ss=((x.begin n ss).1,.int .i64 e1)):=Prod.ext rfl he1;clear he1 c0 h0
  generalize (x.begin n ss).1=y at*
  by_cases KM:e1=0
  .subst KM
   obtain⟨KL,hyw⟩:=hgood rfl;have HD2:Hid (x.xX n ss=y.ll n ss):=HD.out.trans (ζ hne);have hjy:=hB rfl;clear HD HB hB hgood hlb;go_wp2_with fail;refine(NL F1 d n y ss w1 h1 KL (by rw[hyw];decide) hjy h0' hl hp hs).mono ?_;rintro e w2 ⟨rfl,F2,h2,f2,g2⟩;obtain⟨r,hr⟩:∃r,y.ll n ss=r:=⟨_,rfl⟩
   rw[hr] at h2⊢;have HD3:Hid (x.xX n ss=r):=HD2.out.trans hr;clear hr HD2;obtain⟨r1,r2⟩:=r;go_wp2_with fail;go_ret;rw[HD3.out];exact⟨rfl,⟨F2,hs1.moved h2 f2 g2,g1.trans g2 f1.size⟩,f1.trans f2 (λj hj=>g1 j hj)⟩
  .have adj:(e1==0)=false:=by simpa using KM
   have HD2:Hid (x.xX n ss=(y,.int .i64 e1)):=HD.out.trans ((ζ hne).trans ((ζ (by simpa [mC] using KM)).trans HB.out));clear HD HB hB hgood hlb;go_wp2_with fail;go_ret;rw[HD2.out];exact⟨rfl,⟨F1,hs1,g1⟩,f1⟩
theorem En (b:List Γ):(aB b).toList=b:=by rw[ByteArray.toList_eq];rfl
theorem By:Tryz.prog.cellsOf 9=1:=by kernel_rfl
end
section
open Go.RowKit Go.Lib Go.Sort
section
variable {L:List Γ}{n:Nat}{m:dy}
theorem mT.loose (h:mT L n m){j:Nat}{b:List Γ}(hj:j<n)(h0:j≠0)(hb:b.length=64)(hf:∀i f,m i=some f->j≠1+2*i/\j≠2+2*i):mT (bL L ((j:Int),b)) n m where
 len:=He L n h.len j hj b hb
 lo:=h.lo
 root:=by rw[jK L n h.len j hj b hb,ζ (by omega),h.root]
 recs i f hm:=by
  have h1:=hf i f hm;rw[jK L n h.len j hj b hb,jK L n h.len j hj b hb,ζ (by omega),ζ (by omega),h.recs i f hm]
 lt:=h.lt
 good:=h.good
 inj:=h.inj
theorem xL {i:Nat}(hi:m i=none){j:Nat}(hj:j=1+2*i\/j=2+2*i):∀k f,m k=some f->j≠1+2*k/\j≠2+2*k:=by
 intro k f hk;have:k≠i:=λe=>by subst e;rw[hi] at hk;cases hk
 omega
def qI (m:dy)(o:Int):dy:=if o=-1 then m else upd m o.toNat none
def after (m:dy)(i:Nat)(f:cH)(o:Int):dy:=qI (upd m i (some f)) o
theorem rS (m:dy)(o:Int)(ho:-1<=o/\o<54):fS (d6 n m) o 0=d6 n (qI m o):=by
 unfold fS qI;split
 .rfl
 .exact CM n m o.toNat (by omega) none
theorem Ba (m:dy)(i:Nat)(hi:i<54)(f:cH)(o:Int)(ho:-1<=o/\o<54):aX (d6 n m) i o=d6 n (after m i f o):=by
 unfold aX after;have:fS (d6 n m) (i:Int) 1=d6 n (upd m i (some f)):=by
  unfold fS;rw[ζ (by omega)];exact CM n m i hi (some f)
 rw[this,rS _ o ho]
theorem y4 (m:dy)(o:Int)(ho:-1<=o/\o<54):aX (d6 n m) (-1) o=d6 n (qI m o):=by
 unfold aX;rw[show fS (d6 n m) (-1) 1=d6 n m from rfl,rS _ o ho]
theorem gn {m:dy}{o:Int}{j:Nat}{f:cH}(h:qI m o j=some f):m j=some f/\(0<=o->o.toNat≠j):=by
 unfold qI at h;split at h
 .exact⟨h,by omega⟩
 .unfold upd at h
  split at h
  .cases h
  .rename_i hne
   exact⟨h,λ_ e=>hne e.symm⟩
theorem rj {m:dy}{o:Int}{j:Nat}(h:o=-1\/(0<=o/\o≠j)):qI m o j=m j:=by
 unfold qI;split
 .rfl
 .unfold upd
  rw[ζ (by omega)]
theorem mT.rooted (h:mT L n m){m':dy}(hn:0<n)(hr:∀i f,m' i=some f->jk L (1+2*i)++jk L (2+2*i)=cB f.set f.path f.content)(hl:∀i f,m' i=some f->i<aH n)
  (hg:∀i f,m' i=some f->cT f.set f.path=true/\f.content.length<=96) (hi:∀i j f g,m' i=some f->m' j=some g->nameOf f=nameOf g->i=j):mT (bL L (0,d6 n m')) n m' where
 len:=He L n h.len 0 hn _ (iT _ _)
 lo:=h.lo
 root:=by
  have:=jK L n h.len 0 hn _ (iT n m') 0;rw[χ rfl] at this;exact this
 recs i f hm:=by
  have h1:=jK L n h.len 0 hn _ (iT n m') (1+2*i);have h2:=jK L n h.len 0 hn _ (iT n m') (2+2*i);rw[ζ (by omega)] at h1 h2;show jk (bL L (((0:Nat):Int),d6 n m')) _++jk (bL L (((0:Nat):Int),d6 n m')) _=_;rw[h1,h2];exact hr i f hm
 lt:=hl
 good:=hg
 inj:=hi
theorem mT.dropped (h:mT L n m)(o:Int):mT (bL L (0,d6 n (qI m o))) n (qI m o):=
 h.rooted (by have:=h.lo;omega) (λi f hm=>h.recs i f (gn hm).1) (λi f hm=>h.lt i f (gn hm).1) (λi f hm=>h.good i f (gn hm).1)
  λi j f g hf hg e=>h.inj i j f g (gn hf).1 (gn hg).1 e
theorem iE {m:dy}{i:Nat}{f:cH}{o:Int}{j:Nat}{g:cH}(h:after m i f o j=some g):(j=i/\g=f)\/(j≠i/\m j=some g/\(0<=o->o.toNat≠j)):=by
 unfold after at h;obtain⟨h1,h2⟩:=gn h;unfold upd at h1;split at h1
 .rename_i e
  exact .inl ⟨e,(ae7 h1).symm⟩
 .rename_i e
  exact .inr ⟨e,h1,h2⟩
theorem mT.put (h:mT L n m){i:Nat}{f:cH}{o:Int}(hi:i<aH n)(hrec:jk L (1+2*i)++jk L (2+2*i)=cB f.set f.path f.content)
  (hg:cT f.set f.path=true/\f.content.length<=96) (ho:∀j g,m j=some g->nameOf g=nameOf f->o=j):mT (bL L (0,d6 n (after m i f o))) n (after m i f o):=by
 refine h.rooted (by have:=h.lo;omega) (λj g hm=>?_) (λj g hm=>?_) (λj g hm=>?_) λj k g g' hj hk e=>?_
 .rcases iE hm with⟨rfl,rfl⟩|⟨_,h1,_⟩
  .exact hrec
  .exact h.recs j g h1
 .rcases iE hm with⟨rfl,rfl⟩|⟨_,h1,_⟩
  .exact hi
  .exact h.lt j g h1
 .rcases iE hm with⟨rfl,rfl⟩|⟨_,h1,_⟩
  .exact hg
  .exact h.good j g h1
 .rcases iE hj with⟨rfl,rfl⟩|⟨_,h1,h2⟩
  .rcases iE hk with⟨rfl,rfl⟩|⟨_,h3,h4⟩
   .rfl
   .have:=ho k g' h3 e.symm
    have:=h4 (by omega);omega
  .rcases iE hk with⟨rfl,rfl⟩|⟨_,h3,h4⟩
   .have:=ho j g h1 e
    have:=h2 (by omega);omega
   .exact h.inj j k g g' h1 h3 e
end
def half (r:List Γ)(k:Nat):List Γ:=(r.drop (k*64)).take 64
theorem DL (r:List Γ)(h:r.length=128)(k:Nat)(hk:k<2):(half r k).length=64:=by
 unfold half;rw[ae1,List.length_drop];omega
theorem halves (r:List Γ)(h:r.length=128):half r 0++half r 1=r:=by
 unfold half;simp only[Nat.zero_mul,List.drop_zero,Nat.one_mul];rw[θ (l:=r.drop 64) (by rw[List.length_drop];omega),List.take_append_drop]
def E6 (L:List Γ)(i:Nat)(r:List Γ):List Γ:=bL (bL L ((1+2*i:Nat),half r 0)) ((2+2*i:Nat),half r 1)
section
variable (L:List Γ)(a k kp:Int)(n s:Nat)(p c:Ξ)(i:Nat)(o:Int)(root r:List Γ)
theorem LQ (hr:cB s p.data.toList c.data.toList=r)
  (hfi:dQ ⟨L,[],a,false,k,kp,false⟩ n=i) (hsl:cK ⟨L,[],a,false,k,kp,false⟩ s p (taken ⟨L,[],a,false,k,kp,false⟩ n)=o) (hroot:seenIn (E6 L i r) [] 0=root):
  (⟨L,[],a,false,k,kp,false⟩:DS).put n s p c=(⟨bL (E6 L i r) (0,aX root i o),[],a+5,false,k,kp,false⟩,.int .i64 0):=by
 have e:bL (bL L ((1+2*i:Nat),List.take 64 r)) ((2+2*i:Nat),List.take 64 (List.drop 64 r))=E6 L i r:=by simp[E6,half]
 unfold DS.put;rw[hfi,hsl,hr,ζ (by omega)];simp[DS.jV,DS.oe,DS.wr,DS.write,DS.bp,DS.jc,DS.flush,DS.mark,DS.jq,cO,jp,DS.read];rw[show 1+2*(i:Int)=((1+2*i:Nat):Int) by omega,show((1+2*i:Nat):Int)+1=((2+2*i:Nat):Int) by omega,e,hroot];simp;omega
theorem CY (x:DS)(hsl:cK x s p (taken x n)=-1):x.remove n s p=(x,.int .i64 5):=by
 unfold DS.remove;rw[χ hsl]
theorem C0 (hsl:cK ⟨L,[],a,false,k,kp,false⟩ s p (taken ⟨L,[],a,false,k,kp,false⟩ n)=o)(ho:o≠-1)(hroot:seenIn L [] 0=root):
  (⟨L,[],a,false,k,kp,false⟩:DS).remove n s p=(⟨bL L (0,aX root (-1) o),[],a+2,false,k,kp,false⟩,.int .i64 0):=by
 unfold DS.remove;rw[hsl,ζ ho];simp[DS.write,DS.bp,DS.jc,DS.flush,DS.mark,DS.jq,cO,jp,DS.read,hroot];omega
end
end
section
open Go.RowKit Go.Lib
theorem aP.xJ {w w':Θ}{S F:List Nat}{s d n:Nat}{x:DS}(h:aP w F s d n x)(f:aO S w w')(h1:s∉S)(h2:∀k∈S,k∉F):aP w' F s d n x:=⟨f.row h.row h1,h.disk.xJ f h2,h.ne⟩
theorem xQ {P:ω}{w:Θ}{o:Oper}{ρ:aa8->Φ}(src dst e:η)(x:aa8)(ho:o.op= .convert src dst x)(hs:P.underlying src=some (.slice e))(he:P.underlying e=some (.int .u8))(hd:P.underlying dst=some .string)
  (b n c:Nat) (hx:ρ x= .slice (some ⟨b,0,none⟩) n c) (l:List Γ) (hn:l.length=n) (hc:∀j,(hj:j<l.length)->w.cell? ⟨b,j,none⟩=some (.int .u8 (l[j].toNat:Int))):
  (execOp ρ o).run P w= .ok (.value (.string (aB l))) w:=by
 subst hn;have:=run_convert_bytes_back (P:=P) w src dst e ⟨b,0,none⟩ c l hs he hd (λj hj=>by
  rw[Addr.add_mid,Nat.zero_add];exact hc j hj)
 simp only[execOp,ho,hx,Sem.run_bind,this];rfl
theorem Ey {P:ω}{ops:Array Oper}{Q:Exit->Act->Θ->Prop}{n m:Nat}{l:List Nat}{a:Act}{w:Θ}(i j k:Nat)(hr:Region.ready .any ops (marks n l)=[i,j,k])(hi:i<n)(hj:j<n)(hk:k<n)(h1:Step P ops Q n m l i a w)(h2:Step P ops Q n m l j a w)(h3:Step P ops Q n m l k a w):yv P ops Q n (m+1) l a w:=
 Gx [i,j,k] (by simp) hr (by simp[hi,hj,hk]) (by simp[h1,h2,h3])
theorem zj (s:Ξ):(dj s).size<=96:=by
 unfold dj;split
 .rw[ByteArray.size_extract];omega
 .omega
def eJ (k sd pt:Int)(ct:Ξ):Array Φ:=#[.int .i64 k,.int .i64 sd,.int .i64 pt,.string ct]
def DS.act (x:DS)(n:Nat)(k sd pt:Int)(ct:Ξ):DS×Φ:=
 if bD k 4=2 then x.gB n (bD sd 2) (ie (bD pt 7)) else x.mF n (bD sd 2) (ie (bD pt 7)) (dj ct)
end
section
open Go.RowKit Go.Lib Go.Sort
theorem Ec (c:Ξ):(dj c).data.toList.length<=96:=by
 unfold dj;split
 .have:(c.extract 0 96).size<=96:=by rw[ByteArray.size_extract];omega
  simpa using this
 .have:c.size<=96:=by omega
  simpa using this
theorem Ff (k:Nat)(hk:k<7)(s:Nat)(hs:s<=2):cT s (nV k)=true:=by
 unfold cT;rw[χ (by omega)];exact(De k hk).1
theorem Je (k:Nat)(hk:k<7):nV k∈P7:=Fs.2 ⟨k,hk,rfl⟩
theorem xK (x:DS)(n:Nat)(h:x.waiting=[]):dQ x n=dY (jk x.aJ 0) (aH n) (aH n) 0:=by
 unfold dQ;rw[pR x h]
section
variable {L:List Γ}{n:Nat}{m:dy}
theorem owner (h:mT L n m)(s:Nat)(p:List Γ):∃o:Int,(∀x:DS,x.aJ=L->x.waiting=[]->cK x s (aB p) (taken x n)=o)/\-1<=o/\o<54/\(∀j g,m j=some g->nameOf g=(s,p)->o=j)/\(o≠-1->∃g,m o.toNat=some g/\nameOf g=(s,p)):=by
 by_cases hx:∃j g,m j=some g/\nameOf g=(s,p)
 .obtain⟨j,g,hg,e⟩:=hx
  have hlt:=h.lt j g hg;have:=mN n;have e':=e;unfold nameOf at e';simp only[af8] at e';refine⟨j,λx hl hw=>?_,by omega,by omega,λk g' hk ek=>?_,λ_=>⟨g,by simpa using hg,e⟩⟩
  .subst hl
   have:=CT h hw hg;rw[e'.1,e'.2] at this;exact this
  .rw[h.inj k j g' g hk hg (ek.trans e.symm)]
 .refine⟨-1,λx hl hw=>?_,by omega,by omega,λj g hg e=>absurd ⟨j,g,hg,e⟩ hx,λh=>absurd rfl h⟩
  subst hl;exact qT h hw s p λj g hg e=>hx ⟨j,g,hg,e⟩
end
theorem I6 (n:Nat)(h:16<=n):mT (fD n) n λ_=>none where
 len:=by unfold fD;rw[af1,jD,List.length_replicate];omega
 lo:=h
 root:=by
  unfold fD jk;rw[Nat.mul_zero,List.drop_zero,List.take_append_of_le_length (by rw[jD];omega),θ (by rw[jD];omega)];have:=wP n (λ_=>none) 0 (by simp);rw[<-this];rfl
 recs:=λi f hm=>by cases hm
 lt:=λi f hm=>by cases hm
 good:=λi f hm=>by cases hm
 inj:=λi j f g hm=>by cases hm
end
section
open Go.RowKit Go.Lib
theorem aO.cell {S:List Nat}{w w':Θ}(h:aO S w w'){a:Addr}{v:Φ}(hc:w.cell? a=some v)(ha:a.block∉S):w'.cell? a=some v:=by
 unfold World.cell? at hc⊢;cases hb:w.heap[a.block]? with
 |none=>rw[hb] at hc;cases hc
 |some o=>
  rw[h.block a.block (Ψ.1 hb).1 ha,hb];rw[hb] at hc;exact hc
structure qk where
 kind:Int
 side:Int
 path:Int
 content:Ξ
def xN (x:Int):Prop:=-9223372036854775808<=x/\x<=9223372036854775807
def qk.Ok (a:qk):Prop:=xN a.kind/\xN a.side/\xN a.path
def qk.cells (a:qk):Array Φ:=eJ a.kind a.side a.path a.content
def OQ (w:Θ)(ad:Option Addr)(l:List qk):Prop:=∀j,(hj:j<l.length)->(l[j]).Ok/\∃b off,ad=some ⟨b,off,none⟩/\w.rangeAt b (off+j*4) (l[j]).cells.toList
theorem DD:(Tryz.prog.info? 24).map (·.size)=some 4:=by kernel_rfl
def DS.calm (L:List Γ)(a:Int):DS:=⟨L,[],a,false,0,0,false⟩
theorem mR (L:List Γ)(a:Int)(r:Nat)(h0:0<=a)(h1:a+r<=1000000000:=by omega):(DS.calm L a).Fit r:=⟨h0,h1,by show(0:Int)<=0;omega,by show(0:Int)<=_;omega⟩
def xO:Ξ:=⟨#[102,105,114,115,116]⟩
section
variable {P:ω}{ops:Array Oper}{Q:Exit->Act->Θ->Prop}{a:Act}{w:Θ}{rest:List Oper}{o:Oper}
theorem kz (hg:o.guard=none)(t:η)(x y:aa8)(ho:o.op= .store t x y)(b:Nat)(hx:a.eval x= .pointer (some ⟨b,0,none⟩))
  (cells:Array Φ) (hy:a.eval y= .agg cells) (hi:(P.info? t).map (·.size)=some cells.size) (h1:∀v∈cells.toList,v.oneCell'=true)
  (c:Array Φ) (u:η) (hr:Row w b c u) (hc:c.size=cells.size)
  (h:∀w1:Θ,aO [b] w w1->Row w1 b cells u->wpList P ops Q rest (a.put o.dst undef) w1):wpList P ops Q (o::rest) a w:=by
 refine bP hg t x y ho b 0 hx cells hy cells.size hi rfl h1 c u hr (by omega) λw1 f1 r1=>h w1 f1 ?_
 rw[bG _ _ (by rw[hc,Array.length_toList]),Array.toArray_toList] at r1;exact r1
end
end
section
open Go.RowKit Go.Lib Go.Sort
open Go.Conc (base G)
def pH (w:Θ):Prop:=∃c t f,w.heap[0]? =some (.cells c t f)/\∀v∈c,∀r,¬Value.Has r v
theorem pH.blk {S:List Nat}{w w':Θ}(h:pH w)(f:dN S w w')(h0:0∉S):pH w':=by
 obtain⟨c,t,fz,h1,h2⟩:=h;exact⟨c,t,fz,(f.block 0 (Ψ.1 h1).1 h0).trans h1,h2⟩
theorem bZ.zero {F F':List Nat}{w:Θ}(g:bZ F F' w)(hg:pH w)(h:0∉F):0∉F':=λh0=>by
 obtain⟨c,t,fz,h1,h2⟩:=hg;have:=(Ψ.1 h1).1;rcases g 0 h0 with q|q
 .exact h q
 .omega
theorem aP.az {w:Θ}{F:List Nat}{s d n:Nat}{x:DS}(h:aP w F s d n x)(t:Go.Proofs.YtchcmhodnkgojaaGreat.dZ)(k:Nat):aP (az w t k) F s d n x:=by
 obtain⟨h1,⟨bl,vw,⟨a1,a2,a3,a4,a5,a6,a7,a8,a9,a10,a11,a12,a13⟩,hF⟩,h3⟩:=h;exact⟨h1,⟨bl,vw,⟨a1,a2,a3,a4,a5,a6,a7,a8,a9,a10,a11,a12,a13⟩,hF⟩,h3⟩
theorem bv.blk {w w':Θ}{S:List Nat}{d bl n:Nat}{vw:Φ}{x:DS}(h:bv w d bl n vw x)(f:dN S w w')(h1:d∉S)(h2:bl∉S)(h3:∀k∈S,vw.ownBlock≠some k):bv w' d bl n vw x:=
 {h with row:=(f.block d h.row.lt h1).trans h.row,last:=(f.block bl h.last.lt h2).trans h.last,own:=World.ownsRow.aih h.own f λg hg hS=>h3 g hS hg}
theorem aP.blk {w w':Θ}{F S:List Nat}{s d n:Nat}{x:DS}(h:aP w F s d n x)(f:dN S w w')(h1:s∉S)(h2:∀k∈S,k∉F):aP w' F s d n x:=by
 obtain⟨bl,vw,hd,rfl⟩:=h.disk;exact⟨(f.block s h.row.lt h1).trans h.row,⟨bl,vw,hd.blk f (λe=>h2 _ e (by simp)) (λe=>h2 _ e (by simp)) (λk hk e=>h2 k hk (by simp[e])),rfl⟩,h.ne⟩
theorem aP.rd {w:Θ}{F:List Nat}{s d n:Nat}{x:DS}(h:aP w F s d n x)(hg:pH w)(hw:x.waiting=[]):∃bl,aG.fQ d bl n x w:=by
 obtain⟨bl,vw,hd,rfl⟩:=h.disk;have:=hd.nil hw;subst this;exact⟨bl,⟨⟨_,hd.row⟩,⟨_,hd.last⟩,hg,hd.len,hd.lo,hd.hi,hw⟩⟩
def sZ (x:DS)(n:Nat)(ps:List (List Γ)):Prop:=ps.Pairwise (·<=·)/\ps.Nodup/\∀l,l∈ps↔aG.comb (hY x n 0 (aB l)) (hY x n 1 (aB l))≠none
theorem zB {ps:List (List Γ)}(h:ps.Pairwise (·<=·))(hn:ps.Nodup):ps.Pairwise (·<·):=
 (h.and hn).imp fun {a b} hab=>by
  rcases List.le_iff_lt_or_eq.1 hab.1 with q|q
  .exact q
  .exact absurd q hab.2
theorem yH (fa fb:aG.iJ){ps:List (List Γ)}(h:ps.Pairwise (·<·)):(iw fa fb ps).Pairwise λp q=>p.1<q.1:=by
 unfold iw;refine List.Pairwise.filterMap _ (λa b hab p hp q hq=>?_) h;obtain⟨_,_,rfl⟩:=τ.1 hp;obtain⟨_,_,rfl⟩:=τ.1 hq;exact hab
def eL (x:DS)(n:Nat)(ps:List (List Γ)):List (List Γ×Nat):=iw (hY x n 0) (hY x n 1) ps
def lS (x:DS)(n:Nat)(ps:List (List Γ)):List (List Γ):=jx (hY x n 0) (hY x n 1) ps
theorem ez:(Tryz.prog.info? 58).map (·.size)=some 2:=by kernel_rfl
def eg:Φ:= .agg #[.int .i64 0,.slice none 0 0]
theorem lA:(Tryz.prog.info? 58).map (·.zero)=some (some eg):=by kernel_rfl
theorem kj {fn:Func}{tp tq:Tmp}{ty:η}(hf:fn.results=#[.cell tp ty,.tmp tq])(tmps:Array Φ)(w:Θ)(b:Nat)(c:Array Φ)(u:η)(hp:tmps.getD tp undef= .pointer (some ⟨b,0,none⟩))(hr:Row w b c u)(hi:(Tryz.prog.info? ty).map (·.size)=some c.size)(hu:(Tryz.prog.underlying ty).map (λd=>match d with|.struct _|.array _ _=>true|_=>false)=some true:=by kernel_rfl):(results fn tmps).run Tryz.prog w= .ok (.tuple #[.agg c,tmps.getD tq undef]) w:=by
 obtain⟨d,hu',hd'⟩:=τ.1 hu;have hp':tmps[tp]?.getD undef= .pointer (some ⟨b,0,none⟩):=by simpa using hp
 have hl:=run_loadVar_row w b u ty c (0,0) d hr hu' (by revert hd' hu';cases d<;>intro x y<;>first|rfl|cases y) hi;simp[results,hf,hp',asAddr,hl]
theorem aey {E:av.Env}{f:aa9}{k:List Item}{R:Act->Θ->Prop}{a:Act}{wL:Θ}{ops:Array Oper}{i:Nat}{rest:List Nat}{o:Oper}(t:η)(x:aa8)(ho:ops[i]? =some o)(hop:o.op= .load t x)(s9:mj av.PP S0 E0 true o=true)(hg:o.guard=none)
  (ha:(Tryz.prog.underlying t).map (λd=>match d with|.struct _|.array _ _=>true|_=>false)=some false) (b:Addr) (hx:a.eval x= .pointer (some b)) (v:Φ) (hc:wL.cell? b=some v)
  (h:av.CI E f (.inRegion ops rest::k) R (a.put o.dst v) wL):av.CI E f (.inRegion ops (i::rest)::k) R a wL:=by
 refine aG.Sq.nK (w1:=wL) v ho (s9:=s9) hg (λt' d=>?_) h;have hc':(az wL t' d).cell? b=some v:=hc;have h1:aG.RT (lu.load t (.pointer (some b))).sem (az wL t' d) (.value v) (az wL t' d) #[⟨.cell b,false,false⟩]:=by
  refine aG.RT.eN (x:=v) ?_ (.pure _);show aG.RT (do if<-isAgg t then Pure.pure (.agg (<-loadCells b (<-Go.sizeOf t))) else load b) _ _ _ _;refine(aG.ib ha).aS ?_;simp only[ι,if_false];exact aG.kh hc'
 have:=h1.run;unfold execOp;rw[hop];show(do pure (.value (<-Instr.loadAt t (a.eval x))):Sem Next).run _ _=_;rw[hx];exact this
theorem Sb {E:av.Env}{f:aa9}{k:List Item}{R:Act->Θ->Prop}{a:Act}{wL:Θ}{ops:Array Oper}{l:List Nat}(m:Nat)(hl:l=List.range' m (ops.toList.drop m).length)(h0:∃fn,av.PP.funcs[f]? =some fn)(BN:A6 av.PP S0 E0 true (.inRegion ops l)=true)
  (I:Θ->Prop) (hb:∀w t d,I w->I (az w t d)) (hI:I wL) (hwp:∀w,I w->w.heap.size=wL.heap.size->wpList av.PP ops (av.after E none f k R) (ops.toList.drop m) a w):av.CI E f (.inRegion ops l::k) R a wL:=by
 refine av.Sd none h0 BN (by simp) I hb hI λw h1 h2=>?_
 rw[hl,wpOps_eq_wpList (ops.toList.drop m) m λj=>by rw[ag2,ah9]];exact hwp w h1 h2
structure yt (x:DS)(n:Nat):Prop where
 wait:x.waiting=[]
 fit:x.failed=false->x.Fit 105
 steps:∀ps,sZ x n ps->(eL x n ps).length<=7/\fg (eL x n ps)/\(mC (x.begin n (eL x n ps)).2=0->(x.begin n (eL x n ps)).1.content n 3 ⟨#[]⟩=some (cy (eL x n ps)))
def yX (x:DS)(n:Nat):Int:=if x.failed then 3 else if x.pending n then 4 else 0
def yq (F:List Nat)(s d n:Nat)(x:DS)(wL:Θ)(v:Φ)(w':Θ):Prop:=
 (yX x n≠0/\v= .tuple #[eg,.int .i64 (yX x n)]/\aP w' F s d n x/\dN [] wL w')\/
 (yX x n=0/\∃ps F',sZ x n ps/\aP w' F' s d n (x.xX n (eL x n ps)).1/\bZ F F' wL/\dN F wL w'/\
  ((∃cv,(x.xX n (eL x n ps)).2= .int .i64 0/\v= .tuple #[.agg #[.int .i64 (eL x n ps).length,cv],.int .i64 0]/\w'.ownsRow wL.heap.size 9 1 cv (lS x n ps).length (fx (lS x n ps))/\∀g,cv.ownBlock=some g->g∉F')\/
   (∃e:Int,e≠0/\(x.xX n (eL x n ps)).2= .int .i64 e/\v= .tuple #[eg,.int .i64 e])))
open aG aG.Sq in
theorem Bz {E:av.Env}{wL:Θ}{F:List Nat}{s d n:Nat}{x:DS}(h:aP wL F s d n x)(hG:pH wL)(h0:0∉F)(hok:yt x n):
  av.CC E 31 #[.pointer (some ⟨s,0,none⟩)] (yq F s d n x wL) wL:=by
 refine av.lq Tryz.func31 rfl ?_;refine av.ep ?_;refine rl {tmps:=#[.pointer (some ⟨s,0,none⟩),undef,undef,undef,undef,undef,undef,undef,undef,undef,undef,undef,undef,undef,undef,undef,undef,undef,undef,undef,undef,undef,undef,undef,undef,undef,undef,undef,undef,undef,undef,undef,undef],defers:=[]} (by kernel_rfl) ?_
 refine av.eX none ⟨_,Tryz.func31⟩ (λw=>aP w F s d n x/\dN [] wL w) (λw t k h=>⟨h.1.az t k,h.2.tape t k⟩) ⟨h,dN.refl _ _⟩ λw hI hsz=>?_
 obtain⟨hS,hB⟩:=hI;go_wp2_with (with_reducible first|refine ay rfl ?_);refine ai.go (bh rfl 58 rfl _ lA ?_);intro w1 b2 l2 f2 r2;have hS1:=hS.new f2;have hB1:=hB.trans f2.blk;have hb2:b2∉F:=λhb=>by have:=hS.disk.lt b2 hb;omega
 have XX:s≠b2:=by have:=hS.row.lt;omega
 have adt:wL.heap.size<=b2:=by omega
 clear hS hB f2;go_wp2_with fail;refine av.ep (av.eX none ⟨_,Tryz.func31⟩ (λw=>aP w F s d n x/\dN [] wL w/\Row w b2 eg.cells 58) (λw t k h=>⟨h.1.az t k,h.2.1.tape t k,h.2.2⟩) ⟨hS1,hB1,r2⟩ λw2 hI hsz2=>?_);obtain⟨hS2,hB2,r2'⟩:=hI;clear hS1 hB1 r2 hsz2;go_wp2_with fail;refine(mm F s d n x w2 hS2).mono ?_;rintro e w3 ⟨rfl,f3⟩
 have Z2:=hS2.new f3;have hB3:=hB2.trans f3.blk;have r3:Row w3 b2 eg.cells 58:=f3.row r2';have HE:Hid (yX x n=(if x.failed then 3 else if x.pending n then 4 else 0)):=rfl;obtain⟨e0,he0⟩:∃e0:Int,(if x.failed then 3 else if x.pending n then 4 else 0)=e0:=⟨_,rfl⟩
 rw[he0] at HE⊢;clear he0 hS2 hB2 f3 r2'
 by_cases KM:e0=0
 .subst KM
  go_wp2_with fail;have hG3:pH w3:=hG.blk hB3 (by simp);obtain⟨bl,hrd⟩:=Z2.rd hG3 hok.wait
  refine av.ep (av.d9 (fu _ rfl (.inr rfl) rfl (nK (w1:=w3) (.pointer (some ⟨s,0,none⟩)) rfl rfl (λt d=>by kernel_rfl) (nK (w1:=w3) (.pointer (some ⟨s,0,none⟩)) rfl rfl (λt d=>by kernel_rfl) (aey _ _ rfl rfl (by kernel_rfl) rfl (by kernel_rfl) ⟨s,0,none⟩ rfl (.pointer (some ⟨d,0,none⟩)) Z2.cell ?_)))))
  refine lp (f2:=55) #[.tmp 18] #[.pointer (some ⟨d,0,none⟩)] (R2:=Ud x n w3) rfl rfl (by kernel_rfl) (λb w=>by kernel_rfl) (by kernel_rfl) (Sg hrd) λv w4 hR ahB=>?_
  obtain⟨ps,sv,cv,p1,p2,p3,rfl,hB4,ho1,ho2⟩:=hR;refine fu _ rfl (.inr rfl) rfl (nK (w1:=w4) sv rfl rfl (λt d=>by kernel_rfl) (nK (w1:=w4) cv rfl rfl (λt d=>by kernel_rfl) (fu _ rfl (.inl rfl) rfl (fu _ rfl (.inl rfl) rfl (av.cJ ?_)))));have hP:sZ x n ps:=⟨p1,p2,p3⟩
  have hss:=hok.steps ps hP;have hst:(eL x n ps).Pairwise λp q=>p.1<q.1:=yH _ _ (zB p1 p2)
  have XN:w4.ownsRow w3.heap.size 168 2 sv (eL x n ps).length (b6 (eL x n ps)):=ho1;have FK:w4.ownsRow w3.heap.size 9 1 cv (lS x n ps).length (fx (lS x n ps)):=ho2;have hS4:aP w4 F s d n x:=Z2.blk hB4 (by simp) (by simp);have r4:Row w4 b2 eg.cells 58:=(hB4.block b2 r3.lt (by simp)).trans r3;have adz:=hB3.trans hB4
  have hL3:wL.heap.size<=w3.heap.size:=hB3.size;have hFl:=Z2.disk.lt;have hfit:x.Fit 105:=hok.fit (by
   have:=HE.out;unfold yX at this;cases hf:x.failed with
   |false=>rfl
   |true=>rw[hf] at this;simp at this)
  generalize acU:eL x n ps=ss at*;generalize hcs':lS x n ps=cs at*;clear ho1 ho2 p1 p2 p3 Z2 hB3 r3 hG3 hrd hB4;obtain⟨ad,cap,hsv⟩:=bM XN;obtain⟨OH,cap2,hcv⟩:=bM FK;subst hsv hcv
  refine rl {tmps:=#[.pointer (some ⟨s,0,none⟩),undef,.pointer (some ⟨b2,0,none⟩),.int .i64 0,.int .i64 0,.slice ad ss.length cap,.slice OH cs.length cap2,undef,.pointer (some ⟨s,0,none⟩),.int .i64 0,.int .i64 0,.bool false,undef,undef,.tuple #[.slice ad ss.length cap,.slice OH cs.length cap2],.pointer (some ⟨s,0,none⟩),.pointer (some ⟨s,0,none⟩),.pointer (some ⟨s,0,none⟩),.pointer (some ⟨d,0,none⟩),.tuple #[.slice ad ss.length cap,.slice OH cs.length cap2],.slice ad ss.length cap,.slice OH cs.length cap2,undef,undef,undef,undef,undef,undef,undef,undef,undef,undef,undef],defers:=[]} (by kernel_rfl) ?_
  refine av.eX none ⟨_,Tryz.func31⟩ (λw=>aP w F s d n x/\dN [] wL w/\Row w b2 eg.cells 58/\w.ownsRow w3.heap.size 168 2 (.slice ad ss.length cap) ss.length (b6 ss)/\w.ownsRow w3.heap.size 9 1 (.slice OH cs.length cap2) cs.length (fx cs)) (λw t k h=>⟨h.1.az t k,h.2.1.tape t k,h.2.2⟩) ⟨hS4,adz,r4,XN,FK⟩ λw5 hI hsz5=>?_
  obtain⟨hS5,Rm,r5,y6,Z1⟩:=hI;clear hS4 adz r4 XN FK ahB hsz5;have apart:∀{v:Φ} {e:η} {m k:Nat} {l:List Φ},w5.ownsRow w3.heap.size e m v k l->∀g,v.ownBlock=some g->g∉F:=λho g hg hF=>by
   have:=(ho.lt g hg).1;have:=hFl g hF;omega
  have HD:Hid (eL x n ps=ss/\lS x n ps=cs):=⟨acU,hcs'⟩
  clear acU hcs';obtain⟨e5,he5⟩:=R5 x n ss hfit;go_wp2_with fail;refine(R0 F s d n x _ _ ss w5 hS5 hfit (by rw[hok.wait];decide) y6 hss.1 hss.2.1 hst (apart y6) hss.2.2).mono ?_;rintro e w6 ⟨rfl,⟨F',hS6,g6⟩,f6⟩;have r6:=f6.row r5 hb2;have hc6:=f6.owns Z1 λk hk h=>apart Z1 k h hk
  have hcF:∀g,(Value.slice OH cs.length cap2).ownBlock=some g->g∉F':=λg hg hF=>by
   rcases g6 g hF with q|q
   .exact apart Z1 g hg q
   .have:=(Z1.lt g hg).2;omega
  have adu:b2∉F':=λhF=>by
   rcases g6 b2 hF with q|q
   .exact hb2 q
   .have:=r5.lt;omega
  have hgr:bZ F F' wL:=(bZ.refl F wL).trans g6 Rm.size;have hB6:dN F wL w6:=(Rm.mono).trans f6.blk (λi hi=> .inl hi);have hcb:∀g,(Value.slice OH cs.length cap2).ownBlock=some g->g≠b2:=λg hg e=>by
   subst e;rcases Z1.2 with⟨e1,_⟩|⟨g',cap',cur,e1,_,hg',_⟩
   .rw[e1] at hg;simp[Value.ownBlock] at hg
   .rw[e1] at hg
    have:g'=g:=by simpa [Value.ownBlock] using hg
    subst this;unfold Row at r5;rw[r5] at hg';cases hg'
  have HO:Hid ((x.xX n ss).2= .int .i64 e5):=he5;rw[he5];have HX:Hid (aP w6 F' s d n (x.xX n ss).1):=hS6;clear hss hst hS6 he5 hS5 Rm r5 y6 Z1 f6 g6 apart
  by_cases h5:e5=0
  .subst h5
   go_wp2_with (with_reducible first|refine bE 58 rfl ?_|refine ah 58 rfl ?_);refine ai.go (bN rfl (.agg #[.int .i64 ss.length,.slice OH cs.length cap2]) w6 (by kernel_rfl) ?_);go_wp2_with (with_reducible first|refine ah 58 rfl ?_)
   refine ai.go (kz rfl 58 _ _ rfl b2 rfl #[.int .i64 ss.length,.slice OH cs.length cap2] rfl ez (by simp[Value.oneCell']) _ _ r6 rfl ?_);intro w7 f7 r7;have hc7:=f7.owns hc6 (λk hk h=>hcb k h (by simpa using hk));go_wp2_with fail
   refine⟨w7.tape,w7.drawn,.tuple #[.agg #[.int .i64 ss.length,.slice OH cs.length cap2],.int .i64 0],?_,.inr ⟨HE.out,ps,F',hP,?_,hgr,?_,.inl ⟨_,?_,?_,?_,hcF⟩⟩⟩
   .exact kj (tp:=2) (tq:=3) (ty:=58) rfl _ _ b2 _ _ rfl r7 ez
   .rw[HD.out.1]
    exact HX.out.xJ f7 (by simpa using XX) (by simpa using adu)
   .exact hB6.trans f7.blk (by intro i hi;right;simp at hi;omega)
   .rw[HD.out.1];exact HO.out
   .rw[HD.out.1]
   .rw[HD.out.2];exact hc7.weak hL3
  .have h5':(e5==0)=false:=by simpa using h5
   go_wp2_with (with_reducible first|refine bE 58 rfl ?_|refine ah 58 rfl ?_);refine ai.go (bN rfl eg w6 (by kernel_rfl) ?_);go_wp2_with (with_reducible first|refine ah 58 rfl ?_);refine ai.go (kz rfl 58 _ _ rfl b2 rfl eg.cells rfl ez (by decide) _ _ r6 rfl ?_);intro w7 f7 r7;go_wp2_with fail
   refine⟨w7.tape,w7.drawn,.tuple #[eg,.int .i64 e5],?_,.inr ⟨HE.out,ps,F',hP,?_,hgr,?_,.inr ⟨e5,h5,?_,rfl⟩⟩⟩
   .exact kj (tp:=2) (tq:=3) (ty:=58) rfl _ _ b2 _ _ rfl r7 ez
   .rw[HD.out.1]
    exact HX.out.xJ f7 (by simpa using XX) (by simpa using adu)
   .exact hB6.trans f7.blk (by intro i hi;right;simp at hi;omega)
   .rw[HD.out.1];exact HO.out
 .have adj:(e0==0)=false:=by simpa using KM
  go_wp2_with (with_reducible first|refine bE 58 rfl ?_|refine ah 58 rfl ?_);refine ai.go (bN rfl eg w3 (by kernel_rfl) ?_);go_wp2_with (with_reducible first|refine ah 58 rfl ?_);refine ai.go (kz rfl 58 _ _ rfl b2 rfl eg.cells rfl ez (by decide) _ _ r3 rfl ?_);intro w4 f4 r4;go_wp2_with fail
  refine⟨w4.tape,w4.drawn,.tuple #[eg,.int .i64 e0],?_,.inl ⟨by rw[HE.out];exact KM,by rw[HE.out],Z2.xJ f4 ?_ ?_,?_⟩⟩
  .exact kj (tp:=2) (tq:=3) (ty:=58) rfl _ _ b2 _ _ rfl r4 ez
  .simpa using XX
  .simpa using hb2
  .exact hB3.trans (f4.blk.mono (T:=[b2]) (by simp)) (by simpa using adt)
end
section
open Go.RowKit Go.Lib
abbrev bW:=Nat->List Γ->Option (List Γ)
def eP (H:bW)(s:Nat)(p:List Γ)(r:Option (List Γ)):bW:=λs' p'=>if s'=s/\p'=p then r else H s' p'
def Has (L:List Γ)(n:Nat)(H:bW):Prop:=∃m,mT L n m/\∀s p,holds m s p (H s p)
def qK (H:bW):Prop:=∀s p,H s p≠none->(s<=2/\p∈P7)\/(s=3/\p=[])
def et (H:bW):Prop:=∀s p,H s p≠none->s<=2/\p∈P7
theorem xC {m:dy}{s:Nat}{p:List Γ}{r:Option (List Γ)}(h:holds m s p r){i:Nat}{f:cH}(hf:m i=some f)(e:nameOf f=(s,p)):r≠none:=λhr=>by
 subst hr;exact h i f hf e
theorem qK.slots {L:List Γ}{n:Nat}{H:bW}{m:dy}(h:qK H)(hm:∀s p,holds m s p (H s p))(i:Nat)(f:cH)(hf:m i=some f):(f.set<=2/\f.path∈P7)\/(f.set=3/\f.path=[]):=
 h f.set f.path (xC (hm f.set f.path) hf rfl)
theorem et.slots {H:bW}{m:dy}(h:et H)(hm:∀s p,holds m s p (H s p)):Seven m:=λi f hf=>h f.set f.path (xC (hm f.set f.path) hf rfl)
theorem S8 {L:List Γ}{n:Nat}{m:dy}(h:mT L n m)(h8:∀i f,m i=some f->(f.set<=2/\f.path∈P7)\/(f.set=3/\f.path=[])):(lj n m).length<=22:=by
 have h3:=pJ ((lj n m).map nameOf) (((List.range 3).flatMap λs=>P7.map λp=>(s,p))++[(3,[])]) h.nodup λa ha=>by
  obtain⟨f,hf,e⟩:=ae0.1 ha;obtain⟨i,hi⟩:=h.mem.1 hf;rw[<-e,ag8];rcases h8 i f hi with⟨q1,q2⟩|⟨q1,q2⟩
  .left
   rw[List.mem_flatMap];exact⟨f.set,af3.2 (by omega),ae0.2 ⟨f.path,q2,rfl⟩⟩
  .right
   simp[nameOf,q1,q2]
 rw[ag0] at h3;have:(((List.range 3).flatMap λs=>P7.map λp=>(s,p))++[(3,([]:List Γ))]).length=22:=by rfl
 omega
theorem V8 {L:List Γ}{n:Nat}{m:dy}(h:mT L n m)(h8:∀i f,m i=some f->(f.set<=2/\f.path∈P7)\/(f.set=3/\f.path=[]))(hn:22<aH n):∃i,i<aH n/\m i=none:=by
 by_cases hx:∃i,i<aH n/\m i=none
 .exact hx
 .exfalso
  have h1:(lj n m).length=aH n:=by
   have h2:∀l:List Nat,(∀i∈l,i<aH n)->(l.filterMap m).length=l.length:=by
    intro l
    induction l with
    |nil=>intro _;rfl
    |cons a l ih=>
     intro hl;have ha:=hl a List.mem_cons_self;cases hm:m a with
     |none=>exact absurd ⟨a,ha,hm⟩ hx
     |some f=>rw[List.filterMap_cons_some hm,List.length_cons,List.length_cons,ih λi hi=>hl i (ah3 _ hi)]
   unfold lj;rw[h2 _ λi hi=>af3.1 hi,List.length_range]
  have:=S8 h h8;omega
section
variable {L:List Γ}{n:Nat}{H:bW}{x:DS}
theorem Has.content (h:Has x.aJ n H)(hw:x.waiting=[])(s:Nat)(p:List Γ):x.content n s (aB p)=H s p:=by
 obtain⟨m,hr,hm⟩:=h;exact CV hr hw (hm s p)
theorem DK {m:dy}(hr:mT L n m)(hm:∀s p,holds m s p (H s p))(hroom:∃i,i<aH n/\m i=none)(s:Nat)(p c:List Γ)(hs:cT s p=true)(hc:c.length<=96):
  ∃L',Has L' n (eP H s p (some c))/\∀a,(DS.calm L a).put n s (aB p) (aB c)=(DS.calm L' (a+5),.int .i64 0):=by
 have hln:=mN n;obtain⟨i,hi,hfi,hmi⟩:=LI (x:=DS.fresh L) hr rfl hroom;have hn2:=Jm n i hi;obtain⟨o,ho,ho0,ho1,hom,hox⟩:=owner hr s p;have hoi:o≠i:=by
  intro e;obtain⟨g,hg,_⟩:=hox (by omega);rw[e] at hg;simp only[Int.toNat_natCast] at hg;rw[hmi] at hg;cases hg
 let f:cH:=⟨s,p,c⟩
 have hfg:cT f.set f.path=true/\f.content.length<=96:=⟨hs,hc⟩
 have hpl:f.path.length<=8:=(xj hfg.1).1;generalize hrr:cB f.set f.path f.content=r;have hrl:r.length=128:=by rw[<-hrr];exact QR _ _ _ hpl hc
 have h0:=DL r hrl 0 (by omega);have h1:=DL r hrl 1 (by omega);generalize hA:bL L ((1+2*i:Nat),half r 0)=A;have rA:mT A n m:=by rw[<-hA];exact hr.loose (by omega) (by omega) h0 (xL hmi (.inl rfl))
 generalize hB:bL A ((2+2*i:Nat),half r 1)=B;have rB:mT B n m:=by rw[<-hB];exact rA.loose (by omega) (by omega) h1 (xL hmi (.inr rfl))
 have Tx:E6 L i r=B:=by unfold E6;rw[hA,hB]
 have hroot:seenIn (E6 L i r) [] 0=d6 n m:=by rw[Tx,<-rB.root];rfl
 have hnew:aX (d6 n m) i o=d6 n (after m i f o):=Ba m i (by omega) f o ⟨ho0,ho1⟩;have sA:∀j,jk A j=if j=1+2*i then half r 0 else jk L j:=λj=>by rw[<-hA];exact jK L n hr.len _ (by omega) _ h0 j
 have sB:∀j,jk B j=if j=2+2*i then half r 1 else jk A j:=λj=>by rw[<-hB];exact jK A n rA.len _ (by omega) _ h1 j
 have acW:jk B (1+2*i)++jk B (2+2*i)=cB f.set f.path f.content:=by
  rw[sB,sB,ζ (by omega),χ rfl,sA,χ rfl,halves r hrl,hrr]
 have rC:=rB.put hi acW hfg λj g hg e=>hom j g hg e
 refine⟨_,⟨_,rC,λs' p'=>?_⟩,λa=>?_⟩
 .unfold eP
  by_cases e:s'=s/\p'=p
  .rw[χ e]
   obtain⟨rfl,rfl⟩:=e;refine⟨i,?_⟩;unfold after;rw[rj (by omega)];unfold upd;rw[χ rfl]
  .rw[ζ e]
   have hh:=hm s' p';cases hv:H s' p' with
   |none=>
    rw[hv] at hh;intro j g hg e2;rcases iE hg with⟨rfl,rfl⟩|⟨_,q,_⟩
    .unfold nameOf at e2
     simp only[af8] at e2;exact e ⟨e2.1.symm,e2.2.symm⟩
    .exact hh j g q e2
   |some v=>
    rw[hv] at hh;obtain⟨j,hj⟩:=hh;have hji:j≠i:=λe2=>by subst e2;rw[hmi] at hj;cases hj
    refine⟨j,?_⟩;unfold after;rw[rj ?_]
    .unfold upd
     rw[ζ hji];exact hj
    .by_cases hoj:o=-1
     .exact .inl hoj
     .right
      refine⟨by omega,λe2=>?_⟩;obtain⟨g,hg,hgn⟩:=hox hoj;rw[e2] at hg;simp only[Int.toNat_natCast] at hg;rw[hj] at hg;cases hg;unfold nameOf at hgn;simp only[af8] at hgn;exact e ⟨hgn.1,hgn.2⟩
 .have henc:cB s (aB p).data.toList (aB c).data.toList=r:=hrr
  have hfx:dQ (DS.calm L a) n=i:=by
   rw[xK _ n rfl,<-hfi,xK (DS.fresh L) n rfl];rfl
  have:=LQ L a 0 0 n s (aB p) (aB c) i o (d6 n m) r henc hfx (ho (DS.calm L a) rfl rfl) hroot;rw[Tx,hnew] at this;exact this
theorem vK (h:Has L n H)(h8:qK H)(hn:22<aH n)(s:Nat)(p c:List Γ)(hs:cT s p=true)(hc:c.length<=96):
  ∃L',Has L' n (eP H s p (some c))/\∀a,(DS.calm L a).put n s (aB p) (aB c)=(DS.calm L' (a+5),.int .i64 0):=by
 obtain⟨m,hr,hm⟩:=h;exact DK hr hm (V8 hr (h8.slots (L:=L) (n:=n) hm) hn) s p c hs hc
theorem LP {m:dy}(hr:mT L n m)(hroom:¬∃i,i<aH n/\m i=none)(s:Nat)(p c:Ξ)(a:Int):(DS.calm L a).put n s p c=(DS.calm L a,.int .i64 7):=by
 have hf:dQ (DS.calm L a) n=-1:=by
  rw[xK _ n rfl];have e:jk L 0=d6 n m:=hr.root;rcases k8 (jk L 0) (aH n) (aH n) 0 with h|⟨i,hi,_,h0⟩
  .exact h
  .exfalso
   have hln:=mN n;rw[e,pV n m i] at h0;refine hroom ⟨i,hi,?_⟩;cases hm:m i with
   |none=>rfl
   |some f=>rw[hm] at h0;simp at h0
 unfold DS.put;rw[χ hf]
theorem ny (h:Has L n H)(s:Nat)(p:List Γ)(hs:H s p≠none):
  ∃L',Has L' n (eP H s p none)/\∀a,(DS.calm L a).remove n s (aB p)=(DS.calm L' (a+2),.int .i64 0):=by
 obtain⟨m,hr,hm⟩:=h;obtain⟨o,ho,ho0,ho1,hom,hox⟩:=owner hr s p;have hne:o≠-1:=by
  have hh:=hm s p;cases hv:H s p with
  |none=>exact absurd hv hs
  |some v=>
   rw[hv] at hh;obtain⟨j,hj⟩:=hh;have:=hom j _ hj rfl;omega
 have rC:=hr.dropped o;refine⟨_,⟨_,rC,λs' p'=>?_⟩,λa=>?_⟩
 .unfold eP
  by_cases e:s'=s/\p'=p
  .rw[χ e]
   obtain⟨rfl,rfl⟩:=e;intro j g hg e2;obtain⟨q1,q2⟩:=gn hg;have:=hom j g q1 e2;have:=q2 (by omega);omega
  .rw[ζ e]
   have hh:=hm s' p';cases hv:H s' p' with
   |none=>
    rw[hv] at hh;intro j g hg e2;exact hh j g (gn hg).1 e2
   |some v=>
    rw[hv] at hh;obtain⟨j,hj⟩:=hh;refine⟨j,?_⟩;rw[rj ?_]
    .exact hj
    .right
     refine⟨by omega,λe2=>?_⟩;obtain⟨g,hg,hgn⟩:=hox hne;rw[e2] at hg;simp only[Int.toNat_natCast] at hg;rw[hj] at hg;cases hg;unfold nameOf at hgn;simp only[af8] at hgn;exact e ⟨hgn.1,hgn.2⟩
 .have hroot:seenIn L [] 0=d6 n m:=by rw[<-hr.root];rfl
  have:=C0 L a 0 0 n s (aB p) o (d6 n m) (ho (DS.calm L a) rfl rfl) hne hroot;rw[y4 m o ⟨ho0,ho1⟩] at this;exact this
theorem I0 (H:bW)(s:Nat)(p:List Γ):eP H s p (H s p)=H:=by
 funext s' p'
 unfold eP;split
 .rename_i e;rw[e.1,e.2]
 .rfl
theorem qK.set {H:bW}(h:qK H){s:Nat}{p:List Γ}(hs:(s<=2/\p∈P7)\/(s=3/\p=[]))(r:Option (List Γ)):qK (eP H s p r):=λs' p' hn=>by
 unfold eP at hn;split at hn
 .rename_i e;rw[e.1,e.2];exact hs
 .exact h s' p' hn
theorem et.eight {H:bW}(h:et H):qK H:=λs p hn=> .inl (h s p hn)
end
theorem BI {s:Nat}{p:List Γ}(hs:s<=2)(hp:p∈P7):cT s p=true:=by
 obtain⟨k,hk,rfl⟩:=Fs.1 hp;exact Ff k hk s hs
theorem SE {p:List Γ}(hp:p∈P7):bQ p=true:=by
 have h:=BI (s:=0) (by omega) hp;unfold cT at h;simpa using h
def ls (H:bW):List db->bW
 |[]=>H
 |w::r=>ls (eP H w.set w.path w.becomes) r
def okW (H:bW):List db->Prop
 |[]=>True
 |w::r=>(w.set<=2/\w.path∈P7/\(∀c,w.becomes=some c->c.length<=96)/\(w.becomes=none->H w.set w.path≠none))/\okW (eP H w.set w.path w.becomes) r
theorem yn (H:bW)(a b:List db):ls H (a++b)=ls (ls H a) b:=by
 induction a generalizing H with
 |nil=>rfl
 |cons w r ih=>exact ih _
theorem G4 (H:bW)(a b:List db):okW H (a++b)↔okW H a/\okW (ls H a) b:=by
 induction a generalizing H with
 |nil=>simp[okW,ls]
 |cons w r ih=>
  constructor
  .rintro⟨x,y⟩
   exact⟨⟨x,((ih _).1 y).1⟩,((ih _).1 y).2⟩
  .rintro⟨⟨x,y⟩,z⟩
   exact⟨x,(ih _).2 ⟨y,z⟩⟩
theorem KZ (x:DS):mC (x,Value.int .i64 0).2=0:=rfl
section
variable {n:Nat}
theorem Hr:∀(ws:List db) {L:List Γ} {H:bW},Has L n H->qK H->22<aH n->okW H ws->
  ∃L' k,Has L' n (ls H ws)/\qK (ls H ws)/\0<=k/\k<=5*(ws.length:Int)/\∀a,(DS.calm L a).ft n ws=(DS.calm L' (a+k),.int .i64 0)
 |[],L,H,h,h8,_,_=>⟨L,0,h,h8,by omega,by simp,λa=>by simp[DS.ft]⟩
 |w::r,L,H,h,h8,hn,ho=>by
  obtain⟨⟨hs,hp,hc,hx⟩,ho⟩:=ho;have h8':=h8.set (.inl ⟨hs,hp⟩) w.becomes;obtain⟨L1,k1,hL1,hk0,hk1,hw1⟩:∃L1 k1,Has L1 n (eP H w.set w.path w.becomes)/\(0:Int)<=k1/\k1<=5/\∀a,(DS.calm L a).sN n w=(DS.calm L1 (a+k1),.int .i64 0):=by
   unfold DS.sN;cases hb:w.becomes with
   |none=>
    obtain⟨L1,q1,q2⟩:=ny h w.set w.path (hx hb);exact⟨L1,2,q1,by omega,by omega,q2⟩
   |some c=>
    obtain⟨L1,q1,q2⟩:=vK h h8 hn w.set w.path c (BI hs hp) (hc c hb);exact⟨L1,5,q1,by omega,by omega,q2⟩
  obtain⟨L2,k2,hL2,h82,hk2,hk3,hw2⟩:=Hr r hL1 h8' hn ho;refine⟨L2,k1+k2,hL2,h82,by omega,by rw[List.length_cons];omega,λa=>?_⟩;show(if mC ((DS.calm L a).sN n w).2=0 then((DS.calm L a).sN n w).1.ft n r else(DS.calm L a).sN n w)=_;rw[hw1 a,χ (KZ _),hw2,show a+k1+k2=a+(k1+k2) by omega]
def ia (H:bW)(p:List Γ×Nat):bW:=λs q=>if q=p.1/\s<=2 then H p.2 p.1 else H s q
theorem Ci {x:DS}{K:bW}(p:List Γ×Nat)(hp:p.1∈P7)(h2:p.2<=1)(hK:∀s:Nat,s<=2->x.content n s (aB p.1)=K s p.1):okW K (fv x n p)/\ls K (fv x n p)=ia K p:=by
 have c1:=hK (1-p.2) (by omega);have c2:=hK 2 (by omega);have cs:=hK p.2 (by omega);have hl:∀c,K p.2 p.1=some c->c.length<=96:=λc hc=>kr (cs.trans hc)
 have one:∀(s:Nat) (M:bW),s<=2->s≠p.2->M s p.1=x.content n s (aB p.1)->M p.2 p.1=K p.2 p.1->okW M (dl x n p s)/\ls M (dl x n p s)=eP M s p.1 (K p.2 p.1):=by
  intro s M hs hne hM hMs;have hcs:=hK s hs;unfold dl;rw[cs];split
  .rename_i e
   refine⟨trivial,?_⟩;rw[<-e,<-hM,I0];rfl
  .rename_i e
   refine⟨⟨⟨hs,hp,hl,λhn=>?_⟩,trivial⟩,rfl⟩;rw[hM];intro q;exact e (q.trans hn.symm)
 obtain⟨o1,a1⟩:=one (1-p.2) K (by omega) (by omega) c1.symm rfl;obtain⟨o2,a2⟩:=one 2 (eP K (1-p.2) p.1 (K p.2 p.1)) (by omega) (by omega) (by
  unfold eP;rw[ζ (by omega),c2]) (by
  unfold eP;rw[ζ (by omega)])
 unfold fv;refine⟨(G4 _ _ _).2 ⟨o1,by rw[a1];exact o2⟩,?_⟩;rw[yn,a1,a2]
 funext s q
 unfold ia eP
 by_cases hq:q=p.1
 .subst hq
  by_cases h0:s=2
  .subst h0;simp
  .by_cases h1:s=1-p.2
   .subst h1;simp[h0]
   .by_cases hs:s=p.2
    .subst hs;simp[h0,h1]
    .simp[h0,h1];intro;omega
 .simp[hq]
theorem rg (ss:List (List Γ×Nat))(K:bW)(s:Nat)(q:List Γ)(h:∀p∈ss,p.1≠q):ss.foldl ia K s q=K s q:=by
 induction ss generalizing K with
 |nil=>rfl
 |cons p r ih=>
  rw[List.foldl_cons,ih _ λp' hp'=>h p' (by simp[hp'])];unfold ia;rw[ζ];exactλe=>h p (by simp) e.1.symm
theorem k9 (ss:List (List Γ×Nat))(K:bW)(s:Nat)(q:List Γ)(h:2<s:=by omega):ss.foldl ia K s q=K s q:=by
 induction ss generalizing K with
 |nil=>rfl
 |cons p r ih=>
  rw[List.foldl_cons,ih];unfold ia;rw[ζ (by omega)]
theorem DR (ss:List (List Γ×Nat))(K K':bW)(h:∀s q,s<=2->K s q=K' s q)(h1:∀p∈ss,p.2<=1)(s:Nat)(q:List Γ)(hs:s<=2):ss.foldl ia K s q=ss.foldl ia K' s q:=by
 induction ss generalizing K K' with
 |nil=>exact h s q hs
 |cons p r ih=>
  rw[List.foldl_cons,List.foldl_cons];refine ih _ _ (λs q hs=>?_) λp' hp'=>h1 p' (by simp[hp'])
  have:=h1 p (by simp);unfold ia;rw[h p.2 p.1 (by omega),h s q hs]
theorem Ni (ss:List (List Γ×Nat))(K:bW)(hs:ss.Pairwise λp q=>p.1≠q.1)(h1:∀p∈ss,p.2<=1){p:List Γ×Nat}(hp:p∈ss)(s:Nat)(h2:s<=2):ss.foldl ia K s p.1=K p.2 p.1:=by
 induction ss generalizing K with
 |nil=>simp at hp
 |cons a r ih=>
  rw[List.pairwise_cons] at hs;rw[List.foldl_cons];rcases ab8.1 hp with rfl|hp'
  .rw[rg r _ _ _ λq hq e=>hs.1 q hq e.symm]
   unfold ia;rw[χ ⟨rfl,h2⟩]
  .rw[ih _ hs.2 (λq hq=>h1 q (by simp[hq])) hp']
   unfold ia;rw[ζ];exactλe=>hs.1 p hp' e.1.symm
theorem Gw {x:DS}(ss:List (List Γ×Nat))(K:bW)(hs:ss.Pairwise λp q=>p.1≠q.1)(h1:∀p∈ss,p.1∈P7/\p.2<=1)(hK:∀p∈ss,∀s:Nat,s<=2->x.content n s (aB p.1)=K s p.1):
  okW K (bB x n ss)/\ls K (bB x n ss)=ss.foldl ia K:=by
 induction ss generalizing K with
 |nil=>exact⟨trivial,rfl⟩
 |cons p r ih=>
  rw[List.pairwise_cons] at hs;obtain⟨o1,a1⟩:=Ci (n:=n) (x:=x) (K:=K) p (h1 p (by simp)).1 (h1 p (by simp)).2 (hK p (by simp));have e:bB x n (p::r)=fv x n p++bB x n r:=rfl;obtain⟨o2,a2⟩:=ih (ia K p) hs.2 (λq hq=>h1 q (by simp[hq])) λq hq s hs'=>by
   rw[hK q (by simp[hq]) s hs'];unfold ia;rw[ζ];exactλe=>hs.1 q hq e.1.symm
  rw[e,G4,yn,a1,a2];exact⟨⟨o1,o2⟩,rfl⟩
theorem nD:∀(ws:List db) (f:Int),(ws.length:Int)<f->li ws f=true
 |[],_,_=>rfl
 |w::r,f,h=>by
  rw[List.length_cons] at h;unfold li;split
  .exact nD r _ (by omega)
  .rw[ζ (by omega)]
   split
   .exact nD r _ (by omega)
   .exact nD r _ (by omega)
structure jG (ss:List (List Γ×Nat)):Prop where
 strict:ss.Pairwise λp q=>p.1<q.1
 names:∀p∈ss,p.1∈P7/\p.2<=1
theorem jG.ne {ss:List (List Γ×Nat)}(h:jG ss):ss.Pairwise λp q=>p.1≠q.1:=h.strict.imp fun {a b} hab e=>by rw[e] at hab;exact absurd hab (List.lt_irrefl _)
theorem jG.ok {ss:List (List Γ×Nat)}(h:jG ss):fg ss:=λp hp=>⟨SE (h.names p hp).1,(h.names p hp).2⟩
theorem jG.len {ss:List (List Γ×Nat)}(h:jG ss):ss.length<=7:=by
 have:=pJ (ss.map (·.1)) P7 (List.Pairwise.map _ (λ_ _ h=>h) h.ne) λa ha=>by
  obtain⟨p,hp,rfl⟩:=ae0.1 ha;exact(h.names p hp).1
 rw[ag0] at this;exact ae3 this (ah1 (by rfl))
variable {L:List Γ}{H:bW}
theorem yj (h:Has L n H)(h7:et H)(hn:37<aH n){ss:List (List Γ×Nat)}(hs:jG ss):
  ∃L',Has L' n (eP H 3 [] (some (cy ss)))/\∀a,(DS.calm L a).begin n ss=(DS.calm L' (a+5),.int .i64 0):=by
 have hl:=hs.len;have hej:(cy ss).length<=63:=by have:=pu ss λp hpm=>pd (hs.ok p hpm).1;omega
 obtain⟨L',q1,q2⟩:=vK h h7.eight (by omega) 3 [] (cy ss) (by rfl) (by omega);refine⟨L',q1,λa=>?_⟩;have hfit:n6 (DS.calm L a) n ss ((aH n:Int)-(taken (DS.calm L a) n).length-1)=true:=by
  have ht:(taken (DS.calm L a) n).length<=22:=by
   obtain⟨m,hr,hm⟩:=h;have h1:=mI (x:=DS.calm L a) hr rfl;have h2:=S8 hr (h7.eight.slots (L:=L) (n:=n) hm);rw[<-h1] at h2;unfold aM at h2
   rwa [ag0] at h2
  have hw:=gy (DS.calm L a) n ss;unfold n6;rw[decide_eq_true (by omega),Bool.true_and];exact nD _ _ (by omega)
 unfold DS.begin;rw[hfit,ζ (by simp)];exact q2 a
theorem R4 (h:Has L n H)(h7:et H)(hn:37<aH n){ss:List (List Γ×Nat)}(hs:jG ss)(hne:ss≠[]):
  ∃L' k,Has L' n (ss.foldl ia H)/\et (ss.foldl ia H)/\(0:Int)<=k/\k<=80/\(∀a,(DS.calm L a).xX n ss=(DS.calm L' (a+k),.int .i64 0))/\
   ∀a,((DS.calm L a).begin n ss).1.content n 3 ⟨#[]⟩=some (cy ss):=by
 have hl:=hs.len;obtain⟨L1,q1,q2⟩:=yj h h7 hn hs;have h8:qK (eP H 3 [] (some (cy ss))):=h7.eight.set (.inr ⟨rfl,rfl⟩) _;have hset:∀s p,s<=2->eP H 3 [] (some (cy ss)) s p=H s p:=λs p hs=>by unfold eP;rw[ζ (by omega)]
 obtain⟨o1,a1⟩:=Gw (n:=n) (x:=DS.calm L1 0) ss (eP H 3 [] (some (cy ss))) hs.ne hs.names λp hp s hs'=>Has.content (x:=DS.calm L1 0) q1 rfl s p.1
 have hcalm:∀a,bB (DS.calm L1 a) n ss=bB (DS.calm L1 0) n ss:=λa=>by
  have hc:∀(s:Nat) p,(DS.calm L1 a).content n s (aB p)=(DS.calm L1 0).content n s (aB p):=λs p=>(Has.content (x:=DS.calm L1 a) q1 rfl s p).trans (Has.content (x:=DS.calm L1 0) q1 rfl s p).symm
  have hw:fv (DS.calm L1 a) n=fv (DS.calm L1 0) n:=by
   funext p
   unfold fv dl;simp only[hc]
  unfold bB;rw[hw]
 obtain⟨L2,k2,r1,r2,r3,r4,r5⟩:=Hr _ q1 h8 (by omega) o1;rw[a1] at r1 r2;have hj:ss.foldl ia (eP H 3 [] (some (cy ss))) 3 []=some (cy ss):=by
  rw[k9 _ _ _ _];unfold eP;rw[χ ⟨rfl,rfl⟩]
 obtain⟨L3,t1,t2⟩:=ny r1 3 [] (by rw[hj];simp);have hfin:eP (ss.foldl ia (eP H 3 [] (some (cy ss)))) 3 [] none=ss.foldl ia H:=by
  funext s p
  unfold eP
  by_cases e:s=3/\p=[]
  .rw[χ e,k9 _ _ _ _]
   cases hv:H s p with
   |none=>rfl
   |some v=>have:=(h7 s p (by rw[hv];simp)).1;omega
  .rw[ζ e]
   by_cases h2:s<=2
   .exact DR ss _ _ (λs q hs=>by rw[ζ (by omega)]) (λp hp=>(hs.names p hp).2) s p h2
   .rw[k9 _ _ _ _,k9 _ _ _ _,ζ e]
 rw[hfin] at t1;have hlw:=gy (DS.calm L1 0) n ss;refine⟨L3,5+k2+2,t1,?_,by omega,by omega,λa=>?_,λa=>?_⟩
 .intro s p hsp
  rw[<-hfin] at hsp;unfold eP at hsp;split at hsp
  .exact absurd rfl hsp
  .rename_i e
   rcases r2 s p hsp with q|q
   .exact q
   .exact absurd q e
 .unfold DS.xX
  rw[ζ hne,q2 a,χ (KZ _)];show DS.ll (DS.calm L1 (a+5)) n ss=_;unfold DS.ll;rw[hcalm,r5,χ (KZ _)];show DS.remove (DS.calm L2 (a+5+k2)) n 3 ⟨#[]⟩=_;have:=t2 (a+5+k2);rw[show a+5+k2+2=a+(5+k2+2) by omega] at this;exact this
 .rw[q2 a]
  have:=Has.content (x:=DS.calm L1 (a+5)) q1 rfl 3 [];rw[show eP H 3 [] (some (cy ss)) 3 []=some (cy ss) by unfold eP;rw[χ ⟨rfl,rfl⟩]] at this;exact this
end
theorem tX {a b:List Γ}(h:aB a=aB b):a=b:=by simpa [aB] using h
def Hw (set:Int):(Ξ->Option Ξ)->cH->Ξ->Option Ξ:=λg f=>if(f.set:Int)=set then λs=>if s=aB f.path then some (aB f.content) else g s else g
theorem qY (set:Int)(p:List Γ):∀(fs:List cH) (g:Ξ->Option Ξ),(∀f∈fs,(f.set:Int)=set->f.path≠p)->fs.foldl (Hw set) g (aB p)=g (aB p)
 |[],_,_=>rfl
 |f::r,g,h=>by
  rw[List.foldl_cons,qY set p r _ λf' hf'=>h f' (by simp[hf'])];unfold Hw;split
  .rename_i e
   exact ζ λq=>h f (by simp) e (tX q).symm
  .rfl
theorem DN (set:Nat):∀(fs:List cH) (g:Ξ->Option Ξ),(fs.map nameOf).Nodup->∀f∈fs,f.set=set->fs.foldl (Hw set) g (aB f.path)=some (aB f.content)
 |[],_,_,f,hf,_=>by simp at hf
 |a::r,g,hn,f,hf,hs=>by
  rw[List.map_cons,List.nodup_cons] at hn;rw[List.foldl_cons];rcases ab8.1 hf with rfl|hf
  .rw[qY set f.path r _ λf' hf' e1 e2=>hn.1 (ae0.2 ⟨f',hf',by unfold nameOf;rw[e2,hs,show f'.set=set by omega]⟩)]
   unfold Hw;rw[χ (by omega),χ rfl]
  .exact DN set r _ hn.2 f hf hs
section
variable {L:List Γ}{n:Nat}{H:bW}{x:DS}
theorem Hy (h:Has x.aJ n H)(hw:x.waiting=[])(s:Nat)(l:List Γ):qE s (aM x n) (aB l)=(H s l).map aB:=by
 obtain⟨m,hr,hm⟩:=h;rw[mI hr hw];have hh:=hm s l;cases hv:H s l with
 |none=>
  rw[hv] at hh;refine qY _ l _ _ λf hf e1 e2=>?_
  obtain⟨i,hi⟩:=hr.mem.1 hf;exact hh i f hi (by unfold nameOf;rw[e2,show f.set=s by omega])
 |some c=>
  rw[hv] at hh;obtain⟨i,hi⟩:=hh;exact DN s _ _ hr.nodup ⟨s,l,c⟩ (hr.mem.2 ⟨i,hi⟩) rfl
def FU (H:bW)(s:Nat)(l:List Γ):Option (Bool×Ξ):=if H s l=H 2 l then none else some (match H s l with|some c=>(true,aB c)|none=>(false,⟨#[]⟩))
theorem Dn {a b:Option (List Γ)}:a.map aB=b.map aB↔a=b:=by
 constructor
 .intro h
  cases a<;>cases b<;>simp at h
  .rfl
  .rw[tX h]
 .rintro rfl;rfl
theorem vM (h:Has x.aJ n H)(hw:x.waiting=[])(s:Nat)(l:List Γ):hY x n s (aB l)=FU H s l:=by
 unfold hY aG.jQ FU;have h2:=Hy h hw 2 l;rw[show((2:Nat):Int)=2 from rfl] at h2;rw[Hy h hw s l,h2]
 by_cases e:H s l=H 2 l
 .rw[χ e,χ (Dn.2 e)]
 .rw[ζ e,ζ λq=>e (Dn.1 q)]
  cases H s l<;>rfl
def yK (H:bW)(l:List Γ):Option Nat:=if H 0 l=H 2 l then some 1 else if H 1 l=H 2 l then some 0 else if H 0 l=H 1 l then some 0 else none
theorem Py (H:bW)(l:List Γ):kM (FU H 0 l) (FU H 1 l)=yK H l:=by
 unfold FU yK
 by_cases e0:H 0 l=H 2 l
 .rw[χ e0,χ e0]
  cases (if H 1 l=H 2 l then none else some (match H 1 l with|some c=>(true,aB c)|none=>(false,⟨#[]⟩):Bool×Ξ))<;>rfl
 .rw[ζ e0,ζ e0]
  by_cases e1:H 1 l=H 2 l
  .rw[χ e1,χ e1];rfl
  .rw[ζ e1,ζ e1]
   by_cases e:H 0 l=H 1 l
   .rw[χ e,<-e]
    exact χ rfl
   .rw[ζ e]
    refine ζ λq=>e ?_
    cases h0:H 0 l<;>cases h1:H 1 l<;>rw[h0,h1] at q<;>simp at q;rw[tX q]
theorem GK {l:List Γ}{q:Nat}(h:yK H l=some q):q<=1:=by
 unfold yK at h;split at h
 .cases h;omega
 .split at h
  .cases h;omega
  .split at h
   .cases h;omega
   .cases h
theorem IK {l:List Γ}(h0:H 0 l=H 2 l)(_:H 1 l=H 2 l):yK H l=some 1:=by unfold yK;rw[χ h0]
def j7 (H:bW):bW:=λs p=>if s<=2 then(match yK H p with|some q=>H q p|none=>H s p) else H s p
def dW (H:bW)(ps:List (List Γ)):List (List Γ×Nat):=ps.filterMap λl=>(yK H l).map λs=>(l,s)
def x8 (H:bW)(ps:List (List Γ)):List (List Γ):=ps.filter λl=>(yK H l).isNone
def jA (H:bW)(ps:List (List Γ)):Prop:=ps.Pairwise (·<·)/\∀l,l∈ps↔(H 0 l≠H 2 l\/H 1 l≠H 2 l)
theorem pS (h:Has x.aJ n H)(hw:x.waiting=[]){ps:List (List Γ)}(hP:sZ x n ps):jA H ps:=by
 obtain⟨h1,h2,h3⟩:=hP;refine⟨zB h1 h2,λl=>?_⟩;rw[h3,NZ];have f0:=vM h hw 0 l;have f1:=vM h hw 1 l;rw[show((0:Nat):Int)=0 from rfl] at f0;rw[show((1:Nat):Int)=1 from rfl] at f1;rw[f0,f1];have one:∀s,FU H s l≠none↔H s l≠H 2 l:=λs=>by
  unfold FU
  by_cases e:H s l=H 2 l
  .rw[χ e];simp[e]
  .rw[ζ e];simp[e]
 rw[one,one]
theorem pK (h:Has x.aJ n H)(hw:x.waiting=[])(ps:List (List Γ)):eL x n ps=dW H ps/\lS x n ps=x8 H ps:=by
 have f0:=λl=>vM h hw 0 l
 have f1:=λl=>vM h hw 1 l
 simp only[show((0:Nat):Int)=0 from rfl] at f0;simp only[show((1:Nat):Int)=1 from rfl] at f1;unfold eL lS iw jx dW x8;simp only[f0,f1,Py];exact⟨trivial,trivial⟩
theorem wm (h7:et H){ps:List (List Γ)}(hP:jA H ps):jG (dW H ps):=by
 refine⟨?_,λp hp=>?_⟩
 .unfold dW
  refine List.Pairwise.filterMap _ (λa b hab p hp q hq=>?_) hP.1;obtain⟨_,_,rfl⟩:=τ.1 hp;obtain⟨_,_,rfl⟩:=τ.1 hq;exact hab
 .unfold dW at hp
  obtain⟨l,hl,e⟩:=List.mem_filterMap.1 hp;obtain⟨q,hq,rfl⟩:=τ.1 e;refine⟨?_,GK hq⟩;show l∈P7;have h1:=(hP.2 l).1 hl
  by_cases e2:H 2 l=none
  .rcases h1 with h1|h1
   .exact(h7 0 l λq=>h1 (q.trans e2.symm)).2
   .exact(h7 1 l λq=>h1 (q.trans e2.symm)).2
  .exact(h7 2 l e2).2
theorem v6 (h7:et H){ps:List (List Γ)}(hP:jA H ps):(dW H ps).foldl ia H=j7 H:=by
 have hok:=wm h7 hP
 funext s p
 unfold j7
 by_cases h2:s<=2
 .rw[χ h2]
  by_cases hp:p∈ps
  .cases hs:yK H p with
   |some q=>
    have hm:(p,q)∈dW H ps:=List.mem_filterMap.2 ⟨p,hp,by rw[hs];rfl⟩;exact Ni _ H hok.ne (λa ha=>(hok.names a ha).2) hm s h2
   |none=>
    refine rg _ H s p λa ha e=>?_
    obtain⟨l,hl,e1⟩:=List.mem_filterMap.1 ha;obtain⟨q,hq,rfl⟩:=τ.1 e1;have e:l=p:=e;rw[e,hs] at hq;cases hq
  .have hnp:=λq=>hp ((hP.2 p).2 q)
   have e0:H 0 p=H 2 p:=ad9 λq=>hnp (.inl q)
   have e1:H 1 p=H 2 p:=ad9 λq=>hnp (.inr q)
   rw[IK e0 e1];rw[rg _ H s p λa ha e=>?_]
   .show H s p=H 1 p
    rcases(by omega:s=0\/s=1\/s=2) with rfl|rfl|rfl
    .rw[e0,e1]
    .rfl
    .rw[e1]
   .obtain⟨l,hl,e1⟩:=List.mem_filterMap.1 ha
    obtain⟨q,hq,rfl⟩:=τ.1 e1;exact hp (e▸hl)
 .rw[ζ h2]
  exact k9 _ _ _ _
theorem zo (h:Has L n H)(h7:et H)(hn:37<aH n){ss:List (List Γ×Nat)}(hs:jG ss)(a:Int):((DS.calm L a).begin n ss).1.content n 3 ⟨#[]⟩=some (cy ss):=by
 obtain⟨L1,q1,q2⟩:=yj h h7 hn hs;rw[q2 a];have:=Has.content (x:=DS.calm L1 (a+5)) q1 rfl 3 [];rw[show eP H 3 [] (some (cy ss)) 3 []=some (cy ss) by unfold eP;rw[χ ⟨rfl,rfl⟩]] at this;exact this
theorem Po (h:Has L n H)(h7:et H)(hn:37<aH n)(a:Int)(h0:0<=a)(h1:a<=900000000):yt (DS.calm L a) n:=by
 refine⟨rfl,λ_=>mR L a 105 h0,λps hP=>?_⟩;have MY:=pS (x:=DS.calm L a) h rfl hP;rw[(pK (x:=DS.calm L a) h rfl ps).1];have hok:=wm h7 MY;exact⟨hok.len,hok.ok,λ_=>zo h h7 hn hok a⟩
theorem Dk (h:Has L n H)(h7:et H)(a:Int):yX (DS.calm L a) n=0:=by
 obtain⟨m,hr,hm⟩:=h;have:=oR (x:=DS.calm L a) hr rfl (h7.slots hm);unfold yX;rw[this];rfl
theorem zA (h:Has L n H)(h7:et H)(hn:37<aH n){ps:List (List Γ)}(hP:jA H ps):
  ∃L' k,Has L' n (j7 H)/\et (j7 H)/\(0:Int)<=k/\k<=80/\(∀a,(DS.calm L a).xX n (dW H ps)=(DS.calm L' (a+k),.int .i64 0))/\(dW H ps=[]->L'=L/\k=0):=by
 by_cases he:dW H ps=[]
 .have hf:=v6 h7 hP
  rw[he] at hf;have hf:H=j7 H:=hf;refine⟨L,0,hf▸h,hf▸h7,by omega,by omega,λa=>?_,λ_=>⟨rfl,rfl⟩⟩;unfold DS.xX;rw[χ he,Int.add_zero]
 .obtain⟨L',k,q1,q2,q3,q4,q5,_⟩:=R4 h h7 hn (wm h7 hP) he
  rw[v6 h7 hP] at q1 q2;exact⟨L',k,q1,q2,q3,q4,q5,λe=>absurd e he⟩
end
theorem wh:∀{a b:List (List Γ)},a.Pairwise (·<·)->b.Pairwise (·<·)->(∀x,x∈a↔x∈b)->a=b
 |[],[],_,_,_=>rfl
 |[],y::_,_,_,h=>absurd ((h y).2 (by simp)) (by simp)
 |x::_,[],_,_,h=>absurd ((h x).1 (by simp)) (by simp)
 |x::a,y::b,ha,hb,h=>by
  rw[List.pairwise_cons] at ha hb;have hxy:x=y:=by
   rcases ab8.1 ((h x).1 (by simp)) with e|hx
   .exact e
   .rcases ab8.1 ((h y).2 (by simp)) with e|hy
    .exact e.symm
    .exact absurd (List.lt_trans (ha.1 y hy) (hb.1 x hx)) (List.lt_irrefl _)
  subst hxy;rw[wh ha.2 hb.2 λz=>?_];constructor
  .intro hz
   rcases ab8.1 ((h z).1 (by simp[hz])) with rfl|q
   .exact absurd (ha.1 z hz) (List.lt_irrefl _)
   .exact q
  .intro hz
   rcases ab8.1 ((h z).2 (by simp[hz])) with rfl|q
   .exact absurd (hb.1 z hz) (List.lt_irrefl _)
   .exact q
section
variable {H:bW}{l:List Γ}{ps ps':List (List Γ)}
theorem jA.uniq (h:jA H ps)(h':jA H ps'):ps=ps':=wh h.1 h'.1 λx=>(h.2 x).trans (h'.2 x).symm
end
end
end
end Go.Proofs.YtchcmhodnkgojaaGreat
