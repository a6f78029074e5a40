/- On the way to the last text; put together and shortened by program. -/
import Derived.Test.YtchcmhodnkgojaaGreatPart9
import Derived.Handy
import Derived.Lib.AppendStr
import Derived.Sort.Walk0
import Derived.Laws.ResultCell
import Derived.BigQuiet
set_option linter.all false
set_option maxRecDepth 100000
set_option maxHeartbeats 8000000
namespace Go.Proofs.YtchcmhodnkgojaaGreat
noncomputable section
section
open Go.RowKit Go.Lib
structure Step (P:χ)(ops:Array Oper)(Q:Exit->Act->Θ->Prop)(n m:Nat)(l:List Nat)(i:Nat)(a:Act)(w:Θ):Prop where
 ex:∃oi,ops[i]? =some oi/\oi.guard=none/\∀K:Act->Θ->Prop,(∀a w,yZ P ops Q n m (i::l) a w->K a w)->oi.wp P a w K Q
section
variable {P:χ}{ops:Array Oper}{Q:Exit->Act->Θ->Prop}{n m:Nat}{l:List Nat}{a:Act}{w:Θ}
theorem fy (i:Nat){oi:Oper}(hi:ops[i]? =some oi)(hg:oi.guard=none)(dst:Option Tmp)(hd:oi.dst=dst)(v:Φ)(w1:Θ)(hr:(execOp a.eval oi).run P w= .ok (.value v) w1)(h:yZ P ops Q n m (i::l) (a.put dst v) w1):Step P ops Q n m l i a w:=
 ⟨oi,hi,hg,λK hK=>by
  subst hd;unfold Oper.wp;rw[hr];exact hK _ _ h⟩
theorem Lw (i:Nat){oi:Oper}(hi:ops[i]? =some oi)(hg:oi.guard=none)(dst:Option Tmp)(hd:oi.dst=dst)(v:Φ)(hr:(execOp a.eval oi).run P w= .ok (.value v) w)(h:yZ P ops Q n m (i::l) (a.put dst v) w):Step P ops Q n m l i a w:=fy i hi hg dst hd v w hr h
theorem mO (i:Nat){oi:Oper}(hi:ops[i]? =some oi)(hg:oi.guard=none)(dst:Option Tmp)(hd:oi.dst=dst)(f:ab9)(args:Array Φ)(hr:(execOp a.eval oi).run P w= .ok (.enter f args) w)(R:Ending->Θ->Prop)(hc:Calls P f args w R)
  (h:∀e w',R e w'->∃v,e= .returned v/\yZ P ops Q n m (i::l) (a.put dst v) w'):Step P ops Q n m l i a w:=
 ⟨oi,hi,hg,λK hK=>by
  subst hd;unfold Oper.wp;rw[hr];simp only[Oper.upon];refine hc.mono ?_;intro e w' he;obtain⟨v,rfl,hv⟩:=h e w' he;exact hK _ _ hv⟩
theorem oB (i:Nat){oi:Oper}(hi:ops[i]? =some oi)(hg:oi.guard=none)(dst:Option Tmp)(hd:oi.dst=dst)(f:ab9)(args:Array Φ)(hr:(execOp a.eval oi).run P w= .ok (.enter f args) w){v:Φ}(hc:Calls P f args w λe w'=>e= .returned v/\w'=w)
  (h:yZ P ops Q n m (i::l) (a.put dst v) w):Step P ops Q n m l i a w:=
 mO i hi hg dst hd f args hr _ hc (by rintro e w' ⟨rfl,rfl⟩;exact⟨_,rfl,h⟩)
theorem PJ (i:Nat){oi:Oper}(hi:ops[i]? =some oi)(hg:oi.guard=none)(h:∀K:Act->Θ->Prop,(∀a w,yZ P ops Q n m (i::l) a w->K a w)->oi.wp P a w K Q):Step P ops Q n m l i a w:=⟨oi,hi,hg,h⟩
theorem G3 (is:List Nat)(hne:is≠[])(hr:Region.ready .any ops (marks n l)=is)(hlt:∀i∈is,i<n)(h:∀i∈is,Step P ops Q n m l i a w):yZ P ops Q n (m+1) l a w:=
 wpAny_all hr (by simpa using hne) λi hi=>by
  obtain⟨oi,h1,h2,h3⟩:=h i hi;unfold wpOp;simp only[h1];rw[ξ (by simp[Region.wanted,h2])];exact .inl (h3 _ λa w x=>by rw[t9 n i l (hlt i hi)];exact x)
theorem dK (i:Nat)(h:Step P ops Q n m l i a w)(hr:Region.ready .any ops (marks n l)=[i]:=by kernel_rfl)(hlt:i<n:=by omega):yZ P ops Q n (m+1) l a w:=
 G3 [i] (by simp) hr (by simpa using hlt) (by simpa using h)
theorem kf (i j:Nat)(hr:Region.ready .any ops (marks n l)=[i,j])(h1:Step P ops Q n m l i a w)(h2:Step P ops Q n m l j a w)(hi:i<n:=by omega)(hj:j<n:=by omega):yZ P ops Q n (m+1) l a w:=
 G3 [i,j] (by simp) hr (by simp[hi,hj]) (by simp[h1,h2])
end
theorem Y9 {P:χ}{ρ:aa9->Φ}{w:Θ}{o:Oper}(t e:Γ)(size bytes:Nat)(E:Elem P t e size bytes)(x:aa9)(ho:o.op= .buildSlice t 1 #[(0,x)])(h24:size<=1000)(v:Φ)(hx:ρ x=v)(hv:v.cells.size=size):
  (execOp ρ o).run P w= .ok (.value (.slice (some ⟨w.heap.size,0,none⟩) 1 1)) (w.alloc (.cells v.cells e)):=by
 obtain⟨i,z,h1,h2,h3,h4,h5⟩:=E.open;exact um t e x ho E.slice i z v h1 h2 (by have:=E.pos;omega) (by omega) hx (by omega)
theorem Lu {P:χ}{ops:Array Oper}{Q:Exit->Act->Θ->Prop}{n m:Nat}{l:List Nat}{a:Act}{w:Θ}(i:Nat){oi:Oper}(hi:ops[i]? =some oi)(hg:oi.guard=none)(dst:Option Tmp)(hd:oi.dst=dst)(t e:Γ)(size bytes:Nat)(E:Elem P t e size bytes)(x:aa9)(ho:oi.op= .buildSlice t 1 #[(0,x)])(h24:size<=1000)(v:Φ)(hx:a.eval x=v)(hv:v.cells.size=size)
  (h:∀b w',aQ [] w w'->Row w' b v.cells e->yZ P ops Q n m (i::l) (a.put dst (.slice (some ⟨b,0,none⟩) 1 1)) w'):Step P ops Q n m l i a w:=
 fy i hi hg dst hd _ _ (Y9 t e size bytes E x ho h24 v hx hv) (h _ _ (aQ.alloc _ _ _) (Row.new _ _ _))
theorem Cg {P:χ}{ops:Array Oper}{Q:Exit->Act->Θ->Prop}{n m k:Nat}{l0:List Nat}{a:Act}{w:Θ}{Y:Type}(l:List Nat)(C:Y->Prop)(A:Y->Act->Act)(W:Y->Θ)
  (h:∀y,C y->yZ P ops Q n m l (A y a) (W y)) (t:(∀y l',marks n l'=marks n l->C y->yZ P ops Q n m l' (A y a) (W y))->yZ P ops Q n k l0 a w):yZ P ops Q n k l0 a w:=
 t λy l' hl hy=>by have:=h y hy;unfold yZ at this⊢;rw[hl];exact this
theorem Mx {w:Θ}{b b':Nat}{e:Γ}{size:Nat}{v:Φ}{n:Nat}{xs:List Φ}(h:w.ownsRow b e size v n xs)(hb:b'<=b):w.ownsRow b' e size v n xs:=by
 obtain⟨h1,h2⟩:=h;refine⟨h1,?_⟩;rcases h2 with h2|⟨g,cap,cur,e1,e2,e3⟩
 .exact .inl h2
 .exact .inr ⟨g,cap,cur,e1,by omega,e3⟩
theorem OM (s:Int)(p c:Ξ):Tryz.prog.built 107 [(0,.agg (cY s p)),(1,.string c)]=some #[.int .i64 s,.string p,.string c]:=by kernel_rfl
def DS.qS (x:DS)(n s:Nat)(p c:Ξ):DS×Φ:=
 if x.failed then(x,.int .i64 3) else if x.pending n then(x,.int .i64 4)
 else if 7<lA (aM x n++[⟨s,p.data.toList,c.data.toList⟩]) then(x,.int .i64 6) else x.put n s p c
theorem Ac (F:List Nat)(s d n:Nat)(x:DS)(side:Nat)(p c:Ξ)(w:Θ)(h:aP w F s d n x)(hx:x.Fit 5)(iu:x.waiting.length<55)(hs:side<=1)(hp:cz p.data.toList=true)(hpl:p.size<=8)(hcl:c.size<=96):
  Calls Tryz.prog 39 #[.pointer (some ⟨s,0,none⟩),.int .i64 side,.string p,.string c] w λe w'=>e= .returned (x.qS n side p c).2/\(∃F',aP w' F' s d n (x.qS n side p c).1/\bV F F' w)/\aQ F w w':=by
 have HG:Hid (x.qS n side p c=if x.failed then(x,.int .i64 3) else if x.pending n then(x,.int .i64 4) else if 7<lA (aM x n++[⟨side,p.data.toList,c.data.toList⟩]) then(x,.int .i64 6) else x.put n side p c):=rfl;have e1:((side:Int)==0||(side:Int)==1)=true:=by
  rcases(by omega:side=0\/side=1) with rfl|rfl<;>rfl
 go_enter Tryz.func39,Tryz.ntmps39;go_wp2_with fail;refine(fI F s d n x w h).mono ?_;rintro e w1 ⟨rfl,rfl⟩;go_wp2_with fail;refine(rg side w1).mono ?_;rintro e w2 ⟨rfl,rfl⟩;rw[e1];go_wp2_with fail;refine(lk p w2 (by omega)).mono ?_;rintro e w3 ⟨rfl,f3⟩;rw[hp];have h3:=h.new f3;have hc96:¬(c.size:Int)>96:=by omega
 go_wp2_with fail;refine(mG F s d n x w3 h3).mono ?_;rintro e w4 ⟨rfl,f4⟩;have h4:=h3.new f4;have fw:=f3.trans f4;cases hf:x.failed with
 |true=>
  rw[hf] at HG;have HG2:Hid (x.qS n side p c=(x,.int .i64 3)):=by show _=_;rw[HG.out];rfl
  simp only[if_true];go_wp2_with fail
  all_goals
   go_ret;rw[HG2.out];exact⟨rfl,⟨F,h4,bV.refl _ _⟩,fw.mono⟩
 |false=>
  rw[hf] at HG;cases hpd:x.pending n with
  |true=>
   rw[hpd] at HG;have HG2:Hid (x.qS n side p c=(x,.int .i64 4)):=by show _=_;rw[HG.out];rfl
   simp only[if_true,τ,if_false];go_wp2_with fail
   all_goals
    go_ret;rw[HG2.out];exact⟨rfl,⟨F,h4,bV.refl _ _⟩,fw.mono⟩
  |false=>
   rw[hpd] at HG;simp only[τ,if_false];go_wp2_with (with_reducible first|refine bI 103 rfl ?_|refine bI 107 rfl ?_|refine ay rfl ?_|refine ah 107 rfl ?_);refine aj.go (cH rfl (.agg (cY side p)) w4 (iw _ _ rfl _ (yM side p)) ?_)
   go_wp2_with (with_reducible first|refine bI 107 rfl ?_|refine ay rfl ?_|refine ah 107 rfl ?_);refine aj.go (cH rfl (.agg #[.int .i64 side,.string p,.string c]) w4 (iw _ _ rfl _ (OM side p c)) ?_);go_wp2_with (with_reducible first|refine ay rfl ?_|refine ah 107 rfl ?_);refine aj.go (aY rfl 107 rfl wH kI ?_)
   intro w5 b10 l5 f5 r5;go_wp2_with (with_reducible first|refine ay rfl ?_|refine ah 107 rfl ?_);refine aj.go (bG rfl 107 _ _ rfl _ 0 rfl _ rfl 3 ed ?_ ?_ _ _ r5 ?_ ?_)
   .rfl
   .simp[Value.oneCell']
   .decide
   intro w6 f6 q6;rw[bu _ _ (by rfl)] at q6;have Wr:Row w6 b10 #[.int .i64 side,.string p,.string c] 107:=q6;have f46:=f5.trans f6 (by simpa using l5);have h6:=h4.new f46;have rl:=fw.trans f46;clear q6 r5 f5 f6 f46 h4 h3 l5;go_wp2_with fail;refine fD 10 rfl ?_;refine tC ?_;have fd:aQ [] w6 w6.drew:=aQ.drew _ _;have h7:=h6.new fd
   have q7:=fd.row Wr;have y8:=rl.trans fd;generalize w6.drew=w7 at h7 q7 y8;clear fd h6 Wr rl fw f3 f4;have fb:=y8;replace y8:aQ [] w7 w7:=aQ.refl _ _;refine eg 0 (some 36) rfl rfl (λ_ _ _ h=>h) rfl (v:= .pointer (some ⟨s,0,none⟩)) (λ_=>rfl) ?_
   refine eg 1 (some 37) rfl rfl (λ_ _ _ h=>h) rfl (v:= .pointer (some ⟨s,0,none⟩)) (λ_=>by go_simp) ?_;refine eg 2 (some 38) rfl rfl (λ_ _ _ h=>h) rfl (v:= .pointer (some ⟨s,0,none⟩)) (λ_=>by go_simp) ?_;simp only[Act.put,bT,bU,bR]
   refine Cg (m:=3) [6,5,4,3,2,1,0] (λ(y:Φ×Nat×Θ)=>aP y.2.2 F s d n x/\Row y.2.2 b10 #[.int .i64 side,.string p,.string c] 107/\aQ [] w7 y.2.2/\y.2.2.ownsRow w7.heap.size 107 3 y.1 (aM x n).length (iv (aM x n))/\Row y.2.2 y.2.1 #[.int .i64 side,.string p,.string c] 107) (λy a=>((((a.put (some 39) (.pointer (some ⟨d,0,none⟩))).put (some 40) y.1).put (some 41) (.agg #[.int .i64 side,.string p,.string c])).put (some 42) (.slice (some ⟨y.2.1,0,none⟩) 1 1))) (λy=>y.2.2) ?_ ?_
   .rintro⟨v,bz,w8⟩ ⟨h8,q8,rI,o8,r8⟩
    simp only at h8 q8 rI o8 r8;simp only[Act.put,bT,bU,bR];have hfl:(aM x n).length<=54:=by unfold aM;rw[af9];exact eS x n
    have HF:Hid (iv (aM x n++[⟨side,p.data.toList,c.data.toList⟩])=iv (aM x n)++[.int .i64 side,.string p,.string c]):=by
     show _=_;rw[sW];rfl
    have hv8:∀k,v.ownBlock=some k->w7.heap.size<=k:=λk hk=>(o8.lt k hk).1
    have hs7:=h7.row.lt;have hF7:=λk hk=>h7.disk.lt k hk
    have hb7:=q7.lt;clear h7 q7;refine dK 7 (PJ 7 rfl rfl λK hK=>z0 104 107 3 40 p8 _ _ rfl w7.heap.size v _ _ rfl o8 bz 1 1 [.int .i64 side,.string p,.string c] rfl _ _ r8 rfl rfl (by simp[Value.oneCell']) (by omega) (by omega) (by omega) rI.size λg cap w9 o9 f9 _=>hK _ _ ?_)
    have q9:=f9.row q8 (by intro hk;have:=hv8 b10 (by simpa using hk);omega);have h9:aP w9 F s d n x:=⟨f9.row h8.row (by intro hk;have:=hv8 s (by simpa using hk);omega),h8.disk.wu f9 (λk hk hF=>by have:=hv8 k (by simpa using hk);have:=hF7 k hF;omega),h8.ne⟩
    have fw9:aQ [] w7 w9:=rI.trans f9 (λk hk=> .inr (hv8 k (by simpa using hk)));have fx9:aQ [] w2 w9:=fb.trans fw9;clear h8 q8 rI o8 r8 f9 hv8 hs7 hF7 hb7 fb y8 fw9
    change yZ _ _ _ _ _ _ (Act.put _ (some 43) _) _
    simp only[Act.put,bT,bU,bR];have hlen:(aM x n++[(⟨side,p.data.toList,c.data.toList⟩:cQ)]).length=(aM x n).length+1:=by simp
    have hcount:=AR w7.heap.size (.slice (some ⟨g,0,none⟩) ((aM x n).length+1) cap) (aM x n++[⟨side,p.data.toList,c.data.toList⟩]) w9 (by rw[hlen,HF.out];exact o9) (by omega);clear o9 HF hlen hfl;generalize (aM x n).length+1=ln at*;refine dK 8 (mO 8 rfl rfl (some 44) rfl 75 #[.slice (some ⟨g,0,none⟩) ln cap] (by go_simp) _ hcount ?_)
    rintro e wc ⟨rfl,fc⟩;refine⟨_,rfl,?_⟩;have hc:=h9.new fc;have qc:=fc.row q9;have fxc:=fx9.trans fc;clear hcount h9 q9 fx9 fc;generalize lA (aM x n++[⟨side,p.data.toList,c.data.toList⟩])=m at*;simp only[Act.put,bT,bU,bR]
    by_cases hm:7<m
    .have HG2:Hid (x.qS n side p c=(x,.int .i64 6)):=by show _=_;rw[HG.out];simp[hm]
     refine dK 9 (fy 9 rfl rfl (some 45) rfl (.bool true) wc (by go_simp;omega) ?_);refine tB ?_;simp only[Act.put,bT,bU,bR];go_wp2_with fail
     all_goals
      go_ret;rw[HG2.out];exact⟨rfl,⟨F,hc,bV.refl _ _⟩,fxc.mono⟩
    .have HG2:Hid (x.qS n side p c=x.put n side p c):=by show _=_;rw[HG.out];simp[hm]
     refine dK 9 (fy 9 rfl rfl (some 45) rfl (.bool false) wc (by go_simp;omega) ?_);refine tB ?_;simp only[Act.put,bT,bU,bR];clear hm;go_wp2_with fail;refine fD 7 rfl ?_;have fdd:aQ [] wc wc.drew:=aQ.drew _ _;have hd:=hc.new fdd;have qd:=fdd.row qc;have fxd:=fxc.trans fdd
     generalize wc.drew=wd at hd qd fxd;clear fdd hc qc fxc HG hK;have hL1:Lets (λw':Θ=>Row w' s #[.pointer (some ⟨d,0,none⟩)] 96):=⟨λw o h=>(aQ.alloc [] w o).row h,λw h=>h⟩
     have hL2:Lets (λw':Θ=>Row w' b10 #[.int .i64 side,.string p,.string c] 107):=⟨λw o h=>(aQ.alloc [] w o).row h,λw h=>h⟩
     refine bY 0 (some 46) rfl rfl (λ_ _ _ h=>h) rfl (v:= .pointer (some ⟨s,0,none⟩)) (λ_=>rfl) ?_;refine bY 1 (some 47) rfl rfl (λ_ _ _ h=>h) rfl (v:= .pointer (some ⟨s,0,none⟩)) (λ_=>by go_simp) ?_
     refine bY 2 (some 48) rfl rfl (λ_ _ _ h=>h) rfl (v:= .pointer (some ⟨s,0,none⟩)) (λ_=>by go_simp) ?_;simp only[Act.put,bT,bU,bR]
     refine mg 3 _ hL1 hd.row (some 49) rfl rfl (λ_ _ _ h=>h) rfl (v:= .pointer (some ⟨d,0,none⟩)) (λw' hw'=>by have:=hw'.cell 0;go_simp) ?_;simp only[Act.put,bT,bU,bR]
     refine mg 4 _ hL2 qd (some 50) rfl rfl (λ_ _ _ h=>h) rfl (v:= .agg #[.int .i64 side,.string p,.string c]) (λw' hw'=>jf 107 _ rfl b10 0 rfl jV 3 ed _ _ hw' [.int .i64 side,.string p,.string c] rfl rfl) ?_;simp only[Act.put,bT,bU,bR]
     refine EO 5 (by omega) (some 51) rfl rfl (by kernel_rfl) rfl 76 #[.pointer (some ⟨d,0,none⟩),.agg #[.int .i64 side,.string p,.string c]] (by go_simp) _ (xA F d n x side p c wd hd.disk hx iu (by omega) (by omega) (by omega)) ?_;rintro e we ⟨rfl,Fe,he,fe,ge⟩;refine⟨_,rfl,?_⟩;have gw:=(bV.refl F w2).trans ge fxd.size
     have hse:aP we Fe s d n (x.put n side p c).1:=⟨fe.row hd.row hd.ne,he,λhF=>(gw s hF).elim h.ne (λhh=>by have:=h.row.lt;omega)⟩
     have Y8:aQ F w2 we:=(fxd.mono (T:=F) (by simp)).trans fe (λi hi=> .inl hi);clear hL1 hL2 hd qd fxd he fe ge;refine bY 6 (some 8) rfl rfl (λ_ _ _ h=>h) rfl (v:=(x.put n side p c).2) (λ_=>rfl) ?_;simp only[Act.put,bT,bU,bR];refine mi ?_;generalize hpx:x.put n side p c=y at*
     have HPX:Hid (x.put n side p c=y):=hpx;clear hpx;go_wp2_with fail
     all_goals
      go_ret;rw[HG2.out];exact⟨rfl,⟨Fe,hse,gw⟩,Y8⟩
   intro uG;have tail:∀v bz l,marks 10 l=marks 10 [6,5,4,3,2,1,0]->∀wk,aP wk F s d n x->Row wk b10 #[.int .i64 side,.string p,.string c] 107->aQ [] w7 wk->wk.ownsRow w7.heap.size 107 3 v (aM x n).length (iv (aM x n))->Row wk bz #[.int .i64 side,.string p,.string c] 107->_:=λv bz l hl wk a1 a2 a3 a4 a5=>uG (v,bz,wk) l hl ⟨a1,a2,a3,a4,a5⟩
   simp only[Act.put,bT,bU,bR] at tail;clear uG;have r7:True:=trivial;have o7:True:=trivial
   repeat' first
    |((
      first
      |refine kf 3 5 (by decide+kernel) ?_ ?_
      |refine kf 4 5 (by decide+kernel) ?_ ?_
      |refine kf 4 6 (by decide+kernel) ?_ ?_
      |refine kf 3 6 (by decide+kernel) ?_ ?_
      |refine dK 3 (hr:=(by decide+kernel)) ?_
      |refine dK 4 (hr:=(by decide+kernel)) ?_
      |refine dK 5 (hr:=(by decide+kernel)) ?_
      |refine dK 6 (hr:=(by decide+kernel)) ?_)<;>first
      |(
        show Step _ _ _ _ _ _ 3 _ _;refine Lw 3 rfl rfl (some 39) rfl (.pointer (some ⟨d,0,none⟩)) (by have c0:=h7.cell;go_simp) ?_;simp only[Act.put,bT,bU,bR])
      |(
        show Step _ _ _ _ _ _ 4 _ _;obtain⟨bl8,vw8,hd8⟩:=h7.pz;refine mO 4 rfl rfl (some 40) rfl 51 #[.pointer (some ⟨d,0,none⟩)] (by go_simp) _ (wG d bl8 n vw8 x _ hd8) ?_;rintro e w8 ⟨v,rfl,o8,f8⟩;refine⟨v,rfl,?_⟩;replace o7:=Mx o8 y8.size;replace h7:=h7.new f8;replace q7:=f8.row q7;replace y8:=y8.trans f8
        try replace r7:=f8.row r7
        clear f8 hd8;simp only[Act.put,bT,bU,bR])
      |(
        show Step _ _ _ _ _ _ 5 _ _;refine fy 5 rfl rfl (some 41) rfl (.agg #[.int .i64 side,.string p,.string c]) _ (jf 107 _ rfl b10 0 rfl jV 3 ed _ _ q7 [.int .i64 side,.string p,.string c] rfl rfl) ?_;simp only[Act.put,bT,bU,bR])
      |(
        show Step _ _ _ _ _ _ 6 _ _;refine Lu 6 rfl rfl (some 42) rfl 104 107 3 40 p8 _ rfl (by omega) (.agg #[.int .i64 side,.string p,.string c]) rfl rfl ?_;intro bz w9 f9 r9;replace h7:=h7.new f9;replace q7:=f9.row q7;replace y8:=y8.trans f9
        try replace o7:=f9.owns o7
        replace r7:=r9;clear f9;simp only[Act.put,bT,bU,bR]))
    |exact tail _ _ _ (by kernel_rfl) _ h7 q7 y8 o7 r7
def br (c:Int)(n:Nat):Nat:=((if c<0 then -(c+1) else c)%(n:Int)).toNat
theorem o6 (c:Int)(n:Nat)(h:0<n:=by omega):br c n<n:=by
 unfold br;have h1:=Int.emod_lt_of_pos (if c<0 then -(c+1) else c) (show(0:Int)<n by omega);have h2:=Int.emod_nonneg (if c<0 then -(c+1) else c) (show(n:Int)≠0 by omega);omega
theorem FI (c:Int)(n:Nat)(h:0<n):((br c n:Nat):Int)=(if c<0 then -(c+1) else c)%(n:Int):=by
 unfold br;have h2:=Int.emod_nonneg (if c<0 then -(c+1) else c) (show(n:Int)≠0 by omega);omega
theorem sy (c:Int)(n:Nat)(w:Θ)(h0:-9223372036854775808<=c)(h1:c<=9223372036854775807)(hn:0<n:=by omega)(hn2:n<=1000000000:=by omega):
  Calls Tryz.prog 19 #[.int .i64 c,.int .i64 n] w λe w'=>e= .returned (.int .i64 (br c n))/\w'=w:=by
 have HP:Hid (((br c n:Nat):Int)=(if c<0 then -(c+1) else c)%(n:Int)):=FI c n hn;have hne:((n:Int)==0)=false:=by rw[ae4];omega
 have hne':(n:Int)≠0:=by omega
 go_enter Tryz.func19,Tryz.ntmps19
 by_cases hc:c<0
 .have HQ:Hid (((br c n:Nat):Int)=-((c+1).tmod (n:Int))):=by
   show _=_;rw[HP.out,ξ hc,<-Int.neg_tmod,Int.tmod_eq_emod_of_nonneg (by omega)]
  go_wp2_with fail;go_ret;exact⟨by rw[HQ.out];rfl,rfl⟩
 .have HQ:Hid (((br c n:Nat):Int)=c%(n:Int)):=by
   show _=_;rw[HP.out,ζ hc]
  go_wp2_with fail;go_ret;exact⟨by rw[HQ.out];rfl,rfl⟩
def di (s:Ξ):Ξ:=if s.size>96 then s.extract 0 96 else s
theorem Ez (s:Ξ)(w:Θ):Calls Tryz.prog 43 #[.string s] w λe w'=>e= .returned (.string (di s))/\w'=w:=by
 go_enter Tryz.func43,Tryz.ntmps43
 by_cases hc:s.size>96
 .have HQ:Hid (di s=s.extract 0 96):=by show _=_;unfold di;rw[ξ hc]
  have hc':(s.size:Int)>96:=by omega
  go_wp2_with fail;go_ret;exact⟨by rw[HQ.out];rfl,rfl⟩
 .have HQ:Hid (di s=s):=by show _=_;unfold di;rw[ζ hc]
  have hc':¬(s.size:Int)>96:=by omega
  go_wp2_with fail;go_ret;exact⟨by rw[HQ.out];rfl,rfl⟩
def dR (i:Nat):Ξ:=(⟨#[97,98,99,100,101,102,103]⟩:Ξ).extract i (i+1)
theorem xH (i:Nat)(h:i<7):cz (dR i).data.toList=true/\(dR i).size=1:=by
 rcases(by omega:i=0\/i=1\/i=2\/i=3\/i=4\/i=5\/i=6) with rfl|rfl|rfl|rfl|rfl|rfl|rfl<;>exact⟨by decide,by decide⟩
theorem xG (c:Int)(w:Θ)(h0:-9223372036854775808<=c)(h1:c<=9223372036854775807):Calls Tryz.prog 41 #[.int .i64 c] w λe w'=>e= .returned (.string (dR (br c 7)))/\w'=w:=by
 have hlt:=o6 c 7;go_enter Tryz.func41,Tryz.ntmps41;go_wp2_with fail;refine(sy c 7 w h0 h1).mono ?_;rintro e w1 ⟨rfl,rfl⟩;generalize hi:br c 7=i at*;have HI:Hid (br c 7=i):=hi;clear hi;rcases(by omega:i=0\/i=1\/i=2\/i=3\/i=4\/i=5\/i=6) with rfl|rfl|rfl|rfl|rfl|rfl|rfl
 all_goals
  go_wp2_with fail;go_ret;exact⟨by rw[HI.out];rfl,rfl⟩
def kC (L:List η)(j:Nat):List η:=(L.drop (64*j)).take 64
theorem Dh (L:List η)(j k:Nat):(kC L j)[k]? =if k<64 then L[64*j+k]? else none:=by
 unfold kC;rw[ah5];split
 .rw[ag0]
 .rfl
theorem Qy (L:List η)(n:Nat)(hL:L.length=64*n)(i:Nat)(hi:i<n)(b:List η)(hb:b.length=64)(m:Nat):
  (bF L ((i:Int),b))[m]? =if m<64*i then L[m]? else if m<64*i+64 then b[m-64*i]? else L[m]? :=by
 unfold bF;simp only[Int.toNat_natCast];rw[List.getElem?_append,List.getElem?_append];simp only[af5,ac6,hb,ah5,ag0];have h1:min (64*i) L.length=64*i:=by omega
 rw[h1]
 by_cases h2:m<64*i
 .simp[h2];omega
 .by_cases h3:m<64*i+64
  .simp[h2,h3]
  .simp only[h2,h3,if_false]
   congr 1
   omega
theorem jT (L:List η)(n:Nat)(hL:L.length=64*n)(i:Nat)(hi:i<n)(b:List η)(hb:b.length=64)(j:Nat):kC (bF L ((i:Int),b)) j=if j=i then b else kC L j:=by
 apply List.ext_getElem?
 intro k;rw[Dh,Qy L n hL i hi b hb]
 by_cases hj:j=i
 .subst hj
  simp only[if_true]
  by_cases hk:k<64
  .rw[ξ hk,ζ (by omega),ξ (by omega)]
   congr 1;omega
  .rw[ζ hk,af8 (by omega)]
 .rw[ζ hj,Dh]
  by_cases hk:k<64
  .rw[ξ hk,ξ hk]
   by_cases h2:64*j+k<64*i
   .rw[ξ h2]
   .rw[ζ h2,ζ (by omega)]
  .rw[ζ hk,ζ hk]
theorem HU (L:List η)(n:Nat)(hL:L.length=64*n)(i:Nat)(hi:i<n)(b:List η)(hb:b.length=64):(bF L ((i:Int),b)).length=64*n:=by
 unfold bF;simp only[Int.toNat_natCast,af5,ac6,List.length_drop,hb];omega
theorem xy (x:DS)(h:x.waiting=[])(j:Nat):x.read j=kC x.aI j:=by
 unfold DS.read seenIn kC;rw[h];simp
theorem pS (x:DS)(h:x.waiting=[]):x.read 0=kC x.aI 0:=xy x h 0
abbrev dN:=Nat->Option cQ
def Eb (n:Nat):List η:=mH++[UInt8.ofNat (n/256),UInt8.ofNat n]
def eC (n:Nat)(m:dN):List η:=Eb n++(List.range 54).map λi=>if(m i).isSome then(1:η) else 0
theorem nC (n:Nat):(Eb n).length=10:=rfl
theorem jb (n:Nat)(m:dN):(eC n m).length=64:=by simp[eC,nC]
theorem pQ (n:Nat)(m:dN)(k:Nat):(eC n m)[k]? =if k<10 then(Eb n)[k]? else if k<64 then some (if(m (k-10)).isSome then(1:η) else 0) else none:=by
 unfold eC;rw[List.getElem?_append,nC];split
 .rfl
 .rename_i h
  rw[List.getElem?_map]
  by_cases h2:k<64
  .rw[List.getElem?_range (by omega),ξ h2];rfl
  .rw[af8 (by simp;omega),ζ h2];rfl
theorem Jq (n k:Nat):(il n)[k]? =if k<10 then(Eb n)[k]? else if k<64 then some 0 else none:=by
 unfold il;rw[show mH++[UInt8.ofNat (n/256),UInt8.ofNat n]=Eb n from rfl,List.getElem?_append,nC];split
 .rfl
 .rw[List.getElem?_replicate]
  by_cases h2:k<64
  .rw[ξ h2,ξ (by omega)]
  .rw[ζ h2,ζ (by omega)]
theorem ua (n:Nat)(m:dN)(i:Nat)(hi:i<54):dg (eC n m) i=if(m i).isSome then 1 else 0:=by
 unfold dg;rw[List.getD_eq_getElem?_getD,pQ,ζ (by omega),ξ (by omega)];simp
theorem E4 (n:Nat)(m:dN)(k:Nat)(hk:k<=54):iS (eC n m) k=(List.range k).filter λi=>(m i).isSome:=by
 unfold iS
 apply List.filter_congr
 intro i hi;rw[ae9] at hi;rw[ua n m i (by omega)];cases (m i).isSome<;>rfl
theorem zy (l:List Nat):∀(r:List η) (j:Nat),(dy r l)[j]? =if(∃i∈l,10+i=j)/\j<r.length then some 1 else r[j]? :=by
 induction l with
 |nil=>intro r j;simp[dy]
 |cons a l ih=>
  intro r j;unfold dy;rw[List.foldl_cons];have:=ih (r.set (10+a) 1) j;unfold dy at this;rw[this,List.length_set,List.getElem?_set]
  by_cases h1:(∃i∈l,10+i=j)/\j<r.length
  .rw[ξ h1,ξ ⟨by obtain⟨⟨i,hi,e⟩,_⟩:=h1;exact⟨i,ah3 _ hi,e⟩,h1.2⟩]
  .rw[ζ h1]
   by_cases h2:10+a=j
   .rw[ξ h2]
    by_cases h3:j<r.length
    .rw[ξ (by omega),ξ ⟨⟨a,List.mem_cons_self,h2⟩,h3⟩]
    .rw[ζ (by omega),ζ (by omega),af8 (by omega)]
   .rw[ζ h2,ζ]
    rintro⟨⟨i,hi,e⟩,h3⟩;rcases ac5.1 hi with rfl|hi
    .exact h2 e
    .exact h1 ⟨⟨i,hi,e⟩,h3⟩
theorem jM (n:Nat):(il n).length=64:=by simp[il,mH]
theorem xp (n:Nat)(m:dN)(k:Nat)(hm:∀i,(m i).isSome->i<k):dy (il n) ((List.range k).filter λi=>(m i).isSome)=eC n m:=by
 apply List.ext_getElem?
 intro j;rw[zy,pQ,Jq,jM]
 by_cases h1:j<10
 .rw[ξ h1,ξ h1,ζ (by rintro⟨⟨i,_,e⟩,_⟩;omega)]
 .rw[ζ h1,ζ h1]
  by_cases h2:j<64
  .rw[ξ h2,ξ h2]
   cases h3:(m (j-10)).isSome with
   |true=>
    rw[ξ ⟨⟨j-10,by rw[af7,ae9];exact⟨hm _ h3,h3⟩,by omega⟩,h2⟩];rfl
   |false=>
    rw[ζ]
    .rfl
    .rintro⟨⟨i,hi,e⟩,_⟩
     rw[af7] at hi;obtain rfl:i=j-10:=by omega
     rw[h3] at hi;exact absurd hi.2 (by decide)
  .rw[ζ h2,ζ h2,ζ (by omega)]
def upd (m:dN)(i:Nat)(v:Option cQ):dN:=λj=>if j=i then v else m j
theorem Dg (n:Nat)(m:dN)(i:Nat)(hi:i<54)(v:Option cQ):(eC n m).set (10+i) (if v.isSome then 1 else 0)=eC n (upd m i v):=by
 apply List.ext_getElem?
 intro j;rw[List.getElem?_set,jb,pQ,pQ]
 by_cases h1:10+i=j
 .have h3:j-10=i:=by omega
  have h4:¬(j<10):=by omega
  have h5:j<64:=by omega
  have h6:10+i<64:=by omega
  simp[upd,h3,h4,h5,h6,h1]
 .rw[ζ h1]
  by_cases h2:j<10
  .rw[ξ h2,ξ h2]
  .rw[ζ h2,ζ h2]
   have:¬(j-10=i):=by omega
   simp[upd,this]
theorem wV (l:List η)(o:Nat)(v:List η)(h:o+v.length<=l.length)(k:Nat):(splice l o v)[k]? =if k<o then l[k]? else if k<o+v.length then v[k-o]? else l[k]? :=by
 unfold splice;rw[List.getElem?_append,List.getElem?_append];simp only[af5,ac6,ah5,ag0];have h1:min o l.length=o:=by omega
 rw[h1]
 by_cases h2:k<o
 .simp[h2];omega
 .by_cases h3:k<o+v.length
  .simp[h2,h3]
  .simp only[h2,h3,if_false]
   congr 1
   omega
theorem nD (l:List η)(o:Nat)(v:List η)(h:o+v.length<=l.length):(splice l o v).length=l.length:=by
 unfold splice;simp only[af5,ac6,List.length_drop];omega
theorem tc (s:Nat)(p c:List η)(hp:p.length<=8)(hc:c.length<=96)(k:Nat):
  (cF s p c)[k]? =if k<3 then(dW s p.length c.length)[k]? else if k<3+p.length then p[k-3]? else if k<11 then(dW s p.length c.length)[k]? else if k<11+c.length then c[k-11]? else(dW s p.length c.length)[k]? :=by
 have hh:(dW s p.length c.length).length=128:=by simp[dW]
 unfold cF;rw[θ hp,θ (by omega:c.length<=117)];rw[wV _ _ _ (by rw[nD _ _ _ (by omega)];omega),wV _ _ _ (by omega)]
 by_cases h1:k<3
 .rw[ξ (by omega),ξ h1,ξ h1]
 .rw[ζ h1,ζ h1]
  by_cases h2:k<3+p.length
  .rw[ξ (by omega),ξ h2,ξ h2]
  .rw[ζ h2,ζ h2]
theorem Q6 (s:Nat)(p c:List η)(hp:p.length<=8)(hc:c.length<=96):(cF s p c).length=128:=by
 have hh:(dW s p.length c.length).length=128:=by simp[dW]
 unfold cF;rw[θ hp,θ (by omega:c.length<=117)];rw[nD _ _ _ (by rw[nD _ _ _ (by omega)];omega),nD _ _ _ (by omega),hh]
theorem x9 (s p c:Nat):(dW s p c)[0]? =some (UInt8.ofNat s)/\(dW s p c)[1]? =some (UInt8.ofNat p)/\(dW s p c)[2]? =some (UInt8.ofNat c):=by
 refine⟨?_,?_,?_⟩<;>simp[dW,List.getElem?_set]
theorem Iu (s:Nat)(p c:List η)(hs:s<256)(hp:p.length<=8)(hc:c.length<=96):eP (cF s p c)=s:=by
 unfold eP eI;rw[List.getD_eq_getElem?_getD,tc s p c hp hc,ξ (by omega),(x9 _ _ _).1];simp;omega
theorem Oh (s:Nat)(p c:List η)(hp:p.length<=8)(hc:c.length<=96):eI (cF s p c) 1=p.length:=by
 unfold eI;rw[List.getD_eq_getElem?_getD,tc s p c hp hc,ξ (by omega),(x9 _ _ _).2.1];simp;omega
theorem Oi (s:Nat)(p c:List η)(hp:p.length<=8)(hc:c.length<=96):eI (cF s p c) 2=c.length:=by
 unfold eI;rw[List.getD_eq_getElem?_getD,tc s p c hp hc,ξ (by omega),(x9 _ _ _).2.2];simp;omega
theorem Ep (s:Nat)(p c:List η)(hp:p.length<=8)(hc:c.length<=96):cR (cF s p c)=p:=by
 unfold cR;rw[Oh s p c hp hc,Nat.min_eq_left hp]
 apply List.ext_getElem?
 intro k;rw[ah5]
 by_cases h:k<p.length
 .rw[ξ h,ag0,tc s p c hp hc,ζ (by omega),ξ (by omega)]
  congr 1;omega
 .rw[ζ h,af8 (by omega)]
theorem pu (s:Nat)(p c:List η)(hp:p.length<=8)(hc:c.length<=96):bq (cF s p c)=c:=by
 unfold bq;rw[Oi s p c hp hc,Nat.min_eq_left hc]
 apply List.ext_getElem?
 intro k;rw[ah5]
 by_cases h:k<c.length
 .rw[ξ h,ag0,tc s p c hp hc,ζ (by omega),ζ (by omega),ζ (by omega),ξ (by omega)]
  congr 1;omega
 .rw[ζ h,af8 (by omega)]
theorem ng {α:Type}[BEq α][LawfulBEq α]:∀(l r:List α),l.Nodup->(∀a∈l,a∈r)->l.length<=r.length
 |[],_,_,_=>by simp
 |a::l,r,hn,hs=>by
  rw[List.nodup_cons] at hn;have ha:a∈r:=hs a List.mem_cons_self;have h:=ng l (r.erase a) hn.2 λb hb=>by
   have hne:b≠a:=λe=>hn.1 (e▸hb)
   exact(List.mem_erase_of_ne hne).2 (hs b (ah3 _ hb))
  rw[List.length_erase_of_mem ha] at h;have:=List.length_pos_of_mem ha;rw[List.length_cons];omega
structure mm (L:List η)(n:Nat)(m:dN):Prop where
 len:L.length=64*n
 lo:16<=n
 root:kC L 0=eC n m
 recs:∀i f,m i=some f->kC L (1+2*i)++kC L (2+2*i)=cF f.set f.path f.content
 lt:∀i f,m i=some f->i<aJ n
 good:∀i f,m i=some f->dU f.set f.path=true/\f.content.length<=96
 inj:∀i j f g,m i=some f->m j=some g->nameOf f=nameOf g->i=j
theorem pV (n:Nat):aJ n<=54:=Nat.min_le_right _ _
theorem JH (n i:Nat)(h:i<aJ n):2+2*i<n:=by
 unfold aJ at h;omega
theorem sJ {s:Nat}{p:List η}(h:dU s p=true):p.length<=8/\s<=3:=by
 unfold dU at h;split at h
 .unfold cz at h
  simp only[ε,decide_eq_true_eq] at h;omega
 .split at h
  .have:p=[]:=by simpa using h
   subst this;simp;omega
  .cases h
def je (n:Nat)(m:dN):List cQ:=(List.range (aJ n)).filterMap m
section
variable {L:List η}{n:Nat}{m:dN}{x:DS}
theorem mm.JU (h:mm L n m):∀i,(m i).isSome->i<aJ n:=λi hi=>by
 obtain⟨f,hf⟩:=Option.isSome_iff_exists.1 hi;exact h.lt i f hf
theorem tT (h:mm x.aI n m)(hw:x.waiting=[]):taken x n=(List.range (aJ n)).filter λi=>(m i).isSome:=by
 unfold taken;rw[pS x hw,h.root,E4 n m _ (pV n)]
theorem Bq (h:mm x.aI n m)(hw:x.waiting=[]){i:Nat}{f:cQ}(hf:m i=some f):cu x i=cF f.set f.path f.content:=by
 unfold cu DS.sec;rw[xy x hw,xy x hw,h.recs i f hf]
theorem Dr (h:mm x.aI n m)(hw:x.waiting=[]){i:Nat}{f:cQ}(hf:m i=some f):fileAt x i=f:=by
 have hg:=h.good i f hf;have hl:=sJ hg.1;unfold fileAt;rw[Bq h hw hf,Iu _ _ _ (by omega) hl.1 hg.2,Ep _ _ _ hl.1 hg.2,pu _ _ _ hl.1 hg.2]
theorem oa (g:Nat->cQ):∀(l:List Nat),(∀i∈l,∀f,m i=some f->g i=f)->(l.filter λi=>(m i).isSome).map g=l.filterMap m
 |[],_=>rfl
 |a::l,h=>by
  have ih:=oa g l λi hi=>h i (ah3 _ hi)
  cases hm:m a with
  |none=>rw[List.filter_cons_of_neg (by simp[hm]),List.filterMap_cons_none hm,ih]
  |some f=>rw[List.filter_cons_of_pos (by simp[hm]),List.map_cons,List.filterMap_cons_some hm,ih,h a List.mem_cons_self f hm]
theorem kM (h:mm x.aI n m)(hw:x.waiting=[]):aM x n=je n m:=by
 unfold aM je;rw[tT h hw];exact oa _ _ λi _ f hf=>Dr h hw hf
theorem Am (h:mm x.aI n m)(hw:x.waiting=[]){i:Nat}{f:cQ}(hf:m i=some f)(s:Int)(p:Ξ):named x s p i=((f.set:Int)==s&&aB f.path==p):=by
 have:=Dr h hw hf;unfold fileAt at this;unfold named;rw[<-this]
theorem Hd (s:Int)(p:Ξ)(i:Nat):∀(l:List Nat),i∈l->(∀j∈l,named x s p j=decide (j=i))->cK x s p l=i
 |[],h,_=>by simp at h
 |a::l,h,hn=>by
  unfold cK;rw[hn a List.mem_cons_self]
  by_cases ha:a=i
  .simp[ha]
  .rw[decide_eq_false ha]
   rcases ac5.1 h with e|h'
   .exact absurd e.symm ha
   .simpa using Hd s p i l h' λj hj=>hn j (ah3 _ hj)
theorem CZ (s:Int)(p:Ξ):∀(l:List Nat),(∀j∈l,named x s p j=false)->cK x s p l=-1
 |[],_=>rfl
 |a::l,hn=>by
  unfold cK;rw[hn a List.mem_cons_self];simpa using CZ s p l λj hj=>hn j (ah3 _ hj)
theorem wh (h:mm x.aI n m)(hw:x.waiting=[]){i:Nat}:i∈taken x n↔∃f,m i=some f:=by
 rw[tT h hw,af7,ae9,Option.isSome_iff_exists];exact⟨λh=>h.2,λ⟨f,hf⟩=>⟨h.lt i f hf,f,hf⟩⟩
theorem Dq (h:mm x.aI n m)(hw:x.waiting=[]){i:Nat}{f:cQ}(hf:m i=some f):cK x f.set (aB f.path) (taken x n)=i:=by
 refine Hd _ _ i _ ((wh h hw).2 ⟨f,hf⟩) λj hj=>?_
 obtain⟨g,hg⟩:=(wh h hw).1 hj;rw[Am h hw hg]
 by_cases hji:j=i
 .subst hji
  rw[hf] at hg;obtain rfl:=af0 hg;rw[tz];simp
 .rw[decide_eq_false hji,Bool.and_eq_false_iff]
  by_cases h1:g.set=f.set
  .right
   rw[tz,ae4];intro e;exact hji (h.inj j i g f hg hf (by unfold nameOf;rw[h1,e]))
  .left
   rw[ae4];omega
theorem qX (h:mm x.aI n m)(hw:x.waiting=[])(s:Nat)(p:List η)(hn:∀i f,m i=some f->nameOf f≠(s,p)):cK x s (aB p) (taken x n)=-1:=by
 refine CZ _ _ _ λj hj=>?_
 obtain⟨g,hg⟩:=(wh h hw).1 hj;rw[Am h hw hg,Bool.and_eq_false_iff]
 by_cases h1:g.set=s
 .right
  rw[tz,ae4];intro e;exact hn j g hg (by unfold nameOf;rw[h1,e])
 .left
  rw[ae4];omega
theorem Qp (h:mm x.aI n m)(hw:x.waiting=[]){i:Nat}{f:cQ}(hf:m i=some f):x.content n f.set (aB f.path)=some f.content:=by
 have hg:=h.good i f hf;have hl:=sJ hg.1;unfold DS.content;rw[Dq h hw hf];show some (bq (cu x i))=_;rw[Bq h hw hf,pu _ _ _ hl.1 hg.2]
theorem xq (h:mm x.aI n m)(hw:x.waiting=[])(s:Nat)(p:List η)(hn:∀i f,m i=some f->nameOf f≠(s,p)):x.content n s (aB p)=none:=by
 unfold DS.content;rw[qX h hw s p hn];rfl
def holds (m:dN)(s:Nat)(p:List η)(r:Option (List η)):Prop:=
 match r with
 |some c=>∃i,m i=some ⟨s,p,c⟩
 |none=>∀i f,m i=some f->nameOf f≠(s,p)
theorem uW (h:mm x.aI n m)(hw:x.waiting=[]){s:Nat}{p:List η}{r:Option (List η)}(hr:holds m s p r):x.content n s (aB p)=r:=by
 cases r with
 |none=>exact xq h hw s p hr
 |some c=>
  obtain⟨i,hi⟩:=hr;exact Qp h hw hi
theorem Ka (m:dN)(s:Nat)(p:List η):∃r,holds m s p r:=by
 by_cases h:∃i f,m i=some f/\nameOf f=(s,p)
 .obtain⟨i,f,hf,e⟩:=h
  refine⟨some f.content,i,?_⟩;obtain⟨fs,fp,fc⟩:=f;simp only[nameOf,af4] at e;rw[hf,e.1,e.2]
 .exact⟨none,λi f hf e=>h ⟨i,f,hf,e⟩⟩
theorem DL:∀(fs:List cQ) (seen:List og),(∀f∈fs,dU f.set f.path=true)->(seen++fs.map nameOf).Nodup->d9 seen fs=true
 |[],_,_,_=>rfl
 |f::fs,seen,h,hn=>by
  unfold d9;rw[h f List.mem_cons_self,Bool.true_and,ε];constructor
  .rw[Bool.not_eq_true',<-Bool.not_eq_true,List.contains_iff_mem]
   intro hm;rw[List.nodup_append] at hn;exact hn.2.2 _ hm _ (by simp) rfl
  .refine DL fs _ (λg hg=>h g (ah3 _ hg)) ?_
   rw[List.append_assoc];exact hn
theorem mm.mem (h:mm L n m){f:cQ}:f∈je n m↔∃i,m i=some f:=by
 unfold je;rw[List.mem_filterMap];exact⟨λ⟨i,_,hf⟩=>⟨i,hf⟩,λ⟨i,hf⟩=>⟨i,ae9.2 (h.lt i f hf),hf⟩⟩
theorem mm.nodup (h:mm L n m):((je n m).map nameOf).Nodup:=by
 unfold je List.Nodup;rw[List.pairwise_map,List.pairwise_filterMap];refine List.Pairwise.imp ?_ List.pairwise_lt_range;intro i j hij f hf g hg e;have:=h.inj i j f g hf hg e;omega
theorem Jr (h:mm x.aI n m)(hw:x.waiting=[]):x.sound n=true:=by
 unfold DS.sound;rw[ε,ε];refine⟨?_,?_,?_⟩
 .unfold DS.tS
  rw[tT h hw,xp n m _ h.JU,pS x hw,h.root];simp
 .unfold DS.nA
  rw[ad7];intro i hi;obtain⟨f,hf⟩:=(wh h hw).1 hi;have hg:=h.good i f hf;have hl:=sJ hg.1;unfold uZ;rw[Bq h hw hf,Iu _ _ _ (by omega) hl.1 hg.2,Ep _ _ _ hl.1 hg.2,pu _ _ _ hl.1 hg.2];simp
 .unfold DS.d9
  rw[kM h hw];refine DL _ _ (λf hf=>?_) (by simpa using h.nodup);obtain⟨i,hi⟩:=h.mem.1 hf;exact(h.good i f hi).1
end
theorem vn (root:List η)(M:Nat):∀(f k:Nat),d6 root M f k=-1->∀i,k<=i->i<M->i<k+f->dg root i≠0
 |0,k,_,i,h1,_,h3=>by omega
 |f+1,k,h,i,h1,h2,h3=>by
  unfold d6 at h;rw[ξ (by omega)] at h;split at h
  .omega
  .rename_i hk
   by_cases e:i=k
   .subst e
    intro h0;exact hk (by simp[h0])
   .exact vn root M f (k+1) h i (by omega) h2 (by omega)
theorem sX (root:List η)(M:Nat):∀(f k:Nat),d6 root M f k≠-1->∃i:Nat,i<M/\d6 root M f k=i/\dg root i=0
 |0,k,h=>absurd rfl h
 |f+1,k,h=>by
  unfold d6 at h⊢
  by_cases h1:k<M
  .rw[ξ h1] at h⊢
   by_cases h2:(dg root k==0)=true
   .rw[ξ h2]
    exact⟨k,h1,rfl,by simpa using h2⟩
   .rw[ζ h2] at h⊢
    exact sX root M f (k+1) h
  .rw[ζ h1] at h
   exact absurd rfl h
theorem Md {n:Nat}{m:dN}{x:DS}(h:mm x.aI n m)(hw:x.waiting=[])(hroom:∃i,i<aJ n/\m i=none):∃i:Nat,i<aJ n/\dZ x n=i/\m i=none:=by
 have hle:=pV n;unfold dZ;rw[pS x hw,h.root];have hne:d6 (eC n m) (aJ n) (aJ n) 0≠-1:=by
  intro e;obtain⟨i,hi,hm⟩:=hroom;have:=vn _ _ _ _ e i (by omega) hi (by omega);rw[ua n m i (by omega),hm] at this;exact this rfl
 obtain⟨i,hi,e,hm⟩:=sX _ _ _ _ hne;refine⟨i,hi,e,?_⟩;rw[ua n m i (by omega)] at hm;cases hq:m i with
 |none=>rfl
 |some f=>rw[hq] at hm;simp at hm
end
section
open Go.RowKit Go.Lib Go.Sort
def io (k:Nat):List η:=(dR k).data.toList
def P7:List (List η):=(List.range 7).map io
theorem BE {p:List η}:p∈P7↔∃k,k<7/\p=io k:=by
 unfold P7;rw[ae2];exact⟨λ⟨k,hk,e⟩=>⟨k,ae9.1 hk,e.symm⟩,λ⟨k,hk,e⟩=>⟨k,ae9.2 hk,e.symm⟩⟩
theorem lC (k:Nat):aB (io k)=dR k:=rfl
theorem JB:∀a,a<7->∀b,b<7->io a=io b->a=b:=by decide
theorem Ae {ps:List (List η)}:(ps.mergeSort λx y=>decide (x<=y)).Pairwise λx y=>x<=y:=by
 have h:=List.pairwise_mergeSort (le:=λx y:List η=>decide (x<=y)) (λa b c h1 h2=>by simp only[decide_eq_true_eq] at*;exact List.le_trans h1 h2)
  (λa b=>by simp only[Bool.or_eq_true,decide_eq_true_eq];exact List.le_total a b) ps
 exact h.imp λh=>by simpa using h
theorem EC {qs:List (List η)}{a:List η}(h:a∈compact qs):a∈qs:=by
 unfold compact compactUpTo at h;obtain⟨i,hi,e⟩:=ae2.1 h;have hi':=ae9.1 (af7.1 hi).1;rw[getElem!_pos qs.toArray i (by simpa using hi')] at e;rw[<-e];simp
theorem zP {qs:List (List η)}(hs:qs.Pairwise λx y=>x<=y):(compact qs).Nodup:=by
 unfold compact compactUpTo List.Nodup;rw[List.pairwise_map];refine(List.pairwise_lt_range.filter _).imp_of_mem ?_;intro i j hi hj hij e;have hi':=ae9.1 (af7.1 hi).1;have hj':=ae9.1 (af7.1 hj).1;have hk:=(af7.1 hj).2;unfold keeps at hk;rw[decide_eq_true_eq] at hk;rcases hk with hk|hk
 .omega
 rw[getElem!_pos qs.toArray i (by simpa using hi'),getElem!_pos qs.toArray j (by simpa using hj')] at e;rw[getElem!_pos qs.toArray (j-1) (by simp;omega),getElem!_pos qs.toArray j (by simpa using hj')] at hk;simp only[List.getElem_toArray] at e hk;rw[List.pairwise_iff_getElem] at hs;have h1:qs[i]<=qs[j-1]:=by
  by_cases hc:i=j-1
  .subst hc;exact List.le_refl _
  .exact hs i (j-1) hi' (by omega) (by omega)
 have h2:qs[j-1]<=qs[j]:=hs (j-1) j (by omega) hj' (by omega);exact hk (List.le_antisymm (e▸h1) h2)
theorem AQ (fs:List cQ)(h:∀f∈fs,f.set≠3->f.path∈P7):lA fs<=7:=by
 unfold lA;refine ae6 (ng _ P7 (zP Ae) λa ha=>?_) (ah2 (by rfl));have h1:=EC ha;rw[List.mem_mergeSort] at h1;unfold et at h1;obtain⟨f,hf,e⟩:=ae2.1 h1;rw[af7] at hf;rw[<-e];exact h f hf.1 (by simpa using hf.2)
def Seven (m:dN):Prop:=∀i f,m i=some f->f.set<=2/\f.path∈P7
section
variable {L:List η}{n:Nat}{m:dN}{x:DS}
theorem Seven.files (h7:Seven m)(h:mm L n m):∀f∈je n m,f.set<=2/\f.path∈P7:=λf hf=>by
 obtain⟨i,hi⟩:=h.mem.1 hf;exact h7 i f hi
theorem lR (h:mm x.aI n m)(hw:x.waiting=[])(h7:Seven m):x.pending n=false:=by
 have:=xq h hw 3 [] λi f hf e=>by
  have:=h7 i f hf;unfold nameOf at e;simp only[af4] at e;omega
 unfold DS.pending;rw[show(⟨#[]⟩:Ξ)=aB [] from rfl];rw[show((3:Int))=((3:Nat):Int) from rfl,this];rfl
theorem Dp (h:mm x.aI n m)(hw:x.waiting=[])(h7:Seven m):x.lI n=true:=by
 unfold DS.lI;rw[Jr h hw,kM h hw,Bool.true_and,decide_eq_true_eq];exact AQ _ λf hf _=>(h7.files h f hf).2
theorem Fo (h:mm x.aI n m)(hw:x.waiting=[])(h7:Seven m)(s:Nat):
  (bN (aM x n) s).length=((List.range 7).filter λk=>(x.content n s (dR k)).isSome).length:=by
 rw[kM h hw];have hmem:∀p,p∈bN (je n m) s↔∃i f,m i=some f/\nameOf f=(s,p):=by
  intro p;unfold bN;rw[ae2];constructor
  .rintro⟨f,hf,e⟩
   rw[af7] at hf;obtain⟨i,hi⟩:=h.mem.1 hf.1;exact⟨i,f,hi,by unfold nameOf;rw[<-e];have:=hf.2;simp at this;rw[this]⟩
  .rintro⟨i,f,hf,e⟩
   unfold nameOf at e;simp only[af4] at e;exact⟨f,af7.2 ⟨h.mem.2 ⟨i,hf⟩,by simp[e.1]⟩,e.2⟩
 have hnd:(bN (je n m) s).Nodup:=by
  have h1:=h.nodup;unfold List.Nodup at h1⊢;unfold bN;rw[List.pairwise_map] at h1⊢;refine(h1.filter _).imp_of_mem ?_;intro a b ha hb hab e;have e1:=(af7.1 ha).2;have e2:=(af7.1 hb).2;simp at e1 e2;exact hab (by unfold nameOf;rw[e,e1,e2])
 have hc:∀k,(x.content n s (dR k)).isSome=true↔io k∈bN (je n m) s:=by
  intro k;rw[hmem];obtain⟨r,hr⟩:=Ka m s (io k);rw[<-lC,uW h hw hr];cases r with
  |none=>
   simp only[Option.isSome_none,τ,false_iff];rintro⟨i,f,hf,e⟩;exact hr i f hf e
  |some c=>
   obtain⟨i,hi⟩:=hr;simp only[Option.isSome_some,true_iff];exact⟨i,_,hi,rfl⟩
 have ahN:(((List.range 7).filter λk=>(x.content n s (dR k)).isSome).map io).Nodup:=by
  unfold List.Nodup;rw[List.pairwise_map];refine(List.pairwise_lt_range.filter _).imp_of_mem ?_;intro a b ha hb hab e;have e1:=ae9.1 (af7.1 ha).1;have e2:=ae9.1 (af7.1 hb).1;have:=JB a e1 b e2 e;omega
 rw[show((List.range 7).filter λk=>(x.content n s (dR k)).isSome).length=(((List.range 7).filter λk=>(x.content n s (dR k)).isSome).map io).length from(af9 _).symm]
 apply Nat.le_antisymm
 .refine ng _ _ hnd λp hp=>?_
  obtain⟨i,f,hf,e⟩:=(hmem p).1 hp;unfold nameOf at e;simp only[af4] at e;obtain⟨k,hk,e2⟩:=BE.1 (h7 i f hf).2;have e3:io k=p:=by rw[<-e2,e.2]
  exact ae2.2 ⟨k,af7.2 ⟨ae9.2 hk,(hc k).2 (e3▸hp)⟩,e3⟩
 .refine ng _ _ ahN λp hp=>?_
  obtain⟨k,hk,e⟩:=ae2.1 hp;rw[<-e];exact(hc k).1 (af7.1 hk).2
end
structure d8 (S:List Nat)(w w':Θ):Prop where
 os:w'.os=w.os
 size:w.heap.size<=w'.heap.size
 block:∀k,k<w.heap.size->k∉S->w'.heap[k]? =w.heap[k]?
theorem aQ.blk {S:List Nat}{w w':Θ}(h:aQ S w w'):d8 S w w':=⟨h.os,h.size,h.block⟩
theorem d8.refl (S:List Nat)(w:Θ):d8 S w w:=⟨rfl,ι _,λ_ _ _=>rfl⟩
theorem d8.tape {S:List Nat}{w w':Θ}(h:d8 S w w')(t:Go.Proofs.YtchcmhodnkgojaaGreat.d7)(d:Nat):d8 S w (az w' t d):=⟨h.os,h.size,h.block⟩
theorem d8.trans {S T:List Nat}{w w' w'':Θ}(h:d8 S w w')(h':d8 T w' w'')(hs:∀i∈T,i∈S\/w.heap.size<=i:=by simp):d8 S w w'':=
 ⟨h'.os.trans h.os,ae6 h.size h'.size,λk hk hS=>(h'.block k (ψ hk h.size) λx=>(hs k x).elim hS λq=>by omega).trans (h.block k hk hS)⟩
theorem d8.mono {S T:List Nat}{w w':Θ}(h:d8 S w w')(hs:∀i∈S,i∈T\/w.heap.size<=i:=by simp):d8 T w w':=⟨h.os,h.size,λk hk hT=>h.block k hk λx=>(hs k x).elim hT λq=>by omega⟩
namespace aG
namespace Sq
theorem uu {E:ai.Env}{f:ab9}{k:List Item}{R:Act->Θ->Prop}{a:Act}{wL:Θ}(a':Act)(e:a=a')(h:ai.CI E f k R a' wL):ai.CI E f k R a wL:=e▸h
def IE (f:Ξ->Option Φ)(wL:Θ)(v:Φ)(w':Θ):Prop:=∃ps:List (List η),ps.Pairwise (·<=·)/\ps.Nodup/\(∀l,l∈ps↔f (aB l)≠none)/\d8 [] wL w'/\
 ((v= .slice none 0 0/\ps=[])\/∃g cap,v= .slice (some ⟨g,0,none⟩) ps.length cap/\wL.heap.size<=g/\g<w'.heap.size/\Holds encStr w' g 0 ps.toArray)
theorem KA {E:ai.Env}{wL:Θ}{bx:Nat}{f:Ξ->Option Φ}{es:Array af3}(h:ai.CC E 134 #[nq bx] (KU f wL) wL)(hes:∀ks:List Ξ,ks.Nodup->(∀s,s∈ks↔f s≠none)->ks.length<1000000):
  ai.CC E 89 #[nq bx] (IE f wL) wL:=by
 refine ai.mZ Tryz.func89 rfl ?_;refine ai.eR (ai.ee (fl _ rfl (.inl rfl) rfl (ai.cJ ?_)));refine ai.eR (ai.ee (fl _ rfl (.inr rfl) rfl ?_));refine lB (f2:=134) #[.tmp 4] #[nq bx] (R2:=KU f wL) rfl rfl (by kernel_rfl) (λb w=>by kernel_rfl) (by kernel_rfl) h λv w1 hR hsz=>?_
 refine fl _ rfl (.inl rfl) rfl (ai.cJ ?_);refine uu {tmps:=#[nq bx,undef,.slice none 0 0,v,nq bx,v,undef,undef,undef],defers:=[]} (by kernel_rfl) ?_;obtain⟨ks,hn,hmem,hv⟩:=hR;have hlen:=hes ks hn hmem;rcases hv with⟨rfl,rfl,t,d,rfl⟩|⟨cap,rfl,hle,t,d,rfl⟩
 .refine ai.fx none ⟨_,Tryz.func89⟩ (by kernel_rfl) (by simp) (λw=>d8 [] wL w) (λw t d h=>h.tape t d) ((d8.refl _ _).tape t d) λw hI hs=>?_
  go_wp2_with fail;refine(Tryz.slices_Sort_string_none none 0 w).mono ?_;rintro e w6 ⟨rfl,rfl⟩;go_wp2_with fail;exact⟨w6.tape,w6.drawn,.slice none 0 0,by kernel_rfl,[],.nil,.nil,λl=>by rw[<-hmem];simp,hI,.inl ⟨rfl,rfl⟩⟩
 .obtain⟨qs,hqs⟩:∃qs:List (List η),qs=ks.map λk=>k.data.toList:=⟨_,rfl⟩
  have hql:qs.length=ks.length:=by rw[hqs];simp
  have hqv:ks.map Value.string=qs.map encStr:=by
   rw[hqs,List.map_map];refine List.map_congr_left λk _=>?_
   simp[encStr]
  have hqm:∀l,l∈qs↔f (aB l)≠none:=λl=>by
   rw[hqs,ae2,<-hmem];constructor
   .rintro⟨k,hk,rfl⟩
    simpa [aB] using hk
   .intro hl
    exact⟨aB l,hl,by simp[aB]⟩
  have hqn:qs.Nodup:=by
   rw[hqs];refine List.Pairwise.map _ (λa b hab he=>hab ?_) hn;have:a.data=b.data:=Array.ext' he;cases a;cases b;simp_all
  have hlt:qs.length<4611686018427387904:=by omega
  rw[<-hql,hqv];clear hqv hql hlen hqs hmem hn;refine ai.fx none ⟨_,Tryz.func89⟩ (by kernel_rfl) (by simp) (λw=>d8 [] wL w/\wL.heap.size<w.heap.size/\Holds encStr w wL.heap.size 0 qs.toArray) (λw t d h=>⟨h.1.tape t d,h.2.1,h.2.2⟩) ⟨?_,?_,?_⟩ λw hI hs=>?_
  .exact⟨rfl,by simp[az],λk hk _=>by show(wL.heap.push _)[k]? =_;rw[ac2 hk];exact(ν hk).symm⟩
  .show wL.heap.size<(wL.heap.push _).size
   simp
  .intro j hj
   have hj':j<qs.length:=by simpa using hj
   have hrow:(az {wL with heap:=wL.heap.push (.cells (qs.map encStr++List.replicate (cap-qs.length) (Value.string ⟨#[]⟩)).toArray aG.j0 (0,0))} t d).heap[wL.heap.size]? =some (.cells (qs.map encStr++List.replicate (cap-qs.length) (Value.string ⟨#[]⟩)).toArray aG.j0 (0,0)):=by
    show(wL.heap.push _)[wL.heap.size]? =_;simp
   refine⟨?_,Lib.frozen_of_heap hrow _⟩;rw[Lib.cell_of_heap hrow,Nat.zero_add];rw[List.getElem?_toArray,List.getElem?_append_left (by simpa using hj'),getElem!_pos qs.toArray j hj];simp[hj']
  obtain⟨hB,hg,hH⟩:=hI;generalize hgg:wL.heap.size=g at*;go_wp2_with fail;refine(Tryz.slices_Sort_string g 0 cap qs w hH hg hlt).mono ?_;rintro e w6 ⟨rfl,m,os,Ph⟩;have hsl:(qs.mergeSort λx y=>decide (x<=y)).length=qs.length:=List.length_mergeSort _;have hH6:Holds encStr w6 g 0 (qs.mergeSort λx y=>decide (x<=y)).toArray:=by
   rw[Ph];exact holds_grow _ _ _ _ _ _ (by rw[size_putRow];exact hg) (holds_putRow _ _ _ _ _ _ (holds_ahead _ _ _ _ _ _ hH) (by simp))
  have f6:aQ [g] w w6:=by
   rw[Ph];exact(((pZ w m).mono (T:=[g]) (by simp)).trans (nI encStr _ g 0 _) (λi hi=> .inl hi)).trans (yh _ _)
  have B6:d8 [] wL w6:=hB.trans f6.blk (by simp[hgg]);have hg6:g<w6.heap.size:=ψ hg f6.size;have hp:(qs.mergeSort λx y=>decide (x<=y)).Pairwise (·<=·):=Ae;have hn6:(qs.mergeSort λx y=>decide (x<=y)).Nodup:=(List.mergeSort_perm _ _).nodup_iff.2 hqn;have hm6:∀l,l∈(qs.mergeSort λx y=>decide (x<=y))↔f (aB l)≠none:=λl=>by rw[List.mem_mergeSort];exact hqm l
  clear Ph f6 hH hB hs;generalize (qs.mergeSort λx y=>decide (x<=y))=rs at*;go_wp2_with fail;exact⟨w6.tape,w6.drawn,.slice (some ⟨g,0,none⟩) qs.length cap,by kernel_rfl,rs,hp,hn6,hm6,B6,.inr ⟨g,cap,by rw[hsl],by rw[hgg];exact ι _,hg6,hH6⟩⟩
end Sq
end aG
end
section
open Go.RowKit Go.Lib
def kV (a b:Option (Bool×Ξ)):Option Nat:=match a,b with
 |none,_=>some 1
 |some _,none=>some 0
 |some x,some y=>if x=y then some 0 else none
section
variable {P:χ}{ops:Array Oper}{Q:Exit->Act->Θ->Prop}{a:Act}{w:Θ}{rest:List Oper}{o:Oper}
theorem Ha (hw:Region.wanted o (yielded ops a.tmps)=true)(v:Φ)(w1:Θ)(hr:(execOp a.eval o).run P w= .ok (.value v) w1)(h:wpList P ops Q rest (a.put o.dst v) w1):wpList P ops Q (o::rest) a w:=by
 unfold wpList;rw[ξ hw];refine .inl ?_;unfold Oper.wp;rw[hr];exact h
end
theorem I5 (xb yb:Bool)(xs ys:Ξ):kV (some (xb,xs)) (some (yb,ys))=if(xb==yb&&xs==ys)=true then some 0 else none:=by
 have e:((xb==yb&&xs==ys)=true)↔(xb,xs)=(yb,ys):=by rw[ε,ag5,Go.MapKept.bytes_beq,af4]
 show(if(xb,xs)=(yb,ys) then some 0 else none)=_
 by_cases h:(xb,xs)=(yb,ys)
 .rw[ξ h,ξ (e.2 h)]
 .rw[ζ h,ζ λq=>h (e.1 q)]
theorem Ql {w:Θ}(b1 b2:Bool)(s1 s2:Ξ):aG.RT (ku.bin .eql aG.TH (aG.hv b1 s1) (aG.hv b2 s2)).sem w (.value (.bool (b1==b2&&s1==s2))) w #[]:=by
 have hg:Tryz.prog.eqGuardType Tryz.prog.depth aG.TH=false:=by kernel_rfl
 refine aG.RT.aR (x:= .bool (b1==b2&&s1==s2)) (aG.RT.aR (x:=()) (w1:=w) ?_ ?_) (.pure _)
 .unfold eqGuard
  simp only[aG.hv];refine aG.gj.aR (aG.gj.aR ?_);rw[hg];exact .pure _
 .exact aG.RT.aR (aG.Al 9998 b1 b2 s1 s2) (.pure _)
section
variable {ops:Array Oper}{Q:Exit->Act->Θ->Prop}{a:Act}{w:Θ}{rest:List Oper}{o:Oper}
theorem Py (hw:Region.wanted o (yielded ops a.tmps)=true)(x y:Nat)(u:Γ)(ho:o.op= .binOp .eql aG.TH (.tmp x) (.tmp y) u){b1 b2:Bool}{s1 s2:Ξ}(hx:a.eval (.tmp x)=aG.hv b1 s1)(hy:a.eval (.tmp y)=aG.hv b2 s2)
  (h:wpList Tryz.prog ops Q rest (a.put o.dst (.bool (b1==b2&&s1==s2))) w):wpList Tryz.prog ops Q (o::rest) a w:=by
 refine Ha hw _ w ?_ h;have:=(Ql (w:=w) b1 b2 s1 s2).run;unfold execOp;rw[ho];show(do pure (.value (<-(do eqGuard .eql aG.TH (.tmp x) (.tmp y) (a.eval (.tmp x)) (a.eval (.tmp y));binOp .eql aG.TH (a.eval (.tmp x)) (a.eval (.tmp y))))):Sem Next).run _ _=_;rw[hx,hy,pr _ _ _ _ rfl rfl];exact this
theorem Cz (hw:Region.wanted o (yielded ops a.tmps)=true)(t:Γ)(x:aa9)(ho:o.op= .load t x)(b off:Nat)(hx:a.eval x= .pointer (some ⟨b,off,none⟩)){cs:Array Φ}{u:Γ}{f:Nat×Nat}{n:Nat}(hr:w.heap[b]? =some (.cells cs u f))
  (ha:(Tryz.prog.underlying t).map (λd=>match d with|.struct _|.array _ _=>true|_=>false)=some true) (hn:(Tryz.prog.info? t).map (·.size)=some n) (hle:off+n<=cs.size) (v:Φ) (hv:Value.agg (cs.extract off (off+n))=v)
  (h:wpList Tryz.prog ops Q rest (a.put o.dst v) w):wpList Tryz.prog ops Q (o::rest) a w:=by
 obtain⟨ev,h1,_⟩:=aG.jU hr ha hn hle;rw[hv] at h1;refine Ha hw _ w ?_ h;have:=h1.run;unfold execOp;rw[ho];show(do pure (.value (<-Instr.loadAt t (a.eval x))):Sem Next).run _ _=_;rw[hx];exact this
end
theorem Ff (a b:Option (Bool×Ξ))(w:Θ):
  Calls Tryz.prog 91 #[.agg (aG.bP a b)] w λe w'=>e= .returned (.tuple #[.int .i64 ((kV a b).getD 0),.bool (kV a b).isSome])/\aQ [] w w':=by
 go_enter Tryz.func91,Tryz.ntmps91;go_wp2_with (with_reducible first|refine bm rfl ?_);refine aj.go (fg rfl 164 _ rfl (.agg (aG.bP a b)) rfl ?_);intro w1 b1 l1 f1 r1;have c0:w1.cell? ⟨b1,0,none⟩=some (.bool a.isSome):=by rw[r1.cell];rfl
 have c1:w1.cell? ⟨b1,1,none⟩=some (.bool b.isSome):=by rw[r1.cell];rfl
 cases a with
 |none=>
  simp only[Option.isSome_none] at c0;go_wp2_with (with_reducible first|refine av 161 rfl ?_|refine dn 161 rfl ?_)
  go_ret2
  exact⟨rfl,f1⟩
 |some x=>
  simp only[Option.isSome_some] at c0;cases b with
  |none=>
   simp only[Option.isSome_none] at c1;go_wp2_with (with_reducible first|refine av 161 rfl ?_|refine dn 161 rfl ?_)
   go_ret2
   exact⟨rfl,f1⟩
  |some y=>
   simp only[Option.isSome_some] at c1;go_wp2_with (with_reducible first|refine av 161 rfl ?_|refine dn 161 rfl ?_);obtain⟨xb,xs⟩:=x;obtain⟨yb,ys⟩:=y;refine aj.go (Cz rfl 161 _ rfl b1 2 rfl r1 (by kernel_rfl) (n:=2) (by kernel_rfl) (by simp[aG.bP,Value.cells]) (aG.hv xb xs) (by simp[aG.bP,Value.cells,aG.hv]) ?_)
   go_wp2_with (with_reducible first|refine av 161 rfl ?_|refine dn 161 rfl ?_);refine aj.go (Cz rfl 161 _ rfl b1 4 rfl r1 (by kernel_rfl) (n:=2) (by kernel_rfl) (by simp[aG.bP,Value.cells]) (aG.hv yb ys) (by simp[aG.bP,Value.cells,aG.hv]) ?_);go_wp2_with (with_reducible first|refine av 161 rfl ?_|refine dn 161 rfl ?_)
   refine aj.go (Py rfl 15 18 _ rfl (b1:=xb) (b2:=yb) (s1:=xs) (s2:=ys) rfl rfl ?_);have hsrc:=I5 xb yb xs ys;cases heq:(xb==yb&&xs==ys) with
   |true=>
    have hs:Hid (kV (some (xb,xs)) (some (yb,ys))=some 0):=by show _=_;rw[hsrc,heq];rfl
    clear hsrc;go_wp2_with (with_reducible first|refine av 161 rfl ?_|refine dn 161 rfl ?_)
    go_ret2
    exact⟨by rw[hs.out];rfl,f1⟩
   |false=>
    have hs:Hid (kV (some (xb,xs)) (some (yb,ys))=none):=by show _=_;rw[hsrc,heq];rfl
    clear hsrc;go_wp2_with (with_reducible first|refine av 161 rfl ?_|refine dn 161 rfl ?_)
    go_ret2
    exact⟨by rw[hs.out];rfl,f1⟩
end
section
open Go.RowKit Go.Lib Go.Sort
open Go.Conc (base G stepG_value listed)
namespace aG
namespace Sq
abbrev TU:Nat:=90
def Uk (m:Nat)(wL:Θ)(v:Φ)(w':Θ):Prop:=v=nq wL.heap.size/\∃t d,w'=az {wL with heap:=wL.heap.push (.cells #[.map (some m)] O2 (0,0))} t d
theorem nP {E:ai.Env}{f:ab9}{k:List Item}{R:Act->Θ->Prop}{a:Act}{wL w1:Θ}{ops:Array Oper}{i:Nat}{rest:List Nat}{o:Oper}(v:Φ)(ho:ops[i]? =some o)(hg:o.guard=none)(hr:∀t d,(execOp a.eval o).run PP (az wL t d)= .ok (.value v) (az w1 t d))(h:ai.CI E f (.inRegion ops rest::k) R (a.put o.dst v) w1)(tG:mF PP S0 E0 true o=true:=by kernel_rfl):ai.CI E f (.inRegion ops (i::rest)::k) R a wL:=by
 refine ai.TZ ho tG hg λt d=>?_
 rw[hr];exact(ai.nQ t d).2 h
theorem EF {E:ai.Env}{f:ab9}{k:List Item}{R:Act->Θ->Prop}{a:Act}{wL:Θ}{ops:Array Oper}{i:Nat}{rest:List Nat}{o:Oper}(g j:Nat)(ho:ops[i]? =some o)(hg:o.guard=none)(hop:o.op= .makeFunc (.func g) #[] #[.tmp j])
  (h:ai.CI E f (.inRegion ops rest::k) R (a.put o.dst (.func (.func g) #[] #[a.eval (.tmp j)])) wL):ai.CI E f (.inRegion ops (i::rest)::k) R a wL:=λCS π M tr hp ha hd hk=>by
 have hwd:∀c:Array Φ,Region.wanted o (yielded ops c)=true:=λc=>by simp[Region.wanted,hg]
 have hkb:(base f).kind≠.early:=by simp[base]
 have hv:VV (hU E.H wL) (a.eval (.tmp j)):=l9 (x:= .tmp j) ha rfl;have hr:∀w es,(execOp (aT π a []).eval o).runT PP w es=(.ok (.value (.func (.func g) #[] #[(aT π a []).eval (.tmp j)])) w,es):=λw es=>by
  unfold execOp;rw[hop];show(do pure (.value (<-Instr.makeFunc (.func g) ((#[]:Array aa9).map (aT π a []).eval) ((#[.tmp j]:Array aa9).map (aT π a []).eval))):Sem Next).runT PP w es=_;rw[show(#[]:Array aa9).map (aT π a []).eval=#[] by simp,show(#[.tmp j]:Array aa9).map (aT π a []).eval=#[(aT π a []).eval (.tmp j)] by simp];rfl
 have hl0:∀w,listed PP (base f).fn (aT π a []) o w=#[]:=λw=>by
  unfold listed;rw[show(execOp (aT π a []).eval o).events PP w #[]=#[] from congrArg Prod.snd (hr w #[])];simp[seen]
 refine ai.eh hp (λw=>by rw[stepG_value ho (hwd _) hkb (by rw[<-Sem.runT_fst PP _ w #[],hr]),hl0]) λM1 E3 hp1=>?_
 have e:(aT π a []).put o.dst (.func (.func g) #[] #[(aT π a []).eval (.tmp j)])=aT π (a.put o.dst (.func (.func g) #[] #[a.eval (.tmp j)])) []:=by
  have h1:=su (π:=π) a o.dst (.func (.func g) #[] #[a.eval (.tmp j)]);have h2:Value.ren π (.func (.func g) #[] #[a.eval (.tmp j)])= .func (.func g) #[] #[(aT π a []).eval (.tmp j)]:=by
   have h3:(aT π a []).eval (.tmp j)=Value.ren π (a.eval (.tmp j)):=by
    show(a.tmps.map (Value.ren π)).getD j undef=_;rw[jY];rfl
   rw[h3];simp[oW]
  rw[<-h2];exact h1
 rw[e] at hp1;refine h CS π M1 E3 hp1 (iZ ha λr hr=>?_) ((put_defers _ _ _).trans hd) hk;cases hr with
 |first hx _=>simp at hx
 |GS hx hh=>
  simp at hx;subst hx;exact hv r hh
theorem Sr {E:ai.Env}{wL:Θ}(m:Nat):ai.CC E TU #[.map (some m)] (Uk m wL) wL:=by
 refine ai.mZ Tryz.func90 rfl ?_;refine ai.eR (ai.ee (nP (w1:={wL with heap:=wL.heap.push (.cells #[.map (some m)] O2 (0,0))}) (pb wL.heap.size) rfl rfl (λt d=>by kernel_rfl) ?_));refine fl _ rfl (.inl rfl) rfl (ai.cJ ?_);refine ai.eR (ai.ee (EF TT 1 rfl rfl rfl ?_))
 refine fl _ rfl (.inl rfl) rfl (ai.cJ (ai.GL ?_));exact⟨nq wL.heap.size,by kernel_rfl,rfl,wL.tape,wL.drawn,rfl⟩
end Sq
end aG
def ii (x:DS)(n:Nat)(s:Int):aG.iQ:=aG.jZ (qG s (aM x n)) (qG 2 (aM x n))
def iF (fa fb:aG.iQ)(ps:List (List η)):List (List η×Nat):=ps.filterMap λl=>(kV (fa (aB l)) (fb (aB l))).map λs=>(l,s)
def jF (fa fb:aG.iQ)(ps:List (List η)):List (List η):=ps.filter λl=>(kV (fa (aB l)) (fb (aB l))).isNone
def cA (ss:List (List η×Nat)):List Φ:=ss.flatMap λp=>[.string (aB p.1),.int .i64 p.2]
theorem Ip (set:Int)(fs:List cQ)(s:Ξ)(h:qG set fs s≠none):∃f∈fs,s=aB f.path:=by
 have key:∀(fs:List cQ) (g:Ξ->Option Ξ),fs.foldl (λg f=>if(f.set:Int)=set then λs=>if s=aB f.path then some (aB f.content) else g s else g) g s≠none->(∃f∈fs,s=aB f.path)\/g s≠none:=by
  intro fs
  induction fs with
  |nil=>intro g h;exact .inr h
  |cons f fs ih=>
   intro g h;rcases ih _ h with⟨x,hx,e⟩|h
   .exact .inl ⟨x,by simp[hx],e⟩
   .dsimp only at h
    by_cases hs:(f.set:Int)=set
    .rw[ξ hs] at h
     by_cases he:s=aB f.path
     .exact .inl ⟨f,by simp,he⟩
     .rw[ζ he] at h;exact .inr h
    .rw[ζ hs] at h;exact .inr h
 rcases key fs _ h with h|h
 .exact h
 .exact absurd rfl h
theorem R0 {x:DS}{n:Nat}{s:Ξ}(h:aG.comb (ii x n 0 s) (ii x n 1 s)≠none):∃f∈aM x n,s=aB f.path:=by
 have one:∀set,ii x n set s≠none->∃f∈aM x n,s=aB f.path:=λset hs=>by
  unfold ii aG.jZ at hs;split at hs
  .exact absurd rfl hs
  .rename_i hne
   by_cases h1:qG set (aM x n) s=none
   .exact Ip 2 _ s λq=>hne (h1.trans q.symm)
   .exact Ip set _ s h1
 by_cases h0:ii x n 0 s=none
 .by_cases h1:ii x n 1 s=none
  .rw[h0,h1] at h;exact absurd rfl h
  .exact one 1 h1
 .exact one 0 h0
theorem few {x:DS}{n:Nat}(ks:List Ξ)(hn:ks.Nodup)(h:∀s∈ks,aG.comb (ii x n 0 s) (ii x n 1 s)≠none):ks.length<=54:=by
 have h54:(aM x n).length<=54:=by unfold aM;rw[af9];exact eS x n
 have h1:(ks.map λk=>k.data.toList).Nodup:=by
  refine List.Pairwise.map _ (λa b hab he=>hab ?_) hn;have:a.data=b.data:=Array.ext' he;cases a;cases b;simp_all
 have h2:=ng (ks.map λk=>k.data.toList) ((aM x n).map (·.path)) h1 λa ha=>by
  obtain⟨k,hk,rfl⟩:=ae2.1 ha;obtain⟨f,hf,e⟩:=R0 (h k hk);refine ae2.2 ⟨f,hf,?_⟩;rw[e];simp[aB]
 simp at h2;omega
theorem aG.dk.few {es:Array af3}{c:Nat}{f:Ξ->Option Φ}(h:aG.dk es c f):∃ks:List Ξ,ks.Nodup/\ks.length=es.size/\∀s∈ks,f s≠none:=by
 refine⟨es.toList.map λe=>match e.key with|.string s=>s|_=>⟨#[]⟩,?_,by simp,λs hs=>?_⟩
 .have hp:=((Go.MapKept.stamped_iff es c).1 h.stamped).2.2
  refine(List.pairwise_map).2 (hp.imp_of_mem fun {a b} ha hb hab he=>?_);obtain⟨s,hs⟩:=aG.iN (h.keys a ha);obtain⟨s',hs'⟩:=aG.iN (h.keys b hb);rw[hs,hs'] at he hab;simp only at he;subst he
  simp_all
 .obtain⟨e,he,rfl⟩:=ae2.1 hs
  obtain⟨s,hs⟩:=aG.iN (h.keys e he);rw[hs];rw[(h.has s e.val).2 ⟨e,he,hs,rfl⟩];simp
end
section
open Go.RowKit Go.Lib Go.Sort
open Go.Conc (base G)
theorem p7:Elem Tryz.prog 109 168 2 24:=⟨by kernel_rfl,by kernel_rfl,by omega⟩
theorem Ov {a b:Option (Bool×Ξ)}:aG.comb a b≠none↔(a≠none\/b≠none):=by
 unfold aG.comb;cases a<;>cases b<;>simp
theorem World.ownsRow.ail {S:List Nat}{w w':Θ}{base:Nat}{e:Γ}{size:Nat}{v:Φ}{n:Nat}{xs:List Φ}(h:w.ownsRow base e size v n xs)(f:d8 S w w')(hS:∀g,v.ownBlock=some g->g∉S):w'.ownsRow base e size v n xs:=by
 refine⟨h.1,h.2.imp id λ⟨g,cap,cur,e1,e2,e3,e4⟩=>⟨g,cap,cur,e1,e2,?_,e4⟩⟩;rw[f.block g (Ψ.1 e3).1 (hS g (by rw[e1];rfl))];exact e3
theorem CO (fa fb:aG.iQ)(ps:List (List η))(k:Nat)(hk:k<ps.length):iF fa fb (ps.take (k+1))=iF fa fb (ps.take k)++((kV (fa (aB ps[k])) (fb (aB ps[k]))).map λs=>(ps[k],s)).toList:=by
 unfold iF;rw[ac0 hk,List.filterMap_append]
 congr 1
 all_goals (cases h:kV (fa (aB ps[k])) (fb (aB ps[k]))<;>simp[h])
theorem EB (fa fb:aG.iQ)(ps:List (List η))(k:Nat)(hk:k<ps.length):jF fa fb (ps.take (k+1))=jF fa fb (ps.take k)++if(kV (fa (aB ps[k])) (fb (aB ps[k]))).isNone then [ps[k]] else []:=by
 unfold jF;rw[ac0 hk,List.filter_append]
 congr 1
 all_goals (cases h:kV (fa (aB ps[k])) (fb (aB ps[k]))<;>simp[h])
theorem E7 (fa fb:aG.iQ)(ps:List (List η)):(iF fa fb ps).length<=ps.length:=List.length_filterMap_le _ _
theorem GF (fa fb:aG.iQ)(ps:List (List η)):(jF fa fb ps).length<=ps.length:=List.length_filter_le _ _
theorem rQ (a b:List (List η×Nat)):cA (a++b)=cA a++cA b:=by simp[cA]
section
variable {ops:Array Oper}{Q:Exit->Act->Θ->Prop}{a:Act}{w:Θ}{rest:List Oper}{o:Oper}
theorem uJ {t:Γ}{x y:aa9}{b:Bool}(_:o.op= .lookup t x y b)(h:aj (wpList Tryz.prog ops Q (o::rest) a w)):wpList Tryz.prog ops Q (o::rest) a w:=h
theorem IQ (hg:o.guard=none)(t kt vt:Γ)(x y:aa9)(ho:o.op= .lookup t x y false)(ht:Tryz.prog.underlying t=some (.map kt vt))(hk:Tryz.prog.underlying kt=some .string){z:Φ}(hz:(Tryz.prog.info? vt).bind (·.zero)=some z)
  {m c:Nat} {es:Array af3} {f:Ξ->Option Φ} {s:Ξ} (hx:a.eval x= .map (some m)) (hy:a.eval y= .string s) (hm:w.heap[m]? =some (.map es c)) (hf:aG.dk es c f) (v:Φ) (hv:(f s).getD z=v)
  (h:wpList Tryz.prog ops Q rest (a.put o.dst v) w):wpList Tryz.prog ops Q (o::rest) a w:=by
 refine cH hg v w ?_ h;have:=(aG.pO (t:=t) (s:=s) ht hk hz hm hf).run;rw[hv] at this;unfold execOp;rw[ho];show(do pure (.value (<-Instr.lookup t (a.eval x) (a.eval y) false)):Sem Next).run _ _=_;rw[hx,hy];exact this
end
theorem _root_.Go.World.ownsRow.weak {w:Θ}{base base':Nat}{e:Γ}{size:Nat}{v:Φ}{n:Nat}{xs:List Φ}(h:w.ownsRow base e size v n xs)(hb:base'<=base):w.ownsRow base' e size v n xs:=
 ⟨h.1,h.2.imp id λ⟨g,cap,cur,e1,e2,e3⟩=>⟨g,cap,cur,e1,ae6 hb e2,e3⟩⟩
def Un (x:DS)(n:Nat)(wL:Θ)(v:Φ)(w':Θ):Prop:=∃(ps:List (List η)) (sv cv:Φ),ps.Pairwise (·<=·)/\ps.Nodup/\(∀l,l∈ps↔aG.comb (ii x n 0 (aB l)) (ii x n 1 (aB l))≠none)/\
 v= .tuple #[sv,cv]/\d8 [] wL w'/\w'.ownsRow wL.heap.size 168 2 sv (iF (ii x n 0) (ii x n 1) ps).length (cA (iF (ii x n 0) (ii x n 1) ps))/\
 w'.ownsRow wL.heap.size 9 1 cv (jF (ii x n 0) (ii x n 1) ps).length (fo (jF (ii x n 0) (ii x n 1) ps))
open aG aG.Sq in
theorem Ss {E:ai.Env}{wL:Θ}{d bl n:Nat}{x:DS}(hd:aG.fM d bl n x wL):ai.CC E 55 #[.pointer (some ⟨d,0,none⟩)] (Un x n wL) wL:=by
 refine ai.mZ Tryz.func55 rfl ?_;refine ai.eR (ai.ee (fl _ rfl (.inl rfl) rfl (fl _ rfl (.inl rfl) rfl (ai.cJ ?_))));refine ai.eR (ai.ee (fl _ rfl (.inl rfl) rfl (ai.cJ ?_)))
 refine ai.eR (ai.ee (fl _ rfl (.inl rfl) rfl (ai.cJ ?_)));refine ai.eR (ai.ee (fl _ rfl (.inr rfl) rfl ?_));refine lB (f2:=88) #[.tmp 11] #[.pointer (some ⟨d,0,none⟩)] (R2:=aeO x n wL) rfl rfl (by kernel_rfl) (λb w=>by kernel_rfl) (by kernel_rfl) (GQ hd) λv w1 hR _=>?_
 obtain⟨es,c,rfl,⟨t1,d1,rfl⟩,hD⟩:=hR;refine(ai.nQ t1 d1).2 ?_;obtain⟨es',c',f,e0,hm,hf⟩:=hD;cases e0;have hfix:=Ew (a:=ii x n 0) (b:=ii x n 1) (es:=es) (c:=c) ⟨es,c,f,rfl,hm,hf⟩;have hf':∀s,f s=comb (ii x n 0 s) (ii x n 1 s):=hf;obtain⟨w1,hw1⟩:∃w1,w1={wL with heap:=wL.heap.push (.map es c)}:=⟨_,rfl⟩
 rw[<-hw1];have hes:es.size<=54:=by
  obtain⟨ks,k1,k2,k3⟩:=hm.few;rw[<-k2];exact few (x:=x) (n:=n) ks k1 λs hs=>by rw[<-hf'];exact k3 s hs
 have B1:d8 [] wL w1:=by
  rw[hw1];exact⟨rfl,by simp,λk hk _=>by show(wL.heap.push _)[k]? =_;rw[ac2 hk];exact(ν hk).symm⟩
 have hM1:w1.heap[wL.heap.size]? =some (.map es c):=by rw[hw1];simp
 have s1:w1.heap.size=wL.heap.size+1:=by rw[hw1];simp
 clear hw1;refine fl _ rfl (.inl rfl) rfl (ai.cJ ?_);refine ai.eR (ai.eR (ai.ee (fl _ rfl (.inr rfl) rfl ?_)));refine lB (f2:=TU) #[.tmp 13] #[.map (some wL.heap.size)] (R2:=Uk wL.heap.size w1) rfl rfl (by kernel_rfl) (λb w=>by kernel_rfl) (by kernel_rfl) (Sr _) λv w2 hR _=>?_
 obtain⟨rfl,t2,d2,rfl⟩:=hR;refine(ai.nQ t2 d2).2 ?_;obtain⟨w2,hw2⟩:∃w2,w2={w1 with heap:=w1.heap.push (.cells #[.map (some wL.heap.size)] O2 (0,0))}:=⟨_,rfl⟩
 rw[<-hw2];have B2:d8 [] w1 w2:=by
  rw[hw2];exact⟨rfl,by simp,λk hk _=>by show(w1.heap.push _)[k]? =_;rw[ac2 hk];exact(ν hk).symm⟩
 have hB2:w2.heap[w1.heap.size]? =some (.cells #[.map (some wL.heap.size)] O2 (0,0)):=by rw[hw2];simp
 have s2:w2.heap.size=w1.heap.size+1:=by rw[hw2];simp
 clear hw2;have hM2:w2.heap[wL.heap.size]? =some (.map es c):=(B2.block _ (by omega) (by simp)).trans hM1;refine lB (f2:=89) #[.tmp 14] #[nq w1.heap.size] (R2:=IE f w2) rfl rfl (by kernel_rfl) (λb w=>by kernel_rfl) (by kernel_rfl)
  (KA (es:=es) (GR (Zj hB2 hM2 hm hfix (by omega))) λks k1 k2=>Nat.lt_of_le_of_lt (few (x:=x) (n:=n) ks k1 λs hs=>by rw[<-hf'];exact(k2 s).1 hs) (by omega)) λv w3 hR _=>?_
 obtain⟨ps,hs,hn,hmem,B3,hv⟩:=hR;have X4:w3.heap[wL.heap.size]? =some (.map es c):=(B3.block _ (by omega) (by simp)).trans hM2;have BL:d8 [] wL w3:=(B1.trans B2).trans B3;obtain⟨ad,cap,rfl,hcell⟩:∃ad cap,v= .slice ad ps.length cap/\(0<ps.length->∃g,ad=some ⟨g,0,none⟩/\g<w3.heap.size/\Holds encStr w3 g 0 ps.toArray):=by
  rcases hv with⟨rfl,rfl⟩|⟨g,cap,rfl,_,h2,h3⟩
  .exact⟨none,0,rfl,λh=>absurd h (by simp)⟩
  .exact⟨_,cap,rfl,λ_=>⟨g,rfl,h2,h3⟩⟩
 have hpl:ps.length<=54:=by
  have:=few (x:=x) (n:=n) (ps.map aB) (List.Pairwise.map _ (λa b hab he=>hab (by simpa [aB] using he)) hn) λs hs=>by
   obtain⟨l,hl,rfl⟩:=ae2.1 hs;rw[<-hf'];exact(hmem l).1 hl
  simpa using this
 clear hv B1 B2 B3 hM1 hM2 hB2;refine nP (w1:=w3) (.int .i64 ps.length) rfl rfl (λt d=>by kernel_rfl) ?_;refine fl _ rfl (.inr rfl) rfl (ai.cJ ?_)
 refine uu {tmps:=#[.pointer (some ⟨d,0,none⟩),undef,.slice none 0 0,.slice none 0 0,.slice none 0 0,.slice none 0 0,.map (some wL.heap.size),undef,undef,undef,undef,.pointer (some ⟨d,0,none⟩),.map (some wL.heap.size),.map (some wL.heap.size),nq w1.heap.size,.slice ad ps.length cap,.int .i64 ps.length,.int .i64 0,undef,undef,undef,undef,undef,undef,undef,undef,undef,undef,undef,undef,undef,undef,undef,undef,undef,undef,undef,undef,undef,undef,undef,undef],defers:=[]} (by kernel_rfl) ?_
 generalize hmm:wL.heap.size=m at*;generalize w1.heap.size=qb at*;refine ai.fx none ⟨_,Tryz.func55⟩ (by kernel_rfl) (by simp) (λw=>d8 [] wL w/\w.heap[m]? =some (.map es c)/\(0<ps.length->∃g,ad=some ⟨g,0,none⟩/\g<w.heap.size/\Holds encStr w g 0 ps.toArray)) (λw t d h=>⟨h.1.tape t d,h.2.1,h.2.2⟩) ⟨BL,X4,hcell⟩ λw hI hsz=>?_
 obtain⟨hB,hM,hC⟩:=hI;clear BL X4 hcell hsz;go_wp2_with fail
 go_loopw [4,5,17] (λu4 u5 u17 wr=>∃k:Nat,u17= .int .i64 k/\k<=ps.length/\aQ [] w wr/\wr.ownsRow w.heap.size 168 2 u4 (iF (ii x n 0) (ii x n 1) (ps.take k)).length (cA (iF (ii x n 0) (ii x n 1) (ps.take k)))/\
  wr.ownsRow w.heap.size 9 1 u5 (jF (ii x n 0) (ii x n 1) (ps.take k)).length (fo (jF (ii x n 0) (ii x n 1) (ps.take k)))/\∀g,u4.ownBlock=some g->u5.ownBlock=some g->False) (λ_ _ u17 _=>ps.length-(intOf u17).toNat)
 case atStart=>exact⟨0,rfl,by omega,aQ.refl _ _,World.ownsRow_nil _ _ _ _,World.ownsRow_nil _ _ _ _,λg h=>by cases h⟩
 case round=>
  obtain⟨k,rfl,hk,fk,ho1,ho2,Kd⟩:=hrel
  by_cases hlt:k<ps.length
  .obtain⟨g,rfl,hg,hH⟩:=hC (by omega)
   have hc1:wr.cell? ⟨g,k,none⟩=some (.string (aB ps[k])):=by
    have h1:=(hH k (by simpa using hlt)).1;rw[getElem!_pos ps.toArray k (by simpa using hlt)] at h1;have h2:wr.heap[g]? =w.heap[g]? :=fk.block g hg (by simp);unfold World.cell? at h1⊢;simp only[Nat.zero_add] at h1;rw[h2];simpa [encStr,aB] using h1
   have hM':wr.heap[m]? =some (.map es c):=(fk.block m (Ψ.1 hM).1 (by simp)).trans hM;have hs1:=CO (ii x n 0) (ii x n 1) ps k hlt;have hs2:=EB (ii x n 0) (ii x n 1) ps k hlt;have hl1:(iF (ii x n 0) (ii x n 1) (ps.take k)).length<=54:=by have:=E7 (ii x n 0) (ii x n 1) (ps.take k);rw[ac6] at this;omega
   have hl2:(jF (ii x n 0) (ii x n 1) (ps.take k)).length<=54:=by have:=GF (ii x n 0) (ii x n 1) (ps.take k);rw[ac6] at this;omega
   generalize ps[k]=p at*;have hfp:(f (aB p)).getD zF= .agg (aG.bP (ii x n 0 (aB p)) (ii x n 1 (aB p))):=by rw[hf',yF]
   go_wp2_with (with_reducible first|refine uJ rfl ?_);refine aj.go (IQ rfl 153 9 164 _ _ rfl Ln Lp K7 rfl rfl hM' hm _ hfp ?_);clear hfp hM' hc1;have HS1:Hid (iF (ii x n 0) (ii x n 1) (ps.take (k+1))=iF (ii x n 0) (ii x n 1) (ps.take k)++((kV (ii x n 0 (aB p)) (ii x n 1 (aB p))).map λs=>(p,s)).toList):=hs1
   have HS2:Hid (jF (ii x n 0) (ii x n 1) (ps.take (k+1))=jF (ii x n 0) (ii x n 1) (ps.take k)++if(kV (ii x n 0 (aB p)) (ii x n 1 (aB p))).isNone then [p] else []):=hs2;clear hs1 hs2;generalize ii x n 0 (aB p)=fa at HS1 HS2⊢;generalize ii x n 1 (aB p)=fb at HS1 HS2⊢;go_wp2_with (with_reducible first|refine uJ rfl ?_);refine(Ff fa fb wr).mono ?_
   rintro e w4 ⟨rfl,f4⟩;have TP:=fk.trans f4;have Rq:=f4.owns ho1;have Rp:=f4.owns ho2;cases hsrc:kV fa fb with
   |some sd=>
    rw[hsrc] at HS1 HS2;simp only[Option.getD_some,Option.isSome_some];go_wp2_with (with_reducible first|refine bI 168 rfl ?_|refine bH rfl ?_|refine bJ rfl ?_);refine aj.go (cH rfl (.agg #[.string (aB p),.int .i64 sd]) w4 (by kernel_rfl) ?_);go_wp2_with (with_reducible first|refine bH rfl ?_|refine bJ rfl ?_)
    refine aj.go (fH rfl 109 168 2 24 p7 _ rfl (.agg #[.string (aB p),.int .i64 sd]) rfl rfl ?_);intro w8 b8 l8 f8 r8;go_wp2_with (with_reducible first|refine bH rfl ?_|refine bJ rfl ?_);have x8:=f8.owns Rq;have Gf:=f8.owns Rp;have NJ:=TP.trans f8;have hbase:w.heap.size<=w8.heap.size:=NJ.size
    refine aj.go (gG rfl 109 168 2 24 p7 _ _ rfl w.heap.size u4 _ _ rfl x8 b8 1 1 [.string (aB p),.int .i64 sd] rfl _ _ r8 rfl rfl (by simp[Value.oneCell']) (by omega) (by omega) (by omega) hbase ?_);intro g' cap' w9 Ge f9 hg';have NI:=NJ.trans f9 (by intro j hj;right;simp at hj;exact(x8.lt j hj).1)
    have ahJ:=f9.owns Gf (by intro q hq hq';simp at hq;exact Kd q hq hq');have Np:∀q,g'=q->u5.ownBlock=some q->False:=λq e hq=>by
     subst e;rcases hg' with h|h
     .exact Kd g' h hq
     .have:=(Gf.lt g' hq).2;omega
    clear ho1 ho2 Rq Rp x8 Gf r8 f8 f9 l8 fk TP NJ f4 hbase Kd hg';go_wp2_with fail
    go_roundw
    case rel=>
     refine⟨k+1,by go_num,by omega,NI,?_,?_,λq h=>Np q (by simpa [Value.ownBlock] using h)⟩
     .rw[HS1.out,rQ]
      simpa [cA] using Ge
     .rw[HS2.out]
      simpa using ahJ
    case measure=>simp[intOf];omega
   |none=>
    rw[hsrc] at HS1 HS2;simp only[Option.getD_none,Option.isSome_none];go_wp2_with (with_reducible first|refine bI 168 rfl ?_|refine bH rfl ?_|refine bJ rfl ?_);refine aj.go (fH rfl 45 9 1 16 iO _ rfl (.string (aB p)) rfl rfl ?_);intro w8 b8 l8 f8 r8;go_wp2_with (with_reducible first|refine bH rfl ?_|refine bJ rfl ?_)
    have x8:=f8.owns Rq;have Gf:=f8.owns Rp;have NJ:=TP.trans f8;have hbase:w.heap.size<=w8.heap.size:=NJ.size;refine aj.go (gG rfl 45 9 1 16 iO _ _ rfl w.heap.size u5 _ _ rfl Gf b8 1 1 [.string (aB p)] rfl _ _ r8 rfl rfl (by simp[Value.oneCell']) (by omega) (by omega) (by omega) hbase ?_);intro g' cap' w9 Ge f9 hg'
    have NI:=NJ.trans f9 (by intro j hj;right;simp at hj;exact(Gf.lt j hj).1);have ahK:=f9.owns x8 (by intro q hq hq';simp at hq;exact Kd q hq' hq);have Np:∀q,u4.ownBlock=some q->g'=q->False:=λq hq e=>by
     subst e;rcases hg' with h|h
     .exact Kd g' hq h
     .have:=(x8.lt g' hq).2;omega
    clear ho1 ho2 Rq Rp x8 Gf r8 f8 f9 l8 fk TP NJ f4 hbase Kd hg';go_wp2_with fail
    go_roundw
    case rel=>
     refine⟨k+1,by go_num,by omega,NI,?_,?_,λq h h'=>Np q h (by simpa [Value.ownBlock] using h')⟩
     .rw[HS1.out]
      simpa using ahK
     .rw[HS2.out]
      simpa [fo,encStr,aB] using Ge
    case measure=>simp[intOf];omega
  .have hk2:k=ps.length:=by omega
   subst hk2;rw[θ (ι _)] at ho1 ho2;have hbw:m<=w.heap.size:=by have:=hB.size;omega
   go_wp2_with fail;refine ai.eR (ai.ee (fl _ rfl (.inr rfl) rfl (fl _ rfl (.inr rfl) rfl (fl _ rfl (.inl rfl) rfl (fl _ rfl (.inl rfl) rfl (ai.cJ (ai.GL ?_)))))));refine⟨.tuple #[u4,u5],by kernel_rfl,ps,u4,u5,hs,hn,λl=>by rw[<-hf'];exact hmem l,rfl,hB.trans fk.blk,?_,?_⟩
   .rw[hmm];exact ho1.weak hbw
   .rw[hmm];exact ho2.weak hbw
end
section
open Go.RowKit Go.Lib
theorem x3:∃i,Tryz.prog.info? 5=some i/\i.size=1/\i.bytes=1/\i.zero=some (.int .u8 0):=by
 have:=uh;cases hi:Tryz.prog.info? 5 with
 |none=>simp[hi] at this
 |some i=>simp only[hi,ω,ae5,af4] at this;exact⟨i,rfl,this⟩
def zc (b:Nat)(w w':Θ):Prop:=∀k o,w.heap[k]? =some o->k≠b->(∀c f,o≠.cells c 5 f)->w'.heap[k]? =some o
theorem zc.refl (b:Nat)(w:Θ):zc b w w:=λ_ _ h _ _=>h
theorem zc.trans {b:Nat}{w w' w'':Θ}(h:zc b w w')(h':zc b w' w''):zc b w w'':=λk o h1 h2 h3=>h' k o (h k o h1 h2 h3) h2 h3
theorem zc.cell {b off:Nat}{w:Θ}(v:Φ):zc b w (w.setCell ⟨b,off,none⟩ v):=λk o h1 h2 _=>by rw[(Go.Conc.aside_setCell w ⟨b,off,none⟩ v).block k h2];exact h1
theorem zc.wu {b:Nat}{w w':Θ}(h:aQ [] w w'):zc b w w':=λk o h1 _ _=>by rw[h.block k (Ψ.1 h1).1 (by simp)];exact h1
theorem zc.grown {b B n:Nat}{w w':Θ}{v:Φ}{xs:List Φ}(ho:w.ownsRow B 5 1 v n xs)(h:w.grownBy w' v.ownBlock):zc b w w':=λk o h1 _ h3=>by
 rw[h.block k (Ψ.1 h1).1 λe=>?_]
 .exact h1
 .rcases ho.2 with⟨rfl,_⟩|⟨g,cap,cur,rfl,_,hg,_⟩
  .cases e
  .have:g=k:=by simpa [Value.ownBlock] using e.symm
   subst this;rw[hg] at h1;exact h3 _ _ (af0 h1).symm
theorem vv (B b:Nat)(bs:List Φ)(w:Θ)(h:IsBuilder 146 5 B b bs w):
  Calls Tryz.prog 129 #[.pointer (some ⟨b,0,none⟩)] w λe w'=>e= .returned (.tuple #[])/\BuilderAt 146 5 B b (.pointer (some ⟨b,0,none⟩)) bs w'/\Below B w w'/\zc b w w':=by
 rcases h with h|h
 .refine(oe b w h.cell0 h.shape h.frozen0).mono ?_
  rintro e w' ⟨rfl,rfl⟩;exact⟨rfl,h.used _,(Below.refl B w).setCell (p:=⟨b,0,none⟩) h.1 _,zc.cell _⟩
 .refine(pB b w h.cell0).mono ?_
  rintro e w' ⟨rfl,rfl⟩;exact⟨rfl,h,Below.refl B _,zc.refl _ _⟩
theorem Kr:Elem Tryz.prog 85 5 1 1:=⟨pL,by kernel_rfl,by omega⟩
theorem IR (B b:Nat)(bs:List Φ)(c:Int)(w:Θ)(h:IsBuilder 146 5 B b bs w)(hlen:bs.length+1<=1000000)(hBw:B<=w.heap.size):
  Calls Tryz.prog 179 #[.pointer (some ⟨b,0,none⟩),.int .u8 c] w λe w'=>e= .returned .nilIface/\BuilderAt 146 5 B b (.pointer (some ⟨b,0,none⟩)) (bs++[.int .u8 c]) w'/\Below B w w'/\zc b w w':=by
 obtain⟨i0,hi,hz⟩:=x3;go_enter Tryz.func179,Tryz.ntmps179;go_wp2_with fail;refine(vv B b bs w h).mono ?_;rintro e w1 ⟨rfl,h1',hb1,ot1⟩;obtain⟨hB,v,hbk,hown,hne⟩:=h1';have c0:w1.cell? ⟨b,0,none⟩=some (.pointer (some ⟨b,0,none⟩)):=by rw[Lib.cell_of_heap hbk];rfl
 have c1:w1.cell? ⟨b,1,none⟩=some v:=by rw[Lib.cell_of_heap hbk];rfl
 have hlt:b<w1.heap.size:=(Ψ.1 hbk).1;go_wp2_with (with_reducible first|refine bH rfl ?_|refine bJ rfl ?_);refine aj.go (fH rfl 85 5 1 1 Kr _ rfl (.int .u8 c) rfl rfl ?_);intro w2 b2 l2 f2 r2;have hown2:=f2.owns hown
 have hbk2:w2.heap[b]? =some (.cells #[.pointer (some ⟨b,0,none⟩),v] 146 (0,0)):=by rw[f2.block b hlt (by simp)];exact hbk
 have hsz:=hb1.size;have hsz2:=f2.size;have hcell2:∀j u,[Value.int .u8 c][j]? =some u->w2.cell? ((⟨b2,0,none⟩:Addr).add j)=some u:=λj u hj=>by
  rw[Addr.add_mid,r2.cell];simpa [Value.cells] using hj
 clear c0 c1;go_wp2_with (at_builtin;refine wpList_append_own _ rfl _ _ 85 rfl B 5 i0 (.int .u8 0) 1 1 pL hi hz.2.2 hz.1 hz.2.1 rfl (by decide) _ _ _ rfl hown2 ⟨b2,0,none⟩ 1 1 [.int .u8 c] rfl rfl hcell2 (by simp[Value.oneCell']) ?c3 ?c4 ?c5 ?_)
 case c3=>unfold maxLen;omega
 case c4=>omega
 case c5=>omega
 intro v' w3 hown' hgrow _;have hb3:w3.heap[b]? =some (.cells #[.pointer (some ⟨b,0,none⟩),v] 146 (0,0)):=by
  rw[hgrow.block b (by omega) (λe=>hne e.symm)];exact hbk2
 have d0:w3.cell? ⟨b,0,none⟩=some (.pointer (some ⟨b,0,none⟩)):=by rw[Lib.cell_of_heap hb3];rfl
 have d1:w3.cell? ⟨b,1,none⟩=some v:=by rw[Lib.cell_of_heap hb3];rfl
 have f1:w3.frozen? ⟨b,1,none⟩=false:=Lib.frozen_of_heap hb3 1;obtain⟨ao,n',cap,rfl⟩:∃ao n' cap,v'= .slice ao n' cap:=by
  rcases hown'.2 with⟨hv,_⟩|⟨g,cap,cur,hv,_⟩
  .exact⟨_,_,_,hv⟩
  .exact⟨_,_,_,hv⟩
 have hB2:Below B w w2:=⟨f2.os.trans hb1.os,f2.tape.trans hb1.tape,f2.output.trans hb1.output,by omega,λk hk=>by rw[f2.block k (by have:=hb1.size;omega) (by simp)];exact hb1.block k hk⟩
 go_wp2_with fail;go_ret;refine⟨rfl,?_,?_,((ot1.trans (zc.wu f2)).trans (zc.grown hown2 hgrow)).trans (zc.cell _)⟩
 .exact Lib.BuilderAt.put (T:=146) (e:=5) hB hb3 (bs':=bs++[.int .u8 c]) (by simpa using hown') (by decide)
 .exact(hB2.grown hgrow (by omega) (λk hk=>(hown.lt k hk).1)).setCell (p:=⟨b,1,none⟩) hB _
theorem Cv (B b:Nat)(bs:List Φ)(s:Ξ)(w:Θ)(h:IsBuilder 146 5 B b bs w)(hlen:bs.length+s.size<=1000000)(hBw:B<=w.heap.size):
  Calls Tryz.prog 153 #[.pointer (some ⟨b,0,none⟩),.string s] w λe w'=>e= .returned (.tuple #[.int .i64 s.size,.nilIface])/\BuilderAt 146 5 B b (.pointer (some ⟨b,0,none⟩)) (bs++strCells s) w'/\Below B w w'/\zc b w w':=by
 obtain⟨i0,hi,hz⟩:=x3;go_enter Tryz.func153,Tryz.ntmps153;go_wp2_with fail;refine(vv B b bs w h).mono ?_;rintro e w1 ⟨rfl,h1',hb1,ot1⟩;obtain⟨hB,v,hbk,hown,hne⟩:=h1';have c0:w1.cell? ⟨b,0,none⟩=some (.pointer (some ⟨b,0,none⟩)):=by rw[Lib.cell_of_heap hbk];rfl
 have c1:w1.cell? ⟨b,1,none⟩=some v:=by rw[Lib.cell_of_heap hbk];rfl
 have hlt:b<w1.heap.size:=(Ψ.1 hbk).1;have hsz:=hb1.size;go_wp2_with (at_builtin;refine Lib.wpList_append_own_string _ rfl _ _ 85 9 rfl B 5 i0 pL Tryz.underlying9 hi hz.2.2 hz.1 hz.2.1 _ _ _ rfl hown s rfl ?c3 ?c4 ?c5 ?_)
 case c3=>unfold maxLen;omega
 case c4=>omega
 case c5=>omega
 intro v' w3 hown' hgrow _;have hb3:w3.heap[b]? =some (.cells #[.pointer (some ⟨b,0,none⟩),v] 146 (0,0)):=by
  rw[hgrow.block b (by omega) (λe=>hne e.symm)];exact hbk
 have d0:w3.cell? ⟨b,0,none⟩=some (.pointer (some ⟨b,0,none⟩)):=by rw[Lib.cell_of_heap hb3];rfl
 have d1:w3.cell? ⟨b,1,none⟩=some v:=by rw[Lib.cell_of_heap hb3];rfl
 have f1:w3.frozen? ⟨b,1,none⟩=false:=Lib.frozen_of_heap hb3 1;obtain⟨ao,n',cap,rfl⟩:∃ao n' cap,v'= .slice ao n' cap:=by
  rcases hown'.2 with⟨hv,_⟩|⟨g,cap,cur,hv,_⟩
  .exact⟨_,_,_,hv⟩
  .exact⟨_,_,_,hv⟩
 clear c0 c1;go_wp2_with fail
 go_ret2
 refine⟨rfl,?_,?_,(ot1.trans (zc.grown hown hgrow)).trans (zc.cell _)⟩
 .exact Lib.BuilderAt.put (T:=146) (e:=5) hB hb3 (bs':=bs++strCells s) (by rw[af5,strCells_length];exact hown') (by decide)
 .exact(hb1.grown hgrow (by omega) (λk hk=>(hown.lt k hk).1)).setCell (p:=⟨b,1,none⟩) hB _
def dh (ss:List (List η×Nat)):List η:=ss.flatMap λp=>(if p.2=0 then 76 else 82)::p.1
theorem Er (a b:List (List η×Nat)):dh (a++b)=dh a++dh b:=by simp[dh]
theorem oC (l:List (List η×Nat))(k:Nat)(hk:k<l.length):((cA l).drop (k*2)).take 2=[.string (aB l[k].1),.int .i64 l[k].2]:=by
 have h:∀(l:List (List η×Nat)) (k:Nat),(cA l).drop (k*2)=cA (l.drop k):=by
  intro l
  induction l with
  |nil=>intro k;simp[cA]
  |cons f r ih=>
   intro k;cases k with
   |zero=>simp
   |succ k=>
    have:=ih k;have e:cA (f::r)=[.string (aB f.1),.int .i64 f.2]++cA r:=rfl;rw[e,show(k+1)*2=2+k*2 by omega,<-List.drop_drop];simpa using this
 rw[h,ae0 hk];rfl
theorem row_step:(Tryz.prog.underlying 168).map TypeDesc.isRow=some true:=by kernel_rfl
theorem pX:(Tryz.prog.info? 168).map (·.size)=some 2:=by kernel_rfl
theorem zY:(Tryz.prog.info? 168).map (·.zero)=some (some (.agg #[.string ⟨#[]⟩,.int .i64 0])):=by kernel_rfl
theorem wR (l:List η):strCells (aB l)=byteCells l:=by
 unfold strCells aB byteCells;simp
theorem D4 (base:Nat)(v:Φ)(ss:List (List η×Nat))(w:Θ)(hv:w.ownsRow base 168 2 v ss.length (cA ss))(hl:ss.length<=54)(hp:∀p∈ss,p.1.length<=8/\p.2<=1):
  Calls Tryz.prog 138 #[v] w λe w'=>e= .returned (.string (aB (dh ss)))/\aQ [] w w':=by
 obtain⟨ad,cap,hv'⟩:=bW hv;subst hv';have hel:∀k,k<=ss.length->(dh (ss.take k)).length<=9*k:=by
  intro k
  induction k with
  |zero=>intro _;simp[dh]
  |succ k ih=>
   intro hk;rw[ac0 (by omega),Er,af5];have h1:=ih (by omega);have h2:=(hp ss[k] (af2 (by omega))).1;have h3:(dh [ss[k]]).length=1+ss[k].1.length:=by simp[dh];omega
   omega
 go_enter Tryz.func138,Tryz.ntmps138;go_wp2_with (with_reducible first|refine ay rfl ?_);refine aj.go (aY rfl 146 rfl _ rJ ?_);intro w1 b3 l3 f1 r3;have hB0:IsBuilder 146 5 w.heap.size b3 (byteCells (dh (ss.take 0))) w1:=
  .inl ⟨l3,.slice none 0 0,r3,by simpa [byteCells,dh] using World.ownsRow_nil _ _ _ _,by simp[Value.ownBlock]⟩
 go_wp2_with fail;clear r3
 go_loopw [8] (λc wr=>∃k:Nat,c= .int .i64 k/\k<=ss.length/\aQ [] w wr/\IsBuilder 146 5 w.heap.size b3 (byteCells (dh (ss.take k))) wr) (λc _=>ss.length-(intOf c).toNat)
 case atStart=>exact⟨0,rfl,by omega,f1,hB0⟩
 case round=>
  obtain⟨k,rfl,hk,fk,hb⟩:=hrel;clear f1 hB0
  by_cases hlt:k<ss.length
  .have hvk:=fk.owns hv
   obtain⟨g,cur,rfl,hg,hle,_,hcs,htk⟩:=dY hvk;have hat:((cur.toList.drop (k*2)).take 2)=[.string (aB ss[k].1),.int .i64 ss[k].2]:=by
    rw[bX htk _ _,oC ss k hlt]
   have hpk:=hp ss[k] (af2 hlt);have hek:=hel k hk;have HX:Hid (dh (ss.take (k+1))=dh (ss.take k)++((if ss[k].2=0 then 76 else 82)::ss[k].1)):=by
    show _=_;rw[ac0 hlt,Er];simp[dh]
   generalize ss[k]=p at*;obtain⟨p1,p2⟩:=p;simp only at hat hpk HX;generalize dh (ss.take k)=pre at*;clear hcs htk hvk;go_wp2_with (with_reducible first|refine ay rfl ?_|refine av 168 rfl ?_|refine ah 168 rfl ?_);refine aj.go (bM rfl 168 _ rfl g (k*2) rfl row_step 2 pX _ _ hg _ hat rfl ?_);clear hat hg
   go_wp2_with (with_reducible first|refine ay rfl ?_|refine ah 168 rfl ?_);refine aj.go (aY rfl 168 rfl _ zY ?_);intro w4 b5 l5 f4 r5;go_wp2_with (with_reducible first|refine ay rfl ?_|refine ah 168 rfl ?_);refine aj.go (bG rfl 168 _ _ rfl _ 0 rfl _ rfl 2 pX ?_ ?_ _ _ r5 ?_ ?_)
   .rfl
   .simp[Value.oneCell']
   .decide
   intro w5 f5 q5;rw[bu _ _ (by rfl)] at q5;have lE:Row w5 b5 #[.string (aB p1),.int .i64 p2] 168:=q5;have j5:aQ [] wr w5:=f4.trans f5 (by simpa using l5);have qh:=fk.trans j5;have hb5:=Ia hb j5;have c0:w5.cell? ⟨b5,0,none⟩=some (.string (aB p1)):=by rw[lE.cell];rfl
   have hne:b5≠b3:=by
    have:b3<wr.heap.size:=by
     rcases hb with hb|hb<;>exact hb.lt
    omega
   have hlen1:(byteCells pre).length+1<=1000000:=by rw[af];omega
   clear q5 r5 f4 f5 j5 fk hb;have hs8:(aB p1).size<=8:=by simpa [aB,ByteArray.size] using hpk.1
   obtain⟨cb,hcb,HX2⟩:∃cb:η,Hid (cb=if p2=0 then 76 else 82)/\Hid (dh (ss.take (k+1))=pre++[cb]++p1):=⟨_,rfl,by show _=_;rw[HX.out];rcases(by omega:p2=0\/p2=1) with rfl|rfl<;>simp⟩
   clear HX;rcases(by omega:p2=0\/p2=1) with rfl|rfl
   all_goals
    have c1:=lE.cell 1;simp at c1;go_wp2_with fail;refine(IR w.heap.size b3 _ _ w5 hb5 hlen1 qh.size).mono ?_;rintro e w6 ⟨rfl,hb6,SD,ot6⟩;have rl:=kP qh SD;have Rw:IsBuilder 146 5 w.heap.size b3 (byteCells (pre++[cb])) w6:=by
     rw[byteCells_append,hcb.out];exact .inr hb6
    have q6:Row w6 b5 _ 168:=ot6 b5 _ lE hne (by simp);have d0:w6.cell? ⟨b5,0,none⟩=some (.string (aB p1)):=by rw[q6.cell];rfl
    have Ih:(byteCells (pre++[cb])).length+(aB p1).size<=1000000:=by rw[af,af5,List.length_singleton];omega
    clear hb6 SD ot6 hb5 lE q6 qh c0 c1 hlen1;go_wp2_with fail;refine(Cv w.heap.size b3 _ _ w6 Rw Ih rl.size).mono ?_;rintro e w7 ⟨rfl,hb7,bl7,_⟩;have y8:=kP rl bl7;have ahX:IsBuilder 146 5 w.heap.size b3 (byteCells (dh (ss.take (k+1)))) w7:=by
     rw[HX2.out,byteCells_append,<-wR p1];exact .inr hb7
    clear hb7 bl7 Rw rl d0 Ih;go_wp2_with fail
    go_roundw
    case rel=>exact⟨k+1,by go_num,by omega,y8,ahX⟩
    case measure=>simp[intOf];omega
  .obtain rfl:k=ss.length:=by omega
   rw[θ (by omega)] at hb;go_wp2_with fail;refine(Tryz.Builder_String_any w.heap.size b3 (dh ss) wr hb fk.size).mono ?_;rintro e w6 ⟨rfl,SD⟩;have rl:=kP fk SD;go_wp2_with fail;go_ret;exact⟨rfl,rl⟩
def hvD (o:Option (List η)):Φ:=aG.hv o.isSome (aB (o.getD []))
def hcells (o:Option (List η)):Array Φ:=#[.bool o.isSome,.string (aB (o.getD []))]
theorem sm:(Tryz.prog.underlying 161).map TypeDesc.isRow=some true:=by kernel_rfl
theorem jE:(Tryz.prog.info? 161).map (·.size)=some 2:=by kernel_rfl
theorem tH:(Tryz.prog.info? 161).map (·.zero)=some (some (.agg #[.bool false,.string ⟨#[]⟩])):=by kernel_rfl
theorem AA (d bl n:Nat)(vw:Φ)(x:DS)(s:Int)(p:Ξ)(w:Θ)(h:bp w d bl n vw x):
  Calls Tryz.prog 142 #[.pointer (some ⟨d,0,none⟩),.agg (cY s p)] w λe w'=>e= .returned (hvD (x.content n s p))/\aQ [] w w':=by
 go_enter Tryz.func142,Tryz.ntmps142;go_wp2_with (with_reducible first|refine bm rfl ?_|refine ay rfl ?_|refine av 103 rfl ?_);refine aj.go (fg rfl 103 _ rfl (.agg (cY s p)) rfl ?_);intro w1 b3 l3 f1 r3;have h1:=h.new f1;go_wp2_with (with_reducible first|refine ay rfl ?_|refine av 103 rfl ?_)
 refine aj.go (aY rfl 161 rfl _ tH ?_);intro w2 b4 l4 f2 r4;have h2:=h1.new f2;have r32:Row w2 b3 (cY s p) 103:=by unfold Row;rw[f2.block b3 (Ψ.1 r3).1 (by simp)];exact r3
 go_wp2_with (with_reducible first|refine av 103 rfl ?_);refine aj.go (bM rfl 103 _ rfl b3 0 rfl ej 2 dc _ _ r32 [.int .i64 s,.string p] rfl rfl ?_);go_wp2_with fail;refine(po d bl n vw x s p w2 h2).mono ?_;rintro e w3 ⟨rfl,f3⟩
 have r43:Row w3 b4 #[.bool false,.string ⟨#[]⟩] 161:=by unfold Row;rw[f3.block b4 (Ψ.1 r4).1 (by simp)];exact r4
 have yg:=(f1.trans f2).trans f3;have hfz:w.heap.size<=b4:=ae6 f1.size l4;clear h1 h2 r3 r4 r32 f1 f2 f3;obtain⟨o,ho⟩:∃o,x.content n s p=o:=⟨_,rfl⟩
 have HC:Hid (x.content n s p=o):=ho;rw[ho];clear ho;go_wp2_with (with_reducible first|refine bI 161 rfl ?_|refine ah 161 rfl ?_);refine aj.go (cH rfl (.agg (hcells o)) w3 (by kernel_rfl) ?_);go_wp2_with (with_reducible first|refine ah 161 rfl ?_);refine aj.go (bG rfl 161 _ _ rfl b4 0 rfl (hcells o) rfl 2 jE ?_ ?_ _ _ r43 ?_ ?_)
 .rfl
 .simp[hcells,Value.oneCell']
 .decide
 intro w4 f4 q4;rw[bu _ _ (by rfl)] at q4;have Mh:Row w4 b4 (hcells o) 161:=q4;have fw:=yg.trans f4 (by simp;exact hfz);clear q4;go_wp2_with fail;exact lQ rfl b4 rfl rfl _ _ Mh sm (by exact jE) ⟨by rw[HC.out];rfl,fw⟩
theorem zu (s:Nat)(hs:s<=1)(w:Θ):Calls Tryz.prog 143 #[.int .i64 s] w λe w'=>e= .returned (.int .i64 (1-s:Nat))/\w'=w:=by
 rcases(by omega:s=0\/s=1) with rfl|rfl
 .go_enter Tryz.func143,Tryz.ntmps143
  go_wp2_with fail;go_ret;exact⟨rfl,rfl⟩
 .go_enter Tryz.func143,Tryz.ntmps143
  go_wp2_with fail;go_ret;exact⟨rfl,rfl⟩
structure dj where
 set:Nat
 path:List η
 becomes:Option (List η)
 replaces:Bool
def dj.vals (w:dj):List Φ:=[.int .i64 w.set,.string (aB w.path),.bool w.becomes.isSome,.string (aB (w.becomes.getD [])),.bool w.replaces]
def jR (ws:List dj):List Φ:=ws.flatMap dj.vals
def dA (x:DS)(n:Nat)(p:List η×Nat)(set:Nat):List dj:=if x.content n set (aB p.1)=x.content n p.2 (aB p.1) then [] else [⟨set,p.1,x.content n p.2 (aB p.1),(x.content n set (aB p.1)).isSome⟩]
def fO (x:DS)(n:Nat)(p:List η×Nat):List dj:=dA x n p (1-p.2)++dA x n p 2
def bA (x:DS)(n:Nat)(ss:List (List η×Nat)):List dj:=ss.flatMap (fO x n)
theorem ze (x:DS)(n:Nat)(ss:List (List η×Nat))(k:Nat)(hk:k<ss.length):bA x n (ss.take (k+1))=bA x n (ss.take k)++fO x n ss[k]:=by
 unfold bA;rw[ac0 hk,List.flatMap_append];simp
theorem oz (x:DS)(n:Nat)(p:List η×Nat)(s:Nat):(dA x n p s).length<=1:=by unfold dA;split<;>simp
theorem iR (x:DS)(n:Nat)(ss:List (List η×Nat)):(bA x n ss).length<=2*ss.length:=by
 induction ss with
 |nil=>simp[bA]
 |cons p ss ih=>
  have e:bA x n (p::ss)=fO x n p++bA x n ss:=rfl;have h1:=oz x n p (1-p.2);have h2:=oz x n p 2;rw[e,af5,List.length_cons];unfold fO;rw[af5];omega
theorem IL (a b:List dj):jR (a++b)=jR a++jR b:=by simp[jR]
theorem yw:Elem Tryz.prog 173 176 5 56:=⟨by kernel_rfl,by kernel_rfl,by omega⟩
theorem Nf {a b:Option (List η)}:(a.isSome==b.isSome&&aB (a.getD [])==aB (b.getD []))=true↔a=b:=by
 rw[ε,ag5,Go.MapKept.bytes_beq];constructor
 .rintro⟨h1,h2⟩
  have h3:a.getD []=b.getD []:=by
   have:=congrArg (λs:Ξ=>s.data.toList) h2;simpa [aB] using this
  cases a<;>cases b<;>simp_all
 .rintro rfl
  exact⟨rfl,rfl⟩
section
variable {ops:Array Oper}{Q:Exit->Act->Θ->Prop}{a:Act}{w:Θ}{rest:List Oper}{o:Oper}
theorem qP {t:Γ}{x y:aa9}(_:o.op= .index t x y)(h:aj (wpList Tryz.prog ops Q (o::rest) a w)):wpList Tryz.prog ops Q (o::rest) a w:=h
theorem Pw (hg:o.guard=none)(x y:Nat)(u:Γ)(ho:o.op= .binOp .neq aG.TH (.tmp x) (.tmp y) u){b1 b2:Bool}{s1 s2:Ξ}(hx:a.eval (.tmp x)=aG.hv b1 s1)(hy:a.eval (.tmp y)=aG.hv b2 s2)
  (h:wpList Tryz.prog ops Q rest (a.put o.dst (.bool (!(b1==b2&&s1==s2)))) w):wpList Tryz.prog ops Q (o::rest) a w:=by
 refine cH hg _ w ?_ h;have:=(aG.Hp (w:=w) b1 b2 s1 s2).run;unfold execOp;rw[ho];show(do pure (.value (<-(do eqGuard .neq aG.TH (.tmp x) (.tmp y) (a.eval (.tmp x)) (a.eval (.tmp y));binOp .neq aG.TH (a.eval (.tmp x)) (a.eval (.tmp y))))):Sem Next).run _ _=_;rw[hx,hy,pr _ _ _ _ rfl rfl];exact this
end
theorem Row.aside {w w':Θ}{b base size n:Nat}{c:Array Φ}{t e:Γ}{v:Φ}{xs:List Φ}(r:Row w b c t)(ho:w.ownsRow base e size v n xs)(hne:t≠e)(f:aQ v.ownBlock.toList w w'):Row w' b c t:=by
 unfold Row at r⊢;rw[f.block b (Ψ.1 r).1 λhb=>?_]
 .exact r
 .rcases ho.2 with⟨rfl,_⟩|⟨g,cap,cur,rfl,_,hg,_⟩
  .simp[Value.ownBlock] at hb
  .have:b=g:=by simpa [Value.ownBlock] using hb
   subst this;rw[r] at hg;cases hg;exact hne rfl
theorem Row.wu {w w':Θ}{b:Nat}{c:Array Φ}{t:Γ}(r:Row w b c t)(f:aQ [] w w'):Row w' b c t:=by
 unfold Row at r⊢;rw[f.block b (Ψ.1 r).1 (by simp)];exact r
theorem wI (d bl n:Nat)(vw:Φ)(x:DS)(base:Nat)(v:Φ)(ss:List (List η×Nat))(w:Θ)(h:bp w d bl n vw x)(hv:w.ownsRow base 168 2 v ss.length (cA ss))(hl:ss.length<=54)(hp:∀p∈ss,p.2<=1):
  Calls Tryz.prog 95 #[.pointer (some ⟨d,0,none⟩),v] w λe w'=>∃u,e= .returned u/\w'.ownsRow w.heap.size 176 5 u (bA x n ss).length (jR (bA x n ss))/\aQ [] w w':=by
 obtain⟨ad,cap,hv'⟩:=bW hv;subst hv';go_enter Tryz.func95,Tryz.ntmps95;go_wp2_with fail
 go_loopw [5,15] (λu c wr=>∃k:Nat,c= .int .i64 k/\k<=ss.length/\aQ [] w wr/\wr.ownsRow w.heap.size 176 5 u (bA x n (ss.take k)).length (jR (bA x n (ss.take k)))) (λ_ c _=>ss.length-(intOf c).toNat)
 case atStart=>exact⟨0,rfl,by omega,aQ.refl _ _,World.ownsRow_nil _ _ _ _⟩
 case round=>
  obtain⟨k,rfl,hk,fk,ho⟩:=hrel
  by_cases hlt:k<ss.length
  .have hvk:=fk.owns hv
   obtain⟨g,cur,rfl,hg,hle,_,hcs,htk⟩:=dY hvk;have hat:((cur.toList.drop (k*2)).take 2)=[.string (aB ss[k].1),.int .i64 ss[k].2]:=by
    rw[bX htk _ _,oC ss k hlt]
   have hpk:=hp ss[k] (af2 hlt);have hlen:(bA x n (ss.take k)).length<=108:=by have:=iR x n (ss.take k);rw[ac6] at this;omega
   have HX:Hid (bA x n (ss.take (k+1))=bA x n (ss.take k)++fO x n ss[k]):=ze x n ss k hlt;generalize ss[k]=p at*;generalize bA x n (ss.take k)=pre at*;obtain⟨p1,sd⟩:=p;simp only at hat hpk;clear hcs htk hvk;go_wp2_with (with_reducible first|refine ay rfl ?_|refine av 168 rfl ?_|refine ah 168 rfl ?_)
   refine aj.go (bM rfl 168 _ rfl g (k*2) rfl row_step 2 pX _ _ hg _ hat rfl ?_);clear hat hg;go_wp2_with (with_reducible first|refine ay rfl ?_|refine ah 168 rfl ?_);refine aj.go (aY rfl 168 rfl _ zY ?_);intro w4 b7 l7 f4 r4;go_wp2_with (with_reducible first|refine ay rfl ?_|refine ah 168 rfl ?_)
   refine aj.go (bG rfl 168 _ _ rfl _ 0 rfl _ rfl 2 pX ?_ ?_ _ _ r4 ?_ ?_)
   .rfl
   .simp[Value.oneCell']
   .decide
   intro w5 f5 q5;rw[bu _ _ (by rfl)] at q5;have lE:Row w5 b7 #[.string (aB p1),.int .i64 sd] 168:=q5;have j5:aQ [] wr w5:=f4.trans f5 (by simpa using l7);have qh:=fk.trans j5;have zB:=j5.owns ho;have h5:=h.new qh;have c0:w5.cell? ⟨b7,0,none⟩=some (.string (aB p1)):=by rw[lE.cell];rfl
   have c1:w5.cell? ⟨b7,1,none⟩=some (.int .i64 sd):=by rw[lE.cell];rfl
   clear q5 r4 f4 f5 fk ho;go_wp2_with (with_reducible first|refine bI 103 rfl ?_|refine ay rfl ?_);refine aj.go (cH rfl (.agg (cY sd (aB p1))) w5 (by kernel_rfl) ?_);go_wp2_with (with_reducible first|refine ay rfl ?_);refine(AA d bl n vw x sd (aB p1) w5 h5).mono ?_;rintro e w6 ⟨rfl,f6⟩;obtain⟨o,ho0⟩:∃o,x.content n sd (aB p1)=o:=⟨_,rfl⟩
   have HB:Hid (x.content n sd (aB p1)=o):=ho0;rw[ho0];clear ho0 h5 c0 c1;go_wp2_with (with_reducible first|refine ay rfl ?_);refine aj.go (aY rfl 161 rfl _ tH ?_);intro w7 b8 l8 f7 r7;go_wp2_with (with_reducible first|refine ah 161 rfl ?_);refine aj.go (bG rfl 161 _ _ rfl b8 0 rfl (hcells o) rfl 2 jE ?_ ?_ _ _ r7 ?_ ?_)
   .rfl
   .simp[hcells,Value.oneCell']
   .decide
   intro w8 f8 q8;rw[bu _ _ (by rfl)] at q8;have q8':Row w8 b8 (hcells o) 161:=q8;have f68:aQ [] w5 w8:=f6.trans (f7.trans f8 (by simpa using l8));have rI:=qh.trans f68;have q7:=lE.wu f68;have AE:=f68.owns zB;have c1:w8.cell? ⟨b7,1,none⟩=some (.int .i64 sd):=by rw[q7.cell];rfl
   clear q8 r7 f6 f7 f8 f68 qh lE zB;go_wp2_with fail;refine(zu sd hpk w8).mono ?_;rintro e w9 ⟨rfl,rfl⟩;go_wp2_with (with_reducible first|refine bI 233 rfl ?_);refine aj.go (cH rfl (.agg #[.int .i64 (1-sd:Nat),.int .i64 2]) w9 (by kernel_rfl) ?_);go_wp2_with fail
   go_loopw [5,30] (λu c wr2=>∃j:Nat,c= .int .i64 j/\j<=2/\aQ [] w wr2/\Row wr2 b7 #[.string (aB p1),.int .i64 sd] 168/\Row wr2 b8 (hcells o) 161/\
    wr2.ownsRow w.heap.size 176 5 u (pre++([1-sd,2].take j).flatMap (dA x n (p1,sd))).length (jR (pre++([1-sd,2].take j).flatMap (dA x n (p1,sd))))) (λ_ c _=>2-(intOf c).toNat)
   case atStart=>exact⟨0,rfl,by omega,rI,q7,q8',by simpa using AE⟩
   case round=>
    obtain⟨j,rfl,hj,fr,rb7,rb8,hor⟩:=hrel;clear c1 q7 q8' AE rI
    by_cases hj2:j<2
    .have Ih:(pre++([1-sd,2].take j).flatMap (dA x n (p1,sd))).length<=110:=by
      have h1:=oz x n (p1,sd) (1-sd);rw[af5];rcases(by omega:j=0\/j=1) with rfl|rfl<;>simp<;>omega
     obtain⟨tw,jn,HT,HJ,HY⟩:∃tw jn:Nat,Hid (tw=if j=0 then 1-sd else 2)/\Hid (jn=j+1)/\Hid (([1-sd,2].take jn).flatMap (dA x n (p1,sd))=([1-sd,2].take j).flatMap (dA x n (p1,sd))++dA x n (p1,sd) tw):=⟨_,_,rfl,rfl,by show _=_;rcases(by omega:j=0\/j=1) with rfl|rfl<;>simp⟩
     obtain⟨ag6,Nj⟩:∃l,l=pre++([1-sd,2].take j).flatMap (dA x n (p1,sd)):=⟨_,rfl⟩
     have HP2:Hid (ag6=pre++([1-sd,2].take j).flatMap (dA x n (p1,sd))):=Nj;rw[<-Nj] at hor Ih;clear Nj;rcases(by omega:j=0\/j=1) with rfl|rfl
     all_goals
      have c0:wr.cell? ⟨b7,0,none⟩=some (.string (aB p1)):=by rw[rb7.cell];rfl
      go_wp2_with (with_reducible first|refine qP rfl ?_);refine aj.go (cH rfl (.int .i64 (tw:Nat)) wr (by rw[HT.out];kernel_rfl) ?_);go_wp2_with (with_reducible first|refine bI 103 rfl ?_|refine ay rfl ?_);refine aj.go (cH rfl (.agg (cY tw (aB p1))) wr (by kernel_rfl) ?_);go_wp2_with (with_reducible first|refine ay rfl ?_)
      refine aj.go (aY rfl 103 rfl K8 zZ ?_);intro v1 b11 m1 g1 s1;go_wp2_with (with_reducible first|refine ah 103 rfl ?_);refine aj.go (bG rfl 103 _ _ rfl b11 0 rfl (cY tw (aB p1)) rfl 2 dc ?_ ?_ _ _ s1 ?_ ?_)
      .rfl
      .simp[cY,Value.oneCell']
      .decide
      intro v2 g2 s2;rw[bu _ _ (by rfl)] at s2;have s2':Row v2 b11 (cY tw (aB p1)) 103:=s2;have g12:aQ [] wr v2:=g1.trans g2 (by simpa using m1);have fv2:=fr.trans g12;have h2:=h.new fv2;have abB:=rb7.wu g12;have abz:=rb8.wu g12;have ho2:=g12.owns hor;clear s1 s2 g1 g2 g12 fr rb7 rb8 hor c0
      go_wp2_with (with_reducible first|refine av 103 rfl ?_|refine ay rfl ?_);refine aj.go (bM rfl 103 _ rfl b11 0 rfl ej 2 dc _ _ s2' [.int .i64 (tw:Nat),.string (aB p1)] rfl rfl ?_);go_wp2_with (with_reducible first|refine ay rfl ?_);refine(AA d bl n vw x tw (aB p1) v2 h2).mono ?_;rintro e v3 ⟨rfl,g3⟩
      obtain⟨o2,Gg⟩:∃o,x.content n tw (aB p1)=o:=⟨_,rfl⟩
      have HO2:Hid (x.content n tw (aB p1)=o2):=Gg;rw[Gg];clear Gg h2;go_wp2_with (with_reducible first|refine ay rfl ?_);refine aj.go (aY rfl 161 rfl _ tH ?_);intro v4 b12 m4 g4 s4;go_wp2_with (with_reducible first|refine ah 161 rfl ?_);refine aj.go (bG rfl 161 _ _ rfl b12 0 rfl (hcells o2) rfl 2 jE ?_ ?_ _ _ s4 ?_ ?_)
      .rfl
      .simp[hcells,Value.oneCell']
      .decide
      intro v5 g5 s5;rw[bu _ _ (by rfl)] at s5;have s5':Row v5 b12 (hcells o2) 161:=s5;have g35:aQ [] v2 v5:=g3.trans (g4.trans g5 (by simpa using m4));have fv5:=fv2.trans g35;have Wl:=abB.wu g35;have Mf:=abz.wu g35;have XR:=g35.owns ho2;have s25:=s2'.wu g35;have c12:v5.cell? ⟨b12,0,none⟩=some (.bool o2.isSome):=by rw[s5'.cell];rfl
      clear s4 s5 g3 g4 g5 g35 fv2 abB abz ho2 s2';go_wp2_with (with_reducible first|refine av 161 rfl ?_|refine dn 161 rfl ?_);refine aj.go (bM rfl 161 _ rfl b12 0 rfl sm 2 jE _ _ s5' [.bool o2.isSome,.string (aB (o2.getD []))] rfl rfl ?_);go_wp2_with (with_reducible first|refine av 161 rfl ?_|refine dn 161 rfl ?_)
      refine aj.go (bM rfl 161 _ rfl b8 0 rfl sm 2 jE _ _ Mf [.bool o.isSome,.string (aB (o.getD []))] rfl rfl ?_);go_wp2_with (with_reducible first|refine av 161 rfl ?_|refine dn 161 rfl ?_);refine aj.go (Pw rfl 40 41 _ rfl (b1:=o2.isSome) (b2:=o.isSome) (s1:=aB (o2.getD [])) (s2:=aB (o.getD [])) rfl rfl ?_)
      by_cases heq:(o2.isSome==o.isSome&&aB (o2.getD [])==aB (o.getD []))=true
      .have HW:Hid (dA x n (p1,sd) tw=[]):=by
        show _=_;unfold dA;rw[ξ (by rw[HO2.out,HB.out];exact Nf.1 heq)]
       rw[heq];clear heq;go_wp2_with fail
       go_roundw
       case rel=>exact⟨jn,by rw[HJ.out];rfl,by rw[HJ.out];omega,fv5,Wl,Mf,by rw[HY.out,HW.out,List.append_nil,<-HP2.out];exact XR⟩
       case measure=>simp[intOf]
      .have HW:Hid (dA x n (p1,sd) tw=[⟨tw,p1,o,o2.isSome⟩]):=by
        show _=_;unfold dA;rw[ζ (by rw[HO2.out,HB.out];exactλq=>heq (Nf.2 q)),HO2.out,HB.out]
       have heq':(o2.isSome==o.isSome&&aB (o2.getD [])==aB (o.getD []))=false:=by simpa using heq
       rw[heq'];clear heq heq';go_wp2_with (with_reducible first|refine av 161 rfl ?_|refine av 103 rfl ?_|refine bI 176 rfl ?_);refine aj.go (bM rfl 103 _ rfl b11 0 rfl ej 2 dc _ _ s25 [.int .i64 (tw:Nat),.string (aB p1)] rfl rfl ?_);go_wp2_with (with_reducible first|refine av 161 rfl ?_|refine bI 176 rfl ?_)
       refine aj.go (bM rfl 161 _ rfl b8 0 rfl sm 2 jE _ _ Mf [.bool o.isSome,.string (aB (o.getD []))] rfl rfl ?_);go_wp2_with (with_reducible first|refine bI 176 rfl ?_);refine aj.go (cH rfl (.agg (dj.vals ⟨tw,p1,o,o2.isSome⟩).toArray) v5 (by kernel_rfl) ?_);go_wp2_with (with_reducible first|refine bH rfl ?_|refine bJ rfl ?_)
       refine aj.go (fH rfl 173 176 5 56 yw _ rfl (.agg (dj.vals ⟨tw,p1,o,o2.isSome⟩).toArray) rfl rfl ?_);intro v8 b9 m8 g8 s8;go_wp2_with (with_reducible first|refine bH rfl ?_|refine bJ rfl ?_);have AE:=g8.owns XR;have fv8:=fv5.trans g8;have abA:=Wl.wu g8;have aby:=Mf.wu g8
       have hbase:w.heap.size<=v8.heap.size:=fv8.size;refine aj.go (gG rfl 173 176 5 56 yw _ _ rfl w.heap.size u5 _ _ rfl AE b9 1 1 (dj.vals ⟨tw,p1,o,o2.isSome⟩) rfl _ _ s8 rfl rfl (by simp[dj.vals,Value.oneCell']) (by omega) (by omega) (by omega) hbase ?_);intro g' cap' v9 Ge g9 _;have fv9:=fv8.trans g9 (by intro j hj;right;simp at hj;exact(AE.lt j hj).1)
       have agV:=abA.aside AE (by decide) g9;have agU:=aby.aside AE (by decide) g9;clear XR AE s8 g8 g9 m8 fv5 fv8 Wl Mf abA aby hbase c12 s5' s25;go_wp2_with fail
       go_roundw
       case rel=>
        refine⟨jn,by rw[HJ.out];rfl,by rw[HJ.out];omega,fv9,agV,agU,?_⟩;rw[HY.out,HW.out,<-List.append_assoc,<-HP2.out,IL,af5];simpa [jR] using Ge
       case measure=>simp[intOf]
    .obtain rfl:j=2:=by omega
     have HZ:Hid (pre++([1-sd,2].take 2).flatMap (dA x n (p1,sd))=bA x n (ss.take (k+1))):=by
      show _=_;rw[HX.out];simp[fO]
     go_wp2_with fail
     go_roundw
     case rel=>exact⟨k+1,by go_num,by omega,fr,by rw[<-HZ.out];exact hor⟩
     case measure=>simp[intOf];omega
  .obtain rfl:k=ss.length:=by omega
   rw[θ (by omega)] at ho;go_wp2_with fail;go_ret;exact⟨u5,rfl,ho,fk⟩
def lx:List dj->Int->Bool
 |[],_=>true
 |w::r,f=>if w.becomes=none then lx r (f+1) else if f=0 then false else if w.replaces=false then lx r (f-1) else lx r f
def qH (x:DS)(n:Nat)(ss:List (List η×Nat))(free:Int):Bool:=decide (0<=free)&&lx (bA x n ss) free
theorem Cu (l:List dj)(k:Nat)(hk:k<l.length):((jR l).drop (k*5)).take 5=l[k].vals:=by
 have h:∀(l:List dj) (k:Nat),(jR l).drop (k*5)=jR (l.drop k):=by
  intro l
  induction l with
  |nil=>intro k;simp[jR]
  |cons f r ih=>
   intro k;cases k with
   |zero=>simp
   |succ k=>
    have:=ih k;have e:jR (f::r)=f.vals++jR r:=rfl;rw[e,show(k+1)*5=5+k*5 by omega,<-List.drop_drop];have e2:(f.vals++jR r).drop 5=jR r:=by simp[dj.vals]
    rw[e2];simpa using this
 rw[h,ae0 hk];rfl
theorem Fw:(Tryz.prog.underlying 176).map TypeDesc.isRow=some true:=by kernel_rfl
theorem sP:(Tryz.prog.info? 176).map (·.size)=some 5:=by kernel_rfl
def zJw:Φ:= .agg #[.int .i64 0,.string ⟨#[]⟩,.bool false,.string ⟨#[]⟩,.bool false]
theorem G7:(Tryz.prog.info? 176).map (·.zero)=some (some zJw):=by kernel_rfl
theorem NK (d bl n:Nat)(vw:Φ)(x:DS)(base:Nat)(v:Φ)(ss:List (List η×Nat))(free:Int)(w:Θ)(h:bp w d bl n vw x)(hv:w.ownsRow base 168 2 v ss.length (cA ss))(hl:ss.length<=54)(hp:∀p∈ss,p.2<=1)(hf0:-1<=free)(hf:free<=1000):
  Calls Tryz.prog 136 #[.pointer (some ⟨d,0,none⟩),v,.int .i64 free] w λe w'=>e= .returned (.bool (qH x n ss free))/\aQ [] w w':=by
 by_cases hneg:free<0
 .have HF:Hid (qH x n ss free=false):=by show _=_;unfold qH;rw[decide_eq_false (by omega)];rfl
  obtain⟨ad,cap,hv'⟩:=bW hv;subst hv';go_enter Tryz.func136,Tryz.ntmps136;go_wp2_with fail;go_ret;exact⟨by rw[HF.out];rfl,aQ.refl _ _⟩
 .have HF:Hid (qH x n ss free=lx (bA x n ss) free):=by show _=_;unfold qH;rw[decide_eq_true (by omega)];rfl
  have hwl:(bA x n ss).length<=108:=by have:=iR x n ss;omega
  obtain⟨ad,cap,hv'⟩:=bW hv;subst hv';go_enter Tryz.func136,Tryz.ntmps136;go_wp2_with fail;refine(wI d bl n vw x base _ ss w h hv hl hp).mono ?_;rintro e w1 ⟨u,rfl,ho,f1⟩;generalize bA x n ss=ws at*;obtain⟨yV,cap2,hu⟩:=bW ho;subst hu;clear hv hp;go_wp2_with fail
  go_loopw [2,15] (λvf c wr=>∃(k:Nat) (f:Int),c= .int .i64 k/\k<=ws.length/\vf= .int .i64 f/\0<=f/\f<=1000+k/\aQ [] w1 wr/\lx (ws.drop k) f=lx ws free) (λ_ c _=>ws.length-(intOf c).toNat)
  case atStart=>exact⟨0,free,rfl,by omega,rfl,by omega,by omega,aQ.refl _ _,by simp⟩
  case round=>
   obtain⟨k,f,rfl,hk,rfl,hfn,hfu,fk,hfit⟩:=hrel
   by_cases hlt:k<ws.length
   .have hok:=fk.owns ho
    obtain⟨g,cur,rfl,hg,hle,_,hcs,htk⟩:=dY hok;have hat:((cur.toList.drop (k*5)).take 5)=ws[k].vals:=by
     rw[bX htk _ _,Cu ws k hlt]
    have hd:lx (ws.drop k) f=if ws[k].becomes=none then lx (ws.drop (k+1)) (f+1) else if f=0 then false else if ws[k].replaces=false then lx (ws.drop (k+1)) (f-1) else lx (ws.drop (k+1)) f:=by
     rw[ae0 hlt];rfl
    rw[hd] at hfit;clear hd;generalize ws[k]=wd at*;obtain⟨st,pt,bc,rp⟩:=wd;simp only at hfit;clear hcs htk hok;go_wp2_with (with_reducible first|refine ay rfl ?_|refine av 176 rfl ?_|refine ah 176 rfl ?_);refine aj.go (bM rfl 176 _ rfl g (k*5) rfl Fw 5 sP _ _ hg _ hat rfl ?_);clear hat hg
    go_wp2_with (with_reducible first|refine ay rfl ?_|refine ah 176 rfl ?_);refine aj.go (aY rfl 176 rfl _ G7 ?_);intro w4 b7 l7 f4 r4;go_wp2_with (with_reducible first|refine ay rfl ?_|refine ah 176 rfl ?_);refine aj.go (bG rfl 176 _ _ rfl _ 0 rfl _ rfl 5 sP ?_ ?_ _ _ r4 ?_ ?_)
    .rfl
    .simp[dj.vals,Value.oneCell']
    .decide
    intro w5 f5 q5;rw[bu _ _ (by rfl)] at q5;have lE:Row w5 b7 (dj.vals ⟨st,pt,bc,rp⟩).toArray 176:=q5;have j5:=fk.trans (f4.trans f5 (by simpa using l7):aQ [] wr w5);have c2:w5.cell? ⟨b7,2,none⟩=some (.bool bc.isSome):=by rw[lE.cell];rfl
    have c4:w5.cell? ⟨b7,4,none⟩=some (.bool rp):=by rw[lE.cell];rfl
    clear q5 lE r4 f4 f5 fk l7;cases bc with
    |none=>
     simp only[Option.isSome_none] at c2;rw[ξ rfl] at hfit;go_wp2_with fail
     go_roundw
     case rel=>exact⟨k+1,f+1,by go_num,by omega,by go_num,by omega,by omega,j5,hfit⟩
     case measure=>simp[intOf];omega
    |some bb=>
     simp only[Option.isSome_some] at c2;rw[ζ (by simp)] at hfit
     by_cases hz:f=0
     .subst hz
      rw[ξ rfl] at hfit;have HZ:Hid (lx ws free=false):=hfit.symm;clear hfit;go_wp2_with fail;go_ret;exact⟨by rw[HF.out,HZ.out];rfl,f1.trans j5⟩
     .rw[ζ hz] at hfit
      have hz':(f==0)=false:=by simpa using hz
      cases rp with
      |false=>
       rw[ξ rfl] at hfit;go_wp2_with fail
       go_roundw
       case rel=>exact⟨k+1,f-1,by go_num,by omega,by go_num,by omega,by omega,j5,hfit⟩
       case measure=>simp[intOf];omega
      |true=>
       rw[ζ (by simp)] at hfit;go_wp2_with fail
       go_roundw
       case rel=>exact⟨k+1,f,by go_num,by omega,rfl,by omega,by omega,j5,hfit⟩
       case measure=>simp[intOf];omega
   .obtain rfl:k=ws.length:=by omega
    rw[List.drop_length] at hfit;have HZ:Hid (lx ws free=true):=hfit.symm;clear hfit;go_wp2_with fail;go_ret;exact⟨by rw[HF.out,HZ.out];rfl,f1.trans fk⟩
def DS.uq (x:DS)(n:Nat)(w:dj):DS×Φ:=match w.becomes with
 |none=>x.remove n w.set (aB w.path)
 |some c=>x.put n w.set (aB w.path) (aB c)
theorem Om (F:List Nat)(d n:Nat)(x:DS)(wd:dj)(w:Θ)(h:bO w F d n x)(hx:x.Fit 5)(iu:x.waiting.length<55)(hs:wd.set<256)(hp:wd.path.length<256)(hc:∀c,wd.becomes=some c->c.length<256):
  Calls Tryz.prog 96 #[.agg wd.vals.toArray,.pointer (some ⟨d,0,none⟩)] w λe w'=>e= .returned (x.uq n wd).2/\∃F',bO w' F' d n (x.uq n wd).1/\aQ F w w'/\bV F F' w:=by
 obtain⟨st,pt,bc,rp⟩:=wd;simp only at hs hp hc;have hps:(aB pt).size<256:=by simpa [aB,ByteArray.size] using hp
 go_enter Tryz.func96,Tryz.ntmps96;go_wp2_with (with_reducible first|refine bm rfl ?_);refine aj.go (fg rfl 176 _ rfl (.agg (dj.vals ⟨st,pt,bc,rp⟩).toArray) rfl ?_);intro w1 b2 l1 f1 r1;have h1:=h.new f1;have r1':Row w1 b2 (dj.vals ⟨st,pt,bc,rp⟩).toArray 176:=r1;have c2:w1.cell? ⟨b2,2,none⟩=some (.bool bc.isSome):=by rw[r1'.cell];rfl
 have c3:w1.cell? ⟨b2,3,none⟩=some (.string (aB (bc.getD []))):=by rw[r1'.cell];rfl
 clear r1;cases bc with
 |none=>
  simp only[Option.isSome_none] at c2;have HD:Hid (x.uq n ⟨st,pt,none,rp⟩=x.remove n st (aB pt)):=rfl;go_wp2_with (with_reducible first|refine av 103 rfl ?_);refine aj.go (bM rfl 103 _ rfl b2 0 rfl ej 2 dc _ _ r1' [.int .i64 st,.string (aB pt)] rfl rfl ?_);clear c2 c3 r1';go_wp2_with fail
  refine(oX F d n x st (aB pt) w1 h1 ⟨hx.kr,by have:=hx.kq;omega,hx.ko,hx.kj⟩ (by omega)).mono ?_;rintro e w2 ⟨rfl,F',h2,f2,g2⟩;obtain⟨r,hr⟩:∃r,x.remove n st (aB pt)=r:=⟨_,rfl⟩
  rw[hr] at h2⊢;have HD2:Hid (x.uq n ⟨st,pt,none,rp⟩=r):=HD.out.trans hr;clear hr HD;obtain⟨r1,r2⟩:=r;go_wp2_with fail;go_ret;rw[HD2.out];exact⟨rfl,F',h2,(f1.mono).trans f2 (λj hj=> .inl hj),(bV.refl F w).trans g2 f1.size⟩
 |some c=>
  simp only[Option.isSome_some] at c2;have hcs:(aB c).size<256:=by simpa [aB,ByteArray.size] using hc c rfl
  have HD:Hid (x.uq n ⟨st,pt,some c,rp⟩=x.put n st (aB pt) (aB c)):=rfl;have c3':w1.cell? ⟨b2,3,none⟩=some (.string (aB c)):=c3;clear c3;go_wp2_with (with_reducible first|refine av 103 rfl ?_|refine bI 107 rfl ?_);refine aj.go (bM rfl 103 _ rfl b2 0 rfl ej 2 dc _ _ r1' [.int .i64 st,.string (aB pt)] rfl rfl ?_)
  go_wp2_with (with_reducible first|refine bI 107 rfl ?_);refine aj.go (cH rfl (.agg #[.int .i64 st,.string (aB pt),.string (aB c)]) w1 (by kernel_rfl) ?_);clear c2 c3' r1';go_wp2_with fail;refine(xA F d n x st (aB pt) (aB c) w1 h1 hx iu hs hps hcs).mono ?_;rintro e w2 ⟨rfl,F',h2,f2,g2⟩;obtain⟨r,hr⟩:∃r,x.put n st (aB pt) (aB c)=r:=⟨_,rfl⟩
  rw[hr] at h2⊢;have HD2:Hid (x.uq n ⟨st,pt,some c,rp⟩=r):=HD.out.trans hr;clear hr HD;obtain⟨r1,r2⟩:=r;go_wp2_with fail;go_ret;rw[HD2.out];exact⟨rfl,F',h2,(f1.mono).trans f2 (λj hj=> .inl hj),(bV.refl F w).trans g2 f1.size⟩
theorem A7 (l:List (List η×Nat))(k:Nat)(hk:k<l.length):(cA l)[k*2]? =some (.string (aB l[k].1)):=by
 have h:=oC l k hk;have h1:(((cA l).drop (k*2)).take 2)[0]? =some (.string (aB l[k].1)):=by rw[h];rfl
 rw[List.getElem?_take_of_lt (by omega),ag0] at h1;simpa using h1
theorem aQ.T0 {w w':Θ}{b off:Nat}{v:Φ}(f:aQ [] w w')(h:w.cell? ⟨b,off,none⟩=some v)(_:True):w'.cell? ⟨b,off,none⟩=some v:=by
 have hb:b<w.heap.size:=by
  unfold World.cell? at h;cases hh:w.heap[b]? with
  |none=>simp[hh] at h
  |some o=>exact(Ψ.1 hh).1
 unfold World.cell? at h⊢;rw[f.block b hb (by simp)];exact h
theorem D8 (base:Nat)(v:Φ)(ss:List (List η×Nat))(w:Θ)(hv:w.ownsRow base 168 2 v ss.length (cA ss))(h0:0<ss.length)(hl:ss.length<=54)(hs:ss.Pairwise λp q=>p.1<q.1):
  Calls Tryz.prog 141 #[v] w λe w'=>e= .returned (.bool true)/\aQ [] w w':=by
 obtain⟨ad,cap,hv'⟩:=bW hv;subst hv';obtain⟨g,cur,rfl,hg,hle,_,hcs,htk⟩:=dY hv;have hcell:∀k (hk:k<ss.length),cur[k*2]? =some (.string (aB ss[k].1)):=λk hk=>by
  have h1:=A7 ss k hk;rw[<-htk,List.getElem?_take_of_lt (by omega)] at h1;simpa using h1
 go_enter Tryz.func141,Tryz.ntmps141;go_wp2_with fail
 go_loopw [7] (λc wr=>∃k:Nat,c= .int .i64 k/\k+1<=ss.length/\aQ [] w wr) (λc _=>ss.length-(intOf c).toNat)
 case atStart=>exact⟨0,rfl,by omega,aQ.refl _ _⟩
 case round=>
  obtain⟨k,rfl,hk,fk⟩:=hrel
  by_cases hlt:k+1<ss.length
  .have hgr:=fk.row (b:=g) hg (by simp)
   have c1:wr.cell? ⟨g,k*2,none⟩=some (.string (aB (ss[k]'(by omega)).1)):=by rw[hgr.cell];exact hcell k (by omega)
   have c2:wr.cell? ⟨g,(k+1)*2,none⟩=some (.string (aB (ss[k+1]'hlt).1)):=by rw[hgr.cell];exact hcell (k+1) hlt
   have hlt2:(ss[k]'(by omega)).1<(ss[k+1]'hlt).1:=(List.pairwise_iff_getElem.1 hs) k (k+1) (by omega) hlt (by omega);generalize (ss[k]'(by omega)).1=p1 at*;generalize (ss[k+1]'hlt).1=p2 at*;go_wp2_with fail;have fin:∀(Z:List (Nat×Φ)),True:=λ_=>trivial
   refine jG ?_;refine bB rfl (some 10) rfl (.slice (some ⟨g,0,none⟩) ss.length cap) (λw' hw'=>by go_simp) ?_;simp only[Act.put,bT,bU,bR];refine bB rfl (some 11) rfl (.int .i64 k) (λw' hw'=>by go_simp) ?_;simp only[Act.put,bT,bU,bR]
   refine bB rfl (some 12) rfl (.pointer (some ⟨g,k*2,none⟩)) (λw' hw'=>by go_simp;intro hh;omega) ?_;simp only[Act.put,bT,bU,bR];refine bB rfl (some 13) rfl (.pointer (some ⟨g,k*2,none⟩)) (λw' hw'=>by go_simp) ?_;simp only[Act.put,bT,bU,bR];refine bB rfl (some 14) rfl (.string (aB p1)) (λw' hw'=>by have cc:=hw'.T0 c1 (by simp);go_simp) ?_
   simp only[Act.put,bT,bU,bR];refine bB rfl (some 15) rfl (.slice (some ⟨g,0,none⟩) ss.length cap) (λw' hw'=>by go_simp) ?_;simp only[Act.put,bT,bU,bR];refine bB rfl (some 16) rfl (.int .i64 k) (λw' hw'=>by go_simp) ?_;simp only[Act.put,bT,bU,bR];refine bB rfl (some 17) rfl (.int .i64 (k+1:Nat)) (λw' hw'=>by go_simp;rw[IntKind.wrap_i64];omega) ?_
   simp only[Act.put,bT,bU,bR];refine bB rfl (some 18) rfl (.pointer (some ⟨g,(k+1)*2,none⟩)) (λw' hw'=>by go_simp;intro hh;have:=hh (by omega);omega) ?_;simp only[Act.put,bT,bU,bR];refine bB rfl (some 19) rfl (.pointer (some ⟨g,(k+1)*2,none⟩)) (λw' hw'=>by go_simp) ?_;simp only[Act.put,bT,bU,bR]
   refine bB rfl (some 20) rfl (.string (aB p2)) (λw' hw'=>by have cc:=hw'.T0 c2 (by simp);go_simp) ?_;simp only[Act.put,bT,bU,bR];refine bB rfl (some 21) rfl (.bool false) (λw' hw'=>by go_simp;rw[bytesLess_eq,Lib.toList_data,Lib.toList_data];exact decide_eq_true (by simpa [aB] using hlt2)) ?_;simp only[Act.put,bT,bU,bR];intro w2 f2
   have fk2:=fk.trans f2;go_wp2_with fail
   go_roundw
   case rel=>exact⟨k+1,by go_num,by omega,fk2⟩
   case measure=>simp[intOf];omega
  .go_wp2_with fail
   go_ret;exact⟨rfl,fk⟩
def chJ (s:Nat):η:=if s=0 then 76 else 82
theorem uo (p:List η×Nat)(r:List (List η×Nat)):dh (p::r)=chJ p.2::(p.1++dh r):=rfl
theorem sQ (chars:List η):∀(p r:List η),(∀b∈p,chars.contains b=false)->indexAny (p++r) chars=if indexAny r chars=-1 then -1 else indexAny r chars+p.length
 |[],r,_=>by
  by_cases h:indexAny r chars=-1<;>simp[h]
 |b::p,r,h=>by
  have h1:=h b (by simp);have ih:=sQ chars p r λx hx=>h x (by simp[hx])
  have hg:=indexAny_ge chars r;show(if chars.contains b then 0 else if indexAny (p++r) chars==-1 then -1 else indexAny (p++r) chars+1)=_;rw[h1,ih]
  by_cases he:indexAny r chars=-1
  .simp[he]
  .simp only[he,if_false,τ]
   rw[ζ (by simp;omega)];simp;omega
theorem FW {b:η}(h:iq b=true):([76,82]:List η).contains b=false:=by
 unfold iq at h;rw[ε] at h;have h1:97<=b.toNat:=by simpa using h.1
 simp only[List.contains_cons,List.contains_nil,Bool.or_false,Bool.or_eq_false_iff,ae4];constructor<;>(intro e;subst e;revert h1;decide)
theorem BQ {p:List η}(hp:cz p=true)(r:List (List η×Nat)):indexAny (p++dh r) [76,82]=if r=[] then -1 else(p.length:Int):=by
 unfold cz at hp;simp only[ε,ad7] at hp;rw[sQ _ p _ λb hb=>FW (hp.2 b hb)];cases r with
 |nil=>rfl
 |cons q r=>
  have:indexAny (dh (q::r)) [76,82]=0:=by
   rw[uo];show(if([76,82]:List η).contains (chJ q.2) then 0 else _)=_;rw[ξ (by unfold chJ;split<;>decide)]
  rw[this];simp
theorem KO {ss:List (List η×Nat)}(h:∀p∈ss,cz p.1=true):∀b∈dh ss,b.toNat<128:=by
 intro b hb;unfold dh at hb;rw[List.mem_flatMap] at hb;obtain⟨p,hp,hb⟩:=hb;rcases ac5.1 hb with rfl|hb
 .split<;>decide
 .have:=h p hp
  unfold cz at this;simp only[ε,ad7] at this;have:=this.2 b hb;unfold iq at this;rw[ε] at this;have:b.toNat<=122:=by simpa using this.2
  omega
theorem nT (l:List η)(a b:Nat):(aB l).extract a b=aB ((l.take b).drop a):=by
 have h:((aB l).extract a b).data=(l.toArray).extract a b:=by simp[aB,ByteArray.data_extract]
 have h2:(l.toArray).extract a b=((l.take b).drop a).toArray:=by simp[List.extract_eq_drop_take,List.drop_take]
 have:((aB l).extract a b).data=(aB ((l.take b).drop a)).data:=h.trans h2;cases hx:(aB l).extract a b;rw[hx] at this;simp only at this;rw[this]
theorem fU {P:χ}{ops:Array Oper}{Q:Exit->Act->Θ->Prop}{a:Act}{w:Θ}{rest:List Oper}{o:Oper}{t:Γ}{x:aa9}{l h m:Option aa9}(_:o.op= .slice t x l h m)(k:aj (wpList P ops Q (o::rest) a w)):wpList P ops Q (o::rest) a w:=k
theorem tf:∀(l:List (List η×Nat)),(∀p∈l,p.1.length<=8)->(dh l).length<=9*l.length
 |[],_=>by simp[dh]
 |p::l,h=>by
  have h1:=h p (by simp);have h2:=tf l λq hq=>h q (by simp[hq])
  rw[uo,List.length_cons,af5,List.length_cons];omega
theorem sC {p:List η}(h:cz p=true):p.length<=8:=by
 unfold cz at h;simp only[ε] at h;simpa using h.1.2
theorem Ex (c:η)(p R:List η):(aB (c::(p++R))).extract (1+(p.length:Int)).toNat (aB (c::(p++R))).size=aB R:=by
 rw[nT,eD,θ (ι _),show(1+(p.length:Int)).toNat=p.length+1 by omega];simp
theorem AP (c:η)(p:List η):(aB (c::p)).extract (1+(p.length:Int)).toNat (aB (c::p)).size=aB (dh []):=by
 have:=Ex c p [];rw[List.append_nil] at this;exact this
theorem Ls {P:χ}{ops:Array Oper}{Q:Exit->Act->Θ->Prop}{a:Act}{w:Θ}{rest:List Oper}{o:Oper}{as':Array aa9}{ts:Array Γ}(_:o.op= .call {callee:= .builtin .len,args:=as',argTypes:=ts})(k:aj (wpList P ops Q (o::rest) a w)):wpList P ops Q (o::rest) a w:=k
theorem D5 (ss:List (List η×Nat))(w:Θ)(h0:0<ss.length)(hl:ss.length<=54)(hp:∀p∈ss,cz p.1=true/\p.2<=1)(hs:ss.Pairwise λp q=>p.1<q.1):
  Calls Tryz.prog 94 #[.string (aB (dh ss))] w λe w'=>∃u,e= .returned (.tuple #[u,.bool true])/\w'.ownsRow w.heap.size 168 2 u ss.length (cA ss)/\aQ [] w w':=by
 go_enter Tryz.func94,Tryz.ntmps94;go_wp2_with fail
 go_loopw [4,5] (λu t wr=>∃k:Nat,t= .string (aB (dh (ss.drop k)))/\k<=ss.length/\aQ [] w wr/\wr.ownsRow w.heap.size 168 2 u k (cA (ss.take k))) (λ_ t _=>match t with|.string s=>s.size|_=>0)
 case atStart=>exact⟨0,rfl,by omega,aQ.refl _ _,World.ownsRow_nil _ _ _ _⟩
 case round=>
  obtain⟨k,rfl,hk,fk,ho⟩:=hrel
  by_cases hlt:k<ss.length
  .have hd:ss.drop k=ss[k]::ss.drop (k+1):=ae0 hlt
   have hpk:=hp ss[k] (af2 hlt);have htk:ss.take (k+1)=ss.take k++[ss[k]]:=ac0 hlt;have HR:Hid (ss.take (k+1)=ss.take k++[ss[k]]):=htk;have hasc:∀b∈dh (ss.drop k),b.toNat<128:=KO λp hp'=>(hp p (List.mem_of_mem_drop hp')).1
   have hlen:(dh (ss.drop k)).length<=1000:=by
    have h1:=tf (ss.drop k) λp hp'=>sC (hp p (List.mem_of_mem_drop hp')).1
    have h2:(ss.drop k).length<=54:=by rw[List.length_drop];omega
    omega
   rw[hd,uo] at hasc hlen⊢;have HD:Hid (ss.drop k=ss[k]::ss.drop (k+1)):=hd;clear hd htk;generalize ss[k]=p at*;obtain⟨p1,sd⟩:=p;simp only at hpk hasc hlen⊢;have hsc:∃(c:η) (sv:Int),Hid (c=chJ sd)/\Hid (sv=sd)/\Hid (Lib.indexByte [76,82] c=sv):=⟨chJ sd,sd,rfl,rfl,by show _=_;rcases(by omega:sd=0\/sd=1) with rfl|rfl<;>decide⟩
   obtain⟨c,sv,hc,hsv,ada⟩:=hsc;rcases(by omega:sd=0\/sd=1) with rfl|rfl
   all_goals
    obtain⟨r,hdr⟩:∃r,ss.drop (k+1)=r:=⟨_,rfl⟩
    rw[hdr] at HD hasc hlen⊢;go_wp2_with (with_reducible first|refine dn 9 rfl ?_|refine qP rfl ?_|refine fU rfl ?_);refine aj.go (cH rfl (.bool true) wr (by go_simp;simp[aB]) ?_);go_wp2_with (with_reducible first|refine dn 9 rfl ?_|refine qP rfl ?_|refine fU rfl ?_)
    refine aj.go (cH rfl (.int .u8 c.toNat) wr (by rw[hc.out];kernel_rfl) ?_);go_wp2_with (with_reducible first|refine dn 9 rfl ?_|refine fU rfl ?_);refine(Tryz.strings_IndexByte ⟨#[76,82]⟩ c.toNat wr).mono ?_;rintro e w1 ⟨rfl,rfl⟩;rw[show Lib.indexByte (⟨#[76,82]⟩:Ξ).data.toList (c.toNat:Int).toNat.toUInt8=sv by simpa using ada.out,hsv.out];clear ada
    go_wp2_with (with_reducible first|refine dn 9 rfl ?_|refine fU rfl ?_);refine aj.go (cH rfl (.string (aB (p1++dh r))) w1 (by go_simp;rw[ξ (by rw[eD];simp;omega),nT,eD,θ (ι _)];rfl) ?_);go_wp2_with (with_reducible first|refine dn 9 rfl ?_|refine fU rfl ?_);have hia:=BQ hpk.1 r
    refine(Tryz.strings_IndexAny_laid (aB (p1++dh r)) ⟨#[76,82]⟩ w1 (by rw[eD];simp at hlen⊢;omega) (by decide) (λj b hj=>hasc b (by
     have:b∈p1++dh r:=ag1 (by simpa [aB] using hj);exact ah3 _ this)) (λj b hj=>by
     have:b∈([76,82]:List η):=ag1 hj;simp at this;rcases this with rfl|rfl<;>decide)).mono ?_
    rintro e w2 ⟨rfl,bl2⟩;have f2:aQ [] w1 w2:=kP (aQ.refl _ _) bl2;have adf:Lib.indexAny (aB (p1++dh r)).data.toList (⟨#[76,82]⟩:Ξ).data.toList=if r=[] then -1 else(p1.length:Int):=by simpa [aB] using hia
    rw[adf];clear hia adf bl2 hasc;have hp8:p1.length<=8:=by
     have:=hpk.1;unfold cz at this;simp only[ε] at this;simpa using this.1.2
    have hlk:k<=54:=by omega
    have HDR:Hid (ss.drop (k+1)=r):=hdr;clear hdr;have hps:(aB p1).size<=9223372036854775807:=by rw[eD];omega
    by_cases hr:r=[]
    all_goals
     first
      |(
        rw[ξ hr];have e0:p1++dh r=p1:=by rw[hr];simp[dh]
        rw[e0];clear e0)
      |(
        rw[ζ hr];go_wp2_with (with_reducible first|refine fU rfl ?_);refine aj.go (cH rfl (.string (aB p1)) w2 (by go_simp;rw[ξ (by rw[eD];simp),nT];simp) ?_))
     go_wp2_with (with_reducible first|refine bH rfl ?_|refine bJ rfl ?_);refine(lk (aB p1) w2 hps).mono ?_;rintro e w3 ⟨rfl,f3⟩;have hpt:cz (aB p1).data.toList=true:=by simpa [aB] using hpk.1
     rw[hpt];clear hpt;have K4:=(fk.trans f2).trans f3;have ho3:=f3.owns (f2.owns ho (by simp));clear ho f2 f3;go_wp2_with (with_reducible first|refine bI 168 rfl ?_|refine bH rfl ?_|refine bJ rfl ?_);refine aj.go (cH rfl (.agg #[.string (aB p1),.int .i64 sv]) w3 (by rw[hsv.out];kernel_rfl) ?_)
     go_wp2_with (with_reducible first|refine bH rfl ?_|refine bJ rfl ?_);refine aj.go (fH rfl 109 168 2 24 p7 _ rfl (.agg #[.string (aB p1),.int .i64 sv]) rfl rfl ?_);intro w8 b8 l8 f8 r8;go_wp2_with (with_reducible first|refine bH rfl ?_|refine bJ rfl ?_);have x8:=f8.owns ho3;have NJ:=K4.trans f8
     have hbase:w.heap.size<=w8.heap.size:=NJ.size;refine aj.go (gG rfl 109 168 2 24 p7 _ _ rfl w.heap.size u4 _ _ rfl x8 b8 1 1 [.string (aB p1),.int .i64 sv] rfl _ _ r8 rfl rfl (by simp[Value.oneCell']) (by omega) (by omega) (by omega) hbase ?_);intro g' cap' w9 Ge f9 _;have NI:=NJ.trans f9 (by intro j hj;right;simp at hj;exact(x8.lt j hj).1)
     have ahI:w9.ownsRow w.heap.size 168 2 (.slice (some ⟨g',0,none⟩) (k+1) cap') (k+1) (cA (ss.take (k+1))):=by
      rw[HR.out,rQ];rw[hsv.out] at Ge;exact Ge
     clear ho3 x8 Ge r8 f8 f9 l8 fk K4 NJ hbase;go_wp2_with (with_reducible first|refine Ls rfl ?_|refine fU rfl ?_);refine aj.go (cH rfl (.int .i64 p1.length) w9 (by kernel_rfl) ?_);have hw1:wrap64 (1+(p1.length:Int))=1+p1.length:=IntWalk.wrap64_in _ (by omega);go_wp2_with (with_reducible first|refine fU rfl ?_)
     refine aj.go (cH rfl (.string (aB (dh r))) w9 (by go_simp;rw[ξ (by rw[eD];simp;omega)];first|rw[Ex]|rw[AP]|rw[AP,hr]) ?_);go_wp2_with fail
     go_roundw
     case rel=>exact⟨k+1,by simp only[HDR.out,hr],by omega,NI,ahI⟩
     case measure=>simp[eD,hr];omega
  .obtain rfl:k=ss.length:=by omega
   rw[List.drop_length];rw[θ (by omega)] at ho;have e0:aB (dh [])=⟨#[]⟩:=rfl;rw[e0];obtain⟨ad4,cap4,hu4⟩:=bW ho;subst hu4;go_wp2_with fail;refine(D8 w.heap.size _ ss wr ho h0 hl hs).mono ?_;rintro e w2 ⟨rfl,f2⟩;go_wp2_with fail
   go_ret2
   exact⟨_,rfl,f2.owns ho,fk.trans f2⟩
theorem ND (d bl n:Nat)(vw:Φ)(x:DS)(w:Θ)(h:bp w d bl n vw x):
  Calls Tryz.prog 137 #[.pointer (some ⟨d,0,none⟩)] w λe w'=>e= .returned (.int .i64 ((aJ n:Int)-(taken x n).length))/\aQ [] w w':=by
 have hn:aJ n<=54:=by unfold aJ;omega
 have ht:=eS x n;go_enter Tryz.func137,Tryz.ntmps137;go_wp2_with fail;refine(lO d bl n vw x w h).mono ?_;rintro e w1 ⟨rfl,rfl⟩;go_wp2_with fail;refine(mr n h.lo h.hi w1).mono ?_;rintro e w2 ⟨rfl,rfl⟩;go_wp2_with fail;refine(iT d bl n vw x w2 h).mono ?_;rintro e w3 ⟨v,rfl,ho,f3⟩;obtain⟨ad,cap,hv⟩:=bW ho;subst hv
 obtain⟨tl,htl⟩:∃tl,(taken x n).length=tl:=⟨_,rfl⟩
 obtain⟨ns,hns⟩:∃ns,aJ n=ns:=⟨_,rfl⟩
 have H1:Hid ((taken x n).length=tl):=htl;have H2:Hid (aJ n=ns):=hns;rw[htl] at ht ho⊢;rw[hns] at hn⊢;clear htl hns;have hw1:wrap64 ((ns:Int)-tl)=ns-tl:=IntWalk.wrap64_in _ (by omega);go_wp2_with fail;go_ret;exact⟨by rw[H1.out,H2.out];rfl,f3⟩
def pU (ss:List (List η×Nat)):Prop:=∀p∈ss,cz p.1=true/\p.2<=1
def DS.begin (x:DS)(n:Nat)(ss:List (List η×Nat)):DS×Φ:=
 if qH x n ss ((aJ n:Int)-(taken x n).length-1)=false then(x,.int .i64 7) else x.put n 3 ⟨#[]⟩ (aB (dh ss))
theorem GZ (F:List Nat)(d n:Nat)(x:DS)(base:Nat)(v:Φ)(ss:List (List η×Nat))(w:Θ)(h:bO w F d n x)(hx:x.Fit 5)(iu:x.waiting.length<55)(hv:w.ownsRow base 168 2 v ss.length (cA ss))(hl:ss.length<=7)(hp:pU ss)(hF:∀g,v.ownBlock=some g->g∉F):
  Calls Tryz.prog 92 #[.pointer (some ⟨d,0,none⟩),v] w λe w'=>e= .returned (x.begin n ss).2/\∃F',bO w' F' d n (x.begin n ss).1/\aQ F w w'/\bV F F' w:=by
 have hn:aJ n<=54:=by unfold aJ;omega
 have ht:=eS x n;obtain⟨bl,vw,hd,hFe⟩:=id h;have hp8:∀p∈ss,p.1.length<=8/\p.2<=1:=λp hpm=>⟨sC (hp p hpm).1,(hp p hpm).2⟩
 have hej:(dh ss).length<=63:=by have:=tf ss λp hpm=>(hp8 p hpm).1;omega
 obtain⟨ad,cap,hv'⟩:=bW hv;subst hv';have HB:Hid (x.begin n ss=if qH x n ss ((aJ n:Int)-(taken x n).length-1)=false then(x,.int .i64 7) else x.put n 3 ⟨#[]⟩ (aB (dh ss))):=rfl;go_enter Tryz.func92,Tryz.ntmps92;go_wp2_with fail;refine(ND d bl n vw x w hd).mono ?_;rintro e w1 ⟨rfl,f1⟩;have hd1:=hd.new f1;have h1:=h.new f1;have hv1:=f1.owns hv
 have htl:(taken x n).length<=aJ n:=oA (x.read 0) (aJ n);generalize (taken x n).length=tl at*;generalize aJ n=ns at*;have hw1:wrap64 ((ns:Int)-tl-1)=ns-tl-1:=IntWalk.wrap64_in _ (by omega);go_wp2_with fail;refine(NK d bl n vw x base _ ss (ns-tl-1) w1 hd1 hv1 (by omega) (λp hpm=>(hp p hpm).2) (by omega) (by omega)).mono ?_;rintro e w2 ⟨rfl,f2⟩
 have h2:=h1.new f2;have hv2:=f2.owns hv1;have fw:=f1.trans f2;have fF:aQ F w w2:=fw.mono;clear hd hd1 h1 hv1 f1 f2;cases hfit:qH x n ss (ns-tl-1) with
 |false=>
  have HB2:Hid (x.begin n ss=(x,.int .i64 7)):=by show _=_;rw[HB.out,hfit];rfl
  clear HB hfit;go_wp2_with fail;go_ret;rw[HB2.out];exact⟨rfl,F,h2,fF,bV.refl _ _⟩
 |true=>
  have HB2:Hid (x.begin n ss=x.put n 3 ⟨#[]⟩ (aB (dh ss))):=by show _=_;rw[HB.out,hfit];rfl
  clear HB hfit;go_wp2_with fail;refine(fB w2).mono ?_;rintro e w3 ⟨rfl,f3⟩;have h3:=h2.new f3;have hv3:=f3.owns hv2;have yg:=fw.trans f3;clear h2 hv2 f3 fw fF;go_wp2_with fail;refine(D4 base _ ss w3 hv3 (by omega) hp8).mono ?_;rintro e w4 ⟨rfl,f4⟩;have h4:=h3.new f4;have AG:=yg.trans f4;clear h3 hv3 f4 yg
  go_wp2_with (with_reducible first|refine bI 107 rfl ?_);refine aj.go (cH rfl (.agg #[.int .i64 (3:Nat),.string ⟨#[]⟩,.string (aB (dh ss))]) w4 (by kernel_rfl) ?_);go_wp2_with fail;refine(xA F d n x 3 ⟨#[]⟩ (aB (dh ss)) w4 h4 hx iu (by omega) (by decide) (by rw[eD];omega)).mono ?_;rintro e w5 ⟨rfl,F',h5,f5,g5⟩
  obtain⟨r,hr⟩:∃r,x.put n 3 ⟨#[]⟩ (aB (dh ss))=r:=⟨_,rfl⟩
  rw[hr] at h5⊢;have HB3:Hid (x.begin n ss=r):=HB2.out.trans hr;clear hr HB2;obtain⟨r1,r2⟩:=r;go_wp2_with fail;go_ret;rw[HB3.out];exact⟨rfl,F',h5,(AG.mono).trans f5 (λj hj=> .inl hj),(bV.refl F w).trans g5 AG.size⟩
def rM:Φ->Int
 |.int _ e=>e
 |_=>0
theorem DS.Fit.weak {x:DS}{m k:Nat}(h:x.Fit (m+k)):x.Fit m:=⟨h.kr,by have:=h.kq;omega,h.ko,h.kj⟩
theorem Av {x:DS}{t o:Int}{m:Nat}(hx:x.Fit (m+2))(h:x.jC t o=true):(x.mark t o).Fit m/\(x.mark t o).waiting=[]:=by
 unfold DS.jC at h;rw[ε] at h;unfold DS.mark;rw[ξ h.1];refine⟨DS.AI (DS.jt (r:=m+1) hx h.1) h.2,?_⟩;unfold DS.flush;rw[ξ h.2]
theorem DB {x:DS}{n s m:Nat}{p c:Ξ}(hx:x.Fit (m+5)):∃e:Int,(x.put n s p c).2= .int .i64 e/\(e=0->(x.put n s p c).1.Fit m/\(x.put n s p c).1.waiting=[]):=by
 unfold DS.put;split
 .exact⟨7,rfl,λh=>by cases h⟩
 .split
  .rename_i h1 h2
   refine⟨_,rfl,λh=>?_⟩;have h3:=(DS.Cy (m:=m+2) hx h2).1;split at h
   .exact Av h3 (by assumption)
   .cases h
  .exact⟨3,rfl,λh=>by cases h⟩
theorem Dv {x:DS}{n s m:Nat}{p:Ξ}(hx:x.Fit (m+5)):∃e:Int,(x.remove n s p).2= .int .i64 e/\(e=0->(x.remove n s p).1.Fit m/\(x.remove n s p).1.waiting=[]):=by
 unfold DS.remove;split
 .exact⟨5,rfl,λh=>by cases h⟩
 .refine⟨_,rfl,λh=>?_⟩
  have h3:x.Fit (m+3+2):=hx;split at h
  .have:=Av h3 (by assumption)
   exact⟨this.1.weak (k:=3),this.2⟩
  .cases h
theorem Oo {x:DS}{n m:Nat}{w:dj}(hx:x.Fit (m+5)):∃e:Int,(x.uq n w).2= .int .i64 e/\(e=0->(x.uq n w).1.Fit m/\(x.uq n w).1.waiting=[]):=by
 unfold DS.uq;cases w.becomes with
 |none=>exact Dv hx
 |some c=>exact DB hx
def DS.hY (x:DS)(n:Nat):List dj->DS×Φ
 |[]=>(x,.int .i64 0)
 |w::r=>if rM (x.uq n w).2=0 then(x.uq n w).1.hY n r else x.uq n w
def DS.tb (x:DS)(n:Nat)(ss:List (List η×Nat)):DS×Φ:=
 if rM (x.hY n (bA x n ss)).2=0 then(x.hY n (bA x n ss)).1.remove n 3 ⟨#[]⟩ else x.hY n (bA x n ss)
theorem th {x:DS}{n:Nat}{s:Int}{p:Ξ}{c:List η}(h:x.content n s p=some c):c.length<=96:=by
 unfold DS.content at h;split at h
 .rw[<-af0 h]
  unfold bq;rw[ac6];omega
 .cases h
theorem IM {x:DS}{n:Nat}{ss:List (List η×Nat)}(hp:pU ss):∀w∈bA x n ss,w.set<256/\w.path.length<256/\∀c,w.becomes=some c->c.length<256:=by
 intro w hw;unfold bA at hw;obtain⟨p,hp',hw⟩:=List.mem_flatMap.1 hw;have hpp:=hp p hp';have one:∀set,set<=2->w∈dA x n p set->w.set<256/\w.path.length<256/\∀c,w.becomes=some c->c.length<256:=λset hs hm=>by
  unfold dA at hm;split at hm
  .simp at hm
  .simp only[ae1] at hm
   subst hm;exact⟨by show set<256;omega,by have:=sC hpp.1;show p.1.length<256;omega,λc hc=>by have:=th hc;omega⟩
 unfold fO at hw;rcases List.mem_append.1 hw with hw|hw
 .exact one _ (by omega) hw
 .exact one _ (by omega) hw
theorem bO.apart {w:Θ}{F:List Nat}{d n:Nat}{x:DS}(h:bO w F d n x){b:Nat}{c:Array Φ}{t:Γ}(r:Row w b c t)(h1:t≠134)(h2:t≠148)(h3:t≠240):b∉F:=by
 obtain⟨bl,vw,hd,rfl⟩:=h;unfold Row at r;intro hb;rcases ac5.1 hb with rfl|hb
 .have:=hd.row
  unfold Row at this;rw[r] at this;cases this;exact h1 rfl
 rcases ac5.1 hb with rfl|hb
 .have:=hd.last
  unfold Row at this;rw[r] at this;cases this;exact h2 rfl
 .rcases hd.own.2 with⟨e,_⟩|⟨g,cap,cur,e,_,hg,_⟩
  .rw[e] at hb;simp[Value.ownBlock] at hb
  .rw[e] at hb
   have:b=g:=by simpa [Value.ownBlock] using hb
   subst this;rw[r] at hg;cases hg;exact h3 rfl
theorem JC {w:Θ}{F:List Nat}{d n base size k:Nat}{x:DS}{v:Φ}{e:Γ}{xs:List Φ}(h:bO w F d n x)(ho:w.ownsRow base e size v k xs)(h1:e≠134)(h2:e≠148)(h3:e≠240):∀j∈F,v.ownBlock≠some j:=λj hj hv=>by
 rcases ho.2 with⟨rfl,_⟩|⟨g,cap,cur,rfl,_,hg,_⟩
 .cases hv
 .have:g=j:=by simpa [Value.ownBlock] using hv
  subst this;exact h.apart (c:=cur) (t:=e) hg h1 h2 h3 hj
theorem Od (F:List Nat)(d n:Nat)(x:DS)(ss:List (List η×Nat))(w:Θ)(h:bO w F d n x)(hx:x.Fit 100)(iu:x.waiting.length<55)(hj:x.content n 3 ⟨#[]⟩=some (dh ss))(h0:0<ss.length)(hl:ss.length<=7)(hp:pU ss)(hs:ss.Pairwise λp q=>p.1<q.1):
  Calls Tryz.prog 58 #[.pointer (some ⟨d,0,none⟩)] w λe w'=>e= .returned (x.tb n ss).2/\∃F',bO w' F' d n (x.tb n ss).1/\aQ F w w'/\bV F F' w:=by
 obtain⟨bl,vw,hd,hFe⟩:=id h;go_enter Tryz.func58,Tryz.ntmps58;go_wp2_with fail;refine(fB w).mono ?_;rintro e w1 ⟨rfl,f1⟩;have hd1:=hd.new f1;go_wp2_with fail;refine(po d bl n vw x 3 ⟨#[]⟩ w1 hd1).mono ?_;rintro e w2 ⟨rfl,f2⟩;have hd2:=hd1.new f2;have fw2:=f1.trans f2;rw[hj];simp only[Option.getD_some,Option.isSome_some];go_wp2_with fail
 refine(D5 ss w2 h0 (by omega) hp hs).mono ?_;rintro e w3 ⟨u,rfl,ho3,f3⟩;have hd3:=hd2.new f3;have yg:=fw2.trans f3;go_wp2_with fail;refine(wI d bl n vw x _ u ss w3 hd3 ho3 (by omega) λp hpm=>(hp p hpm).2).mono ?_;rintro e w4 ⟨v,rfl,ho4,f4⟩;have AG:=yg.trans f4;have h4:=h.new AG
 have hwl:(bA x n ss).length<=14:=by have:=iR x n ss;omega
 have hwo:=IM (x:=x) (n:=n) hp;have HE:Hid (x.tb n ss=if rM (x.hY n (bA x n ss)).2=0 then(x.hY n (bA x n ss)).1.remove n 3 ⟨#[]⟩ else x.hY n (bA x n ss)):=rfl;generalize bA x n ss=ws at*;clear hd hd1 hd2 hd3 f1 f2 f3 f4 fw2 yg ho3;obtain⟨ad,cap,hv⟩:=bW ho4;subst hv;go_wp2_with fail
 go_loopw [25] (λc wr=>∃(k:Nat) (y:DS) (G:List Nat),c= .int .i64 k/\k<=ws.length/\bO wr G d n y/\y.Fit (5*(14-k)+5)/\y.waiting.length<55/\y.hY n (ws.drop k)=x.hY n ws/\aQ F w4 wr/\bV F G w4/\wr.ownsRow w3.heap.size 176 5 (Value.slice ad ws.length cap) ws.length (jR ws)) (λc _=>ws.length-(intOf c).toNat)
 case atStart=>exact⟨0,x,F,rfl,by omega,h4,DS.Fit.weak (k:=25) hx,iu,by simp,aQ.refl _ _,bV.refl _ _,ho4⟩
 case round=>
  obtain⟨k,y,G,rfl,hk,hy,K1,hyw,hdo,fk,gk,hok⟩:=hrel
  by_cases hlt:k<ws.length
  .have hGa:=JC hy hok (by decide) (by decide) (by decide)
   obtain⟨g,cur,ah0,hg,hle,_,hcs,htk⟩:=dY hok;have hat:((cur.toList.drop (k*5)).take 5)=ws[k].vals:=by
    rw[bX htk _ _,Cu ws k hlt]
   have hd:y.hY n (ws.drop k)=if rM (y.uq n ws[k]).2=0 then(y.uq n ws[k]).1.hY n (ws.drop (k+1)) else y.uq n ws[k]:=by
    rw[ae0 hlt];rfl
   rw[hd] at hdo;obtain⟨m,hm⟩:∃m,5*(14-k)+5=m+5:=⟨_,rfl⟩
   have hm2:m=5*(14-(k+1))+5:=by omega
   rw[hm] at K1;obtain⟨e,he,hgood⟩:=Oo (n:=n) (w:=ws[k]) K1;have hwk:=hwo ws[k] (af2 hlt);clear hd hcs htk;generalize ws[k]=wd at*;subst ah0;go_wp2_with (with_reducible first|refine ay rfl ?_|refine av 176 rfl ?_|refine ah 176 rfl ?_);refine aj.go (bM rfl 176 _ rfl g (k*5) rfl Fw 5 sP _ _ hg _ hat rfl ?_);clear hat hg
   go_wp2_with (with_reducible first|refine ay rfl ?_|refine ah 176 rfl ?_);refine aj.go (aY rfl 176 rfl _ G7 ?_);intro w5 b7 l7 f5 r5;go_wp2_with (with_reducible first|refine ay rfl ?_|refine av 176 rfl ?_|refine ah 176 rfl ?_);refine aj.go (bG rfl 176 _ _ rfl _ 0 rfl _ rfl 5 sP ?_ ?_ _ _ r5 ?_ ?_)
   .rfl
   .simp[dj.vals,Value.oneCell']
   .decide
   intro w6 f6 q6;rw[bu _ _ (by rfl)] at q6;have Wr:Row w6 b7 wd.vals.toArray 176:=q6;have zG:aQ [] wr w6:=f5.trans f6 (by simpa using l7);have hy6:=hy.new zG;have ahH:=zG.owns hok;clear q6 r5 f5 f6 hok hy;go_wp2_with (with_reducible first|refine ay rfl ?_|refine av 176 rfl ?_)
   refine aj.go (bM rfl 176 _ rfl b7 0 rfl Fw 5 sP _ _ Wr wd.vals (by rfl) rfl ?_);clear Wr;go_wp2_with fail;refine(Om G d n y wd w6 hy6 ⟨K1.kr,by have:=K1.kq;omega,K1.ko,K1.kj⟩ hyw hwk.1 hwk.2.1 hwk.2.2).mono ?_;rintro e w7 ⟨rfl,G',h7,f7,g7⟩
   have YU:aQ F w4 w7:=fk.trans ((zG.mono).trans f7 (λj hj=> .inl hj):aQ G wr w7) (λj hj=>gk j hj);have gk7:bV F G' w4:=gk.trans (bV.trans (bV.refl G wr) g7 zG.size) fk.size;have ahG:=f7.owns ahH hGa;rw[he] at hdo⊢;have HD:Hid (x.hY n ws=if rM (.int .i64 e)=0 then(y.uq n wd).1.hY n (ws.drop (k+1)) else y.uq n wd):=hdo.symm
   have HP:Hid (y.uq n wd=((y.uq n wd).1,.int .i64 e)):=Prod.ext rfl he;clear hdo he;generalize (y.uq n wd).1=z at*
   by_cases K2:e=0
   .subst K2
    obtain⟨hzf,hzw⟩:=hgood rfl;have HD2:Hid (x.hY n ws=z.hY n (ws.drop (k+1))):=HD.out;clear hgood HD HP;go_wp2_with fail
    go_roundw
    case rel=>exact⟨k+1,z,G',by go_num,by omega,h7,hm2▸hzf,by rw[hzw];decide,HD2.out.symm,YU,gk7,ahG⟩
    case measure=>simp[intOf];omega
   .have adj:(e==0)=false:=by simpa using K2
    have HD2:Hid (x.tb n ss=(z,.int .i64 e)):=by
     have h1:x.hY n ws=(z,.int .i64 e):=by rw[HD.out,ζ (by simpa [rM] using K2),HP.out]
     show _=_;rw[HE.out,h1,ζ (by simpa [rM] using K2)]
    clear hgood HD HP HE;go_wp2_with fail;go_ret;rw[HD2.out];exact⟨rfl,G',h7,(AG.mono).trans YU (λj hj=> .inl hj),(bV.refl F w).trans gk7 AG.size⟩
  .obtain rfl:k=ws.length:=by omega
   rw[List.drop_length] at hdo;have HD2:Hid (x.tb n ss=y.remove n 3 ⟨#[]⟩):=by
    have h1:x.hY n ws=(y,.int .i64 0):=hdo.symm;show _=_;rw[HE.out,h1];rfl
   clear hdo HE hok;go_wp2_with fail;refine(fB wr).mono ?_;rintro e w5 ⟨rfl,f5⟩;have h5:=hy.new f5;go_wp2_with fail;refine(oX G d n y 3 ⟨#[]⟩ w5 h5 ⟨K1.kr,by have:=K1.kq;omega,K1.ko,K1.kj⟩ (by omega)).mono ?_;rintro e w6 ⟨rfl,G',h6,f6,g6⟩;obtain⟨r,hr⟩:∃r,y.remove n 3 ⟨#[]⟩=r:=⟨_,rfl⟩
   rw[hr] at h6⊢;have HD3:Hid (x.tb n ss=r):=HD2.out.trans hr;clear hr HD2;obtain⟨r1,r2⟩:=r;go_wp2_with fail;go_ret;rw[HD3.out];have zG:aQ F w4 w6:=fk.trans ((f5.mono).trans f6 (λj hj=> .inl hj):aQ G wr w6) (λj hj=>gk j hj);have gk6:bV F G' w4:=gk.trans (bV.trans (bV.refl G wr) g6 f5.size) fk.size
   exact⟨rfl,G',h6,(AG.mono).trans zG (λj hj=> .inl hj),(bV.refl F w).trans gk6 AG.size⟩
theorem Qx (x:DS)(n s:Nat)(p c:Ξ):∃e:Int,(x.put n s p c).2= .int .i64 e:=by
 unfold DS.put;split
 .exact⟨_,rfl⟩
 .split<;>exact⟨_,rfl⟩
theorem xw (x:DS)(n s:Nat)(p:Ξ):∃e:Int,(x.remove n s p).2= .int .i64 e:=by
 unfold DS.remove;split<;>exact⟨_,rfl⟩
theorem AL (n:Nat):∀(ws:List dj) (x:DS),∃e:Int,(x.hY n ws).2= .int .i64 e
 |[],_=>⟨0,rfl⟩
 |w::r,x=>by
  unfold DS.hY;split
  .exact AL n r _
  .unfold DS.uq
   cases w.becomes with
   |none=>exact xw ..
   |some c=>exact Qx ..
theorem Og (x:DS)(n:Nat)(ss:List (List η×Nat)):∃e:Int,(x.tb n ss).2= .int .i64 e:=by
 unfold DS.tb;split
 .exact xw ..
 .exact AL ..
theorem yO {x:DS}{n m:Nat}{ss:List (List η×Nat)}(hx:x.Fit (m+5)):∃e:Int,(x.begin n ss).2= .int .i64 e/\(e=0->(x.begin n ss).1.Fit m/\(x.begin n ss).1.waiting=[]):=by
 unfold DS.begin;split
 .exact⟨7,rfl,λh=>by cases h⟩
 .exact DB hx
def DS.yx (x:DS)(n:Nat)(ss:List (List η×Nat)):DS×Φ:=
 if ss=[] then(x,.int .i64 0) else if rM (x.begin n ss).2=0 then(x.begin n ss).1.tb n ss else x.begin n ss
theorem Sf (x:DS)(n:Nat)(ss:List (List η×Nat))(hx:x.Fit 105):∃e:Int,(x.yx n ss).2= .int .i64 e:=by
 unfold DS.yx;split
 .exact⟨0,rfl⟩
 .split
  .exact Og ..
  .exact(yO (m:=100) hx).imp λe h=>h.1
theorem aP.moved {w w':Θ}{F F':List Nat}{s d n:Nat}{x x':DS}(h:aP w F s d n x)(hd:bO w' F' d n x')(f:aQ F w w')(g:bV F F' w):aP w' F' s d n x':=
 ⟨f.row h.row h.ne,hd,λhF=>(g s hF).elim h.ne (λhh=>by have:=h.row.lt;omega)⟩
theorem Sd (F:List Nat)(s d n:Nat)(x:DS)(base:Nat)(v:Φ)(ss:List (List η×Nat))(w:Θ)(h:aP w F s d n x)(hx:x.Fit 105)(iu:x.waiting.length<55)(hv:w.ownsRow base 168 2 v ss.length (cA ss))(hl:ss.length<=7)(hp:pU ss)(hs:ss.Pairwise λp q=>p.1<q.1)
  (hF:∀g,v.ownBlock=some g->g∉F) (hB:rM (x.begin n ss).2=0->(x.begin n ss).1.content n 3 ⟨#[]⟩=some (dh ss)):
  Calls Tryz.prog 56 #[.pointer (some ⟨s,0,none⟩),v] w λe w'=>e= .returned (x.yx n ss).2/\(∃F',aP w' F' s d n (x.yx n ss).1/\bV F F' w)/\aQ F w w':=by
 have c0:=h.cell;obtain⟨ad,cap,hv'⟩:=bW hv;subst hv';have HD:Hid (x.yx n ss=if ss=[] then(x,.int .i64 0) else if rM (x.begin n ss).2=0 then(x.begin n ss).1.tb n ss else x.begin n ss):=rfl;go_enter Tryz.func56,Tryz.ntmps56
 by_cases h0:ss.length=0
 .have HD2:Hid (x.yx n ss=(x,.int .i64 0)):=HD.out.trans (ξ (List.length_eq_zero_iff.1 h0))
  rw[h0];clear HD hv hs hp hB hl h0;go_wp2_with fail;go_ret;rw[HD2.out];exact⟨rfl,⟨F,h,bV.refl _ _⟩,aQ.refl _ _⟩
 .have hne:ss≠[]:=λe=>h0 (by rw[e];rfl)
  have h0':0<ss.length:=by omega
  have hlb:((ss.length:Int)==0)=false:=by simp;omega
  obtain⟨e1,he1,hgood⟩:=yO (m:=100) (n:=n) (ss:=ss) hx;go_wp2_with fail;refine(GZ F d n x base _ ss w h.disk ⟨hx.kr,by have:=hx.kq;omega,hx.ko,hx.kj⟩ iu hv hl hp hF).mono ?_;rintro e w1 ⟨rfl,F1,h1,f1,g1⟩;have hs1:=h.moved h1 f1 g1;have c1:=hs1.cell;rw[he1] at hB HD⊢;have HB:Hid (x.begin n ss=((x.begin n ss).1,.int .i64 e1)):=Prod.ext rfl he1;clear he1 c0 h0
  generalize (x.begin n ss).1=y at*
  by_cases K2:e1=0
  .subst K2
   obtain⟨K1,hyw⟩:=hgood rfl;have HD2:Hid (x.yx n ss=y.tb n ss):=HD.out.trans (ζ hne);have hjy:=hB rfl;clear HD HB hB hgood hlb;go_wp2_with fail;refine(Od F1 d n y ss w1 h1 K1 (by rw[hyw];decide) hjy h0' hl hp hs).mono ?_;rintro e w2 ⟨rfl,F2,h2,f2,g2⟩;obtain⟨r,hr⟩:∃r,y.tb n ss=r:=⟨_,rfl⟩
   rw[hr] at h2⊢;have HD3:Hid (x.yx n ss=r):=HD2.out.trans hr;clear hr HD2;obtain⟨r1,r2⟩:=r;go_wp2_with fail;go_ret;rw[HD3.out];exact⟨rfl,⟨F2,hs1.moved h2 f2 g2,g1.trans g2 f1.size⟩,f1.trans f2 (λj hj=>g1 j hj)⟩
  .have adj:(e1==0)=false:=by simpa using K2
   have HD2:Hid (x.yx n ss=(y,.int .i64 e1)):=HD.out.trans ((ζ hne).trans ((ζ (by simpa [rM] using K2)).trans HB.out));clear HD HB hB hgood hlb;go_wp2_with fail;go_ret;rw[HD2.out];exact⟨rfl,⟨F1,hs1,g1⟩,f1⟩
def dr (l:List (List η)):Array Φ:=(l.map λb=>Value.string (aB b)).toArray
theorem cX (l:List (List η)):(dr l).size=l.length:=by simp[dr]
theorem rS (l:List (List η))(i:Nat)(h:i<l.length):(dr l)[i]? =some (.string (aB l[i])):=by simp[dr,h]
theorem pF (b:List η):(aB b).toList=b:=by rw[ByteArray.toList_eq];rfl
theorem LD (l:List (List η))(i:Nat):(dr l).extract i (i+7)=dr ((l.drop i).take 7):=by
 apply Array.toList_inj.1
 rw[Array.toList_extract];simp[dr,List.extract,List.map_take,List.map_drop]
section
variable {P:χ}(w:Θ)
theorem s9 (d:Nat){e:Γ}(he:P.plainKey e=true)(hu:P.underlying e=some .string)(xs ys:List (List η)):∀is:List Nat,(∀i∈is,i<xs.length/\i<ys.length)->
  (Op.eqItems (d+1) e 1 (dr xs) (dr ys) is).run P w= .ok (is.all λi=>xs[i]? ==ys[i]?) w
 |[],_=>by simp[Op.eqItems]
 |i::is,h=>by
  have hi:=h i (by simp);have ih:=s9 d he hu xs ys is λj hj=>h j (by simp[hj])
  have px:=run_part_plain (P:=P) (w:=w) he (xs:=dr xs) (off:=i*1) (v:= .string (aB xs[i])) (by rw[Nat.mul_one];exact rS xs i hi.1);have py:=run_part_plain (P:=P) (w:=w) he (xs:=dr ys) (off:=i*1) (v:= .string (aB ys[i])) (by rw[Nat.mul_one];exact rS ys i hi.2);have e1:((aB xs[i]).toList==(aB ys[i]).toList)=(xs[i]? ==ys[i]?):=by
   rw[pF,pF,List.getElem?_eq_getElem hi.1,List.getElem?_eq_getElem hi.2];rfl
  simp only[Op.eqItems,Sem.run_bind,px,py,run_equalIn_string w d e _ _ hu,Result.andThen_ok,e1,List.all_cons];cases hc:(xs[i]? ==ys[i]?)
  .simp
  .simpa using ih
theorem G2 (xs ys:List (List η))(n:Nat)(hx:xs.length=n)(hy:ys.length=n):((List.range n).all λi=>xs[i]? ==ys[i]?)=(xs==ys):=by
 rw[Bool.eq_iff_iff];simp only[ad7,ae9,ag5];constructor
 .intro h
  apply List.ext_getElem?
  intro i;rcases Nat.lt_or_ge i n with hi|hi
  .exact h i hi
  .rw[af8 (by omega),af8 (by omega)]
 .rintro rfl i _;rfl
theorem Oc (d:Nat){t e:Γ}(ht:P.underlying t=some (.array 7 e))(i:TypeInfo)(hi:P.info? e=some i)(hc:P.cellsOf e=1)(he:P.plainKey e=true)(hu:P.underlying e=some .string)(xs ys:List (List η))(hx:xs.length=7)(hy:ys.length=7):
  (Op.equalIn (d+2) t (.agg (dr xs)) (.agg (dr ys))).run P w= .ok (xs==ys) w:=by
 rw[run_equalIn_array w (d+1) _ _ ht hi,hc,s9 w d he hu xs ys _ (by intro j hj;rw[ae9] at hj;omega),G2 xs ys 7 hx hy]
theorem ta (d:Nat){t e:Γ}(ht:P.underlying t=some (.array 7 e))(i7:TypeInfo)(ZZ:P.info? t=some i7)(hc7:P.cellsOf t=7)(i:TypeInfo)(hi:P.info? e=some i)(hc:P.cellsOf e=1)(he:P.plainKey e=true)(hu:P.underlying e=some .string)
  (xs ys:List (List η)):∀is:List Nat,(∀i∈is,i*7+7<=xs.length/\i*7+7<=ys.length)->
  (Op.eqItems (d+2) t 7 (dr xs) (dr ys) is).run P w= .ok (is.all λi=>(xs.drop (i*7)).take 7==(ys.drop (i*7)).take 7) w
 |[],_=>by simp[Op.eqItems]
 |j::is,h=>by
  have hj:=h j (by simp);have ih:=ta d ht i7 ZZ hc7 i hi hc he hu xs ys is λj hj=>h j (by simp[hj])
  have pt:∀zs:List (List η),(part t (dr zs) (j*7)).run P w= .ok (.agg (dr ((zs.drop (j*7)).take 7))) w:=λzs=>by
   rw[<-LD];simp[part,isAgg,run_underlying ht,run_sizeOf w ZZ,hc7]
  have e1:=Oc (P:=P) w d ht i hi hc he hu ((xs.drop (j*7)).take 7) ((ys.drop (j*7)).take 7) (by rw[ac6,List.length_drop];omega) (by rw[ac6,List.length_drop];omega);simp only[Op.eqItems,Sem.run_bind,pt,e1,Result.andThen_ok,List.all_cons];cases hc:((xs.drop (j*7)).take 7==(ys.drop (j*7)).take 7)
  .simp
  .simpa using ih
theorem L9 (xs ys:List (List η))(hx:xs.length=21)(hy:ys.length=21):((List.range 3).all λi=>(xs.drop (i*7)).take 7==(ys.drop (i*7)).take 7)=(xs==ys):=by
 rw[Bool.eq_iff_iff];simp only[ad7,ae9,ag5];constructor
 .intro h
  apply List.ext_getElem?
  intro k;rcases Nat.lt_or_ge k 21 with hk|hk
  .have h1:=congrArg (·[k%7]?) (h (k/7) (by omega))
   simp only[ah5,ag0] at h1;rw[ξ (Nat.mod_lt _ (by omega)),ξ (Nat.mod_lt _ (by omega))] at h1;rw[show k/7*7+k%7=k by omega] at h1;exact h1
  .rw[af8 (by omega),af8 (by omega)]
 .rintro rfl i _;rfl
end
theorem Bu:Tryz.prog.plainKey 9=true:=by kernel_rfl
theorem tx:Tryz.prog.cellsOf 9=1:=by kernel_rfl
theorem yH:Tryz.prog.cellsOf 30=7:=by kernel_rfl
theorem vi:(Tryz.prog.info? 9).map (·.size)=some 1:=by kernel_rfl
theorem JY:(Tryz.prog.info? 30).map (·.size)=some 7:=by kernel_rfl
theorem AD:(Tryz.prog.info? 31).map (·.size)=some 21:=by kernel_rfl
theorem nF:(Tryz.prog.info? 33).map (·.size)=some 21:=by kernel_rfl
theorem Dn:(Tryz.prog.underlying 31).map TypeDesc.isRow=some true:=by kernel_rfl
theorem kK:(Tryz.prog.underlying 33).map TypeDesc.isRow=some true:=by kernel_rfl
theorem Ll:Tryz.prog.underlying 30=some (.array 7 9):=by kernel_rfl
theorem Lj:Tryz.prog.underlying 31=some (.array 3 30):=by kernel_rfl
theorem Gl (op:BinOp)(x y:aa9)(a b:Array Φ)(w:Θ):(eqGuard op 31 x y (.agg a) (.agg b)).run Tryz.prog w= .ok () w:=by
 cases op<;>kernel_rfl
theorem Af {n:Nat}{t:Γ}(h:(Tryz.prog.info? t).map (·.size)=some n):∃i,Tryz.prog.info? t=some i:=by
 cases hi:Tryz.prog.info? t with
 |none=>simp[hi] at h
 |some i=>exact⟨i,rfl⟩
theorem Ob (xs ys:List (List η))(hx:xs.length=21)(hy:ys.length=21)(w:Θ):(binOp .eql 31 (.agg (dr xs)) (.agg (dr ys))).run Tryz.prog w= .ok (.bool (xs==ys)) w:=by
 obtain⟨i,hi⟩:=Af vi;obtain⟨i7,ZZ⟩:=Af JY;rw[run_eql_struct,run_equalIn_array w 9999 _ _ Lj ZZ,yH,ta w 9997 Ll i7 ZZ yH i hi tx Bu Tryz.underlying9 xs ys _ (by intro j hj;rw[ae9] at hj;omega),L9 xs ys hx hy];rfl
theorem Dj (xs ys:List (List η))(hx:xs.length=21)(hy:ys.length=21)(w:Θ):
  Calls Tryz.prog 25 #[.agg (dr xs),.agg (dr ys)] w λe w'=>e= .returned (.bool (xs==ys))/\aQ [] w w':=by
 go_enter Tryz.func25,Tryz.ntmps25;go_wp2_with (with_reducible first|refine bm rfl ?_|refine av 31 rfl ?_|refine dn 31 rfl ?_);refine aj.go (fg rfl 33 _ rfl (.agg (dr xs)) rfl ?_);intro w1 b1 l1 f1 r1;go_wp2_with (with_reducible first|refine bm rfl ?_|refine av 31 rfl ?_|refine dn 31 rfl ?_)
 refine aj.go (fg rfl 33 _ rfl (.agg (dr ys)) rfl ?_);intro w2 b2 l2 f2 r2;have q1:Row w2 b1 (dr xs) 33:=f2.row r1;have q2:Row w2 b2 (dr ys) 33:=r2;have fw:=f1.trans f2;clear r1 r2 f1 f2;have hxl:((dr xs).toList.drop 0).take 21=(dr xs).toList:=by rw[List.drop_zero];exact θ (by rw[ae8,cX];omega)
 have hyl:((dr ys).toList.drop 0).take 21=(dr ys).toList:=by rw[List.drop_zero];exact θ (by rw[ae8,cX];omega)
 go_wp2_with (with_reducible first|refine av 31 rfl ?_|refine dn 31 rfl ?_);refine aj.go (bM rfl 31 _ rfl b1 0 rfl Dn 21 AD _ _ q1 _ hxl (by rw[ae8,cX];exact hx) ?_);go_wp2_with (with_reducible first|refine av 31 rfl ?_|refine dn 31 rfl ?_)
 refine aj.go (bM rfl 31 _ rfl b2 0 rfl Dn 21 AD _ _ q2 _ hyl (by rw[ae8,cX];exact hy) ?_);go_wp2_with (with_reducible first|refine dn 31 rfl ?_);refine aj.go (cH rfl (.bool (xs==ys)) w2 (ry .eql 31 31 _ _ rfl (.agg (dr xs)) (.agg (dr ys)) rfl rfl _ (Gl _ _ _ _ _ _) (Ob xs ys hx hy w2)) ?_);go_wp2_with fail;go_ret
 exact⟨rfl,fw⟩
end
section
open Go.RowKit Go.Lib Go.Sort
section
variable {L:List η}{n:Nat}{m:dN}
theorem mm.loose (h:mm L n m){j:Nat}{b:List η}(hj:j<n)(h0:j≠0)(hb:b.length=64)(hf:∀i f,m i=some f->j≠1+2*i/\j≠2+2*i):mm (bF L ((j:Int),b)) n m where
 len:=HU L n h.len j hj b hb
 lo:=h.lo
 root:=by rw[jT L n h.len j hj b hb,ζ (by omega),h.root]
 recs i f hm:=by
  have h1:=hf i f hm;rw[jT L n h.len j hj b hb,jT L n h.len j hj b hb,ζ (by omega),ζ (by omega),h.recs i f hm]
 lt:=h.lt
 good:=h.good
 inj:=h.inj
theorem yj {i:Nat}(hi:m i=none){j:Nat}(hj:j=1+2*i\/j=2+2*i):∀k f,m k=some f->j≠1+2*k/\j≠2+2*k:=by
 intro k f hk;have:k≠i:=λe=>by subst e;rw[hi] at hk;cases hk
 omega
def qK (m:dN)(o:Int):dN:=if o=-1 then m else upd m o.toNat none
def after (m:dN)(i:Nat)(f:cQ)(o:Int):dN:=qK (upd m i (some f)) o
theorem se (m:dN)(o:Int)(ho:-1<=o/\o<54):fQ (eC n m) o 0=eC n (qK m o):=by
 unfold fQ qK;split
 .rfl
 .exact Dg n m o.toNat (by omega) none
theorem BF (m:dN)(i:Nat)(hi:i<54)(f:cQ)(o:Int)(ho:-1<=o/\o<54):aX (eC n m) i o=eC n (after m i f o):=by
 unfold aX after;have:fQ (eC n m) (i:Int) 1=eC n (upd m i (some f)):=by
  unfold fQ;rw[ζ (by omega)];exact Dg n m i hi (some f)
 rw[this,se _ o ho]
theorem zz (m:dN)(o:Int)(ho:-1<=o/\o<54):aX (eC n m) (-1) o=eC n (qK m o):=by
 unfold aX;rw[show fQ (eC n m) (-1) 1=eC n m from rfl,se _ o ho]
theorem gq {m:dN}{o:Int}{j:Nat}{f:cQ}(h:qK m o j=some f):m j=some f/\(0<=o->o.toNat≠j):=by
 unfold qK at h;split at h
 .exact⟨h,by omega⟩
 .unfold upd at h
  split at h
  .cases h
  .rename_i hne
   exact⟨h,λ_ e=>hne e.symm⟩
theorem rD {m:dN}{o:Int}{j:Nat}(h:o=-1\/(0<=o/\o≠j)):qK m o j=m j:=by
 unfold qK;split
 .rfl
 .unfold upd
  rw[ζ (by omega)]
theorem mm.rooted (h:mm L n m){m':dN}(hn:0<n)(hr:∀i f,m' i=some f->kC L (1+2*i)++kC L (2+2*i)=cF f.set f.path f.content)(hl:∀i f,m' i=some f->i<aJ n)
  (hg:∀i f,m' i=some f->dU f.set f.path=true/\f.content.length<=96) (hi:∀i j f g,m' i=some f->m' j=some g->nameOf f=nameOf g->i=j):mm (bF L (0,eC n m')) n m' where
 len:=HU L n h.len 0 hn _ (jb _ _)
 lo:=h.lo
 root:=by
  have:=jT L n h.len 0 hn _ (jb n m') 0;rw[ξ rfl] at this;exact this
 recs i f hm:=by
  have h1:=jT L n h.len 0 hn _ (jb n m') (1+2*i);have h2:=jT L n h.len 0 hn _ (jb n m') (2+2*i);rw[ζ (by omega)] at h1 h2;show kC (bF L (((0:Nat):Int),eC n m')) _++kC (bF L (((0:Nat):Int),eC n m')) _=_;rw[h1,h2];exact hr i f hm
 lt:=hl
 good:=hg
 inj:=hi
theorem mm.dropped (h:mm L n m)(o:Int):mm (bF L (0,eC n (qK m o))) n (qK m o):=
 h.rooted (by have:=h.lo;omega) (λi f hm=>h.recs i f (gq hm).1) (λi f hm=>h.lt i f (gq hm).1) (λi f hm=>h.good i f (gq hm).1)
  λi j f g hf hg e=>h.inj i j f g (gq hf).1 (gq hg).1 e
theorem iL {m:dN}{i:Nat}{f:cQ}{o:Int}{j:Nat}{g:cQ}(h:after m i f o j=some g):(j=i/\g=f)\/(j≠i/\m j=some g/\(0<=o->o.toNat≠j)):=by
 unfold after at h;obtain⟨h1,h2⟩:=gq h;unfold upd at h1;split at h1
 .rename_i e
  exact .inl ⟨e,(af0 h1).symm⟩
 .rename_i e
  exact .inr ⟨e,h1,h2⟩
theorem mm.put (h:mm L n m){i:Nat}{f:cQ}{o:Int}(hi:i<aJ n)(hrec:kC L (1+2*i)++kC L (2+2*i)=cF f.set f.path f.content)
  (hg:dU f.set f.path=true/\f.content.length<=96) (ho:∀j g,m j=some g->nameOf g=nameOf f->o=j):mm (bF L (0,eC n (after m i f o))) n (after m i f o):=by
 refine h.rooted (by have:=h.lo;omega) (λj g hm=>?_) (λj g hm=>?_) (λj g hm=>?_) λj k g g' hj hk e=>?_
 .rcases iL hm with⟨rfl,rfl⟩|⟨_,h1,_⟩
  .exact hrec
  .exact h.recs j g h1
 .rcases iL hm with⟨rfl,rfl⟩|⟨_,h1,_⟩
  .exact hi
  .exact h.lt j g h1
 .rcases iL hm with⟨rfl,rfl⟩|⟨_,h1,_⟩
  .exact hg
  .exact h.good j g h1
 .rcases iL hj with⟨rfl,rfl⟩|⟨_,h1,h2⟩
  .rcases iL hk with⟨rfl,rfl⟩|⟨_,h3,h4⟩
   .rfl
   .have:=ho k g' h3 e.symm
    have:=h4 (by omega);omega
  .rcases iL hk with⟨rfl,rfl⟩|⟨_,h3,h4⟩
   .have:=ho j g h1 e
    have:=h2 (by omega);omega
   .exact h.inj j k g g' h1 h3 e
end
def half (r:List η)(k:Nat):List η:=(r.drop (k*64)).take 64
theorem Ed (r:List η)(h:r.length=128)(k:Nat)(hk:k<2):(half r k).length=64:=by
 unfold half;rw[ac6,List.length_drop];omega
theorem halves (r:List η)(h:r.length=128):half r 0++half r 1=r:=by
 unfold half;simp only[Nat.zero_mul,List.drop_zero,Nat.one_mul];rw[θ (l:=r.drop 64) (by rw[List.length_drop];omega),List.take_append_drop]
def Fz (L:List η)(i:Nat)(r:List η):List η:=bF (bF L ((1+2*i:Nat),half r 0)) ((2+2*i:Nat),half r 1)
section
variable (L:List η)(a k kp:Int)(n s:Nat)(p c:Ξ)(i:Nat)(o:Int)(root r:List η)
theorem Mk (hr:cF s p.data.toList c.data.toList=r)
  (hfi:dZ ⟨L,[],a,false,k,kp,false⟩ n=i) (hsl:cK ⟨L,[],a,false,k,kp,false⟩ s p (taken ⟨L,[],a,false,k,kp,false⟩ n)=o) (hroot:seenIn (Fz L i r) [] 0=root):
  (⟨L,[],a,false,k,kp,false⟩:DS).put n s p c=(⟨bF (Fz L i r) (0,aX root i o),[],a+5,false,k,kp,false⟩,.int .i64 0):=by
 have e:bF (bF L ((1+2*i:Nat),List.take 64 r)) ((2+2*i:Nat),List.take 64 (List.drop 64 r))=Fz L i r:=by simp[Fz,half]
 unfold DS.put;rw[hfi,hsl,hr,ζ (by omega)];simp[DS.j8,DS.oh,DS.wr,DS.write,DS.bk,DS.ia,DS.flush,DS.mark,DS.jC,cN,jA,DS.read];rw[show 1+2*(i:Int)=((1+2*i:Nat):Int) by omega,show((1+2*i:Nat):Int)+1=((2+2*i:Nat):Int) by omega,e,hroot];simp;omega
theorem Du (x:DS)(hsl:cK x s p (taken x n)=-1):x.remove n s p=(x,.int .i64 5):=by
 unfold DS.remove;rw[ξ hsl]
theorem Dw (hsl:cK ⟨L,[],a,false,k,kp,false⟩ s p (taken ⟨L,[],a,false,k,kp,false⟩ n)=o)(ho:o≠-1)(hroot:seenIn L [] 0=root):
  (⟨L,[],a,false,k,kp,false⟩:DS).remove n s p=(⟨bF L (0,aX root (-1) o),[],a+2,false,k,kp,false⟩,.int .i64 0):=by
 unfold DS.remove;rw[hsl,ζ ho];simp[DS.write,DS.bk,DS.ia,DS.flush,DS.mark,DS.jC,cN,jA,DS.read,hroot];omega
end
end
section
open Go.RowKit Go.Lib
def cellOf (r:Option (List η)):List η:=match r with
 |none=>[]
 |some c=>43::c
def DS.at (x:DS)(n q:Nat):Option (List η):=x.content n ((q/7:Nat):Int) (dR (q%7))
def nj (c:Nat->Option (List η))(q:Nat):List (List η):=(List.range 21).map λi=>if i<q then cellOf (c i) else []
def DS.state (x:DS)(n:Nat):List (List η):=nj (x.at n) 21
theorem fA (c:Nat->Option (List η))(q:Nat):(nj c q).length=21:=by simp[nj]
theorem I4 (c:Nat->Option (List η))(q:Nat)(h:c q=none):nj c (q+1)=nj c q:=by
 unfold nj
 apply List.map_congr_left
 intro i _
 by_cases h1:i<q
 .rw[ξ h1,ξ (by omega)]
 .by_cases h2:i=q
  .subst h2
   rw[ξ (by omega),ζ h1,h];rfl
  .rw[ζ h1,ζ (by omega)]
theorem I3 (c:Nat->Option (List η))(q:Nat)(t:List η)(h:c q=some t):dr (nj c (q+1))=(dr (nj c q)).setIfInBounds q (.string (aB (43::t))):=by
 apply Array.ext_getElem?
 intro i;rw[Array.getElem?_setIfInBounds,cX,fA]
 by_cases h1:i<21
 .rw[rS _ i (by rw[fA];exact h1),rS _ i (by rw[fA];exact h1)]
  by_cases h2:q=i
  .subst h2
   rw[ξ rfl,ξ h1];simp[nj,h,cellOf]
  .rw[ζ h2]
   by_cases h3:i<q
   .simp[nj,h3,show i<q+1 by omega]
   .simp[nj,h3,show ¬i<q+1 by omega]
 .rw[Array.getElem?_eq_none (by rw[cX,fA];omega),Array.getElem?_eq_none (by rw[cX,fA];omega)]
  by_cases h2:q=i
  .rw[ξ h2,ζ (by omega)]
  .rw[ζ h2]
def EY:Φ:= .agg (dr (List.replicate 21 []))
theorem jq:(Tryz.prog.info? 33).map (·.zero)=some (some EY):=by kernel_rfl
def jh (x:DS)(n s p:Nat):Nat:=((List.range p).filter λk=>(x.content n s (dR k)).isSome).length
theorem B5 (x:DS)(n s p:Nat):jh x n s (p+1)=jh x n s p+if(x.content n s (dR p)).isSome then 1 else 0:=by
 unfold jh;rw[List.range_succ,List.filter_append,af5];cases h:(x.content n s (dR p)).isSome<;>simp[h]
theorem GB (x:DS)(n s p:Nat):jh x n s p<=p:=by
 unfold jh;exact ae6 (List.length_filter_le _ _) (by simp)
theorem DH (c n:Nat)(h:c<n):br c n=c:=by
 unfold br;rw[ζ (by omega),Int.emod_eq_of_lt (by omega) (by omega)];rfl
theorem Ey {x:DS}{n:Nat}{s:Int}{p:Ξ}{t:List η}(h:x.content n s p=some t):(aB t).size<=96:=by
 unfold DS.content at h;split at h
 .cases h
  exact oZ _
 .cases h
theorem aP.wu {w w':Θ}{S F:List Nat}{s d n:Nat}{x:DS}(h:aP w F s d n x)(f:aQ S w w')(h1:s∉S)(h2:∀k∈S,k∉F):aP w' F s d n x:=⟨f.row h.row h1,h.disk.wu f h2,h.ne⟩
theorem Mp (t:List η):(⟨#[43]⟩:Ξ)++aB t=aB (43::t):=by
 apply ByteArray.ext
 rw[ByteArray.data_append];simp[aB]
section
variable {P:χ}{ops:Array Oper}{Q:Exit->Act->Θ->Prop}{a:Act}{w:Θ}{rest:List Oper}{o:Oper}
theorem IP (hg:o.guard=none)(t:Γ)(x y:aa9)(ho:o.op= .store t x y)(b off:Nat)(hx:a.eval x= .pointer (some ⟨b,off,none⟩))
  (v:Ξ) (hy:a.eval y= .string v) (hi:(P.info? t).map (·.size)=some 1)
  (c:Array Φ) (u:Γ) (hr:Row w b c u) (hfit:off<c.size)
  (h:∀w1:Θ,aQ [b] w w1->Row w1 b (c.setIfInBounds off (.string v)) u->wpList P ops Q rest (a.put o.dst undef) w1):wpList P ops Q (o::rest) a w:=by
 refine vU hg (w.setCell ⟨b,off,none⟩ (.string v)) ?_ (h _ (aQ.setCell _ _ _ _) (hr.setCell _ _));have hc:=hr.cell off;have hf:=hr.thaw off;have hs:c[off]? =some c[off]:=by simp[hfit]
 rw[hs] at hc;have hst:(store ((⟨b,off,none⟩:Addr).add 0) (.string v)).run P w= .ok () (w.setCell ⟨b,off,none⟩ (.string v)):=by
  rw[Addr.add_mid,Nat.add_zero,run_store P w _ _ _ rfl,hc];simp[hf]
 cases hq:P.info? t with
 |none=>simp[hq] at hi
 |some i=>
  have h1:i.size=1:=by simpa [hq] using hi
  simp[execOp,ho,hx,hy,Instr.storeAt,Instr.sureAddr,storeVar,sizeOf,typeInfo,hq,h1,Value.cells,storeCells,hst]
theorem Mc {fn:Func}{R:Ending->Θ->Prop}{tp tq:Tmp}{ty:Γ}(hf:fn.results=#[.cell tp ty,.tmp tq])(b:Nat)(hp:a.tmps.getD tp undef= .pointer (some ⟨b,0,none⟩))(hd:a.defers=[])
  (c:Array Φ) (u:Γ) (hr:Row w b c u) (hu:(P.underlying ty).map TypeDesc.isRow=some true) (hi:(P.info? ty).map (·.size)=some c.size) (v:Φ) (hv:a.tmps.getD tq undef=v) (h:R (.returned (.tuple #[.agg c,v])) w):bodyPost P fn R .ret a w:=by
 obtain⟨d,hu',hd'⟩:=φ.1 hu;have hl:=run_loadVar_row (P:=P) w b u ty c (0,0) d hr hu' (by revert hd' hu';cases d<;>intro x y<;>first|rfl|cases y) hi;refine bodyPost_ret ?_ hd h;rw[results_cell_tmp hf,hp,hv];simp[asAddr,hl]
end
theorem LL (F:List Nat)(s d n:Nat)(x:DS)(w:Θ)(h:aP w F s d n x)(hf:x.failed=false)(hw:x.waiting=[])(hcnt:∀side,side<3->(bN (aM x n) side).length=jh x n side 7):
  Calls Tryz.prog 15 #[.pointer (some ⟨s,0,none⟩)] w λe w'=>e= .returned (.tuple #[.agg (dr (x.state n)),.bool true])/\aQ [] w w':=by
 go_enter Tryz.func15,Tryz.ntmps15;go_wp2_with (with_reducible first|refine ay rfl ?_);refine aj.go (aY rfl 33 rfl EY jq ?_);intro w1 b2 l2 f1 r2;go_wp2_with (with_reducible first|refine ay rfl ?_);refine aj.go (aY rfl 33 rfl EY jq ?_);intro w2 b4 l4 f2 r4;have q2:Row w2 b2 (dr (List.replicate 21 [])) 33:=f2.row r2
 have q4:Row w2 b4 (dr (nj (x.at n) 0)) 33:=r4;have hne:b2≠b4:=by have:=r2.lt;omega
 have fw:=f1.trans f2;have h2:=h.new fw;have hb4:w.heap.size<=b4:=by have:=f1.size;omega
 have ads:s≠b4/\b4∉F:=⟨by have:=h.row.lt;omega,λhF=>by have:=h.disk.lt b4 hF;omega⟩
 clear r2 r4 f1 f2 h l4;go_wp2_with fail
 go_loopw [5] (λi wr=>∃k:Nat,i= .int .i64 k/\k<=3/\aQ [] w wr/\Row wr b2 (dr (List.replicate 21 [])) 33/\Row wr b4 (dr (nj (x.at n) (7*k))) 33/\aP wr F s d n x) (λi _=>3-(intOf i).toNat)
 case atStart=>exact⟨0,rfl,by omega,fw,q2,q4,h2⟩
 case round=>
  obtain⟨k,rfl,hk,fk,k2,k4,hst⟩:=hrel;clear fw q2 q4 h2
  by_cases hlt:k<3
  .go_wp2_with fail
   refine(MW F s d n x k wr hst (by omega)).mono ?_;rintro e w3 ⟨⟨ad,cap,rfl⟩,f3⟩;have acV:=hst.new f3;have K4:=fk.trans f3;have k23:=f3.row k2;have k43:=f3.row k4;have hcn:=hcnt k hlt;rw[hf];generalize hLN:(bN (aM x n) k).length=ln at hcn⊢;have HCN:Hid (jh x n k 7=ln):=hcn.symm;clear hLN f3 fk k2 k4 hst hcn hcnt
   simp only[τ,if_false];go_wp2_with fail;rw[show decide ((k:Int)<3)=true from decide_eq_true (by omega)]
   go_loopw [8,9] (λc i w1=>∃p:Nat,i= .int .i64 p/\p<=7/\c= .int .i64 (jh x n k p)/\aQ [] w w1/\Row w1 b2 (dr (List.replicate 21 [])) 33/\Row w1 b4 (dr (nj (x.at n) (7*k+p))) 33/\aP w1 F s d n x) (λ_ i _=>7-(intOf i).toNat)
   case atStart=>exact⟨0,rfl,by omega,rfl,K4,k23,k43,acV⟩
   case round=>
    obtain⟨p,rfl,hp,rfl,fp,p2,p4,hsp⟩:=hrel;clear K4 k23 k43 acV
    by_cases hlt2:p<7
    .have hcs:=B5 x n k p
     have hcl:=GB x n k p;have hpo:=xH p hlt2;have hpk:br p 7=p:=DH p 7 hlt2;have hat:x.at n (7*k+p)=x.content n k (dR p):=by
      unfold DS.at
      rw[show(7*k+p)/7=k by omega,show(7*k+p)%7=p by omega]
     have hget:x.get n k (dR p)=match x.content n k (dR p) with|none=>((.string ⟨#[]⟩,5):Φ×Int)|some c=>(.string (aB c),0):=by
      unfold DS.get;rw[hf];rfl
     have HCS:Hid (jh x n k (p+1)=jh x n k p+if(x.content n k (dR p)).isSome then 1 else 0):=hcs;generalize jh x n k p=cn at hcl HCS;clear hcs;go_wp2_with fail;refine(xG p wr (by omega) (by omega)).mono ?_;rintro e w4 ⟨rfl,rfl⟩;rw[hpk];go_wp2_with fail;refine(Im F s d n x k (dR p) w4 hsp (by omega) hpo.1 (by omega)).mono ?_;rintro e w5 ⟨rfl,f5⟩;have hs5:=hsp.new f5
     have fp5:=fp.trans f5;have p25:=f5.row p2;have p45:=f5.row p4;rw[hget];clear hget f5 fp p2 p4 hsp hpk;cases hc:x.content n k (dR p) with
     |none=>
      rw[hc] at hat HCS;have e1:=I4 (x.at n) (7*k+p) hat;rw[<-e1] at p45;go_wp2_with fail
      go_roundw
      case rel=>exact⟨p+1,by go_num,by omega,by rw[HCS.out];rfl,fp5,p25,p45,hs5⟩
      case measure=>simp[intOf];omega
     |some t=>
      rw[hc] at hat HCS;have HE:Hid (dr (nj (x.at n) (7*k+p+1))=(dr (nj (x.at n) (7*k+p))).setIfInBounds (7*k+p) (.string (aB (43::t)))):=I3 (x.at n) (7*k+p) t hat;have hpl:=Mp t;have hsz:(aB t).size<=96:=Ey hc;go_wp2_with (with_reducible first|refine ah 9 rfl ?_)
      refine aj.go (IP rfl 9 _ _ rfl b4 (k*7+p) rfl (aB (43::t)) rfl vi _ _ p45 (by rw[cX,fA];omega) ?_);intro w6 f6 q6;have fp6:=fp5.trans f6 (by simpa using hb4);have p26:=f6.row p25 (by simpa using hne);rw[show k*7+p=7*k+p by omega,<-HE.out] at q6;have hs6:aP w6 F s d n x:=hs5.wu f6 (by simpa using ads.1) (by simpa using ads.2)
      clear p25 p45 fp5 hs5 f6 hpl hsz;go_wp2_with fail
      go_roundw
      case rel=>exact⟨p+1,by go_num,by omega,by rw[HCS.out];rfl,fp6,p26,q6,hs6⟩
      case measure=>simp[intOf];omega
    .obtain rfl:p=7:=by omega
     rw[HCN.out];go_wp2_with fail
     go_roundw
     case rel=>exact⟨k+1,by go_num,by omega,fp,p2,by rw[show 7*(k+1)=7*k+7 by omega];exact p4,hsp⟩
     case measure=>simp[intOf];omega
  .obtain rfl:k=3:=by omega
   go_wp2_with (with_reducible first|refine av 33 rfl ?_|refine ah 33 rfl ?_);have ahP:((dr (nj (x.at n) (7*3))).toList.drop 0).take 21=(dr (nj (x.at n) (7*3))).toList:=by rw[List.drop_zero];exact θ (by rw[ae8,cX,fA];omega)
   refine aj.go (bM rfl 33 _ rfl b4 0 rfl kK 21 nF _ _ k4 _ ahP (by rw[ae8,cX,fA]) ?_);go_wp2_with (with_reducible first|refine ah 33 rfl ?_);refine aj.go (bG rfl 33 _ _ rfl _ 0 rfl _ rfl 21 nF ?_ ?_ _ _ k2 ?_ ?_)
   .rw[aa8,ae8,cX,fA]
   .simp[dr,Value.oneCell']
   .rw[cX];decide
   intro w6 f6 q6;rw[bu _ _ (by simp only[ae8,cX,fA,ah7])] at q6;simp only[Array.toArray_toList] at q6;have zG:=fk.trans f6 (by simpa using l2);clear k2 k4 hst f6;go_wp2_with fail;exact Mc rfl b2 rfl rfl _ _ q6 kK (by rw[cX,fA];exact nF) _ rfl ⟨rfl,zG⟩
theorem yp {P:χ}{w:Θ}{o:Oper}{ρ:aa9->Φ}(src dst e:Γ)(x:aa9)(ho:o.op= .convert src dst x)(hs:P.underlying src=some (.slice e))(he:P.underlying e=some (.int .u8))(hd:P.underlying dst=some .string)
  (b n c:Nat) (hx:ρ x= .slice (some ⟨b,0,none⟩) n c) (l:List η) (hn:l.length=n) (hc:∀j,(hj:j<l.length)->w.cell? ⟨b,j,none⟩=some (.int .u8 (l[j].toNat:Int))):
  (execOp ρ o).run P w= .ok (.value (.string (aB l))) w:=by
 subst hn;have:=run_convert_bytes_back (P:=P) w src dst e ⟨b,0,none⟩ c l hs he hd (λj hj=>by
  rw[Addr.add_mid,Nat.zero_add];exact hc j hj)
 simp only[execOp,ho,hx,Sem.run_bind,this];rfl
theorem GD (F:List Nat)(s d n:Nat)(x:DS)(w:Θ)(h:aP w F s d n x)(hok:(DS.fresh x.aI).lI n=true)(hnp:(DS.fresh x.aI).pending n=false):
  Calls Tryz.prog 16 #[.pointer (some ⟨s,0,none⟩)] w λe w'=>∃s' d' F',e= .returned (.pointer (some ⟨s',0,none⟩))/\aP w' F' s' d' n (DS.fresh x.aI)/\aQ [] w w'/\bV [] F' w/\w.heap.size<=s':=by
 obtain⟨bl,vw,hd⟩:=h.pz;have hlo:=hd.lo;have hhi:=hd.hi;have hlen:=hd.len;go_enter Tryz.func16,Tryz.ntmps16;go_wp2_with (with_reducible first|refine kx rfl ?_);refine(xj F s d n x w h).mono ?_;rintro e w1 ⟨rfl,f1⟩;generalize hl:x.aI=l at*;have HLX:Hid (x.aI=l):=hl;clear hl;go_wp2_with (with_reducible first|refine kx rfl ?_)
 refine aj.go (CA rfl 9 85 5 _ rfl Tryz.underlying9 Tryz.underlying85 Tryz.underlying5 ⟨l.toArray⟩ rfl ?_);intro w2 b cap lb f2 hcell;have hsz:(⟨l.toArray⟩:Ξ).size=l.length:=by show l.toArray.size=_;simp
 have hcl:∀j,(hj:j<l.length)->w2.cell? ⟨b,j,none⟩=some (.int .u8 (l[j].toNat:Int)):=λj hj=>by
  have:=hcell j (by simpa using hj);simpa using this
 have HC:Hid (∀j,(hj:j<l.length)->w2.cell? ⟨b,j,none⟩=some (.int .u8 (l[j].toNat:Int))):=hcl;have fw2:=f1.trans f2;rw[hsz];clear hcell hcl f1 f2 h hd;go_wp2_with (with_reducible first|refine kx rfl ?_);refine aj.go (cH rfl (.string (aB l)) w2 (yp 85 9 5 _ rfl Tryz.underlying85 Tryz.underlying5 Tryz.underlying9 b (64*n) cap rfl l hlen HC.out) ?_)
 go_wp2_with fail;refine(MD (aB l) n w2 (by rw[eD,hlen]) hlo hhi hok hnp).mono ?_;rintro e w3 ⟨s',d',F',rfl,hs',f3,g3,l3⟩;have yg:=fw2.trans f3;have hsz2:=fw2.size;have gw:bV [] F' w:=λi hi=>(g3 i hi).imp id (λh=>by omega)
 have hs2:aP w3 F' s' d' n (DS.fresh l):=hs';clear f3 fw2 hs' g3;go_wp2_with fail
 all_goals
  go_ret;exact⟨s',d',F',rfl,by rw[HLX.out];exact hs2,yg,gw,by omega⟩
theorem ET {P:χ}{ops:Array Oper}{Q:Exit->Act->Θ->Prop}{n m:Nat}{l:List Nat}{a:Act}{w:Θ}(i j k:Nat)(hr:Region.ready .any ops (marks n l)=[i,j,k])(hi:i<n)(hj:j<n)(hk:k<n)(h1:Step P ops Q n m l i a w)(h2:Step P ops Q n m l j a w)(h3:Step P ops Q n m l k a w):yZ P ops Q n (m+1) l a w:=
 G3 [i,j,k] (by simp) hr (by simp[hi,hj,hk]) (by simp[h1,h2,h3])
theorem zO (s:Ξ):(di s).size<=96:=by
 unfold di;split
 .rw[ByteArray.size_extract];omega
 .omega
def dH (k sd pt:Int)(ct:Ξ):Array Φ:=#[.int .i64 k,.int .i64 sd,.int .i64 pt,.string ct]
def DS.act (x:DS)(n:Nat)(k sd pt:Int)(ct:Ξ):DS×Φ:=
 if br k 4=2 then x.gO n (br sd 2) (dR (br pt 7)) else x.qS n (br sd 2) (dR (br pt 7)) (di ct)
end
section
open Go.RowKit Go.Lib Go.Sort
theorem EA (c:Ξ):(di c).data.toList.length<=96:=by
 unfold di;split
 .have:(c.extract 0 96).size<=96:=by rw[ByteArray.size_extract];omega
  simpa using this
 .have:c.size<=96:=by omega
  simpa using this
theorem FJ (k:Nat)(hk:k<7)(s:Nat)(hs:s<=2):dU s (io k)=true:=by
 unfold dU;rw[ξ (by omega)];exact(xH k hk).1
theorem JA (k:Nat)(hk:k<7):io k∈P7:=BE.2 ⟨k,hk,rfl⟩
theorem Eg (x:DS)(n:Nat)(h:x.waiting=[]):dZ x n=d6 (kC x.aI 0) (aJ n) (aJ n) 0:=by
 unfold dZ;rw[pS x h]
section
variable {L:List η}{n:Nat}{m:dN}
theorem owner (h:mm L n m)(s:Nat)(p:List η):∃o:Int,(∀x:DS,x.aI=L->x.waiting=[]->cK x s (aB p) (taken x n)=o)/\-1<=o/\o<54/\(∀j g,m j=some g->nameOf g=(s,p)->o=j)/\(o≠-1->∃g,m o.toNat=some g/\nameOf g=(s,p)):=by
 by_cases hx:∃j g,m j=some g/\nameOf g=(s,p)
 .obtain⟨j,g,hg,e⟩:=hx
  have hlt:=h.lt j g hg;have:=pV n;have e':=e;unfold nameOf at e';simp only[af4] at e';refine⟨j,λx hl hw=>?_,by omega,by omega,λk g' hk ek=>?_,λ_=>⟨g,by simpa using hg,e⟩⟩
  .subst hl
   have:=Dq h hw hg;rw[e'.1,e'.2] at this;exact this
  .rw[h.inj k j g' g hk hg (ek.trans e.symm)]
 .refine⟨-1,λx hl hw=>?_,by omega,by omega,λj g hg e=>absurd ⟨j,g,hg,e⟩ hx,λh=>absurd rfl h⟩
  subst hl;exact qX h hw s p λj g hg e=>hx ⟨j,g,hg,e⟩
end
theorem Js (n:Nat)(h:16<=n):mm (fv n) n λ_=>none where
 len:=by unfold fv;rw[af5,jM,ah7];omega
 lo:=h
 root:=by
  unfold fv kC;rw[Nat.mul_zero,List.drop_zero,List.take_append_of_le_length (by rw[jM];omega),θ (by rw[jM];omega)];have:=xp n (λ_=>none) 0 (by simp);rw[<-this];rfl
 recs:=λi f hm=>by cases hm
 lt:=λi f hm=>by cases hm
 good:=λi f hm=>by cases hm
 inj:=λi j f g hm=>by cases hm
end
section
open Go.RowKit Go.Lib
theorem aQ.cell {S:List Nat}{w w':Θ}(h:aQ S w w'){a:Addr}{v:Φ}(hc:w.cell? a=some v)(ha:a.block∉S):w'.cell? a=some v:=by
 unfold World.cell? at hc⊢;cases hb:w.heap[a.block]? with
 |none=>rw[hb] at hc;cases hc
 |some o=>
  rw[h.block a.block (Ψ.1 hb).1 ha,hb];rw[hb] at hc;exact hc
structure ql where
 kind:Int
 side:Int
 path:Int
 content:Ξ
def ym (x:Int):Prop:=-9223372036854775808<=x/\x<=9223372036854775807
def ql.Ok (a:ql):Prop:=ym a.kind/\ym a.side/\ym a.path
def ql.cells (a:ql):Array Φ:=dH a.kind a.side a.path a.content
def O8 (w:Θ)(ad:Option Addr)(l:List ql):Prop:=∀j,(hj:j<l.length)->(l[j]).Ok/\∃b off,ad=some ⟨b,off,none⟩/\w.rangeAt b (off+j*4) (l[j]).cells.toList
theorem ir:(Tryz.prog.info? 24).map (·.size)=some 4:=by kernel_rfl
def DS.calm (L:List η)(a:Int):DS:=⟨L,[],a,false,0,0,false⟩
theorem ly (L:List η)(a:Int)(r:Nat)(h0:0<=a)(h1:a+r<=1000000000:=by omega):(DS.calm L a).Fit r:=⟨h0,h1,by show(0:Int)<=0;omega,by show(0:Int)<=_;omega⟩
def yn:Ξ:=⟨#[102,105,114,115,116]⟩
section
variable {P:χ}{ops:Array Oper}{Q:Exit->Act->Θ->Prop}{a:Act}{w:Θ}{rest:List Oper}{o:Oper}
theorem Ld (hg:o.guard=none)(t:Γ)(x:aa9)(ho:o.op= .load t x)(b off:Nat)(hx:a.eval x= .pointer (some ⟨b,off,none⟩))
  (hu:(P.underlying t).map TypeDesc.isRow=some true) (vs:Array Φ) (hi:(P.info? t).map (·.size)=some vs.size) (hr:w.rangeAt b off vs.toList)
  (h:wpList P ops Q rest (a.put o.dst (.agg vs)) w):wpList P ops Q (o::rest) a w:=by
 obtain⟨d,hu',hd⟩:=φ.1 hu;exact wpList_load_mid hg t x ho b off hx vs.toList d hr hu' hd (by rw[hi,ae8]) h
end
theorem Row.range {w:Θ}{b:Nat}{c:Array Φ}{t:Γ}(h:Row w b c t):w.rangeAt b 0 c.toList:=λj v hj=>by
 rw[Nat.zero_add,h.cell,<-ag2];exact hj
section
variable {P:χ}{ops:Array Oper}{Q:Exit->Act->Θ->Prop}{a:Act}{w:Θ}{rest:List Oper}{o:Oper}
theorem rL (hg:o.guard=none)(t:Γ)(x:aa9)(ho:o.op= .load t x)(b:Nat)(hx:a.eval x= .pointer (some ⟨b,0,none⟩))
  (hu:(P.underlying t).map TypeDesc.isRow=some true) (c:Array Φ) (u:Γ) (hr:Row w b c u) (hi:(P.info? t).map (·.size)=some c.size)
  (h:wpList P ops Q rest (a.put o.dst (.agg c)) w):wpList P ops Q (o::rest) a w:=
 Ld hg t x ho b 0 hx hu c hi hr.range h
theorem gC (hg:o.guard=none)(t:Γ)(x y:aa9)(ho:o.op= .store t x y)(b:Nat)(hx:a.eval x= .pointer (some ⟨b,0,none⟩))
  (cells:Array Φ) (hy:a.eval y= .agg cells) (hi:(P.info? t).map (·.size)=some cells.size) (h1:∀v∈cells.toList,v.oneCell'=true)
  (c:Array Φ) (u:Γ) (hr:Row w b c u) (hc:c.size=cells.size)
  (h:∀w1:Θ,aQ [b] w w1->Row w1 b cells u->wpList P ops Q rest (a.put o.dst undef) w1):wpList P ops Q (o::rest) a w:=by
 refine bG hg t x y ho b 0 hx cells hy cells.size hi rfl h1 c u hr (by omega) λw1 f1 r1=>h w1 f1 ?_
 rw[bu _ _ (by rw[hc,ae8]),Array.toArray_toList] at r1;exact r1
end
theorem rR (l:List (List η)):∀v∈(dr l).toList,v.oneCell'=true:=by simp[dr,Value.oneCell']
theorem LK (F:List Nat)(s d n:Nat)(x:DS)(m:dN)(w:Θ)(h:aP w F s d n x)(hf:x.failed=false)(hw:x.waiting=[])(hr:mm x.aI n m)(h7:Seven m):
  Calls Tryz.prog 15 #[.pointer (some ⟨s,0,none⟩)] w λe w'=>e= .returned (.tuple #[.agg (dr (x.state n)),.bool true])/\aQ [] w w':=
 LL F s d n x w h hf hw λside _=>Fo hr hw h7 side
theorem GC (F:List Nat)(s d n:Nat)(x:DS)(m:dN)(w:Θ)(h:aP w F s d n x)(hr:mm x.aI n m)(h7:Seven m):
  Calls Tryz.prog 16 #[.pointer (some ⟨s,0,none⟩)] w λe w'=>∃s' d' F',e= .returned (.pointer (some ⟨s',0,none⟩))/\aP w' F' s' d' n (DS.fresh x.aI)/\aQ [] w w'/\bV [] F' w/\w.heap.size<=s':=
 GD F s d n x w h (Dp (x:=DS.fresh x.aI) hr rfl h7) (lR (x:=DS.fresh x.aI) hr rfl h7)
end
section
open Go.RowKit Go.Lib Go.Sort
open Go.Conc (base G)
def qk (w:Θ):Prop:=∃c t f,w.heap[0]? =some (.cells c t f)/\∀v∈c,∀r,¬Value.Has r v
theorem qk.blk {S:List Nat}{w w':Θ}(h:qk w)(f:d8 S w w')(h0:0∉S):qk w':=by
 obtain⟨c,t,fz,h1,h2⟩:=h;exact⟨c,t,fz,(f.block 0 (Ψ.1 h1).1 h0).trans h1,h2⟩
theorem bV.zero {F F':List Nat}{w:Θ}(g:bV F F' w)(hg:qk w)(h:0∉F):0∉F':=λh0=>by
 obtain⟨c,t,fz,h1,h2⟩:=hg;have:=(Ψ.1 h1).1;rcases g 0 h0 with q|q
 .exact h q
 .omega
theorem aP.az {w:Θ}{F:List Nat}{s d n:Nat}{x:DS}(h:aP w F s d n x)(t:Go.Proofs.YtchcmhodnkgojaaGreat.d7)(k:Nat):aP (az w t k) F s d n x:=by
 obtain⟨h1,⟨bl,vw,⟨a1,a2,a3,a4,a5,a6,a7,a8,a9,a10,a11,a12,a13⟩,hF⟩,h3⟩:=h;exact⟨h1,⟨bl,vw,⟨a1,a2,a3,a4,a5,a6,a7,a8,a9,a10,a11,a12,a13⟩,hF⟩,h3⟩
theorem bp.blk {w w':Θ}{S:List Nat}{d bl n:Nat}{vw:Φ}{x:DS}(h:bp w d bl n vw x)(f:d8 S w w')(h1:d∉S)(h2:bl∉S)(h3:∀k∈S,vw.ownBlock≠some k):bp w' d bl n vw x:=
 {h with row:=(f.block d h.row.lt h1).trans h.row,last:=(f.block bl h.last.lt h2).trans h.last,own:=World.ownsRow.ail h.own f λg hg hS=>h3 g hS hg}
theorem aP.blk {w w':Θ}{F S:List Nat}{s d n:Nat}{x:DS}(h:aP w F s d n x)(f:d8 S w w')(h1:s∉S)(h2:∀k∈S,k∉F):aP w' F s d n x:=by
 obtain⟨bl,vw,hd,rfl⟩:=h.disk;exact⟨(f.block s h.row.lt h1).trans h.row,⟨bl,vw,hd.blk f (λe=>h2 _ e (by simp)) (λe=>h2 _ e (by simp)) (λk hk e=>h2 k hk (by simp[e])),rfl⟩,h.ne⟩
theorem aP.rd {w:Θ}{F:List Nat}{s d n:Nat}{x:DS}(h:aP w F s d n x)(hg:qk w)(hw:x.waiting=[]):∃bl,aG.fM d bl n x w:=by
 obtain⟨bl,vw,hd,rfl⟩:=h.disk;have:=hd.nil hw;subst this;exact⟨bl,⟨⟨_,hd.row⟩,⟨_,hd.last⟩,hg,hd.len,hd.lo,hd.hi,hw⟩⟩
def tE (x:DS)(n:Nat)(ps:List (List η)):Prop:=ps.Pairwise (·<=·)/\ps.Nodup/\∀l,l∈ps↔aG.comb (ii x n 0 (aB l)) (ii x n 1 (aB l))≠none
theorem z7 {ps:List (List η)}(h:ps.Pairwise (·<=·))(hn:ps.Nodup):ps.Pairwise (·<·):=
 (h.and hn).imp fun {a b} hab=>by
  rcases List.le_iff_lt_or_eq.1 hab.1 with q|q
  .exact q
  .exact absurd q hab.2
theorem zh (fa fb:aG.iQ){ps:List (List η)}(h:ps.Pairwise (·<·)):(iF fa fb ps).Pairwise λp q=>p.1<q.1:=by
 unfold iF;refine List.Pairwise.filterMap _ (λa b hab p hp q hq=>?_) h;obtain⟨_,_,rfl⟩:=φ.1 hp;obtain⟨_,_,rfl⟩:=φ.1 hq;exact hab
def eL (x:DS)(n:Nat)(ps:List (List η)):List (List η×Nat):=iF (ii x n 0) (ii x n 1) ps
def ma (x:DS)(n:Nat)(ps:List (List η)):List (List η):=jF (ii x n 0) (ii x n 1) ps
theorem fj:(Tryz.prog.info? 58).map (·.size)=some 2:=by kernel_rfl
def gB:Φ:= .agg #[.int .i64 0,.slice none 0 0]
theorem oy:(Tryz.prog.info? 58).map (·.zero)=some (some gB):=by kernel_rfl
theorem nz {fn:Func}{tp tq:Tmp}{ty:Γ}(hf:fn.results=#[.cell tp ty,.tmp tq])(tmps:Array Φ)(w:Θ)(b:Nat)(c:Array Φ)(u:Γ)(hp:tmps.getD tp undef= .pointer (some ⟨b,0,none⟩))
  (hr:Row w b c u) (hu:(Tryz.prog.underlying ty).map (λd=>match d with|.struct _|.array _ _=>true|_=>false)=some true) (hi:(Tryz.prog.info? ty).map (·.size)=some c.size):(results fn tmps).run Tryz.prog w= .ok (.tuple #[.agg c,tmps.getD tq undef]) w:=by
 obtain⟨d,hu',hd'⟩:=φ.1 hu;have hp':tmps[tp]?.getD undef= .pointer (some ⟨b,0,none⟩):=by simpa using hp
 have hl:=run_loadVar_row w b u ty c (0,0) d hr hu' (by revert hd' hu';cases d<;>intro x y<;>first|rfl|cases y) hi;simp[results,hf,hp',asAddr,hl]
theorem aew {E:ai.Env}{f:ab9}{k:List Item}{R:Act->Θ->Prop}{a:Act}{wL:Θ}{ops:Array Oper}{i:Nat}{rest:List Nat}{o:Oper}(t:Γ)(x:aa9)(ho:ops[i]? =some o)(hop:o.op= .load t x)(tG:mF ai.PP S0 E0 true o=true)(hg:o.guard=none)
  (ha:(Tryz.prog.underlying t).map (λd=>match d with|.struct _|.array _ _=>true|_=>false)=some false) (b:Addr) (hx:a.eval x= .pointer (some b)) (v:Φ) (hc:wL.cell? b=some v)
  (h:ai.CI E f (.inRegion ops rest::k) R (a.put o.dst v) wL):ai.CI E f (.inRegion ops (i::rest)::k) R a wL:=by
 refine aG.Sq.nP (w1:=wL) v ho hg (λt' d=>?_) h (tG:=tG);have hc':(az wL t' d).cell? b=some v:=hc;have h1:aG.RT (ku.load t (.pointer (some b))).sem (az wL t' d) (.value v) (az wL t' d) #[⟨.cell b,false,false⟩]:=by
  refine aG.RT.eJ (x:=v) ?_ (.pure _);show aG.RT (do if<-isAgg t then Pure.pure (.agg (<-loadCells b (<-Go.sizeOf t))) else load b) _ _ _ _;refine(aG.gn ha).aR ?_;simp only[τ,if_false];exact aG.jK hc'
 have:=h1.run;unfold execOp;rw[hop];show(do pure (.value (<-Instr.loadAt t (a.eval x))):Sem Next).run _ _=_;rw[hx];exact this
theorem Sm {E:ai.Env}{f:ab9}{k:List Item}{R:Act->Θ->Prop}{a:Act}{wL:Θ}{ops:Array Oper}{l:List Nat}(m:Nat)(hl:l=List.range' m (ops.toList.drop m).length)(h0:∃fn,ai.PP.funcs[f]? =some fn)(Cq:BA ai.PP S0 E0 true (.inRegion ops l)=true)
  (I:Θ->Prop) (hb:∀w t d,I w->I (az w t d)) (hI:I wL) (hwp:∀w,I w->w.heap.size=wL.heap.size->wpList ai.PP ops (ai.after E none f k R) (ops.toList.drop m) a w):ai.CI E f (.inRegion ops l::k) R a wL:=by
 refine ai.So none h0 Cq (by simp) I hb hI λw h1 h2=>?_
 rw[hl,wpOps_eq_wpList (ops.toList.drop m) m λj=>by rw[ag0,ag2]];exact hwp w h1 h2
structure Cj (x:DS)(n:Nat):Prop where
 wait:x.waiting=[]
 fit:x.failed=false->x.Fit 105
 steps:∀ps,tE x n ps->(eL x n ps).length<=7/\pU (eL x n ps)/\(rM (x.begin n (eL x n ps)).2=0->(x.begin n (eL x n ps)).1.content n 3 ⟨#[]⟩=some (dh (eL x n ps)))
def zx (x:DS)(n:Nat):Int:=if x.failed then 3 else if x.pending n then 4 else 0
def AW (F:List Nat)(s d n:Nat)(x:DS)(wL:Θ)(v:Φ)(w':Θ):Prop:=
 (zx x n≠0/\v= .tuple #[gB,.int .i64 (zx x n)]/\aP w' F s d n x/\d8 [] wL w')\/
 (zx x n=0/\∃ps F',tE x n ps/\aP w' F' s d n (x.yx n (eL x n ps)).1/\bV F F' wL/\d8 F wL w'/\
  ((∃cv,(x.yx n (eL x n ps)).2= .int .i64 0/\v= .tuple #[.agg #[.int .i64 (eL x n ps).length,cv],.int .i64 0]/\w'.ownsRow wL.heap.size 9 1 cv (ma x n ps).length (fo (ma x n ps))/\∀g,cv.ownBlock=some g->g∉F')\/
   (∃e:Int,e≠0/\(x.yx n (eL x n ps)).2= .int .i64 e/\v= .tuple #[gB,.int .i64 e])))
open aG aG.Sq in
theorem Iz {E:ai.Env}{wL:Θ}{F:List Nat}{s d n:Nat}{x:DS}(h:aP wL F s d n x)(hG:qk wL)(h0:0∉F)(hok:Cj x n):
  ai.CC E 31 #[.pointer (some ⟨s,0,none⟩)] (AW F s d n x wL) wL:=by
 refine ai.mZ Tryz.func31 rfl ?_;refine ai.eR ?_;refine uu {tmps:=#[.pointer (some ⟨s,0,none⟩),undef,undef,undef,undef,undef,undef,undef,undef,undef,undef,undef,undef,undef,undef,undef,undef,undef,undef,undef,undef,undef,undef,undef,undef,undef,undef,undef,undef,undef,undef,undef,undef],defers:=[]} (by kernel_rfl) ?_
 refine ai.fx none ⟨_,Tryz.func31⟩ (by kernel_rfl) (by simp) (λw=>aP w F s d n x/\d8 [] wL w) (λw t k h=>⟨h.1.az t k,h.2.tape t k⟩) ⟨h,d8.refl _ _⟩ λw hI hsz=>?_
 obtain⟨hS,hB⟩:=hI;go_wp2_with (with_reducible first|refine ay rfl ?_);refine aj.go (aY rfl 58 rfl _ oy ?_);intro w1 b2 l2 f2 r2;have hS1:=hS.new f2;have hB1:=hB.trans f2.blk;have hb2:b2∉F:=λhb=>by have:=hS.disk.lt b2 hb;omega
 have X0:s≠b2:=by have:=hS.row.lt;omega
 have ahY:wL.heap.size<=b2:=by omega
 clear hS hB f2;go_wp2_with fail;refine ai.eR (ai.fx none ⟨_,Tryz.func31⟩ (by kernel_rfl) (by simp) (λw=>aP w F s d n x/\d8 [] wL w/\Row w b2 gB.cells 58) (λw t k h=>⟨h.1.az t k,h.2.1.tape t k,h.2.2⟩) ⟨hS1,hB1,r2⟩ λw2 hI hsz2=>?_);obtain⟨hS2,hB2,r2'⟩:=hI;clear hS1 hB1 r2 hsz2;go_wp2_with fail;refine(mG F s d n x w2 hS2).mono ?_;rintro e w3 ⟨rfl,f3⟩
 have Z2:=hS2.new f3;have hB3:=hB2.trans f3.blk;have r3:Row w3 b2 gB.cells 58:=f3.row r2';have HE:Hid (zx x n=(if x.failed then 3 else if x.pending n then 4 else 0)):=rfl;obtain⟨e0,he0⟩:∃e0:Int,(if x.failed then 3 else if x.pending n then 4 else 0)=e0:=⟨_,rfl⟩
 rw[he0] at HE⊢;clear he0 hS2 hB2 f3 r2'
 by_cases K2:e0=0
 .subst K2
  go_wp2_with fail;have hG3:qk w3:=hG.blk hB3 (by simp);obtain⟨bl,hrd⟩:=Z2.rd hG3 hok.wait
  refine ai.eR (ai.ee (fl _ rfl (.inr rfl) rfl (nP (w1:=w3) (.pointer (some ⟨s,0,none⟩)) rfl rfl (λt d=>by kernel_rfl) (nP (w1:=w3) (.pointer (some ⟨s,0,none⟩)) rfl rfl (λt d=>by kernel_rfl) (aew _ _ rfl rfl (by kernel_rfl) rfl (by kernel_rfl) ⟨s,0,none⟩ rfl (.pointer (some ⟨d,0,none⟩)) Z2.cell ?_)))))
  refine lB (f2:=55) #[.tmp 18] #[.pointer (some ⟨d,0,none⟩)] (R2:=Un x n w3) rfl rfl (by kernel_rfl) (λb w=>by kernel_rfl) (by kernel_rfl) (Ss hrd) λv w4 hR ahC=>?_
  obtain⟨ps,sv,cv,p1,p2,p3,rfl,hB4,ho1,ho2⟩:=hR;refine fl _ rfl (.inr rfl) rfl (nP (w1:=w4) sv rfl rfl (λt d=>by kernel_rfl) (nP (w1:=w4) cv rfl rfl (λt d=>by kernel_rfl) (fl _ rfl (.inl rfl) rfl (fl _ rfl (.inl rfl) rfl (ai.cJ ?_)))));have hP:tE x n ps:=⟨p1,p2,p3⟩
  have hss:=hok.steps ps hP;have hst:(eL x n ps).Pairwise λp q=>p.1<q.1:=zh _ _ (z7 p1 p2)
  have XS:w4.ownsRow w3.heap.size 168 2 sv (eL x n ps).length (cA (eL x n ps)):=ho1;have Gg:w4.ownsRow w3.heap.size 9 1 cv (ma x n ps).length (fo (ma x n ps)):=ho2;have hS4:aP w4 F s d n x:=Z2.blk hB4 (by simp) (by simp);have r4:Row w4 b2 gB.cells 58:=(hB4.block b2 r3.lt (by simp)).trans r3;have ady:=hB3.trans hB4
  have hL3:wL.heap.size<=w3.heap.size:=hB3.size;have hFl:=Z2.disk.lt;have hfit:x.Fit 105:=hok.fit (by
   have:=HE.out;unfold zx at this;cases hf:x.failed with
   |false=>rfl
   |true=>rw[hf] at this;simp at this)
  generalize acW:eL x n ps=ss at*;generalize hcs':ma x n ps=cs at*;clear ho1 ho2 p1 p2 p3 Z2 hB3 r3 hG3 hrd hB4;obtain⟨ad,cap,hsv⟩:=bW XS;obtain⟨yV,cap2,hcv⟩:=bW Gg;subst hsv hcv
  refine uu {tmps:=#[.pointer (some ⟨s,0,none⟩),undef,.pointer (some ⟨b2,0,none⟩),.int .i64 0,.int .i64 0,.slice ad ss.length cap,.slice yV cs.length cap2,undef,.pointer (some ⟨s,0,none⟩),.int .i64 0,.int .i64 0,.bool false,undef,undef,.tuple #[.slice ad ss.length cap,.slice yV cs.length cap2],.pointer (some ⟨s,0,none⟩),.pointer (some ⟨s,0,none⟩),.pointer (some ⟨s,0,none⟩),.pointer (some ⟨d,0,none⟩),.tuple #[.slice ad ss.length cap,.slice yV cs.length cap2],.slice ad ss.length cap,.slice yV cs.length cap2,undef,undef,undef,undef,undef,undef,undef,undef,undef,undef,undef],defers:=[]} (by kernel_rfl) ?_
  refine ai.fx none ⟨_,Tryz.func31⟩ (by kernel_rfl) (by simp) (λw=>aP w F s d n x/\d8 [] wL w/\Row w b2 gB.cells 58/\w.ownsRow w3.heap.size 168 2 (.slice ad ss.length cap) ss.length (cA ss)/\w.ownsRow w3.heap.size 9 1 (.slice yV cs.length cap2) cs.length (fo cs)) (λw t k h=>⟨h.1.az t k,h.2.1.tape t k,h.2.2⟩) ⟨hS4,ady,r4,XS,Gg⟩ λw5 hI hsz5=>?_
  obtain⟨hS5,Z3,r5,zB,Z1⟩:=hI;clear hS4 ady r4 XS Gg ahC hsz5;have apart:∀{v:Φ} {e:Γ} {m k:Nat} {l:List Φ},w5.ownsRow w3.heap.size e m v k l->∀g,v.ownBlock=some g->g∉F:=λho g hg hF=>by
   have:=(ho.lt g hg).1;have:=hFl g hF;omega
  have HD:Hid (eL x n ps=ss/\ma x n ps=cs):=⟨acW,hcs'⟩
  clear acW hcs';obtain⟨e5,he5⟩:=Sf x n ss hfit;go_wp2_with fail;refine(Sd F s d n x _ _ ss w5 hS5 hfit (by rw[hok.wait];decide) zB hss.1 hss.2.1 hst (apart zB) hss.2.2).mono ?_;rintro e w6 ⟨rfl,⟨F',hS6,g6⟩,f6⟩;have r6:=f6.row r5 hb2;have hc6:=f6.owns Z1 λk hk h=>apart Z1 k h hk
  have hcF:∀g,(Value.slice yV cs.length cap2).ownBlock=some g->g∉F':=λg hg hF=>by
   rcases g6 g hF with q|q
   .exact apart Z1 g hg q
   .have:=(Z1.lt g hg).2;omega
  have adt:b2∉F':=λhF=>by
   rcases g6 b2 hF with q|q
   .exact hb2 q
   .have:=r5.lt;omega
  have hgr:bV F F' wL:=(bV.refl F wL).trans g6 Z3.size;have hB6:d8 F wL w6:=(Z3.mono).trans f6.blk (λi hi=> .inl hi);have hcb:∀g,(Value.slice yV cs.length cap2).ownBlock=some g->g≠b2:=λg hg e=>by
   subst e;rcases Z1.2 with⟨e1,_⟩|⟨g',cap',cur,e1,_,hg',_⟩
   .rw[e1] at hg;simp[Value.ownBlock] at hg
   .rw[e1] at hg
    have:g'=g:=by simpa [Value.ownBlock] using hg
    subst this;unfold Row at r5;rw[r5] at hg';cases hg'
  have HO:Hid ((x.yx n ss).2= .int .i64 e5):=he5;rw[he5];have HX:Hid (aP w6 F' s d n (x.yx n ss).1):=hS6;clear hss hst hS6 he5 hS5 Z3 r5 zB Z1 f6 g6 apart
  by_cases h5:e5=0
  .subst h5
   go_wp2_with (with_reducible first|refine bI 58 rfl ?_|refine ah 58 rfl ?_);refine aj.go (cH rfl (.agg #[.int .i64 ss.length,.slice yV cs.length cap2]) w6 (by kernel_rfl) ?_);go_wp2_with (with_reducible first|refine ah 58 rfl ?_)
   refine aj.go (gC rfl 58 _ _ rfl b2 rfl #[.int .i64 ss.length,.slice yV cs.length cap2] rfl fj (by simp[Value.oneCell']) _ _ r6 rfl ?_);intro w7 f7 r7;have hc7:=f7.owns hc6 (λk hk h=>hcb k h (by simpa using hk));go_wp2_with fail
   refine⟨w7.tape,w7.drawn,.tuple #[.agg #[.int .i64 ss.length,.slice yV cs.length cap2],.int .i64 0],?_,.inr ⟨HE.out,ps,F',hP,?_,hgr,?_,.inl ⟨_,?_,?_,?_,hcF⟩⟩⟩
   .exact nz (tp:=2) (tq:=3) (ty:=58) rfl _ _ b2 _ _ rfl r7 (by kernel_rfl) fj
   .rw[HD.out.1]
    exact HX.out.wu f7 (by simpa using X0) (by simpa using adt)
   .exact hB6.trans f7.blk (by intro i hi;right;simp at hi;omega)
   .rw[HD.out.1];exact HO.out
   .rw[HD.out.1]
   .rw[HD.out.2];exact hc7.weak hL3
  .have h5':(e5==0)=false:=by simpa using h5
   go_wp2_with (with_reducible first|refine bI 58 rfl ?_|refine ah 58 rfl ?_);refine aj.go (cH rfl gB w6 (by kernel_rfl) ?_);go_wp2_with (with_reducible first|refine ah 58 rfl ?_);refine aj.go (gC rfl 58 _ _ rfl b2 rfl gB.cells rfl fj (by decide) _ _ r6 rfl ?_);intro w7 f7 r7;go_wp2_with fail
   refine⟨w7.tape,w7.drawn,.tuple #[gB,.int .i64 e5],?_,.inr ⟨HE.out,ps,F',hP,?_,hgr,?_,.inr ⟨e5,h5,?_,rfl⟩⟩⟩
   .exact nz (tp:=2) (tq:=3) (ty:=58) rfl _ _ b2 _ _ rfl r7 (by kernel_rfl) fj
   .rw[HD.out.1]
    exact HX.out.wu f7 (by simpa using X0) (by simpa using adt)
   .exact hB6.trans f7.blk (by intro i hi;right;simp at hi;omega)
   .rw[HD.out.1];exact HO.out
 .have adj:(e0==0)=false:=by simpa using K2
  go_wp2_with (with_reducible first|refine bI 58 rfl ?_|refine ah 58 rfl ?_);refine aj.go (cH rfl gB w3 (by kernel_rfl) ?_);go_wp2_with (with_reducible first|refine ah 58 rfl ?_);refine aj.go (gC rfl 58 _ _ rfl b2 rfl gB.cells rfl fj (by decide) _ _ r3 rfl ?_);intro w4 f4 r4;go_wp2_with fail
  refine⟨w4.tape,w4.drawn,.tuple #[gB,.int .i64 e0],?_,.inl ⟨by rw[HE.out];exact K2,by rw[HE.out],Z2.wu f4 ?_ ?_,?_⟩⟩
  .exact nz (tp:=2) (tq:=3) (ty:=58) rfl _ _ b2 _ _ rfl r4 (by kernel_rfl) fj
  .simpa using X0
  .simpa using hb2
  .exact hB3.trans (f4.blk.mono (T:=[b2]) (by simp)) (by simpa using ahY)
end
section
open Go.RowKit Go.Lib
abbrev bZ:=Nat->List η->Option (List η)
def fK (H:bZ)(s:Nat)(p:List η)(r:Option (List η)):bZ:=λs' p'=>if s'=s/\p'=p then r else H s' p'
def Has (L:List η)(n:Nat)(H:bZ):Prop:=∃m,mm L n m/\∀s p,holds m s p (H s p)
def qM (H:bZ):Prop:=∀s p,H s p≠none->(s<=2/\p∈P7)\/(s=3/\p=[])
def ez (H:bZ):Prop:=∀s p,H s p≠none->s<=2/\p∈P7
theorem x6 {m:dN}{s:Nat}{p:List η}{r:Option (List η)}(h:holds m s p r){i:Nat}{f:cQ}(hf:m i=some f)(e:nameOf f=(s,p)):r≠none:=λhr=>by
 subst hr;exact h i f hf e
theorem qM.slots {L:List η}{n:Nat}{H:bZ}{m:dN}(h:qM H)(hm:∀s p,holds m s p (H s p))(i:Nat)(f:cQ)(hf:m i=some f):(f.set<=2/\f.path∈P7)\/(f.set=3/\f.path=[]):=
 h f.set f.path (x6 (hm f.set f.path) hf rfl)
theorem ez.slots {H:bZ}{m:dN}(h:ez H)(hm:∀s p,holds m s p (H s p)):Seven m:=λi f hf=>h f.set f.path (x6 (hm f.set f.path) hf rfl)
theorem Tf {L:List η}{n:Nat}{m:dN}(h:mm L n m)(h8:∀i f,m i=some f->(f.set<=2/\f.path∈P7)\/(f.set=3/\f.path=[])):(je n m).length<=22:=by
 have h3:=ng ((je n m).map nameOf) (((List.range 3).flatMap λs=>P7.map λp=>(s,p))++[(3,[])]) h.nodup λa ha=>by
  obtain⟨f,hf,e⟩:=ae2.1 ha;obtain⟨i,hi⟩:=h.mem.1 hf;rw[<-e,List.mem_append];rcases h8 i f hi with⟨q1,q2⟩|⟨q1,q2⟩
  .left
   rw[List.mem_flatMap];exact⟨f.set,ae9.2 (by omega),ae2.2 ⟨f.path,q2,rfl⟩⟩
  .right
   simp[nameOf,q1,q2]
 rw[af9] at h3;have:(((List.range 3).flatMap λs=>P7.map λp=>(s,p))++[(3,([]:List η))]).length=22:=by rfl
 omega
theorem Wh {L:List η}{n:Nat}{m:dN}(h:mm L n m)(h8:∀i f,m i=some f->(f.set<=2/\f.path∈P7)\/(f.set=3/\f.path=[]))(hn:22<aJ n):∃i,i<aJ n/\m i=none:=by
 by_cases hx:∃i,i<aJ n/\m i=none
 .exact hx
 .exfalso
  have h1:(je n m).length=aJ n:=by
   have h2:∀l:List Nat,(∀i∈l,i<aJ n)->(l.filterMap m).length=l.length:=by
    intro l
    induction l with
    |nil=>intro _;rfl
    |cons a l ih=>
     intro hl;have ha:=hl a List.mem_cons_self;cases hm:m a with
     |none=>exact absurd ⟨a,ha,hm⟩ hx
     |some f=>rw[List.filterMap_cons_some hm,List.length_cons,List.length_cons,ih λi hi=>hl i (ah3 _ hi)]
   unfold je;rw[h2 _ λi hi=>ae9.1 hi,List.length_range]
  have:=Tf h h8;omega
section
variable {L:List η}{n:Nat}{H:bZ}{x:DS}
theorem Has.content (h:Has x.aI n H)(hw:x.waiting=[])(s:Nat)(p:List η):x.content n s (aB p)=H s p:=by
 obtain⟨m,hr,hm⟩:=h;exact uW hr hw (hm s p)
theorem wo (h:Has L n H)(h8:qM H)(hn:22<aJ n)(s:Nat)(p c:List η)(hs:dU s p=true)(hc:c.length<=96):
  ∃L',Has L' n (fK H s p (some c))/\∀a,(DS.calm L a).put n s (aB p) (aB c)=(DS.calm L' (a+5),.int .i64 0):=by
 obtain⟨m,hr,hm⟩:=h;have hln:=pV n;obtain⟨i,hi,hfi,hmi⟩:=Md (x:=DS.fresh L) hr rfl (Wh hr (h8.slots (L:=L) (n:=n) hm) hn);have hn2:=JH n i hi;obtain⟨o,ho,ho0,ho1,hom,hox⟩:=owner hr s p;have hoi:o≠i:=by
  intro e;obtain⟨g,hg,_⟩:=hox (by omega);rw[e] at hg;simp only[Int.toNat_natCast] at hg;rw[hmi] at hg;cases hg
 let f:cQ:=⟨s,p,c⟩
 have hfg:dU f.set f.path=true/\f.content.length<=96:=⟨hs,hc⟩
 have hpl:f.path.length<=8:=(sJ hfg.1).1;generalize hrr:cF f.set f.path f.content=r;have hrl:r.length=128:=by rw[<-hrr];exact Q6 _ _ _ hpl hc
 have h0:=Ed r hrl 0 (by omega);have h1:=Ed r hrl 1 (by omega);generalize hA:bF L ((1+2*i:Nat),half r 0)=A;have rA:mm A n m:=by rw[<-hA];exact hr.loose (by omega) (by omega) h0 (yj hmi (.inl rfl))
 generalize hB:bF A ((2+2*i:Nat),half r 1)=B;have rB:mm B n m:=by rw[<-hB];exact rA.loose (by omega) (by omega) h1 (yj hmi (.inr rfl))
 have TB:Fz L i r=B:=by unfold Fz;rw[hA,hB]
 have hroot:seenIn (Fz L i r) [] 0=eC n m:=by rw[TB,<-rB.root];rfl
 have hnew:aX (eC n m) i o=eC n (after m i f o):=BF m i (by omega) f o ⟨ho0,ho1⟩;have sA:∀j,kC A j=if j=1+2*i then half r 0 else kC L j:=λj=>by rw[<-hA];exact jT L n hr.len _ (by omega) _ h0 j
 have sB:∀j,kC B j=if j=2+2*i then half r 1 else kC A j:=λj=>by rw[<-hB];exact jT A n rA.len _ (by omega) _ h1 j
 have acY:kC B (1+2*i)++kC B (2+2*i)=cF f.set f.path f.content:=by
  rw[sB,sB,ζ (by omega),ξ rfl,sA,ξ rfl,halves r hrl,hrr]
 have rC:=rB.put hi acY hfg λj g hg e=>hom j g hg e
 refine⟨_,⟨_,rC,λs' p'=>?_⟩,λa=>?_⟩
 .unfold fK
  by_cases e:s'=s/\p'=p
  .rw[ξ e]
   obtain⟨rfl,rfl⟩:=e;refine⟨i,?_⟩;unfold after;rw[rD (by omega)];unfold upd;rw[ξ rfl]
  .rw[ζ e]
   have hh:=hm s' p';cases hv:H s' p' with
   |none=>
    rw[hv] at hh;intro j g hg e2;rcases iL hg with⟨rfl,rfl⟩|⟨_,q,_⟩
    .unfold nameOf at e2
     simp only[af4] at e2;exact e ⟨e2.1.symm,e2.2.symm⟩
    .exact hh j g q e2
   |some v=>
    rw[hv] at hh;obtain⟨j,hj⟩:=hh;have hji:j≠i:=λe2=>by subst e2;rw[hmi] at hj;cases hj
    refine⟨j,?_⟩;unfold after;rw[rD ?_]
    .unfold upd
     rw[ζ hji];exact hj
    .by_cases hoj:o=-1
     .exact .inl hoj
     .right
      refine⟨by omega,λe2=>?_⟩;obtain⟨g,hg,hgn⟩:=hox hoj;rw[e2] at hg;simp only[Int.toNat_natCast] at hg;rw[hj] at hg;cases hg;unfold nameOf at hgn;simp only[af4] at hgn;exact e ⟨hgn.1,hgn.2⟩
 .have henc:cF s (aB p).data.toList (aB c).data.toList=r:=hrr
  have hfx:dZ (DS.calm L a) n=i:=by
   rw[Eg _ n rfl,<-hfi,Eg (DS.fresh L) n rfl];rfl
  have:=Mk L a 0 0 n s (aB p) (aB c) i o (eC n m) r henc hfx (ho (DS.calm L a) rfl rfl) hroot;rw[TB,hnew] at this;exact this
theorem ri (h:Has L n H)(s:Nat)(p:List η)(hs:H s p≠none):
  ∃L',Has L' n (fK H s p none)/\∀a,(DS.calm L a).remove n s (aB p)=(DS.calm L' (a+2),.int .i64 0):=by
 obtain⟨m,hr,hm⟩:=h;obtain⟨o,ho,ho0,ho1,hom,hox⟩:=owner hr s p;have hne:o≠-1:=by
  have hh:=hm s p;cases hv:H s p with
  |none=>exact absurd hv hs
  |some v=>
   rw[hv] at hh;obtain⟨j,hj⟩:=hh;have:=hom j _ hj rfl;omega
 have rC:=hr.dropped o;refine⟨_,⟨_,rC,λs' p'=>?_⟩,λa=>?_⟩
 .unfold fK
  by_cases e:s'=s/\p'=p
  .rw[ξ e]
   obtain⟨rfl,rfl⟩:=e;intro j g hg e2;obtain⟨q1,q2⟩:=gq hg;have:=hom j g q1 e2;have:=q2 (by omega);omega
  .rw[ζ e]
   have hh:=hm s' p';cases hv:H s' p' with
   |none=>
    rw[hv] at hh;intro j g hg e2;exact hh j g (gq hg).1 e2
   |some v=>
    rw[hv] at hh;obtain⟨j,hj⟩:=hh;refine⟨j,?_⟩;rw[rD ?_]
    .exact hj
    .right
     refine⟨by omega,λe2=>?_⟩;obtain⟨g,hg,hgn⟩:=hox hne;rw[e2] at hg;simp only[Int.toNat_natCast] at hg;rw[hj] at hg;cases hg;unfold nameOf at hgn;simp only[af4] at hgn;exact e ⟨hgn.1,hgn.2⟩
 .have hroot:seenIn L [] 0=eC n m:=by rw[<-hr.root];rfl
  have:=Dw L a 0 0 n s (aB p) o (eC n m) (ho (DS.calm L a) rfl rfl) hne hroot;rw[zz m o ⟨ho0,ho1⟩] at this;exact this
theorem Jk (H:bZ)(s:Nat)(p:List η):fK H s p (H s p)=H:=by
 funext s' p'
 unfold fK;split
 .rename_i e;rw[e.1,e.2]
 .rfl
theorem qM.set {H:bZ}(h:qM H){s:Nat}{p:List η}(hs:(s<=2/\p∈P7)\/(s=3/\p=[]))(r:Option (List η)):qM (fK H s p r):=λs' p' hn=>by
 unfold fK at hn;split at hn
 .rename_i e;rw[e.1,e.2];exact hs
 .exact h s' p' hn
theorem ez.eight {H:bZ}(h:ez H):qM H:=λs p hn=> .inl (h s p hn)
end
end
end
end Go.Proofs.YtchcmhodnkgojaaGreat
