/- On the way to the last text; put together and shortened by program. -/
import Derived.Test.YtchcmhodnkgojaaGreatPart6
import Derived.Laws.MakeOwn
import Derived.Test.YtchcmhodnkgojaaGreatShelf
import Derived.OwnWalk
import Derived.DeepKeys
import Derived.Test.YtchcmhodnkgojaaGreatProg
import Derived.Laws.LoneSync
import Derived.Conc.SmallLaws
set_option linter.all false
set_option maxRecDepth 100000
set_option maxHeartbeats 8000000
namespace Go.Proofs.YtchcmhodnkgojaaGreat
noncomputable section
section
open Go.RowKit Go.Lib
def fS (root:List Γ)(i:Int)(b:Γ):List Γ:=if i=-1 then root else root.set (10+i.toNat) b
def aX (root:List Γ)(takes frees:Int):List Γ:=fS (fS root takes 1) frees 0
def DS.mark (x:DS)(takes frees:Int):DS:=
 if x.bp then(x.write 0 (aX (x.read 0) takes frees)).flush else x.write 0 (aX (x.read 0) takes frees)
def DS.jq (x:DS)(takes frees:Int):Bool:=x.bp&&(x.write 0 (aX (x.read 0) takes frees)).bp
theorem dC (root:List Γ)(i:Int)(b:Γ):(fS root i b).length=root.length:=by unfold fS;split<;>simp
theorem fM (l:List Γ)(i:Nat)(b:Γ):(byteCells (l.set i b)).toArray=(byteCells l).toArray.setIfInBounds i (.int .u8 b.toNat):=by
 simp[byteCells,List.map_set]
theorem C5 {w:Θ}{F:List Nat}{d n:Nat}{x:DS}(h:bJ w F d n x):(x.read 0).length=64:=by
 obtain⟨bl,vw,h,_⟩:=h;exact bi _ _ (by rw[h.len];have:=h.lo;simp;omega) _ h.d7
theorem bJ.size {w:Θ}{F:List Nat}{d n:Nat}{x:DS}(h:bJ w F d n x):16<=n/\n<=400:=by
 obtain⟨bl,vw,h,_⟩:=h;exact⟨h.lo,h.hi⟩
theorem C4 (F:List Nat)(d n:Nat)(x:DS)(s:Int)(w:Θ)(h:bJ w F d n x)(hs:0<=s)(hn:s<n):
  Calls Tryz.prog 114 #[.pointer (some ⟨d,0,none⟩),.int .i64 s] w λe w'=>e= .returned (.agg (byteCells (x.read s)).toArray)/\aO [] w w':=by
 obtain⟨bl,vw,h,_⟩:=h;exact rY d bl n vw x s w h hs hn
theorem DS.jd {x:DS}{s:Int}{l:List Γ}{r:Nat}(h:x.Fit (r+1))(hc:x.bp=true):(x.write s l).Fit r:=by
 have h1:=h.kb;have h2:=h.ka;have h3:=h.j9;have h4:=h.j8;unfold DS.write;rw[χ hc];unfold DS.bp at hc;refine⟨by simp[DS.jc];omega,by simp[DS.jc];omega,?_,?_⟩
 .simp only[DS.jc]
  split
  .rename_i hg
   simp[hg] at hc;have:=hc.2;omega
  .exact h3
 .simp only[DS.jc]
  split<;>omega
section
variable {P:ω}{ops:Array Oper}{Q:Exit->Act->Θ->Prop}{a:Act}{w:Θ}{rest:List Oper}{o:Oper}
theorem fJ (hg:o.guard=none)(t:η)(x y:aa8)(ho:o.op= .store t x y)(b off:Nat)(hx:a.eval x= .pointer (some ⟨b,off,none⟩))(k:IntKind)(v:Int)(hy:a.eval y= .int k v)(c:Array Φ)(u:η)(hr:Row w b c u)(hfit:off<c.size)(h:∀w1:Θ,aO [b] w w1->Row w1 b (c.setIfInBounds off (.int k v)) u->wpList P ops Q rest (a.put o.dst undef) w1)(hi:(P.info? t).map (·.size)=some 1:=by kernel_rfl):wpList P ops Q (o::rest) a w:=by
 refine Ao hg (w.setCell ⟨b,off,none⟩ (.int k v)) ?_ (h _ (aO.setCell _ _ _ _) (hr.setCell _ _));have hc:=hr.cell off;have hf:=hr.thaw off;have hs:c[off]? =some c[off]:=by simp[hfit]
 rw[hs] at hc;have hst:(store ((⟨b,off,none⟩:Addr).add 0) (.int k v)).run P w= .ok () (w.setCell ⟨b,off,none⟩ (.int k v)):=by
  rw[Addr.add_mid,Nat.add_zero,run_store P w _ _ _ rfl,hc];simp[hf]
 cases hq:P.info? t with
 |none=>simp[hq] at hi
 |some i=>
  have h1:i.size=1:=by simpa [hq] using hi
  simp[execOp,ho,hx,hy,Instr.storeAt,Instr.sureAddr,storeVar,sizeOf,typeInfo,hq,h1,Value.cells,storeCells,hst]
end
theorem zX (F:List Nat)(d n:Nat)(x:DS)(takes frees:Int)(w:Θ)(h:bJ w F d n x)(hx:x.Fit 2)(eZ:x.waiting.length<60)(ht0:-1<=takes)(ht1:takes<54)(hf0:-1<=frees)(hf1:frees<54):
  Calls Tryz.prog 111 #[.pointer (some ⟨d,0,none⟩),.int .i64 takes,.int .i64 frees] w λe w'=>e= .returned (cO (x.jq takes frees))/\∃F',bJ w' F' d n (x.mark takes frees)/\aO F w w'/\bZ F F' w:=by
 have hsz:=h.size;have sy:=C5 h;go_enter Tryz.func111,Tryz.ntmps111;go_wp2_with fail;refine(C4 F d n x 0 w h (by omega) (by omega)).mono ?_;rintro e w1 ⟨rfl,f1⟩;go_wp2_with (with_reducible first|refine ay rfl ?_|refine ah 148 rfl ?_);refine ai.go (bh rfl 148 rfl eO dz ?_);intro w2 b7 l7 f2 r7
 go_wp2_with (with_reducible first|refine ay rfl ?_|refine ah 148 rfl ?_);refine ai.go (bP rfl 148 _ _ rfl _ 0 rfl _ rfl 64 bj ?_ ?_ _ _ r7 ?_ ?_)
 .simp only[aa7,af];exact sy
 .exact byteCells_one _
 .decide
 intro w3 f3 tC;rw[bG _ _ (by rw[af,sy];rfl)] at tC;have f13:aO [] w w3:=(f1.trans f2).trans f3 (by simp;have:=f1.size;omega);have l7w:w.heap.size<=b7:=by have:=f1.size;omega
 have HR:Hid ((x.read 0).length=64):=sy;clear r7 f1 f2 f3 sy;have hlt1:Hid (∀r:List Γ,r.length=64->∀i:Int,0<=i->i<54->(10+i).toNat<(byteCells r).toArray.size/\(byteCells r).toArray.setIfInBounds (10+i).toNat (.int .u8 1)=(byteCells (fS r i 1)).toArray/\(byteCells r).toArray.setIfInBounds (10+i).toNat (.int .u8 0)=(byteCells (fS r i 0)).toArray):=by
  intro r hr i h0 h54;have e:(10+i).toNat=10+i.toNat:=by omega
  have hne:i≠-1:=by omega
  refine⟨by simp[af,hr];omega,?_,?_⟩
  .rw[fS,ζ hne,fM,e];rfl
  .rw[fS,ζ hne,fM,e];rfl
 by_cases h1:takes=-1
 .subst h1
  by_cases h2:frees=-1
  .subst h2
   go_wp2_with (with_reducible first|refine ax 148 rfl ?_|refine ah 5 rfl ?_);have hml:Hid ((aX (x.read 0) (-1) (-1)).length=64):=by show _=_;unfold aX;rw[dC,dC];exact HR.out
   have q7:Row w3 b7 (byteCells (aX (x.read 0) (-1) (-1))).toArray 148:=tC;have h3:=h.new f13;refine ai.go (bV rfl 148 _ rfl b7 0 rfl dr 64 bj _ _ q7 (byteCells (aX (x.read 0) (-1) (-1))) ?_ ?_ ?_)
   .simp only[List.drop_zero];exact θ (by rw[af];exact ah1 hml.out)
   .rw[af];exact hml.out
   go_wp2_with fail;refine(kJ F d n x 0 (aX (x.read 0) (-1) (-1)) w3 h3 ⟨hx.kb,by have:=hx.ka;omega,hx.j9,hx.j8⟩ hml.out eZ).mono ?_;rintro e w8 ⟨rfl,F8,h8,f8,g8⟩;have ry:aO F w w8:=(f13.mono (by simp):aO F w w3).trans f8 (λi hi=> .inl hi);have FO:bZ F F8 w:=λk hk=>(g8 k hk).imp id (λhh=>by have:=f13.size;omega)
   have FH:=ry.size;have HM:Hid (x.mark (-1) (-1)=if x.bp then(x.write 0 (aX (x.read 0) (-1) (-1))).flush else x.write 0 (aX (x.read 0) (-1) (-1))):=rfl;have HO:Hid (x.jq (-1) (-1)=(x.bp&&(x.write 0 (aX (x.read 0) (-1) (-1))).bp)):=rfl;have hfit:Hid (x.bp=true->(x.write 0 (aX (x.read 0) (-1) (-1))).Fit 1):=λhc=>DS.jd hx hc
   have yu:∀R:Φ×DS,R=R:=λ_=>rfl
   clear yu q7 h3 f8 g8;generalize x.write 0 (aX (x.read 0) (-1) (-1))=y at*;cases hc:x.bp with
   |true=>
    simp only[cO,if_true];go_wp2_with fail;refine(lh F8 d n y w8 h8 (hfit.out hc)).mono ?_;rintro e w9 ⟨rfl,F9,h9,f9,g9⟩;go_wp2_with fail;go_ret;refine⟨?_,F9,?_,ry.trans f9 (λi hi=>FO i hi),FO.trans g9 FH⟩
    .rw[HO.out,hc];simp
    .rw[HM.out,hc];simpa using h9
   |false=>
    simp only[cO];go_wp2_with fail;go_ret;refine⟨?_,F8,?_,ry,FO⟩
    .rw[HO.out,hc];rfl
    .rw[HM.out,hc];simpa using h8
  .have hb2:(frees==-1)=false:=by simpa using h2
   go_wp2_with (with_reducible first|refine ax 148 rfl ?_|refine ah 5 rfl ?_);have za:=hlt1.out (x.read 0) (by exact HR.out) frees (by omega) (by omega);refine ai.go (fJ rfl 5 _ _ rfl b7 (10+frees).toNat rfl .u8 0 rfl _ _ tC za.1 ?_);intro wa fa ra;rw[za.2.2] at ra;have ga:aO [] w wa:=f13.trans fa (by simpa using l7w);clear za
   go_wp2_with (with_reducible first|refine ax 148 rfl ?_|refine ah 5 rfl ?_);have hml:Hid ((aX (x.read 0) (-1) frees).length=64):=by show _=_;unfold aX;rw[dC,dC];exact HR.out
   have q7:Row wa b7 (byteCells (aX (x.read 0) (-1) frees)).toArray 148:=ra;have h3:=h.new ga;refine ai.go (bV rfl 148 _ rfl b7 0 rfl dr 64 bj _ _ q7 (byteCells (aX (x.read 0) (-1) frees)) ?_ ?_ ?_)
   .simp only[List.drop_zero];exact θ (by rw[af];exact ah1 hml.out)
   .rw[af];exact hml.out
   go_wp2_with fail;refine(kJ F d n x 0 (aX (x.read 0) (-1) frees) wa h3 ⟨hx.kb,by have:=hx.ka;omega,hx.j9,hx.j8⟩ hml.out eZ).mono ?_;rintro e w8 ⟨rfl,F8,h8,f8,g8⟩;have ry:aO F w w8:=(ga.mono (by simp):aO F w wa).trans f8 (λi hi=> .inl hi);have FO:bZ F F8 w:=λk hk=>(g8 k hk).imp id (λhh=>by have:=ga.size;omega)
   have FH:=ry.size;have HM:Hid (x.mark (-1) frees=if x.bp then(x.write 0 (aX (x.read 0) (-1) frees)).flush else x.write 0 (aX (x.read 0) (-1) frees)):=rfl;have HO:Hid (x.jq (-1) frees=(x.bp&&(x.write 0 (aX (x.read 0) (-1) frees)).bp)):=rfl;have hfit:Hid (x.bp=true->(x.write 0 (aX (x.read 0) (-1) frees)).Fit 1):=λhc=>DS.jd hx hc
   have yu:∀R:Φ×DS,R=R:=λ_=>rfl
   clear yu q7 h3 f8 g8;generalize x.write 0 (aX (x.read 0) (-1) frees)=y at*;cases hc:x.bp with
   |true=>
    simp only[cO,if_true];go_wp2_with fail;refine(lh F8 d n y w8 h8 (hfit.out hc)).mono ?_;rintro e w9 ⟨rfl,F9,h9,f9,g9⟩;go_wp2_with fail;go_ret;refine⟨?_,F9,?_,ry.trans f9 (λi hi=>FO i hi),FO.trans g9 FH⟩
    .rw[HO.out,hc];simp
    .rw[HM.out,hc];simpa using h9
   |false=>
    simp only[cO];go_wp2_with fail;go_ret;refine⟨?_,F8,?_,ry,FO⟩
    .rw[HO.out,hc];rfl
    .rw[HM.out,hc];simpa using h8
 .have hb1:(takes==-1)=false:=by simpa using h1
  by_cases h2:frees=-1
  .subst h2
   go_wp2_with (with_reducible first|refine ax 148 rfl ?_|refine ah 5 rfl ?_);have za:=hlt1.out (x.read 0) (by exact HR.out) takes (by omega) (by omega);refine ai.go (fJ rfl 5 _ _ rfl b7 (10+takes).toNat rfl .u8 1 rfl _ _ tC za.1 ?_);intro wa fa ra;rw[za.2.1] at ra;have ga:aO [] w wa:=f13.trans fa (by simpa using l7w);clear za
   go_wp2_with (with_reducible first|refine ax 148 rfl ?_|refine ah 5 rfl ?_);have hml:Hid ((aX (x.read 0) takes (-1)).length=64):=by show _=_;unfold aX;rw[dC,dC];exact HR.out
   have q7:Row wa b7 (byteCells (aX (x.read 0) takes (-1))).toArray 148:=ra;have h3:=h.new ga;refine ai.go (bV rfl 148 _ rfl b7 0 rfl dr 64 bj _ _ q7 (byteCells (aX (x.read 0) takes (-1))) ?_ ?_ ?_)
   .simp only[List.drop_zero];exact θ (by rw[af];exact ah1 hml.out)
   .rw[af];exact hml.out
   go_wp2_with fail;refine(kJ F d n x 0 (aX (x.read 0) takes (-1)) wa h3 ⟨hx.kb,by have:=hx.ka;omega,hx.j9,hx.j8⟩ hml.out eZ).mono ?_;rintro e w8 ⟨rfl,F8,h8,f8,g8⟩;have ry:aO F w w8:=(ga.mono (by simp):aO F w wa).trans f8 (λi hi=> .inl hi);have FO:bZ F F8 w:=λk hk=>(g8 k hk).imp id (λhh=>by have:=ga.size;omega)
   have FH:=ry.size;have HM:Hid (x.mark takes (-1)=if x.bp then(x.write 0 (aX (x.read 0) takes (-1))).flush else x.write 0 (aX (x.read 0) takes (-1))):=rfl;have HO:Hid (x.jq takes (-1)=(x.bp&&(x.write 0 (aX (x.read 0) takes (-1))).bp)):=rfl;have hfit:Hid (x.bp=true->(x.write 0 (aX (x.read 0) takes (-1))).Fit 1):=λhc=>DS.jd hx hc
   have yu:∀R:Φ×DS,R=R:=λ_=>rfl
   clear yu q7 h3 f8 g8;generalize x.write 0 (aX (x.read 0) takes (-1))=y at*;cases hc:x.bp with
   |true=>
    simp only[cO,if_true];go_wp2_with fail;refine(lh F8 d n y w8 h8 (hfit.out hc)).mono ?_;rintro e w9 ⟨rfl,F9,h9,f9,g9⟩;go_wp2_with fail;go_ret;refine⟨?_,F9,?_,ry.trans f9 (λi hi=>FO i hi),FO.trans g9 FH⟩
    .rw[HO.out,hc];simp
    .rw[HM.out,hc];simpa using h9
   |false=>
    simp only[cO];go_wp2_with fail;go_ret;refine⟨?_,F8,?_,ry,FO⟩
    .rw[HO.out,hc];rfl
    .rw[HM.out,hc];simpa using h8
  .have hb2:(frees==-1)=false:=by simpa using h2
   go_wp2_with (with_reducible first|refine ax 148 rfl ?_|refine ah 5 rfl ?_);have za:=hlt1.out (x.read 0) (by exact HR.out) takes (by omega) (by omega);refine ai.go (fJ rfl 5 _ _ rfl b7 (10+takes).toNat rfl .u8 1 rfl _ _ tC za.1 ?_);intro wa fa ra;rw[za.2.1] at ra;have ga:aO [] w wa:=f13.trans fa (by simpa using l7w);clear za
   go_wp2_with (with_reducible first|refine ax 148 rfl ?_|refine ah 5 rfl ?_);have zb:=hlt1.out (fS (x.read 0) takes 1) (by rw[dC];exact HR.out) frees (by omega) (by omega);refine ai.go (fJ rfl 5 _ _ rfl b7 (10+frees).toNat rfl .u8 0 rfl _ _ ra zb.1 ?_);intro wb fb rb;rw[zb.2.2] at rb;have gb:aO [] w wb:=ga.trans fb (by simpa using l7w)
   clear zb;go_wp2_with (with_reducible first|refine ax 148 rfl ?_|refine ah 5 rfl ?_);have hml:Hid ((aX (x.read 0) takes frees).length=64):=by show _=_;unfold aX;rw[dC,dC];exact HR.out
   have q7:Row wb b7 (byteCells (aX (x.read 0) takes frees)).toArray 148:=rb;have h3:=h.new gb;refine ai.go (bV rfl 148 _ rfl b7 0 rfl dr 64 bj _ _ q7 (byteCells (aX (x.read 0) takes frees)) ?_ ?_ ?_)
   .simp only[List.drop_zero];exact θ (by rw[af];exact ah1 hml.out)
   .rw[af];exact hml.out
   go_wp2_with fail;refine(kJ F d n x 0 (aX (x.read 0) takes frees) wb h3 ⟨hx.kb,by have:=hx.ka;omega,hx.j9,hx.j8⟩ hml.out eZ).mono ?_;rintro e w8 ⟨rfl,F8,h8,f8,g8⟩;have ry:aO F w w8:=(gb.mono (by simp):aO F w wb).trans f8 (λi hi=> .inl hi);have FO:bZ F F8 w:=λk hk=>(g8 k hk).imp id (λhh=>by have:=gb.size;omega)
   have FH:=ry.size;have HM:Hid (x.mark takes frees=if x.bp then(x.write 0 (aX (x.read 0) takes frees)).flush else x.write 0 (aX (x.read 0) takes frees)):=rfl;have HO:Hid (x.jq takes frees=(x.bp&&(x.write 0 (aX (x.read 0) takes frees)).bp)):=rfl;have hfit:Hid (x.bp=true->(x.write 0 (aX (x.read 0) takes frees)).Fit 1):=λhc=>DS.jd hx hc
   have yu:∀R:Φ×DS,R=R:=λ_=>rfl
   clear yu q7 h3 f8 g8;generalize x.write 0 (aX (x.read 0) takes frees)=y at*;cases hc:x.bp with
   |true=>
    simp only[cO,if_true];go_wp2_with fail;refine(lh F8 d n y w8 h8 (hfit.out hc)).mono ?_;rintro e w9 ⟨rfl,F9,h9,f9,g9⟩;go_wp2_with fail;go_ret;refine⟨?_,F9,?_,ry.trans f9 (λi hi=>FO i hi),FO.trans g9 FH⟩
    .rw[HO.out,hc];simp
    .rw[HM.out,hc];simpa using h9
   |false=>
    simp only[cO];go_wp2_with fail;go_ret;refine⟨?_,F8,?_,ry,FO⟩
    .rw[HO.out,hc];rfl
    .rw[HM.out,hc];simpa using h8
def dY (root:List Γ)(m:Nat):Nat->Nat->Int
 |0,_=>-1
 |f+1,k=>if k<m then(if da root k==0 then k else dY root m f (k+1)) else -1
def dQ (x:DS)(n:Nat):Int:=dY (x.read 0) (aH n) (aH n) 0
theorem Dm (root:List Γ)(i:Nat):(((da root i).toNat:Int)==0)=(da root i==0):=by
 rw[Bool.eq_iff_iff];simp[<-UInt8.toNat_inj]
theorem k8 (root:List Γ)(m:Nat):∀(f k:Nat),dY root m f k=-1\/∃i:Nat,i<m/\dY root m f k=i/\da root i=0
 |0,_=> .inl rfl
 |f+1,k=>by
  unfold dY
  by_cases h:k<m
  .rw[χ h]
   by_cases h2:(da root k==0)=true
   .exact .inr ⟨k,h,by simp[h2],by simpa using h2⟩
   .rw[ζ h2];exact k8 root m f (k+1)
  .rw[ζ h];exact .inl rfl
theorem Bp (F:List Nat)(d n:Nat)(x:DS)(w:Θ)(h:bJ w F d n x):
  Calls Tryz.prog 108 #[.pointer (some ⟨d,0,none⟩)] w λe w'=>e= .returned (.int .i64 (dQ x n))/\aO [] w w':=by
 have hsz:=h.size;have sy:=C5 h;go_enter Tryz.func108,Tryz.ntmps108;go_wp2_with fail;refine(C4 F d n x 0 w h (by omega) (by omega)).mono ?_;rintro e w1 ⟨rfl,f1⟩;go_wp2_with (with_reducible first|refine ay rfl ?_|refine ah 148 rfl ?_);refine ai.go (bh rfl 148 rfl eO dz ?_);intro w2 b4 l4 f2 r4
 go_wp2_with (with_reducible first|refine ay rfl ?_|refine ah 148 rfl ?_);refine ai.go (bP rfl 148 _ _ rfl _ 0 rfl _ rfl 64 bj ?_ ?_ _ _ r4 ?_ ?_)
 .simp only[aa7,af];exact sy
 .exact byteCells_one _
 .decide
 intro w3 f3 E8;rw[bG _ _ (by rw[af,sy];rfl)] at E8;have f13:aO [] w w3:=(f1.trans f2).trans f3 (by simp;have:=f1.size;omega);have h3:=h.new f13;clear r4 f3 f2;obtain⟨bl,vw,h3',_⟩:=h3;go_wp2_with fail;refine(lF d bl n vw x w3 h3').mono ?_;rintro e w4 ⟨rfl,rfl⟩;go_wp2_with fail;refine(ma n hsz.1 hsz.2 _).mono ?_;rintro e w4 ⟨rfl,rfl⟩
 go_wp2_with fail;have hns:aH n<=54:=by unfold aH;omega
 have l4w:w.heap.size<=b4:=by have:=f1.size;omega
 have HF0:Hid (dQ x n=dY (x.read 0) (aH n) (aH n) 0):=rfl
 go_loopw [10] (λi wr=>∃k:Nat,i= .int .i64 k/\k<=aH n/\wr=w4/\Hid (dQ x n=dY (x.read 0) (aH n) (aH n-k) k)) (λi _=>aH n-(intOf i).toNat)
 case atStart=>exact⟨0,rfl,by omega,rfl,HF0⟩
 case round=>
  obtain⟨k,rfl,hk,rfl,HF⟩:=hrel
  by_cases hlt:k<aH n
  .have hc:wr.cell? ⟨b4,10+k,none⟩=some (.int .u8 (da (x.read 0) k).toNat):=by
    rw[E8.cell];simp[byteCells,da,List.getD_eq_getElem?_getD];rw[List.getElem?_eq_getElem (by omega)];exact⟨_,rfl,rfl⟩
   have HR:Hid ((x.read 0).length=64):=sy;clear sy;have hm1:=Dm (x.read 0) k;have hstep:Hid (dY (x.read 0) (aH n) (aH n-k) k=if da (x.read 0) k==0 then(k:Int) else dY (x.read 0) (aH n) (aH n-(k+1)) (k+1)):=by
    show _=_;rw[show aH n-k=(aH n-(k+1))+1 by omega,dY,χ hlt]
   by_cases hm:(da (x.read 0) k==0)=true
   .have hb:(((da (x.read 0) k).toNat:Int)==0)=true:=by rw[hm1];exact hm
    have HM:Hid ((da (x.read 0) k==0)=true):=hm;clear hm hm1;go_wp2_with fail;go_ret;refine⟨pQ ?_,f13⟩;rw[HF.out,hstep.out,χ HM.out]
   .have hm':(da (x.read 0) k==0)=false:=by simpa using hm
    have hb:(((da (x.read 0) k).toNat:Int)==0)=false:=by rw[hm1];exact hm'
    have HM:Hid ((da (x.read 0) k==0)=false):=hm';clear hm hm' hm1;go_wp2_with fail
    go_roundw
    case rel=>
     refine⟨k+1,by go_num,by omega,trivial,?_⟩;show _=_;rw[HF.out,hstep.out,ζ (by rw[HM.out];simp)]
    case measure=>simp[intOf];omega
  .have HK:Hid (k=aH n):=(by omega:k=aH n)
   go_wp2_with fail;go_ret;refine⟨pQ ?_,f13⟩;rw[HF.out,HK.out,Nat.sub_self];rfl
def splice (l:List Γ)(o:Nat)(v:List Γ):List Γ:=l.take o++v++l.drop (o+v.length)
theorem lJ (l:List Γ)(o:Nat)(v:List Γ):over (byteCells l).toArray o (byteCells v)=(byteCells (splice l o v)).toArray:=by
 simp[over,splice,byteCells_append,eG,eH,af]
theorem length_splice (l:List Γ)(o:Nat)(v:List Γ)(h:o+v.length<=l.length):(splice l o v).length=l.length:=by
 simp[splice];omega
def dV (s p c:Nat):List Γ:=(((List.replicate 128 (0:Γ)).set 0 (UInt8.ofNat s)).set 1 (UInt8.ofNat p)).set 2 (UInt8.ofNat c)
def cB (s:Nat)(p c:List Γ):List Γ:=splice (splice (dV s p.length c.length) 3 (p.take 8)) 11 (c.take 117)
theorem eE (s p c:Nat):(dV s p c).length=128:=by simp[dV]
theorem mq (s:Nat)(p c:List Γ):(cB s p c).length=128:=by
 unfold cB;rw[length_splice _ _ _ (by rw[length_splice _ _ _ (by rw[eE,ae1];omega),eE,ae1];omega),length_splice _ _ _ (by rw[eE,ae1];omega),eE]
theorem FN (s p c:Nat)(hs:s<256)(hp:p<256)(hc:c<256):(((byteCells (List.replicate 128 0)).toArray.setIfInBounds 0 (.int .u8 s)).setIfInBounds 1 (.int .u8 p)).setIfInBounds 2 (.int .u8 c)=(byteCells (dV s p c)).toArray:=by
 unfold dV;rw[fM,fM,fM];simp[hs,hp,hc,Nat.mod_eq_of_lt]
theorem xV (s:Nat)(p c:Ξ)(w:Θ)(hs:s<256)(hp:p.size<256)(hc:c.size<256):
  Calls Tryz.prog 110 #[.agg #[.int .i64 s,.string p,.string c]] w λe w'=>e= .returned (.agg (byteCells (cB s p.data.toList c.data.toList)).toArray)/\aO [] w w':=by
 have hpl:Hid (p.data.toList.length=p.size):=by show _=_;rw[Array.length_toList];rfl
 have hcl:Hid (c.data.toList.length=c.size):=by show _=_;rw[Array.length_toList];rfl
 go_enter Tryz.func110,Tryz.ntmps110;go_wp2_with (with_reducible first|refine bC rfl ?_|refine ay rfl ?_|refine ax 138 rfl ?_|refine ah 138 rfl ?_|refine ah 5 rfl ?_);refine ai.go (fN rfl 107 _ rfl (.agg #[.int .i64 s,.string p,.string c]) rfl ?_);intro w1 b1 l1 f1 r1
 go_wp2_with (with_reducible first|refine bC rfl ?_|refine ay rfl ?_|refine ax 138 rfl ?_|refine ah 138 rfl ?_|refine ah 5 rfl ?_);refine ai.go (bh rfl 138 rfl mU jH ?_);intro w2 b2 l2 f2 r2
 go_wp2_with (with_reducible first|refine bC rfl ?_|refine ay rfl ?_|refine ax 138 rfl ?_|refine ah 138 rfl ?_|refine ah 5 rfl ?_);refine ai.go (bh rfl 138 rfl mU jH ?_);intro w3 b3 l3 f3 r3;have q1:Row w3 b1 #[.int .i64 s,.string p,.string c] 107:=f3.row (f2.row r1 (by simp));have q2:=f3.row r2
 have f13:=(f1.trans f2).trans f3;have hb2:w.heap.size<=b2:=by have:=f1.size;omega
 have hb3:w.heap.size<=b3:=by have:=f1.size;have:=f2.size;omega
 have n12:b1≠b2:=by have:=r1.lt;omega
 have n13:b1≠b3:=by have:=r1.lt;have:=f2.size;omega
 have n23:b2≠b3:=by have:=r2.lt;omega
 have r3':Row w3 b3 (byteCells (List.replicate 128 0)).toArray 138:=r3;clear r1 r2 r3 f1 f2 f3 l1 l2 l3;have c0:w3.cell? ⟨b1,0,none⟩=some (.int .i64 s):=by rw[q1.cell];rfl
 go_wp2_with (with_reducible first|refine bC rfl ?_|refine ay rfl ?_|refine ax 138 rfl ?_|refine ah 138 rfl ?_|refine ah 5 rfl ?_);refine ai.go (fJ rfl 5 _ _ rfl b3 0 rfl .u8 s rfl _ _ r3' (by simp only[aa7,af,List.length_replicate];omega) ?_);intro w4 f4 r4;have q1a:=f4.row q1 (by simpa using n13)
 have q2a:=f4.row q2 (by simpa using n23);have c1:w4.cell? ⟨b1,1,none⟩=some (.string p):=by rw[q1a.cell];rfl
 clear c0;go_wp2_with (with_reducible first|refine bC rfl ?_|refine ay rfl ?_|refine ax 138 rfl ?_|refine ah 138 rfl ?_|refine ah 5 rfl ?_);refine ai.go (fJ rfl 5 _ _ rfl b3 1 rfl .u8 p.size rfl _ _ r4 (by simp only[Array.size_setIfInBounds,aa7,af,List.length_replicate];omega) ?_);intro w5 f5 r5
 have q1b:=f5.row q1a (by simpa using n13);have q2b:=f5.row q2a (by simpa using n23);have c2:w5.cell? ⟨b1,2,none⟩=some (.string c):=by rw[q1b.cell];rfl
 clear c1;go_wp2_with (with_reducible first|refine bC rfl ?_|refine ay rfl ?_|refine ax 138 rfl ?_|refine ah 138 rfl ?_|refine ah 5 rfl ?_);refine ai.go (fJ rfl 5 _ _ rfl b3 2 rfl .u8 c.size rfl _ _ r5 (by simp only[Array.size_setIfInBounds,aa7,af,List.length_replicate];omega) ?_);intro w6 f6 r6
 have q1c:=f6.row q1b (by simpa using n13);have q2c:=f6.row q2b (by simpa using n23);rw[FN s p.size c.size hs hp hc] at r6;have fw:aO [] w w6:=((f13.trans f4 (by simpa using hb3)).trans f5 (by simpa using hb3)).trans f6 (by simpa using hb3);clear c2 f4 f5 f6 r4 r5 q1a q1b q2a q2b q1 q2 r3' f13
 go_wp2_with (with_reducible first|refine bC rfl ?_|refine ay rfl ?_|refine ax 138 rfl ?_|refine ah 138 rfl ?_|refine ah 5 rfl ?_)
 refine fI 5 rfl ?_;have fd:aO [] w6 w6.drew:=aO.drew _ _;have q1:=fd.row q1c;have q2:=fd.row q2c;have q3:=fd.row r6;have yA:=fw.trans fd;generalize w6.drew=w7 at q1 q2 q3 yA;clear q1c q2c r6 fw fd
 have hC:Lets (λw':Θ=>Row w' b1 #[.int .i64 s,.string p,.string c] 107):=⟨λw o h=>(aO.alloc [] w o).row h,λw h=>h⟩
 refine bY 0 (some 20) rfl rfl (λ_ _ _ h=>h) rfl (v:= .slice (some ⟨b3,3,none⟩) 8 125) (λ_=>jZ 138 5 128 _ _ _ rfl Tryz.underlying138 (by kernel_rfl) b3 0 rfl 3 11 rfl rfl (by omega) (by omega) (by omega) (by omega) _ _ _ (by omega) (by omega) (by omega)) ?_
 refine bY 1 (some 21) rfl rfl (λ_ _ _ h=>h) rfl (v:= .pointer (some ⟨b1,0,none⟩)) (λ_=>by go_simp) ?_;simp only[Act.put,bm,bn,bk];refine bY 2 (some 22) rfl rfl (λ_ _ _ h=>h) rfl (v:= .pointer (some ⟨b1,1,none⟩)) (λ_=>by go_simp) ?_
 refine lT 3 _ hC q1 (some 23) rfl rfl (λ_ _ _ h=>h) rfl (v:= .string p) (λw' hw'=>by have:=hw'.cell 1;go_simp) ?_;simp only[Act.put,bm,bn,bk];refine ru 4 (some 24) rfl rfl rfl _ _ (lQ _ _ _ _ 5 rfl Tryz.underlying85 b3 3 8 125 rfl p rfl _ _ q3 ?_) ?_
 .simp only[aa7,af,eE];have:Nat.min p.size 8<=8:=Nat.min_le_right _ _;omega
 rw[lJ];refine lV ?_;have q3':=q3.setRow (byteCells (splice (dV s p.size c.size) 3 (p.data.toList.take 8))).toArray;have f8:aO [b3] w7 (w7.setRow b3 (byteCells (splice (dV s p.size c.size) 3 (p.data.toList.take 8))).toArray):=aO.setRow _ _ _ _;have q1':=f8.row q1 (by simpa using n13);have q2':=f8.row q2 (by simpa using n23)
 have ry:aO [] w _:=yA.trans f8 (by simpa using hb3);generalize w7.setRow b3 (byteCells (splice (dV s p.size c.size) 3 (p.data.toList.take 8))).toArray=w8 at q1' q2' q3' ry;clear q1 q2 q3 f8 yA;simp only[Act.put,bm,bn,bk]
 go_wp2_with (with_reducible first|refine bC rfl ?_|refine ay rfl ?_|refine ax 138 rfl ?_|refine ah 138 rfl ?_|refine ah 5 rfl ?_)
 refine fI 4 rfl ?_;have fd:aO [] w8 w8.drew:=aO.drew _ _;have q1:=fd.row q1';have q2:=fd.row q2';have q3:=fd.row q3';have fw9:=ry.trans fd;generalize w8.drew=w9 at q1 q2 q3 fw9;clear q1' q2' q3' ry fd
 refine bY 0 (some 25) rfl rfl (λ_ _ _ h=>h) rfl (v:= .slice (some ⟨b3,11,none⟩) 117 117) (λ_=>mr 138 5 128 _ _ rfl Tryz.underlying138 (by kernel_rfl) b3 0 rfl 11 rfl (by omega) (by omega) _ _ (by omega) (by omega)) ?_
 refine bY 1 (some 26) rfl rfl (λ_ _ _ h=>h) rfl (v:= .pointer (some ⟨b1,2,none⟩)) (λ_=>by go_simp) ?_;refine lT 2 _ hC q1 (some 27) rfl rfl (λ_ _ _ h=>h) rfl (v:= .string c) (λw' hw'=>by have:=hw'.cell 2;go_simp) ?_
 simp only[Act.put,bm,bn,bk];have hsp:(splice (dV s p.size c.size) 3 (p.data.toList.take 8)).length=128:=by rw[length_splice _ _ _ (by rw[eE,ae1];omega),eE]
 refine ru 3 (some 28) rfl rfl rfl _ _ (lQ _ _ _ _ 5 rfl Tryz.underlying85 b3 11 117 117 rfl c rfl _ _ q3 ?_) ?_
 .simp only[aa7,af,hsp];have:Nat.min c.size 117<=117:=Nat.min_le_right _ _;omega
 rw[lJ];refine lV ?_;have er:splice (splice (dV s p.size c.size) 3 (p.data.toList.take 8)) 11 (c.data.toList.take 117)=cB s p.data.toList c.data.toList:=by unfold cB;rw[hpl.out,hcl.out]
 rw[er];have q3':=q3.setRow (byteCells (cB s p.data.toList c.data.toList)).toArray;have f10:aO [b3] w9 (w9.setRow b3 (byteCells (cB s p.data.toList c.data.toList)).toArray):=aO.setRow _ _ _ _;have q2':=f10.row q2 (by simpa using n23);have adX:aO [] w _:=fw9.trans f10 (by simpa using hb3)
 generalize w9.setRow b3 (byteCells (cB s p.data.toList c.data.toList)).toArray=w10 at q2' q3' adX;have h128:Hid ((cB s p.data.toList c.data.toList).length=128):=mq _ _ _;clear q1 q2 q3 f10 fw9 er hsp hC;simp only[Act.put,bm,bn,bk]
 go_wp2_with (with_reducible first|refine bC rfl ?_|refine ay rfl ?_|refine ax 138 rfl ?_|refine ah 138 rfl ?_|refine ah 5 rfl ?_);refine ai.go (bV rfl 138 _ rfl b3 0 rfl jm 128 eW _ _ q3' (byteCells (cB s p.data.toList c.data.toList)) ?_ ?_ ?_)
 .simp only[List.drop_zero];exact θ (by rw[af];exact ah1 h128.out)
 .rw[af];exact h128.out
 go_wp2_with (with_reducible first|refine bC rfl ?_|refine ay rfl ?_|refine ax 138 rfl ?_|refine ah 138 rfl ?_|refine ah 5 rfl ?_);refine ai.go (bP rfl 138 _ _ rfl _ 0 rfl _ rfl 128 eW ?_ ?_ _ _ q2' ?_ ?_)
 .simp only[aa7,af];exact h128.out
 .exact byteCells_one _
 .decide
 intro w11 f11 q11;rw[bG _ _ (by simp only[af];rw[h128.out];rfl)] at q11;have aib:aO [] w w11:=adX.trans f11 (by simpa using hb2);go_wp2_with (with_reducible first|refine bC rfl ?_|refine ay rfl ?_|refine ax 138 rfl ?_|refine ah 138 rfl ?_|refine ah 5 rfl ?_)
 exact lH rfl b2 rfl rfl _ _ q11 jm (by simp only[aa7,af];rw[h128.out];exact eW) ⟨rfl,aib⟩
theorem SD (t:η)(a b c:Int)(w:Θ)(h:a+b=c)(h0:0<=c)(h1:c<=9223372036854775807):(binOp .add t (.int .i64 a) (.int .i64 b)).run Tryz.prog w= .ok (.int .i64 c) w:=by
 subst h;have:=IntWalk.i64_in (a+b) (by omega);go_simp
def DS.wr (x:DS)(i:Nat)(r:List Γ):Nat->DS
 |0=>x
 |k+1=>(x.wr i r k).write (1+2*i+k:Nat) ((r.drop (k*64)).take 64)
def DS.oe (x:DS)(i:Nat)(r:List Γ):DS:=if x.bp then(if(x.wr i r 1).bp then(x.wr i r 2).flush else x.wr i r 2) else x.wr i r 1
def DS.jV (x:DS)(i:Nat)(r:List Γ):Bool:=x.bp&&(x.wr i r 1).bp&&(x.wr i r 2).bp
theorem DS.It {x:DS}{s:Int}{l:List Γ}{m:Nat}(h:x.waiting.length<=m):(x.write s l).waiting.length<=m+1:=by
 unfold DS.write DS.stopped DS.fall;split
 .simp;omega
 .split
  .omega
  .simp
theorem DS.KT {x:DS}{i:Nat}{r:List Γ}{m:Nat}(h:x.waiting.length<=m):∀k,(x.wr i r k).waiting.length<=m+k
 |0=>h
 |k+1=>DS.It (DS.KT h k)
theorem DS.EC {x:DS}{i:Nat}{r:List Γ}{m:Nat}:∀k,x.Fit (m+k)->(∀j,j<k->(x.wr i r j).bp=true)->(x.wr i r k).Fit m
 |0,h,_=>h
 |k+1,h,hc=>DS.jd (DS.EC (m:=m+1) k (by rw[show m+1+k=m+(k+1) by omega];exact h) λj hj=>hc j (by omega)) (hc k (by omega))
section
variable {P:ω}{ops:Array Oper}{Q:Exit->Act->Θ->Prop}
theorem Et {n:Nat}(k:Nat){oi:Oper}{a:Act}{w:Θ}(hk:k<n)(dst:Option Tmp)(hi:ops[k]? =some oi)(hd:oi.dst=dst)(hr:Region.ready .any ops (upto n k)=[k])(hg:oi.guard=none)
  (f:aa9) (args:Array Φ) (hx:(execOp a.eval oi).run P w= .ok (.enter f args) w) (R:Ending->Θ->Prop) (hc:Calls P f args w R)
  (h:∀e w',R e w'->∃v,e= .returned v/\At P ops Q n (k+1) (a.put dst v) w'):At P ops Q n k a w:=
 at_one k hk hi hr hg λK hK=>by
  unfold Oper.wp;rw[hx];simp only[Oper.upon];refine hc.mono ?_;intro e w' he;obtain⟨v,rfl,hv⟩:=h e w' he;rw[hd];exact hK _ _ hv
end
theorem tb (F:List Nat)(d n:Nat)(x:DS)(i:Nat)(r:List Γ)(w:Θ)(h:bJ w F d n x)(hx:x.Fit 3)(eZ:x.waiting.length<55)(hi:i<aH n)(hr:r.length=128):
  Calls Tryz.prog 109 #[.pointer (some ⟨d,0,none⟩),.int .i64 i,.agg (byteCells r).toArray] w λe w'=>e= .returned (cO (x.jV i r))/\∃F',bJ w' F' d n (x.oe i r)/\aO F w w'/\bZ F F' w:=by
 have hsz:=h.size;have adf:i<54:=by unfold aH at hi;omega
 have hin:2*i+2<n:=by unfold aH at hi;omega
 go_enter Tryz.func109,Tryz.ntmps109;go_wp2_with (with_reducible first|refine bC rfl ?_|refine ay rfl ?_|refine ax 138 rfl ?_);refine ai.go (fN rfl 138 _ rfl (.agg (byteCells r).toArray) rfl ?_);intro w1 b5 l5 f1 r5;have h1:=h.new f1;have n5:b5∉F:=λhF=>by have:=h.lt _ hF;omega
 have HR:Hid (r.length=128):=hr;clear hr;go_wp2_with (with_reducible first|refine bC rfl ?_|refine ay rfl ?_|refine ax 138 rfl ?_);have HW:Hid (∀k,k<2->x.wr i r (k+1)=(x.wr i r k).write (1+2*i+k:Nat) ((r.drop (k*64)).take 64)):=λk _=>rfl
 have adx:Hid (∀k,k<=2->(∀j,j<k->(x.wr i r j).bp=true)->(x.wr i r k).Fit 1):=λk hk hc=>DS.EC k ⟨hx.kb,by have:=hx.ka;omega,hx.j9,hx.j8⟩ hc
 have ah0:Hid (∀k,k<=2->(x.wr i r k).waiting.length<60):=λk hk=>by have:=DS.KT (x:=x) (i:=i) (r:=r) (φ _) k;omega
 have H0:Hid (x.wr i r 0=x):=rfl;have ZE:Hid (x.oe i r=if x.bp then(if(x.wr i r 1).bp then(x.wr i r 2).flush else x.wr i r 2) else x.wr i r 1):=rfl;have HOk:Hid (x.jV i r=(x.bp&&(x.wr i r 1).bp&&(x.wr i r 2).bp)):=rfl;have h1':bJ w1 F d n (x.wr i r 0):=h1;generalize x.wr i r=y at*
 go_loopw [10] (λc wr=>∃k:Nat,c= .int .i64 k/\k<=2/\Hid (∀j,j<k->(y j).bp=true)/\∃F',bJ wr F' d n (y k)/\aO F w wr/\Hid (bZ F F' w)/\Row wr b5 (byteCells r).toArray 138/\Hid (b5∉F')) (λc _=>2-(intOf c).toNat)
 case atStart=>exact⟨0,rfl,by omega,λj hj=>by omega,F,h1',f1.mono,bZ.refl _ _,r5,n5⟩
 case round=>
  obtain⟨k,rfl,hk,HC,F',ho,fk,gk,q5,n5'⟩:=hrel;clear h1 h1' f1 r5
  by_cases hlt:k<2
  .go_wp2_with (with_reducible first|refine bC rfl ?_|refine ay rfl ?_|refine ax 138 rfl ?_)
   refine ai.go (bh rfl 148 rfl eO dz ?_);intro w2 b8 l8 f2 r8;have q5a:=f2.row q5;have hoa:=ho.new f2;have fka:=fk.trans f2;have n58:b5≠b8:=by have:=q5.lt;omega
   have n8:b8∉F':=λhF=>by have:=ho.lt _ hF;omega
   have n8w:w.heap.size<=b8:=by have:=fk.size;omega
   clear q5 ho fk f2 l8;go_wp2_with fail;refine fI 5 rfl ?_;have fd:aO [] w2 w2.drew:=aO.drew _ _;have q5b:=fd.row q5a;have q8b:Row w2.drew b8 eO.cells 148:=fd.row r8;have ZZ:=hoa.new fd;have fkb:=fka.trans fd;generalize w2.drew=w3 at q5b q8b ZZ fkb;clear q5a r8 hoa fka fd
   refine bY 0 (some 13) rfl rfl (λ_ _ _ h=>h) rfl (v:= .slice (some ⟨b8,0,none⟩) 64 64) (λ_=>by go_simp) ?_;refine bY 1 (some 14) rfl rfl (λ_ _ _ h=>h) rfl (v:= .int .i64 k) (λ_=>rfl) ?_
   refine bY 2 (some 15) rfl rfl (λ_ _ _ h=>h) rfl (v:= .int .i64 (k*64)) (λ_=>by go_simp;exact IntWalk.i64_in _ (by omega)) ?_;simp only[Act.put,bm,bn,bk]
   refine bY 3 (some 16) rfl rfl (λ_ _ _ h=>h) rfl (v:= .slice (some ⟨b5,k*64,none⟩) (128-k*64) (128-k*64)) (λ_=>mr 138 5 128 _ _ rfl Tryz.underlying138 (by kernel_rfl) b5 0 rfl (k*64) rfl (by omega) (by omega) _ _ (by omega) (by omega)) ?_;simp only[Act.put,bm,bn,bk]
   have hmin:Nat.min (128-k*64) 64=64:=Nat.min_eq_right (by omega);have hseg:((r.drop (k*64)).take 64).length=64:=by rw[ae1,List.length_drop,HR.out];omega
   refine ru 4 (some 17) rfl rfl rfl _ _ (Ia _ _ _ _ 5 rfl Tryz.underlying85 (by kernel_rfl) b8 0 _ _ rfl b5 (k*64) _ _ rfl _ _ q8b _ _ q5b (byteCells ((r.drop (k*64)).take 64)) ?_ ?_ ?_ (byteCells_one _)) ?_
   .rw[hmin];rw[eH,eG]
   .rw[hmin,af,hseg]
   .rw[af,hseg];decide
   rw[bG _ _ (by rw[af,hseg];rfl)];refine lV ?_;have q8c:=q8b.setRow (byteCells ((r.drop (k*64)).take 64)).toArray;have f3:aO [b8] w3 (w3.setRow b8 (byteCells ((r.drop (k*64)).take 64)).toArray):=aO.setRow _ _ _ _;have q5c:=f3.row q5b (by simpa using n58);have hoc:=ZZ.xJ f3 (by simpa using n8);have fkc:=fkb.trans f3 (by simp;omega)
   have SF:Hid (((r.drop (k*64)).take 64).length=64):=hseg;generalize hsg:(r.drop (k*64)).take 64=seg at*;have HSG:Hid ((r.drop (k*64)).take 64=seg):=hsg;generalize w3.setRow b8 (byteCells seg).toArray=w4 at q8c q5c hoc fkc;clear q8b q5b ZZ fkb f3 hmin hseg hsg;simp only[Act.put,bm,bn,bk];go_wp2_with fail;refine fI 8 rfl ?_;have fd:aO [] w4 w4.drew:=aO.drew _ _
   have q5:=fd.row q5c;have q8:=fd.row q8c;have ho:=hoc.new fd;have fk:=fkc.trans fd;generalize w4.drew=w5 at q5 q8 ho fk;clear q5c q8c hoc fkc fd;have hC:Lets (λw':Θ=>Row w' b8 (byteCells seg).toArray 148):=⟨λw o h=>(aO.alloc [] w o).row h,λw h=>h⟩
   refine bY 0 (some 18) rfl rfl (λ_ _ _ h=>h) rfl (v:= .pointer (some ⟨d,0,none⟩)) (λ_=>rfl) ?_;refine bY 1 (some 19) rfl rfl (λ_ _ _ h=>h) rfl (v:= .int .i64 i) (λ_=>rfl) ?_;simp only[Act.put,bm,bn,bk]
   refine SA 2 _ hC q8 (by omega) (some 20) rfl rfl (by kernel_rfl) (by kernel_rfl) (by kernel_rfl) rfl (by kernel_rfl) 115 #[.int .i64 i] (.int .i64 (1+2*i:Nat)) (λ_ _ _ h=>h) (λ_=>by go_simp) (λw' _=>n9 i (by omega) w') ?_;refine bY 3 (some 21) rfl rfl (λ_ _ _ h=>h) rfl (v:= .int .i64 k) (λ_=>rfl) ?_
   simp only[Act.put,bm,bn,bk];have ahC:((1+2*i:Nat):Int)<=400:=by omega
   refine bY 4 (some 22) rfl rfl (λ_ _ _ h=>h) rfl (v:= .int .i64 (1+2*i+k:Nat)) (λ_=>tQ _ _ _ _ _ rfl (.int .i64 (1+2*i:Nat)) (.int .i64 k) rfl rfl _ rfl (SD _ _ _ _ _ (by omega) (by omega) (by omega))) ?_;simp only[Act.put,bm,bn,bk]
   refine ru 5 (some 23) rfl rfl rfl _ w5 (iW 148 _ rfl b8 0 rfl dr 64 bj _ _ q8 (byteCells seg) ?_ (by rw[af];exact SF.out)) ?_
   .simp only[List.drop_zero];exact θ (by rw[af];exact ah1 SF.out)
   refine Et 6 (by omega) (some 24) rfl rfl (by kernel_rfl) rfl 148 #[.pointer (some ⟨d,0,none⟩),.int .i64 (1+2*i+k:Nat),.agg (byteCells seg).toArray] (by go_simp) _ (kJ F' d n (y k) (1+2*i+k:Nat) seg w5 ho (adx.out k hk HC.out) SF.out (ah0.out k hk)) ?_;rintro e w6 ⟨rfl,F6,h6,f6,g6⟩;refine⟨_,rfl,?_⟩
   refine bY 7 (some 9) rfl rfl (λ_ _ _ h=>h) rfl (v:=cO (y k).bp) (λ_=>rfl) ?_;simp only[Act.put,bm,bn,bk];refine lV ?_;have hy:(y k).write (1+2*i+k:Nat) seg=y (k+1):=by rw[HW.out k hlt,HSG.out]
   rw[hy] at h6;have q56:=f6.row q5 (λhF=>n5'.out hF);have qZ:aO F w w6:=fk.trans f6 (λj hj=>gk.out j hj);have gw6:Hid (bZ F F6 w):=λj hj=>(g6 j hj).elim (λh=>gk.out j h) (λh=> .inr (by have:=fk.size;omega))
   have n56:Hid (b5∉F6):=λhF=>(g6 _ hF).elim n5'.out (λh=>by have:=q5.lt;omega)
   clear hC q5 q8 ho fk hy f6 g6 gk n5' HSG SF ahC;cases hc:(y k).bp with
   |true=>
    have HCA:Hid ((y k).bp=true):=hc;simp only[cO,if_true];clear hc;go_wp2_with fail
    go_roundw
    case rel=>
     refine⟨k+1,by go_num,by omega,λj hj=>?_,F6,h6,qZ,gw6,q56,n56⟩;rcases Nat.lt_or_ge j k with h|h
     .exact HC.out j h
     .obtain rfl:j=k:=by omega
      exact HCA.out
    case measure=>simp[intOf];omega
   |false=>
    have HCA:Hid ((y k).bp=false):=hc;simp only[cO];clear hc;have hres:x.jV i r=false/\x.oe i r=y (k+1):=by
     have ahM:k=0\/k=1:=by omega
     rcases ahM with rfl|rfl
     .have h0:x.bp=false:=by rw[<-H0.out];exact HCA.out
      exact⟨by rw[HOk.out,h0];rfl,by rw[ZE.out,h0];rfl⟩
     .have h0:x.bp=true:=by rw[<-H0.out];exact HC.out 0 (by omega)
      exact⟨by rw[HOk.out,h0,HCA.out];rfl,by rw[ZE.out,h0,HCA.out];rfl⟩
    have OO:Hid (x.jV i r=false/\x.oe i r=y (k+1)):=hres;clear hres;go_wp2_with fail;go_ret;exact⟨by rw[OO.out.1];rfl,F6,by rw[OO.out.2];exact h6,qZ,gw6.out⟩
  .obtain rfl:k=2:=by omega
   have h0:x.bp=true:=by rw[<-H0.out];exact HC.out 0 (by omega)
   have OO:Hid (x.jV i r=(y 2).bp/\x.oe i r=(y 2).flush):=by
    constructor
    .rw[HOk.out,h0,HC.out 1 (by omega)];rfl
    .rw[ZE.out,h0,HC.out 1 (by omega)];rfl
   clear h0;go_wp2_with fail;refine(lh F' d n (y 2) wr ho (adx.out 2 (by omega) HC.out)).mono ?_;rintro e w9 ⟨rfl,F9,h9,f9,g9⟩;go_wp2_with fail;go_ret;exact⟨by rw[OO.out.1];rfl,F9,by rw[OO.out.2];exact h9,fk.trans f9 (λj hj=>gk.out j hj),gk.out.trans g9 fk.size⟩
theorem DS.Ac {x:DS}{r:Nat}(h:x.Fit (r+1))(hc:x.bp=true):x.flush.Fit r:=by
 have h2:=DS.jd (s:=0) (l:=[]) h hc;unfold DS.write at h2;unfold DS.flush;rw[χ hc] at h2⊢;exact⟨h2.kb,h2.ka,h2.j9,h2.j8⟩
theorem DS.O9 {x:DS}{i:Nat}{r:List Γ}(h:x.jV i r=true):x.oe i r=(x.wr i r 2).flush/\x.bp=true/\(x.wr i r 1).bp=true/\(x.wr i r 2).bp=true:=by
 unfold DS.jV at h;simp only[ξ] at h;unfold DS.oe;rw[χ h.1.1,χ h.1.2];exact⟨rfl,h.1.1,h.1.2,h.2⟩
theorem DS.BV {x:DS}{i:Nat}{r:List Γ}{m:Nat}(hx:x.Fit (m+3))(h:x.jV i r=true):(x.oe i r).Fit m/\(x.oe i r).waiting=[]:=by
 obtain⟨e,h0,h1,h2⟩:=DS.O9 h;rw[e];refine⟨DS.Ac (DS.EC (m:=m+1) 2 (by rw[show m+1+2=m+3 by omega];exact hx) λj hj=>?_) h2,?_⟩
 .rcases Nat.lt_or_ge j 1 with h|h
  .obtain rfl:j=0:=by omega
   exact h0
  .obtain rfl:j=1:=by omega
   exact h1
 .unfold DS.flush;rw[χ h2]
def DS.put (x:DS)(n s:Nat)(p:Ξ)(c:Ξ):DS×Φ:=
 if dQ x n=-1 then(x,.int .i64 7)
 else if x.jV (dQ x n).toNat (cB s p.data.toList c.data.toList) then
  ((
    x.oe (dQ x n).toNat (cB s p.data.toList c.data.toList)).mark (dQ x n) (cK x s p (taken x n)),
    cO ((x.oe (dQ x n).toNat (cB s p.data.toList c.data.toList)).jq (dQ x n) (cK x s p (taken x n))))
 else(x.oe (dQ x n).toNat (cB s p.data.toList c.data.toList),.int .i64 3)
def DS.remove (x:DS)(n s:Nat)(p:Ξ):DS×Φ:=
 if cK x s p (taken x n)=-1 then(x,.int .i64 5)
 else(x.mark (-1) (cK x s p (taken x n)),cO (x.jq (-1) (cK x s p (taken x n))))
theorem rK (n:Nat)(x:DS)(s:Int)(p:Ξ):-1<=cK x s p (taken x n)/\cK x s p (taken x n)<aH n:=by
 rcases m7 x s p (taken x n) with hs|⟨i,hi,hs,_⟩
 .rw[hs];omega
 .rw[hs];have:=jJ x n i hi;omega
theorem oV (F:List Nat)(d n:Nat)(x:DS)(s:Nat)(p:Ξ)(w:Θ)(h:bJ w F d n x)(hx:x.Fit 2)(eZ:x.waiting.length<60):
  Calls Tryz.prog 78 #[.pointer (some ⟨d,0,none⟩),.agg (cZ s p)] w λe w'=>e= .returned (x.remove n s p).2/\∃F',bJ w' F' d n (x.remove n s p).1/\aO F w w'/\bZ F F' w:=by
 have hn:aH n<=54:=by unfold aH;omega
 go_enter Tryz.func78,Tryz.ntmps78;go_wp2_with (with_reducible first|refine bC rfl ?_|refine ax 103 rfl ?_);refine ai.go (fN rfl 103 _ rfl (.agg (cZ s p)) rfl ?_);intro w1 b3 l3 f1 r3;have h1:=h.new f1;go_wp2_with (with_reducible first|refine bC rfl ?_|refine ax 103 rfl ?_)
 refine ai.go (bV rfl 103 _ rfl b3 0 rfl ee 2 dh _ _ r3 [.int .i64 s,.string p] rfl rfl ?_);go_wp2_with fail;obtain⟨bl,vw,h1',hF⟩:=id h1;refine(qP d bl n vw x s p w1 h1').mono ?_;rintro e w2 ⟨rfl,f2⟩;have hr:=rK n x s p;have h2:=h1.new f2;have fw:=f1.trans f2
 have HD:Hid (x.remove n s p=if cK x s p (taken x n)=-1 then(x,.int .i64 5) else(x.mark (-1) (cK x s p (taken x n)),cO (x.jq (-1) (cK x s p (taken x n))))):=rfl;generalize cK x s p (taken x n)=k at*;clear h1' f1 f2 r3 hF h1;have fF:aO F w w2:=fw.mono;rcases Int.lt_or_le k 0 with hk|hk
 .obtain rfl:k=-1:=by omega
  go_wp2_with fail;go_ret;rw[HD.out];exact⟨rfl,F,h2,fF,bZ.refl _ _⟩
 .have hne:(k==-1)=false:=by rw[ae8];omega
  go_wp2_with fail;refine(zX F d n x (-1) k w2 h2 hx eZ (by omega) (by omega) (by omega) (by omega)).mono ?_;rintro e w3 ⟨rfl,F3,h3,f3,g3⟩;go_wp2_with fail;go_ret;rw[HD.out,ζ (by omega)];exact⟨rfl,F3,h3,fF.trans f3 (λj hj=> .inl hj),(bZ.refl F w).trans g3 fw.size⟩
theorem wW (F:List Nat)(d n:Nat)(x:DS)(s:Nat)(p c:Ξ)(w:Θ)(h:bJ w F d n x)(hx:x.Fit 5)(eZ:x.waiting.length<55)(hs:s<256)(hp:p.size<256)(hc:c.size<256):
  Calls Tryz.prog 76 #[.pointer (some ⟨d,0,none⟩),.agg #[.int .i64 s,.string p,.string c]] w λe w'=>e= .returned (x.put n s p c).2/\∃F',bJ w' F' d n (x.put n s p c).1/\aO F w w'/\bZ F F' w:=by
 have hn:aH n<=54:=by unfold aH;omega
 go_enter Tryz.func76,Tryz.ntmps76;go_wp2_with (with_reducible first|refine bC rfl ?_|refine ax 103 rfl ?_|refine ax 107 rfl ?_);refine ai.go (fN rfl 107 _ rfl (.agg #[.int .i64 s,.string p,.string c]) rfl ?_);intro w1 b3 l3 f1 r3;have h1:=h.new f1
 go_wp2_with (with_reducible first|refine bC rfl ?_|refine ax 103 rfl ?_|refine ax 107 rfl ?_);refine(Bp F d n x w1 h1).mono ?_;rintro e w2 ⟨rfl,f2⟩;have h2:=h1.new f2;have r32:=f2.row r3;have fw:=f1.trans f2;clear h1 f1 f2 r3;have HD:Hid (x.put n s p c=if dQ x n=-1 then(x,.int .i64 7)
 else if x.jV (dQ x n).toNat (cB s p.data.toList c.data.toList) then
  ((
    x.oe (dQ x n).toNat (cB s p.data.toList c.data.toList)).mark (dQ x n) (cK x s p (taken x n)),
    cO ((x.oe (dQ x n).toNat (cB s p.data.toList c.data.toList)).jq (dQ x n) (cK x s p (taken x n))))
 else(x.oe (dQ x n).toNat (cB s p.data.toList c.data.toList),.int .i64 3)):=rfl
 have hf:dQ x n=-1\/∃i:Nat,i<aH n/\dQ x n=i:=by
  rcases k8 (x.read 0) (aH n) (aH n) 0 with hf|⟨i,hi,hf,_⟩
  .exact .inl hf
  .exact .inr ⟨i,hi,hf⟩
 generalize dQ x n=fs at*;rcases hf with rfl|⟨i,hi,rfl⟩
 .go_wp2_with fail
  go_ret;rw[HD.out];exact⟨rfl,F,h2,fw.mono,bZ.refl _ _⟩
 .have hne:((i:Int)==-1)=false:=by rw[ae8];omega
  simp only[Int.toNat_natCast] at HD;go_wp2_with (with_reducible first|refine ax 103 rfl ?_|refine ax 107 rfl ?_);refine ai.go (bV rfl 103 _ rfl b3 0 rfl ee 2 dh _ _ r32 [.int .i64 s,.string p] rfl rfl ?_);go_wp2_with (with_reducible first|refine ax 103 rfl ?_|refine ax 107 rfl ?_);obtain⟨bl,vw,h2',hF⟩:=id h2
  refine(qP d bl n vw x s p w2 h2').mono ?_;rintro e w3 ⟨rfl,f3⟩;have hr:=rK n x s p;have h3:=h2.new f3;have r33:=f3.row r32;have vp:=fw.trans f3;generalize cK x s p (taken x n)=k at*;clear h2' hF h2 r32 fw f3;go_wp2_with (with_reducible first|refine ax 103 rfl ?_|refine ax 107 rfl ?_)
  refine ai.go (bV rfl 107 _ rfl b3 0 rfl jM 3 d8 _ _ r33 [.int .i64 s,.string p,.string c] rfl rfl ?_);go_wp2_with fail;refine(xV s p c w3 hs hp hc).mono ?_;rintro e w4 ⟨rfl,f4⟩;have h4:=h3.new f4;have yB:=(vp.trans f4).mono (T:=F) (by simp);generalize hR:cB s p.data.toList c.data.toList=R at*
  have hRl:R.length=128:=by rw[<-hR];exact mq _ _ _
  clear hR;go_wp2_with fail;refine(tb F d n x i R w4 h4 ⟨hx.kb,by have:=hx.ka;omega,hx.j9,hx.j8⟩ eZ hi hRl).mono ?_;rintro e w5 ⟨rfl,F5,h5,f5,g5⟩;have po:=yB.trans f5 (λj hj=> .inl hj);have gw5:=(bZ.refl F w).trans g5 yB.size;cases hok:x.jV i R with
  |true=>
   rw[hok] at HD;have hfit:=DS.BV (m:=2) hx hok;generalize x.oe i R=y at*;clear hok;simp only[cO,if_true];go_wp2_with fail;refine(zX F5 d n y i k w5 h5 hfit.1 (by rw[hfit.2];decide) (by omega) (by omega) (by omega) (by omega)).mono ?_;rintro e w6 ⟨rfl,F6,h6,f6,g6⟩;go_wp2_with fail;go_ret;rw[HD.out,ζ (by omega)];exact⟨rfl,F6,h6,po.trans f6 gw5,gw5.trans g6 po.size⟩
  |false=>
   rw[hok] at HD;generalize x.oe i R=y at*;clear hok;simp only[cO];go_wp2_with fail;go_ret;rw[HD.out,ζ (by omega)];exact⟨rfl,F5,h5,po,gw5⟩
def marks (n:Nat)(l:List Nat):Array Bool:=((List.range n).map λj=>l.contains j).toArray
theorem tI (n k:Nat)(l:List Nat)(h:k<n):(marks n l).setIfInBounds k true=marks n (k::l):=by
 apply Array.ext_getElem?
 intro i;simp only[marks,Array.getElem?_setIfInBounds,aa7,ag0,List.length_range,List.getElem?_toArray,List.getElem?_map]
 by_cases hi:k=i
 .subst hi;simp[h]
 .simp only[hi,if_false]
  by_cases hn:i<n
  .simp[List.getElem?_range hn,Ne.symm hi]
  .rw[List.getElem?_eq_none (by simp;omega)];rfl
def yv (P:ω)(ops:Array Oper)(Q:Exit->Act->Θ->Prop)(n m:Nat)(l:List Nat)(a:Act)(w:Θ):Prop:=wpAny P .any ops Q m (marks n l) a w
section
variable {P:ω}{ops:Array Oper}{Q:Exit->Act->Θ->Prop}
theorem sY {n:Nat}{a:Act}{w:Θ}(h:yv P ops Q n n [] a w):At P ops Q n 0 a w:=by
 unfold At;have e:upto n 0=marks n []:=by simp[upto,marks]
 rw[e];exact h
theorem ec {n m:Nat}{l:List Nat}(k:Nat){oi:Oper}{v:Φ}{a:Act}{w:Θ}(dst:Option Tmp)(hi:ops[k]? =some oi)(hd:oi.dst=dst)(hQ:∀c a w,Q (.panic c) (a.put oi.dst v) w->Q (.panic c) a w)(hg:oi.guard=none)(hy:∀w,(execOp a.eval oi).run P w= .ok (.value v) w)(h:yv P ops Q n m (k::l) (a.put dst v) w)(hk:k<n:=by omega)(hs:Region.noSelect ops=true:=by kernel_rfl)(hf:Region.free .any ops (marks n l) k=true:=by kernel_rfl)(hr:(Region.ready .any ops (marks n l)).contains k=true:=by kernel_rfl):yv P ops Q n (m+1) l a w:=
 Ex hi hs hf hr hQ hg hy (by rw[tI n k l hk,hd];exact h)
theorem OG {n m:Nat}{l:List Nat}(k:Nat){oi:Oper}{a:Act}{w:Θ}(hk:k<n)(dst:Option Tmp)(hi:ops[k]? =some oi)(hd:oi.dst=dst)(hr:Region.ready .any ops (marks n l)=[k])(hg:oi.guard=none)
  (v:Φ) (w1:Θ) (hrun:(execOp a.eval oi).run P w= .ok (.value v) w1) (h:yv P ops Q n m (k::l) (a.put dst v) w1):yv P ops Q n (m+1) l a w:=
 Ij hr hi hg v w1 hrun (by rw[tI n k l hk,hd];exact h)
theorem sX {n m:Nat}{l:List Nat}{a:Act}{w:Θ}(h:Q .normal a w)(hr:Region.ready .any ops (marks n l)=[]:=by kernel_rfl):yv P ops Q n m l a w:=wpAny_done hr h _
end
theorem Mv (v:Φ)(c m:Nat)(hc:0<c):madeCells (List.replicate c v).toArray m=(List.replicate m v).toArray:=by
 apply Array.ext_getElem?
 intro i;have hz:∀j,j<c->((List.replicate c v).toArray)[j]! =v:=λj hj=>by
  rw[getElem!_pos _ j (by simpa using hj)];simp
 by_cases h:i<m
 .simp only[madeCells,af2,Array.getElem?_range,h,if_true,ε,aa7,List.length_replicate,List.getElem?_toArray,List.getElem?_replicate]
  rw[hz _ (Nat.mod_lt _ hc)]
 .simp[madeCells,h]
theorem Jq (m:Nat):madeCells eO.cells m=(byteCells (List.replicate m 0)).toArray:=by
 have e:eO.cells=(List.replicate 64 (Value.int .u8 ((0:Γ).toNat))).toArray:=by
  show(byteCells (List.replicate 64 0)).toArray=_;unfold byteCells;rw[List.map_replicate]
 rw[e,Mv _ _ _ (by decide)];unfold byteCells;rw[List.map_replicate]
def DS.fresh (l:List Γ):DS:=⟨l,[],0,false,0,0,false⟩
def laid (l:List Γ)(n k:Nat):List Γ:=l.take (k*64)++List.replicate ((n-k)*64) 0
theorem Ds (l:List Γ)(n k:Nat)(hl:l.length=64*n)(hk:k<=n):(laid l n k).length=64*n:=by
 simp[laid];omega
theorem Cq (l:List Γ)(n k:Nat)(hl:l.length=64*n)(hk:k<n):splice (laid l n k) (k*64) ((l.drop (k*64)).take 64)=laid l n (k+1):=by
 unfold splice laid;have h1:(l.take (k*64)).length=k*64:=by rw[ae1];omega
 have h2:((l.drop (k*64)).take 64).length=64:=by rw[ae1,List.length_drop];omega
 rw[List.take_append_of_le_length (by omega),θ (ah1 h1),h2,List.drop_append,List.drop_of_length_le (show(l.take (k*64)).length<=k*64+64 by omega),h1,List.drop_replicate,show(k+1)*64=k*64+64 by omega,List.take_add];simp only[List.nil_append,List.append_assoc];rw[show(n-k)*64-(k*64+64-k*64)=(n-(k+1))*64 by omega]
theorem DC:(Tryz.prog.info? 148).map (λi=>(i.size,i.bytes,i.zero))=some (64,64,some eO):=by kernel_rfl
theorem Gs (bl n:Nat):Tryz.prog.built 134 [(0,.slice (some ⟨bl,0,none⟩) n n)]=some (iC bl n (.slice none 0 0) (DS.fresh [])):=by kernel_rfl
theorem tf:Tryz.prog.underlying 129=some (.slice 148):=by kernel_rfl
theorem bE {P:ω}{ops:Array Oper}{Q:Exit->Act->Θ->Prop}{a:Act}{w:Θ}{rest:List Oper}{o:Oper}(t:η){ps:Array (Nat×aa8)}(_:o.op= .build t ps)(h:ai (wpList P ops Q (o::rest) a w)):wpList P ops Q (o::rest) a w:=h
theorem zC {P:ω}{ops:Array Oper}{Q:Exit->Act->Θ->Prop}{a:Act}{w:Θ}{rest:List Oper}{o:Oper}(t:η){x y:aa8}(_:o.op= .makeSlice t x y)(h:ai (wpList P ops Q (o::rest) a w)):wpList P ops Q (o::rest) a w:=h
theorem Pe {P:ω}{ops:Array Oper}{Q:Exit->Act->Θ->Prop}{a:Act}{w:Θ}{rest:List Oper}{o:Oper}(hg:o.guard=none)(t e:η)(x y:aa8)(ho:o.op= .makeSlice t x y)(ht:P.underlying t=some (.slice e))(sz by_:Nat)(z:Φ)
  (hi:(P.info? e).map (λi=>(i.size,i.bytes,i.zero))=some (sz,by_,some z)) (n:Nat) (hx:a.eval x= .int .i64 n) (hy:a.eval y= .int .i64 n) (hb:by_*n<=281474976710656) (hn:n<=9223372036854775807)
  (h:∀(w1:Θ) (b:Nat),w.heap.size<=b->aO [] w w1->Row w1 b (madeCells z.cells (n*sz)) e->wpList P ops Q rest (a.put o.dst (.slice (some ⟨b,0,none⟩) n n)) w1):wpList P ops Q (o::rest) a w:=by
 refine bN hg _ (w.alloc (.cells (madeCells z.cells (n*sz)) e)) ?_ (h _ _ (φ _) (aO.alloc _ _ _) (Row.new _ _ _));cases hi':P.info? e with
 |none=>simp[hi'] at hi
 |some i=>
  simp only[hi',ε,ae9,af8] at hi;obtain⟨h1,h2,h3⟩:=hi;subst h1;subst h2;have:=run_make (P:=P) w t e i z ht hi' h3 .i64 .i64 n n (by omega) (Int.le_refl _) (by rw[<-Int.natCast_mul];omega) (by omega);simp only[Int.toNat_natCast] at this;simp[execOp,ho,hx,hy,this]
theorem DH (s:Ξ)(n:Nat)(w:Θ)(hs:s.size=64*n)(h16:16<=n)(Bk:n<=400):
  Calls Tryz.prog 104 #[.string s] w λe w'=>∃d F,e= .returned (.pointer (some ⟨d,0,none⟩))/\bJ w' F d n (DS.fresh s.data.toList)/\aO [] w w'/\bZ [] F w:=by
 have hsl:Hid (s.data.toList.length=64*n):=by show _=_;rw[Array.length_toList];exact hs
 have hq:(s.size:Int).tdiv 64=n:=by rw[hs];push_cast;exact Int.mul_tdiv_cancel_left _ (by decide)
 go_enter Tryz.func104,Tryz.ntmps104;go_wp2_with (with_reducible first|refine zC 129 rfl ?_);refine ai.go (Pe rfl 129 148 _ _ rfl tf 64 64 eO DC n rfl rfl (by omega) (by omega) ?_);intro w1 bl l1 f1 r1;rw[Jq] at r1;have HL0:Hid (laid s.data.toList n 0=List.replicate (n*64) 0):=by show _=_;simp[laid]
 rw[<-HL0.out] at r1;go_wp2_with (with_reducible first|refine zC 129 rfl ?_|refine bE 134 rfl ?_|refine bC rfl ?_);refine ai.go (bN rfl (.agg (iC bl n (.slice none 0 0) (DS.fresh []))) w1 (ij _ _ rfl _ (Gs bl n)) ?_);go_wp2_with (with_reducible first|refine bC rfl ?_)
 refine ai.go (fN rfl 134 _ rfl (.agg (iC bl n (.slice none 0 0) (DS.fresh []))) rfl ?_);intro w2 d l2 f2 r2;have q2:Row w2 d (iC bl n (.slice none 0 0) (DS.fresh [])) 134:=r2;have q1:=f2.row r1;have fw:=f1.trans f2;have hdb:d≠bl:=by have:=r1.lt;omega
 have ldw:w.heap.size<=d:=by have:=f1.size;omega
 clear r1 r2 f1 f2 l2;have c0:=(jb q2).1;go_wp2_with fail;clear c0
 go_loopw [16] (λc wr=>∃k:Nat,c= .int .i64 k/\k<=n/\aO [] w wr/\Row wr d (iC bl n (.slice none 0 0) (DS.fresh [])) 134/\Row wr bl (byteCells (laid s.data.toList n k)).toArray 148) (λc _=>n-(intOf c).toNat)
 case atStart=>exact⟨0,rfl,by omega,fw,q2,q1⟩
 case round=>
  obtain⟨k,rfl,hk,fk,qd,qb⟩:=hrel;clear q1 q2 fw
  by_cases hlt:k<n
  .go_wp2_with fail
   refine fI 12 rfl ?_;have fd:aO [] wr wr.drew:=aO.drew _ _;have q5:=fd.row qd;have q8:=fd.row qb;have fk:=fk.trans fd;generalize wr.drew=w5 at q5 q8 fk;clear qd qb fd;refine sY ?_
   refine ec 0 (some 19) rfl rfl (λ_ _ _ h=>h) rfl (v:= .pointer (some ⟨d,0,none⟩)) (λ_=>rfl) ?_;refine ec 1 (some 20) rfl rfl (λ_ _ _ h=>h) rfl (v:= .pointer (some ⟨d,0,none⟩)) (λ_=>by go_simp) ?_
   refine ec 2 (some 21) rfl rfl (λ_ _ _ h=>h) rfl (v:= .pointer (some ⟨d,0,none⟩)) (λ_=>by go_simp) ?_;refine ec 4 (some 23) rfl rfl (λ_ _ _ h=>h) rfl (v:= .int .i64 k) (λ_=>rfl) ?_
   refine ec 7 (some 26) rfl rfl (λ_ _ _ h=>h) rfl (v:= .string s) (λ_=>rfl) ?_;refine ec 8 (some 27) rfl rfl (λ_ _ _ h=>h) rfl (v:= .int .i64 k) (λ_=>rfl) ?_;simp only[Act.put,bm,bn,bk]
   refine ec 9 (some 28) rfl rfl (λ_ _ _ h=>h) rfl (v:= .int .i64 (k*64)) (λ_=>by go_simp;exact IntWalk.i64_in _ (by omega)) ?_;simp only[Act.put,bm,bn,bk]
   refine ec 10 (some 29) rfl rfl (λ_ _ _ h=>h) rfl (v:= .string (s.extract (k*64) s.size)) (λ_=>?_) ?_
   .have e:((k:Int)*64).toNat=k*64:=by omega
    go_simp;intro h;exact absurd (h (by omega)) (by omega)
   simp only[Act.put,bm,bn,bk];have c0:=(jb q5).1;refine OG 3 (by omega) (some 22) rfl rfl (by kernel_rfl) rfl (.slice (some ⟨bl,0,none⟩) n n) w5 (by go_simp) ?_;clear c0;refine ec 5 (some 24) rfl rfl (λ_ _ _ h=>h) rfl (v:= .pointer (some ⟨bl,k*64,none⟩)) (λ_=>by go_simp) ?_
   refine ec 6 (some 25) rfl rfl (λ_ _ _ h=>h) rfl (v:= .slice (some ⟨bl,k*64,none⟩) 64 64) (λ_=>by go_simp) ?_;simp only[Act.put,bm,bn,bk];have hll:=Ds s.data.toList n k hsl.out hk
   refine OG 11 (by omega) (some 30) rfl rfl (by kernel_rfl) rfl _ _ (lQ _ _ _ _ 5 rfl Tryz.underlying85 bl (k*64) 64 64 rfl (s.extract (k*64) s.size) rfl _ _ q8 ?_) ?_
   .simp only[aa7,af,hll]
    have:Nat.min (s.extract (k*64) s.size).size 64<=64:=Nat.min_le_right _ _;omega
   have e64:(s.extract (k*64) s.size).data.toList.take 64=(s.data.toList.drop (k*64)).take 64:=by
    have hsz:s.data.toList.length=s.size:=by rw[Array.length_toList];rfl
    rw[ByteArray.data_extract,Array.toList_extract,List.extract_eq_take_drop,List.take_take,<-hsz,<-List.length_drop];rw[List.take_eq_take_iff];omega
   rw[e64,lJ,Cq _ _ _ hsl.out hlt];refine sX ?_;have q8':=q8.setRow (byteCells (laid s.data.toList n (k+1))).toArray;have f3:aO [bl] w5 (w5.setRow bl (byteCells (laid s.data.toList n (k+1))).toArray):=aO.setRow _ _ _ _;have kE:=f3.row q5 (by simpa using hdb)
   have JR:aO [] w (w5.setRow bl (byteCells (laid s.data.toList n (k+1))).toArray):=fk.trans f3 (by simp;exact l1);generalize w5.setRow bl (byteCells (laid s.data.toList n (k+1))).toArray=w6 at q8' kE JR;clear q8 q5 fk f3 e64 hll;simp only[Act.put,bm,bn,bk];go_wp2_with fail
   go_roundw
   case rel=>exact⟨k+1,by go_num,by omega,JR,kE,q8'⟩
   case measure=>simp[intOf];omega
  .obtain rfl:k=n:=by omega
   go_wp2_with fail;go_ret;have el:laid s.data.toList k k=s.data.toList:=by
    unfold laid;rw[θ (by rw[hsl.out];omega)];simp
   rw[el] at qb;refine⟨d,[d,bl],rfl,⟨bl,.slice none 0 0,{row:=qd,last:=qb,len:=hsl.out,own:=World.ownsRow_nil _ _ _ _,d7:=by simp[DS.fresh],within:=by simp[DS.fresh],lo:=h16,hi:=Bk,few:=by simp[DS.fresh],ne:=hdb,ne1:=by simp[Value.ownBlock],BO:=by simp[Value.ownBlock],nil:=λ_=>rfl},by simp[Value.ownBlock]⟩,fk,λi hi=>?_⟩;simp only[ab8,List.not_mem_nil,or_false] at hi
   rcases hi with rfl|rfl
   .exact .inr ldw
   .exact .inr l1
theorem tM:(Tryz.prog.info? 5).map (λi=>(i.size,i.bytes,i.zero))=some (1,1,some (.int .u8 0)):=by kernel_rfl
theorem pI:Tryz.prog.underlying 85=some (.slice 5):=Tryz.underlying85
theorem rL:(Tryz.prog.info? 146).map (·.size)=some 2:=by kernel_rfl
theorem Bd:liesAt Tryz.prog Tryz.prog.depth 146 (2/Tryz.prog.cellsOf 146) 0 146 1=true:=by kernel_rfl
theorem pA (b:Nat)(w:Θ)(h0:w.cell? ⟨b,0,none⟩=some (.pointer (some ⟨b,0,none⟩))):
  Calls Tryz.prog 129 #[.pointer (some ⟨b,0,none⟩)] w λe w'=>e= .returned (.tuple #[])/\w'=w:=by
 obtain⟨j,hj,_⟩:=τ.1 rL;go_enter Tryz.func129,Tryz.ntmps129;go_wp2_with fail;rw[Lib.run_neq_ptr_same w _ Tryz.underlying144 hj];go_wp2_with fail
 go_end0
 exact⟨rfl,rfl⟩
theorem oa (b:Nat)(w:Θ)(h0:w.cell? ⟨b,0,none⟩=some (.pointer none))(hsh:w.shape? b=some (146,2))(hfz:w.frozen? ⟨b,0,none⟩=false):
  Calls Tryz.prog 129 #[.pointer (some ⟨b,0,none⟩)] w λe w'=>e= .returned (.tuple #[])/\w'=w.setCell ⟨b,0,none⟩ (.pointer (some ⟨b,0,none⟩)):=by
 obtain⟨j,hj,hjs⟩:=τ.1 rL;go_enter Tryz.func129,Tryz.ntmps129;go_wp2_with fail;rw[Lib.run_to_unsafe w ⟨b,0,none⟩ Tryz.underlying144 Tryz.underlying247 hj (by rw[hjs];decide) hsh (Nat.zero_lt_succ 1)];simp only[Result.andThen];rw[Oper.upon_value];go_wp2_with fail
 rw[run_callFunc_extern Tryz.func161 (by kernel_rfl) (by kernel_rfl) (by kernel_rfl) (e:=Extern.AbiNoEscape.same) (by kernel_rfl)];rw[Lib.run_noEscape];simp only[Result.andThen];rw[Oper.upon_value];go_wp2_with fail;rw[Lib.run_from_unsafe w ⟨b,0,none⟩ Tryz.underlying247 Tryz.underlying144 hj hsh Bd];simp only[Result.andThen];rw[Oper.upon_value];go_wp2_with fail
 go_end0
 exact⟨rfl,rfl⟩
theorem Gp (B b:Nat)(bs:List Φ)(ad:Addr)(m c:Nat)(news:List Φ)(w:Θ)(h:IsBuilder 146 5 B b bs w)
  (hl:news.length=m) (hnews:∀j u,news[j]? =some u->w.cell? (ad.add j)=some u) (had:ad.block≠b) (h1:∀u∈news,u.oneCell'=true) (hlen:bs.length+m<=1000000) (hBw:B<=w.heap.size):
  Calls Tryz.prog 86 #[.pointer (some ⟨b,0,none⟩),.slice (some ad) m c] w λe w'=>e= .returned (.tuple #[.int .i64 m,.nilIface])/\BuilderAt 146 5 B b (.pointer (some ⟨b,0,none⟩)) (bs++news) w'/\Below B w w':=by
 obtain⟨i0,hi,hz⟩:∃i,Tryz.prog.info? 5=some i/\i.size=1/\i.bytes=1/\i.zero=some (.int .u8 0):=by
  have:=tM;cases hi:Tryz.prog.info? 5 with
  |none=>simp[hi] at this
  |some i=>simp only[hi,ε,ae9,af8] at this;exact⟨i,rfl,this⟩
 have cC:Calls Tryz.prog 129 #[.pointer (some ⟨b,0,none⟩)] w λe w'=>e= .returned (.tuple #[])/\BuilderAt 146 5 B b (.pointer (some ⟨b,0,none⟩)) bs w'/\Below B w w'/\∀p:Addr,p.block≠b->w'.cell? p=w.cell? p:=by
  rcases h with h|h
  .refine(oa b w h.cell0 h.shape h.frozen0).mono ?_
   rintro e w' ⟨rfl,rfl⟩;exact⟨rfl,h.used _,(Below.refl B w).setCell (p:=⟨b,0,none⟩) h.1 _,λp hp=>World.cell?_setCell_other _ _ _ _ (λe=>hp (by rw[<-e]))⟩
  .refine(pA b w h.cell0).mono ?_
   rintro e w' ⟨rfl,rfl⟩;exact⟨rfl,h,Below.refl B _,λ_ _=>rfl⟩
 go_enter Tryz.func86,Tryz.ntmps86;go_wp2_with fail;refine cC.mono ?_;rintro e w1 ⟨rfl,h1',hb1,hcell⟩;obtain⟨hB,v,hbk,hown,hne⟩:=h1';have c0:w1.cell? ⟨b,0,none⟩=some (.pointer (some ⟨b,0,none⟩)):=by rw[Lib.cell_of_heap hbk];rfl
 have c1:w1.cell? ⟨b,1,none⟩=some v:=by rw[Lib.cell_of_heap hbk];rfl
 have hnews1:∀j u,news[j]? =some u->w1.cell? (ad.add j)=some u:=λj u hj=>by rw[hcell (ad.add j) (by unfold Addr.add;split<;>exact had)];exact hnews j u hj
 go_wp2_with (at_builtin;refine wpList_append_own _ rfl _ _ 85 rfl B 5 i0 (.int .u8 0) 1 1 pI hi hz.2.2 hz.1 hz.2.1 rfl (by decide) _ _ _ rfl hown ad m c news rfl (by omega) hnews1 h1 ?c3 ?c4 ?c5 ?_)
 case c3=>unfold maxLen;omega
 case c4=>omega
 case c5=>have:=hb1.size;omega
 intro v' w2 hown' hgrow _;have hlt:b<w1.heap.size:=by
  rcases Nat.lt_or_ge b w1.heap.size with h'|h'
  .exact h'
  .simp[Array.getElem?_eq_none h'] at hbk
 have hb2:w2.heap[b]? =some (.cells #[.pointer (some ⟨b,0,none⟩),v] 146 (0,0)):=by
  rw[hgrow.block b hlt (λe=>hne e.symm)];exact hbk
 have d0:w2.cell? ⟨b,0,none⟩=some (.pointer (some ⟨b,0,none⟩)):=by rw[Lib.cell_of_heap hb2];rfl
 have d1:w2.cell? ⟨b,1,none⟩=some v:=by rw[Lib.cell_of_heap hb2];rfl
 have f1:w2.frozen? ⟨b,1,none⟩=false:=Lib.frozen_of_heap hb2 1;obtain⟨ao,n',cap,rfl⟩:∃ao n' cap,v'= .slice ao n' cap:=by
  rcases hown'.2 with⟨hv,_⟩|⟨g,cap,cur,hv,_⟩
  .exact⟨_,_,_,hv⟩
  .exact⟨_,_,_,hv⟩
 go_wp2_with fail
 go_ret2
 refine⟨rfl,?_,?_⟩
 .exact Lib.BuilderAt.put (T:=146) (e:=5) hB hb2 (bs':=bs++news) (by simpa [hl] using hown') (by decide)
 .exact(hb1.grown hgrow (by have:=hb1.size;omega) (λk hk=>(hown.lt k hk).1)).setCell (p:=⟨b,1,none⟩) hB _
theorem Hg {T e:η}{B b:Nat}{bs:List Φ}{w w':Θ}(h:IsBuilder T e B b bs w)(f:aO [] w w'):IsBuilder T e B b bs w':=by
 have g:∀p,BuilderAt T e B b p bs w->BuilderAt T e B b p bs w':=λp hp=>by
  have hlt:=hp.lt;obtain⟨hB,v,hb,ho,hn⟩:=hp;exact⟨hB,v,by rw[f.block b hlt (by simp)];exact hb,f.owns ho,hn⟩
 exact h.imp (g _) (g _)
theorem kG {w w1 w2:Θ}(f:aO [] w w1)(h:Below w.heap.size w1 w2):aO [] w w2:=
 ⟨h.os.trans f.os,h.tape.trans f.tape,h.output.trans f.output,ae3 f.size h.size,λk hk _=>(h.block k hk).trans (f.block k hk (by simp))⟩
theorem rz:(Tryz.prog.info? 146).map (·.zero)=some (some (.agg #[.pointer none,.slice none 0 0])):=by kernel_rfl
theorem Kt (d bl n:Nat)(vw:Φ)(x:DS)(w:Θ)(h:bv w d bl n vw x):
  Calls Tryz.prog 53 #[.pointer (some ⟨d,0,none⟩)] w λe w'=>e= .returned (.string ⟨x.aJ.toArray⟩)/\aO [] w w':=by
 have hlen:=h.len;have Bk:=h.hi;go_enter Tryz.func53,Tryz.ntmps53;go_wp2_with (with_reducible first|refine ay rfl ?_);refine ai.go (bh rfl 146 rfl _ rz ?_);intro w1 b3 l3 f1 r3;have h1:=h.new f1;have c0:=(jb h1.row).1;have hB0:IsBuilder 146 5 w.heap.size b3 (byteCells (x.aJ.take (64*0))) w1:=
  .inl ⟨l3,.slice none 0 0,r3,by simpa [byteCells] using World.ownsRow_nil _ _ _ _,by simp[Value.ownBlock]⟩
 go_wp2_with fail;clear c0 r3
 go_loopw [11] (λc wr=>∃k:Nat,c= .int .i64 k/\k<=n/\aO [] w wr/\IsBuilder 146 5 w.heap.size b3 (byteCells (x.aJ.take (64*k))) wr) (λc _=>n-(intOf c).toNat)
 case atStart=>exact⟨0,rfl,by omega,f1,hB0⟩
 case round=>
  obtain⟨k,rfl,hk,fk,hb⟩:=hrel;clear h1 f1 hB0
  by_cases hlt:k<n
  .have hw:=h.new fk
   have hseg:((x.aJ.drop (k*64)).take 64).length=64:=by rw[ae1,List.length_drop];omega
   have hat:((byteCells x.aJ).toArray.toList.drop (k*64)).take 64=byteCells ((x.aJ.drop (k*64)).take 64):=by
    rw[List.toList_toArray,eH,eG]
   go_wp2_with (with_reducible first|refine ay rfl ?_|refine ax 148 rfl ?_|refine ah 148 rfl ?_);refine ai.go (bV rfl 148 _ rfl bl (k*64) rfl dr 64 bj _ _ hw.last (byteCells ((x.aJ.drop (k*64)).take 64)) hat (by rw[af];exact hseg) ?_);have HX:Hid (x.aJ.take (64*(k+1))=x.aJ.take (64*k)++(x.aJ.drop (k*64)).take 64):=by
    show _=_;rw[show 64*(k+1)=64*k+64 by omega,List.take_add,Nat.mul_comm k 64]
   generalize (x.aJ.drop (k*64)).take 64=seg at*;have eZ:(byteCells (x.aJ.take (64*k))).length<=30000:=by rw[af,ae1];omega
   clear hat hw;go_wp2_with (with_reducible first|refine ay rfl ?_|refine ah 148 rfl ?_);refine ai.go (bh rfl 148 rfl eO dz ?_);intro w4 b7 l7 f4 r7;go_wp2_with (with_reducible first|refine ay rfl ?_|refine ah 148 rfl ?_);refine ai.go (bP rfl 148 _ _ rfl _ 0 rfl _ rfl 64 bj ?_ ?_ _ _ r7 ?_ ?_)
   .simp only[aa7,af];exact hseg
   .exact byteCells_one _
   .decide
   intro w5 f5 tC;rw[bG _ _ (by rw[af,hseg];rfl)] at tC;have jT:aO [] wr w5:=f4.trans f5 (by simpa using l7);have po:=fk.trans jT;have hb5:=Hg hb jT;have q7:Row w5 b7 (byteCells seg).toArray 148:=tC;have hne:b7≠b3:=by
    have:b3<wr.heap.size:=by
     rcases hb with hb|hb<;>exact hb.lt
    omega
   clear r7 tC f4 f5 jT fk hb;go_wp2_with fail;refine(Gp w.heap.size b3 _ ⟨b7,0,none⟩ 64 64 (byteCells seg) w5 hb5 (by rw[af];exact hseg) ?_ hne (byteCells_one _) (by omega) po.size).mono ?_
   .intro j u hj
    rw[Addr.add_mid,q7.cell];simpa using hj
   rintro e w6 ⟨rfl,hb6,Ss⟩;have qZ:=kG po Ss;have Rg:IsBuilder 146 5 w.heap.size b3 (byteCells (x.aJ.take (64*(k+1)))) w6:=by
    rw[HX.out,byteCells_append];exact .inr hb6
   clear hb6 Ss hb5 q7 po eZ;go_wp2_with fail
   go_roundw
   case rel=>exact⟨k+1,by go_num,by omega,qZ,Rg⟩
   case measure=>simp[intOf];omega
  .obtain rfl:k=n:=by omega
   rw[θ (by omega)] at hb;go_wp2_with fail;refine(Tryz.Builder_String_any w.heap.size b3 x.aJ wr hb fk.size).mono ?_;rintro e w6 ⟨rfl,Ss⟩;have qZ:=kG fk Ss;go_wp2_with fail;go_ret;exact⟨rfl,qZ⟩
theorem jg {P:ω}{ops:Array Oper}{Q:Exit->Act->Θ->Prop}{a:Act}{w:Θ}{rest:List Oper}{o:Oper}{xs:Array aa8}{ts:Array η}(_:o.op= .call {callee:= .builtin .copy,args:=xs,argTypes:=ts})(h:ai (wpList P ops Q (o::rest) a w)):wpList P ops Q (o::rest) a w:=h
def mn:List Γ:=[99,111,110,99,111,114,100,49]
def ic (n:Nat):List Γ:=mn++[UInt8.ofNat (n/256),UInt8.ofNat n]++List.replicate 54 0
theorem ko (n:Nat):(ic n).length=64:=by simp[ic,mn]
theorem E5 (n:Nat)(hn:n<=400):((byteCells (splice (List.replicate 64 0) 0 mn)).toArray.setIfInBounds 8 (.int .u8 ((n:Int)/256))).setIfInBounds 9 (.int .u8 ((n:Int)%256))=(byteCells (ic n)).toArray:=by
 have e1:((n:Int)/256)=((UInt8.ofNat (n/256)).toNat:Nat):=by
  rw[UInt8.toNat_ofNat'];omega
 have e2:((n:Int)%256)=((UInt8.ofNat n).toNat:Nat):=by
  rw[UInt8.toNat_ofNat'];omega
 rw[e1,e2];rfl
theorem qH (n:Nat)(w:Θ)(hn:n<=400):
  Calls Tryz.prog 112 #[.int .i64 n] w λe w'=>e= .returned (.agg (byteCells (ic n)).toArray)/\aO [] w w':=by
 go_enter Tryz.func112,Tryz.ntmps112;go_wp2_with (with_reducible first|refine ay rfl ?_|refine jg rfl ?_|refine ax 148 rfl ?_|refine ah 148 rfl ?_|refine ah 5 rfl ?_);refine ai.go (bh rfl 148 rfl eO dz ?_);intro w1 b2 l2 f1 r2
 go_wp2_with (with_reducible first|refine ay rfl ?_|refine jg rfl ?_|refine ax 148 rfl ?_|refine ah 148 rfl ?_|refine ah 5 rfl ?_);refine ai.go (bh rfl 148 rfl eO dz ?_);intro w2 b3 l3 f2 r3;have q2:=f2.row r2;have fw:=f1.trans f2;have n23:b2≠b3:=by have:=r2.lt;omega
 have h3:w.heap.size<=b3:=by have:=f1.size;omega
 have r3':Row w2 b3 (byteCells (List.replicate 64 0)).toArray 148:=r3;clear r2 r3 f1 f2 l3;go_wp2_with (with_reducible first|refine ay rfl ?_|refine jg rfl ?_|refine ax 148 rfl ?_|refine ah 148 rfl ?_|refine ah 5 rfl ?_)
 refine ai.go (bN rfl _ _ (lQ _ _ _ _ 5 rfl Tryz.underlying85 b3 0 64 64 rfl ⟨#[99,111,110,99,111,114,100,49]⟩ rfl _ _ r3' (by simp only[aa7,af,List.length_replicate];decide)) ?_);rw[show((⟨#[99,111,110,99,111,114,100,49]⟩:Ξ).data.toList.take 64)=mn from rfl,lJ]
 have q3:=r3'.setRow (byteCells (splice (List.replicate 64 0) 0 mn)).toArray;have f3:aO [b3] w2 (w2.setRow b3 (byteCells (splice (List.replicate 64 0) 0 mn)).toArray):=aO.setRow _ _ _ _;have q2':=f3.row q2 (by simpa using n23);have vp:=fw.trans f3 (by simpa using h3);generalize w2.setRow b3 (byteCells (splice (List.replicate 64 0) 0 mn)).toArray=w3 at q3 q2' vp
 clear q2 r3' f3 fw;go_wp2_with (with_reducible first|refine ay rfl ?_|refine jg rfl ?_|refine ax 148 rfl ?_|refine ah 148 rfl ?_|refine ah 5 rfl ?_);refine ai.go (fJ rfl 5 _ _ rfl b3 8 rfl .u8 _ rfl _ _ q3 (by simp only[aa7,af];rw[length_splice _ _ _ (by decide)];decide) ?_);intro w4 f4 q4
 have q2a:=f4.row q2' (by simpa using n23);have yB:=vp.trans f4 (by simpa using h3);clear q3 q2' vp f4;go_wp2_with (with_reducible first|refine ay rfl ?_|refine jg rfl ?_|refine ax 148 rfl ?_|refine ah 148 rfl ?_|refine ah 5 rfl ?_)
 refine ai.go (fJ rfl 5 _ _ rfl b3 9 rfl .u8 _ rfl _ _ q4 (by simp only[Array.size_setIfInBounds,aa7,af];rw[length_splice _ _ _ (by decide)];decide) ?_);intro w5 f5 q5;have q2b:=f5.row q2a (by simpa using n23);have po:=yB.trans f5 (by simpa using h3);clear q4 q2a yB f5;rw[E5 n hn] at q5;have hl:=ko n
 generalize hR:ic n=R at*;have HR:Hid (ic n=R):=hR;clear hR;go_wp2_with (with_reducible first|refine ay rfl ?_|refine jg rfl ?_|refine ax 148 rfl ?_|refine ah 148 rfl ?_|refine ah 5 rfl ?_)
 refine ai.go (bV rfl 148 _ rfl b3 0 rfl dr 64 bj _ _ q5 (byteCells R) (by simp only[List.drop_zero];exact θ (by rw[af];omega)) (by rw[af];exact hl) ?_);go_wp2_with (with_reducible first|refine ay rfl ?_|refine jg rfl ?_|refine ax 148 rfl ?_|refine ah 148 rfl ?_|refine ah 5 rfl ?_)
 refine ai.go (bP rfl 148 _ _ rfl _ 0 rfl _ rfl 64 bj ?_ ?_ _ _ q2b ?_ ?_)
 .simp only[aa7,af];exact hl
 .exact byteCells_one _
 .decide
 intro w6 f6 q6;rw[bG _ _ (by rw[af,hl];rfl)] at q6;have qZ:=po.trans f6 (by simp;exact l2);have Wj:Row w6 b2 (byteCells R).toArray 148:=q6;clear q6;go_wp2_with fail;exact lH rfl b2 rfl rfl _ _ Wj dr (by rw[bj];simp[af,hl]) ⟨by rw[HR.out],qZ⟩
def fD (n:Nat):List Γ:=ic n++List.replicate ((n-1)*64) 0
theorem oQ:∀m,repeatL [(0:Γ)] m=List.replicate m 0
 |0=>rfl
 |m+1=>by rw[repeatL,oQ m,List.replicate_succ];rfl
theorem J7 (n:Nat)(w:Θ)(h1:1<=n)(hn:n<=400):
  Calls Tryz.prog 77 #[.int .i64 n] w λe w'=>e= .returned (.string ⟨(fD n).toArray⟩)/\aO [] w w':=by
 go_enter Tryz.func77,Tryz.ntmps77;go_wp2_with fail;refine(qH n w hn).mono ?_;rintro e w1 ⟨rfl,f1⟩;have hl:=ko n;have HE:Hid (fD n=ic n++List.replicate ((n-1)*64) 0):=rfl;generalize ic n=R at*;go_wp2_with (with_reducible first|refine ay rfl ?_|refine ah 148 rfl ?_);refine ai.go (bh rfl 148 rfl eO dz ?_);intro w2 b3 l3 f2 r3
 go_wp2_with (with_reducible first|refine ay rfl ?_|refine ah 148 rfl ?_);refine ai.go (bP rfl 148 _ _ rfl _ 0 rfl _ rfl 64 bj ?_ ?_ _ _ r3 ?_ ?_)
 .simp only[aa7,af];exact hl
 .exact byteCells_one _
 .decide
 intro w3 f3 q3;rw[bG _ _ (by rw[af,hl];rfl)] at q3;have q3':Row w3 b3 (byteCells R).toArray 148:=q3;have vp:=(f1.trans f2).trans f3 (by simp;have:=f1.size;omega);clear q3 r3 f1 f2 f3 l3;go_wp2_with fail;refine fE ?_;simp only[Act.put];refine aQ rfl (some 6) rfl (.slice (some ⟨b3,0,none⟩) 64 64) (λ_ _=>by go_simp) ?_
 simp only[Act.put,bm,bn,bk];refine aQ rfl (some 7) rfl (.string (aB R)) (λw' hw'=>xR 85 9 5 _ rfl Tryz.underlying85 Tryz.underlying5 Tryz.underlying9 b3 0 64 64 rfl R _ (hw'.row q3') R (by simp only[List.drop_zero];exact θ (by omega)) hl) ?_;simp only[Act.put,bm,bn,bk];refine aQ rfl (some 8) rfl (.int .i64 n) (λ_ _=>rfl) ?_
 simp only[Act.put,bm,bn,bk];refine aQ rfl (some 9) rfl (.int .i64 (n-1:Nat)) (λ_ _=>by
   have e:((n-1:Nat):Int)=(n:Int)-1:=by omega
   rw[e];go_simp;exact IntWalk.i64_in _ (by omega)) ?_
 simp only[Act.put,bm,bn,bk];refine aQ rfl (some 10) rfl (.int .i64 ((n-1)*64:Nat)) (λ_ _=>by
   have e:(((n-1)*64:Nat):Int)=((n-1:Nat):Int)*64:=by omega
   rw[e];go_simp;exact IntWalk.i64_in _ (by omega)) ?_
 simp only[Act.put,bm,bn,bk];refine jz rfl (some 11) rfl 113 #[.string ⟨#[0]⟩,.int .i64 ((n-1)*64:Nat)] (.string ⟨(repeatL [0] ((n-1)*64)).toArray⟩) (λ_ _=>by go_simp) (λw' hw'=>?_) ?_
 .refine(Tryz.strings_Repeat ⟨#[0]⟩ ((n-1)*64) w' (by omega) (by show 1*((n-1)*64)<=_;omega)).mono ?_
  rintro e w'' ⟨rfl,f⟩;exact⟨rfl,hw'.trans (aO.of_below f)⟩
 simp only[Act.put,bm,bn,bk];refine aQ rfl (some 12) rfl (.string ⟨(fD n).toArray⟩) (λw' _=>?_) ?_
 .refine tQ _ _ _ _ _ rfl (.string (aB R)) (.string ⟨(repeatL [0] ((n-1)*64)).toArray⟩) rfl rfl _ rfl ?_
  have e:(⟨(fD n).toArray⟩:Ξ)=aB R++⟨(repeatL [0] ((n-1)*64)).toArray⟩:=by
   rw[HE.out,oQ]
   apply ByteArray.ext
   simp[aB,ByteArray.data_append]
  rw[e];refine run_string_add_sum (P:=Tryz.prog) w' (aB R) ⟨(repeatL [0] ((n-1)*64)).toArray⟩ ?_;rw[oQ];show R.toArray.size+(List.replicate ((n-1)*64) (0:Γ)).toArray.size<=_;simp only[aa7,List.length_replicate];omega
 simp only[Act.put,bm,bn,bk];refine aQ rfl (some 2) rfl (.string ⟨(fD n).toArray⟩) (λ_ _=>rfl) ?_;simp only[Act.put,bm,bn,bk];intro w5 f5;have po:=vp.trans f5;go_wp2_with fail;go_ret;exact⟨rfl,po⟩
section
variable {P:ω}(w:Θ)
theorem wJ (d:Nat){e:η}(hu:P.underlying e=some (.int .u8))(a b:Int):(Op.equalIn (d+1) e (.int .u8 a) (.int .u8 b)).run P w= .ok (a==b) w:=by
 simp[Op.equalIn,run_underlying hu]
theorem qG (d:Nat){e:η}(he:P.plainKey e=true)(hu:P.underlying e=some (.int .u8))(xs ys:List Γ):∀is:List Nat,(∀i∈is,i<xs.length/\i<ys.length)->
  (Op.eqItems (d+1) e 1 (byteCells xs).toArray (byteCells ys).toArray is).run P w= .ok (is.all λi=>xs[i]? ==ys[i]?) w
 |[],_=>by simp[Op.eqItems]
 |i::is,h=>by
  have hi:=h i (by simp);have ih:=qG d he hu xs ys is λj hj=>h j (by simp[hj])
  have px:=run_part_plain (P:=P) (w:=w) he (xs:=(byteCells xs).toArray) (off:=i*1) (v:= .int .u8 (xs[i].toNat)) (by simp[byteCells,hi.1]);have py:=run_part_plain (P:=P) (w:=w) he (xs:=(byteCells ys).toArray) (off:=i*1) (v:= .int .u8 (ys[i].toNat)) (by simp[byteCells,hi.2]);have e1:((xs[i].toNat:Int)==(ys[i].toNat:Int))=(xs[i]? ==ys[i]?):=by
   rw[Bool.eq_iff_iff];simp only[ai0,List.getElem?_eq_getElem hi.1,List.getElem?_eq_getElem hi.2,ae9,<-UInt8.toNat_inj];exact Int.ofNat_inj
  simp only[Op.eqItems,Sem.run_bind,px,py,wJ w d hu,Result.andThen_ok,e1,List.all_cons];cases hc:(xs[i]? ==ys[i]?)
  .simp
  .simpa using ih
theorem KB (xs ys:List Γ)(n:Nat)(hx:xs.length=n)(hy:ys.length=n):((List.range n).all λi=>xs[i]? ==ys[i]?)=(xs==ys):=by
 rw[Bool.eq_iff_iff];simp only[ae6,af3,ai0];constructor
 .intro h
  apply List.ext_getElem?
  intro i;rcases Nat.lt_or_ge i n with hi|hi
  .exact h i hi
  .rw[List.getElem?_eq_none (by omega),List.getElem?_eq_none (by omega)]
 .rintro rfl i _;rfl
theorem xU (d:Nat){t e:η}(n:Nat)(ht:P.underlying t=some (.array n e))(i:TypeInfo)(hi:P.info? e=some i)(hc:P.cellsOf e=1)(he:P.plainKey e=true)(hu:P.underlying e=some (.int .u8))(xs ys:List Γ)(hx:xs.length=n)(hy:ys.length=n):
  (Op.equalIn (d+2) t (.agg (byteCells xs).toArray) (.agg (byteCells ys).toArray)).run P w= .ok (xs==ys) w:=by
 rw[run_equalIn_array w (d+1) _ _ ht hi,hc,qG w d he hu xs ys _ (by intro j hj;rw[af3] at hj;omega),KB xs ys n hx hy]
end
theorem xc:Tryz.prog.plainKey 5=true:=by kernel_rfl
theorem yc:Tryz.prog.cellsOf 5=1:=by kernel_rfl
theorem DM (op:BinOp)(x y:aa8)(a b:Array Φ)(w:Θ):(eqGuard op 148 x y (.agg a) (.agg b)).run Tryz.prog w= .ok () w:=by
 cases op<;>kernel_rfl
theorem Bl (op:BinOp)(x y:aa8)(a b:Array Φ)(w:Θ):(eqGuard op 138 x y (.agg a) (.agg b)).run Tryz.prog w= .ok () w:=by
 cases op<;>kernel_rfl
theorem zJ:∃i,Tryz.prog.info? 5=some i:=by
 have:=tM;cases hi:Tryz.prog.info? 5 with
 |none=>simp[hi] at this
 |some i=>exact⟨i,rfl⟩
theorem JX (xs ys:List Γ)(hx:xs.length=64)(hy:ys.length=64)(w:Θ):(binOp .eql 148 (.agg (byteCells xs).toArray) (.agg (byteCells ys).toArray)).run Tryz.prog w= .ok (.bool (xs==ys)) w:=by
 obtain⟨i,hi⟩:=zJ;rw[run_eql_struct,xU w 9998 64 qM i hi yc xc Tryz.underlying5 xs ys hx hy];rfl
theorem Fm (xs ys:List Γ)(hx:xs.length=128)(hy:ys.length=128)(w:Θ):(binOp .neq 138 (.agg (byteCells xs).toArray) (.agg (byteCells ys).toArray)).run Tryz.prog w= .ok (.bool (!(xs==ys))) w:=by
 obtain⟨i,hi⟩:=zJ;rw[run_neq_struct,xU w 9998 128 Tryz.underlying138 i hi yc xc Tryz.underlying5 xs ys hx hy];rfl
def dw (r:List Γ)(l:List Nat):List Γ:=l.foldl (λr i=>r.set (10+i) 1) r
theorem tK (l:List Nat):∀r,(dw r l).length=r.length:=by
 induction l with
 |nil=>intro r;rfl
 |cons i l ih=>intro r;show(dw (r.set (10+i) 1) l).length=_;rw[ih,List.length_set]
theorem xm (r:List Γ)(l:List Nat)(k:Nat)(hk:k<l.length):dw r (l.take (k+1))=(dw r (l.take k)).set (10+l[k]) 1:=by
 unfold dw;rw[ac0 hk,List.foldl_append];rfl
def DS.tz (x:DS)(n:Nat):Bool:=dw (ic n) (taken x n)==x.read 0
theorem yL (d bl n:Nat)(vw:Φ)(x:DS)(w:Θ)(h:bv w d bl n vw x):
  Calls Tryz.prog 145 #[.pointer (some ⟨d,0,none⟩)] w λe w'=>e= .returned (.bool (x.tz n))/\aO [] w w':=by
 have Bk:=h.hi;go_enter Tryz.func145,Tryz.ntmps145;go_wp2_with fail;refine(lF d bl n vw x w h).mono ?_;rintro e w0 ⟨rfl,rfl⟩;go_wp2_with fail;refine(qH n w0 Bk).mono ?_;rintro e w1 ⟨rfl,f1⟩;have HO:Hid (x.tz n=(dw (ic n) (taken x n)==x.read 0)):=rfl;have hl:=ko n;have HLM:Hid (∀l,(dw (ic n) l).length=64):=λl=>by rw[tK,hl]
 have HS:Hid (∀k,(hk:k<(taken x n).length)->dw (ic n) ((taken x n).take (k+1))=(dw (ic n) ((taken x n).take k)).set (10+(taken x n)[k]) 1):=λk hk=>xm _ _ k hk
 go_wp2_with (with_reducible first|refine ay rfl ?_|refine ah 148 rfl ?_);refine ai.go (bh rfl 148 rfl eO dz ?_);intro w2 b3 l3 f2 r3;go_wp2_with (with_reducible first|refine ay rfl ?_|refine ah 148 rfl ?_);refine ai.go (bP rfl 148 _ _ rfl _ 0 rfl _ rfl 64 bj ?_ ?_ _ _ r3 ?_ ?_)
 .simp only[aa7,af];exact hl
 .exact byteCells_one _
 .decide
 intro w3 f3 q3;rw[bG _ _ (by rw[af,hl];rfl)] at q3;have q3':Row w3 b3 (byteCells (dw (ic n) ((taken x n).take 0))).toArray 148:=q3;have vp:=(f1.trans f2).trans f3 (by simp;have:=f1.size;omega);have h3:=h.new vp;have l3w:w0.heap.size<=b3:=by have:=f1.size;omega
 clear q3 r3 f1 f2 f3 l3;generalize dw (ic n)=M at*;go_wp2_with fail;refine(iK d bl n vw x w3 h3).mono ?_;rintro e w4 ⟨v,rfl,hv,f4⟩;have q4:=f4.row q3';have yB:=vp.trans f4;have hvb:v.ownBlock≠some b3:=λe=>by have:=(hv.lt b3 e).1;have:=q3'.lt;omega
 have h54:=eR x n;obtain⟨ad,cap,hv'⟩:=bM hv;subst hv';clear h3 vp f4 q3';go_wp2_with fail;have HA:Hid (∀i∈taken x n,i<aH n):=λi hi=>jJ x n i hi
 have als:aH n<=54:=by unfold aH;omega
 generalize htk:taken x n=tk at*;have HT:Hid (taken x n=tk):=htk;clear htk
 go_loopw [12] (λc wr=>∃k:Nat,c= .int .i64 k/\k<=tk.length/\aO [b3] w4 wr/\Row wr b3 (byteCells (M (tk.take k))).toArray 148) (λc _=>tk.length-(intOf c).toNat)
 case atStart=>exact⟨0,rfl,by omega,aO.refl _ _,q4⟩
 case round=>
  obtain⟨k,rfl,hk,fk,q3⟩:=hrel;have hvk:=fk.owns hv (by simpa using hvb)
  by_cases hlt:k<tk.length
  .obtain⟨g,cur,rfl,hg,hle,_,hcs,htk⟩:=dL hvk
   have hi:tk[k]<aH n:=HA.out _ (af4 hlt);have hc:wr.cell? ⟨g,k,none⟩=some (.int .i64 (tk[k]:Nat)):=by
    rw[hg.cell,<-ah9];have:(cur.toList.take (tk.length*1))[k]? =(fh tk)[k]? :=by rw[htk]
    rw[ah8 (by omega)] at this;rw[this];simp[fh,hlt]
   have HN:Hid (M (tk.take (k+1))=(M (tk.take k)).set (10+tk[k]) 1):=HS.out k hlt;have hml:Hid ((M (tk.take k)).length=64):=HLM.out _;generalize hik:tk[k]=i at hi hc HN;clear hik;clear hcs htk;have adf:i<54:=by omega
   go_wp2_with (with_reducible first|refine ah 5 rfl ?_);refine ai.go (fJ rfl 5 _ _ rfl b3 (10+i) rfl .u8 1 rfl _ _ q3 (by simp only[aa7,af];rw[hml.out];omega) ?_);intro w6 f6 q6;have e6:(byteCells (M (tk.take k))).toArray.setIfInBounds (10+i) (.int .u8 1)=(byteCells (M (tk.take (k+1)))).toArray:=by
    rw[HN.out,fM];rfl
   rw[e6] at q6;have f46:=fk.trans f6;clear e6 f6 q3 hc hg hvk fk hv hvb;go_wp2_with fail
   go_roundw
   case rel=>exact⟨k+1,by go_num,by omega,f46,q6⟩
   case measure=>simp[intOf];omega
  .obtain rfl:k=tk.length:=by omega
   rw[List.take_length] at q3;have hml:Hid ((M tk).length=64):=HLM.out _;generalize M tk=R at*;have fw:=yB.trans fk (by simp;exact l3w);have hd:=h.new fw;have hrl:Hid ((x.read 0).length=64):=by
    show _=_;exact bi _ _ (by rw[h.len];simp;have:=h.lo;omega) _ h.d7
   have hlo:=h.lo;go_wp2_with fail;refine fE ?_;simp only[Act.put]
   refine aQ rfl (some 20) rfl (.agg (byteCells R).toArray) (λw' hw'=>iW 148 _ rfl b3 0 rfl dr 64 bj _ _ (hw'.row q3) (byteCells R) (by simp only[List.drop_zero];exact θ (by rw[af];exact ah1 hml.out)) (by rw[af];exact hml.out)) ?_;simp only[Act.put,bm,bn,bk]
   refine aQ rfl (some 21) rfl (.pointer (some ⟨d,0,none⟩)) (λ_ _=>rfl) ?_;simp only[Act.put,bm,bn,bk];refine jz rfl (some 22) rfl 114 #[.pointer (some ⟨d,0,none⟩),.int .i64 0] (.agg (byteCells (x.read 0)).toArray) (λ_ _=>by go_simp) (λw' hw'=>?_) ?_
   .refine(rY d bl n vw x 0 w' (hd.new hw') (by omega) (by omega)).mono ?_
    rintro e w'' ⟨rfl,f⟩;exact⟨rfl,hw'.trans f⟩
   simp only[Act.put,bm,bn,bk];refine aQ rfl (some 23) rfl (.bool (R==x.read 0)) (λw' _=>?_) ?_
   .exact tQ _ _ _ _ _ rfl _ _ rfl rfl _ (DM _ _ _ _ _ _) (JX _ _ hml.out hrl.out _)
   simp only[Act.put,bm,bn,bk];refine aQ rfl (some 2) rfl (.bool (R==x.read 0)) (λ_ _=>rfl) ?_;simp only[Act.put,bm,bn,bk];intro w5 f5;have po:=fw.trans f5;go_wp2_with fail;go_ret;exact⟨by rw[HO.out];rfl,po⟩
def uu (r:List Γ):Bool:=cB (eB r) (cN r) (bu r)==r
def DS.nm (x:DS)(n:Nat):Bool:=(taken x n).all λi=>uu (ci x i)
theorem tB (r:List Γ):eB r<256:=qg r 0
theorem ut (r:List Γ):(cN r).length<=8:=by unfold cN;rw[ae1];omega
theorem oW (r:List Γ):(bu r).length<=96:=by unfold bu;rw[ae1];omega
theorem cE (l:List Γ):(aB l).size=l.length:=rfl
theorem OF (l:List Nat)(f:Nat->Bool)(k:Nat)(hk:k<l.length):(l.drop k).all f=(f l[k]&&(l.drop (k+1)).all f):=by
 rw[ae5 hk,List.all_cons]
theorem th (d bl n:Nat)(vw:Φ)(x:DS)(w:Θ)(h:bv w d bl n vw x):
  Calls Tryz.prog 146 #[.pointer (some ⟨d,0,none⟩)] w λe w'=>e= .returned (.bool (x.nm n))/\aO [] w w':=by
 go_enter Tryz.func146,Tryz.ntmps146;go_wp2_with fail;refine(iK d bl n vw x w h).mono ?_;rintro e w2 ⟨v,rfl,hv,f2⟩;have h2:=h.new f2;have h54:=eR x n;obtain⟨ad,cap,hv'⟩:=bM hv;subst hv';go_wp2_with fail;have HA:Hid (∀i∈taken x n,i<aH n):=λi hi=>jJ x n i hi
 have HO:Hid (x.nm n=(taken x n).all λi=>uu (ci x i)):=rfl;generalize htk:taken x n=tk at*;clear htk
 go_loopw [9] (λc wr=>∃k:Nat,c= .int .i64 k/\k<=tk.length/\aO [] w2 wr/\Hid (x.nm n=(tk.drop k).all λi=>uu (ci x i))) (λc _=>tk.length-(intOf c).toNat)
 case atStart=>exact⟨0,rfl,by omega,aO.refl _ _,HO⟩
 case round=>
  obtain⟨k,rfl,hk,fk,HS⟩:=hrel;clear HO;have hd:=h2.new fk;have hvk:=fk.owns hv
  by_cases hlt:k<tk.length
  .obtain⟨g,cur,rfl,hg,hle,_,hcs,htk⟩:=dL hvk
   have hi:tk[k]<aH n:=HA.out _ (af4 hlt);have hc:wr.cell? ⟨g,k,none⟩=some (.int .i64 (tk[k]:Nat)):=by
    rw[hg.cell,<-ah9];have:(cur.toList.take (tk.length*1))[k]? =(fh tk)[k]? :=by rw[htk]
    rw[ah8 (by omega)] at this;rw[this];simp[fh,hlt]
   have hrl:=np hd tk[k] hi;have HN:Hid (x.nm n=(uu (ci x tk[k])&&(tk.drop (k+1)).all λi=>uu (ci x i))):=by
    have:=HS.out;rw[OF tk _ k hlt] at this;exact this
   generalize hik:tk[k]=i at hi hc hrl HN;clear hik;clear hcs htk;go_wp2_with fail;refine(kR d bl n vw x i wr hd hi).mono ?_;rintro e w3 ⟨rfl,f3⟩;have JR:=fk.trans f3;generalize ci x i=r at*;have Uc:Hid (r.length=128):=hrl;clear hrl;go_wp2_with (with_reducible first|refine ay rfl ?_|refine ah 138 rfl ?_)
   refine ai.go (bh rfl 138 rfl mU jH ?_);intro w4 b5 l5 f4 r5;go_wp2_with (with_reducible first|refine ay rfl ?_|refine ah 138 rfl ?_);refine ai.go (bP rfl 138 _ _ rfl _ 0 rfl _ rfl 128 eW ?_ ?_ _ _ r5 ?_ ?_)
   .simp only[aa7,af];exact Uc.out
   .exact byteCells_one _
   .decide
   intro w5 f5 q5;rw[bG _ _ (by rw[af,Uc.out];rfl)] at q5;have kE:Row w5 b5 (byteCells r).toArray 138:=q5;have jT:=(JR.trans f4).trans f5 (by simp;have:=JR.size;omega);clear q5 r5 f5 f4 f3 JR fk l5 hc hg hvk;go_wp2_with fail;have hld:∀w',aO [] w5 w'->_:=λw' (hw':aO [] w5 w')=>hw'.row kE
   refine fE ?_
   try simp only[Act.put]
   refine aQ rfl (some 16) rfl (.agg (byteCells r).toArray) (λw' hw'=>iW 138 _ rfl b5 0 rfl jm 128 eW _ _ (hw'.row kE) (byteCells r) (by simp only[List.drop_zero];exact θ (by rw[af];exact ah1 Uc.out)) (by rw[af];exact Uc.out)) ?_;simp only[Act.put,bm,bn,bk]
   refine jz rfl (some 17) rfl 81 #[.agg (byteCells r).toArray] (.agg (bR (eB r) (cN r) (bu r)).toArray) (λ_ _=>by go_simp) (λw' hw'=>?_) ?_
   .refine(nG r w' Uc.out).mono ?_
    rintro e w'' ⟨rfl,f⟩;exact⟨rfl,hw'.trans f⟩
   simp only[Act.put,bm,bn,bk];have hel:Hid ((cB (eB r) (cN r) (bu r)).length=128):=mq _ _ _;refine jz rfl (some 18) rfl 110 #[.agg (bR (eB r) (cN r) (bu r)).toArray] (.agg (byteCells (cB (eB r) (cN r) (bu r))).toArray) (λ_ _=>by go_simp) (λw' hw'=>?_) ?_
   .refine(xV (eB r) (aB (cN r)) (aB (bu r)) w' (tB r) (by rw[cE];have:=ut r;omega) (by rw[cE];have:=oW r;omega)).mono ?_
    rintro e w'' ⟨rfl,f⟩;exact⟨rfl,hw'.trans f⟩
   simp only[Act.put,bm,bn,bk];refine aQ rfl (some 19) rfl (.agg (byteCells r).toArray) (λw' hw'=>iW 138 _ rfl b5 0 rfl jm 128 eW _ _ (hw'.row kE) (byteCells r) (by simp only[List.drop_zero];exact θ (by rw[af];exact ah1 Uc.out)) (by rw[af];exact Uc.out)) ?_;simp only[Act.put,bm,bn,bk]
   refine aQ rfl (some 20) rfl (.bool (!(uu r))) (λw' _=>?_) ?_
   .exact tQ _ _ _ _ _ rfl _ _ rfl rfl _ (Bl _ _ _ _ _ _) (Fm _ _ hel.out Uc.out _)
   simp only[Act.put,bm,bn,bk];intro w6 f6;have Bq:=jT.trans f6;have qZ:=f2.trans Bq;cases hok:uu r with
   |true=>
    rw[hok] at HN;clear hok hd hv h2 HS;go_wp2_with fail
    go_roundw
    case rel=>exact⟨k+1,by go_num,by omega,Bq,by show _=_;rw[HN.out];rfl⟩
    case measure=>simp[intOf];omega
   |false=>
    rw[hok] at HN;clear hok hd hv h2 HS;go_wp2_with fail;go_ret;exact⟨by rw[HN.out];rfl,qZ⟩
  .have fw:=f2.trans fk
   have HE:Hid (x.nm n=true):=by
    have:=HS.out;rw[List.drop_of_length_le (by omega)] at this;exact this
   go_wp2_with fail;go_ret;exact⟨by rw[HE.out];rfl,fw⟩
def ig (b:Γ):Bool:=97<=b.toNat&&b.toNat<=122
def bQ (l:List Γ):Bool:=1<=l.length&&l.length<=8&&l.all ig
theorem KW {P:ω}{ops:Array Oper}{Q:Exit->Act->Θ->Prop}{a:Act}{w:Θ}{rest:List Oper}{o:Oper}(hg:o.guard=none)(src dst e:η)(x:aa8)(ho:o.op= .convert src dst x)
  (hs:P.underlying src=some .string) (hd:P.underlying dst=some (.slice e)) (he:P.underlying e=some (.int .u8)) (s:Ξ) (hx:a.eval x= .string s)
  (h:∀(w1:Θ) (b cap:Nat),w.heap.size<=b->aO [] w w1->(∀j,(hj:j<s.data.toList.length)->w1.cell? ⟨b,j,none⟩=some (.int .u8 (s.data.toList[j].toNat:Int)))->wpList P ops Q rest (a.put o.dst (.slice (some ⟨b,0,none⟩) s.size cap)) w1):wpList P ops Q (o::rest) a w:=by
 have hr:=run_bytes_of_string (P:=P) w src dst e s hs hd he;have hb:(w.drew.alloc (.cells (bytesRow s (grownCap w s.size 0 e)) e ((bytesRow s (grownCap w s.size 0 e)).size,(bytesRow s (grownCap w s.size 0 e)).size+1))).heap[w.heap.size]? =some (.cells (bytesRow s (grownCap w s.size 0 e)) e ((bytesRow s (grownCap w s.size 0 e)).size,(bytesRow s (grownCap w s.size 0 e)).size+1)):=by
  show(w.heap.push _)[w.heap.size]? =_;simp
 have hf:aO [] w (w.drew.alloc (.cells (bytesRow s (grownCap w s.size 0 e)) e ((bytesRow s (grownCap w s.size 0 e)).size,(bytesRow s (grownCap w s.size 0 e)).size+1))):=(aO.drew [] w).trans (aO.alloc [] _ _);generalize w.drew.alloc (.cells (bytesRow s (grownCap w s.size 0 e)) e ((bytesRow s (grownCap w s.size 0 e)).size,(bytesRow s (grownCap w s.size 0 e)).size+1))=w1 at hr hb hf
 refine bN hg (.slice (some ⟨w.heap.size,0,none⟩) s.size (grownCap w s.size 0 e)) w1 ?_ (h w1 _ _ (φ _) hf λj hj=>?_)
 .simp only[execOp,ho,hx,Sem.run_bind]
  rw[hr];rfl
 .rw[Lib.cell_of_heap hb,bytesRow_at s _ j (by simpa using hj)]
  simp
theorem ju (s:Ξ)(w:Θ)(hs:s.size<=9223372036854775807):
  Calls Tryz.prog 49 #[.string s] w λe w'=>e= .returned (.bool (bQ s.data.toList))/\aO [] w w':=by
 have hsl:Hid (s.data.toList.length=s.size):=by show _=_;rw[Array.length_toList];rfl
 go_enter Tryz.func49,Tryz.ntmps49
 by_cases h1:(s.size:Int)<1
 .have HE:Hid (bQ s.data.toList=false):=by
   show _=_;unfold bQ;have:s.data.toList.length=0:=by rw[hsl.out];omega
   rw[this];rfl
  go_wp2_with fail;go_ret;exact⟨by rw[HE.out];rfl,aO.refl _ _⟩
 .by_cases h8:(s.size:Int)>8
  .have HE:Hid (bQ s.data.toList=false):=by
    show _=_;unfold bQ;rw[hsl.out];have:decide (s.size<=8)=false:=by simp;omega
    rw[this];simp
   go_wp2_with fail;go_ret;exact⟨by rw[HE.out];rfl,aO.refl _ _⟩
  .have HS0:Hid (bQ s.data.toList=(s.data.toList.drop 0).all ig):=by
    show _=_;unfold bQ;rw[hsl.out,List.drop_zero];have e1:decide (1<=s.size)=true:=by simp;omega
    have e2:decide (s.size<=8)=true:=by simp;omega
    rw[e1,e2];rfl
   go_wp2_with (with_reducible first|refine fy rfl ?_);refine ai.go (KW rfl 9 85 5 _ rfl Tryz.underlying9 Tryz.underlying85 Tryz.underlying5 s rfl ?_);intro w1 b cap lb f1 hcell;generalize hgl:s.data.toList=l at*;have HLL:Hid (s.data.toList=l):=hgl;clear hgl;have aeU:Hid (∀j,(hj:j<l.length)->w1.cell? ⟨b,j,none⟩=some (.int .u8 (l[j].toNat:Int))):=hcell;clear hcell
   go_wp2_with fail;have hls:l.length=s.size:=hsl.out
   go_loopw [16] (λc wr=>∃k:Nat,c= .int .i64 k/\k<=s.size/\wr=w1/\Hid (bQ l=(l.drop k).all ig)) (λc _=>s.size-(intOf c).toNat)
   case atStart=>exact⟨0,rfl,by omega,rfl,HS0⟩
   case round=>
    obtain⟨k,rfl,hk,rfl,HS⟩:=hrel
    by_cases hlt:k<s.size
    .have hk':k<l.length:=by omega
     have hc:=aeU.out k hk';have HN:Hid (bQ l=(ig l[k]&&(l.drop (k+1)).all ig)):=by
      have:=HS.out;rw[ae5 hk',List.all_cons] at this;exact this
     have hb0:(l[k].toNat:Int)<=255:=by have:=l[k].toNat_lt;omega
     have HL:Hid (ig l[k]=(decide (97<=l[k].toNat)&&decide (l[k].toNat<=122))):=rfl;generalize l[k]=c at*
     by_cases g1:(c.toNat:Int)<97
     .have HF:Hid (bQ l=false):=by
       show _=_;rw[HN.out,HL.out];have:decide (97<=c.toNat)=false:=by simp;omega
       rw[this];rfl
      go_wp2_with fail;go_ret;exact⟨by rw[HLL.out,HF.out];rfl,f1⟩
     .by_cases g2:(c.toNat:Int)>122
      .have HF:Hid (bQ l=false):=by
        show _=_;rw[HN.out,HL.out];have:decide (c.toNat<=122)=false:=by simp;omega
        rw[this];simp
       go_wp2_with fail;go_ret;exact⟨by rw[HLL.out,HF.out];rfl,f1⟩
      .have HF:Hid (bQ l=(l.drop (k+1)).all ig):=by
        show _=_;rw[HN.out,HL.out];have e1:decide (97<=c.toNat)=true:=by simp;omega
        have e2:decide (c.toNat<=122)=true:=by simp;omega
        rw[e1,e2];rfl
       go_wp2_with fail
       go_roundw
       case rel=>exact⟨k+1,by go_num,by omega,trivial,HF⟩
       case measure=>simp[intOf];omega
    .have HF:Hid (bQ l=true):=by
      have:=HS.out;rw[List.drop_of_length_le (by omega)] at this;exact this
     go_wp2_with fail;go_ret;exact⟨by rw[HLL.out,HF.out];rfl,f1⟩
def cT (s:Int)(p:List Γ):Bool:=if s=0\/s=1\/s=2 then bQ p else(if s=3 then p==[] else false)
theorem FD (s:Nat)(p:Ξ)(w:Θ)(hp:p.size<=9223372036854775807)(hs:s<256):
  Calls Tryz.prog 185 #[.agg (cZ s p)] w λe w'=>e= .returned (.bool (cT s p.data.toList))/\aO [] w w':=by
 have HD:Hid (cT s p.data.toList=if(s:Int)=0\/(s:Int)=1\/(s:Int)=2 then bQ p.data.toList else(if(s:Int)=3 then p.data.toList==[] else false)):=rfl;go_enter Tryz.func185,Tryz.ntmps185;go_wp2_with (with_reducible first|refine bC rfl ?_);refine ai.go (fN rfl 103 _ rfl (.agg (cZ s p)) rfl ?_);intro w1 b1 l1 f1 r1
 have c0:w1.cell? ⟨b1,0,none⟩=some (.int .i64 s):=by rw[r1.cell];rfl
 have c1:w1.cell? ⟨b1,1,none⟩=some (.string p):=by rw[r1.cell];rfl
 by_cases hq:(s:Int)=0\/(s:Int)=1\/(s:Int)=2
 .have HE:Hid (cT s p.data.toList=bQ p.data.toList):=by show _=_;rw[HD.out,χ hq]
  rcases(by omega:s=0\/s=1\/s=2) with rfl|rfl|rfl
  all_goals
   clear hq;go_wp2_with fail;refine(ju p w1 hp).mono ?_;rintro e w2 ⟨rfl,f2⟩;have fw:=f1.trans f2;go_wp2_with fail;go_ret;exact⟨by rw[HE.out];rfl,fw⟩
 .by_cases h3:(s:Int)=3
  .have HE:Hid (cT s p.data.toList=p.toList.isEmpty):=by show _=_;rw[HD.out,ζ hq,χ h3,ByteArray.toList_eq p];cases p.data.toList<;>rfl
   obtain rfl:s=3:=by omega
   clear hq h3;go_wp2_with fail;go_ret;refine⟨?_,f1⟩;rw[HE.out];rfl
  .have HE:Hid (cT s p.data.toList=false):=by show _=_;rw[HD.out,ζ hq,ζ h3]
   have n0:((s:Int)==0)=false:=by rw[ae8];omega
   have n1:((s:Int)==1)=false:=by rw[ae8];omega
   have n2:((s:Int)==2)=false:=by rw[ae8];omega
   have n3:((s:Int)==3)=false:=by rw[ae8];omega
   go_wp2_with fail;go_ret;exact⟨by rw[HE.out];rfl,f1⟩
abbrev od:=Nat×List Γ
def eV (t:od):List Φ:=[.int .i64 t.1,.string (aB t.2)]
def lK (l:List od):List Φ:=l.flatMap eV
theorem A8 (a b:List od):lK (a++b)=lK a++lK b:=by simp[lK]
theorem Mj (l:List od)(k:Nat)(hk:k<l.length):((lK l).drop (k*2)).take 2=eV l[k]:=by
 have h:∀(l:List od) (k:Nat),(lK l).drop (k*2)=lK (l.drop k):=by
  intro l
  induction l with
  |nil=>intro k;simp[lK]
  |cons f r ih=>
   intro k;cases k with
   |zero=>simp
   |succ k=>
    have:=ih k;simp only[lK,List.flatMap_cons,List.drop_succ_cons] at this⊢;rw[List.drop_append,List.drop_of_length_le (by simp[eV];omega),List.nil_append,<-this]
    congr 1
    simp[eV];omega
 rw[h,ae5 hk];show List.take 2 (eV l[k]++lK (l.drop (k+1)))=_;rfl
theorem sV (a b:List Γ):(aB a==aB b)=(a==b):=by
 have e:(aB a==aB b)=((aB a).toList==(aB b).toList):=beq_toListBytes _ _;rw[e,ByteArray.toList_eq,ByteArray.toList_eq];rfl
theorem JF (base:Nat)(v:Φ)(l:List od)(t:od)(w:Θ)(hv:w.ownsRow base 103 2 v l.length (lK l))(hl:l.length<=1000):
  Calls Tryz.prog 209 #[v,.agg (cZ t.1 (aB t.2))] w λe w'=>(∃r:Int,e= .returned (.int .i64 r)/\decide (0<=r)=l.contains t)/\aO [] w w':=by
 obtain⟨ad,cap,hv'⟩:=bM hv;subst hv';go_enter Tryz.func209,Tryz.ntmps209;go_wp2_with (with_reducible first|refine bC rfl ?_);refine ai.go (fN rfl 103 _ rfl (.agg (cZ t.1 (aB t.2))) rfl ?_);intro w1 b3 l3 f1 r3;have hv1:=f1.owns hv;have HO:Hid (l.contains t=(l.drop 0).contains t):=rfl;go_wp2_with fail;clear hv
 go_loopw [8] (λc wr=>∃k:Nat,c= .int .i64 k/\k<=l.length/\aO [] w1 wr/\Hid (l.contains t=(l.drop k).contains t)) (λc _=>l.length-(intOf c).toNat)
 case atStart=>exact⟨0,rfl,by omega,aO.refl _ _,HO⟩
 case round=>
  obtain⟨k,rfl,hk,fk,HS⟩:=hrel;clear HO;have hvk:=fk.owns hv1;have q3:=fk.row r3
  by_cases hlt:k<l.length
  .obtain⟨g,cur,rfl,hg,hle,_,hcs,htk⟩:=dL hvk
   have hat:((cur.toList.drop (k*2)).take 2)=eV l[k]:=by
    rw[bX htk _ _,Mj l k hlt]
   have HN:Hid (l.contains t=(t==l[k]||(l.drop (k+1)).contains t)):=by
    have:=HS.out;rw[ae5 hlt,List.contains_cons] at this;exact this
   generalize l[k]=u at hat HN;clear hcs htk;go_wp2_with fail;refine fE ?_
   try simp only[Act.put,bm,bn,bk]
   refine aQ rfl (some 11) rfl (.agg (eV t).toArray) (λw' hw'=>iW 103 _ rfl b3 0 rfl ee 2 dh _ _ (hw'.row q3) (eV t) rfl rfl) ?_;simp only[Act.put,bm,bn,bk];refine aQ rfl (some 12) rfl (.slice (some ⟨g,0,none⟩) l.length cap) (λ_ _=>rfl) ?_;refine aQ rfl (some 13) rfl (.int .i64 k) (λ_ _=>rfl) ?_
   simp only[Act.put,bm,bn,bk];refine aQ rfl (some 14) rfl (.pointer (some ⟨g,k*2,none⟩)) (λ_ _=>by go_simp) ?_;simp only[Act.put,bm,bn,bk];refine aQ rfl (some 15) rfl (.agg (eV u).toArray) (λw' hw'=>iW 103 _ rfl g (k*2) rfl ee 2 dh _ _ (hw'.row hg) (eV u) hat rfl) ?_;simp only[Act.put,bm,bn,bk]
   refine aQ rfl (some 16) rfl (.bool (t==u)) (λw' _=>?_) ?_
   .have e:(t==u)=(((t.1:Nat):Int)==((u.1:Nat):Int)&&aB t.2==aB u.2):=by
     rw[sV];obtain⟨t1,t2⟩:=t;obtain⟨u1,u2⟩:=u;rw[Bool.eq_iff_iff];simp;intro _;exact Int.ofNat_inj.symm
    rw[e];exact tQ _ _ _ _ _ rfl _ _ rfl rfl _ (xF _ _ _ _ _ _) (D4 _ _ _ _ _)
   simp only[Act.put,bm,bn,bk];intro w5 f5;have jT:=fk.trans f5;have po:=f1.trans jT;clear hat;cases hok:(t==u) with
   |true=>
    rw[hok] at HN;go_wp2_with fail;go_ret;exact⟨⟨_,rfl,by rw[HN.out];simp⟩,po⟩
   |false=>
    rw[hok] at HN;clear hok hv1 hvk hg q3 r3;go_wp2_with fail
    go_roundw
    case rel=>exact⟨k+1,by go_num,by omega,jT,by show _=_;rw[HN.out];rfl⟩
    case measure=>simp[intOf];omega
  .have fw:=f1.trans fk
   have HE:Hid (l.contains t=false):=by
    have:=HS.out;rw[List.drop_of_length_le (by omega)] at this;exact this
   go_wp2_with fail;go_ret;exact⟨⟨_,rfl,by rw[HE.out];rfl⟩,fw⟩
theorem Bw (base:Nat)(v:Φ)(l:List od)(t:od)(w:Θ)(hv:w.ownsRow base 103 2 v l.length (lK l))(hl:l.length<=1000):
  Calls Tryz.prog 186 #[v,.agg (cZ t.1 (aB t.2))] w λe w'=>e= .returned (.bool (l.contains t))/\aO [] w w':=by
 go_enter Tryz.func186,Tryz.ntmps186;go_wp2_with (with_reducible first|refine bC rfl ?_|refine ax 103 rfl ?_);refine ai.go (fN rfl 103 _ rfl (.agg (cZ t.1 (aB t.2))) rfl ?_);intro w1 b3 l3 f1 r3;have hv1:=f1.owns hv;go_wp2_with (with_reducible first|refine bC rfl ?_|refine ax 103 rfl ?_)
 refine ai.go (bV rfl 103 _ rfl b3 0 rfl ee 2 dh _ _ r3 (eV t) rfl rfl ?_);go_wp2_with fail;refine(JF base v l t w1 hv1 hl).mono ?_;rintro e w2 ⟨⟨r,rfl,hr⟩,f2⟩;have fw:=f1.trans f2;have HR:Hid (decide (0<=r)=l.contains t):=hr;clear hr;go_wp2_with fail;go_ret;refine⟨?_,fw⟩;rw[<-HR.out];rfl
theorem Pb {P:ω}{ops:Array Oper}{Q:Exit->Act->Θ->Prop}{a:Act}{w:Θ}{rest:List Oper}{o:Oper}(hg:Region.wanted o (yielded ops a.tmps)=true)(v:Φ)(w1:Θ)(hr:(execOp a.eval o).run P w= .ok (.value v) w1)(h:wpList P ops Q rest (a.put o.dst v) w1):wpList P ops Q (o::rest) a w:=
 wpList_step λK hK=>by
  rw[χ hg];unfold Oper.wp;rw[hr];exact hK _ _ h
def nameOf (f:cH):od:=(f.set,f.path)
def ei:List od->List cH->Bool
 |_,[]=>true
 |seen,f::r=>cT f.set f.path&&(!(seen.contains (nameOf f))&&ei (seen++[nameOf f]) r)
def DS.ei (x:DS)(n:Nat):Bool:=Go.Proofs.YtchcmhodnkgojaaGreat.ei [] (aM x n)
theorem Ae:Elem Tryz.prog 268 103 2 24:=⟨Tryz.underlying268,by kernel_rfl,by omega⟩
theorem sG (l:List cH)(k:Nat)(hk:k<l.length):((ii l).drop (k*3)).take 3=bR l[k].set l[k].path l[k].content:=by
 have h:∀(l:List cH) (k:Nat),(ii l).drop (k*3)=ii (l.drop k):=by
  intro l
  induction l with
  |nil=>intro k;simp[ii]
  |cons f r ih=>
   intro k;cases k with
   |zero=>simp
   |succ k=>
    have:=ih k;simp only[ii,List.flatMap_cons,List.drop_succ_cons] at this⊢;rw[List.drop_append,List.drop_of_length_le (by simp[bR];omega),List.nil_append,<-this]
    congr 1
    simp[bR];omega
 rw[h,ae5 hk];show List.take 3 (bR l[k].set l[k].path l[k].content++ii (l.drop (k+1)))=_;rfl
theorem Fo (fs:List cH)(k:Nat)(hk:k<fs.length):ei ((fs.take k).map nameOf) (fs.drop k)=(cT fs[k].set fs[k].path&&(!(((fs.take k).map nameOf).contains (nameOf fs[k]))&&ei ((fs.take (k+1)).map nameOf) (fs.drop (k+1)))):=by
 rw[ae5 hk,ei,ac0 hk,List.map_append];rfl
theorem wo (d bl n:Nat)(vw:Φ)(x:DS)(w:Θ)(h:bv w d bl n vw x):
  Calls Tryz.prog 147 #[.pointer (some ⟨d,0,none⟩)] w λe w'=>e= .returned (.bool (x.ei n))/\aO [] w w':=by
 have hfl:(aM x n).length<=54:=by unfold aM;rw[ag0];exact eR x n
 have hfp:Hid (∀f∈aM x n,f.set<256/\f.path.length<=8):=λf hf=>by
  unfold aM at hf;rw[ae0] at hf;obtain⟨i,_,rfl⟩:=hf;exact⟨tB _,ut _⟩
 go_enter Tryz.func147,Tryz.ntmps147;go_wp2_with fail;refine(vT d bl n vw x w h).mono ?_;rintro e w2 ⟨v,rfl,hv,f2⟩;have HO:Hid (x.ei n=ei (((aM x n).take 0).map nameOf) ((aM x n).drop 0)):=rfl;generalize aM x n=fs at*;obtain⟨ad,cap,hv'⟩:=bM hv;subst hv';go_wp2_with fail
 go_loopw [3,9] (λu c wr=>∃k:Nat,c= .int .i64 k/\k<=fs.length/\aO [] w2 wr/\wr.ownsRow w2.heap.size 103 2 u k (lK ((fs.take k).map nameOf))/\Hid (x.ei n=ei ((fs.take k).map nameOf) (fs.drop k))) (λ_ c _=>fs.length-(intOf c).toNat)
 case atStart=>exact⟨0,rfl,by omega,aO.refl _ _,World.ownsRow_nil _ _ _ _,HO⟩
 case round=>
  obtain⟨k,rfl,hk,fk,ho,HS⟩:=hrel;clear HO;have hvk:=fk.owns hv
  by_cases hlt:k<fs.length
  .obtain⟨g,cur,rfl,hg,hle,_,hcs,htk⟩:=dL hvk
   have hat:((cur.toList.drop (k*3)).take 3)=bR fs[k].set fs[k].path fs[k].content:=by
    rw[bX htk _ _,sG fs k hlt]
   have hN:x.ei n=_:=HS.out.trans (Fo fs k hlt);have hT:(fs.take (k+1)).map nameOf=(fs.take k).map nameOf++[nameOf fs[k]]:=by rw[ac0 hlt,List.map_append];rfl
   have hfk:=hfp.out fs[k] (af4 hlt);generalize fs[k]=f at hat hN hT hfk;have HN:Hid (x.ei n=(cT f.set f.path&&(!(((fs.take k).map nameOf).contains (nameOf f))&&ei ((fs.take (k+1)).map nameOf) (fs.drop (k+1))))):=hN;have HT:Hid ((fs.take (k+1)).map nameOf=(fs.take k).map nameOf++[nameOf f]):=hT
   have hnl:((fs.take k).map nameOf).length=k:=by rw[ag0,ae1];omega
   generalize (fs.take k).map nameOf=seen at*;have HFP:Hid (f.set<256/\f.path.length<=8):=hfk;clear hN hT hcs htk HS hfk;go_wp2_with (with_reducible first|refine ax 107 rfl ?_|refine ay rfl ?_|refine ah 107 rfl ?_);refine ai.go (bV rfl 107 _ rfl g (k*3) rfl jM 3 d8 _ _ hg (bR f.set f.path f.content) hat rfl ?_);clear hat hg
   go_wp2_with (with_reducible first|refine ay rfl ?_|refine ah 107 rfl ?_);refine ai.go (bh rfl 107 rfl vU ky ?_);intro w4 b5 l5 f4 r5;go_wp2_with (with_reducible first|refine ay rfl ?_|refine ah 107 rfl ?_);refine ai.go (bP rfl 107 _ _ rfl _ 0 rfl _ rfl 3 d8 ?_ ?_ _ _ r5 ?_ ?_)
   .rfl
   .simp[bR,Value.oneCell']
   .decide
   intro w5 f5 q5;rw[bG _ _ (by rfl)] at q5;have kE:Row w5 b5 (bR f.set f.path f.content).toArray 107:=q5;have f45:=f4.trans f5 (by simpa using l5);have jT:=fk.trans f45;have y6:=f45.owns ho;clear q5 r5 f4 f5 f45 fk ho l5 hvk;go_wp2_with (with_reducible first|refine ax 103 rfl ?_)
   refine ai.go (bV rfl 103 _ rfl b5 0 rfl ee 2 dh _ _ kE (eV (nameOf f)) rfl rfl ?_);go_wp2_with fail;refine(FD f.set (aB f.path) w5 (by rw[cE];have:=HFP.out.2;omega) HFP.out.1).mono ?_;rintro e w6 ⟨rfl,f6⟩;have XK:=f6.owns y6;have Bq:=jT.trans f6;have q6:=f6.row kE;have eb:(aB f.path).data.toList=f.path:=rfl
   rw[eb];clear y6 jT kE f6;cases hb:cT f.set f.path with
   |false=>
    rw[hb] at HN;have fw:=f2.trans Bq;go_wp2_with (with_reducible first|refine ax 103 rfl ?_);go_ret;exact⟨by rw[HN.out];rfl,fw⟩
   |true=>
    rw[hb] at HN;clear hb;go_wp2_with (with_reducible first|refine ax 103 rfl ?_);refine ai.go (Pb rfl _ _ (iW 103 _ rfl b5 0 rfl ee 2 dh _ _ q6 (eV (nameOf f)) rfl rfl) ?_);go_wp2_with fail;rw[<-hnl] at XK;refine(Bw w2.heap.size u3 seen (nameOf f) w6 XK (by omega)).mono ?_;rintro e w7 ⟨rfl,f7⟩;rw[hnl] at XK;have ho7:=f7.owns XK
    have YS:=Bq.trans f7;have q7:=f7.row q6;clear XK Bq q6 f7;cases hc:seen.contains (nameOf f) with
    |true=>
     rw[hc] at HN;have fw:=f2.trans YS;go_wp2_with fail;go_ret;exact⟨by rw[HN.out];rfl,fw⟩
    |false=>
     rw[hc] at HN;clear hc;go_wp2_with (with_reducible first|refine ax 103 rfl ?_|refine bq rfl ?_|refine br rfl ?_);refine ai.go (bV rfl 103 _ rfl b5 0 rfl ee 2 dh _ _ q7 (eV (nameOf f)) rfl rfl ?_);go_wp2_with (with_reducible first|refine bq rfl ?_|refine br rfl ?_)
     refine ai.go (fj rfl 268 103 2 24 Ae _ rfl (.agg (eV (nameOf f)).toArray) rfl rfl ?_);intro w8 b8 l8 f8 r8;go_wp2_with (with_reducible first|refine bq rfl ?_|refine br rfl ?_);have z9:=f8.owns ho7;have hbase:w2.heap.size<=w8.heap.size:=by have:=YS.size;have:=f8.size;omega
     refine ai.go (fK rfl 268 103 2 24 Ae _ _ rfl w2.heap.size u3 _ _ rfl z9 b8 1 1 (eV (nameOf f)) rfl _ _ r8 rfl rfl (by simp[eV,Value.oneCell']) (by omega) (by omega) (by omega) hbase ?_);intro g' cap' w9 BP f9 _;have JQ:=(YS.trans f8).trans f9 (by intro j hj;right;simp at hj;exact(z9.lt j hj).1);clear ho7 z9 q7 r8 f8 f9 l8 YS hbase;go_wp2_with fail
     go_roundw
     case rel=>
      refine⟨k+1,by go_num,by omega,JQ,?_,by show _=_;rw[HN.out];rfl⟩;rw[HT.out,A8];simpa [lK] using BP
     case measure=>simp[intOf];omega
  .have fw:=f2.trans fk
   have HE:Hid (x.ei n=true):=by
    have:=HS.out;rw[List.drop_of_length_le (by omega)] at this;exact this
   go_wp2_with fail;go_ret;exact⟨by rw[HE.out];rfl,fw⟩
def DS.sound (x:DS)(n:Nat):Bool:=x.tz n&&(x.nm n&&x.ei n)
end
section
open Go.Conc
open Go.ConcN (sumTo)
open Go.ConcM (OsLater)
namespace aG
section
variable {Δ:Type}{X:Cx Δ}{P:ω}{Post:Gh Δ->Ω->Θ->Prop}{S0:Nat->Prop}{C:Cf Δ}{gs:Array Ω}{w w':Θ}{t:Trace}{sl:Option (Nat×Nat)}{r:bg}{x x':Ω}{es:Array Event}
theorem Sx {aw aw':bg->Nat}{r:bg}(h:∀r',r'≠r->aw' r'=aw r')(hlt:aw' r<aw r):awS aw'<awS aw:=by
 unfold awS;cases r with
 |m=>have h1:=h .a (by simp);have h2:=h .b (by simp);omega
 |a=>have h1:=h .m (by simp);have h2:=h .b (by simp);omega
 |b=>have h1:=h .m (by simp);have h2:=h .a (by simp);omega
theorem stepBlock (c:Core X P Post S0 C gs w t)(hr:born C.L r)(hx:gs[gid C.n0 r]? =some x)(hnq:(C.L r).pc≠.quit)(hdd:C.ds r=gp (C.L r).pc)(haw:C.aw r=1)
  (hst:∀w₁,RX X (C.γ r).ro (C.γ r).own w w₁->dR (AtR X P Post (C.k r) r) (C.L r) (C.γ r) (C.γ r).own x w₁) (hsl:(C.L r).sleeps C.s=true) (hs:stepG P (vo r) x w= .go {x with status:= .blocked} w #[]):
  ∃m₁ ops μ',runT P (crowd gs w sl) (gid C.n0 r)=(.next m₁,ops)/\TZ μ' (C.ms gs.size)/\BJ X P Post S0 C.n0 μ' m₁ (t++ops):=by
 have hrun:=runT_crowd_go (P:=P) (sl:=sl) (i:=gid C.n0 r) hx (by rw[Bg c.sj];exact hs);have hwk:∀o,woken P x {x with status:= .blocked} w o=o:=λo=>by unfold woken;simp
 have hsz:((gs.map (woken P x {x with status:= .blocked} w)).setIfInBounds (gid C.n0 r) {x with status:= .blocked}).size=gs.size:=by simp
 have hget:∀i,i≠gid C.n0 r->((gs.map (woken P x {x with status:= .blocked} w)).setIfInBounds (gid C.n0 r) {x with status:= .blocked})[i]? =gs[i]? :=λi hi=>by
  rw[ConcN.get_map_set _ _ _ _ (Ne.symm hi)];cases gs[i]? with
  |none=>rfl
  |some g=>simp[hwk]
 refine⟨_,_,({C with aw:=upd C.aw r 0}:Cf Δ).ms gs.size,hrun,.right _ (.right _ (.right _ (Sx (r:=r) (λr' h=>upd_ne _ _ h) (by show upd C.aw r 0 r<C.aw r;rw[upd_same,haw];omega)))),{C with aw:=upd C.aw r 0},_,w,sl,rfl,rfl,?_,by rw[hsz]⟩;rw[ofEvents_none,Array.append_empty]
 refine⟨c.sj,by rw[hsz];exact c.size,c.tab,c.fuel,c.sh,λr' hr'=>?_,c.ST,λi g h0 h1 hg=>?_,by rw[hsz];exact c.above,c.deaf,c.data,c.F7,c.fin,c.rel,c.lay,c.ti⟩
 .by_cases e:r'=r
  .subst e
   refine⟨_,ConcN.get_map_set_same _ _ _ (Bm c hr),.inr (.inl ⟨hnq,hdd,upd_same _ _ _,hsl,x,rfl,hst⟩)⟩
  .obtain⟨g,h1,h2⟩:=c.sit r' hr'
   refine⟨g,by rw[hget _ (λh=>e (kq c.sj h))];exact h1,?_⟩;simp only[upd_ne _ _ e];exact h2
 .rw[hget _ (Ne.symm (vL c.sj h0 h1 r))] at hg
  exact c.old i g h0 h1 hg
theorem Fq {e:Event}(h:e.mute=true):e.loc= .mark .disable\/e.loc= .mark .enable:=by
 obtain⟨l,a,b⟩:=e;cases l with
 |mark m=>cases m<;>simp[Event.mute] at h<;>simp
 |_=>simp[Event.mute] at h
theorem Pq {n i m:Nat}{q:Nat->Nat}(hi:i<n)(hq:q i=m+1):sumTo n (λj=>if j=i then m else q j)<sumTo n q:=by
 have h:=ConcN.sumTo_upd q m id hi;have h':sumTo n (λj=>if j=i then m else q j)+q i=sumTo n q+m:=h;omega
theorem zG (c:Core X P Post S0 C gs w t){i:Nat}(hi0:i≠0)(hx:gs[i]? =some x)(Hl:x.status= .running)
  (hcase:i<C.n0\/∃r,born C.L r/\r≠.m/\i=gid C.n0 r/\(C.L r).pc= .quit) (hq:QuitsD P (C.q i) (Deaf t i) x):
  ∃m₁ ops μ',runT P (crowd gs w sl) i=(.next m₁,ops)/\TZ μ' (C.ms gs.size)/\BJ X P Post S0 C.n0 μ' m₁ (t++ops):=by
 have hlt:i<gs.size:=(Ψ.1 hx).1;have hiM:(i==0)=false:=by simpa using hi0
 cases hqi:C.q i with
 |zero=>rw[hqi] at hq;rw[hq.1] at Hl;cases Hl
 |succ k=>
  rw[hqi] at hq;rcases hq with⟨hf,_⟩|⟨_,g',es,hmute,hstep,hq'⟩
  .rw[hf] at Hl;cases Hl
  have hrun:=runT_crowd_go (P:=P) (sl:=sl) (i:=i) hx (by rw[hiM];exact hstep w);have ajC:g'.status= .running\/g'.status= .finished:=hq'.status
  let q':Nat->Nat:=λj=>if j=i then k else C.q j
  have hops:∀op∈MemOp.ofEvents i x.frame.fn x.frame.place es,op.g=i/\op.act.touch? =none/\op.act.low w.heap.size/\op.act≠.mark (.release (mA X))/\op.act≠.mark (.release (wA X)):=λop hop=>by
   obtain⟨e,he,rfl⟩:=Go.Conc.mem_ofEvents hop;have hm:=hmute e he;refine⟨rfl,touch_mute hm,low_mute hm _,?_,?_⟩<;>(rcases Fq hm with h|h<;>simp[dB h])
  have hsz:((gs.map (woken P x g' w)).setIfInBounds i g').size=gs.size:=by simp
  have key:∀r',∃a,born C.L r'->i≠gid C.n0 r'->∃g,((gs.map (woken P x g' w)).setIfInBounds i g')[gid C.n0 r']? =some g/\Sit X P Post (C.k r') r' (C.L r') (C.γ r') (C.ρ r') a (C.ds r') (C.q (gid C.n0 r')) C.s g w:=λr'=>by
   by_cases h:born C.L r'/\i≠gid C.n0 r'
   .obtain⟨h1,h2⟩:=h
    obtain⟨g,hg,hs⟩:=c.sit r' h1;obtain⟨k',hk⟩:=c.kpos h1;rw[hk] at hs⊢;obtain⟨a,ha⟩:=hs.other (x:=x) (x':=g') (s':=C.s) (RX.refl X _ _ w) (λz=> .inl z);exact⟨a,λ_ _=>⟨_,by rw[ConcN.get_map_set _ _ _ _ h2,hg];rfl,ha⟩⟩
   .exact⟨0,λh1 h2=>absurd ⟨h1,h2⟩ h⟩
  let aw':bg->Nat:=λr'=>(key r').choose
  let ds':bg->Nat:=λr'=>if i=gid C.n0 r' then deafBehind (C.ds r') es else C.ds r'
  let C':Cf Δ:={C with aw:=λr'=>if i=gid C.n0 r' then 0 else aw' r',ds:=ds',q:=q'}
  have hdeaf:∀r',born C.L r'->Deaf (t++MemOp.ofEvents i x.frame.fn x.frame.place es) (gid C.n0 r')=ds' r':=λr' h=>by
   by_cases e:i=gid C.n0 r'
   .simp only[ds',χ e]
    rw[<-e,Deaf_own,e,c.deaf r' h]
   .simp only[ds',ζ e]
    rw[Deaf_other t (g':=i) e _ (λop ho=>(hops op ho).1)];exact c.deaf r' h
  refine⟨_,_,C'.ms gs.size,hrun,.right _ (.right _ (.left _ _ (Pq hlt hqi))),C',_,w,sl,rfl,rfl,?_,by rw[hsz]⟩;refine⟨c.sj,by rw[hsz];exact c.size,c.tab,c.fuel,c.sh,λr' hr'=>?_,c.ST,λj g h0 h1 hg=>?_,λj hj=>?_,hdeaf,c.data,c.F7,c.fin,λr' h=>?_,c.lay,?_⟩
  .by_cases e:i=gid C.n0 r'
   ·
    have hqp:(C.L r').pc= .quit:=by
     rcases hcase with h|⟨r'',_,_,h3,h4⟩
     .cases r' with
      |m=>exact absurd e hi0
      |a=>simp[gid] at e;omega
      |b=>simp[gid] at e;omega
     .rw[<-kq c.sj (h3.symm.trans e)];exact h4
    refine⟨g',by rw[<-e];exact ConcN.get_map_set_same _ _ _ hlt,.inr (.inr ⟨hqp,by simp[C',e],?_⟩)⟩;simp only[C',q',ds',<-e,if_true];rw[e,c.deaf r' hr'] at hq';simpa [e] using hq'
   .obtain⟨g,h1,h2⟩:=(key r').choose_spec hr' e
    refine⟨g,h1,?_⟩;simp only[C',q',ds',ζ e,ζ (Ne.symm e)];exact h2
  .by_cases e:i=j
   .subst e
    rw[ConcN.get_map_set_same _ _ _ hlt] at hg;obtain rfl:=ae7 hg;simp only[C',q',if_true];rw[Deaf_own];exact hq'
   .rw[ConcN.get_map_set _ _ _ _ e] at hg
    obtain⟨y,hy,rfl⟩:=τ.1 hg;have hqj:=c.old j y h0 h1 hy;simp only[C',q',ζ (Ne.symm e)];rw[woken_quitsD hqj,Deaf_other t e _ (λop ho=>(hops op ho).1)];exact hqj
  .rw[hsz] at hj
   rw[Deaf_other t (g':=i) (by omega) _ (λop ho=>(hops op ho).1)];exact c.above j hj
  .obtain⟨p,hp⟩:=c.rel r' h
   by_cases e:i=gid C.n0 r'
   .subst e
    exact⟨p,ConcN.RelBy.appOwn hp _ _ _ λj e he=> .inl (touch_mute (hmute e (Array.mem_of_getElem? he)))⟩
   .exact⟨p,ConcN.RelBy.appOther hp (λop ho=>(hops op ho).1) e⟩
  .refine TI.mute c.ti hi0 ?_ hops
   rcases hcase with h|⟨r'',h1,h2,h3,_⟩
   .exact .inl h
   .exact .inr ⟨r'',h2,h1,h3⟩
theorem Rf (T:Lo)(h:(hd T).pc≠.bad):gp (hd T).pc=1:=by rcases DJ T with e|e|e<;>first|(rw[e];rfl)|exact absurd e h
theorem QG {T:Lo}{s:Sh}{q:Lo×Sh}(h:q∈mv T s)(hb:q.1.pc≠.bad)(he:EvStop X T q.1 es):deafBehind (gp T.pc) es=gp q.1.pc:=by
 have one:∀(d:Nat) (m:Mark),deafBehind d #[qA m]=match m with|.disable=>d+1|.enable=>d-1|_=>d:=λd m=>by cases m<;>rfl
 have hcl:=Ic T;have Hq:∀{a b:Nat},a=1->b=1->ConcM.BookOK X.Fd X.Wg 1 1 es->deafBehind a es=b:=λh1 h2 h=>by rw[h1,h2];exact h.2.1
 have hdd:=Rf;obtain⟨pc,old,nw,aw,sv,it,n⟩:=T;obtain⟨mu,ms,wg,ws⟩:=s;cases pc<;>simp only[mv] at h<;>(repeat' split at h)<;>simp only[ab8,List.not_mem_nil,or_false] at h<;>(first|contradiction|(obtain rfl:=h)|(rcases h with rfl|rfl))<;>
  (first
   |exact absurd rfl hb
   |exact Hq rfl (hdd _ hb) he.1
   |exact Hq rfl (by rw[hcl];rfl) he.1
   |exact Hq rfl (by rfl) he.1
   |(simp only[EvStop,i7] at he;simp only[he,one];rfl)
   |(simp[EvStop,i7] at he;simp only[he,one];rfl)
   |(refine Hq rfl ?_ he.1;simp only;split<;>rfl))
theorem Jl {n0:Nat}{RO:bg->Loc->Prop}{own:bg->Nat->Prop}{B:Nat}(lay:Lay X S0 C.γ C.L B){T T':Lo}(he:EvStop X T T' es)(hsd:mP T.pc=false->r≠.m->True)(hrm:T.pc= .p1\/T.pc= .p2\/T.pc= .pw->r= .m){fn:aa9}{pos:String}:
  ∀op∈MemOp.ofEvents (gid n0 r) fn pos es,OkOp n0 (yC X S0) RO own (mA X) (wA X) B B r op/\∀z,op.act.touch? =some z->(yC X S0 z.loc/\z.kind= .atomic)\/r= .m:=by
 intro op hop;obtain⟨e,hem,rfl⟩:=Go.Conc.mem_ofEvents hop;have mark:∀(m:Mark),es=#[qA m]->(MemAct.mark m).touch? =none->m≠.release (mA X)->m≠.release (wA X)->(MemAct.mark m).low B->
   OkOp n0 (yC X S0) RO own (mA X) (wA X) B B r {g:=gid n0 r,fn,pos,act:= .ofEvent e}/\∀z,(MemAct.ofEvent e).touch? =some z->(yC X S0 z.loc/\z.kind= .atomic)\/r= .m:=λm h1 h2 h3 h4 h5=>by
  rw[h1] at hem;simp at hem;subst hem;have e0:MemAct.ofEvent (qA m)= .mark m:=rfl;refine⟨⟨rfl,?_,?_,?_,λz hz=>?_⟩,λz hz=>?_⟩<;>simp only[e0] at*
  .simpa using h3
  .simpa using h4
  .exact h5
  .rw[h2] at hz;cases hz
  .rw[h2] at hz;cases hz
 have said:∀(m:Mark) (wr:Bool),es=#[qA m]->(MemAct.mark m).touch? =some ⟨.cell (KI X),wr,.said⟩->m≠.release (mA X)->m≠.release (wA X)->(MemAct.mark m).low B->r= .m->
   OkOp n0 (yC X S0) RO own (mA X) (wA X) B B r {g:=gid n0 r,fn,pos,act:= .ofEvent e}/\∀z,(MemAct.ofEvent e).touch? =some z->(yC X S0 z.loc/\z.kind= .atomic)\/r= .m:=λm wr h1 h2 h3 h4 h5 h6=>by
  rw[h1] at hem;simp at hem;subst hem;have e0:MemAct.ofEvent (qA m)= .mark m:=rfl;refine⟨⟨rfl,?_,?_,?_,λz hz=>?_⟩,λz hz=> .inr h6⟩<;>simp only[e0] at*
  .simpa using h3
  .simpa using h4
  .exact h5
  .rw[h2] at hz
   obtain rfl:=ae7 hz;exact .inl ⟨⟨_,rfl,.inr (.inl rfl)⟩,.inr ⟨rfl,h6⟩⟩
 unfold EvStop at he;cases hk:i7 T T'<;>rw[hk] at he<;>simp only at he
 .exact mark _ he rfl (by simp) (by simp) trivial
 .exact mark _ he rfl (by simp) (by simp) trivial
 .exact mark _ he rfl (by simp) (by simp) lay.vn
 .exact mark _ he rfl (by simp) (by simp) lay.vn
 .exact mark _ he rfl (by simp) (by simp) lay.tJ
 .exact mark _ he rfl (by simp) (by simp) lay.tJ
 .have:T.pc= .p1\/T.pc= .p2\/T.pc= .pw:=by
   revert hk;unfold i7;cases T.pc<;>simp;split<;>simp
  exact said _ false he rfl (by simp) (by simp) lay.tJ (hrm this)
 .have:T.pc= .p1\/T.pc= .p2\/T.pc= .pw:=by
   revert hk;unfold i7;cases T.pc<;>simp;split<;>simp
  exact said _ true he rfl (by simp) (by simp) lay.tJ (hrm this)
 .rcases he.1.1 e hem with h1|h1|⟨a,z,rfl,ha⟩
  .have e0:=dB h1
   refine⟨⟨rfl,?_,?_,?_,λz hz=>?_⟩,λz hz=>?_⟩<;>simp only[e0] at*
   .simp
   .simp
   .trivial
   .cases hz
   .cases hz
  .have e0:=dB h1
   refine⟨⟨rfl,?_,?_,?_,λz hz=>?_⟩,λz hz=>?_⟩<;>simp only[e0] at*
   .simp
   .simp
   .trivial
   .cases hz
   .cases hz
  .have e0:MemAct.ofEvent (⟨.cell a,z,true⟩:Event)= .access ⟨.cell a,z,true⟩:=by cases z<;>rfl
   have hs:yC X S0 (.cell a):=⟨a,rfl,ha.elim (λh=> .inr (.inr ⟨h,he.2 _ hem a rfl h⟩)) λh=> .inr (.inl h)⟩
   refine⟨⟨rfl,?_,?_,?_,λy hy=>?_⟩,λy hy=>?_⟩<;>simp only[e0] at*
   .simp
   .simp
   .show a.block<B
    rcases ha with h|h<;>rw[h]
    .exact lay.vn
    .exact lay.tJ
   .simp only[MemAct.touch?,ae9] at hy
    subst hy;exact .inl ⟨hs,.inl rfl⟩
   .simp only[MemAct.touch?,ae9] at hy
    subst hy;exact .inl ⟨hs,rfl⟩
end
theorem Mq {T:Lo}{s:Sh}{q:Lo×Sh}(h:q∈mv T s):(q.1.pc= .ur↔T.pc= .la)/\(T.pc= .ur->q.1.pc= .ud)/\(past q.1.pc=true->past T.pc=true\/(T.pc= .out/\q.1.pc= .wk))/\(T.pc= .out->q.1.pc= .wk\/q.1.pc= .l0)/\q.1.pc≠.un/\(T.pc= .d4->q.1.pc= .quit)/\(q.1.pc= .quit->T.pc= .d1\/T.pc= .d4):=by
 have hh:=DJ;have hcl:=Ic T;have key:∀{p p':Pc},p'= .c2\/p'= .sq\/p'= .bad->p≠.la->p≠.ur->p≠.out->p≠.d4->(p'= .ur↔p= .la)/\(p= .ur->p'= .ud)/\(past p'=true->past p=true\/(p= .out/\p'= .wk))/\(p= .out->p'= .wk\/p'= .l0)/\p'≠.un/\(p= .d4->p'= .quit)/\(p'= .quit->p= .d1\/p= .d4):=fun {p p'} h a b c d=>by rcases h with rfl|rfl|rfl<;>simp[past,a,b,c,d]
 obtain⟨pc,old,nw,aw,sv,it,n⟩:=T;obtain⟨mu,ms,wg,ws⟩:=s;cases pc<;>simp only[mv] at h<;>(repeat' split at h)<;>simp only[ab8,List.not_mem_nil,or_false] at h<;>(first|contradiction|(obtain rfl:=h)|(rcases h with rfl|rfl))<;>
  first
   |exact key (hh _) (by simp) (by simp) (by simp) (by simp)
   |(simp[hcl,past];done)
   |(simp[past];done)
   |(simp only;split<;>simp[past])
theorem mv_nil {T:Lo}{s:Sh}(hT:mP T.pc=true\/iV T.pc=true)(h1:¬(T.pc= .g1\/T.pc= .g2))(h2:T.pc≠.aq)(h3:T.pc≠.un)(h4:T.pc≠.quit)(h:mv T s=[]):T.sleeps s=true:=by
 obtain⟨pc,old,nw,aw,sv,it,n⟩:=T;obtain⟨mu,ms,wg,ws⟩:=s;cases pc<;>simp[mP,iV] at hT h1 h2 h3 h4<;>simp only[mv] at h<;>(repeat' split at h)<;>first|(simp at h;done)|(simp[Lo.sleeps];assumption)
section
variable {L:bg->Lo}{s:Sh}{r1 r2:Nat}{q:Lo×Sh}
theorem vu.wake (h:vu L s r1 r2){r r':bg}(hq:q∈mv (L r) s)(hu:(L r).pc≠.un)(hne:r'≠r)(hsl:(L r').sleeps s=true):(L r').sleeps q.2=true\/(L r).pc= .us\/(L r).pc= .d4:=by
 have FM:=h.ZY.facts;have FG:=h.Q4.facts;simp only[Lo.sleeps,ag9,ξ,ai0] at hsl⊢
 have acz:fO (L r).pc=true->q.2.ws=s.ws:=λhl=>(vG hl hq).2.2
 have X7:jE (L r).pc=true->q.2.ms=s.ms:=λhl=>(vF hl hq).2.2.1
 have Uy:kf (L r).pc=true->q.2.ms=s.ms:=λhl=>(Ha hl hq).2.2.1
 have SR:kK (L r).pc=true->q.2=s:=λhl=>(sm hl hq).1
 have abX:(L r).pc= .out->q.2=s:=λho=>by
  simp only[mv,ho] at hq;rcases ab8.1 hq with rfl|hq
  .rfl
  .split at hq
   .simp only[ad2] at hq;subst hq;rfl
   .simp at hq
 have Lg:kK (L r).pc=true\/fO (L r).pc=true\/jE (L r).pc=true\/kf (L r).pc=true\/(L r).pc= .out:=by
  cases hp:(L r).pc<;>simp[kK,fO,jE,kf]<;>(simp[mv,hp] at hq)
 rcases hsl with⟨h1,h2⟩|⟨h1,h2⟩
 ·
  have hnm:r'≠.m:=λe=>by subst e;have:=h.st;rw[h1] at this;cases this
  have hpm:pm (L r')={L r' with n:=0}:=by simp[pm,h1]
  have hw:(pm (L r')).waits s.ms=true:=by rw[hpm];simp[Lo.waits,h1,h2]
  rcases Lg with c|c|c|c|c
  .rw[SR c];exact .inl (.inl ⟨h1,h2⟩)
  .have m1:=(vG c hq).1
   have hrm:r≠.m:=λe=>by subst e;have:=h.st;revert this c;cases (L .m).pc<;>simp[fO,mP]
   have fin:(pm (L r')).waits q.2.ms=true\/(pm (L r)).pc= .us:=by
    cases r with
    |m=>exact absurd rfl hrm
    |a=>cases r' with
     |m=>exact absurd rfl hnm
     |a=>exact absurd rfl hne
     |b=>exact FM.KY _ m1 hw
    |b=>cases r' with
     |m=>exact absurd rfl hnm
     |a=>exact FM.KX _ m1 hw
     |b=>exact absurd rfl hne
   rcases fin with f|f
   .rw[hpm] at f
    simp[Lo.waits,h1] at f;exact .inl (.inl ⟨h1,f⟩)
   .refine .inr (.inl ?_)
    revert f c
    cases hp:(L r).pc<;>simp[fO,pm,hp]
  .rw[X7 c];exact .inl (.inl ⟨h1,h2⟩)
  .rw[Uy c];exact .inl (.inl ⟨h1,h2⟩)
  .rw[abX c];exact .inl (.inl ⟨h1,h2⟩)
 ·
  have hm:r'= .m:=by
   cases r' with
   |m=>rfl
   |a=>have:=h.wa;rw[h1] at this;cases this
   |b=>have:=h.wb;rw[h1] at this;cases this
  subst hm;have hp0:(p0 (L .m)).pc= .w3:=by simp[p0,h1]
  rcases Lg with c|c|c|c|c
  .rw[SR c];exact .inl (.inr ⟨h1,h2⟩)
  .rw[acz c];exact .inl (.inr ⟨h1,h2⟩)
  .have m1:=(vF c hq).1
   have fin:q.2.ws=0\/(pw (L r)).pc= .d4:=by
    cases r with
    |m=>exact absurd rfl hne
    |a=>exact FG.KY hp0 h2 _ m1
    |b=>exact FG.KX hp0 h2 _ m1
   rcases fin with f|f
   .exact .inl (.inr ⟨h1,f⟩)
   .refine .inr (.inr ?_)
    revert f c
    cases hp:(L r).pc<;>simp[jE,pw,hp]
  .exfalso
   cases r with
   |m=>exact hne rfl
   |a=>have:=h.wa;revert this c;cases (L .a).pc<;>simp[kf,iV]
   |b=>have:=h.wb;revert this c;cases (L .b).pc<;>simp[kf,iV]
  .rw[abX c];exact .inl (.inr ⟨h1,h2⟩)
end
section
variable {Δ:Type}{X:Cx Δ}{P:ω}{Post:Gh Δ->Ω->Θ->Prop}{S0:Nat->Prop}{C:Cf Δ}{gs:Array Ω}{w w':Θ}{t:Trace}{sl:Option (Nat×Nat)}{r:bg}{x x':Ω}{es:Array Event}
theorem qz {pc:Pc}{own:Nat->Prop}{c:Nat}(h:iS X pc own c):own c\/(pc= .la/\c=X.M):=by
 cases pc<;>first|exact .inl h|exact .inl h.1|exact h.imp id λz=>⟨rfl,z⟩
theorem Lay.next (lay:Lay X S0 C.γ C.L w.heap.size)(tab:vu C.L C.s C.r1 C.r2)(hr:born C.L r){q:Lo×Sh}(hq:q∈mv (C.L r) C.s)(hex:¬((upd C.L r q.1 .a).pc= .ur/\(upd C.L r q.1 .b).pc= .ur)){γ':Gh Δ}(h1:γ'.ro=(C.γ r).ro)(h2:γ'.own=iS X (C.L r).pc (C.γ r).own)
  (hrm:(C.L r).pc= .la->r≠.m):Lay X S0 (upd C.γ r γ') (upd C.L r q.1) w.heap.size:=by
 obtain⟨u1,u2,_,_,u5,_⟩:=Mq hq;have ro':∀r' c,(upd C.γ r γ' r').ro c->(C.γ r').ro c:=λr' c h=>by
  by_cases e:r'=r
  .subst e;rw[upd_same,h1] at h;exact h
  .rw[upd_ne _ _ e] at h;exact h
 have own':∀r' c,(upd C.γ r γ' r').own c->(C.γ r').own c\/(r'=r/\(C.L r).pc= .la/\c=X.M):=λr' c h=>by
  by_cases e:r'=r
  .subst e;rw[upd_same,h2] at h;exact(qz h).imp id λz=>⟨rfl,z⟩
  .rw[upd_ne _ _ e] at h;exact .inl h
 have spM:X.M≠X.Fd/\X.M≠X.Wg/\¬S0 X.M/\X.M<w.heap.size:=⟨lay.fm.symm,lay.mw,λe=>(lay.s0 _ e).2.2.1 rfl,lay.Bb⟩
 have noM:(C.L r).pc= .la->∀r',¬(C.γ r').own X.M:=λhla r' ho=>by
  have hu:=(lay.vh r').1 ho;have hn:r'≠r:=λe=>by subst e;rw[hla] at hu;cases hu
  have hnm:r'≠.m:=λe=>by subst e;exact jj tab rfl hu
  have hq1:=u1.2 hla
  apply hex
  cases r with
  |m=>exact absurd rfl (hrm hla)
  |a=>cases r' with
   |m=>exact absurd rfl hnm
   |a=>exact absurd rfl hn
   |b=>exact⟨by rw[upd_same];exact hq1,by rw[upd_ne _ _ (by simp)];exact hu⟩
  |b=>cases r' with
   |m=>exact absurd rfl hnm
   |a=>exact⟨by rw[upd_ne _ _ (by simp)];exact hu,by rw[upd_same];exact hq1⟩
   |b=>exact absurd rfl hn
 refine⟨λr' c h=>?_,λr' h=>lay.ZT r' (ro' _ _ h),λr'=>?_,λr' r'' c h h'=>?_,λr' r'' c h h'=>?_,λr' c h=>?_,lay.fm,lay.fw,lay.mw,lay.s0,lay.vn,lay.Bb,lay.tJ⟩
 .rcases h with h|h
  .rcases own' _ _ h with h|⟨_,_,rfl⟩
   .exact lay.sp r' c (.inl h)
   .exact spM
  .exact lay.sp r' c (.inr (ro' _ _ h))
 .by_cases e:r'=r
  .subst e
   rw[upd_same,upd_same,h2,u1];constructor
   .intro h
    cases hp:(C.L r').pc<;>rw[hp] at h<;>first|rfl|(have:=(lay.vh r').1 h;rw[hp] at this;cases this)|exact absurd rfl h.2
   .intro h;rw[h];exact .inr rfl
  .rw[upd_ne _ _ e,upd_ne _ _ e];exact lay.vh r'
 .rcases own' _ _ h with h3|⟨e3,l3,c3⟩<;>rcases own' _ _ h' with h4|⟨e4,l4,c4⟩
  .exact lay.apart _ _ c h3 h4
  .subst c4;exact absurd h3 (noM l4 _)
  .subst c3;exact absurd h4 (noM l3 _)
  .rw[e3,e4]
 .rcases own' _ _ h with h3|⟨e3,l3,c3⟩
  .exact lay.zT _ _ c h3 (ro' _ _ h')
  .subst c3;exact lay.ZT _ (ro' _ _ h')
 .have hb:born (upd C.L r q.1) r':=by
   by_cases e:r'=r
   .subst e;show(upd C.L r' q.1 r').pc≠.un;rw[upd_same];exact u5
   .show(upd C.L r q.1 r').pc≠.un
    rw[upd_ne _ _ e];rcases h with h|h
    .rcases own' _ _ h with h|⟨e',_⟩
     .exact lay.lv r' c (.inl h)
     .exact absurd e' e
    .exact lay.lv r' c (.inr (ro' _ _ h))
  exact hb
theorem stepMove (c:Core X P Post S0 C gs w t)(hr:born C.L r)(hx:gs[gid C.n0 r]? =some x)(hnq:(C.L r).pc≠.quit)(hdd:C.ds r=gp (C.L r).pc){q:Lo×Sh}(hq:q∈mv (C.L r) C.s){k':Nat}(hk:C.k r=k'+1)
  {cm:Δ} (hcm:(C.L r).pc≠.ur->cm=(C.γ r).mine) (hur:(C.L r).pc= .ur->∃o,w.heap[X.M]? =some o/\BK X r cm (C.γ r).other o) (hwake:(C.L r).pc= .us\/(C.L r).pc= .d4->mayWake P x=true) (hfin:q.1.pc= .wk->cm=X.fin r)
  (hs:stepG P (vo r) x w= .go x' w' es) (hsh:ShAt X w' q.2) (heff:ConcM.Eff X.Fd X.Wg w w') (hev:EvStop X (C.L r) q.1 es) {d:Δ} (hd:(C.L r).pc= .la->d=(C.γ (Mc r)).mine)
  (Rl:After X P (AtR X P Post k' r) r q.1 {(C.γ r) with own:=iS X (C.L r).pc (C.γ r).own,mine:=cm,other:=if(C.L r).pc= .la then d else(C.γ r).other} x' w'):
  ∃m₁ ops μ',runT P (crowd gs w sl) (gid C.n0 r)=(.next m₁,ops)/\TZ μ' (C.ms gs.size)/\BJ X P Post S0 C.n0 μ' m₁ (t++ops):=by
 have hrun:=runT_crowd_go (P:=P) (sl:=sl) (i:=gid C.n0 r) hx (by rw[Bg c.sj];exact hs);obtain⟨hnb,r1',r2',htab,oh⟩:=c.tab.move hq hr;obtain⟨u1,u2,u3,u4,u5,u6,u7⟩:=Mq hq;have hfu:=c.fuel r hr;obtain⟨k'',ahN⟩:∃k'',k'=k''+1:=⟨k'-1,by omega⟩
 generalize hγ:({(C.γ r) with own:=iS X (C.L r).pc (C.γ r).own,mine:=cm,other:=if(C.L r).pc= .la then d else(C.γ r).other}:Gh Δ)=γ' at Rl;have g1:γ'.ro=(C.γ r).ro:=by rw[<-hγ]
 have g2:γ'.own=iS X (C.L r).pc (C.γ r).own:=by rw[<-hγ]
 have g3:γ'.mine=cm:=by rw[<-hγ]
 have g4:γ'.other=if(C.L r).pc= .la then d else(C.γ r).other:=by rw[<-hγ]
 have MO:(C.L r).pc= .us\/(C.L r).pc= .d4->x'.status= .running:=λhp=>by
  unfold After at Rl;split at Rl
  .obtain⟨qq,hqq⟩:=Rl
   exact ConcM.quitsD_running hqq
  .obtain⟨ρ',hl⟩:=Rl
   rw[ahN] at hl;exact iU hl
 obtain⟨aw',haw⟩:=c.others (x:=x) (x':=x') hr (λr' _=>I9 c.lay heff hsh r') (s':=q.2) λr' hne hsl=>(c.tab.wake hq hr hne hsl).imp id λh=>⟨hwake h,MO h⟩
 have hsz:((gs.map (woken P x x' w')).setIfInBounds (gid C.n0 r) x').size=gs.size:=by simp
 have hst:mP (C.L r).pc=true->r= .m:=λh=>by
  cases r with
  |m=>rfl
  |a=>have:=c.tab.wa;revert this h;cases (C.L .a).pc<;>simp[mP,iV]
  |b=>have:=c.tab.wb;revert this h;cases (C.L .b).pc<;>simp[mP,iV]
 have JI:iV (C.L r).pc=true->r≠.m:=λh e=>by subst e;have:=c.tab.st;revert this h;cases (C.L .m).pc<;>simp[mP,iV]
 have hok:=Jl (n0:=C.n0) (RO:=OL X C.γ C.L) (own:=λr=>(C.γ r).own) (r:=r) c.lay hev (λ_ _=>trivial) (λh=>hst (by rcases h with h|h|h<;>rw[h]<;>rfl)) (fn:=x.frame.fn) (pos:=x.frame.place);have hdeaf:Deaf (t++MemOp.ofEvents (gid C.n0 r) x.frame.fn x.frame.place es) (gid C.n0 r)=gp q.1.pc:=by
  rw[Deaf_own,c.deaf r hr,hdd];exact QG hq hnb hev
 have ahz:=TI.app c.sj c.ap c.ti hr (φ _) (λop ho=>(hok op ho).1) (λhrm i z hi hz hm=> .inr (by
  rcases ce hz with⟨h,_⟩|⟨_,op,hop,_,hox⟩
  .omega
  .exact((hok op hop).2 z hox).resolve_right hrm))
 have adk:=lP htab;have XO:=Lay.next c.lay c.tab hr hq adk g1 g2 (λh=>JI (by rw[h];rfl));have acQ:w'.heap.size=w.heap.size:=heff.size;have hM:w'.heap[X.M]? =w.heap[X.M]? :=heff.block _ c.lay.fm.symm c.lay.mw;have born':∀r',born (upd C.L r q.1) r'↔born C.L r':=λr'=>by
  by_cases e:r'=r
  .subst e;show(upd C.L r' q.1 r').pc≠.un↔_;rw[upd_same];exact⟨λ_=>hr,λ_=>u5⟩
  .show(upd C.L r q.1 r').pc≠.un↔_;rw[upd_ne _ _ e];exact Iff.rfl
 have nb':nb (upd C.L r q.1)=nb C.L:=by
  have ha:=born' .a;have hb:=born' .b;unfold nb;have e1:((upd C.L r q.1 .a).pc= .un)=((C.L .a).pc= .un):=propext ⟨λh=>ad9 λh'=>ha.2 h' h,λh=>ad9 λh'=>ha.1 h' h⟩;have e2:((upd C.L r q.1 .b).pc= .un)=((C.L .b).pc= .un):=propext ⟨λh=>ad9 λh'=>hb.2 h' h,λh=>ad9 λh'=>hb.1 h' h⟩
  simp only[e1,e2]
 have V9:∀r' l,OL X (upd C.γ r γ') (upd C.L r q.1) r' l->OL X C.γ C.L r' l:=λr' l h=>by
  refine⟨(born' r').1 h.1,?_⟩;have h2:=h.2
  by_cases e:r'=r
  .subst e;rw[upd_same,g1] at h2;exact h2
  .rw[upd_ne _ _ e] at h2;exact h2
 have hti:TI C.n0 (yC X S0) (OL X (upd C.γ r γ') (upd C.L r q.1)) (born (upd C.L r q.1)) (λr'=>(upd C.γ r γ' r').own) X.M (hold (upd C.L r q.1)) (mA X) (wA X) w'.heap.size (t++MemOp.ofEvents (gid C.n0 r) x.frame.fn x.frame.place es):=by
  rw[acQ];have ajl:∀r' b,grow (λr=>(C.γ r).own) w.heap.size w.heap.size r r' b->(C.γ r').own b:=λr' b h=>h.elim id λz=>by omega
  have FF:=TI.mono ahz (RO':=OL X C.γ C.L) (lv':=born C.L) (own':=λr=>(C.γ r).own) (λ_ _ h=>h) (λ_=>Iff.rfl) (λr' b h=> .inl h)
  by_cases hla:(C.L r).pc= .la
  ·
   have hrm:=JI (by rw[hla];rfl);have hq1:=u1.2 hla;have he:es=#[qA (.acquire (mA X))]:=by simpa [EvStop,i7,hla] using hev
   have Mm:∀r',(C.L r').pc≠.ur:=λr' h=>by
    have hn:r'≠r:=λe=>by subst e;rw[hla] at h;cases h
    have hnm:r'≠.m:=λe=>by subst e;exact jj c.tab rfl h
    apply adk
    cases r with
    |m=>exact absurd rfl hrm
    |a=>cases r' with
     |m=>exact absurd rfl hnm
     |a=>exact absurd rfl hn
     |b=>exact⟨by rw[upd_same];exact hq1,by rw[upd_ne _ _ (by simp)];exact h⟩
    |b=>cases r' with
     |m=>exact absurd rfl hnm
     |a=>exact⟨by rw[upd_ne _ _ (by simp)];exact h,by rw[upd_same];exact hq1⟩
     |b=>exact absurd rfl hn
   have hh:hold C.L=none:=by unfold hold;rw[ζ (Mm .a),ζ (Mm .b)]
   have hh':hold (upd C.L r q.1)=some r:=by
    unfold hold;cases r with
    |m=>exact absurd rfl hrm
    |a=>rw[χ (by rw[upd_same];exact hq1)]
    |b=>rw[ζ (by rw[upd_ne _ _ (by simp)];exact Mm .a),χ (by rw[upd_same];exact hq1)]
   have e1:MemOp.ofEvents (gid C.n0 r) x.frame.fn x.frame.place es=#[{g:=gid C.n0 r,fn:=x.frame.fn,pos:=x.frame.place,act:= .mark (.acquire (mA X))}]:=by rw[he,ofEvents_eq];simp[qA,MemAct.ofEvent]
   have hc:=c.ti;rw[hh] at hc FF;rw[e1] at FF⊢;have:=TI.acquire hc hr (z:={g:=gid C.n0 r,fn:=x.frame.fn,pos:=x.frame.place,act:= .mark (.acquire (mA X))}) rfl rfl (by rw[c.deaf r hr,hdd,hla];rfl) FF;rw[hh'];refine TI.mono this V9 born' (λr' b h=>?_)
   by_cases e:r'=r
   .subst e
    simp only[upd_same,g2,hla] at h;exact h.imp id λz=>⟨rfl,z⟩
   .simp only[upd_ne _ _ e] at h;exact .inl h
  by_cases hu:(C.L r).pc= .ur
  ·
   have hrm:=JI (by rw[hu];rfl);have he:es=#[qA (.releaseMerge (mA X))]:=by simpa [EvStop,i7,hu] using hev
   have hh:hold C.L=some r:=by
    unfold hold;cases r with
    |m=>exact absurd rfl hrm
    |a=>rw[χ hu]
    |b=>rw[ζ λe=>lP c.tab ⟨e,hu⟩,χ hu]
   have hh':hold (upd C.L r q.1)=none:=by
    unfold hold;have hq1:=u2 hu;cases r with
    |m=>exact absurd rfl hrm
    |a=>rw[ζ (by rw[upd_same,hq1];simp),ζ (by rw[upd_ne _ _ (by simp)];exactλe=>lP c.tab ⟨hu,e⟩)]
    |b=>rw[ζ (by rw[upd_ne _ _ (by simp)];exactλe=>lP c.tab ⟨e,hu⟩),ζ (by rw[upd_same,hq1];simp)]
   have e1:MemOp.ofEvents (gid C.n0 r) x.frame.fn x.frame.place es=#[{g:=gid C.n0 r,fn:=x.frame.fn,pos:=x.frame.place,act:= .mark (.releaseMerge (mA X))}]:=by rw[he,ofEvents_eq];simp[qA,MemAct.ofEvent]
   have hc:=c.ti;rw[hh] at hc FF;rw[e1] at FF⊢;have:=TI.release ((c.lay.vh r).2 hu) hc (y:={g:=gid C.n0 r,fn:=x.frame.fn,pos:=x.frame.place,act:= .mark (.releaseMerge (mA X))}) rfl rfl (by rw[c.deaf r hr,hdd,hu];rfl) FF;rw[hh'];refine TI.mono this V9 born' (λr' b h=>?_)
   by_cases e:r'=r
   .subst e
    simp only[upd_same,g2,hu] at h;exact h
   .simp only[upd_ne _ _ e] at h
    exact⟨h,λhb=>by subst hb;exact e (c.lay.apart _ _ _ h ((c.lay.vh r).2 hu))⟩
  .have hh':hold (upd C.L r q.1)=hold C.L:=by
    have e1:∀r',((upd C.L r q.1 r').pc= .ur)=((C.L r').pc= .ur):=λr'=>by
     by_cases e:r'=r
     .subst e;rw[upd_same];exact propext ⟨λh=>absurd (u1.1 h) hla,λh=>absurd h hu⟩
     .rw[upd_ne _ _ e]
    unfold hold;simp only[e1]
   rw[hh'];refine TI.mono FF V9 born' (λr' b h=>?_)
   by_cases e:r'=r
   .subst e
    simp only[upd_same,g2] at h;exact(qz h).resolve_right λz=>hla z.1
   .simp only[upd_ne _ _ e] at h;exact h
 have MN:∃ρ' aw0 qq,aw0<=1/\Sit X P Post k' r q.1 γ' ρ' aw0 (gp q.1.pc) qq q.2 x' w'/\(q.1.pc≠.quit->True):=by
  unfold After at Rl;split at Rl
  .rename_i hqq
   obtain⟨qq,h⟩:=Rl;exact⟨.zero,0,qq,by omega,.inr (.inr ⟨hqq,rfl,by rw[hqq];exact h⟩),λ_=>trivial⟩
  .rename_i hqq
   obtain⟨ρ',h⟩:=Rl;exact⟨ρ',1,0,by omega,.inl ⟨hqq,rfl,rfl,h⟩,λ_=>trivial⟩
 obtain⟨ρ',aw0,qq,_,MN,_⟩:=MN
 let C':Cf Δ:={C with L:=upd C.L r q.1,γ:=upd C.γ r γ',k:=upd C.k r k',ρ:=upd C.ρ r ρ',aw:=upd aw' r aw0,ds:=upd C.ds r (gp q.1.pc),q:=λj=>if j=gid C.n0 r then qq else C.q j,s:=q.2,r1:=r1',r2:=r2'}
 refine⟨_,_,C'.ms gs.size,hrun,.left _ _ oh,C',_,w',sl,rfl,rfl,?_,by rw[hsz]⟩;have MS:∀r',(C.L r).pc≠.ur->(upd C.γ r γ' r').mine=(C.γ r').mine:=λr' h=>by
  by_cases e:r'=r
  .subst e;rw[upd_same,g3];exact hcm h
  .rw[upd_ne _ _ e]
 have hoth:∀{r':bg},r'≠.m->r≠.m->r'≠r->Mc r=r':=fun {r'} h1 h2 h3=>by cases r<;>cases r'<;>simp_all [Mc]
 refine⟨c.sj,by rw[hsz];show gs.size=C.n0+nb (upd C.L r q.1);rw[nb'];exact c.size,htab,λr' hr'=>?_,hsh,λr' hr'=>?_,λr' hr'=>?_,λi g h0 h1 hg=>?_,xZ c hr hsz,λr' hr'=>?_,λh1 h2=>?_,λr' h=>?_,λr' h=>?_,λr' h=>?_,by rw[acQ];exact XO,hti⟩
 .have hb:=(born' r').1 hr'
  show oo (upd C.L r q.1) r1' r2'<upd C.k r k' r'
  by_cases e:r'=r
  .subst e;rw[upd_same];omega
  .rw[upd_ne _ _ e];have:=c.fuel r' hb;omega
 .have hb:=(born' r').1 hr'
  by_cases e:r'=r
  .subst e
   refine⟨x',ConcN.get_map_set_same _ _ _ (Bm c hr),?_⟩;simp only[C',upd_same,if_true];exact MN
  .obtain⟨g,h1,h2⟩:=haw r' e hb
   refine⟨g,h1,?_⟩;have e':gid C.n0 r'≠gid C.n0 r:=λh=>e (kq c.sj h)
   simp only[C',upd_ne _ _ e,ζ e'];exact h2
 .have hb:¬born C.L r':=λh=>hr' ((born' r').2 h)
  have e:r'≠r:=λe=>hb (e▸hr)
  simp only[C',upd_ne _ _ e];exact c.ST r' hb
 .have e:i≠gid C.n0 r:=Ne.symm (vL c.sj h0 h1 r)
  have:=c.olds (r:=r) (x:=x) (x':=x') (w':=w') (fn:=x.frame.fn) (pos:=x.frame.place) (es:=es) i g h0 h1 hg;simp only[C',ζ e];exact this
 .by_cases e:r'=r
  .subst e;simp only[C',upd_same];exact hdeaf
  .simp only[C',upd_ne _ _ e]
   exact uP c e ((born' r').1 hr')
 ·
  show ∃o,w'.heap[X.M]? =some o/\X.Dat (upd C.γ r γ' .a).mine (upd C.γ r γ' .b).mine o;rw[hM]
  by_cases hu:(C.L r).pc= .ur
  .have hrm:=JI (by rw[hu];rfl)
   obtain⟨o,h3,h4⟩:=hur hu;refine⟨o,h3,?_⟩;have h5:=c.F7 r hu;rw[h5] at h4;cases r with
   |m=>exact absurd rfl hrm
   |a=>rw[upd_same,upd_ne _ _ (by simp),g3];exact h4
   |b=>rw[upd_same,upd_ne _ _ (by simp),g3];exact h4
  .obtain⟨o,h3,h4⟩:=c.data (λe=>by
    by_cases er:r= .a
    .exact hu (er▸e)
    .exact h1 (by show(upd C.L r q.1 .a).pc= .ur;rw[upd_ne _ _ (Ne.symm er)];exact e)) (λe=>by
    by_cases er:r= .b
    .exact hu (er▸e)
    .exact h2 (by show(upd C.L r q.1 .b).pc= .ur;rw[upd_ne _ _ (Ne.symm er)];exact e))
   exact⟨o,h3,by rw[MS .a hu,MS .b hu];exact h4⟩
 ·
  have h:(upd C.L r q.1 r').pc= .ur:=h;show(upd C.γ r γ' r').other=(upd C.γ r γ' (Mc r')).mine
  by_cases e:r'=r
  .subst e
   rw[upd_same] at h;have hla:=u1.1 h;have hrm:=JI (by rw[hla];rfl);have ho:Mc r'≠r':=by cases r'<;>simp[Mc] at hrm⊢
   rw[upd_same,upd_ne _ _ ho,g4,χ hla];exact hd hla
  .rw[upd_ne _ _ e] at h⊢
   have hnu:(C.L r).pc≠.ur:=λhu=>by
    have n1:r'≠.m:=λz=>by subst z;exact jj c.tab rfl h
    have n2:=JI (by rw[hu];rfl);cases r<;>cases r'<;>simp_all [lP c.tab]
    .exact lP c.tab ⟨hu,h⟩
    .exact lP c.tab ⟨h,hu⟩
   rw[MS _ hnu];exact c.F7 r' h
 .have h:past (upd C.L r q.1 r').pc=true:=h
  show(upd C.γ r γ' r').mine=X.fin r'
  by_cases e:r'=r
  .subst e
   rw[upd_same] at h;rw[upd_same,g3];rcases u3 h with hp|⟨_,hp⟩
   .rw[hcm (λhu=>by rw[hu] at hp;cases hp)];exact c.fin r' hp
   .exact hfin hp
  .rw[upd_ne _ _ e] at h⊢;exact c.fin r' h
 .have h:past (upd C.L r q.1 r').pc=true:=h
  show ∃p,ConcN.RelBy (wA X) (t++MemOp.ofEvents (gid C.n0 r) x.frame.fn x.frame.place es) (gid C.n0 r') p
  by_cases e:r'=r
  .subst e
   rw[upd_same] at h;rcases u3 h with hp|⟨ho,hq1⟩
   .obtain⟨p,hp'⟩:=c.rel r' hp
    refine⟨p,ConcN.RelBy.appOwn hp' _ _ _ λj e he=>?_⟩;unfold EvStop at hev;have hcase:i7 (C.L r') q.1= .dis\/i7 (C.L r') q.1= .book:=by
     revert hp hnq
     cases hpc:(C.L r').pc<;>simp[past]<;>simp[i7,hpc]
    rcases hcase with hc|hc
    .rw[hc] at hev
     simp only at hev;subst hev;have:=Array.mem_of_getElem? he;simp at this;subst this;exact .inl rfl
    .rw[hc] at hev
     simp only at hev;have hd1:Deaf t (gid C.n0 r')=1:=by
      rw[c.deaf r' hr,hdd]
      revert hp hnq hc
      cases hpc:(C.L r').pc<;>simp[past]<;>simp[i7,hpc,gp]
     rw[hd1];rcases hev.1.2.2 j e he with h5|h5
     .exact .inl h5
     .rcases hev.1.1 e (Array.mem_of_getElem? he) with h6|h6|⟨a,z,rfl,_⟩
      .exact .inl (by rw[dB h6];rfl)
      .exact .inl (by rw[dB h6];rfl)
      .exact .inr ⟨⟨a,z,rfl⟩,h5⟩
   .have he:es=#[ConcR.mk (.releaseMerge (wA X))]:=by
     have:es=#[qA (.releaseMerge (wA X))]:=by simpa [EvStop,i7,ho,hq1] using hev
     exact this
    subst he;exact⟨t.size,ConcN.RelBy.new (by rw[c.deaf r' hr,hdd,ho];rfl) _ _⟩
  .rw[upd_ne _ _ e] at h
   obtain⟨p,hp⟩:=c.rel r' h;exact⟨p,wU c e hp⟩
end
section
variable {L:bg->Lo}{s:Sh}{r1 r2:Nat}
theorem mJ {T:Lo}:(pw T).pc= .un↔T.pc= .un:=by cases hp:T.pc<;>simp[pw,hp]
theorem AV {T:Lo}:(pw T).pc= .quit↔T.pc= .quit:=by cases hp:T.pc<;>simp[pw,hp]
theorem vu.TU (h:vu L s r1 r2):((L .a).pc= .un/\(L .b).pc= .un)\/((L .a).pc≠.un/\(L .b).pc= .un)\/((L .a).pc≠.un/\(L .b).pc≠.un):=by
 have FG:=h.Q4.facts
 by_cases c1:(p0 (L .m)).pc= .x1\/(p0 (L .m)).pc= .g1
 .exact .inl ⟨mJ.1 (FG.un1 c1).1,mJ.1 (FG.un1 c1).2⟩
 by_cases c2:(p0 (L .m)).pc= .x2\/(p0 (L .m)).pc= .g2
 .exact .inr (.inl ⟨λe=>(FG.un2 c2).1 (mJ.2 e),mJ.1 (FG.un2 c2).2⟩)
 .have:=FG.on (by rintro(x|x|x|x);exact c1 (.inl x);exact c1 (.inr x);exact c2 (.inl x);exact c2 (.inr x))
  exact .inr (.inr ⟨λe=>this.1 (mJ.2 e),λe=>this.2 (mJ.2 e)⟩)
end
section
variable {Δ:Type}{X:Cx Δ}{P:ω}{Post:Gh Δ->Ω->Θ->Prop}{S0:Nat->Prop}{C:Cf Δ}{gs:Array Ω}{w w':Θ}{t:Trace}{sl:Option (Nat×Nat)}{r:bg}{x x' child:Ω}{es:Array Event}
theorem Core.at (c:Core X P Post S0 C gs w t)(d:Nat):Core X P Post S0 C gs (w.at d) t:=
 ⟨c.sj,c.size,c.tab,c.fuel,c.sh,λr hr=>by
  obtain⟨g,h1,h2⟩:=c.sit r hr;obtain⟨k',hk⟩:=c.kpos hr;rw[hk] at h2⊢;exact⟨g,h1,h2.rely (RX.at X _ _ w d)⟩,c.ST,c.old,c.above,c.deaf,c.data,c.F7,c.fin,c.rel,c.lay,c.ti⟩
theorem Core.who (c:Core X P Post S0 C gs w t){i:Nat}(hi:i<gs.size):(∃r,born C.L r/\i=gid C.n0 r)\/(0<i/\i<C.n0):=by
 rcases Nat.eq_zero_or_pos i with h0|h0
 .exact .inl ⟨.m,c.pC,h0⟩
 rcases Nat.lt_or_ge i C.n0 with h1|h1
 .exact .inr ⟨h0,h1⟩
 rw[c.size] at hi;unfold nb at hi;rcases c.tab.TU with⟨ha,hb⟩|⟨ha,hb⟩|⟨ha,hb⟩
 .rw[χ ha,χ hb] at hi;omega
 .rw[ζ ha,χ hb] at hi
  exact .inl ⟨.a,ha,by simp only[gid];omega⟩
 .rw[ζ ha,ζ hb] at hi
  rcases Nat.eq_or_lt_of_le h1 with h|h
  .exact .inl ⟨.a,ha,h.symm⟩
  .exact .inl ⟨.b,hb,by simp only[gid];omega⟩
theorem Core.awake (c:Core X P Post S0 C gs w t):∀g∈gs,awake g:=by
 intro g hg;obtain⟨i,hi,rfl⟩:=Array.mem_iff_getElem.1 hg;rcases c.who hi with⟨r,hr,rfl⟩|⟨h0,h1⟩
 .obtain⟨g,h2,h3⟩:=c.sit r hr
  obtain⟨k',hk⟩:=c.kpos hr;rw[hk] at h3;have:gs[gid C.n0 r]=g:=by simpa [ν hi] using h2
  rw[this];exact awake_of h3.status
 .exact awake_of ((c.old i _ h0 h1 (ν hi)).status.elim .inl λx=> .inr (.inr x))
theorem Core.Pz (c:Core X P Post S0 C gs w t):∃(i:Nat) (g:Ω),gs[i]? =some g/\g.status= .running:=by
 have FM:=c.tab.ZY.facts;have FG:=c.tab.Q4.facts
 have one:∀r,born C.L r->(C.L r).pc≠.quit->(∃(i:Nat) (g:Ω),gs[i]? =some g/\g.status= .running)\/(C.L r).sleeps C.s=true:=λr hr hq=>by
  obtain⟨g,h1,h2⟩:=c.sit r hr;obtain⟨k',hk⟩:=c.kpos hr;rw[hk] at h2;rcases h2 with⟨_,_,_,h⟩|⟨_,_,_,h,_⟩|⟨h,_⟩
  .exact .inl ⟨_,g,h1,iU h⟩
  .exact .inr h
  .exact absurd h hq
 have wsl:∀r,r≠.m->(C.L r).sleeps C.s=true->(pm (C.L r)).waits C.s.ms=true:=λr hrm h=>by
  simp only[Lo.sleeps,ag9,ξ,ai0] at h;rcases h with⟨h1,h2⟩|⟨h1,_⟩
  .simp[Lo.waits,pm,h1,h2]
  .exfalso
   cases r with
   |m=>exact hrm rfl
   |a=>have:=c.tab.wa;rw[h1] at this;cases this
   |b=>have:=c.tab.wb;rw[h1] at this;cases this
 have two:∀r r',r≠.m->r'≠.m->born C.L r->(C.L r).pc≠.quit->((pm (C.L r)).waits C.s.ms=true->(pm (C.L r')).waits C.s.ms=false/\(pm (C.L r')).pc≠.out)->∃(i:Nat) (g:Ω),gs[i]? =some g/\g.status= .running:=λr r' h1 h1' h2 h3 h4=>by
  rcases one r h2 h3 with h|h
  .exact h
  .obtain⟨h5,h6⟩:=h4 (wsl r h1 h)
   have hb:born C.L r':=λe=>h6 (by simp[pm,e])
   have hq:(C.L r').pc≠.quit:=λe=>h6 (by simp[pm,e])
   rcases one r' hb hq with h7|h7
   .exact h7
   .rw[wsl r' h1' h7] at h5;cases h5
 have hmq:(C.L .m).pc≠.quit:=jj c.tab rfl;rcases one .m c.pC hmq with h|h
 .exact h
 simp only[Lo.sleeps,ag9,ξ,ai0] at h;rcases h with⟨h1,_⟩|⟨h1,h2⟩
 .exact absurd h1 (jj c.tab rfl)
 .have Hc:∀T:Lo,live (pw T)=true->T.pc≠.un/\T.pc≠.quit:=λT h=>by
   simp only[live,ξ,bne_iff_ne,ne_eq] at h;exact⟨λe=>h.1 (mJ.2 e),λe=>h.2 (AV.2 e)⟩
  rcases FG.sleep (by simp[p0,h1]) h2 with h3|h3
  .obtain⟨h4,h5⟩:=Hc _ h3
   exact two .a .b (by simp) (by simp) h4 h5 FM.UB
  .obtain⟨h4,h5⟩:=Hc _ h3
   exact two .b .a (by simp) (by simp) h4 h5 FM.UA
theorem Uw (c:Core X P Post S0 C gs w t)(hx:gs[0]? =some x)(hg:(C.L .m).pc= .g1\/(C.L .m).pc= .g2){k':Nat}(hk:C.k .m=k'+1){cm:Δ}(hcm:cm=(C.γ .m).mine)
  (hl:OM X P (zu X P Post k') (C.L .m) {(C.γ .m) with mine:=cm} x w) (hdd:C.ds .m=0):
  ∃m₁ ops μ',runT P (crowd gs w sl) 0=(.next m₁,ops)/\TZ μ' (C.ms gs.size)/\BJ X P Post S0 C.n0 μ' m₁ (t++ops):=by
 subst hcm;obtain⟨_,_,g',child,hs,hchild,hnext⟩:=hl;have hrun:=runT_crowd_spawn (P:=P) (sl:=sl) (i:=0) hx hs;obtain⟨hun,r2',htab,oh⟩:=c.tab.go (N:=X.N (eY (C.L .m).pc)) hg (c.ST _ (by
  intro hb;have:=c.tab.TU;rcases hg with h|h
  .have FG:=c.tab.Q4.facts
   have:=(FG.un1 (.inr (by simp[p0,h]))).1;rw[h] at hb;exact hb (mJ.1 this)
  .have FG:=c.tab.Q4.facts
   have:=(FG.un2 (.inr (by simp[p0,h]))).2;rw[h] at hb;exact hb (mJ.1 this))).2
 have FG:=c.tab.Q4.facts
 have JK:gid C.n0 (eY (C.L .m).pc)=gs.size:=by
  rw[c.size];unfold nb;rcases hg with h|h
  .have h1:=FG.un1 (.inr (by simp[p0,h]))
   rw[χ (mJ.1 h1.1),χ (mJ.1 h1.2),h];rfl
  .have h1:=FG.un2 (.inr (by simp[p0,h]))
   rw[ζ (λe=>h1.1 (mJ.2 e)),χ (mJ.1 h1.2),h];rfl
 have hrm:eY (C.L .m).pc≠.m:=by rcases hg with h|h<;>rw[h]<;>simp[eY]
 have hbg:(il (C.L .m).pc).pc= .k2\/(il (C.L .m).pc).pc= .kw:=by rcases hg with h|h<;>rw[h]<;>simp[il]
 generalize hrc:eY (C.L .m).pc=rc at*;generalize hbh:il (C.L .m).pc=Tm at*;have hmute:eQ Tm.pc=false:=by rcases hbg with h|h<;>rw[h]<;>rfl
 have XV:gp Tm.pc=0:=by rcases hbg with h|h<;>rw[h]<;>rfl
 have MX:Tm.pc≠.ur/\Tm.pc≠.un/\Tm.pc≠.quit/\past Tm.pc=false:=by rcases hbg with h|h<;>rw[h]<;>simp[past]
 have JO:0<gs.size:=(Ψ.1 hx).1
 let L':bg->Lo:=upd (upd C.L .m Tm) rc (at_ .out (X.N rc))
 let γm:Gh Δ:=given (C.γ .m)
 let γ':bg->Gh Δ:=upd (upd C.γ .m γm) rc {γm with mine:=X.c0 rc}
 have Lm:L' .m=Tm:=by simp only[L'];rw[upd_ne _ _ (Ne.symm hrm),upd_same]
 have Lc:L' rc=at_ .out (X.N rc):=upd_same _ _ _;have T9:∀r',r'≠.m->r'≠rc->L' r'=C.L r':=λr' h1 h2=>by simp only[L'];rw[upd_ne _ _ h2,upd_ne _ _ h1]
 have Gm:γ' .m=γm:=by simp only[γ'];rw[upd_ne _ _ (Ne.symm hrm),upd_same]
 have Gc:γ' rc={γm with mine:=X.c0 rc}:=upd_same _ _ _;have ZG:∀r',r'≠.m->r'≠rc->γ' r'=C.γ r':=λr' h1 h2=>by simp only[γ'];rw[upd_ne _ _ h2,upd_ne _ _ h1]
 have hnc:¬born C.L rc:=λh=>h hun
 have born':∀r',born L' r'↔born C.L r'\/r'=rc:=λr'=>by
  by_cases e2:r'=rc
  .subst e2
   refine⟨λ_=> .inr rfl,λ_=>?_⟩;show(L' r').pc≠.un;rw[Lc];simp
  .by_cases e1:r'= .m
   .subst e1
    refine⟨λ_=> .inl c.pC,λ_=>?_⟩;show(L' .m).pc≠.un;rw[Lm];exact MX.2.1
   .show(L' r').pc≠.un↔_
    rw[T9 r' e1 e2];exact⟨.inl,λh=>h.resolve_right e2⟩
 have nb':nb L'=nb C.L+1:=by
  unfold nb;cases rc with
  |m=>exact absurd rfl hrm
  |a=>
   have e:(at_ .out (X.N .a)).pc≠.un:=by simp
   simp only[Lc,T9 .b (by simp) (by simp),χ hun,ζ e]<;>omega
  |b=>
   have e:(at_ .out (X.N .b)).pc≠.un:=by simp
   simp only[Lc,T9 .a (by simp) (by simp),χ hun,ζ e]<;>omega
 have nZ:∀r',(γ' r').mine=(C.γ r').mine:=λr'=>by
  by_cases e2:r'=rc
  .subst e2;rw[Gc];exact(c.ST r' hnc).1.symm
  .by_cases e1:r'= .m
   .subst e1;rw[Gm];rfl
   .rw[ZG r' e1 e2]
 have ag7:¬(C.γ .m).own X.M:=λh=>jj c.tab rfl ((c.lay.vh .m).1 h)
 have own':∀r' b,(γ' r').own b->(C.γ r').own b/\r'≠.m/\r'≠rc:=λr' b h=>by
  by_cases e2:r'=rc
  .subst e2;rw[Gc] at h;exact h.elim
  .by_cases e1:r'= .m
   .subst e1;rw[Gm] at h;exact h.elim
   .rw[ZG r' e1 e2] at h;exact⟨h,e1,e2⟩
 have ro':∀r' b,(γ' r').ro b->((r'= .m\/r'=rc)/\((C.γ .m).ro b\/(C.γ .m).own b))\/(r'≠.m/\r'≠rc/\(C.γ r').ro b):=λr' b h=>by
  by_cases e2:r'=rc
  .subst e2;rw[Gc] at h;exact .inl ⟨.inr rfl,h⟩
  .by_cases e1:r'= .m
   .subst e1;rw[Gm] at h;exact .inl ⟨.inl rfl,h⟩
   .rw[ZG r' e1 e2] at h;exact .inr ⟨e1,e2,h⟩
 have JJ:∀r',(L' r').pc= .ur↔(C.L r').pc= .ur/\r'≠.m/\r'≠rc:=λr'=>by
  by_cases e2:r'=rc
  .subst e2;rw[Lc];simp
  .by_cases e1:r'= .m
   .subst e1;rw[Lm];exact⟨λh=>absurd h MX.1,λh=>absurd rfl h.2.1⟩
   .rw[T9 r' e1 e2];exact⟨λh=>⟨h,e1,e2⟩,λh=>h.1⟩
 have Zg:∀r',(C.L r').pc= .ur->r'≠.m/\r'≠rc:=λr' h=>⟨λe=>by subst e;exact jj c.tab rfl h,λe=>by subst e;rw[hun] at h;cases h⟩
 have hold':hold L'=hold C.L:=by
  have e1:∀r',((L' r').pc= .ur)=((C.L r').pc= .ur):=λr'=>propext ⟨λh=>((JJ r').1 h).1,λh=>(JJ r').2 ⟨h,Zg r' h⟩⟩
  unfold hold;simp only[e1]
 have XO:Lay X S0 γ' L' w.heap.size:=by
  refine⟨λr' b h=>?_,λr' h=>?_,λr'=>?_,λr' r'' b h h'=>c.lay.apart _ _ b (own' _ _ h).1 (own' _ _ h').1,λr' r'' b h h'=>?_,λr' b h=>?_,c.lay.fm,c.lay.fw,c.lay.mw,c.lay.s0,c.lay.vn,c.lay.Bb,c.lay.tJ⟩
  .rcases h with h|h
   .exact c.lay.sp r' b (.inl (own' _ _ h).1)
   .rcases ro' _ _ h with⟨_,h|h⟩|⟨_,_,h⟩
    .exact c.lay.sp .m b (.inr h)
    .exact c.lay.sp .m b (.inl h)
    .exact c.lay.sp r' b (.inr h)
  .rcases ro' _ _ h with⟨_,h|h⟩|⟨_,_,h⟩
   .exact c.lay.ZT _ h
   .exact ag7 h
   .exact c.lay.ZT _ h
  .rw[JJ]
   constructor
   .intro h;exact⟨(c.lay.vh r').1 (own' _ _ h).1,(own' _ _ h).2⟩
   .intro⟨h,h1,h2⟩;rw[ZG r' h1 h2];exact(c.lay.vh r').2 h
  .obtain⟨h1,h2,h3⟩:=own' _ _ h
   rcases ro' _ _ h' with⟨_,h4|h4⟩|⟨_,_,h4⟩
   .exact c.lay.zT _ _ b h1 h4
   .exact h2 (c.lay.apart _ _ b h1 h4)
   .exact c.lay.zT _ _ b h1 h4
  .refine(born' r').2 ?_
   rcases h with h|h
   .exact .inl (c.lay.lv r' b (.inl (own' _ _ h).1))
   .rcases ro' _ _ h with⟨e,_⟩|⟨_,_,h⟩
    .rcases e with e|e
     .exact .inl (e▸c.pC)
     .exact .inr e
    .exact .inl (c.lay.lv r' b (.inr h))
 have hops:((MemOp.ofEvents 0 x.frame.fn x.frame.place #[]).push {g:=0,fn:=x.frame.fn,pos:=x.frame.place,act:= .go gs.size}).push {g:=gs.size,fn:=child.frame.fn,pos:=x.frame.place,act:= .start}=
   #[({g:=0,fn:=x.frame.fn,pos:=x.frame.place,act:= .go gs.size}:MemOp),{g:=gs.size,fn:=child.frame.fn,pos:=x.frame.place,act:= .start}]:=by rw[ofEvents_none];rfl
 rw[hops] at hrun;have still:∀op∈(#[({g:=0,fn:=x.frame.fn,pos:=x.frame.place,act:= .go gs.size}:MemOp),{g:=gs.size,fn:=child.frame.fn,pos:=x.frame.place,act:= .start}]:Trace),op.act≠.mark .disable/\op.act≠.mark .enable:=by
  intro op ho;simp at ho;rcases ho with rfl|rfl<;>simp
 have hti:=TI.fork c.pC hrm c.ti (x:={g:=0,fn:=x.frame.fn,pos:=x.frame.place,act:= .go gs.size}) (y:={g:=gs.size,fn:=child.frame.fn,pos:=x.frame.place,act:= .start}) ⟨rfl,by rw[JK]⟩ ⟨JK.symm,rfl⟩
  (by have:=c.deaf .m c.pC;rw[hdd] at this;exact this) (by rw[JK];exact c.above _ (φ _)) c.sj (λi g hgi e=>by
   subst e;have hge:C.n0<=gid C.n0 rc:=by cases rc<;>simp[gid] at hrm⊢
   obtain⟨r',h1,h2,h3⟩:=c.ti.ids i _ hgi hge;exact hnc (kq c.sj h3▸h2))
 obtain⟨ρc,ahu⟩:=hchild (oo L' C.r1 r2'+1);obtain⟨ρm,aht⟩:=hnext;have hkm:=c.fuel .m c.pC
 let C':Cf Δ:={C with L:=L',γ:=γ',k:=upd (upd C.k .m k') rc (oo L' C.r1 r2'+1),ρ:=upd (upd C.ρ .m ρm) rc ρc,aw:=upd (upd C.aw .m 1) rc 1,ds:=upd C.ds rc 0,r2:=r2'}
 have hsz:((gs.setIfInBounds 0 g').push child).size=gs.size+1:=by simp
 have aax:∀{α:Type} (f:bg->α) (u v:α) (r':bg),r'≠.m->r'≠rc->upd (upd f .m u) rc v r'=f r':=λf u v r' h1 h2=>by rw[upd_ne _ _ h2,upd_ne _ _ h1]
 have SS:∀{α:Type} (f:bg->α) (u v:α),upd (upd f .m u) rc v .m=u:=λf u v=>by rw[upd_ne _ _ (Ne.symm hrm),upd_same]
 have ah7:((gs.setIfInBounds 0 g').push child)[0]? =some g':=by rw[ac2 (by simpa using JO)];simp[JO]
 have ah6:((gs.setIfInBounds 0 g').push child)[gs.size]? =some child:=by
  have:gs.size=(gs.setIfInBounds 0 g').size:=by simp
  rw[this];exact Array.getElem?_push_size
 have adH:∀i,i≠0->i≠gs.size->((gs.setIfInBounds 0 g').push child)[i]? =gs[i]? :=λi h1 h2=>by
  rw[Array.getElem?_push];rw[ζ (by simpa using h2),aa6 (Ne.symm h1)]
 have ac1:oo L' C.r1 r2'<oo C.L C.r1 C.r2:=oh;refine⟨_,_,C'.ms (gs.size+1),hrun,.left _ _ ac1,C',_,w,sl,rfl,rfl,?_,by rw[hsz]⟩;refine⟨c.sj,by rw[hsz,c.size];show C.n0+nb C.L+1=C.n0+nb L';rw[nb'];omega,htab,λr' hr'=>?_,c.sh,λr' hr'=>?_,λr' hr'=>?_,λi g h0 h1 hgi=>?_,λj hj=>?_,λr' hr'=>?_,λh1 h2=>?_,λr' h=>?_,λr' h=>?_,λr' h=>?_,XO,?_⟩
 .show oo L' C.r1 r2'<upd (upd C.k .m k') rc (oo L' C.r1 r2'+1) r'
  by_cases e2:r'=rc
  .subst e2;rw[upd_same];omega
  .by_cases e1:r'= .m
   .subst e1;rw[SS];omega
   .rw[aax _ _ _ _ e1 e2]
    have:=c.fuel r' (((born' r').1 hr').resolve_right e2);omega
 .by_cases e2:r'=rc
  .subst e2
   refine⟨child,by show _[gid C.n0 r']? =_;rw[JK];exact ah6,.inl ?_⟩;simp only[C',upd_same,Lc,Gc];refine⟨by simp,rfl,trivial,?_⟩;have hAt:AtR X P Post (oo L' C.r1 r2'+1) r'=In X P (oo L' C.r1 r2'+1) r':=by cases r'<;>first|rfl|exact absurd rfl hrm
   have hM:vo r'=false:=by cases r'<;>first|rfl|exact absurd rfl hrm
   rw[hAt,hM];exact ahu
  .by_cases e1:r'= .m
   .subst e1
    refine⟨g',ah7,.inl ?_⟩;simp only[C',SS,Lm,Gm,upd_ne _ _ (Ne.symm hrm)];refine⟨MX.2.2.1,by rw[XV];exact hdd,trivial,?_⟩;rw[hmute];exact aht
   .obtain⟨g,h1,h2⟩:=c.sit r' (((born' r').1 hr').resolve_right e2)
    have hne0:gid C.n0 r'≠0:=Ht c.sj e1;have ahK:gid C.n0 r'≠gs.size:=λh=>e2 (kq c.sj (h.trans JK.symm))
    refine⟨g,by rw[adH _ hne0 ahK];exact h1,?_⟩;simp only[C',aax _ _ _ _ e1 e2,T9 r' e1 e2,ZG r' e1 e2,upd_ne _ _ e2];exact h2
 .have hb:¬born C.L r':=λh=>hr' ((born' r').2 (.inl h))
  have e2:r'≠rc:=λe=>hr' ((born' r').2 (.inr e))
  have e1:r'≠.m:=λe=>hb (e▸c.pC)
  simp only[C',T9 r' e1 e2,ZG r' e1 e2];exact c.ST r' hb
 .have hlt:i<gs.size:=by rw[c.size];have:i<C.n0:=h1;omega
  rw[adH i (by omega) (by omega)] at hgi;rw[ConcN.Deaf_still _ _ _ still];exact c.old i g h0 h1 hgi
 .rw[ConcN.Deaf_still _ _ _ still]
  exact c.above j (by omega)
 .rw[ConcN.Deaf_still _ _ _ still]
  show Deaf t (gid C.n0 r')=upd C.ds rc 0 r'
  by_cases e2:r'=rc
  .subst e2;rw[upd_same,JK];exact c.above _ (φ _)
  .rw[upd_ne _ _ e2];exact c.deaf r' (((born' r').1 hr').resolve_right e2)
 .show ∃o,w.heap[X.M]? =some o/\X.Dat (γ' .a).mine (γ' .b).mine o
  rw[nZ,nZ];exact c.data (λh=>h1 ((JJ .a).2 ⟨h,Zg _ h⟩)) (λh=>h2 ((JJ .b).2 ⟨h,Zg _ h⟩))
 .obtain⟨h1,h2,h3⟩:=(JJ r').1 h
  show(γ' r').other=(γ' (Mc r')).mine;rw[nZ,ZG r' h2 h3];exact c.F7 r' h1
 .have h:past (L' r').pc=true:=h
  have e2:r'≠rc:=λe=>by rw[e,Lc] at h;cases h
  have e1:r'≠.m:=λe=>by rw[e,Lm,MX.2.2.2] at h;cases h
  rw[T9 r' e1 e2] at h;show(γ' r').mine=_;rw[nZ];exact c.fin r' h
 .have h:past (L' r').pc=true:=h
  have e2:r'≠rc:=λe=>by rw[e,Lc] at h;cases h
  have e1:r'≠.m:=λe=>by rw[e,Lm,MX.2.2.2] at h;cases h
  rw[T9 r' e1 e2] at h;obtain⟨p,hp⟩:=c.rel r' h;refine⟨p,hp.app λi hi hgi hc=>?_⟩;obtain⟨z,hz,_⟩:=hc;rcases ce hz with⟨h5,_⟩|⟨_,op,hop,_,hox⟩
  .omega
  .simp at hop
   rcases hop with rfl|rfl<;>cases hox
 .show TI C.n0 (yC X S0) (OL X γ' L') (born L') (λr=>(γ' r).own) X.M (hold L') (mA X) (wA X) w.heap.size _
  rw[hold'];refine TI.mono hti (λr' l h=>?_) born' own'
  by_cases e:r'= .m\/r'=rc
  .rw[χ e]
   rcases h.2 with⟨b,hb,hin⟩|hcell
   .rcases ro' _ _ hb with⟨_,h5|h5⟩|⟨h6,h7,_⟩
    .exact .inl ⟨c.pC,.inl ⟨b,h5,hin⟩⟩
    .exact .inr ⟨b,h5,hin⟩
    .exact absurd e (λz=>z.elim h6 h7)
   .exact .inl ⟨c.pC,.inr hcell⟩
  .rw[ζ e]
   refine⟨((born' r').1 h.1).resolve_right λz=>e (.inr z),?_⟩;rcases h.2 with⟨b,hb,hin⟩|hcell
   .rcases ro' _ _ hb with⟨h5,_⟩|⟨_,_,h5⟩
    .exact absurd h5 e
    .exact .inl ⟨b,h5,hin⟩
   .exact .inr hcell
structure Joined (X:Cx Δ)(P:ω)(Post:Gh Δ->Ω->Θ->Prop)(S0:Nat->Prop)(n0:Nat)(gs:Array Ω)(w:Θ)(t:Trace):Prop where
 size:gs.size=n0+2
 post:∃g γ,gs[0]? =some g/\Post γ g w
 ahe:∃q,Leavers P t gs q
 past:Past (yC X S0) w.heap.size t
 ids:∀op∈t,op.g<n0+2
theorem Ux (c:Core X P Post S0 C gs w t)(hx:gs[0]? =some x)(hg:(C.L .m).pc= .aq)(hdd:C.ds .m=0){γ:Gh Δ}(hl:Ua X P Post γ x w):
  ∃gs' ops,runT P (crowd gs w sl) 0=(.next (crowd gs' w sl),ops)/\Joined X P Post S0 C.n0 gs' w (t++ops):=by
 have FG:=c.tab.Q4.facts;have hq:=FG.fin (by simp[p0,hg]);have ha:=AV.1 hq.1;have hb:=AV.1 hq.2;obtain⟨o,h1,h2⟩:=c.data (by rw[ha];simp) (by rw[hb];simp);rw[c.fin .a (by rw[ha];rfl),c.fin .b (by rw[hb];rfl)] at h2;obtain⟨_,_,hl⟩:=hl;obtain⟨g',hs,hpost⟩:=hl o h1 h2;have hrun:=runT_crowd_go (P:=P) (sl:=sl) (i:=0) hx (by simpa using hs)
 have JO:0<gs.size:=(Ψ.1 hx).1;have acR:∀r,r≠.m->born C.L r->(C.L r).pc= .quit/\r≠.m:=λr h _=>by cases r<;>first|exact absurd rfl h|exact⟨ha,h⟩|exact⟨hb,h⟩
 have e1:MemOp.ofEvents 0 x.frame.fn x.frame.place #[qA (.acquire (wA X))]=#[{g:=0,fn:=x.frame.fn,pos:=x.frame.place,act:= .mark (.acquire (wA X))}]:=by rw[ofEvents_eq];simp[qA,MemAct.ofEvent]
 have hsz:((gs.map (woken P x g' w)).setIfInBounds 0 g').size=gs.size:=by simp
 have hd0:Deaf t 0=0:=by have:=c.deaf .m c.pC;rw[hdd] at this;exact this
 refine⟨_,_,hrun,⟨?_,⟨g',γ,by simp[JO],hpost⟩,⟨C.q,λi g hi0 hgi=>?_,λj hj=>?_⟩,?_,λop hop=>?_⟩⟩
 .rw[hsz,c.size]
  unfold nb;rw[ζ (by rw[ha];simp),ζ (by rw[hb];simp)]
 .rw[ConcN.get_map_set _ _ _ _ (by omega)] at hgi
  obtain⟨y,hy,rfl⟩:=τ.1 hgi;have hlt:i<gs.size:=(Ψ.1 hy).1;have hQ:QuitsD P (C.q i) (Deaf t i) y:=by
   rcases c.who hlt with⟨r,hr,rfl⟩|⟨h3,h4⟩
   .have hrm:r≠.m:=λe=>by subst e;exact absurd rfl (Nat.ne_of_gt hi0)
    obtain⟨g,h5,h6⟩:=c.sit r hr;rw[hy] at h5;obtain rfl:=ae7 h5;have hqp:=(acR r hrm hr).1;rw[c.deaf r hr];rcases h6 with⟨h7,_⟩|⟨h7,_⟩|⟨_,_,h7⟩
    .exact absurd hqp h7
    .exact absurd hqp h7
    .exact h7
   .exact c.old i y h3 h4 hy
  rw[woken_quitsD hQ,Deaf_other t (g':=0) (by omega) _ uz];exact hQ
 .rw[hsz] at hj
  rw[Deaf_other t (g':=0) (by omega) _ uz];exact c.above j hj
 .rw[e1]
  exact TI.join c.sj c.ti rfl rfl hd0 c.lay.tJ λr hr hb'=>c.rel r (by rw[(acR r hr hb').1];rfl)
 .have sj:=c.sj
  rcases af6.1 hop with hop|hop
  .rcases Nat.lt_or_ge op.g C.n0 with h|h
   .omega
   .obtain⟨i,hi⟩:=Array.mem_iff_getElem?.1 hop
    obtain⟨r,_,_,e⟩:=c.ti.ids i op.g (by simp[Trace.g?,hi]) h;rw[e];cases r<;>simp[gid]
  .have:=uz op hop
   omega
theorem K9 (c:Core X P Post S0 C gs w t):
  (∃m' ops μ',stepT P (crowd gs w sl)=(.next m',ops)/\TZ μ' (C.ms gs.size)/\BJ X P Post S0 C.n0 μ' m' (t++ops))\/
  ∃gs' w' sl' ops,stepT P (crowd gs w sl)=(.next (crowd gs' w' sl'),ops)/\Joined X P Post S0 C.n0 gs' w' (t++ops):=by
 obtain⟨i,g,d,sl',hi,hg,hst⟩:=crowd_pick (P:=P) (w:=w) (sl:=sl) c.awake c.Pz;rw[hst];have c:=c.at d;generalize w.at d=w at c;have hlt:i<gs.size:=(Ψ.1 hi).1;rcases c.who hlt with⟨r,hr,rfl⟩|⟨h0,h1⟩
 .obtain⟨g',hg1,hs⟩:=c.sit r hr
  rw[hi] at hg1;obtain rfl:=ae7 hg1;obtain⟨k',hk⟩:=c.kpos hr
  have OA:C.aw r=1->(C.L r).pc≠.quit->C.ds r=gp (C.L r).pc->(∀w₁,RX X (C.γ r).ro (C.γ r).own w w₁->dR (AtR X P Post (C.k r) r) (C.L r) (C.γ r) (C.γ r).own g w₁)->
    (∃m' ops μ',runT P (crowd gs w sl') (gid C.n0 r)=(.next m',ops)/\TZ μ' (C.ms gs.size)/\BJ X P Post S0 C.n0 μ' m' (t++ops))\/
    ∃gs' w' sl'' ops,runT P (crowd gs w sl') (gid C.n0 r)=(.next (crowd gs' w' sl''),ops)/\Joined X P Post S0 C.n0 gs' w' (t++ops):=λhaw hnq hdd hstop=>by
   obtain⟨cm,hcm,hat⟩:=hstop w (RX.refl X _ _ w);rw[hk] at hat;have acT:mP (C.L r).pc=true->r= .m:=λh=>by
    cases r with
    |m=>rfl
    |a=>have:=c.tab.wa;revert this h;cases (C.L .a).pc<;>simp[mP,iV]
    |b=>have:=c.tab.wb;revert this h;cases (C.L .b).pc<;>simp[mP,iV]
   by_cases hgo:(C.L r).pc= .g1\/(C.L r).pc= .g2
   .obtain rfl:=acT (by rcases hgo with h|h<;>rw[h]<;>rfl)
    have hat':zu X P Post (k'+1) (C.L .m) _ g w:=hat;unfold zu at hat';rw[χ hgo] at hat';exact .inl (Uw c hi hgo hk (hcm (by rcases hgo with h|h<;>rw[h]<;>simp)) hat' (by rw[hdd];rcases hgo with h|h<;>rw[h]<;>rfl))
   by_cases haq:(C.L r).pc= .aq
   .obtain rfl:=acT (by rw[haq];rfl)
    have hat':zu X P Post (k'+1) (C.L .m) _ g w:=hat;unfold zu at hat';rw[ζ hgo,χ haq] at hat';obtain⟨gs',ops,e1,e2⟩:=Ux (sl:=sl') c hi haq (by rw[hdd,haq];rfl) hat';exact .inr ⟨gs',w,sl',ops,e1,e2⟩
   obtain⟨l1,l2,l3,l4,l5⟩:=hat.law hgo haq;obtain⟨l6,l7⟩:=l5 C.s c.sh c.tab.fits;have hty:mP (C.L r).pc=true\/iV (C.L r).pc=true:=by
    cases r with
    |m=>exact .inl c.tab.st
    |a=>exact .inr c.tab.wa
    |b=>exact .inr c.tab.wb
   by_cases hmv:mv (C.L r) C.s=[]
   .exact .inl (stepBlock c hr hi hnq hdd haw hstop (mv_nil hty hgo haq hr hnq hmv) (l6 hmv))
   .have hla:(C.L r).pc= .la->∃o,w.heap[X.M]? =some o/\BK X r cm (C.γ (Mc r)).mine o:=λhla=>by
     have hrm:r≠.m:=λe=>by subst e;exact jj c.tab rfl hla
     have hp:(pm (C.L r)).pc= .u0:=by simp[pm,hla]
     have hnu:∀r',(C.L r').pc≠.ur:=λr' hu=>by
      have hn:r'≠r:=λe=>by subst e;rw[hla] at hu;cases hu
      have hnm:r'≠.m:=λe=>by subst e;exact jj c.tab rfl hu
      have hp':(pm (C.L r')).pc= .u0:=by simp[pm,hu]
      have FM:=c.tab.ZY.facts;cases r<;>cases r'<;>simp at hrm hn hnm
      .exact FM.excl ⟨hp,hp'⟩
      .exact FM.excl ⟨hp',hp⟩
     obtain⟨o,h1,h2⟩:=c.data (hnu .a) (hnu .b);have e:=hcm (by rw[hla];simp);refine⟨o,h1,?_⟩;rw[e];cases r with
     |m=>exact absurd rfl hrm
     |a=>exact h2
     |b=>exact h2
    obtain⟨q,hq,hrest⟩:=l7 (C.γ (Mc r)).mine hla hmv;have hnb:=(c.tab.move hq hr).1;obtain⟨hfin,x',w',es,m1,m2,m3,m4,m5⟩:=hrest hnb;exact .inl (stepMove c hr hi hnq hdd hq hk hcm (λhu=>l4 hu) l3 hfin m1 m2 m3 m4 (d:=(C.γ (Mc r)).mine) (λ_=>rfl) m5)
  rcases hs with⟨h1,h2,h3,hl⟩|⟨_,_,_,_,g₀,e,_⟩|⟨h1,h2,hq⟩
  .cases hρ:C.ρ r with
   |zero=>
    rw[hρ] at hl;exact OA h3 h1 h2 hl
   |mk f=>
    rw[hρ] at hl;rcases hl with hl|⟨_,hl⟩
    .exact OA h3 h1 h2 hl
    .obtain⟨x',w',es,m1,m2,m3⟩:=hl w (RX.refl X _ _ w)
     exact .inl (La c hr hi hρ h1 h2 m1 m2 m3)
  .subst e;cases hg
  .by_cases hrm:r= .m
   .subst hrm;exact absurd h1 (jj c.tab rfl)
   .refine .inl (zG c (Ht c.sj hrm) hi hg (.inr ⟨r,hr,hrm,rfl,h1⟩) ?_)
    rw[c.deaf r hr];exact hq
 .exact .inl (zG c (by omega) hi hg (.inl h1) (c.old i g h0 h1 hi))
theorem IC {n0:Nat}:∀μ m t,BJ X P Post S0 n0 μ m t->∃N gs' w' sl' t',runNT P N m t=(.next (crowd gs' w' sl'),t')/\Joined X P Post S0 n0 gs' w' t':=by
 intro μ
 induction μ using WW.induction with
 |_ μ ih=>
  rintro m t ⟨C,gs,w,sl,rfl,rfl,hc,rfl⟩;rcases K9 (sl:=sl) hc with⟨m',ops,μ',h1,h2,h3⟩|⟨gs',w',sl',ops,h1,h2⟩
  .obtain⟨N,gs',w',sl',t',h4,h5⟩:=ih μ' h2 m' _ h3
   exact⟨N+1,gs',w',sl',t',by simp only[runNT,h1];exact h4,h5⟩
  .exact⟨1,gs',w',sl',_,by simp only[runNT,h1],h2⟩
end
end aG
end
section
open Go.Conc
open Go.ConcM (OsLater)
namespace aG
section
variable {Δ:Type}{X:Cx Δ}{P:ω}{r:bg}{k:Nat}{T T':Lo}{γ:Gh Δ}{own:Nat->Prop}{g g':Ω}{w w':Θ}{es:Array Event}
theorem jO (deaf:Bool)(ro:Nat->Prop):Idle (fq X deaf ro):=λown w=>
 ⟨⟨rfl,rfl,φ _,.refl _,λ_ _ _=>rfl,by simp,λ_=>rfl⟩,by funext b;show(own b\/(w.heap.size<=b/\b<w.heap.size))=own b;exact propext ⟨λh=>h.elim id λz=>by omega,.inl⟩⟩
theorem aC {deaf:Bool}{ro:Nat->Prop}{Stop:(Nat->Prop)->Ω->Θ->Prop}{main:Bool}(h:au P main g g')(k:aD P main (fq X deaf ro) Stop own g' w):aD P main (fq X deaf ro) Stop own g w:=jY (jO deaf ro) h k
theorem aV {x:aa9×Array Φ}(h:aF g=some x):g.status= .running/\g.offers=none:=by
 obtain⟨f,args⟩:=x;obtain⟨b,a,ops,i,rest,kk,cs,o,ae,ats,rfl,_⟩:=cX h;exact⟨rfl,rfl⟩
theorem cY {v:lu}(h:aT g=some v):g.status= .running/\g.offers=none:=by
 obtain⟨b,a,ops,i,rest,kk,cs,o,rfl,_⟩:=mV h;exact⟨rfl,rfl⟩
theorem pz {x:aa9×Array Φ}(h:iu g=some x):g.status= .running/\g.offers=none:=by
 obtain⟨f,args⟩:=x;obtain⟨b,a,todo,ds,cs,rfl,_⟩:=sO h;exact⟨rfl,rfl⟩
theorem MF {main deaf:Bool}{Nx:Nat->Lo->Gh Δ->Ω->Θ->Prop}(h0:∀T γ g w,Nx 0 T γ g w)(h:∀k' w₁,k=k'+1->RX X γ.ro own w w₁->Nx (k'+1) T {γ with own:=own} g w₁):
  aD P main (fq X deaf γ.ro) (dR (Nx k) T γ) own g w:=by
 cases k with
 |zero=>exact aD.stop λw₁ hr=>⟨γ.mine,λ_=>rfl,h0 _ _ _ _⟩
 |succ k=>exact aD.stop λw₁ hr=>⟨γ.mine,λ_=>rfl,h k w₁ rfl hr⟩
theorem ShAt.Zn {s:Sh}(h:ShAt X w s):w.cell? (mA X)=some (.int .i32 s.mu):=by simp[World.cell?,mA,h.1]
theorem ShAt.cMs {s:Sh}(h:ShAt X w s):w.cell? (msA X)=some (.int .u32 s.ms):=by simp[World.cell?,msA,h.1]
theorem ShAt.Ko {s:Sh}(h:ShAt X w s):w.cell? (wA X)=some (.int .u64 s.wg):=by simp[World.cell?,wA,h.2]
theorem ShAt.cWs {s:Sh}(h:ShAt X w s):w.cell? (KI X)=some (.int .u32 s.ws):=by simp[World.cell?,KI,h.2]
theorem ShAt.thF {s:Sh}(h:ShAt X w s)(o:Nat):w.frozen? ⟨X.Fd,o,none⟩=false:=by simp[World.frozen?,h.1]
theorem ShAt.OU {s:Sh}(h:ShAt X w s)(o:Nat):w.frozen? ⟨X.Wg,o,none⟩=false:=by simp[World.frozen?,h.2]
theorem ShAt.setMu {s:Sh}(hne:X.Fd≠X.Wg)(h:ShAt X w s)(v:Int):ShAt X (w.setCell (mA X) (.int .i32 v)) {s with mu:=v}:=
 ⟨by rw[mA,setCell_eq_setRow w X.Fd 0 _ X.tF (0,0) _ h.1,setRow_heap w X.Fd _ _ X.tF _ h.1];simp,((aside_setCell w (mA X) _).block X.Wg hne.symm).trans h.2⟩
theorem ShAt.setMs {s:Sh}(hne:X.Fd≠X.Wg)(h:ShAt X w s)(v:Int):ShAt X (w.setCell (msA X) (.int .u32 v)) {s with ms:=v}:=
 ⟨by rw[msA,setCell_eq_setRow w X.Fd 1 _ X.tF (0,0) _ h.1,setRow_heap w X.Fd _ _ X.tF _ h.1];simp,((aside_setCell w (msA X) _).block X.Wg hne.symm).trans h.2⟩
theorem ShAt.setWg {s:Sh}(hne:X.Fd≠X.Wg)(h:ShAt X w s)(v:Int):ShAt X (w.setCell (wA X) (.int .u64 v)) {s with wg:=v}:=
 ⟨((aside_setCell w (wA X) _).block X.Fd hne).trans h.1,by rw[wA,setCell_eq_setRow w X.Wg 0 _ X.tW (0,0) _ h.2,setRow_heap w X.Wg _ _ X.tW _ h.2];simp⟩
theorem ShAt.setWs {s:Sh}(hne:X.Fd≠X.Wg)(h:ShAt X w s)(v:Int):ShAt X (w.setCell (KI X) (.int .u32 v)) {s with ws:=v}:=
 ⟨((aside_setCell w (KI X) _).block X.Fd hne).trans h.1,by rw[KI,setCell_eq_setRow w X.Wg 1 _ X.tW (0,0) _ h.2,setRow_heap w X.Wg _ _ X.tW _ h.2];simp⟩
def mB (X:Cx Δ)(a:Addr):Prop:=(a.block=X.Fd/\a.off≠2)\/(a.block=X.Wg/\X.Wg≠X.Fd)
theorem vQ {a:Addr}(ha:mB X a)(hb:ConcM.BookOK X.Fd X.Wg 1 1 es)(hes:∀e∈es,∀b:Addr,e.loc= .cell b->b=a)(hT:i7 T T'= .book):EvStop X T T' es:=by
 unfold EvStop;rw[hT];exact⟨hb,λe he b h1 h2=>by
  obtain rfl:=hes e he b h1;rcases ha with ha|ha
  .exact ha.2
  .exact absurd (ha.1.symm.trans h2) ha.2⟩
theorem qe {a:Addr}(ha:mB X a):a.block=X.Fd\/a.block=X.Wg:=ha.imp (·.1) (·.1)
theorem xS (hT:i7 T T'= .book):EvStop X T T' #[]:=by unfold EvStop;rw[hT];exact⟨ConcM.book_nil 1,by simp⟩
theorem pq {a:Addr}(ha:mB X a)(hT:i7 T T'= .book):EvStop X T T' #[⟨.cell a,false,true⟩,⟨.cell a,true,true⟩]:=
 vQ ha (ConcM.book_rw 0 a (qe ha)) (λe he b hb=>by simp at he;rcases he with rfl|rfl<;>cases hb<;>rfl) hT
theorem D3 {a:Addr}(ha:mB X a)(hT:i7 T T'= .book):EvStop X T T' #[⟨.cell a,false,true⟩]:=
 vQ ha (ConcM.book_one 0 a false (qe ha)) (λe he b hb=>by simp at he;subst he;cases hb;rfl) hT
theorem aiw {a:Addr}(ha:mB X a)(hT:i7 T T'= .book):EvStop X T T' #[⟨.cell a,true,true⟩]:=
 vQ ha (ConcM.book_one 0 a true (qe ha)) (λe he b hb=>by simp at he;subst he;cases hb;rfl) hT
theorem Bu {a:Addr}(ha:mB X a)(hT:i7 T T'= .book):EvStop X T T' (semEvents a):=
 vQ ha (ConcM.book_sem 0 a (qe ha)) (λe he b hb=>by simp[semEvents] at he;rcases he with rfl|rfl|rfl|rfl<;>cases hb<;>rfl) hT
theorem okM:mB X (mA X):= .inl ⟨rfl,by simp[mA]⟩
theorem aca:mB X (msA X):= .inl ⟨rfl,by simp[msA]⟩
theorem okW (h:X.Fd≠X.Wg):mB X (wA X):= .inr ⟨rfl,h.symm⟩
theorem ab9 (h:X.Fd≠X.Wg):mB X (KI X):= .inr ⟨rfl,h.symm⟩
theorem Hf {Nx:Lo->Gh Δ->Ω->Θ->Prop}(hrun:g.status= .running/\g.offers=none)(hmv:∀s,mv T s=[(T',s)])(h1:T.pc≠.la)(h2:T.pc≠.ur)(h3:T'.pc≠.wk)(h4:T'.pc≠.quit)(h5:T.pc≠.us)(h6:T.pc≠.d4)
  (hs:∀s,ShAt X w s->∃es w',stepG P (vo r) g w= .go g' w' es/\ShAt X w' s/\ConcM.Eff X.Fd X.Wg w w'/\EvStop X T T' es/\aD P (vo r) (fq X (eQ T'.pc) γ.ro) (dR Nx T' γ) γ.own g' w'):ZC X P Nx r T γ g w:=by
 refine⟨hrun.1,hrun.2,λh=>h.elim (absurd · h5) (absurd · h6),λh=>absurd h h2,λs hsh _=>⟨λh=>(by rw[hmv] at h;cases h),λd hd _=>?_⟩⟩;obtain⟨es,w',e1,e2,e3,e4,e5⟩:=hs s hsh;refine⟨(T',s),by rw[hmv];simp,λ_=>⟨λh=>absurd h h3,g',w',es,e1,e2,e3,e4,?_⟩⟩;unfold After;rw[ζ h4];have e:iS X T.pc γ.own=γ.own:=by
  revert h1 h2
  cases T.pc<;>simp[iS]
 simp only[e,ζ h1];exact e5
theorem dg {Nx:Lo->Gh Δ->Ω->Θ->Prop}(hrun:g.status= .running/\g.offers=none)(h1:T.pc≠.la)(h2:T.pc≠.ur)(h3:T.pc≠.out)(h5:T.pc= .us\/T.pc= .d4->mayWake P g=true)
  (hb:∀s,ShAt X w s->s.fits->mv T s=[]->stepG P (vo r) g w= .go {g with status:= .blocked} w #[])
  (hs:∀s,ShAt X w s->s.fits->mv T s≠[]->∃q∈mv T s,q.1.pc≠.bad->∃g' w' es,stepG P (vo r) g w= .go g' w' es/\ShAt X w' q.2/\ConcM.Eff X.Fd X.Wg w w'/\EvStop X T q.1 es/\
   (if q.1.pc= .quit then ∃n,QuitsD P n 1 g' else aD P (vo r) (fq X (eQ q.1.pc) γ.ro) (dR Nx q.1 γ) γ.own g' w')):ZC X P Nx r T γ g w:=by
 refine⟨hrun.1,hrun.2,h5,λh=>absurd h h2,λs hsh hf=>⟨hb s hsh hf,λd hd hne=>?_⟩⟩;obtain⟨q,hq,hrest⟩:=hs s hsh hf hne;refine⟨q,hq,λhbad=>⟨λh=>?_,?_⟩⟩
 .exfalso
  rcases(Mq hq).2.2.1 (by rw[h];rfl) with hp|⟨hp,_⟩
  .revert hp hq h3
   obtain⟨pc,old,nw,aw,sv,it,n⟩:=T;obtain⟨q1,q2⟩:=q;simp only at h;cases pc<;>simp[past]<;>simp only[mv]<;>(repeat' split)<;>simp<;>intros<;>simp_all
  .exact h3 hp
 .obtain⟨g',w',es,e1,e2,e3,e4,e5⟩:=hrest hbad
  refine⟨g',w',es,e1,e2,e3,e4,?_⟩;unfold After;have e:iS X T.pc γ.own=γ.own:=by
   revert h1 h2
   cases T.pc<;>simp[iS]
  simp only[e,ζ h1];exact e5
end
abbrev PP:ω:=Tryz.prog
abbrev U:Φ:= .tuple #[]
def pt (F:Nat):Φ:= .pointer (some ⟨F,0,none⟩)
def qv (F:Nat):Φ:= .pointer (some ⟨F,1,none⟩)
def O (g:Ω):Ω:=A2 PP false 200 g
def On (n:Nat)(g:Ω):Ω:=A2 PP false n g
def rq (f:aa9):Code:=((PP.funcs[f]?).bind (·.body)).getD .skip
def Nf (f:aa9)(args:Array Φ)(n:Nat)(fr:κ)(cs:List κ):Ω:=G ((base f).at ⟨args++Array.replicate n undef,[]⟩ [.code (rq f)]) (fr::cs)
def cG (fr:κ)(cs:List κ)(v:Φ):Ω:={frame:=fr.finish v,callers:=cs,status:= .running,dying:=none}
theorem Ip:Ext PP 168 Tryz.f168:=⟨Tryz.func168,by kernel_rfl,by kernel_rfl,by kernel_rfl⟩
theorem JU:Extern.find Tryz.f168=some (λ_=>do mark .disable;pure Extern.Race.none_):=by kernel_rfl
theorem ZK:Ext PP 170 Tryz.f170:=⟨Tryz.func170,by kernel_rfl,by kernel_rfl,by kernel_rfl⟩
theorem fEn:Extern.find Tryz.f170=some (λ_=>do mark .enable;pure Extern.Race.none_):=by kernel_rfl
theorem aao:Ext PP 171 Tryz.f171:=⟨Tryz.func171,by kernel_rfl,by kernel_rfl,by kernel_rfl⟩
theorem aei:Extern.find Tryz.f171=some (Extern.Race.marked .acquire):=by kernel_rfl
theorem xRm:Ext PP 193 Tryz.f193:=⟨Tryz.func193,by kernel_rfl,by kernel_rfl,by kernel_rfl⟩
theorem fRm:Extern.find Tryz.f193=some (Extern.Race.marked .releaseMerge):=by kernel_rfl
theorem aan:Ext PP 217 Tryz.f217:=⟨Tryz.func217,by kernel_rfl,by kernel_rfl,by kernel_rfl⟩
theorem aeh:Extern.find Tryz.f217=some (Extern.Atomic.casT (.int .i32)):=by kernel_rfl
theorem agq:Ext PP 219 Tryz.f219:=⟨Tryz.func219,by kernel_rfl,by kernel_rfl,by kernel_rfl⟩
theorem aiv:Extern.find Tryz.f219=some (Extern.Atomic.update (Op.intArith .add) .i32 true):=by kernel_rfl
theorem SN:Ext PP 221 Tryz.f221:=⟨Tryz.func221,by kernel_rfl,by kernel_rfl,by kernel_rfl⟩
theorem TG:Extern.find Tryz.f221=some Extern.Sync.canSpin:=by kernel_rfl
theorem xDo:Ext PP 222 Tryz.f222:=⟨Tryz.func222,by kernel_rfl,by kernel_rfl,by kernel_rfl⟩
theorem fDo:Extern.find Tryz.f222=some (λ_=>pure (.tuple #[])):=by kernel_rfl
theorem SQ:Ext PP 224 Tryz.f224:=⟨Tryz.func224,by kernel_rfl,by kernel_rfl,by kernel_rfl⟩
theorem TK:Extern.find Tryz.f224=some Extern.OsHooks.nano:=by kernel_rfl
theorem Ta:Tryz.f224.norace=true:=by kernel_rfl
theorem aal:Ext PP 225 Tryz.f225:=⟨Tryz.func225,by kernel_rfl,by kernel_rfl,by kernel_rfl⟩
theorem aeb:Extern.find Tryz.f225=some Extern.Sync.semacquire:=by kernel_rfl
theorem aam:Ext PP 227 Tryz.f227:=⟨Tryz.func227,by kernel_rfl,by kernel_rfl,by kernel_rfl⟩
theorem air:Extern.find Tryz.f227=some Extern.Sync.semrelease:=by kernel_rfl
section
variable (F:Nat)(fr:κ)(cs:List κ)
def gL0:Ω:=Nf 201 #[pt F] 5 fr cs
def YP:Ω:=O (gL0 F fr cs)
def TE:Ω:=O (resume (YP F fr cs) U)
def gE1:Ω:=O (resume (TE F fr cs) (.bool true))
def Nb:Ω:=O (resume (gE1 F fr cs) U)
def gA1:Ω:=O (resume (Nb F fr cs) (pt F))
def Rs:Ω:=O (resume (TE F fr cs) (.bool false))
def cS:List κ:=(Rs F fr cs).callers
end
def aaP:List Item:=(On 5 (resume (Rs 0 default []) (.int .i32 0))).frame.todo
def gH (F:Nat)(fr:κ)(cs:List κ)(tm:Array Φ):Ω:=G ((base 218).at ⟨tm,[]⟩ aaP) (cS F fr cs)
def tm0 (old:Int):Array Φ:=#[pt 0,U,.int .i64 0,.bool false,.bool false,.int .i64 0,.int .i32 old]++Array.replicate 132 U
def aaL:List Item:=(On 11 (resume (O (gH 0 default [] (tm0 0))) (.bool true))).frame.todo
def gR (F:Nat)(fr:κ)(cs:List κ)(tm:Array Φ):Ω:=G ((base 218).at ⟨tm,[]⟩ aaL) (cS F fr cs)
def gq1:Ω:=O (resume (O (resume (O (gH 0 default [] (tm0 1))) (.bool false))) (.bool true))
def gq2:Ω:=O (resume gq1 (.int .i64 1))
def gq3:Ω:=O (resume gq2 U)
def aaM:List Item:=(On 1 (resume gq2 U)).frame.todo
def gQ (F:Nat)(fr:κ)(cs:List κ)(tm:Array Φ):Ω:=G ((base 218).at ⟨tm,[]⟩ aaM) (cS F fr cs)
def aaN:List Item:=(On 6 (resume gq3 (.int .i64 1))).frame.todo
def gN (F:Nat)(fr:κ)(cs:List κ)(tm:Array Φ):Ω:=G ((base 218).at ⟨tm,[]⟩ aaN) (cS F fr cs)
def zh (g:Ω):η:=match aT g with|some (.conv s _ _)=>s|_=>0
def Ai (g:Ω):η:=match aT g with|some (.conv _ d _)=>d|_=>0
def Ah (g:Ω):η:=match PP.underlying (zh g) with|some (.pointer t)=>t|_=>0
section
variable {Δ:Type}{X:Cx Δ}{r:bg}{k n:Nat}{T T':Lo}{γ:Gh Δ}{own:Nat->Prop}{g g':Ω}{w w':Θ}{es:Array Event}
theorem gl (n:Nat)(h:∀ws:Nat->Θ,yz PP false n g ws=some (A2 PP false n g,(List.range (bT PP false n g)).map ws)){deaf:Bool}{ro:Nat->Prop}{Stop:(Nat->Prop)->Ω->Θ->Prop}
  (k:aD PP false (fq X deaf ro) Stop own (A2 PP false n g) w):aD PP false (fq X deaf ro) Stop own g w:=aC (au.of n h) k
theorem qV {deaf:Bool}{ro:Nat->Prop}{Stop:(Nat->Prop)->Ω->Θ->Prop}{s d t:η}{a:Addr}(h:aT g=some (.conv s d (.pointer (some a))))(h1:PP.underlying s=some (.pointer t))(h2:PP.underlying d=some .unsafePointer)
  (h3:(PP.info? t).map (λi=>decide (i.size=0))=some false) (hc:∀w₁,RX X ro own w w₁->∃v,w₁.cell? a=some v) (k:aD PP false (fq X deaf ro) Stop own (resume g (.pointer (some a))) w):aD PP false (fq X deaf ro) Stop own g w:=by
 refine aD.step (cY h).1 λw₁ hr=>?_
 obtain⟨v,hv⟩:=hc w₁ hr;obtain⟨es,e1,e2⟩:=mY (P:=PP) (main:=false) (w:=w₁) (w':=w₁) (x:= .pointer (some a)) h (by simp only[lu.sem,Sem.run_bind,run_convert_to_unsafe h1 h2 h3 hv];rfl);have e3:es=#[]:=Array.eq_empty_iff_forall_not_mem.2 λe he=>by
  have:=e2 e he;simp only[lu.sem,Sem.events_bind,run_convert_to_unsafe h1 h2 h3 hv,events_convert_to_unsafe h1 h2 h3 hv] at this;simp at this
 subst e3;refine⟨_,w₁,#[],e1,(jO deaf ro own w₁).1,?_⟩;have:=(jO (X:=X) deaf ro own w₁).2;rw[this];exact k.rely hr
end
theorem Tn {P:ω}{main:Bool}{g:Ω}{w:Θ}{t:η}{ad:Addr}{k:IntKind}{v:Int}(h:aT g=some (.load t (.pointer (some ad))))(hc:w.cell? ad=some (.int k v))(ht:∀w,(Instr.loadAt t (.pointer (some ad))).run P w=(match w.cell? ad with|some x=> .ok x w|none=>(Instr.loadAt t (.pointer (some ad))).run P w))
  (he:∀w x,w.cell? ad=some x->(Instr.loadAt t (.pointer (some ad))).events P w #[]=#[⟨.cell ad,false,false⟩]) (hq:(P.funcs[g.frame.fn]?).any (·.norace)=true):
  stepG P main g w= .go (resume g (.int k v)) w #[]:=by
 obtain⟨b,a,ops,i,rest,kk,cs,o,rfl,h2,h3,h4,h5,h6,h7⟩:=mV h;have hr:(execOp a.eval o).run P w= .ok (.value (.int k v)) w:=by
  rw[h6];simp only[lu.sem,Sem.run_bind,ht w,hc];rfl
 have hev:(execOp a.eval o).events P w #[]=#[⟨.cell ad,false,false⟩]:=by
  rw[h6];simp only[lu.sem,Sem.events_bind,ht w,hc,he w _ hc];simp
 rw[h7,stepG_value h2 h3 h4 hr];have:listed P b.fn a o w=#[]:=by
  unfold listed;rw[hev,seen_def,(show b.fn=(G (b.at a (.inRegion ops (i::rest)::kk)) cs).frame.fn from rfl),hq];simp[seenStep]
 rw[this]
section
variable {Δ:Type}{X:Cx Δ}{r:bg}{k:Nat}{T T':Lo}{γ:Gh Δ}{g g':Ω}{w w':Θ}
structure Room (X:Cx Δ)(γ:Gh Δ):Prop where
 ne:X.Fd≠X.Wg
 off:∀b,γ.own b\/γ.ro b->b≠X.Fd/\b≠X.Wg
abbrev RR (X:Cx Δ)(γ:Gh Δ)(w w':Θ):Prop:=RX X γ.ro γ.own w w'
theorem Room.rx (h:Room X γ){s:Sh}(e:ConcM.Eff X.Fd X.Wg w w')(hs:ShAt X w' s):RR X γ w w':=
 ⟨e.tape,e.output,ah1 e.size.symm,e.os,λb _ ho=>e.block b (h.off b ho).1 (h.off b ho).2,λ_=>⟨s,hs⟩⟩
abbrev LW (X:Cx Δ)(r:bg)(γ:Gh Δ)(k:Nat)(T:Lo)(g:Ω)(w:Θ):Prop:=aD PP false (fq X (eQ T.pc) γ.ro) (dR (In X PP k r) T γ) γ.own g w
theorem iD (h:∀k' w₁,k'<k->RR X γ w w₁->ZC X PP (In X PP k' r) r T γ g w₁):LW X r γ k T g w:=by
 refine MF (Nx:=λk=>In X PP k r) (λT γ g w=>trivial) λk' w₁ e hr=>?_
 exact h k' w₁ (by omega) hr
variable (hm:vo r=false)(R:Room X γ)
include hm R
theorem BC {T1 T2:Lo}(hpc:T.pc= .c2\/T.pc= .l0\/T.pc= .uc){old nw:Int}(hc:aF g=some (217,#[pt X.Fd,.int .i32 old,.int .i32 nw]))
  (h1:∀s,s.mu=old->(T1,{s with mu:=nw})∈mv T s) (h2:∀s,s.fits->s.mu≠old->∃q∈mv T s,q.1.pc= .bad\/q=(T2,s))
  (e1:i7 T T1= .book) (q1:T1.pc≠.quit) (e2:i7 T T2= .book) (q2:T2.pc≠.quit)
  (hit:∀k' w',k'<k->RR X γ w w'->LW X r γ k' T1 (resume g (.bool true)) w') (miss:T2.pc≠.bad->∀k' w',k'<k->RR X γ w w'->LW X r γ k' T2 (resume g (.bool false)) w'):LW X r γ k T g w:=by
 refine iD λk' w₁ hk hr=>dg (aV hc) ?_ ?_ ?_ ?_ ?_ ?_
 .rcases hpc with h|h|h<;>rw[h]<;>simp
 .rcases hpc with h|h|h<;>rw[h]<;>simp
 .rcases hpc with h|h|h<;>rw[h]<;>simp
 .rcases hpc with h|h|h<;>rw[h]<;>simp
 .intro s _ hf hn
  exfalso
  by_cases hmu:s.mu=old
  .have:=h1 s hmu;rw[hn] at this;cases this
  .obtain⟨q,hq,_⟩:=h2 s hf hmu;rw[hn] at hq;cases hq
 .intro s hsh hf _
  rw[hm]
  by_cases hmu:s.mu=old
  .have hsh':=hsh.setMu R.ne nw
   have ef:=ConcM.Eff.set (w:=w₁) (Mu:=X.Fd) (Wg:=X.Wg) (mA X) (.int .i32 nw) (.inl rfl);refine⟨_,h1 s hmu,λ_=>⟨_,_,_,mZ aan .i32 aeh hc (by rw[<-hmu];exact hsh.Zn) (hsh.thF 0),hsh',ef,pq okM e1,?_⟩⟩;rw[ζ q1];exact hit k' _ hk (hr.trans X (R.rx ef hsh'))
  .obtain⟨q,hq,hb⟩:=h2 s hf hmu
   refine⟨q,hq,λhne=>?_⟩;obtain rfl:=hb.resolve_left hne;refine⟨_,_,_,lZ aan .i32 aeh hc hsh.Zn (hsh.thF 0) hmu,hsh,.refl _,D3 okM e2,?_⟩;rw[ζ q2];exact miss hne k' _ hk hr
theorem Oz {δ:Int}(hpc:T.pc= .a1\/T.pc= .u0)(hc:aF g=some (219,#[pt X.Fd,.int .i32 δ]))
  (h1:∀s,s.fits->∃q∈mv T s,q.1.pc= .bad\/(q.2={s with mu:=IntKind.i32.wrap (s.mu+δ)}/\i7 T q.1= .book/\q.1.pc≠.quit/\∀k' w',k'<k->RR X γ w w'->LW X r γ k' q.1 (resume g (.int .i32 (IntKind.i32.wrap (s.mu+δ)))) w')):LW X r γ k T g w:=by
 refine iD λk' w₁ hk hr=>dg (aV hc) ?_ ?_ ?_ ?_ ?_ ?_
 .rcases hpc with h|h<;>rw[h]<;>simp
 .rcases hpc with h|h<;>rw[h]<;>simp
 .rcases hpc with h|h<;>rw[h]<;>simp
 .rcases hpc with h|h<;>rw[h]<;>simp
 .intro s _ hf hn
  obtain⟨q,hq,_⟩:=h1 s hf;rw[hn] at hq;cases hq
 .intro s hsh hf _
  rw[hm];obtain⟨q,hq,hb⟩:=h1 s hf;refine⟨q,hq,λhne=>?_⟩;obtain⟨e1,e2,e3,e4⟩:=hb.resolve_left hne;have hsh':=hsh.setMu R.ne (IntKind.i32.wrap (s.mu+δ));have ef:=ConcM.Eff.set (w:=w₁) (Mu:=X.Fd) (Wg:=X.Wg) (mA X) (.int .i32 (IntKind.i32.wrap (s.mu+δ))) (.inl rfl);refine⟨_,_,_,rH agq .i32 aiv hc hsh.Zn (hsh.thF 0),by rw[e1];exact hsh',ef,pq okM e2,?_⟩;rw[ζ e3]
  exact e4 k' _ hk (hr.trans X (R.rx ef hsh'))
theorem BB (hpc:T.pc= .r0\/T.pc= .r1\/T.pc= .r2\/T.pc= .r3)(hv:aT g=some (.load 21 (pt X.Fd)))(hq:(PP.funcs[g.frame.fn]?).any (·.norace)=true)
  (h1:∀s,s.fits->∃q∈mv T s,q.1.pc= .bad\/(q.2=s/\i7 T q.1= .book/\q.1.pc≠.quit/\∀k' w',k'<k->RR X γ w w'->LW X r γ k' q.1 (resume g (.int .i32 s.mu)) w')):LW X r γ k T g w:=by
 refine iD λk' w₁ hk hr=>dg (cY hv) ?_ ?_ ?_ ?_ ?_ ?_
 .rcases hpc with h|h|h|h<;>rw[h]<;>simp
 .rcases hpc with h|h|h|h<;>rw[h]<;>simp
 .rcases hpc with h|h|h|h<;>rw[h]<;>simp
 .rcases hpc with h|h|h|h<;>rw[h]<;>simp
 .intro s _ hf hn
  obtain⟨q,hq,_⟩:=h1 s hf;rw[hn] at hq;cases hq
 .intro s hsh hf _
  rw[hm];obtain⟨q,hq',hb⟩:=h1 s hf;refine⟨q,hq',λhne=>?_⟩;obtain⟨e1,e2,e3,e4⟩:=hb.resolve_left hne;refine⟨_,_,_,Tn hv hsh.Zn ?_ ?_ hq,by rw[e1];exact hsh,.refl _,xS e2,?_⟩
  .intro w
   cases hcc:w.cell? ⟨X.Fd,0,none⟩ with
   |none=>simp[mA]
   |some x=>simp[go_sem,hcc,mA,pt]
  .intro w x hx
   simp[go_sem,hx,mA,pt]
  rw[ζ e3];exact e4 k' _ hk hr
theorem Zw {T1:Lo}{u v:Φ}(hpc:T.pc= .s1)(hc:aF g=some (225,#[qv X.Fd,u,v]))
  (hT:T1={T with pc:=if T.sv then .r2 else .t2}) (go:∀k' w',k'<k->RR X γ w w'->LW X r γ k' T1 (resume g U) w'):LW X r γ k T g w:=by
 have e1:i7 T T1= .book:=by unfold i7;rw[hpc]
 have q1:T1.pc≠.quit:=by rw[hT];dsimp only;split<;>simp
 refine iD λk' w₁ hk hr=>dg (aV hc) ?_ ?_ ?_ ?_ ?_ ?_
 .rw[hpc];simp
 .rw[hpc];simp
 .rw[hpc];simp
 .rw[hpc];simp
 .intro s hsh _ hn
  rw[hm];have:s.ms=0:=by
   unfold mv at hn;rw[hpc] at hn
   by_cases h:s.ms=0
   .exact h
   .simp[h] at hn
  exact IE aal aeb hc (by rw[<-this];exact hsh.cMs)
 .intro s hsh hf hne
  rw[hm];have h0:s.ms≠0:=by
   intro h
   apply hne
   unfold mv;rw[hpc];simp[h]
  have hmem:(T1,({s with ms:=s.ms-1}:Sh))∈mv T s:=by
   rw[hT];unfold mv;rw[hpc];simp[h0]
  have hsh':=hsh.setMs R.ne (s.ms-1);have ef:=ConcM.Eff.set (w:=w₁) (Mu:=X.Fd) (Wg:=X.Wg) (msA X) (.int .u32 (s.ms-1)) (.inl rfl);refine⟨_,hmem,λ_=>⟨_,_,_,K7 aal aeb hc hsh.cMs h0 (hsh.thF 1),hsh',ef,Bu aca e1,?_⟩⟩;rw[ζ q1];exact go k' _ hk (hr.trans X (R.rx ef hsh'))
theorem Ow {T1:Lo}{u v:Φ}(hpc:T.pc= .us)(hc:aF g=some (227,#[qv X.Fd,u,v]))
  (hT:T1=at_ .ue T.n) (go:∀k' w',k'<k->RR X γ w w'->LW X r γ k' T1 (resume g U) w'):LW X r γ k T g w:=by
 have e1:i7 T T1= .book:=by unfold i7;rw[hpc]
 have q1:T1.pc≠.quit:=by rw[hT];simp
 refine iD λk' w₁ hk hr=>dg (aV hc) ?_ ?_ ?_ ?_ ?_ ?_
 .rw[hpc];simp
 .rw[hpc];simp
 .rw[hpc];simp
 .exact λ_=>BX aam hc
 .intro s hsh _ hn
  unfold mv at hn;rw[hpc] at hn;simp at hn
 .intro s hsh hf _
  rw[hm];have hw:IntKind.u32.wrap (s.ms+1)=s.ms+1:=by
   have:=hf.2.1;rcases this with h|h<;>rw[h]<;>decide
  have hmem:(T1,({s with ms:=s.ms+1}:Sh))∈mv T s:=by
   rw[hT];unfold mv;rw[hpc];simp
  have hsh':=hsh.setMs R.ne (s.ms+1);have ef:=ConcM.Eff.set (w:=w₁) (Mu:=X.Fd) (Wg:=X.Wg) (msA X) (.int .u32 (s.ms+1)) (.inl rfl);refine⟨_,hmem,λ_=>⟨resume g U,w₁.setCell (msA X) (.int .u32 (s.ms+1)),_,by have:=Cm (P:=PP) (main:=false) (w:=w₁) aam air hc hsh.cMs (hsh.thF 1);rw[hw] at this;exact this,hsh',ef,Bu aca e1,?_⟩⟩;rw[ζ q1];exact go k' _ hk (hr.trans X (R.rx ef hsh'))
theorem BA {T2:Lo}(hpc:T.pc= .sq){it:Int}(hit:T.it=it)(hc:aF g=some (221,#[.int .i64 it]))
  (hno:∀k' w',k'<k->RR X γ w w'->LW X r γ k' (cl T) (resume g (.bool false)) w')
  (hT:T2={T with pc:= .r1,old:=0,nw:=0}) (hyes:∀k' w',k'<k->RR X γ w w'->LW X r γ k' T2 (resume g (.bool true)) w'):LW X r γ k T g w:=by
 have e1:i7 T (cl T)= .book:=by unfold i7;rw[hpc]
 have e2:i7 T T2= .book:=by unfold i7;rw[hpc]
 have q1:(cl T).pc≠.quit:=by rw[Ic];simp
 have q2:T2.pc≠.quit:=by rw[hT];simp
 have m1:∀s,(cl T,s)∈mv T s:=λs=>by unfold mv;rw[hpc];simp
 refine iD λk' w₁ hk hr=>dg (aV hc) ?_ ?_ ?_ ?_ ?_ ?_
 .rw[hpc];simp
 .rw[hpc];simp
 .rw[hpc];simp
 .rw[hpc];simp
 .intro s _ _ hn
  have:=m1 s;rw[hn] at this;cases this
 .intro s hsh hf _
  rw[hm]
  by_cases h4:it<4
  .have ef:=ConcM.Eff.asked (Mu:=X.Fd) (Wg:=X.Wg) w₁
   have hsh':ShAt X w₁.asked s:=⟨hsh.1,hsh.2⟩
   have hst:=ID (P:=PP) (main:=false) (w:=w₁) SN TG hc h4;cases hsp:w₁.spins with
   |false=>
    rw[hsp] at hst;refine⟨_,m1 s,λ_=>⟨_,_,_,hst,hsh',ef,xS e1,?_⟩⟩;rw[ζ q1];exact hno k' _ hk (hr.trans X (R.rx ef hsh'))
   |true=>
    rw[hsp] at hst;have m2:(T2,s)∈mv T s:=by rw[hT];unfold mv;rw[hpc];simp[hit,h4]
    refine⟨_,m2,λ_=>⟨_,_,_,hst,hsh',ef,xS e2,?_⟩⟩;rw[ζ q2];exact hyes k' _ hk (hr.trans X (R.rx ef hsh'))
  .refine⟨_,m1 s,λ_=>⟨_,_,_,Az SN TG hc (by omega),hsh,.refl _,xS e1,?_⟩⟩
   rw[ζ q1];exact hno k' _ hk hr
theorem Oy {args:Array Φ}(hpc:T.pc= .t2)(hc:aF g=some (224,args))(next:Nat->Bool)
  (go:∀k' w' m,k'<k->RR X γ w w'->LW X r γ k' {T with pc:= .r2,sv:=if next m then true else T.sv} (resume g (.int .i64 (m:Int))) w'):LW X r γ k T g w:=by
 refine iD λk' w₁ hk hr=>dg (aV hc) ?_ ?_ ?_ ?_ ?_ ?_
 .rw[hpc];simp
 .rw[hpc];simp
 .rw[hpc];simp
 .rw[hpc];simp
 .intro s _ _ hn
  unfold mv at hn;rw[hpc] at hn;simp at hn
 .intro s hsh hf _
  rw[hm];have ef:=ConcM.Eff.later (Mu:=X.Fd) (Wg:=X.Wg) w₁;have hsh':ShAt X w₁.later s:=⟨hsh.1,hsh.2⟩
  refine⟨({T with pc:= .r2,sv:=if next (w₁.os.mono+w₁.tick) then true else T.sv},s),?_,λ_=>⟨_,_,_,zE (P:=PP) (main:=false) (w:=w₁) SQ TK Ta hc,hsh',ef,xS (by unfold i7;rw[hpc]),?_⟩⟩
  .unfold mv
   rw[hpc];cases next (w₁.os.mono+w₁.tick)<;>simp
  .rw[ζ (by simp)]
   exact go k' _ _ hk (hr.trans X (R.rx ef hsh'))
theorem vR {f:aa9}{fn:Func}{m:Mark}(hX:Ext PP f fn)(hmk:∀g,m≠.extern g)(he:Extern.find fn=some (λ_=>do mark m;pure Extern.Race.none_))(hc:aF g=some (f,#[]))
  (hmv:∀s,mv T s=[(T',s)]) (hev:EvStop X T T' #[qA m]) (h1:T.pc≠.la) (h2:T.pc≠.ur) (h3:T'.pc≠.wk) (h4:T'.pc≠.quit) (h5:T.pc≠.us) (h6:T.pc≠.d4)
  (go:∀k' w',k'<k->RR X γ w w'->LW X r γ k' T' (resume g U) w'):LW X r γ k T g w:=by
 refine iD λk' w₁ hk hr=>Hf (g':=resume g U) (aV hc) hmv h1 h2 h3 h4 h5 h6 λs hsh=>?_
 rw[hm];exact⟨_,_,jh hX m (hm:=hmk) he hc,hsh,.refl _,hev,go k' _ hk hr⟩
abbrev Taken (X:Cx Δ)(r:bg)(γ:Gh Δ)(n:Nat)(fr:κ)(cs:List κ)(w:Θ):Prop:=
 ∀k w' d o,RR X γ w w'->w'.heap[X.M]? =some o->BK X r γ.mine d o->aD PP false (fq X false γ.ro) (dR (In X PP k r) (at_ .ur n) {γ with own:=λb=>γ.own b\/b=X.M,other:=d}) (λb=>γ.own b\/b=X.M) (cG fr cs U) w'
theorem Sz {n:Nat}{fr:κ}{cs:List κ}(hc:aF g=some (171,#[pt X.Fd]))(hg:au PP false (resume g U) (cG fr cs U))(go:Taken X r γ n fr cs w):LW X r γ k (at_ .la n) g w:=by
 refine iD λk' w₁ hk hr=>?_
 refine⟨(aV hc).1,(aV hc).2,by simp,by simp,λs hsh hf=>⟨by simp[mv],λd hd _=>?_⟩⟩;obtain⟨o,ho,hD⟩:=hd rfl;refine⟨(at_ .ur n,s),by simp[mv],λ_=>⟨by simp,resume g U,w₁,#[qA (.acquire (mA X))],?_,hsh,.refl _,by simp[EvStop,i7],?_⟩⟩
 .rw[hm]
  exact fU aao .acquire aei hc
 .unfold After
  rw[ζ (by simp),hm];have:=go k' w₁ d o hr ho hD;exact aC hg this
theorem Er {n:Nat}{fr:κ}{cs:List κ}{g1 g2:Ω}(hc:aF g=some (170,#[]))(hg1:au PP false (resume g U) g1){s d t:η}(hv:aT g1=some (.conv s d (pt X.Fd)))
  (hs:PP.underlying s=some (.pointer t)) (hd:PP.underlying d=some .unsafePointer) (ht:(PP.info? t).map (λi=>decide (i.size=0))=some false) (hg2:au PP false (resume g1 (pt X.Fd)) g2)
  (hc2:aF g2=some (171,#[pt X.Fd])) (hg3:au PP false (resume g2 U) (cG fr cs U)) (live:∃s,ShAt X w s) (go:Taken X r γ n fr cs w):LW X r γ k (at_ .le n) g w:=by
 refine vR hm R (T':=at_ .la n) (m:= .enable) ZK (by simp) fEn hc (by simp[mv]) (by simp[EvStop,i7]) (by simp) (by simp) (by simp) (by simp) (by simp) (by simp) λk' w' hk hr=>?_
 refine aC hg1 (qV hv hs hd ht (λw₁ hr'=>?_) (aC hg2 ?_))
 .obtain⟨s,hs⟩:=(hr.trans X hr').live live
  exact⟨_,hs.Zn⟩
 .exact Sz hm R hc2 hg3 λk w1 d o hr1=>go k w1 d o (hr.trans X hr1)
end
section
variable (F:Nat)(fr:κ)(cs:List κ)
theorem lD1:aF (YP F fr cs)=some (168,#[]):=by kernel_rfl
theorem lL0 (ws:Nat->Θ):yz PP false 200 (gL0 F fr cs) ws=some (YP F fr cs,(List.range (bT PP false 200 (gL0 F fr cs))).map ws):=by kernel_rfl
theorem ahm (ws:Nat->Θ):yz PP false 200 (resume (YP F fr cs) U) ws=some (TE F fr cs,(List.range (bT PP false 200 (resume (YP F fr cs) U))).map ws):=by kernel_rfl
theorem lC1:aF (TE F fr cs)=some (217,#[pt F,.int .i32 0,.int .i32 1]):=by kernel_rfl
theorem ahp (ws:Nat->Θ):yz PP false 200 (resume (TE F fr cs) (.bool true)) ws=some (gE1 F fr cs,(List.range (bT PP false 200 (resume (TE F fr cs) (.bool true)))).map ws):=by kernel_rfl
theorem lE1:aF (gE1 F fr cs)=some (170,#[]):=by kernel_rfl
theorem ahl (ws:Nat->Θ):yz PP false 200 (resume (gE1 F fr cs) U) ws=some (Nb F fr cs,(List.range (bT PP false 200 (resume (gE1 F fr cs) U))).map ws):=by kernel_rfl
theorem lV1:aT (Nb F fr cs)=some (.conv (zh (Nb 0 default [])) (Ai (Nb 0 default [])) (pt F)):=by kernel_rfl
theorem ahh:PP.underlying (zh (Nb 0 default []))=some (.pointer (Ah (Nb 0 default []))):=by kernel_rfl
theorem ahi:PP.underlying (Ai (Nb 0 default []))=some .unsafePointer:=by kernel_rfl
theorem ahg:(PP.info? (Ah (Nb 0 default []))).map (λi=>decide (i.size=0))=some false:=by kernel_rfl
theorem ahj (ws:Nat->Θ):yz PP false 200 (resume (Nb F fr cs) (pt F)) ws=some (gA1 F fr cs,(List.range (bT PP false 200 (resume (Nb F fr cs) (pt F)))).map ws):=by kernel_rfl
theorem lA1:aF (gA1 F fr cs)=some (171,#[pt F]):=by kernel_rfl
theorem ahq (ws:Nat->Θ):yz PP false 6 (resume (gA1 F fr cs) U) ws=some (cG fr cs U,(List.range (bT PP false 6 (resume (gA1 F fr cs) U))).map ws):=by kernel_rfl
theorem aho (ws:Nat->Θ):yz PP false 200 (resume (TE F fr cs) (.bool false)) ws=some (Rs F fr cs,(List.range (bT PP false 200 (resume (TE F fr cs) (.bool false)))).map ws):=by kernel_rfl
theorem lS0:aT (Rs F fr cs)=some (.load 21 (pt F)):=by kernel_rfl
theorem ahk:(PP.funcs[(Rs F fr cs).frame.fn]?).any (·.norace)=true:=by kernel_rfl
end
def Pm (F aN:Nat)(sv aw:Bool)(it old:Int)(y:Nat->Φ):Array Φ:=#[pt F,y 1,.int .i64 (aN:Int),.bool sv,.bool aw,.int .i64 it,.int .i32 old,y 7,y 8,y 9,y 10,y 11,y 12,y 13,y 14,y 15,y 16,y 17,y 18,y 19,y 20,y 21,y 22,y 23,y 24,y 25,y 26,y 27,y 28,y 29,y 30,y 31,y 32,y 33,y 34,y 35,y 36,y 37,y 38,y 39,y 40,y 41,y 42,y 43,y 44,y 45,y 46,y 47,y 48,y 49,y 50,y 51,y 52,y 53,y 54,y 55,y 56,y 57,y 58,y 59,y 60,y 61,y 62,y 63,y 64,y 65,y 66,y 67,y 68,y 69,y 70,y 71,y 72,y 73,y 74,y 75,y 76,y 77,y 78,y 79,y 80,y 81,y 82,y 83,y 84,y 85,y 86,y 87,y 88,y 89,y 90,y 91,y 92,y 93,y 94,y 95,y 96,y 97,y 98,y 99,y 100,y 101,y 102,y 103,y 104,y 105,y 106,y 107,y 108,y 109,y 110,y 111,y 112,y 113,y 114,y 115,y 116,y 117,y 118,y 119,y 120,y 121,y 122,y 123,y 124,y 125,y 126,y 127,y 128,y 129,y 130,y 131,y 132,y 133,y 134,y 135,y 136,y 137,y 138]
def OS (F aN:Nat)(sv:Bool)(y:Nat->Φ):Array Φ:=#[pt F,y 1,.int .i64 (aN:Int),.bool sv,y 4,y 5,y 6,y 7,y 8,y 9,y 10,y 11,y 12,y 13,y 14,y 15,y 16,y 17,y 18,y 19,y 20,y 21,y 22,y 23,y 24,y 25,y 26,y 27,y 28,y 29,y 30,y 31,y 32,y 33,y 34,y 35,y 36,y 37,y 38,y 39,y 40,y 41,y 42,y 43,y 44,y 45,y 46,y 47,y 48,y 49,y 50,y 51,y 52,y 53,y 54,y 55,y 56,y 57,y 58,y 59,y 60,y 61,y 62,y 63,y 64,y 65,y 66,y 67,y 68,y 69,y 70,y 71,y 72,y 73,y 74,y 75,y 76,y 77,y 78,y 79,y 80,y 81,y 82,y 83,y 84,y 85,y 86,y 87,y 88,y 89,y 90,y 91,y 92,y 93,y 94,y 95,y 96,y 97,y 98,y 99,y 100,y 101,y 102,y 103,y 104,y 105,y 106,y 107,y 108,y 109,y 110,y 111,y 112,y 113,y 114,y 115,y 116,y 117,y 118,y 119,y 120,y 121,y 122,y 123,y 124,y 125,y 126,y 127,y 128,y 129,y 130,y 131,y 132,y 133,y 134,y 135,y 136,y 137,y 138]
def SW (F:Nat)(y:Nat->Φ):Array Φ:=#[pt F,y 1,y 2,y 3,y 4,y 5,y 6,y 7,y 8,y 9,y 10,y 11,y 12,y 13,y 14,y 15,y 16,y 17,y 18,y 19,y 20,y 21,y 22,y 23,y 24,y 25,y 26,y 27,y 28,y 29,y 30,y 31,y 32,y 33,y 34,y 35,y 36,y 37,y 38,y 39,y 40,y 41,y 42,y 43,y 44,y 45,y 46,y 47,y 48,y 49,y 50,y 51,y 52,y 53,y 54,y 55,y 56,y 57,y 58,y 59,y 60,y 61,y 62,y 63,y 64,y 65,y 66,y 67,y 68,y 69,y 70,y 71,y 72,y 73,y 74,y 75,y 76,y 77,y 78,y 79,y 80,y 81,y 82,y 83,y 84,y 85,y 86,y 87,y 88,y 89,y 90,y 91,y 92,y 93,y 94,y 95,y 96,y 97,y 98,y 99,y 100,y 101,y 102,y 103,y 104,y 105,y 106,y 107,y 108,y 109,y 110,y 111,y 112,y 113,y 114,y 115,y 116,y 117,y 118,y 119,y 120,y 121,y 122,y 123,y 124,y 125,y 126,y 127,y 128,y 129,y 130,y 131,y 132,y 133,y 134,y 135,y 136,y 137,y 138]
structure HH (F aN:Nat)(sv aw:Bool)(it old:Int)(tm:Array Φ):Prop where
 size:tm.size=139
 s0:tm[0]? =some (pt F)
 s2:tm[2]? =some (.int .i64 (aN:Int))
 s3:tm[3]? =some (.bool sv)
 s4:tm[4]? =some (.bool aw)
 s5:tm[5]? =some (.int .i64 it)
 s6:tm[6]? =some (.int .i32 old)
structure HQ (F aN:Nat)(sv:Bool)(tm:Array Φ):Prop where
 size:tm.size=139
 s0:tm[0]? =some (pt F)
 s2:tm[2]? =some (.int .i64 (aN:Int))
 s3:tm[3]? =some (.bool sv)
structure HR (F:Nat)(tm:Array Φ):Prop where
 size:tm.size=139
 s0:tm[0]? =some (pt F)
theorem cq {tm:Array Φ}{i:Nat}{v:Φ}(h:tm[i]? =some v):tm.getD i undef=v:=by simp[ac3,h]
theorem slots (tm:Array Φ)(h:tm.size=139):tm=#[tm.getD 0 undef,tm.getD 1 undef,tm.getD 2 undef,tm.getD 3 undef,tm.getD 4 undef,tm.getD 5 undef,tm.getD 6 undef,tm.getD 7 undef,tm.getD 8 undef,tm.getD 9 undef,tm.getD 10 undef,tm.getD 11 undef,tm.getD 12 undef,tm.getD 13 undef,tm.getD 14 undef,tm.getD 15 undef,tm.getD 16 undef,tm.getD 17 undef,tm.getD 18 undef,tm.getD 19 undef,tm.getD 20 undef,tm.getD 21 undef,tm.getD 22 undef,tm.getD 23 undef,tm.getD 24 undef,tm.getD 25 undef,tm.getD 26 undef,tm.getD 27 undef,tm.getD 28 undef,tm.getD 29 undef,tm.getD 30 undef,tm.getD 31 undef,tm.getD 32 undef,tm.getD 33 undef,tm.getD 34 undef,tm.getD 35 undef,tm.getD 36 undef,tm.getD 37 undef,tm.getD 38 undef,tm.getD 39 undef,tm.getD 40 undef,tm.getD 41 undef,tm.getD 42 undef,tm.getD 43 undef,tm.getD 44 undef,tm.getD 45 undef,tm.getD 46 undef,tm.getD 47 undef,tm.getD 48 undef,tm.getD 49 undef,tm.getD 50 undef,tm.getD 51 undef,tm.getD 52 undef,tm.getD 53 undef,tm.getD 54 undef,tm.getD 55 undef,tm.getD 56 undef,tm.getD 57 undef,tm.getD 58 undef,tm.getD 59 undef,tm.getD 60 undef,tm.getD 61 undef,tm.getD 62 undef,tm.getD 63 undef,tm.getD 64 undef,tm.getD 65 undef,tm.getD 66 undef,tm.getD 67 undef,tm.getD 68 undef,tm.getD 69 undef,tm.getD 70 undef,tm.getD 71 undef,tm.getD 72 undef,tm.getD 73 undef,tm.getD 74 undef,tm.getD 75 undef,tm.getD 76 undef,tm.getD 77 undef,tm.getD 78 undef,tm.getD 79 undef,tm.getD 80 undef,tm.getD 81 undef,tm.getD 82 undef,tm.getD 83 undef,tm.getD 84 undef,tm.getD 85 undef,tm.getD 86 undef,tm.getD 87 undef,tm.getD 88 undef,tm.getD 89 undef,tm.getD 90 undef,tm.getD 91 undef,tm.getD 92 undef,tm.getD 93 undef,tm.getD 94 undef,tm.getD 95 undef,tm.getD 96 undef,tm.getD 97 undef,tm.getD 98 undef,tm.getD 99 undef,tm.getD 100 undef,tm.getD 101 undef,tm.getD 102 undef,tm.getD 103 undef,tm.getD 104 undef,tm.getD 105 undef,tm.getD 106 undef,tm.getD 107 undef,tm.getD 108 undef,tm.getD 109 undef,tm.getD 110 undef,tm.getD 111 undef,tm.getD 112 undef,tm.getD 113 undef,tm.getD 114 undef,tm.getD 115 undef,tm.getD 116 undef,tm.getD 117 undef,tm.getD 118 undef,tm.getD 119 undef,tm.getD 120 undef,tm.getD 121 undef,tm.getD 122 undef,tm.getD 123 undef,tm.getD 124 undef,tm.getD 125 undef,tm.getD 126 undef,tm.getD 127 undef,tm.getD 128 undef,tm.getD 129 undef,tm.getD 130 undef,tm.getD 131 undef,tm.getD 132 undef,tm.getD 133 undef,tm.getD 134 undef,tm.getD 135 undef,tm.getD 136 undef,tm.getD 137 undef,tm.getD 138 undef]:=by
 have e:tm=((List.range 139).map λi=>tm.getD i undef).toArray:=by
  apply Array.ext
  .simp[h]
  .intro i h1 h2
   simp[ac3,h1]
 exact e.trans (by kernel_rfl)
theorem HH.eq {F aN:Nat}{sv aw:Bool}{it old:Int}{tm:Array Φ}(h:HH F aN sv aw it old tm):tm=Pm F aN sv aw it old λi=>tm.getD i undef:=by
 have h1:=slots tm h.size;rw[cq h.s0,cq h.s2,cq h.s3,cq h.s4,cq h.s5,cq h.s6] at h1;exact h1
theorem HQ.eq {F aN:Nat}{sv:Bool}{tm:Array Φ}(h:HQ F aN sv tm):tm=OS F aN sv λi=>tm.getD i undef:=by
 have h1:=slots tm h.size;rw[cq h.s0,cq h.s2,cq h.s3] at h1;exact h1
theorem HR.eq {F:Nat}{tm:Array Φ}(h:HR F tm):tm=SW F λi=>tm.getD i undef:=by
 have h1:=slots tm h.size;rw[cq h.s0] at h1;exact h1
theorem aR {g g':Ω}(n m:Nat)(h:∀ws:Nat->Θ,yz PP false n g ws=some (g',(List.range m).map ws)):au PP false g g':=⟨n,m,h⟩
theorem aK {g:Ω}(h:∀ws:Nat->Θ,yz PP false 200 g ws=some (O g,(List.range (bT PP false 200 g)).map ws)):au PP false g (O g):=⟨200,_,h⟩
section
variable (F:Nat)(fr:κ)(cs:List κ)(aN:Nat)(it v:Int)(y:Nat->Φ)
theorem abG:∃tm,HH F 0 false false 0 v tm/\au PP false (resume (Rs F fr cs) (.int .i32 v)) (gH F fr cs tm):=
 ⟨(On 5 (resume (Rs F fr cs) (.int .i32 v))).frame.tmps,⟨by kernel_rfl,by kernel_rfl,by kernel_rfl,by kernel_rfl,by kernel_rfl,by kernel_rfl,by kernel_rfl⟩,aR 5 (bT PP false 5 (resume (Rs F fr cs) (.int .i32 v))) λws=>by kernel_rfl⟩
end
section
variable (F:Nat)(fr:κ)(cs:List κ)(aN:Nat)(it v:Int)(y:Nat->Φ)
def h0:Ω:=gH F fr cs (Pm F aN false false it 0 y)
def b0:Ω:=O (h0 F fr cs aN it y)
theorem adF:au PP false (h0 F fr cs aN it y) (b0 F fr cs aN it y):=aK λws=>by kernel_rfl
abbrev c0:Ω:=b0 F fr cs aN it y
theorem Zs:aF (c0 F fr cs aN it y)=some (217,#[pt F,.int .i32 0,.int .i32 1]):=by kernel_rfl
def m0:Ω:=O (resume (c0 F fr cs aN it y) (.bool false))
theorem Sr:au PP false (resume (c0 F fr cs aN it y) (.bool false)) (m0 F fr cs aN it y):=aK λws=>by kernel_rfl
theorem acv:aT (m0 F fr cs aN it y)=some (.load 21 (pt F)):=by kernel_rfl
theorem WV:(PP.funcs[(m0 F fr cs aN it y).frame.fn]?).any (·.norace)=true:=by kernel_rfl
theorem acw:∃tm,HH F aN false false it v tm/\au PP false (resume (m0 F fr cs aN it y) (.int .i32 v)) (gH F fr cs tm):=
 ⟨(On 4 (resume (m0 F fr cs aN it y) (.int .i32 v))).frame.tmps,⟨by kernel_rfl,by kernel_rfl,by kernel_rfl,by kernel_rfl,by kernel_rfl,by kernel_rfl,by kernel_rfl⟩,aR 4 (bT PP false 4 (resume (m0 F fr cs aN it y) (.int .i32 v))) λws=>by kernel_rfl⟩
theorem Zr:∃tm,HR F tm/\au PP false (resume (c0 F fr cs aN it y) (.bool true)) (gR F fr cs tm):=
 ⟨(On 11 (resume (c0 F fr cs aN it y) (.bool true))).frame.tmps,⟨by kernel_rfl,by kernel_rfl⟩,aR 11 (bT PP false 11 (resume (c0 F fr cs aN it y) (.bool true))) λws=>by kernel_rfl⟩
end
end aG
end
end
end Go.Proofs.YtchcmhodnkgojaaGreat
