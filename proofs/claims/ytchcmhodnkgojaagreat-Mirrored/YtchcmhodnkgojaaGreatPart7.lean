/- On the way to the last text; put together and shortened by program. -/
import Derived.Test.YtchcmhodnkgojaaGreatPart6
import Derived.Laws.MakeOwn
import Derived.Test.YtchcmhodnkgojaaGreatShelf
import Derived.OwnWalk
import Derived.DeepKeys
import Derived.Test.YtchcmhodnkgojaaGreatProg
import Derived.Laws.LoneSync
import Derived.Conc.SmallLaws
set_option linter.all false
set_option maxRecDepth 100000
set_option maxHeartbeats 8000000
namespace Go.Proofs.YtchcmhodnkgojaaGreat
noncomputable section
section
open Go.RowKit Go.Lib
def fB (root:List UInt8)(i:Int)(b:UInt8):List UInt8:=if i=-1 then root else root.set (10+i.toNat) b
def aX (root:List UInt8)(takes frees:Int):List UInt8:=fB (fB root takes 1) frees 0
def DS.mark (x:DS)(takes frees:Int):DS:=
 if x.bj then(x.write 0 (aX (x.read 0) takes frees)).flush else x.write 0 (aX (x.read 0) takes frees)
def DS.jv (x:DS)(takes frees:Int):Bool:=x.bj&&(x.write 0 (aX (x.read 0) takes frees)).bj
theorem du (root:List UInt8)(i:Int)(b:UInt8):(fB root i b).length=root.length:=by unfold fB;split<;>simp
theorem gX (l:List UInt8)(i:Nat)(b:UInt8):(byteCells (l.set i b)).toArray=(byteCells l).toArray.setIfInBounds i (.int .u8 b.toNat):=by
 simp[byteCells,List.map_set]
theorem CM {w:World}{F:List Nat}{d n:Nat}{x:DS}(h:bI w F d n x):(x.read 0).length=64:=by
 obtain⟨bl,vw,h,_⟩:=h;exact bk _ _ (by rw[h.len];have:=h.lo;simp;omega) _ h.d8
theorem bI.size {w:World}{F:List Nat}{d n:Nat}{x:DS}(h:bI w F d n x):16<=n/\n<=400:=by
 obtain⟨bl,vw,h,_⟩:=h;exact⟨h.lo,h.hi⟩
theorem CL (F:List Nat)(d n:Nat)(x:DS)(s:Int)(w:World)(h:bI w F d n x)(hs:0<=s)(hn:s<n):
  Calls Tryz.prog 114 #[.pointer (some ⟨d,0,none⟩),.int .i64 s] w λe w'=>e= .returned (.agg (byteCells (x.read s)).toArray)/\aO [] w w':=by
 obtain⟨bl,vw,h,_⟩:=h;exact wX d bl n vw x s w h hs hn
theorem DS.ji {x:DS}{s:Int}{l:List UInt8}{r:Nat}(h:x.Fit (r+1))(hc:x.bj=true):(x.write s l).Fit r:=by
 have h1:=h.kb;have h2:=h.ka;have h3:=h.j9;have h4:=h.j8;unfold DS.write;rw[if_pos hc];unfold DS.bj at hc;refine⟨by simp[DS.jc];omega,by simp[DS.jc];omega,?_,?_⟩
 .simp only[DS.jc]
  split
  .rename_i hg
   simp[hg] at hc;have:=hc.2;omega
  .exact h3
 .simp only[DS.jc]
  split<;>omega
section
variable {P:Program}{ops:Array Oper}{Q:Exit->Act->World->Prop}{a:Act}{w:World}{rest:List Oper}{o:Oper}
theorem fu (hg:o.guard=none)(t:TypeId)(x y:Operand)(ho:o.op= .store t x y)(b off:Nat)(hx:a.eval x= .pointer (some ⟨b,off,none⟩))(k:IntKind)(v:Int)(hy:a.eval y= .int k v)(c:Array Value)(u:TypeId)(hr:Row w b c u)(hfit:off<c.size)(h:∀w1:World,aO [b] w w1->Row w1 b (c.setIfInBounds off (.int k v)) u->wpList P ops Q rest (a.put o.dst undef) w1)(hi:(P.info? t).map (·.size)=some 1:=by kernel_rfl):wpList P ops Q (o::rest) a w:=by
 refine vA hg (w.setCell ⟨b,off,none⟩ (.int k v)) ?_ (h _ (aO.setCell _ _ _ _) (hr.setCell _ _));have hc:=hr.cell off;have hf:=hr.thaw off;have hs:c[off]? =some c[off]:=by simp[hfit]
 rw[hs] at hc;have hst:(store ((⟨b,off,none⟩:Addr).add 0) (.int k v)).run P w= .ok () (w.setCell ⟨b,off,none⟩ (.int k v)):=by
  rw[Addr.add_mid,Nat.add_zero,run_store P w _ _ _ rfl,hc];simp[hf]
 cases hq:P.info? t with
 |none=>simp[hq] at hi
 |some i=>
  have h1:i.size=1:=by simpa [hq] using hi
  simp[execOp,ho,hx,hy,Instr.storeAt,Instr.sureAddr,storeVar,sizeOf,typeInfo,hq,h1,Value.cells,storeCells,hst]
end
theorem zQ (F:List Nat)(d n:Nat)(x:DS)(takes frees:Int)(w:World)(h:bI w F d n x)(hx:x.Fit 2)(iI:x.waiting.length<60)(ht0:-1<=takes)(ht1:takes<54)(hf0:-1<=frees)(hf1:frees<54):
  Calls Tryz.prog 111 #[.pointer (some ⟨d,0,none⟩),.int .i64 takes,.int .i64 frees] w λe w'=>e= .returned (cI (x.jv takes frees))/\∃F',bI w' F' d n (x.mark takes frees)/\aO F w w'/\bL F F' w:=by
 have hsz:=h.size;have si:=CM h;go_enter Tryz.func111,Tryz.ntmps111;go_wp2_with fail;refine(CL F d n x 0 w h (by omega) (by omega)).mono ?_;rintro e w1 ⟨rfl,f1⟩;go_wp2_with (with_reducible first|refine az rfl ?_|refine af 148 rfl ?_);refine al.go (bi rfl 148 rfl eR d6 ?_);intro w2 b7 l7 f2 r7
 go_wp2_with (with_reducible first|refine az rfl ?_|refine af 148 rfl ?_);refine al.go (bK rfl 148 _ _ rfl _ 0 rfl _ rfl 64 bp ?_ ?_ _ _ r7 ?_ ?_)
 .simp only[List.size_toArray,ai];exact si
 .exact byteCells_one _
 .decide
 intro w3 f3 wZ;rw[bH _ _ (by rw[ai,si];rfl)] at wZ;have f13:aO [] w w3:=(f1.trans f2).trans f3 (by simp;have:=f1.size;omega);have l7w:w.heap.size<=b7:=by have:=f1.size;omega
 have HR:Hid ((x.read 0).length=64):=si;clear r7 f1 f2 f3 si;have hlt1:Hid (∀r:List UInt8,r.length=64->∀i:Int,0<=i->i<54->(10+i).toNat<(byteCells r).toArray.size/\(byteCells r).toArray.setIfInBounds (10+i).toNat (.int .u8 1)=(byteCells (fB r i 1)).toArray/\(byteCells r).toArray.setIfInBounds (10+i).toNat (.int .u8 0)=(byteCells (fB r i 0)).toArray):=by
  intro r hr i h0 h54;have e:(10+i).toNat=10+i.toNat:=by omega
  have hne:i≠-1:=by omega
  refine⟨by simp[ai,hr];omega,?_,?_⟩
  .rw[fB,if_neg hne,gX,e];rfl
  .rw[fB,if_neg hne,gX,e];rfl
 by_cases h1:takes=-1
 .subst h1
  by_cases h2:frees=-1
  .subst h2
   go_wp2_with (with_reducible first|refine ay 148 rfl ?_|refine af 5 rfl ?_);have hml:Hid ((aX (x.read 0) (-1) (-1)).length=64):=by show _=_;unfold aX;rw[du,du];exact HR.out
   have q7:Row w3 b7 (byteCells (aX (x.read 0) (-1) (-1))).toArray 148:=wZ;have h3:=h.new f13;refine al.go (bU rfl 148 _ rfl b7 0 rfl dK 64 bp _ _ q7 (byteCells (aX (x.read 0) (-1) (-1))) ?_ ?_ ?_)
   .simp only[List.drop_zero];exact List.take_of_length_le (by rw[ai];exact Nat.le_of_eq hml.out)
   .rw[ai];exact hml.out
   go_wp2_with fail;refine(kH F d n x 0 (aX (x.read 0) (-1) (-1)) w3 h3 ⟨hx.kb,by have:=hx.ka;omega,hx.j9,hx.j8⟩ hml.out iI).mono ?_;rintro e w8 ⟨rfl,F8,h8,f8,g8⟩;have qY:aO F w w8:=(f13.mono (by simp):aO F w w3).trans f8 (λi hi=> .inl hi);have Fo:bL F F8 w:=λk hk=>(g8 k hk).imp id (λhh=>by have:=f13.size;omega)
   have Fg:=qY.size;have HM:Hid (x.mark (-1) (-1)=if x.bj then(x.write 0 (aX (x.read 0) (-1) (-1))).flush else x.write 0 (aX (x.read 0) (-1) (-1))):=rfl;have HO:Hid (x.jv (-1) (-1)=(x.bj&&(x.write 0 (aX (x.read 0) (-1) (-1))).bj)):=rfl;have hfit:Hid (x.bj=true->(x.write 0 (aX (x.read 0) (-1) (-1))).Fit 1):=λhc=>DS.ji hx hc
   have yv:∀R:Value×DS,R=R:=λ_=>rfl
   clear yv q7 h3 f8 g8;generalize x.write 0 (aX (x.read 0) (-1) (-1))=y at*;cases hc:x.bj with
   |true=>
    simp only[cI,if_true];go_wp2_with fail;refine(k6 F8 d n y w8 h8 (hfit.out hc)).mono ?_;rintro e w9 ⟨rfl,F9,h9,f9,g9⟩;go_wp2_with fail;go_ret;refine⟨?_,F9,?_,qY.trans f9 (λi hi=>Fo i hi),Fo.trans g9 Fg⟩
    .rw[HO.out,hc];simp
    .rw[HM.out,hc];simpa using h9
   |false=>
    simp only[cI];go_wp2_with fail;go_ret;refine⟨?_,F8,?_,qY,Fo⟩
    .rw[HO.out,hc];rfl
    .rw[HM.out,hc];simpa using h8
  .have hb2:(frees==-1)=false:=by simpa using h2
   go_wp2_with (with_reducible first|refine ay 148 rfl ?_|refine af 5 rfl ?_);have za:=hlt1.out (x.read 0) (by exact HR.out) frees (by omega) (by omega);refine al.go (fu rfl 5 _ _ rfl b7 (10+frees).toNat rfl .u8 0 rfl _ _ wZ za.1 ?_);intro wa fa ra;rw[za.2.2] at ra;have ga:aO [] w wa:=f13.trans fa (by simpa using l7w);clear za
   go_wp2_with (with_reducible first|refine ay 148 rfl ?_|refine af 5 rfl ?_);have hml:Hid ((aX (x.read 0) (-1) frees).length=64):=by show _=_;unfold aX;rw[du,du];exact HR.out
   have q7:Row wa b7 (byteCells (aX (x.read 0) (-1) frees)).toArray 148:=ra;have h3:=h.new ga;refine al.go (bU rfl 148 _ rfl b7 0 rfl dK 64 bp _ _ q7 (byteCells (aX (x.read 0) (-1) frees)) ?_ ?_ ?_)
   .simp only[List.drop_zero];exact List.take_of_length_le (by rw[ai];exact Nat.le_of_eq hml.out)
   .rw[ai];exact hml.out
   go_wp2_with fail;refine(kH F d n x 0 (aX (x.read 0) (-1) frees) wa h3 ⟨hx.kb,by have:=hx.ka;omega,hx.j9,hx.j8⟩ hml.out iI).mono ?_;rintro e w8 ⟨rfl,F8,h8,f8,g8⟩;have qY:aO F w w8:=(ga.mono (by simp):aO F w wa).trans f8 (λi hi=> .inl hi);have Fo:bL F F8 w:=λk hk=>(g8 k hk).imp id (λhh=>by have:=ga.size;omega)
   have Fg:=qY.size;have HM:Hid (x.mark (-1) frees=if x.bj then(x.write 0 (aX (x.read 0) (-1) frees)).flush else x.write 0 (aX (x.read 0) (-1) frees)):=rfl;have HO:Hid (x.jv (-1) frees=(x.bj&&(x.write 0 (aX (x.read 0) (-1) frees)).bj)):=rfl;have hfit:Hid (x.bj=true->(x.write 0 (aX (x.read 0) (-1) frees)).Fit 1):=λhc=>DS.ji hx hc
   have yv:∀R:Value×DS,R=R:=λ_=>rfl
   clear yv q7 h3 f8 g8;generalize x.write 0 (aX (x.read 0) (-1) frees)=y at*;cases hc:x.bj with
   |true=>
    simp only[cI,if_true];go_wp2_with fail;refine(k6 F8 d n y w8 h8 (hfit.out hc)).mono ?_;rintro e w9 ⟨rfl,F9,h9,f9,g9⟩;go_wp2_with fail;go_ret;refine⟨?_,F9,?_,qY.trans f9 (λi hi=>Fo i hi),Fo.trans g9 Fg⟩
    .rw[HO.out,hc];simp
    .rw[HM.out,hc];simpa using h9
   |false=>
    simp only[cI];go_wp2_with fail;go_ret;refine⟨?_,F8,?_,qY,Fo⟩
    .rw[HO.out,hc];rfl
    .rw[HM.out,hc];simpa using h8
 .have hb1:(takes==-1)=false:=by simpa using h1
  by_cases h2:frees=-1
  .subst h2
   go_wp2_with (with_reducible first|refine ay 148 rfl ?_|refine af 5 rfl ?_);have za:=hlt1.out (x.read 0) (by exact HR.out) takes (by omega) (by omega);refine al.go (fu rfl 5 _ _ rfl b7 (10+takes).toNat rfl .u8 1 rfl _ _ wZ za.1 ?_);intro wa fa ra;rw[za.2.1] at ra;have ga:aO [] w wa:=f13.trans fa (by simpa using l7w);clear za
   go_wp2_with (with_reducible first|refine ay 148 rfl ?_|refine af 5 rfl ?_);have hml:Hid ((aX (x.read 0) takes (-1)).length=64):=by show _=_;unfold aX;rw[du,du];exact HR.out
   have q7:Row wa b7 (byteCells (aX (x.read 0) takes (-1))).toArray 148:=ra;have h3:=h.new ga;refine al.go (bU rfl 148 _ rfl b7 0 rfl dK 64 bp _ _ q7 (byteCells (aX (x.read 0) takes (-1))) ?_ ?_ ?_)
   .simp only[List.drop_zero];exact List.take_of_length_le (by rw[ai];exact Nat.le_of_eq hml.out)
   .rw[ai];exact hml.out
   go_wp2_with fail;refine(kH F d n x 0 (aX (x.read 0) takes (-1)) wa h3 ⟨hx.kb,by have:=hx.ka;omega,hx.j9,hx.j8⟩ hml.out iI).mono ?_;rintro e w8 ⟨rfl,F8,h8,f8,g8⟩;have qY:aO F w w8:=(ga.mono (by simp):aO F w wa).trans f8 (λi hi=> .inl hi);have Fo:bL F F8 w:=λk hk=>(g8 k hk).imp id (λhh=>by have:=ga.size;omega)
   have Fg:=qY.size;have HM:Hid (x.mark takes (-1)=if x.bj then(x.write 0 (aX (x.read 0) takes (-1))).flush else x.write 0 (aX (x.read 0) takes (-1))):=rfl;have HO:Hid (x.jv takes (-1)=(x.bj&&(x.write 0 (aX (x.read 0) takes (-1))).bj)):=rfl;have hfit:Hid (x.bj=true->(x.write 0 (aX (x.read 0) takes (-1))).Fit 1):=λhc=>DS.ji hx hc
   have yv:∀R:Value×DS,R=R:=λ_=>rfl
   clear yv q7 h3 f8 g8;generalize x.write 0 (aX (x.read 0) takes (-1))=y at*;cases hc:x.bj with
   |true=>
    simp only[cI,if_true];go_wp2_with fail;refine(k6 F8 d n y w8 h8 (hfit.out hc)).mono ?_;rintro e w9 ⟨rfl,F9,h9,f9,g9⟩;go_wp2_with fail;go_ret;refine⟨?_,F9,?_,qY.trans f9 (λi hi=>Fo i hi),Fo.trans g9 Fg⟩
    .rw[HO.out,hc];simp
    .rw[HM.out,hc];simpa using h9
   |false=>
    simp only[cI];go_wp2_with fail;go_ret;refine⟨?_,F8,?_,qY,Fo⟩
    .rw[HO.out,hc];rfl
    .rw[HM.out,hc];simpa using h8
  .have hb2:(frees==-1)=false:=by simpa using h2
   go_wp2_with (with_reducible first|refine ay 148 rfl ?_|refine af 5 rfl ?_);have za:=hlt1.out (x.read 0) (by exact HR.out) takes (by omega) (by omega);refine al.go (fu rfl 5 _ _ rfl b7 (10+takes).toNat rfl .u8 1 rfl _ _ wZ za.1 ?_);intro wa fa ra;rw[za.2.1] at ra;have ga:aO [] w wa:=f13.trans fa (by simpa using l7w);clear za
   go_wp2_with (with_reducible first|refine ay 148 rfl ?_|refine af 5 rfl ?_);have zb:=hlt1.out (fB (x.read 0) takes 1) (by rw[du];exact HR.out) frees (by omega) (by omega);refine al.go (fu rfl 5 _ _ rfl b7 (10+frees).toNat rfl .u8 0 rfl _ _ ra zb.1 ?_);intro wb fb rb;rw[zb.2.2] at rb;have gb:aO [] w wb:=ga.trans fb (by simpa using l7w)
   clear zb;go_wp2_with (with_reducible first|refine ay 148 rfl ?_|refine af 5 rfl ?_);have hml:Hid ((aX (x.read 0) takes frees).length=64):=by show _=_;unfold aX;rw[du,du];exact HR.out
   have q7:Row wb b7 (byteCells (aX (x.read 0) takes frees)).toArray 148:=rb;have h3:=h.new gb;refine al.go (bU rfl 148 _ rfl b7 0 rfl dK 64 bp _ _ q7 (byteCells (aX (x.read 0) takes frees)) ?_ ?_ ?_)
   .simp only[List.drop_zero];exact List.take_of_length_le (by rw[ai];exact Nat.le_of_eq hml.out)
   .rw[ai];exact hml.out
   go_wp2_with fail;refine(kH F d n x 0 (aX (x.read 0) takes frees) wb h3 ⟨hx.kb,by have:=hx.ka;omega,hx.j9,hx.j8⟩ hml.out iI).mono ?_;rintro e w8 ⟨rfl,F8,h8,f8,g8⟩;have qY:aO F w w8:=(gb.mono (by simp):aO F w wb).trans f8 (λi hi=> .inl hi);have Fo:bL F F8 w:=λk hk=>(g8 k hk).imp id (λhh=>by have:=gb.size;omega)
   have Fg:=qY.size;have HM:Hid (x.mark takes frees=if x.bj then(x.write 0 (aX (x.read 0) takes frees)).flush else x.write 0 (aX (x.read 0) takes frees)):=rfl;have HO:Hid (x.jv takes frees=(x.bj&&(x.write 0 (aX (x.read 0) takes frees)).bj)):=rfl;have hfit:Hid (x.bj=true->(x.write 0 (aX (x.read 0) takes frees)).Fit 1):=λhc=>DS.ji hx hc
   have yv:∀R:Value×DS,R=R:=λ_=>rfl
   clear yv q7 h3 f8 g8;generalize x.write 0 (aX (x.read 0) takes frees)=y at*;cases hc:x.bj with
   |true=>
    simp only[cI,if_true];go_wp2_with fail;refine(k6 F8 d n y w8 h8 (hfit.out hc)).mono ?_;rintro e w9 ⟨rfl,F9,h9,f9,g9⟩;go_wp2_with fail;go_ret;refine⟨?_,F9,?_,qY.trans f9 (λi hi=>Fo i hi),Fo.trans g9 Fg⟩
    .rw[HO.out,hc];simp
    .rw[HM.out,hc];simpa using h9
   |false=>
    simp only[cI];go_wp2_with fail;go_ret;refine⟨?_,F8,?_,qY,Fo⟩
    .rw[HO.out,hc];rfl
    .rw[HM.out,hc];simpa using h8
def dW (root:List UInt8)(m:Nat):Nat->Nat->Int
 |0,_=>-1
 |f+1,k=>if k<m then(if dc root k==0 then k else dW root m f (k+1)) else -1
def dV (x:DS)(n:Nat):Int:=dW (x.read 0) (aK n) (aK n) 0
theorem C2 (root:List UInt8)(i:Nat):(((dc root i).toNat:Int)==0)=(dc root i==0):=by
 rw[Bool.eq_iff_iff];simp[<-UInt8.toNat_inj]
theorem oQ (root:List UInt8)(m:Nat):∀(f k:Nat),dW root m f k=-1\/∃i:Nat,i<m/\dW root m f k=i/\dc root i=0
 |0,_=> .inl rfl
 |f+1,k=>by
  unfold dW
  by_cases h:k<m
  .rw[if_pos h]
   by_cases h2:(dc root k==0)=true
   .exact .inr ⟨k,h,by simp[h2],by simpa using h2⟩
   .rw[if_neg h2];exact oQ root m f (k+1)
  .rw[if_neg h];exact .inl rfl
theorem Bc (F:List Nat)(d n:Nat)(x:DS)(w:World)(h:bI w F d n x):
  Calls Tryz.prog 108 #[.pointer (some ⟨d,0,none⟩)] w λe w'=>e= .returned (.int .i64 (dV x n))/\aO [] w w':=by
 have hsz:=h.size;have si:=CM h;go_enter Tryz.func108,Tryz.ntmps108;go_wp2_with fail;refine(CL F d n x 0 w h (by omega) (by omega)).mono ?_;rintro e w1 ⟨rfl,f1⟩;go_wp2_with (with_reducible first|refine az rfl ?_|refine af 148 rfl ?_);refine al.go (bi rfl 148 rfl eR d6 ?_);intro w2 b4 l4 f2 r4
 go_wp2_with (with_reducible first|refine az rfl ?_|refine af 148 rfl ?_);refine al.go (bK rfl 148 _ _ rfl _ 0 rfl _ rfl 64 bp ?_ ?_ _ _ r4 ?_ ?_)
 .simp only[List.size_toArray,ai];exact si
 .exact byteCells_one _
 .decide
 intro w3 f3 EP;rw[bH _ _ (by rw[ai,si];rfl)] at EP;have f13:aO [] w w3:=(f1.trans f2).trans f3 (by simp;have:=f1.size;omega);have h3:=h.new f13;clear r4 f3 f2;obtain⟨bl,vw,h3',_⟩:=h3;go_wp2_with fail;refine(ou d bl n vw x w3 h3').mono ?_;rintro e w4 ⟨rfl,rfl⟩;go_wp2_with fail;refine(lU n hsz.1 hsz.2 _).mono ?_;rintro e w4 ⟨rfl,rfl⟩
 go_wp2_with fail;have hns:aK n<=54:=by unfold aK;omega
 have l4w:w.heap.size<=b4:=by have:=f1.size;omega
 have HF0:Hid (dV x n=dW (x.read 0) (aK n) (aK n) 0):=rfl
 go_loopw [10] (λi wr=>∃k:Nat,i= .int .i64 k/\k<=aK n/\wr=w4/\Hid (dV x n=dW (x.read 0) (aK n) (aK n-k) k)) (λi _=>aK n-(intOf i).toNat)
 case atStart=>exact⟨0,rfl,by omega,rfl,HF0⟩
 case round=>
  obtain⟨k,rfl,hk,rfl,HF⟩:=hrel
  by_cases hlt:k<aK n
  .have hc:wr.cell? ⟨b4,10+k,none⟩=some (.int .u8 (dc (x.read 0) k).toNat):=by
    rw[EP.cell];simp[byteCells,dc,List.getD_eq_getElem?_getD];rw[List.getElem?_eq_getElem (by omega)];exact⟨_,rfl,rfl⟩
   have HR:Hid ((x.read 0).length=64):=si;clear si;have hm1:=C2 (x.read 0) k;have hstep:Hid (dW (x.read 0) (aK n) (aK n-k) k=if dc (x.read 0) k==0 then(k:Int) else dW (x.read 0) (aK n) (aK n-(k+1)) (k+1)):=by
    show _=_;rw[show aK n-k=(aK n-(k+1))+1 by omega,dW,if_pos hlt]
   by_cases hm:(dc (x.read 0) k==0)=true
   .have hb:(((dc (x.read 0) k).toNat:Int)==0)=true:=by rw[hm1];exact hm
    have HM:Hid ((dc (x.read 0) k==0)=true):=hm;clear hm hm1;go_wp2_with fail;go_ret;refine⟨pz ?_,f13⟩;rw[HF.out,hstep.out,if_pos HM.out]
   .have hm':(dc (x.read 0) k==0)=false:=by simpa using hm
    have hb:(((dc (x.read 0) k).toNat:Int)==0)=false:=by rw[hm1];exact hm'
    have HM:Hid ((dc (x.read 0) k==0)=false):=hm';clear hm hm' hm1;go_wp2_with fail
    go_roundw
    case rel=>
     refine⟨k+1,by go_num,by omega,trivial,?_⟩;show _=_;rw[HF.out,hstep.out,if_neg (by rw[HM.out];simp)]
    case measure=>simp[intOf];omega
  .have HK:Hid (k=aK n):=(by omega:k=aK n)
   go_wp2_with fail;go_ret;refine⟨pz ?_,f13⟩;rw[HF.out,HK.out,Nat.sub_self];rfl
def splice (l:List UInt8)(o:Nat)(v:List UInt8):List UInt8:=l.take o++v++l.drop (o+v.length)
theorem lC (l:List UInt8)(o:Nat)(v:List UInt8):over (byteCells l).toArray o (byteCells v)=(byteCells (splice l o v)).toArray:=by
 simp[over,splice,byteCells_append,eV,eW,ai]
theorem length_splice (l:List UInt8)(o:Nat)(v:List UInt8)(h:o+v.length<=l.length):(splice l o v).length=l.length:=by
 simp[splice];omega
def dR (s p c:Nat):List UInt8:=(((List.replicate 128 (0:UInt8)).set 0 (UInt8.ofNat s)).set 1 (UInt8.ofNat p)).set 2 (UInt8.ofNat c)
def cK (s:Nat)(p c:List UInt8):List UInt8:=splice (splice (dR s p.length c.length) 3 (p.take 8)) 11 (c.take 117)
theorem ew (s p c:Nat):(dR s p c).length=128:=by simp[dR]
theorem qj (s:Nat)(p c:List UInt8):(cK s p c).length=128:=by
 unfold cK;rw[length_splice _ _ _ (by rw[length_splice _ _ _ (by rw[ew,List.length_take];omega),ew,List.length_take];omega),length_splice _ _ _ (by rw[ew,List.length_take];omega),ew]
theorem Fl (s p c:Nat)(hs:s<256)(hp:p<256)(hc:c<256):(((byteCells (List.replicate 128 0)).toArray.setIfInBounds 0 (.int .u8 s)).setIfInBounds 1 (.int .u8 p)).setIfInBounds 2 (.int .u8 c)=(byteCells (dR s p c)).toArray:=by
 unfold dR;rw[gX,gX,gX];simp[hs,hp,hc,Nat.mod_eq_of_lt]
theorem FA (s:Nat)(p c:ByteArray)(w:World)(hs:s<256)(hp:p.size<256)(hc:c.size<256):
  Calls Tryz.prog 110 #[.agg #[.int .i64 s,.string p,.string c]] w λe w'=>e= .returned (.agg (byteCells (cK s p.data.toList c.data.toList)).toArray)/\aO [] w w':=by
 have hpl:Hid (p.data.toList.length=p.size):=by show _=_;rw[Array.length_toList];rfl
 have hcl:Hid (c.data.toList.length=c.size):=by show _=_;rw[Array.length_toList];rfl
 go_enter Tryz.func110,Tryz.ntmps110;go_wp2_with (with_reducible first|refine bG rfl ?_|refine az rfl ?_|refine ay 138 rfl ?_|refine af 138 rfl ?_|refine af 5 rfl ?_);refine al.go (ij rfl 107 _ rfl (.agg #[.int .i64 s,.string p,.string c]) rfl ?_);intro w1 b1 l1 f1 r1
 go_wp2_with (with_reducible first|refine bG rfl ?_|refine az rfl ?_|refine ay 138 rfl ?_|refine af 138 rfl ?_|refine af 5 rfl ?_);refine al.go (bi rfl 138 rfl pn lp ?_);intro w2 b2 l2 f2 r2
 go_wp2_with (with_reducible first|refine bG rfl ?_|refine az rfl ?_|refine ay 138 rfl ?_|refine af 138 rfl ?_|refine af 5 rfl ?_);refine al.go (bi rfl 138 rfl pn lp ?_);intro w3 b3 l3 f3 r3;have q1:Row w3 b1 #[.int .i64 s,.string p,.string c] 107:=f3.row (f2.row r1 (by simp));have q2:=f3.row r2
 have f13:=(f1.trans f2).trans f3;have hb2:w.heap.size<=b2:=by have:=f1.size;omega
 have hb3:w.heap.size<=b3:=by have:=f1.size;have:=f2.size;omega
 have n12:b1≠b2:=by have:=r1.lt;omega
 have n13:b1≠b3:=by have:=r1.lt;have:=f2.size;omega
 have n23:b2≠b3:=by have:=r2.lt;omega
 have r3':Row w3 b3 (byteCells (List.replicate 128 0)).toArray 138:=r3;clear r1 r2 r3 f1 f2 f3 l1 l2 l3;have c0:w3.cell? ⟨b1,0,none⟩=some (.int .i64 s):=by rw[q1.cell];rfl
 go_wp2_with (with_reducible first|refine bG rfl ?_|refine az rfl ?_|refine ay 138 rfl ?_|refine af 138 rfl ?_|refine af 5 rfl ?_);refine al.go (fu rfl 5 _ _ rfl b3 0 rfl .u8 s rfl _ _ r3' (by simp only[List.size_toArray,ai,List.length_replicate];omega) ?_);intro w4 f4 r4;have q1a:=f4.row q1 (by simpa using n13)
 have q2a:=f4.row q2 (by simpa using n23);have c1:w4.cell? ⟨b1,1,none⟩=some (.string p):=by rw[q1a.cell];rfl
 clear c0;go_wp2_with (with_reducible first|refine bG rfl ?_|refine az rfl ?_|refine ay 138 rfl ?_|refine af 138 rfl ?_|refine af 5 rfl ?_);refine al.go (fu rfl 5 _ _ rfl b3 1 rfl .u8 p.size rfl _ _ r4 (by simp only[Array.size_setIfInBounds,List.size_toArray,ai,List.length_replicate];omega) ?_);intro w5 f5 r5
 have q1b:=f5.row q1a (by simpa using n13);have q2b:=f5.row q2a (by simpa using n23);have c2:w5.cell? ⟨b1,2,none⟩=some (.string c):=by rw[q1b.cell];rfl
 clear c1;go_wp2_with (with_reducible first|refine bG rfl ?_|refine az rfl ?_|refine ay 138 rfl ?_|refine af 138 rfl ?_|refine af 5 rfl ?_);refine al.go (fu rfl 5 _ _ rfl b3 2 rfl .u8 c.size rfl _ _ r5 (by simp only[Array.size_setIfInBounds,List.size_toArray,ai,List.length_replicate];omega) ?_);intro w6 f6 r6
 have q1c:=f6.row q1b (by simpa using n13);have q2c:=f6.row q2b (by simpa using n23);rw[Fl s p.size c.size hs hp hc] at r6;have fw:aO [] w w6:=((f13.trans f4 (by simpa using hb3)).trans f5 (by simpa using hb3)).trans f6 (by simpa using hb3);clear c2 f4 f5 f6 r4 r5 q1a q1b q2a q2b q1 q2 r3' f13
 go_wp2_with (with_reducible first|refine bG rfl ?_|refine az rfl ?_|refine ay 138 rfl ?_|refine af 138 rfl ?_|refine af 5 rfl ?_)
 refine fq 5 rfl ?_;have fd:aO [] w6 w6.drew:=aO.drew _ _;have q1:=fd.row q1c;have q2:=fd.row q2c;have q3:=fd.row r6;have yB:=fw.trans fd;generalize w6.drew=w7 at q1 q2 q3 yB;clear q1c q2c r6 fw fd
 have hC:Lets (λw':World=>Row w' b1 #[.int .i64 s,.string p,.string c] 107):=⟨λw o h=>(aO.alloc [] w o).row h,λw h=>h⟩
 refine bM 0 (some 20) rfl rfl (λ_ _ _ h=>h) rfl (v:= .slice (some ⟨b3,3,none⟩) 8 125) (λ_=>j3 138 5 128 _ _ _ rfl Tryz.underlying138 (by kernel_rfl) b3 0 rfl 3 11 rfl rfl (by omega) (by omega) (by omega) (by omega) _ _ _ (by omega) (by omega) (by omega)) ?_
 refine bM 1 (some 21) rfl rfl (λ_ _ _ h=>h) rfl (v:= .pointer (some ⟨b1,0,none⟩)) (λ_=>by go_simp) ?_;simp only[Act.put,bZ,b6,bY];refine bM 2 (some 22) rfl rfl (λ_ _ _ h=>h) rfl (v:= .pointer (some ⟨b1,1,none⟩)) (λ_=>by go_simp) ?_
 refine lN 3 _ hC q1 (some 23) rfl rfl (λ_ _ _ h=>h) rfl (v:= .string p) (λw' hw'=>by have:=hw'.cell 1;go_simp) ?_;simp only[Act.put,bZ,b6,bY];refine qV 4 (some 24) rfl rfl rfl _ _ (lH _ _ _ _ 5 rfl Tryz.underlying85 b3 3 8 125 rfl p rfl _ _ q3 ?_) ?_
 .simp only[List.size_toArray,ai,ew];have:Nat.min p.size 8<=8:=Nat.min_le_right _ _;omega
 rw[lC];refine lP ?_;have q3':=q3.setRow (byteCells (splice (dR s p.size c.size) 3 (p.data.toList.take 8))).toArray;have f8:aO [b3] w7 (w7.setRow b3 (byteCells (splice (dR s p.size c.size) 3 (p.data.toList.take 8))).toArray):=aO.setRow _ _ _ _;have q1':=f8.row q1 (by simpa using n13);have q2':=f8.row q2 (by simpa using n23)
 have qY:aO [] w _:=yB.trans f8 (by simpa using hb3);generalize w7.setRow b3 (byteCells (splice (dR s p.size c.size) 3 (p.data.toList.take 8))).toArray=w8 at q1' q2' q3' qY;clear q1 q2 q3 f8 yB;simp only[Act.put,bZ,b6,bY]
 go_wp2_with (with_reducible first|refine bG rfl ?_|refine az rfl ?_|refine ay 138 rfl ?_|refine af 138 rfl ?_|refine af 5 rfl ?_)
 refine fq 4 rfl ?_;have fd:aO [] w8 w8.drew:=aO.drew _ _;have q1:=fd.row q1';have q2:=fd.row q2';have q3:=fd.row q3';have ZJ:=qY.trans fd;generalize w8.drew=w9 at q1 q2 q3 ZJ;clear q1' q2' q3' qY fd
 refine bM 0 (some 25) rfl rfl (λ_ _ _ h=>h) rfl (v:= .slice (some ⟨b3,11,none⟩) 117 117) (λ_=>mh 138 5 128 _ _ rfl Tryz.underlying138 (by kernel_rfl) b3 0 rfl 11 rfl (by omega) (by omega) _ _ (by omega) (by omega)) ?_
 refine bM 1 (some 26) rfl rfl (λ_ _ _ h=>h) rfl (v:= .pointer (some ⟨b1,2,none⟩)) (λ_=>by go_simp) ?_;refine lN 2 _ hC q1 (some 27) rfl rfl (λ_ _ _ h=>h) rfl (v:= .string c) (λw' hw'=>by have:=hw'.cell 2;go_simp) ?_
 simp only[Act.put,bZ,b6,bY];have hsp:(splice (dR s p.size c.size) 3 (p.data.toList.take 8)).length=128:=by rw[length_splice _ _ _ (by rw[ew,List.length_take];omega),ew]
 refine qV 3 (some 28) rfl rfl rfl _ _ (lH _ _ _ _ 5 rfl Tryz.underlying85 b3 11 117 117 rfl c rfl _ _ q3 ?_) ?_
 .simp only[List.size_toArray,ai,hsp];have:Nat.min c.size 117<=117:=Nat.min_le_right _ _;omega
 rw[lC];refine lP ?_;have er:splice (splice (dR s p.size c.size) 3 (p.data.toList.take 8)) 11 (c.data.toList.take 117)=cK s p.data.toList c.data.toList:=by unfold cK;rw[hpl.out,hcl.out]
 rw[er];have q3':=q3.setRow (byteCells (cK s p.data.toList c.data.toList)).toArray;have f10:aO [b3] w9 (w9.setRow b3 (byteCells (cK s p.data.toList c.data.toList)).toArray):=aO.setRow _ _ _ _;have q2':=f10.row q2 (by simpa using n23);have ado:aO [] w _:=ZJ.trans f10 (by simpa using hb3)
 generalize w9.setRow b3 (byteCells (cK s p.data.toList c.data.toList)).toArray=w10 at q2' q3' ado;have h128:Hid ((cK s p.data.toList c.data.toList).length=128):=qj _ _ _;clear q1 q2 q3 f10 ZJ er hsp hC;simp only[Act.put,bZ,b6,bY]
 go_wp2_with (with_reducible first|refine bG rfl ?_|refine az rfl ?_|refine ay 138 rfl ?_|refine af 138 rfl ?_|refine af 5 rfl ?_);refine al.go (bU rfl 138 _ rfl b3 0 rfl mY 128 iF _ _ q3' (byteCells (cK s p.data.toList c.data.toList)) ?_ ?_ ?_)
 .simp only[List.drop_zero];exact List.take_of_length_le (by rw[ai];exact Nat.le_of_eq h128.out)
 .rw[ai];exact h128.out
 go_wp2_with (with_reducible first|refine bG rfl ?_|refine az rfl ?_|refine ay 138 rfl ?_|refine af 138 rfl ?_|refine af 5 rfl ?_);refine al.go (bK rfl 138 _ _ rfl _ 0 rfl _ rfl 128 iF ?_ ?_ _ _ q2' ?_ ?_)
 .simp only[List.size_toArray,ai];exact h128.out
 .exact byteCells_one _
 .decide
 intro w11 f11 q11;rw[bH _ _ (by simp only[ai];rw[h128.out];rfl)] at q11;have ahO:aO [] w w11:=ado.trans f11 (by simpa using hb2);go_wp2_with (with_reducible first|refine bG rfl ?_|refine az rfl ?_|refine ay 138 rfl ?_|refine af 138 rfl ?_|refine af 5 rfl ?_)
 exact lA rfl b2 rfl rfl _ _ q11 mY (by simp only[List.size_toArray,ai];rw[h128.out];exact iF) ⟨rfl,ahO⟩
theorem So (t:TypeId)(a b c:Int)(w:World)(h:a+b=c)(h0:0<=c)(h1:c<=9223372036854775807):(binOp .add t (.int .i64 a) (.int .i64 b)).run Tryz.prog w= .ok (.int .i64 c) w:=by
 subst h;have:=IntWalk.i64_in (a+b) (by omega);go_simp
def DS.wr (x:DS)(i:Nat)(r:List UInt8):Nat->DS
 |0=>x
 |k+1=>(x.wr i r k).write (1+2*i+k:Nat) ((r.drop (k*64)).take 64)
def DS.nP (x:DS)(i:Nat)(r:List UInt8):DS:=if x.bj then(if(x.wr i r 1).bj then(x.wr i r 2).flush else x.wr i r 2) else x.wr i r 1
def DS.jW (x:DS)(i:Nat)(r:List UInt8):Bool:=x.bj&&(x.wr i r 1).bj&&(x.wr i r 2).bj
theorem DS.Id {x:DS}{s:Int}{l:List UInt8}{m:Nat}(h:x.waiting.length<=m):(x.write s l).waiting.length<=m+1:=by
 unfold DS.write DS.stopped DS.fall;split
 .simp;omega
 .split
  .omega
  .simp
theorem DS.KI {x:DS}{i:Nat}{r:List UInt8}{m:Nat}(h:x.waiting.length<=m):∀k,(x.wr i r k).waiting.length<=m+k
 |0=>h
 |k+1=>DS.Id (DS.KI h k)
theorem DS.Ei {x:DS}{i:Nat}{r:List UInt8}{m:Nat}:∀k,x.Fit (m+k)->(∀j,j<k->(x.wr i r j).bj=true)->(x.wr i r k).Fit m
 |0,h,_=>h
 |k+1,h,hc=>DS.ji (DS.Ei (m:=m+1) k (by rw[show m+1+k=m+(k+1) by omega];exact h) λj hj=>hc j (by omega)) (hc k (by omega))
section
variable {P:Program}{ops:Array Oper}{Q:Exit->Act->World->Prop}
theorem D3 {n:Nat}(k:Nat){oi:Oper}{a:Act}{w:World}(hk:k<n)(dst:Option Tmp)(hi:ops[k]? =some oi)(hd:oi.dst=dst)(hr:Region.ready .any ops (upto n k)=[k])(hg:oi.guard=none)
  (f:FuncId) (args:Array Value) (hx:(execOp a.eval oi).run P w= .ok (.enter f args) w) (R:Ending->World->Prop) (hc:Calls P f args w R)
  (h:∀e w',R e w'->∃v,e= .returned v/\At P ops Q n (k+1) (a.put dst v) w'):At P ops Q n k a w:=
 at_one k hk hi hr hg λK hK=>by
  unfold Oper.wp;rw[hx];simp only[Oper.upon];refine hc.mono ?_;intro e w' he;obtain⟨v,rfl,hv⟩:=h e w' he;rw[hd];exact hK _ _ hv
end
theorem sZ (F:List Nat)(d n:Nat)(x:DS)(i:Nat)(r:List UInt8)(w:World)(h:bI w F d n x)(hx:x.Fit 3)(iI:x.waiting.length<55)(hi:i<aK n)(hr:r.length=128):
  Calls Tryz.prog 109 #[.pointer (some ⟨d,0,none⟩),.int .i64 i,.agg (byteCells r).toArray] w λe w'=>e= .returned (cI (x.jW i r))/\∃F',bI w' F' d n (x.nP i r)/\aO F w w'/\bL F F' w:=by
 have hsz:=h.size;have ahr:i<54:=by unfold aK at hi;omega
 have hin:2*i+2<n:=by unfold aK at hi;omega
 go_enter Tryz.func109,Tryz.ntmps109;go_wp2_with (with_reducible first|refine bG rfl ?_|refine az rfl ?_|refine ay 138 rfl ?_);refine al.go (ij rfl 138 _ rfl (.agg (byteCells r).toArray) rfl ?_);intro w1 b5 l5 f1 r5;have h1:=h.new f1;have n5:b5∉F:=λhF=>by have:=h.lt _ hF;omega
 have HR:Hid (r.length=128):=hr;clear hr;go_wp2_with (with_reducible first|refine bG rfl ?_|refine az rfl ?_|refine ay 138 rfl ?_);have HW:Hid (∀k,k<2->x.wr i r (k+1)=(x.wr i r k).write (1+2*i+k:Nat) ((r.drop (k*64)).take 64)):=λk _=>rfl
 have acZ:Hid (∀k,k<=2->(∀j,j<k->(x.wr i r j).bj=true)->(x.wr i r k).Fit 1):=λk hk hc=>DS.Ei k ⟨hx.kb,by have:=hx.ka;omega,hx.j9,hx.j8⟩ hc
 have ahD:Hid (∀k,k<=2->(x.wr i r k).waiting.length<60):=λk hk=>by have:=DS.KI (x:=x) (i:=i) (r:=r) (Nat.le_refl _) k;omega
 have H0:Hid (x.wr i r 0=x):=rfl;have Zf:Hid (x.nP i r=if x.bj then(if(x.wr i r 1).bj then(x.wr i r 2).flush else x.wr i r 2) else x.wr i r 1):=rfl;have HOk:Hid (x.jW i r=(x.bj&&(x.wr i r 1).bj&&(x.wr i r 2).bj)):=rfl;have h1':bI w1 F d n (x.wr i r 0):=h1;generalize x.wr i r=y at*
 go_loopw [10] (λc wr=>∃k:Nat,c= .int .i64 k/\k<=2/\Hid (∀j,j<k->(y j).bj=true)/\∃F',bI wr F' d n (y k)/\aO F w wr/\Hid (bL F F' w)/\Row wr b5 (byteCells r).toArray 138/\Hid (b5∉F')) (λc _=>2-(intOf c).toNat)
 case atStart=>exact⟨0,rfl,by omega,λj hj=>by omega,F,h1',f1.mono,bL.refl _ _,r5,n5⟩
 case round=>
  obtain⟨k,rfl,hk,HC,F',ho,fk,gk,q5,n5'⟩:=hrel;clear h1 h1' f1 r5
  by_cases hlt:k<2
  .go_wp2_with (with_reducible first|refine bG rfl ?_|refine az rfl ?_|refine ay 138 rfl ?_)
   refine al.go (bi rfl 148 rfl eR d6 ?_);intro w2 b8 l8 f2 r8;have q5a:=f2.row q5;have hoa:=ho.new f2;have fka:=fk.trans f2;have n58:b5≠b8:=by have:=q5.lt;omega
   have n8:b8∉F':=λhF=>by have:=ho.lt _ hF;omega
   have n8w:w.heap.size<=b8:=by have:=fk.size;omega
   clear q5 ho fk f2 l8;go_wp2_with fail;refine fq 5 rfl ?_;have fd:aO [] w2 w2.drew:=aO.drew _ _;have q5b:=fd.row q5a;have q8b:Row w2.drew b8 eR.cells 148:=fd.row r8;have Zz:=hoa.new fd;have fkb:=fka.trans fd;generalize w2.drew=w3 at q5b q8b Zz fkb;clear q5a r8 hoa fka fd
   refine bM 0 (some 13) rfl rfl (λ_ _ _ h=>h) rfl (v:= .slice (some ⟨b8,0,none⟩) 64 64) (λ_=>by go_simp) ?_;refine bM 1 (some 14) rfl rfl (λ_ _ _ h=>h) rfl (v:= .int .i64 k) (λ_=>rfl) ?_
   refine bM 2 (some 15) rfl rfl (λ_ _ _ h=>h) rfl (v:= .int .i64 (k*64)) (λ_=>by go_simp;exact IntWalk.i64_in _ (by omega)) ?_;simp only[Act.put,bZ,b6,bY]
   refine bM 3 (some 16) rfl rfl (λ_ _ _ h=>h) rfl (v:= .slice (some ⟨b5,k*64,none⟩) (128-k*64) (128-k*64)) (λ_=>mh 138 5 128 _ _ rfl Tryz.underlying138 (by kernel_rfl) b5 0 rfl (k*64) rfl (by omega) (by omega) _ _ (by omega) (by omega)) ?_;simp only[Act.put,bZ,b6,bY]
   have hmin:Nat.min (128-k*64) 64=64:=Nat.min_eq_right (by omega);have hseg:((r.drop (k*64)).take 64).length=64:=by rw[List.length_take,List.length_drop,HR.out];omega
   refine qV 4 (some 17) rfl rfl rfl _ _ (Hg _ _ _ _ 5 rfl Tryz.underlying85 (by kernel_rfl) b8 0 _ _ rfl b5 (k*64) _ _ rfl _ _ q8b _ _ q5b (byteCells ((r.drop (k*64)).take 64)) ?_ ?_ ?_ (byteCells_one _)) ?_
   .rw[hmin];rw[eW,eV]
   .rw[hmin,ai,hseg]
   .rw[ai,hseg];decide
   rw[bH _ _ (by rw[ai,hseg];rfl)];refine lP ?_;have q8c:=q8b.setRow (byteCells ((r.drop (k*64)).take 64)).toArray;have f3:aO [b8] w3 (w3.setRow b8 (byteCells ((r.drop (k*64)).take 64)).toArray):=aO.setRow _ _ _ _;have q5c:=f3.row q5b (by simpa using n58);have hoc:=Zz.vO f3 (by simpa using n8);have fkc:=fkb.trans f3 (by simp;omega)
   have Ss:Hid (((r.drop (k*64)).take 64).length=64):=hseg;generalize hsg:(r.drop (k*64)).take 64=seg at*;have HSG:Hid ((r.drop (k*64)).take 64=seg):=hsg;generalize w3.setRow b8 (byteCells seg).toArray=w4 at q8c q5c hoc fkc;clear q8b q5b Zz fkb f3 hmin hseg hsg;simp only[Act.put,bZ,b6,bY];go_wp2_with fail;refine fq 8 rfl ?_;have fd:aO [] w4 w4.drew:=aO.drew _ _
   have q5:=fd.row q5c;have q8:=fd.row q8c;have ho:=hoc.new fd;have fk:=fkc.trans fd;generalize w4.drew=w5 at q5 q8 ho fk;clear q5c q8c hoc fkc fd;have hC:Lets (λw':World=>Row w' b8 (byteCells seg).toArray 148):=⟨λw o h=>(aO.alloc [] w o).row h,λw h=>h⟩
   refine bM 0 (some 18) rfl rfl (λ_ _ _ h=>h) rfl (v:= .pointer (some ⟨d,0,none⟩)) (λ_=>rfl) ?_;refine bM 1 (some 19) rfl rfl (λ_ _ _ h=>h) rfl (v:= .int .i64 i) (λ_=>rfl) ?_;simp only[Act.put,bZ,b6,bY]
   refine Sm 2 _ hC q8 (by omega) (some 20) rfl rfl (by kernel_rfl) (by kernel_rfl) (by kernel_rfl) rfl (by kernel_rfl) 115 #[.int .i64 i] (.int .i64 (1+2*i:Nat)) (λ_ _ _ h=>h) (λ_=>by go_simp) (λw' _=>nO i (by omega) w') ?_;refine bM 3 (some 21) rfl rfl (λ_ _ _ h=>h) rfl (v:= .int .i64 k) (λ_=>rfl) ?_
   simp only[Act.put,bZ,b6,bY];have ag9:((1+2*i:Nat):Int)<=400:=by omega
   refine bM 4 (some 22) rfl rfl (λ_ _ _ h=>h) rfl (v:= .int .i64 (1+2*i+k:Nat)) (λ_=>tN _ _ _ _ _ rfl (.int .i64 (1+2*i:Nat)) (.int .i64 k) rfl rfl _ rfl (So _ _ _ _ _ (by omega) (by omega) (by omega))) ?_;simp only[Act.put,bZ,b6,bY]
   refine qV 5 (some 23) rfl rfl rfl _ w5 (sC 148 _ rfl b8 0 rfl dK 64 bp _ _ q8 (byteCells seg) ?_ (by rw[ai];exact Ss.out)) ?_
   .simp only[List.drop_zero];exact List.take_of_length_le (by rw[ai];exact Nat.le_of_eq Ss.out)
   refine D3 6 (by omega) (some 24) rfl rfl (by kernel_rfl) rfl 148 #[.pointer (some ⟨d,0,none⟩),.int .i64 (1+2*i+k:Nat),.agg (byteCells seg).toArray] (by go_simp) _ (kH F' d n (y k) (1+2*i+k:Nat) seg w5 ho (acZ.out k hk HC.out) Ss.out (ahD.out k hk)) ?_;rintro e w6 ⟨rfl,F6,h6,f6,g6⟩;refine⟨_,rfl,?_⟩
   refine bM 7 (some 9) rfl rfl (λ_ _ _ h=>h) rfl (v:=cI (y k).bj) (λ_=>rfl) ?_;simp only[Act.put,bZ,b6,bY];refine lP ?_;have hy:(y k).write (1+2*i+k:Nat) seg=y (k+1):=by rw[HW.out k hlt,HSG.out]
   rw[hy] at h6;have q56:=f6.row q5 (λhF=>n5'.out hF);have vo:aO F w w6:=fk.trans f6 (λj hj=>gk.out j hj);have gw6:Hid (bL F F6 w):=λj hj=>(g6 j hj).elim (λh=>gk.out j h) (λh=> .inr (by have:=fk.size;omega))
   have n56:Hid (b5∉F6):=λhF=>(g6 _ hF).elim n5'.out (λh=>by have:=q5.lt;omega)
   clear hC q5 q8 ho fk hy f6 g6 gk n5' HSG Ss ag9;cases hc:(y k).bj with
   |true=>
    have HCA:Hid ((y k).bj=true):=hc;simp only[cI,if_true];clear hc;go_wp2_with fail
    go_roundw
    case rel=>
     refine⟨k+1,by go_num,by omega,λj hj=>?_,F6,h6,vo,gw6,q56,n56⟩;rcases Nat.lt_or_ge j k with h|h
     .exact HC.out j h
     .obtain rfl:j=k:=by omega
      exact HCA.out
    case measure=>simp[intOf];omega
   |false=>
    have HCA:Hid ((y k).bj=false):=hc;simp only[cI];clear hc;have hres:x.jW i r=false/\x.nP i r=y (k+1):=by
     have ahn:k=0\/k=1:=by omega
     rcases ahn with rfl|rfl
     .have h0:x.bj=false:=by rw[<-H0.out];exact HCA.out
      exact⟨by rw[HOk.out,h0];rfl,by rw[Zf.out,h0];rfl⟩
     .have h0:x.bj=true:=by rw[<-H0.out];exact HC.out 0 (by omega)
      exact⟨by rw[HOk.out,h0,HCA.out];rfl,by rw[Zf.out,h0,HCA.out];rfl⟩
    have OF:Hid (x.jW i r=false/\x.nP i r=y (k+1)):=hres;clear hres;go_wp2_with fail;go_ret;exact⟨by rw[OF.out.1];rfl,F6,by rw[OF.out.2];exact h6,vo,gw6.out⟩
  .obtain rfl:k=2:=by omega
   have h0:x.bj=true:=by rw[<-H0.out];exact HC.out 0 (by omega)
   have OF:Hid (x.jW i r=(y 2).bj/\x.nP i r=(y 2).flush):=by
    constructor
    .rw[HOk.out,h0,HC.out 1 (by omega)];rfl
    .rw[Zf.out,h0,HC.out 1 (by omega)];rfl
   clear h0;go_wp2_with fail;refine(k6 F' d n (y 2) wr ho (acZ.out 2 (by omega) HC.out)).mono ?_;rintro e w9 ⟨rfl,F9,h9,f9,g9⟩;go_wp2_with fail;go_ret;exact⟨by rw[OF.out.1];rfl,F9,by rw[OF.out.2];exact h9,fk.trans f9 (λj hj=>gk.out j hj),gk.out.trans g9 fk.size⟩
theorem DS.z0 {x:DS}{r:Nat}(h:x.Fit (r+1))(hc:x.bj=true):x.flush.Fit r:=by
 have h2:=DS.ji (s:=0) (l:=[]) h hc;unfold DS.write at h2;unfold DS.flush;rw[if_pos hc] at h2⊢;exact⟨h2.kb,h2.ka,h2.j9,h2.j8⟩
theorem DS.O3 {x:DS}{i:Nat}{r:List UInt8}(h:x.jW i r=true):x.nP i r=(x.wr i r 2).flush/\x.bj=true/\(x.wr i r 1).bj=true/\(x.wr i r 2).bj=true:=by
 unfold DS.jW at h;simp only[Bool.and_eq_true] at h;unfold DS.nP;rw[if_pos h.1.1,if_pos h.1.2];exact⟨rfl,h.1.1,h.1.2,h.2⟩
theorem DS.BD {x:DS}{i:Nat}{r:List UInt8}{m:Nat}(hx:x.Fit (m+3))(h:x.jW i r=true):(x.nP i r).Fit m/\(x.nP i r).waiting=[]:=by
 obtain⟨e,h0,h1,h2⟩:=DS.O3 h;rw[e];refine⟨DS.z0 (DS.Ei (m:=m+1) 2 (by rw[show m+1+2=m+3 by omega];exact hx) λj hj=>?_) h2,?_⟩
 .rcases Nat.lt_or_ge j 1 with h|h
  .obtain rfl:j=0:=by omega
   exact h0
  .obtain rfl:j=1:=by omega
   exact h1
 .unfold DS.flush;rw[if_pos h2]
def DS.put (x:DS)(n s:Nat)(p:ByteArray)(c:ByteArray):DS×Value:=
 if dV x n=-1 then(x,.int .i64 7)
 else if x.jW (dV x n).toNat (cK s p.data.toList c.data.toList) then
  ((
    x.nP (dV x n).toNat (cK s p.data.toList c.data.toList)).mark (dV x n) (cD x s p (taken x n)),
    cI ((x.nP (dV x n).toNat (cK s p.data.toList c.data.toList)).jv (dV x n) (cD x s p (taken x n))))
 else(x.nP (dV x n).toNat (cK s p.data.toList c.data.toList),.int .i64 3)
def DS.remove (x:DS)(n s:Nat)(p:ByteArray):DS×Value:=
 if cD x s p (taken x n)=-1 then(x,.int .i64 5)
 else(x.mark (-1) (cD x s p (taken x n)),cI (x.jv (-1) (cD x s p (taken x n))))
theorem rz (n:Nat)(x:DS)(s:Int)(p:ByteArray):-1<=cD x s p (taken x n)/\cD x s p (taken x n)<aK n:=by
 rcases mS x s p (taken x n) with hs|⟨i,hi,hs,_⟩
 .rw[hs];omega
 .rw[hs];have:=rh x n i hi;omega
theorem oH (F:List Nat)(d n:Nat)(x:DS)(s:Nat)(p:ByteArray)(w:World)(h:bI w F d n x)(hx:x.Fit 2)(iI:x.waiting.length<60):
  Calls Tryz.prog 78 #[.pointer (some ⟨d,0,none⟩),.agg (dL s p)] w λe w'=>e= .returned (x.remove n s p).2/\∃F',bI w' F' d n (x.remove n s p).1/\aO F w w'/\bL F F' w:=by
 have hn:aK n<=54:=by unfold aK;omega
 go_enter Tryz.func78,Tryz.ntmps78;go_wp2_with (with_reducible first|refine bG rfl ?_|refine ay 103 rfl ?_);refine al.go (ij rfl 103 _ rfl (.agg (dL s p)) rfl ?_);intro w1 b3 l3 f1 r3;have h1:=h.new f1;go_wp2_with (with_reducible first|refine bG rfl ?_|refine ay 103 rfl ?_)
 refine al.go (bU rfl 103 _ rfl b3 0 rfl gP 2 eJ _ _ r3 [.int .i64 s,.string p] rfl rfl ?_);go_wp2_with fail;obtain⟨bl,vw,h1',hF⟩:=id h1;refine(qx d bl n vw x s p w1 h1').mono ?_;rintro e w2 ⟨rfl,f2⟩;have hr:=rz n x s p;have h2:=h1.new f2;have fw:=f1.trans f2
 have HD:Hid (x.remove n s p=if cD x s p (taken x n)=-1 then(x,.int .i64 5) else(x.mark (-1) (cD x s p (taken x n)),cI (x.jv (-1) (cD x s p (taken x n))))):=rfl;generalize cD x s p (taken x n)=k at*;clear h1' f1 f2 r3 hF h1;have fF:aO F w w2:=fw.mono;rcases Int.lt_or_le k 0 with hk|hk
 .obtain rfl:k=-1:=by omega
  go_wp2_with fail;go_ret;rw[HD.out];exact⟨rfl,F,h2,fF,bL.refl _ _⟩
 .have hne:(k==-1)=false:=by rw[beq_eq_false_iff_ne];omega
  go_wp2_with fail;refine(zQ F d n x (-1) k w2 h2 hx iI (by omega) (by omega) (by omega) (by omega)).mono ?_;rintro e w3 ⟨rfl,F3,h3,f3,g3⟩;go_wp2_with fail;go_ret;rw[HD.out,if_neg (by omega)];exact⟨rfl,F3,h3,fF.trans f3 (λj hj=> .inl hj),(bL.refl F w).trans g3 fw.size⟩
theorem xa (F:List Nat)(d n:Nat)(x:DS)(s:Nat)(p c:ByteArray)(w:World)(h:bI w F d n x)(hx:x.Fit 5)(iI:x.waiting.length<55)(hs:s<256)(hp:p.size<256)(hc:c.size<256):
  Calls Tryz.prog 76 #[.pointer (some ⟨d,0,none⟩),.agg #[.int .i64 s,.string p,.string c]] w λe w'=>e= .returned (x.put n s p c).2/\∃F',bI w' F' d n (x.put n s p c).1/\aO F w w'/\bL F F' w:=by
 have hn:aK n<=54:=by unfold aK;omega
 go_enter Tryz.func76,Tryz.ntmps76;go_wp2_with (with_reducible first|refine bG rfl ?_|refine ay 103 rfl ?_|refine ay 107 rfl ?_);refine al.go (ij rfl 107 _ rfl (.agg #[.int .i64 s,.string p,.string c]) rfl ?_);intro w1 b3 l3 f1 r3;have h1:=h.new f1
 go_wp2_with (with_reducible first|refine bG rfl ?_|refine ay 103 rfl ?_|refine ay 107 rfl ?_);refine(Bc F d n x w1 h1).mono ?_;rintro e w2 ⟨rfl,f2⟩;have h2:=h1.new f2;have r32:=f2.row r3;have fw:=f1.trans f2;clear h1 f1 f2 r3;have HD:Hid (x.put n s p c=if dV x n=-1 then(x,.int .i64 7)
 else if x.jW (dV x n).toNat (cK s p.data.toList c.data.toList) then
  ((
    x.nP (dV x n).toNat (cK s p.data.toList c.data.toList)).mark (dV x n) (cD x s p (taken x n)),
    cI ((x.nP (dV x n).toNat (cK s p.data.toList c.data.toList)).jv (dV x n) (cD x s p (taken x n))))
 else(x.nP (dV x n).toNat (cK s p.data.toList c.data.toList),.int .i64 3)):=rfl
 have hf:dV x n=-1\/∃i:Nat,i<aK n/\dV x n=i:=by
  rcases oQ (x.read 0) (aK n) (aK n) 0 with hf|⟨i,hi,hf,_⟩
  .exact .inl hf
  .exact .inr ⟨i,hi,hf⟩
 generalize dV x n=fs at*;rcases hf with rfl|⟨i,hi,rfl⟩
 .go_wp2_with fail
  go_ret;rw[HD.out];exact⟨rfl,F,h2,fw.mono,bL.refl _ _⟩
 .have hne:((i:Int)==-1)=false:=by rw[beq_eq_false_iff_ne];omega
  simp only[Int.toNat_natCast] at HD;go_wp2_with (with_reducible first|refine ay 103 rfl ?_|refine ay 107 rfl ?_);refine al.go (bU rfl 103 _ rfl b3 0 rfl gP 2 eJ _ _ r32 [.int .i64 s,.string p] rfl rfl ?_);go_wp2_with (with_reducible first|refine ay 103 rfl ?_|refine ay 107 rfl ?_);obtain⟨bl,vw,h2',hF⟩:=id h2
  refine(qx d bl n vw x s p w2 h2').mono ?_;rintro e w3 ⟨rfl,f3⟩;have hr:=rz n x s p;have h3:=h2.new f3;have r33:=f3.row r32;have Ft:=fw.trans f3;generalize cD x s p (taken x n)=k at*;clear h2' hF h2 r32 fw f3;go_wp2_with (with_reducible first|refine ay 103 rfl ?_|refine ay 107 rfl ?_)
  refine al.go (bU rfl 107 _ rfl b3 0 rfl kP 3 eK _ _ r33 [.int .i64 s,.string p,.string c] rfl rfl ?_);go_wp2_with fail;refine(FA s p c w3 hs hp hc).mono ?_;rintro e w4 ⟨rfl,f4⟩;have h4:=h3.new f4;have Ef:=(Ft.trans f4).mono (T:=F) (by simp);generalize hR:cK s p.data.toList c.data.toList=R at*
  have hRl:R.length=128:=by rw[<-hR];exact qj _ _ _
  clear hR;go_wp2_with fail;refine(sZ F d n x i R w4 h4 ⟨hx.kb,by have:=hx.ka;omega,hx.j9,hx.j8⟩ iI hi hRl).mono ?_;rintro e w5 ⟨rfl,F5,h5,f5,g5⟩;have vp:=Ef.trans f5 (λj hj=> .inl hj);have gw5:=(bL.refl F w).trans g5 Ef.size;cases hok:x.jW i R with
  |true=>
   rw[hok] at HD;have hfit:=DS.BD (m:=2) hx hok;generalize x.nP i R=y at*;clear hok;simp only[cI,if_true];go_wp2_with fail;refine(zQ F5 d n y i k w5 h5 hfit.1 (by rw[hfit.2];decide) (by omega) (by omega) (by omega) (by omega)).mono ?_;rintro e w6 ⟨rfl,F6,h6,f6,g6⟩;go_wp2_with fail;go_ret;rw[HD.out,if_neg (by omega)];exact⟨rfl,F6,h6,vp.trans f6 gw5,gw5.trans g6 vp.size⟩
  |false=>
   rw[hok] at HD;generalize x.nP i R=y at*;clear hok;simp only[cI];go_wp2_with fail;go_ret;rw[HD.out,if_neg (by omega)];exact⟨rfl,F5,h5,vp,gw5⟩
def marks (n:Nat)(l:List Nat):Array Bool:=((List.range n).map λj=>l.contains j).toArray
theorem tG (n k:Nat)(l:List Nat)(h:k<n):(marks n l).setIfInBounds k true=marks n (k::l):=by
 apply Array.ext_getElem?
 intro i;simp only[marks,Array.getElem?_setIfInBounds,List.size_toArray,List.length_map,List.length_range,List.getElem?_toArray,List.getElem?_map]
 by_cases hi:k=i
 .subst hi;simp[h]
 .simp only[hi,if_false]
  by_cases hn:i<n
  .simp[List.getElem?_range hn,Ne.symm hi]
  .rw[List.getElem?_eq_none (by simp;omega)];rfl
def yw (P:Program)(ops:Array Oper)(Q:Exit->Act->World->Prop)(n m:Nat)(l:List Nat)(a:Act)(w:World):Prop:=wpAny P .any ops Q m (marks n l) a w
section
variable {P:Program}{ops:Array Oper}{Q:Exit->Act->World->Prop}
theorem sS {n:Nat}{a:Act}{w:World}(h:yw P ops Q n n [] a w):At P ops Q n 0 a w:=by
 unfold At;have e:upto n 0=marks n []:=by simp[upto,marks]
 rw[e];exact h
theorem dZ {n m:Nat}{l:List Nat}(k:Nat){oi:Oper}{v:Value}{a:Act}{w:World}(dst:Option Tmp)(hi:ops[k]? =some oi)(hd:oi.dst=dst)(hQ:∀c a w,Q (.panic c) (a.put oi.dst v) w->Q (.panic c) a w)(hg:oi.guard=none)(hy:∀w,(execOp a.eval oi).run P w= .ok (.value v) w)(h:yw P ops Q n m (k::l) (a.put dst v) w)(hk:k<n:=by omega)(hs:Region.noSelect ops=true:=by kernel_rfl)(hf:Region.free .any ops (marks n l) k=true:=by kernel_rfl)(hr:(Region.ready .any ops (marks n l)).contains k=true:=by kernel_rfl):yw P ops Q n (m+1) l a w:=
 D7 hi hs hf hr hQ hg hy (by rw[tG n k l hk,hd];exact h)
theorem Ox {n m:Nat}{l:List Nat}(k:Nat){oi:Oper}{a:Act}{w:World}(hk:k<n)(dst:Option Tmp)(hi:ops[k]? =some oi)(hd:oi.dst=dst)(hr:Region.ready .any ops (marks n l)=[k])(hg:oi.guard=none)
  (v:Value) (w1:World) (hrun:(execOp a.eval oi).run P w= .ok (.value v) w1) (h:yw P ops Q n m (k::l) (a.put dst v) w1):yw P ops Q n (m+1) l a w:=
 Ht hr hi hg v w1 hrun (by rw[tG n k l hk,hd];exact h)
theorem sR {n m:Nat}{l:List Nat}{a:Act}{w:World}(h:Q .normal a w)(hr:Region.ready .any ops (marks n l)=[]:=by kernel_rfl):yw P ops Q n m l a w:=wpAny_done hr h _
end
theorem Mm (v:Value)(c m:Nat)(hc:0<c):madeCells (List.replicate c v).toArray m=(List.replicate m v).toArray:=by
 apply Array.ext_getElem?
 intro i;have hz:∀j,j<c->((List.replicate c v).toArray)[j]! =v:=λj hj=>by
  rw[getElem!_pos _ j (by simpa using hj)];simp
 by_cases h:i<m
 .simp only[madeCells,Array.getElem?_map,Array.getElem?_range,h,if_true,Option.map_some,List.size_toArray,List.length_replicate,List.getElem?_toArray,List.getElem?_replicate]
  rw[hz _ (Nat.mod_lt _ hc)]
 .simp[madeCells,h]
theorem Je (m:Nat):madeCells eR.cells m=(byteCells (List.replicate m 0)).toArray:=by
 have e:eR.cells=(List.replicate 64 (Value.int .u8 ((0:UInt8).toNat))).toArray:=by
  show(byteCells (List.replicate 64 0)).toArray=_;unfold byteCells;rw[List.map_replicate]
 rw[e,Mm _ _ _ (by decide)];unfold byteCells;rw[List.map_replicate]
def DS.fresh (l:List UInt8):DS:=⟨l,[],0,false,0,0,false⟩
def laid (l:List UInt8)(n k:Nat):List UInt8:=l.take (k*64)++List.replicate ((n-k)*64) 0
theorem C8 (l:List UInt8)(n k:Nat)(hl:l.length=64*n)(hk:k<=n):(laid l n k).length=64*n:=by
 simp[laid];omega
theorem B5 (l:List UInt8)(n k:Nat)(hl:l.length=64*n)(hk:k<n):splice (laid l n k) (k*64) ((l.drop (k*64)).take 64)=laid l n (k+1):=by
 unfold splice laid;have h1:(l.take (k*64)).length=k*64:=by rw[List.length_take];omega
 have h2:((l.drop (k*64)).take 64).length=64:=by rw[List.length_take,List.length_drop];omega
 rw[List.take_append_of_le_length (by omega),List.take_of_length_le (Nat.le_of_eq h1),h2,List.drop_append,List.drop_of_length_le (show(l.take (k*64)).length<=k*64+64 by omega),h1,List.drop_replicate,show(k+1)*64=k*64+64 by omega,List.take_add];simp only[List.nil_append,List.append_assoc];rw[show(n-k)*64-(k*64+64-k*64)=(n-(k+1))*64 by omega]
theorem Dh:(Tryz.prog.info? 148).map (λi=>(i.size,i.bytes,i.zero))=some (64,64,some eR):=by kernel_rfl
theorem FV (bl n:Nat):Tryz.prog.built 134 [(0,.slice (some ⟨bl,0,none⟩) n n)]=some (ir bl n (.slice none 0 0) (DS.fresh [])):=by kernel_rfl
theorem tb:Tryz.prog.underlying 129=some (.slice 148):=by kernel_rfl
theorem bC {P:Program}{ops:Array Oper}{Q:Exit->Act->World->Prop}{a:Act}{w:World}{rest:List Oper}{o:Oper}(t:TypeId){ps:Array (Nat×Operand)}(_:o.op= .build t ps)(h:al (wpList P ops Q (o::rest) a w)):wpList P ops Q (o::rest) a w:=h
theorem tc {P:Program}{ops:Array Oper}{Q:Exit->Act->World->Prop}{a:Act}{w:World}{rest:List Oper}{o:Oper}(t:TypeId){x y:Operand}(_:o.op= .makeSlice t x y)(h:al (wpList P ops Q (o::rest) a w)):wpList P ops Q (o::rest) a w:=h
theorem Gj {P:Program}{ops:Array Oper}{Q:Exit->Act->World->Prop}{a:Act}{w:World}{rest:List Oper}{o:Oper}(hg:o.guard=none)(t e:TypeId)(x y:Operand)(ho:o.op= .makeSlice t x y)(ht:P.underlying t=some (.slice e))(sz by_:Nat)(z:Value)
  (hi:(P.info? e).map (λi=>(i.size,i.bytes,i.zero))=some (sz,by_,some z)) (n:Nat) (hx:a.eval x= .int .i64 n) (hy:a.eval y= .int .i64 n) (hb:by_*n<=281474976710656) (hn:n<=9223372036854775807)
  (h:∀(w1:World) (b:Nat),w.heap.size<=b->aO [] w w1->Row w1 b (madeCells z.cells (n*sz)) e->wpList P ops Q rest (a.put o.dst (.slice (some ⟨b,0,none⟩) n n)) w1):wpList P ops Q (o::rest) a w:=by
 refine cx hg _ (w.alloc (.cells (madeCells z.cells (n*sz)) e)) ?_ (h _ _ (Nat.le_refl _) (aO.alloc _ _ _) (Row.new _ _ _));cases hi':P.info? e with
 |none=>simp[hi'] at hi
 |some i=>
  simp only[hi',Option.map_some,Option.some.injEq,Prod.mk.injEq] at hi;obtain⟨h1,h2,h3⟩:=hi;subst h1;subst h2;have:=run_make (P:=P) w t e i z ht hi' h3 .i64 .i64 n n (by omega) (Int.le_refl _) (by rw[<-Int.natCast_mul];omega) (by omega);simp only[Int.toNat_natCast] at this;simp[execOp,ho,hx,hy,this]
theorem Dk (s:ByteArray)(n:Nat)(w:World)(hs:s.size=64*n)(h16:16<=n)(JH:n<=400):
  Calls Tryz.prog 104 #[.string s] w λe w'=>∃d F,e= .returned (.pointer (some ⟨d,0,none⟩))/\bI w' F d n (DS.fresh s.data.toList)/\aO [] w w'/\bL [] F w:=by
 have hsl:Hid (s.data.toList.length=64*n):=by show _=_;rw[Array.length_toList];exact hs
 have hq:(s.size:Int).tdiv 64=n:=by rw[hs];push_cast;exact Int.mul_tdiv_cancel_left _ (by decide)
 go_enter Tryz.func104,Tryz.ntmps104;go_wp2_with (with_reducible first|refine tc 129 rfl ?_);refine al.go (Gj rfl 129 148 _ _ rfl tb 64 64 eR Dh n rfl rfl (by omega) (by omega) ?_);intro w1 bl l1 f1 r1;rw[Je] at r1;have HL0:Hid (laid s.data.toList n 0=List.replicate (n*64) 0):=by show _=_;simp[laid]
 rw[<-HL0.out] at r1;go_wp2_with (with_reducible first|refine tc 129 rfl ?_|refine bC 134 rfl ?_|refine bG rfl ?_);refine al.go (cx rfl (.agg (ir bl n (.slice none 0 0) (DS.fresh []))) w1 (gV _ _ rfl _ (FV bl n)) ?_);go_wp2_with (with_reducible first|refine bG rfl ?_)
 refine al.go (ij rfl 134 _ rfl (.agg (ir bl n (.slice none 0 0) (DS.fresh []))) rfl ?_);intro w2 d l2 f2 r2;have q2:Row w2 d (ir bl n (.slice none 0 0) (DS.fresh [])) 134:=r2;have q1:=f2.row r1;have fw:=f1.trans f2;have hdb:d≠bl:=by have:=r1.lt;omega
 have ldw:w.heap.size<=d:=by have:=f1.size;omega
 clear r1 r2 f1 f2 l2;have c0:=(jS q2).1;go_wp2_with fail;clear c0
 go_loopw [16] (λc wr=>∃k:Nat,c= .int .i64 k/\k<=n/\aO [] w wr/\Row wr d (ir bl n (.slice none 0 0) (DS.fresh [])) 134/\Row wr bl (byteCells (laid s.data.toList n k)).toArray 148) (λc _=>n-(intOf c).toNat)
 case atStart=>exact⟨0,rfl,by omega,fw,q2,q1⟩
 case round=>
  obtain⟨k,rfl,hk,fk,qd,qb⟩:=hrel;clear q1 q2 fw
  by_cases hlt:k<n
  .go_wp2_with fail
   refine fq 12 rfl ?_;have fd:aO [] wr wr.drew:=aO.drew _ _;have q5:=fd.row qd;have q8:=fd.row qb;have fk:=fk.trans fd;generalize wr.drew=w5 at q5 q8 fk;clear qd qb fd;refine sS ?_
   refine dZ 0 (some 19) rfl rfl (λ_ _ _ h=>h) rfl (v:= .pointer (some ⟨d,0,none⟩)) (λ_=>rfl) ?_;refine dZ 1 (some 20) rfl rfl (λ_ _ _ h=>h) rfl (v:= .pointer (some ⟨d,0,none⟩)) (λ_=>by go_simp) ?_
   refine dZ 2 (some 21) rfl rfl (λ_ _ _ h=>h) rfl (v:= .pointer (some ⟨d,0,none⟩)) (λ_=>by go_simp) ?_;refine dZ 4 (some 23) rfl rfl (λ_ _ _ h=>h) rfl (v:= .int .i64 k) (λ_=>rfl) ?_
   refine dZ 7 (some 26) rfl rfl (λ_ _ _ h=>h) rfl (v:= .string s) (λ_=>rfl) ?_;refine dZ 8 (some 27) rfl rfl (λ_ _ _ h=>h) rfl (v:= .int .i64 k) (λ_=>rfl) ?_;simp only[Act.put,bZ,b6,bY]
   refine dZ 9 (some 28) rfl rfl (λ_ _ _ h=>h) rfl (v:= .int .i64 (k*64)) (λ_=>by go_simp;exact IntWalk.i64_in _ (by omega)) ?_;simp only[Act.put,bZ,b6,bY]
   refine dZ 10 (some 29) rfl rfl (λ_ _ _ h=>h) rfl (v:= .string (s.extract (k*64) s.size)) (λ_=>?_) ?_
   .have e:((k:Int)*64).toNat=k*64:=by omega
    go_simp;intro h;exact absurd (h (by omega)) (by omega)
   simp only[Act.put,bZ,b6,bY];have c0:=(jS q5).1;refine Ox 3 (by omega) (some 22) rfl rfl (by kernel_rfl) rfl (.slice (some ⟨bl,0,none⟩) n n) w5 (by go_simp) ?_;clear c0;refine dZ 5 (some 24) rfl rfl (λ_ _ _ h=>h) rfl (v:= .pointer (some ⟨bl,k*64,none⟩)) (λ_=>by go_simp) ?_
   refine dZ 6 (some 25) rfl rfl (λ_ _ _ h=>h) rfl (v:= .slice (some ⟨bl,k*64,none⟩) 64 64) (λ_=>by go_simp) ?_;simp only[Act.put,bZ,b6,bY];have hll:=C8 s.data.toList n k hsl.out hk
   refine Ox 11 (by omega) (some 30) rfl rfl (by kernel_rfl) rfl _ _ (lH _ _ _ _ 5 rfl Tryz.underlying85 bl (k*64) 64 64 rfl (s.extract (k*64) s.size) rfl _ _ q8 ?_) ?_
   .simp only[List.size_toArray,ai,hll]
    have:Nat.min (s.extract (k*64) s.size).size 64<=64:=Nat.min_le_right _ _;omega
   have e64:(s.extract (k*64) s.size).data.toList.take 64=(s.data.toList.drop (k*64)).take 64:=by
    have hsz:s.data.toList.length=s.size:=by rw[Array.length_toList];rfl
    rw[ByteArray.data_extract,Array.toList_extract,List.extract_eq_take_drop,List.take_take,<-hsz,<-List.length_drop];rw[List.take_eq_take_iff];omega
   rw[e64,lC,B5 _ _ _ hsl.out hlt];refine sR ?_;have q8':=q8.setRow (byteCells (laid s.data.toList n (k+1))).toArray;have f3:aO [bl] w5 (w5.setRow bl (byteCells (laid s.data.toList n (k+1))).toArray):=aO.setRow _ _ _ _;have nF:=f3.row q5 (by simpa using hdb)
   have Tt:aO [] w (w5.setRow bl (byteCells (laid s.data.toList n (k+1))).toArray):=fk.trans f3 (by simp;exact l1);generalize w5.setRow bl (byteCells (laid s.data.toList n (k+1))).toArray=w6 at q8' nF Tt;clear q8 q5 fk f3 e64 hll;simp only[Act.put,bZ,b6,bY];go_wp2_with fail
   go_roundw
   case rel=>exact⟨k+1,by go_num,by omega,Tt,nF,q8'⟩
   case measure=>simp[intOf];omega
  .obtain rfl:k=n:=by omega
   go_wp2_with fail;go_ret;have el:laid s.data.toList k k=s.data.toList:=by
    unfold laid;rw[List.take_of_length_le (by rw[hsl.out];omega)];simp
   rw[el] at qb;refine⟨d,[d,bl],rfl,⟨bl,.slice none 0 0,{row:=qd,last:=qb,len:=hsl.out,own:=World.ownsRow_nil _ _ _ _,d8:=by simp[DS.fresh],within:=by simp[DS.fresh],lo:=h16,hi:=JH,few:=by simp[DS.fresh],ne:=hdb,ne1:=by simp[Value.ownBlock],Bw:=by simp[Value.ownBlock],nil:=λ_=>rfl},by simp[Value.ownBlock]⟩,fk,λi hi=>?_⟩;simp only[List.mem_cons,List.not_mem_nil,or_false] at hi
   rcases hi with rfl|rfl
   .exact .inr ldw
   .exact .inr l1
theorem Jv:(Tryz.prog.info? 5).map (λi=>(i.size,i.bytes,i.zero))=some (1,1,some (.int .u8 0)):=by kernel_rfl
theorem ta:Tryz.prog.underlying 85=some (.slice 5):=Tryz.underlying85
theorem rD:(Tryz.prog.info? 146).map (·.size)=some 2:=by kernel_rfl
theorem AZ:liesAt Tryz.prog Tryz.prog.depth 146 (2/Tryz.prog.cellsOf 146) 0 146 1=true:=by kernel_rfl
theorem x4 (b:Nat)(w:World)(h0:w.cell? ⟨b,0,none⟩=some (.pointer (some ⟨b,0,none⟩))):
  Calls Tryz.prog 129 #[.pointer (some ⟨b,0,none⟩)] w λe w'=>e= .returned (.tuple #[])/\w'=w:=by
 obtain⟨j,hj,_⟩:=Option.map_eq_some_iff.1 rD;go_enter Tryz.func129,Tryz.ntmps129;go_wp2_with fail;rw[Lib.run_neq_ptr_same w _ Tryz.underlying144 hj];go_wp2_with fail
 go_end0
 exact⟨rfl,rfl⟩
theorem vr (b:Nat)(w:World)(h0:w.cell? ⟨b,0,none⟩=some (.pointer none))(hsh:w.shape? b=some (146,2))(hfz:w.frozen? ⟨b,0,none⟩=false):
  Calls Tryz.prog 129 #[.pointer (some ⟨b,0,none⟩)] w λe w'=>e= .returned (.tuple #[])/\w'=w.setCell ⟨b,0,none⟩ (.pointer (some ⟨b,0,none⟩)):=by
 obtain⟨j,hj,hjs⟩:=Option.map_eq_some_iff.1 rD;go_enter Tryz.func129,Tryz.ntmps129;go_wp2_with fail;rw[Lib.run_to_unsafe w ⟨b,0,none⟩ Tryz.underlying144 Tryz.underlying247 hj (by rw[hjs];decide) hsh (Nat.zero_lt_succ 1)];simp only[Result.andThen];rw[Oper.upon_value];go_wp2_with fail
 rw[run_callFunc_extern Tryz.func161 (by kernel_rfl) (by kernel_rfl) (by kernel_rfl) (e:=Extern.AbiNoEscape.same) (by kernel_rfl)];rw[Lib.run_noEscape];simp only[Result.andThen];rw[Oper.upon_value];go_wp2_with fail;rw[Lib.run_from_unsafe w ⟨b,0,none⟩ Tryz.underlying247 Tryz.underlying144 hj hsh AZ];simp only[Result.andThen];rw[Oper.upon_value];go_wp2_with fail
 go_end0
 exact⟨rfl,rfl⟩
theorem QV {T e:TypeId}{B b:Nat}{bs:List Value}{w w':World}(h:IsBuilder T e B b bs w)(f:aO [] w w'):IsBuilder T e B b bs w':=by
 have g:∀p,BuilderAt T e B b p bs w->BuilderAt T e B b p bs w':=λp hp=>by
  have hlt:=hp.lt;obtain⟨hB,v,hb,ho,hn⟩:=hp;exact⟨hB,v,by rw[f.block b hlt (by simp)];exact hb,f.owns ho,hn⟩
 exact h.imp (g _) (g _)
theorem pH {w w1 w2:World}(f:aO [] w w1)(h:Below w.heap.size w1 w2):aO [] w w2:=
 ⟨h.os.trans f.os,h.tape.trans f.tape,h.output.trans f.output,Nat.le_trans f.size h.size,λk hk _=>(h.block k hk).trans (f.block k hk (by simp))⟩
theorem Ac:(Tryz.prog.info? 146).map (·.zero)=some (some (.agg #[.pointer none,.slice none 0 0])):=by kernel_rfl
theorem jk {P:Program}{ops:Array Oper}{Q:Exit->Act->World->Prop}{a:Act}{w:World}{rest:List Oper}{o:Oper}{xs:Array Operand}{ts:Array TypeId}(_:o.op= .call {callee:= .builtin .copy,args:=xs,argTypes:=ts})(h:al (wpList P ops Q (o::rest) a w)):wpList P ops Q (o::rest) a w:=h
def mb:List UInt8:=[99,111,110,99,111,114,100,49]
def lz (n:Nat):List UInt8:=mb++[UInt8.ofNat (n/256),UInt8.ofNat n]++List.replicate 54 0
theorem m7 (n:Nat):(lz n).length=64:=by simp[lz,mb]
theorem EL (n:Nat)(hn:n<=400):((byteCells (splice (List.replicate 64 0) 0 mb)).toArray.setIfInBounds 8 (.int .u8 ((n:Int)/256))).setIfInBounds 9 (.int .u8 ((n:Int)%256))=(byteCells (lz n)).toArray:=by
 have e1:((n:Int)/256)=((UInt8.ofNat (n/256)).toNat:Nat):=by
  rw[UInt8.toNat_ofNat'];omega
 have e2:((n:Int)%256)=((UInt8.ofNat n).toNat:Nat):=by
  rw[UInt8.toNat_ofNat'];omega
 rw[e1,e2];rfl
theorem y8 (n:Nat)(w:World)(hn:n<=400):
  Calls Tryz.prog 112 #[.int .i64 n] w λe w'=>e= .returned (.agg (byteCells (lz n)).toArray)/\aO [] w w':=by
 go_enter Tryz.func112,Tryz.ntmps112;go_wp2_with (with_reducible first|refine az rfl ?_|refine jk rfl ?_|refine ay 148 rfl ?_|refine af 148 rfl ?_|refine af 5 rfl ?_);refine al.go (bi rfl 148 rfl eR d6 ?_);intro w1 b2 l2 f1 r2
 go_wp2_with (with_reducible first|refine az rfl ?_|refine jk rfl ?_|refine ay 148 rfl ?_|refine af 148 rfl ?_|refine af 5 rfl ?_);refine al.go (bi rfl 148 rfl eR d6 ?_);intro w2 b3 l3 f2 r3;have q2:=f2.row r2;have fw:=f1.trans f2;have n23:b2≠b3:=by have:=r2.lt;omega
 have h3:w.heap.size<=b3:=by have:=f1.size;omega
 have r3':Row w2 b3 (byteCells (List.replicate 64 0)).toArray 148:=r3;clear r2 r3 f1 f2 l3;go_wp2_with (with_reducible first|refine az rfl ?_|refine jk rfl ?_|refine ay 148 rfl ?_|refine af 148 rfl ?_|refine af 5 rfl ?_)
 refine al.go (cx rfl _ _ (lH _ _ _ _ 5 rfl Tryz.underlying85 b3 0 64 64 rfl ⟨#[99,111,110,99,111,114,100,49]⟩ rfl _ _ r3' (by simp only[List.size_toArray,ai,List.length_replicate];decide)) ?_);rw[show((⟨#[99,111,110,99,111,114,100,49]⟩:ByteArray).data.toList.take 64)=mb from rfl,lC]
 have q3:=r3'.setRow (byteCells (splice (List.replicate 64 0) 0 mb)).toArray;have f3:aO [b3] w2 (w2.setRow b3 (byteCells (splice (List.replicate 64 0) 0 mb)).toArray):=aO.setRow _ _ _ _;have q2':=f3.row q2 (by simpa using n23);have Ft:=fw.trans f3 (by simpa using h3);generalize w2.setRow b3 (byteCells (splice (List.replicate 64 0) 0 mb)).toArray=w3 at q3 q2' Ft
 clear q2 r3' f3 fw;go_wp2_with (with_reducible first|refine az rfl ?_|refine jk rfl ?_|refine ay 148 rfl ?_|refine af 148 rfl ?_|refine af 5 rfl ?_);refine al.go (fu rfl 5 _ _ rfl b3 8 rfl .u8 _ rfl _ _ q3 (by simp only[List.size_toArray,ai];rw[length_splice _ _ _ (by decide)];decide) ?_);intro w4 f4 q4
 have q2a:=f4.row q2' (by simpa using n23);have Ef:=Ft.trans f4 (by simpa using h3);clear q3 q2' Ft f4;go_wp2_with (with_reducible first|refine az rfl ?_|refine jk rfl ?_|refine ay 148 rfl ?_|refine af 148 rfl ?_|refine af 5 rfl ?_)
 refine al.go (fu rfl 5 _ _ rfl b3 9 rfl .u8 _ rfl _ _ q4 (by simp only[Array.size_setIfInBounds,List.size_toArray,ai];rw[length_splice _ _ _ (by decide)];decide) ?_);intro w5 f5 q5;have q2b:=f5.row q2a (by simpa using n23);have vp:=Ef.trans f5 (by simpa using h3);clear q4 q2a Ef f5;rw[EL n hn] at q5;have hl:=m7 n
 generalize hR:lz n=R at*;have HR:Hid (lz n=R):=hR;clear hR;go_wp2_with (with_reducible first|refine az rfl ?_|refine jk rfl ?_|refine ay 148 rfl ?_|refine af 148 rfl ?_|refine af 5 rfl ?_)
 refine al.go (bU rfl 148 _ rfl b3 0 rfl dK 64 bp _ _ q5 (byteCells R) (by simp only[List.drop_zero];exact List.take_of_length_le (by rw[ai];omega)) (by rw[ai];exact hl) ?_);go_wp2_with (with_reducible first|refine az rfl ?_|refine jk rfl ?_|refine ay 148 rfl ?_|refine af 148 rfl ?_|refine af 5 rfl ?_)
 refine al.go (bK rfl 148 _ _ rfl _ 0 rfl _ rfl 64 bp ?_ ?_ _ _ q2b ?_ ?_)
 .simp only[List.size_toArray,ai];exact hl
 .exact byteCells_one _
 .decide
 intro w6 f6 q6;rw[bH _ _ (by rw[ai,hl];rfl)] at q6;have vo:=vp.trans f6 (by simp;exact l2);have V3:Row w6 b2 (byteCells R).toArray 148:=q6;clear q6;go_wp2_with fail;exact lA rfl b2 rfl rfl _ _ V3 dK (by rw[bp];simp[ai,hl]) ⟨by rw[HR.out],vo⟩
def ez (n:Nat):List UInt8:=lz n++List.replicate ((n-1)*64) 0
theorem oC:∀m,repeatL [(0:UInt8)] m=List.replicate m 0
 |0=>rfl
 |m+1=>by rw[repeatL,oC m,List.replicate_succ];rfl
theorem JR (n:Nat)(w:World)(h1:1<=n)(hn:n<=400):
  Calls Tryz.prog 77 #[.int .i64 n] w λe w'=>e= .returned (.string ⟨(ez n).toArray⟩)/\aO [] w w':=by
 go_enter Tryz.func77,Tryz.ntmps77;go_wp2_with fail;refine(y8 n w hn).mono ?_;rintro e w1 ⟨rfl,f1⟩;have hl:=m7 n;have HE:Hid (ez n=lz n++List.replicate ((n-1)*64) 0):=rfl;generalize lz n=R at*;go_wp2_with (with_reducible first|refine az rfl ?_|refine af 148 rfl ?_);refine al.go (bi rfl 148 rfl eR d6 ?_);intro w2 b3 l3 f2 r3
 go_wp2_with (with_reducible first|refine az rfl ?_|refine af 148 rfl ?_);refine al.go (bK rfl 148 _ _ rfl _ 0 rfl _ rfl 64 bp ?_ ?_ _ _ r3 ?_ ?_)
 .simp only[List.size_toArray,ai];exact hl
 .exact byteCells_one _
 .decide
 intro w3 f3 q3;rw[bH _ _ (by rw[ai,hl];rfl)] at q3;have q3':Row w3 b3 (byteCells R).toArray 148:=q3;have Ft:=(f1.trans f2).trans f3 (by simp;have:=f1.size;omega);clear q3 r3 f1 f2 f3 l3;go_wp2_with fail;refine qT (by kernel_rfl) (by kernel_rfl) ?_;simp only[Act.put];refine cJ rfl (some 6) rfl (.slice (some ⟨b3,0,none⟩) 64 64) (λ_ _=>by go_simp) ?_
 simp only[Act.put,bZ,b6,bY];refine cJ rfl (some 7) rfl (.string (aB R)) (λw' hw'=>xP 85 9 5 _ rfl Tryz.underlying85 Tryz.underlying5 Tryz.underlying9 b3 0 64 64 rfl R _ (hw'.row q3') R (by simp only[List.drop_zero];exact List.take_of_length_le (by omega)) hl) ?_;simp only[Act.put,bZ,b6,bY];refine cJ rfl (some 8) rfl (.int .i64 n) (λ_ _=>rfl) ?_
 simp only[Act.put,bZ,b6,bY];refine cJ rfl (some 9) rfl (.int .i64 (n-1:Nat)) (λ_ _=>by
   have e:((n-1:Nat):Int)=(n:Int)-1:=by omega
   rw[e];go_simp;exact IntWalk.i64_in _ (by omega)) ?_
 simp only[Act.put,bZ,b6,bY];refine cJ rfl (some 10) rfl (.int .i64 ((n-1)*64:Nat)) (λ_ _=>by
   have e:(((n-1)*64:Nat):Int)=((n-1:Nat):Int)*64:=by omega
   rw[e];go_simp;exact IntWalk.i64_in _ (by omega)) ?_
 simp only[Act.put,bZ,b6,bY];refine tV rfl (some 11) rfl 113 #[.string ⟨#[0]⟩,.int .i64 ((n-1)*64:Nat)] (.string ⟨(repeatL [0] ((n-1)*64)).toArray⟩) (λ_ _=>by go_simp) (λw' hw'=>?_) ?_
 .refine(Tryz.strings_Repeat ⟨#[0]⟩ ((n-1)*64) w' (by omega) (by show 1*((n-1)*64)<=_;omega)).mono ?_
  rintro e w'' ⟨rfl,f⟩;exact⟨rfl,hw'.trans (aO.of_below f)⟩
 simp only[Act.put,bZ,b6,bY];refine cJ rfl (some 12) rfl (.string ⟨(ez n).toArray⟩) (λw' _=>?_) ?_
 .refine tN _ _ _ _ _ rfl (.string (aB R)) (.string ⟨(repeatL [0] ((n-1)*64)).toArray⟩) rfl rfl _ rfl ?_
  have e:(⟨(ez n).toArray⟩:ByteArray)=aB R++⟨(repeatL [0] ((n-1)*64)).toArray⟩:=by
   rw[HE.out,oC]
   apply ByteArray.ext
   simp[aB,ByteArray.data_append]
  rw[e];refine run_string_add_sum (P:=Tryz.prog) w' (aB R) ⟨(repeatL [0] ((n-1)*64)).toArray⟩ ?_;rw[oC];show R.toArray.size+(List.replicate ((n-1)*64) (0:UInt8)).toArray.size<=_;simp only[List.size_toArray,List.length_replicate];omega
 simp only[Act.put,bZ,b6,bY];refine cJ rfl (some 2) rfl (.string ⟨(ez n).toArray⟩) (λ_ _=>rfl) ?_;simp only[Act.put,bZ,b6,bY];intro w5 f5;have vp:=Ft.trans f5;go_wp2_with fail;go_ret;exact⟨rfl,vp⟩
def mH (r:List UInt8)(l:List Nat):List UInt8:=l.foldl (λr i=>r.set (10+i) 1) r
theorem IX (r:List UInt8):gv r<256:=pQ r 0
theorem wV (r:List UInt8):(bN r).length<=96:=by unfold bN;rw[List.length_take];omega
theorem gn (l:List UInt8):(aB l).size=l.length:=rfl
def gS (b:UInt8):Bool:=97<=b.toNat&&b.toNat<=122
def cC (l:List UInt8):Bool:=1<=l.length&&l.length<=8&&l.all gS
theorem KM {P:Program}{ops:Array Oper}{Q:Exit->Act->World->Prop}{a:Act}{w:World}{rest:List Oper}{o:Oper}(hg:o.guard=none)(src dst e:TypeId)(x:Operand)(ho:o.op= .convert src dst x)
  (hs:P.underlying src=some .string) (hd:P.underlying dst=some (.slice e)) (he:P.underlying e=some (.int .u8)) (s:ByteArray) (hx:a.eval x= .string s)
  (h:∀(w1:World) (b cap:Nat),w.heap.size<=b->aO [] w w1->(∀j,(hj:j<s.data.toList.length)->w1.cell? ⟨b,j,none⟩=some (.int .u8 (s.data.toList[j].toNat:Int)))->wpList P ops Q rest (a.put o.dst (.slice (some ⟨b,0,none⟩) s.size cap)) w1):wpList P ops Q (o::rest) a w:=by
 have hr:=run_bytes_of_string (P:=P) w src dst e s hs hd he;have hb:(w.drew.alloc (.cells (bytesRow s (grownCap w s.size 0 e)) e ((bytesRow s (grownCap w s.size 0 e)).size,(bytesRow s (grownCap w s.size 0 e)).size+1))).heap[w.heap.size]? =some (.cells (bytesRow s (grownCap w s.size 0 e)) e ((bytesRow s (grownCap w s.size 0 e)).size,(bytesRow s (grownCap w s.size 0 e)).size+1)):=by
  show(w.heap.push _)[w.heap.size]? =_;simp
 have hf:aO [] w (w.drew.alloc (.cells (bytesRow s (grownCap w s.size 0 e)) e ((bytesRow s (grownCap w s.size 0 e)).size,(bytesRow s (grownCap w s.size 0 e)).size+1))):=(aO.drew [] w).trans (aO.alloc [] _ _);generalize w.drew.alloc (.cells (bytesRow s (grownCap w s.size 0 e)) e ((bytesRow s (grownCap w s.size 0 e)).size,(bytesRow s (grownCap w s.size 0 e)).size+1))=w1 at hr hb hf
 refine cx hg (.slice (some ⟨w.heap.size,0,none⟩) s.size (grownCap w s.size 0 e)) w1 ?_ (h w1 _ _ (Nat.le_refl _) hf λj hj=>?_)
 .simp only[execOp,ho,hx,Sem.run_bind]
  rw[hr];rfl
 .rw[Lib.cell_of_heap hb,bytesRow_at s _ j (by simpa using hj)]
  simp
theorem nh (s:ByteArray)(w:World)(hs:s.size<=9223372036854775807):
  Calls Tryz.prog 49 #[.string s] w λe w'=>e= .returned (.bool (cC s.data.toList))/\aO [] w w':=by
 have hsl:Hid (s.data.toList.length=s.size):=by show _=_;rw[Array.length_toList];rfl
 go_enter Tryz.func49,Tryz.ntmps49
 by_cases h1:(s.size:Int)<1
 .have HE:Hid (cC s.data.toList=false):=by
   show _=_;unfold cC;have:s.data.toList.length=0:=by rw[hsl.out];omega
   rw[this];rfl
  go_wp2_with fail;go_ret;exact⟨by rw[HE.out];rfl,aO.refl _ _⟩
 .by_cases h8:(s.size:Int)>8
  .have HE:Hid (cC s.data.toList=false):=by
    show _=_;unfold cC;rw[hsl.out];have:decide (s.size<=8)=false:=by simp;omega
    rw[this];simp
   go_wp2_with fail;go_ret;exact⟨by rw[HE.out];rfl,aO.refl _ _⟩
  .have HS0:Hid (cC s.data.toList=(s.data.toList.drop 0).all gS):=by
    show _=_;unfold cC;rw[hsl.out,List.drop_zero];have e1:decide (1<=s.size)=true:=by simp;omega
    have e2:decide (s.size<=8)=true:=by simp;omega
    rw[e1,e2];rfl
   go_wp2_with (with_reducible first|refine Ak rfl ?_);refine al.go (KM rfl 9 85 5 _ rfl Tryz.underlying9 Tryz.underlying85 Tryz.underlying5 s rfl ?_);intro w1 b cap lb f1 hcell;generalize hgl:s.data.toList=l at*;have HLL:Hid (s.data.toList=l):=hgl;clear hgl;have aen:Hid (∀j,(hj:j<l.length)->w1.cell? ⟨b,j,none⟩=some (.int .u8 (l[j].toNat:Int))):=hcell;clear hcell
   go_wp2_with fail;have hls:l.length=s.size:=hsl.out
   go_loopw [16] (λc wr=>∃k:Nat,c= .int .i64 k/\k<=s.size/\wr=w1/\Hid (cC l=(l.drop k).all gS)) (λc _=>s.size-(intOf c).toNat)
   case atStart=>exact⟨0,rfl,by omega,rfl,HS0⟩
   case round=>
    obtain⟨k,rfl,hk,rfl,HS⟩:=hrel
    by_cases hlt:k<s.size
    .have hk':k<l.length:=by omega
     have hc:=aen.out k hk';have HN:Hid (cC l=(gS l[k]&&(l.drop (k+1)).all gS)):=by
      have:=HS.out;rw[List.drop_eq_getElem_cons hk',List.all_cons] at this;exact this
     have hb0:(l[k].toNat:Int)<=255:=by have:=l[k].toNat_lt;omega
     have HL:Hid (gS l[k]=(decide (97<=l[k].toNat)&&decide (l[k].toNat<=122))):=rfl;generalize l[k]=c at*
     by_cases g1:(c.toNat:Int)<97
     .have HF:Hid (cC l=false):=by
       show _=_;rw[HN.out,HL.out];have:decide (97<=c.toNat)=false:=by simp;omega
       rw[this];rfl
      go_wp2_with fail;go_ret;exact⟨by rw[HLL.out,HF.out];rfl,f1⟩
     .by_cases g2:(c.toNat:Int)>122
      .have HF:Hid (cC l=false):=by
        show _=_;rw[HN.out,HL.out];have:decide (c.toNat<=122)=false:=by simp;omega
        rw[this];simp
       go_wp2_with fail;go_ret;exact⟨by rw[HLL.out,HF.out];rfl,f1⟩
      .have HF:Hid (cC l=(l.drop (k+1)).all gS):=by
        show _=_;rw[HN.out,HL.out];have e1:decide (97<=c.toNat)=true:=by simp;omega
        have e2:decide (c.toNat<=122)=true:=by simp;omega
        rw[e1,e2];rfl
       go_wp2_with fail
       go_roundw
       case rel=>exact⟨k+1,by go_num,by omega,trivial,HF⟩
       case measure=>simp[intOf];omega
    .have HF:Hid (cC l=true):=by
      have:=HS.out;rw[List.drop_of_length_le (by omega)] at this;exact this
     go_wp2_with fail;go_ret;exact⟨by rw[HLL.out,HF.out];rfl,f1⟩
def iY (s:Int)(p:List UInt8):Bool:=if s=0\/s=1\/s=2 then cC p else(if s=3 then p==[] else false)
abbrev aem:=Nat×List UInt8
theorem yj (a b:List UInt8):(aB a==aB b)=(a==b):=by
 have e:(aB a==aB b)=((aB a).toList==(aB b).toList):=beq_toListBytes _ _;rw[e,ByteArray.toList_eq,ByteArray.toList_eq];rfl
def nameOf (f:cV):aem:=(f.set,f.path)
theorem xJ (l:List cV)(k:Nat)(hk:k<l.length):((gU l).drop (k*3)).take 3=bR l[k].set l[k].path l[k].content:=by
 have h:∀(l:List cV) (k:Nat),(gU l).drop (k*3)=gU (l.drop k):=by
  intro l
  induction l with
  |nil=>intro k;simp[gU]
  |cons f r ih=>
   intro k;cases k with
   |zero=>simp
   |succ k=>
    have:=ih k;simp only[gU,List.flatMap_cons,List.drop_succ_cons] at this⊢;rw[List.drop_append,List.drop_of_length_le (by simp[bR];omega),List.nil_append,<-this]
    congr 1
    simp[bR];omega
 rw[h,List.drop_eq_getElem_cons hk];show List.take 3 (bR l[k].set l[k].path l[k].content++gU (l.drop (k+1)))=_;rfl
end
section
open Go.Conc
open Go.ConcN (sumTo)
open Go.ConcM (OsLater)
namespace aF
section
variable {Δ:Type}{X:Cx Δ}{P:Program}{Post:Gh Δ->Goroutine->World->Prop}{S0:Nat->Prop}{C:Cf Δ}{gs:Array Goroutine}{w w':World}{t:Trace}{sl:Option (Nat×Nat)}{r:bh}{x x':Goroutine}{es:Array Event}
theorem Sk {aw aw':bh->Nat}{r:bh}(h:∀r',r'≠r->aw' r'=aw r')(hlt:aw' r<aw r):awS aw'<awS aw:=by
 unfold awS;cases r with
 |m=>have h1:=h .a (by simp);have h2:=h .b (by simp);omega
 |a=>have h1:=h .m (by simp);have h2:=h .b (by simp);omega
 |b=>have h1:=h .m (by simp);have h2:=h .a (by simp);omega
theorem stepBlock (c:Core X P Post S0 C gs w t)(hr:born C.L r)(hx:gs[gid C.n0 r]? =some x)(hnq:(C.L r).pc≠.quit)(hdd:C.ds r=fQ (C.L r).pc)(haw:C.aw r=1)
  (hst:∀w₁,RX X (C.γ r).ro (C.γ r).own w w₁->dM (AtR X P Post (C.k r) r) (C.L r) (C.γ r) (C.γ r).own x w₁) (hsl:(C.L r).sleeps C.s=true) (hs:stepG P (vn r) x w= .go {x with status:= .blocked} w #[]):
  ∃m₁ ops μ',runT P (crowd gs w sl) (gid C.n0 r)=(.next m₁,ops)/\TO μ' (C.ms gs.size)/\Bs X P Post S0 C.n0 μ' m₁ (t++ops):=by
 have hrun:=runT_crowd_go (P:=P) (sl:=sl) (i:=gid C.n0 r) hx (by rw[A2 c.rY];exact hs);have hwk:∀o,woken P x {x with status:= .blocked} w o=o:=λo=>by unfold woken;simp
 have hsz:((gs.map (woken P x {x with status:= .blocked} w)).setIfInBounds (gid C.n0 r) {x with status:= .blocked}).size=gs.size:=by simp
 have hget:∀i,i≠gid C.n0 r->((gs.map (woken P x {x with status:= .blocked} w)).setIfInBounds (gid C.n0 r) {x with status:= .blocked})[i]? =gs[i]? :=λi hi=>by
  rw[ConcN.get_map_set _ _ _ _ (Ne.symm hi)];cases gs[i]? with
  |none=>rfl
  |some g=>simp[hwk]
 refine⟨_,_,({C with aw:=upd C.aw r 0}:Cf Δ).ms gs.size,hrun,.right _ (.right _ (.right _ (Sk (r:=r) (λr' h=>upd_ne _ _ h) (by show upd C.aw r 0 r<C.aw r;rw[upd_same,haw];omega)))),{C with aw:=upd C.aw r 0},_,w,sl,rfl,rfl,?_,by rw[hsz]⟩;rw[ofEvents_none,Array.append_empty]
 refine⟨c.rY,by rw[hsz];exact c.size,c.tab,c.fuel,c.sh,λr' hr'=>?_,c.SF,λi g h0 h1 hg=>?_,by rw[hsz];exact c.above,c.deaf,c.data,c.FE,c.fin,c.rel,c.lay,c.ti⟩
 .by_cases e:r'=r
  .subst e
   refine⟨_,ConcN.get_map_set_same _ _ _ (A8 c hr),.inr (.inl ⟨hnq,hdd,upd_same _ _ _,hsl,x,rfl,hst⟩)⟩
  .obtain⟨g,h1,h2⟩:=c.sit r' hr'
   refine⟨g,by rw[hget _ (λh=>e (kq c.rY h))];exact h1,?_⟩;simp only[upd_ne _ _ e];exact h2
 .rw[hget _ (Ne.symm (vN c.rY h0 h1 r))] at hg
  exact c.old i g h0 h1 hg
theorem E1 {e:Event}(h:e.mute=true):e.loc= .mark .disable\/e.loc= .mark .enable:=by
 obtain⟨l,a,b⟩:=e;cases l with
 |mark m=>cases m<;>simp[Event.mute] at h<;>simp
 |_=>simp[Event.mute] at h
theorem Pi {n i m:Nat}{q:Nat->Nat}(hi:i<n)(hq:q i=m+1):sumTo n (λj=>if j=i then m else q j)<sumTo n q:=by
 have h:=ConcN.sumTo_upd q m id hi;have h':sumTo n (λj=>if j=i then m else q j)+q i=sumTo n q+m:=h;omega
theorem zA (c:Core X P Post S0 C gs w t){i:Nat}(hi0:i≠0)(hx:gs[i]? =some x)(GX:x.status= .running)
  (hcase:i<C.n0\/∃r,born C.L r/\r≠.m/\i=gid C.n0 r/\(C.L r).pc= .quit) (hq:QuitsD P (C.q i) (Deaf t i) x):
  ∃m₁ ops μ',runT P (crowd gs w sl) i=(.next m₁,ops)/\TO μ' (C.ms gs.size)/\Bs X P Post S0 C.n0 μ' m₁ (t++ops):=by
 have hlt:i<gs.size:=(Array.getElem?_eq_some_iff.1 hx).1;have hiM:(i==0)=false:=by simpa using hi0
 cases hqi:C.q i with
 |zero=>rw[hqi] at hq;rw[hq.1] at GX;cases GX
 |succ k=>
  rw[hqi] at hq;rcases hq with⟨hf,_⟩|⟨_,g',es,hmute,hstep,hq'⟩
  .rw[hf] at GX;cases GX
  have hrun:=runT_crowd_go (P:=P) (sl:=sl) (i:=i) hx (by rw[hiM];exact hstep w);have aji:g'.status= .running\/g'.status= .finished:=hq'.status
  let q':Nat->Nat:=λj=>if j=i then k else C.q j
  have hops:∀op∈MemOp.ofEvents i x.frame.fn x.frame.place es,op.g=i/\op.act.touch? =none/\op.act.low w.heap.size/\op.act≠.mark (.release (mA X))/\op.act≠.mark (.release (wA X)):=λop hop=>by
   obtain⟨e,he,rfl⟩:=Go.Conc.mem_ofEvents hop;have hm:=hmute e he;refine⟨rfl,touch_mute hm,low_mute hm _,?_,?_⟩<;>(rcases E1 hm with h|h<;>simp[dr h])
  have hsz:((gs.map (woken P x g' w)).setIfInBounds i g').size=gs.size:=by simp
  have key:∀r',∃a,born C.L r'->i≠gid C.n0 r'->∃g,((gs.map (woken P x g' w)).setIfInBounds i g')[gid C.n0 r']? =some g/\Sit X P Post (C.k r') r' (C.L r') (C.γ r') (C.ρ r') a (C.ds r') (C.q (gid C.n0 r')) C.s g w:=λr'=>by
   by_cases h:born C.L r'/\i≠gid C.n0 r'
   .obtain⟨h1,h2⟩:=h
    obtain⟨g,hg,hs⟩:=c.sit r' h1;obtain⟨k',hk⟩:=c.kpos h1;rw[hk] at hs⊢;obtain⟨a,ha⟩:=hs.other (x:=x) (x':=g') (s':=C.s) (RX.refl X _ _ w) (λz=> .inl z);exact⟨a,λ_ _=>⟨_,by rw[ConcN.get_map_set _ _ _ _ h2,hg];rfl,ha⟩⟩
   .exact⟨0,λh1 h2=>absurd ⟨h1,h2⟩ h⟩
  let aw':bh->Nat:=λr'=>(key r').choose
  let ds':bh->Nat:=λr'=>if i=gid C.n0 r' then deafBehind (C.ds r') es else C.ds r'
  let C':Cf Δ:={C with aw:=λr'=>if i=gid C.n0 r' then 0 else aw' r',ds:=ds',q:=q'}
  have hdeaf:∀r',born C.L r'->Deaf (t++MemOp.ofEvents i x.frame.fn x.frame.place es) (gid C.n0 r')=ds' r':=λr' h=>by
   by_cases e:i=gid C.n0 r'
   .simp only[ds',if_pos e]
    rw[<-e,Deaf_own,e,c.deaf r' h]
   .simp only[ds',if_neg e]
    rw[Deaf_other t (g':=i) e _ (λop ho=>(hops op ho).1)];exact c.deaf r' h
  refine⟨_,_,C'.ms gs.size,hrun,.right _ (.right _ (.left _ _ (Pi hlt hqi))),C',_,w,sl,rfl,rfl,?_,by rw[hsz]⟩;refine⟨c.rY,by rw[hsz];exact c.size,c.tab,c.fuel,c.sh,λr' hr'=>?_,c.SF,λj g h0 h1 hg=>?_,λj hj=>?_,hdeaf,c.data,c.FE,c.fin,λr' h=>?_,c.lay,?_⟩
  .by_cases e:i=gid C.n0 r'
   ·
    have hqp:(C.L r').pc= .quit:=by
     rcases hcase with h|⟨r'',_,_,h3,h4⟩
     .cases r' with
      |m=>exact absurd e hi0
      |a=>simp[gid] at e;omega
      |b=>simp[gid] at e;omega
     .rw[<-kq c.rY (h3.symm.trans e)];exact h4
    refine⟨g',by rw[<-e];exact ConcN.get_map_set_same _ _ _ hlt,.inr (.inr ⟨hqp,by simp[C',e],?_⟩)⟩;simp only[C',q',ds',<-e,if_true];rw[e,c.deaf r' hr'] at hq';simpa [e] using hq'
   .obtain⟨g,h1,h2⟩:=(key r').choose_spec hr' e
    refine⟨g,h1,?_⟩;simp only[C',q',ds',if_neg e,if_neg (Ne.symm e)];exact h2
  .by_cases e:i=j
   .subst e
    rw[ConcN.get_map_set_same _ _ _ hlt] at hg;obtain rfl:=Option.some.inj hg;simp only[C',q',if_true];rw[Deaf_own];exact hq'
   .rw[ConcN.get_map_set _ _ _ _ e] at hg
    obtain⟨y,hy,rfl⟩:=Option.map_eq_some_iff.1 hg;have hqj:=c.old j y h0 h1 hy;simp only[C',q',if_neg (Ne.symm e)];rw[woken_quitsD hqj,Deaf_other t e _ (λop ho=>(hops op ho).1)];exact hqj
  .rw[hsz] at hj
   rw[Deaf_other t (g':=i) (by omega) _ (λop ho=>(hops op ho).1)];exact c.above j hj
  .obtain⟨p,hp⟩:=c.rel r' h
   by_cases e:i=gid C.n0 r'
   .subst e
    exact⟨p,ConcN.RelBy.appOwn hp _ _ _ λj e he=> .inl (touch_mute (hmute e (Array.mem_of_getElem? he)))⟩
   .exact⟨p,ConcN.RelBy.appOther hp (λop ho=>(hops op ho).1) e⟩
  .refine TI.mute c.ti hi0 ?_ hops
   rcases hcase with h|⟨r'',h1,h2,h3,_⟩
   .exact .inl h
   .exact .inr ⟨r'',h2,h1,h3⟩
theorem Q8 (T:Lo)(h:(hd T).pc≠.bad):fQ (hd T).pc=1:=by rcases Dm T with e|e|e<;>first|(rw[e];rfl)|exact absurd e h
theorem Qx {T:Lo}{s:Sh}{q:Lo×Sh}(h:q∈mv T s)(hb:q.1.pc≠.bad)(he:EvStop X T q.1 es):deafBehind (fQ T.pc) es=fQ q.1.pc:=by
 have one:∀(d:Nat) (m:Mark),deafBehind d #[qg m]=match m with|.disable=>d+1|.enable=>d-1|_=>d:=λd m=>by cases m<;>rfl
 have hcl:=Hh T;have G3:∀{a b:Nat},a=1->b=1->ConcM.BookOK X.Fd X.Wg 1 1 es->deafBehind a es=b:=λh1 h2 h=>by rw[h1,h2];exact h.2.1
 have hdd:=Q8;obtain⟨pc,old,nw,aw,sv,it,n⟩:=T;obtain⟨mu,ms,wg,ws⟩:=s;cases pc<;>simp only[mv] at h<;>(repeat' split at h)<;>simp only[List.mem_cons,List.not_mem_nil,or_false] at h<;>(first|contradiction|(obtain rfl:=h)|(rcases h with rfl|rfl))<;>
  (first
   |exact absurd rfl hb
   |exact G3 rfl (hdd _ hb) he.1
   |exact G3 rfl (by rw[hcl];rfl) he.1
   |exact G3 rfl (by rfl) he.1
   |(simp only[EvStop,jf] at he;simp only[he,one];rfl)
   |(simp[EvStop,jf] at he;simp only[he,one];rfl)
   |(refine G3 rfl ?_ he.1;simp only;split<;>rfl))
theorem I9 {n0:Nat}{RO:bh->Loc->Prop}{own:bh->Nat->Prop}{B:Nat}(lay:Lay X S0 C.γ C.L B){T T':Lo}(he:EvStop X T T' es)(hsd:mI T.pc=false->r≠.m->True)(hrm:T.pc= .p1\/T.pc= .p2\/T.pc= .pw->r= .m){fn:FuncId}{pos:String}:
  ∀op∈MemOp.ofEvents (gid n0 r) fn pos es,OkOp n0 (yC X S0) RO own (mA X) (wA X) B B r op/\∀z,op.act.touch? =some z->(yC X S0 z.loc/\z.kind= .atomic)\/r= .m:=by
 intro op hop;obtain⟨e,hem,rfl⟩:=Go.Conc.mem_ofEvents hop;have mark:∀(m:Mark),es=#[qg m]->(MemAct.mark m).touch? =none->m≠.release (mA X)->m≠.release (wA X)->(MemAct.mark m).low B->
   OkOp n0 (yC X S0) RO own (mA X) (wA X) B B r {g:=gid n0 r,fn,pos,act:= .ofEvent e}/\∀z,(MemAct.ofEvent e).touch? =some z->(yC X S0 z.loc/\z.kind= .atomic)\/r= .m:=λm h1 h2 h3 h4 h5=>by
  rw[h1] at hem;simp at hem;subst hem;have e0:MemAct.ofEvent (qg m)= .mark m:=rfl;refine⟨⟨rfl,?_,?_,?_,λz hz=>?_⟩,λz hz=>?_⟩<;>simp only[e0] at*
  .simpa using h3
  .simpa using h4
  .exact h5
  .rw[h2] at hz;cases hz
  .rw[h2] at hz;cases hz
 have said:∀(m:Mark) (wr:Bool),es=#[qg m]->(MemAct.mark m).touch? =some ⟨.cell (Kw X),wr,.said⟩->m≠.release (mA X)->m≠.release (wA X)->(MemAct.mark m).low B->r= .m->
   OkOp n0 (yC X S0) RO own (mA X) (wA X) B B r {g:=gid n0 r,fn,pos,act:= .ofEvent e}/\∀z,(MemAct.ofEvent e).touch? =some z->(yC X S0 z.loc/\z.kind= .atomic)\/r= .m:=λm wr h1 h2 h3 h4 h5 h6=>by
  rw[h1] at hem;simp at hem;subst hem;have e0:MemAct.ofEvent (qg m)= .mark m:=rfl;refine⟨⟨rfl,?_,?_,?_,λz hz=>?_⟩,λz hz=> .inr h6⟩<;>simp only[e0] at*
  .simpa using h3
  .simpa using h4
  .exact h5
  .rw[h2] at hz
   obtain rfl:=Option.some.inj hz;exact .inl ⟨⟨_,rfl,.inr (.inl rfl)⟩,.inr ⟨rfl,h6⟩⟩
 unfold EvStop at he;cases hk:jf T T'<;>rw[hk] at he<;>simp only at he
 .exact mark _ he rfl (by simp) (by simp) trivial
 .exact mark _ he rfl (by simp) (by simp) trivial
 .exact mark _ he rfl (by simp) (by simp) lay.vl
 .exact mark _ he rfl (by simp) (by simp) lay.vl
 .exact mark _ he rfl (by simp) (by simp) lay.tI
 .exact mark _ he rfl (by simp) (by simp) lay.tI
 .have:T.pc= .p1\/T.pc= .p2\/T.pc= .pw:=by
   revert hk;unfold jf;cases T.pc<;>simp;split<;>simp
  exact said _ false he rfl (by simp) (by simp) lay.tI (hrm this)
 .have:T.pc= .p1\/T.pc= .p2\/T.pc= .pw:=by
   revert hk;unfold jf;cases T.pc<;>simp;split<;>simp
  exact said _ true he rfl (by simp) (by simp) lay.tI (hrm this)
 .rcases he.1.1 e hem with h1|h1|⟨a,z,rfl,ha⟩
  .have e0:=dr h1
   refine⟨⟨rfl,?_,?_,?_,λz hz=>?_⟩,λz hz=>?_⟩<;>simp only[e0] at*
   .simp
   .simp
   .trivial
   .cases hz
   .cases hz
  .have e0:=dr h1
   refine⟨⟨rfl,?_,?_,?_,λz hz=>?_⟩,λz hz=>?_⟩<;>simp only[e0] at*
   .simp
   .simp
   .trivial
   .cases hz
   .cases hz
  .have e0:MemAct.ofEvent (⟨.cell a,z,true⟩:Event)= .access ⟨.cell a,z,true⟩:=by cases z<;>rfl
   have hs:yC X S0 (.cell a):=⟨a,rfl,ha.elim (λh=> .inr (.inr ⟨h,he.2 _ hem a rfl h⟩)) λh=> .inr (.inl h)⟩
   refine⟨⟨rfl,?_,?_,?_,λy hy=>?_⟩,λy hy=>?_⟩<;>simp only[e0] at*
   .simp
   .simp
   .show a.block<B
    rcases ha with h|h<;>rw[h]
    .exact lay.vl
    .exact lay.tI
   .simp only[MemAct.touch?,Option.some.injEq] at hy
    subst hy;exact .inl ⟨hs,.inl rfl⟩
   .simp only[MemAct.touch?,Option.some.injEq] at hy
    subst hy;exact .inl ⟨hs,rfl⟩
end
theorem Mj {T:Lo}{s:Sh}{q:Lo×Sh}(h:q∈mv T s):(q.1.pc= .ur↔T.pc= .la)/\(T.pc= .ur->q.1.pc= .ud)/\(past q.1.pc=true->past T.pc=true\/(T.pc= .out/\q.1.pc= .wk))/\(T.pc= .out->q.1.pc= .wk\/q.1.pc= .l0)/\q.1.pc≠.un/\(T.pc= .d4->q.1.pc= .quit)/\(q.1.pc= .quit->T.pc= .d1\/T.pc= .d4):=by
 have hh:=Dm;have hcl:=Hh T;have key:∀{p p':Pc},p'= .c2\/p'= .sq\/p'= .bad->p≠.la->p≠.ur->p≠.out->p≠.d4->(p'= .ur↔p= .la)/\(p= .ur->p'= .ud)/\(past p'=true->past p=true\/(p= .out/\p'= .wk))/\(p= .out->p'= .wk\/p'= .l0)/\p'≠.un/\(p= .d4->p'= .quit)/\(p'= .quit->p= .d1\/p= .d4):=fun {p p'} h a b c d=>by rcases h with rfl|rfl|rfl<;>simp[past,a,b,c,d]
 obtain⟨pc,old,nw,aw,sv,it,n⟩:=T;obtain⟨mu,ms,wg,ws⟩:=s;cases pc<;>simp only[mv] at h<;>(repeat' split at h)<;>simp only[List.mem_cons,List.not_mem_nil,or_false] at h<;>(first|contradiction|(obtain rfl:=h)|(rcases h with rfl|rfl))<;>
  first
   |exact key (hh _) (by simp) (by simp) (by simp) (by simp)
   |(simp[hcl,past];done)
   |(simp[past];done)
   |(simp only;split<;>simp[past])
theorem mv_nil {T:Lo}{s:Sh}(hT:mI T.pc=true\/iX T.pc=true)(h1:¬(T.pc= .g1\/T.pc= .g2))(h2:T.pc≠.aq)(h3:T.pc≠.un)(h4:T.pc≠.quit)(h:mv T s=[]):T.sleeps s=true:=by
 obtain⟨pc,old,nw,aw,sv,it,n⟩:=T;obtain⟨mu,ms,wg,ws⟩:=s;cases pc<;>simp[mI,iX] at hT h1 h2 h3 h4<;>simp only[mv] at h<;>(repeat' split at h)<;>first|(simp at h;done)|(simp[Lo.sleeps];assumption)
section
variable {L:bh->Lo}{s:Sh}{r1 r2:Nat}{q:Lo×Sh}
theorem vv.wake (h:vv L s r1 r2){r r':bh}(hq:q∈mv (L r) s)(hu:(L r).pc≠.un)(hne:r'≠r)(hsl:(L r').sleeps s=true):(L r').sleeps q.2=true\/(L r).pc= .us\/(L r).pc= .d4:=by
 have FM:=h.Zy.facts;have FG:=h.QW.facts;simp only[Lo.sleeps,Bool.or_eq_true,Bool.and_eq_true,beq_iff_eq] at hsl⊢
 have ab4:fv (L r).pc=true->q.2.ws=s.ws:=λhl=>(vI hl hq).2.2
 have XK:jF (L r).pc=true->q.2.ms=s.ms:=λhl=>(vH hl hq).2.2.1
 have Ul:kh (L r).pc=true->q.2.ms=s.ms:=λhl=>(GO hl hq).2.2.1
 have SD:kI (L r).pc=true->q.2=s:=λhl=>(rZ hl hq).1
 have abv:(L r).pc= .out->q.2=s:=λho=>by
  simp only[mv,ho] at hq;rcases List.mem_cons.1 hq with rfl|hq
  .rfl
  .split at hq
   .simp only[List.mem_singleton] at hq;subst hq;rfl
   .simp at hq
 have K9:kI (L r).pc=true\/fv (L r).pc=true\/jF (L r).pc=true\/kh (L r).pc=true\/(L r).pc= .out:=by
  cases hp:(L r).pc<;>simp[kI,fv,jF,kh]<;>(simp[mv,hp] at hq)
 rcases hsl with⟨h1,h2⟩|⟨h1,h2⟩
 ·
  have hnm:r'≠.m:=λe=>by subst e;have:=h.st;rw[h1] at this;cases this
  have hpm:pm (L r')={L r' with n:=0}:=by simp[pm,h1]
  have hw:(pm (L r')).waits s.ms=true:=by rw[hpm];simp[Lo.waits,h1,h2]
  rcases K9 with c|c|c|c|c
  .rw[SD c];exact .inl (.inl ⟨h1,h2⟩)
  .have m1:=(vI c hq).1
   have hrm:r≠.m:=λe=>by subst e;have:=h.st;revert this c;cases (L .m).pc<;>simp[fv,mI]
   have fin:(pm (L r')).waits q.2.ms=true\/(pm (L r)).pc= .us:=by
    cases r with
    |m=>exact absurd rfl hrm
    |a=>cases r' with
     |m=>exact absurd rfl hnm
     |a=>exact absurd rfl hne
     |b=>exact FM.KO _ m1 hw
    |b=>cases r' with
     |m=>exact absurd rfl hnm
     |a=>exact FM.KN _ m1 hw
     |b=>exact absurd rfl hne
   rcases fin with f|f
   .rw[hpm] at f
    simp[Lo.waits,h1] at f;exact .inl (.inl ⟨h1,f⟩)
   .refine .inr (.inl ?_)
    revert f c
    cases hp:(L r).pc<;>simp[fv,pm,hp]
  .rw[XK c];exact .inl (.inl ⟨h1,h2⟩)
  .rw[Ul c];exact .inl (.inl ⟨h1,h2⟩)
  .rw[abv c];exact .inl (.inl ⟨h1,h2⟩)
 ·
  have hm:r'= .m:=by
   cases r' with
   |m=>rfl
   |a=>have:=h.wa;rw[h1] at this;cases this
   |b=>have:=h.wb;rw[h1] at this;cases this
  subst hm;have hp0:(p0 (L .m)).pc= .w3:=by simp[p0,h1]
  rcases K9 with c|c|c|c|c
  .rw[SD c];exact .inl (.inr ⟨h1,h2⟩)
  .rw[ab4 c];exact .inl (.inr ⟨h1,h2⟩)
  .have m1:=(vH c hq).1
   have fin:q.2.ws=0\/(pw (L r)).pc= .d4:=by
    cases r with
    |m=>exact absurd rfl hne
    |a=>exact FG.KO hp0 h2 _ m1
    |b=>exact FG.KN hp0 h2 _ m1
   rcases fin with f|f
   .exact .inl (.inr ⟨h1,f⟩)
   .refine .inr (.inr ?_)
    revert f c
    cases hp:(L r).pc<;>simp[jF,pw,hp]
  .exfalso
   cases r with
   |m=>exact hne rfl
   |a=>have:=h.wa;revert this c;cases (L .a).pc<;>simp[kh,iX]
   |b=>have:=h.wb;revert this c;cases (L .b).pc<;>simp[kh,iX]
  .rw[abv c];exact .inl (.inr ⟨h1,h2⟩)
end
section
variable {Δ:Type}{X:Cx Δ}{P:Program}{Post:Gh Δ->Goroutine->World->Prop}{S0:Nat->Prop}{C:Cf Δ}{gs:Array Goroutine}{w w':World}{t:Trace}{sl:Option (Nat×Nat)}{r:bh}{x x':Goroutine}{es:Array Event}
theorem qf {pc:Pc}{own:Nat->Prop}{c:Nat}(h:iU X pc own c):own c\/(pc= .la/\c=X.M):=by
 cases pc<;>first|exact .inl h|exact .inl h.1|exact h.imp id λz=>⟨rfl,z⟩
theorem Lay.next (lay:Lay X S0 C.γ C.L w.heap.size)(tab:vv C.L C.s C.r1 C.r2)(hr:born C.L r){q:Lo×Sh}(hq:q∈mv (C.L r) C.s)(hex:¬((upd C.L r q.1 .a).pc= .ur/\(upd C.L r q.1 .b).pc= .ur)){γ':Gh Δ}(h1:γ'.ro=(C.γ r).ro)(h2:γ'.own=iU X (C.L r).pc (C.γ r).own)
  (hrm:(C.L r).pc= .la->r≠.m):Lay X S0 (upd C.γ r γ') (upd C.L r q.1) w.heap.size:=by
 obtain⟨u1,u2,_,_,u5,_⟩:=Mj hq;have ro':∀r' c,(upd C.γ r γ' r').ro c->(C.γ r').ro c:=λr' c h=>by
  by_cases e:r'=r
  .subst e;rw[upd_same,h1] at h;exact h
  .rw[upd_ne _ _ e] at h;exact h
 have own':∀r' c,(upd C.γ r γ' r').own c->(C.γ r').own c\/(r'=r/\(C.L r).pc= .la/\c=X.M):=λr' c h=>by
  by_cases e:r'=r
  .subst e;rw[upd_same,h2] at h;exact(qf h).imp id λz=>⟨rfl,z⟩
  .rw[upd_ne _ _ e] at h;exact .inl h
 have spM:X.M≠X.Fd/\X.M≠X.Wg/\¬S0 X.M/\X.M<w.heap.size:=⟨lay.fm.symm,lay.mw,λe=>(lay.s0 _ e).2.2.1 rfl,lay.AX⟩
 have noM:(C.L r).pc= .la->∀r',¬(C.γ r').own X.M:=λhla r' ho=>by
  have hu:=(lay.vg r').1 ho;have hn:r'≠r:=λe=>by subst e;rw[hla] at hu;cases hu
  have hnm:r'≠.m:=λe=>by subst e;exact jo tab rfl hu
  have hq1:=u1.2 hla
  apply hex
  cases r with
  |m=>exact absurd rfl (hrm hla)
  |a=>cases r' with
   |m=>exact absurd rfl hnm
   |a=>exact absurd rfl hn
   |b=>exact⟨by rw[upd_same];exact hq1,by rw[upd_ne _ _ (by simp)];exact hu⟩
  |b=>cases r' with
   |m=>exact absurd rfl hnm
   |a=>exact⟨by rw[upd_ne _ _ (by simp)];exact hu,by rw[upd_same];exact hq1⟩
   |b=>exact absurd rfl hn
 refine⟨λr' c h=>?_,λr' h=>lay.Zs r' (ro' _ _ h),λr'=>?_,λr' r'' c h h'=>?_,λr' r'' c h h'=>?_,λr' c h=>?_,lay.fm,lay.fw,lay.mw,lay.s0,lay.vl,lay.AX,lay.tI⟩
 .rcases h with h|h
  .rcases own' _ _ h with h|⟨_,_,rfl⟩
   .exact lay.sp r' c (.inl h)
   .exact spM
  .exact lay.sp r' c (.inr (ro' _ _ h))
 .by_cases e:r'=r
  .subst e
   rw[upd_same,upd_same,h2,u1];constructor
   .intro h
    cases hp:(C.L r').pc<;>rw[hp] at h<;>first|rfl|(have:=(lay.vg r').1 h;rw[hp] at this;cases this)|exact absurd rfl h.2
   .intro h;rw[h];exact .inr rfl
  .rw[upd_ne _ _ e,upd_ne _ _ e];exact lay.vg r'
 .rcases own' _ _ h with h3|⟨e3,l3,c3⟩<;>rcases own' _ _ h' with h4|⟨e4,l4,c4⟩
  .exact lay.apart _ _ c h3 h4
  .subst c4;exact absurd h3 (noM l4 _)
  .subst c3;exact absurd h4 (noM l3 _)
  .rw[e3,e4]
 .rcases own' _ _ h with h3|⟨e3,l3,c3⟩
  .exact lay.zM _ _ c h3 (ro' _ _ h')
  .subst c3;exact lay.Zs _ (ro' _ _ h')
 .have hb:born (upd C.L r q.1) r':=by
   by_cases e:r'=r
   .subst e;show(upd C.L r' q.1 r').pc≠.un;rw[upd_same];exact u5
   .show(upd C.L r q.1 r').pc≠.un
    rw[upd_ne _ _ e];rcases h with h|h
    .rcases own' _ _ h with h|⟨e',_⟩
     .exact lay.lv r' c (.inl h)
     .exact absurd e' e
    .exact lay.lv r' c (.inr (ro' _ _ h))
  exact hb
theorem stepMove (c:Core X P Post S0 C gs w t)(hr:born C.L r)(hx:gs[gid C.n0 r]? =some x)(hnq:(C.L r).pc≠.quit)(hdd:C.ds r=fQ (C.L r).pc){q:Lo×Sh}(hq:q∈mv (C.L r) C.s){k':Nat}(hk:C.k r=k'+1)
  {cm:Δ} (hcm:(C.L r).pc≠.ur->cm=(C.γ r).mine) (hur:(C.L r).pc= .ur->∃o,w.heap[X.M]? =some o/\Bt X r cm (C.γ r).other o) (hwake:(C.L r).pc= .us\/(C.L r).pc= .d4->mayWake P x=true) (hfin:q.1.pc= .wk->cm=X.fin r)
  (hs:stepG P (vn r) x w= .go x' w' es) (hsh:ShAt X w' q.2) (heff:ConcM.Eff X.Fd X.Wg w w') (hev:EvStop X (C.L r) q.1 es) {d:Δ} (hd:(C.L r).pc= .la->d=(C.γ (L8 r)).mine)
  (Rb:After X P (AtR X P Post k' r) r q.1 {(C.γ r) with own:=iU X (C.L r).pc (C.γ r).own,mine:=cm,other:=if(C.L r).pc= .la then d else(C.γ r).other} x' w'):
  ∃m₁ ops μ',runT P (crowd gs w sl) (gid C.n0 r)=(.next m₁,ops)/\TO μ' (C.ms gs.size)/\Bs X P Post S0 C.n0 μ' m₁ (t++ops):=by
 have hrun:=runT_crowd_go (P:=P) (sl:=sl) (i:=gid C.n0 r) hx (by rw[A2 c.rY];exact hs);obtain⟨hnb,r1',r2',htab,nR⟩:=c.tab.move hq hr;obtain⟨u1,u2,u3,u4,u5,u6,u7⟩:=Mj hq;have hfu:=c.fuel r hr;obtain⟨k'',aho⟩:∃k'',k'=k''+1:=⟨k'-1,by omega⟩
 generalize hγ:({(C.γ r) with own:=iU X (C.L r).pc (C.γ r).own,mine:=cm,other:=if(C.L r).pc= .la then d else(C.γ r).other}:Gh Δ)=γ' at Rb;have g1:γ'.ro=(C.γ r).ro:=by rw[<-hγ]
 have g2:γ'.own=iU X (C.L r).pc (C.γ r).own:=by rw[<-hγ]
 have g3:γ'.mine=cm:=by rw[<-hγ]
 have g4:γ'.other=if(C.L r).pc= .la then d else(C.γ r).other:=by rw[<-hγ]
 have MG:(C.L r).pc= .us\/(C.L r).pc= .d4->x'.status= .running:=λhp=>by
  unfold After at Rb;split at Rb
  .obtain⟨qq,hqq⟩:=Rb
   exact ConcM.quitsD_running hqq
  .obtain⟨ρ',hl⟩:=Rb
   rw[aho] at hl;exact iW hl
 obtain⟨aw',haw⟩:=c.others (x:=x) (x':=x') hr (λr' _=>IW c.lay heff hsh r') (s':=q.2) λr' hne hsl=>(c.tab.wake hq hr hne hsl).imp id λh=>⟨hwake h,MG h⟩
 have hsz:((gs.map (woken P x x' w')).setIfInBounds (gid C.n0 r) x').size=gs.size:=by simp
 have hst:mI (C.L r).pc=true->r= .m:=λh=>by
  cases r with
  |m=>rfl
  |a=>have:=c.tab.wa;revert this h;cases (C.L .a).pc<;>simp[mI,iX]
  |b=>have:=c.tab.wb;revert this h;cases (C.L .b).pc<;>simp[mI,iX]
 have Jy:iX (C.L r).pc=true->r≠.m:=λh e=>by subst e;have:=c.tab.st;revert this h;cases (C.L .m).pc<;>simp[mI,iX]
 have hok:=I9 (n0:=C.n0) (RO:=OC X C.γ C.L) (own:=λr=>(C.γ r).own) (r:=r) c.lay hev (λ_ _=>trivial) (λh=>hst (by rcases h with h|h|h<;>rw[h]<;>rfl)) (fn:=x.frame.fn) (pos:=x.frame.place);have hdeaf:Deaf (t++MemOp.ofEvents (gid C.n0 r) x.frame.fn x.frame.place es) (gid C.n0 r)=fQ q.1.pc:=by
  rw[Deaf_own,c.deaf r hr,hdd];exact Qx hq hnb hev
 have ag6:=TI.app c.rY c.ap c.ti hr (Nat.le_refl _) (λop ho=>(hok op ho).1) (λhrm i z hi hz hm=> .inr (by
  rcases bT hz with⟨h,_⟩|⟨_,op,hop,_,hox⟩
  .omega
  .exact((hok op hop).2 z hox).resolve_right hrm))
 have acM:=lG htab;have Xu:=Lay.next c.lay c.tab hr hq acM g1 g2 (λh=>Jy (by rw[h];rfl));have acm:w'.heap.size=w.heap.size:=heff.size;have hM:w'.heap[X.M]? =w.heap[X.M]? :=heff.block _ c.lay.fm.symm c.lay.mw;have born':∀r',born (upd C.L r q.1) r'↔born C.L r':=λr'=>by
  by_cases e:r'=r
  .subst e;show(upd C.L r' q.1 r').pc≠.un↔_;rw[upd_same];exact⟨λ_=>hr,λ_=>u5⟩
  .show(upd C.L r q.1 r').pc≠.un↔_;rw[upd_ne _ _ e];exact Iff.rfl
 have nb':nb (upd C.L r q.1)=nb C.L:=by
  have ha:=born' .a;have hb:=born' .b;unfold nb;have e1:((upd C.L r q.1 .a).pc= .un)=((C.L .a).pc= .un):=propext ⟨λh=>Classical.byContradiction λh'=>ha.2 h' h,λh=>Classical.byContradiction λh'=>ha.1 h' h⟩;have e2:((upd C.L r q.1 .b).pc= .un)=((C.L .b).pc= .un):=propext ⟨λh=>Classical.byContradiction λh'=>hb.2 h' h,λh=>Classical.byContradiction λh'=>hb.1 h' h⟩
  simp only[e1,e2]
 have VT:∀r' l,OC X (upd C.γ r γ') (upd C.L r q.1) r' l->OC X C.γ C.L r' l:=λr' l h=>by
  refine⟨(born' r').1 h.1,?_⟩;have h2:=h.2
  by_cases e:r'=r
  .subst e;rw[upd_same,g1] at h2;exact h2
  .rw[upd_ne _ _ e] at h2;exact h2
 have hti:TI C.n0 (yC X S0) (OC X (upd C.γ r γ') (upd C.L r q.1)) (born (upd C.L r q.1)) (λr'=>(upd C.γ r γ' r').own) X.M (hold (upd C.L r q.1)) (mA X) (wA X) w'.heap.size (t++MemOp.ofEvents (gid C.n0 r) x.frame.fn x.frame.place es):=by
  rw[acm];have aiZ:∀r' b,grow (λr=>(C.γ r).own) w.heap.size w.heap.size r r' b->(C.γ r').own b:=λr' b h=>h.elim id λz=>by omega
  have Ff:=TI.mono ag6 (RO':=OC X C.γ C.L) (lv':=born C.L) (own':=λr=>(C.γ r).own) (λ_ _ h=>h) (λ_=>Iff.rfl) (λr' b h=> .inl h)
  by_cases hla:(C.L r).pc= .la
  ·
   have hrm:=Jy (by rw[hla];rfl);have hq1:=u1.2 hla;have he:es=#[qg (.acquire (mA X))]:=by simpa [EvStop,jf,hla] using hev
   have Mf:∀r',(C.L r').pc≠.ur:=λr' h=>by
    have hn:r'≠r:=λe=>by subst e;rw[hla] at h;cases h
    have hnm:r'≠.m:=λe=>by subst e;exact jo c.tab rfl h
    apply acM
    cases r with
    |m=>exact absurd rfl hrm
    |a=>cases r' with
     |m=>exact absurd rfl hnm
     |a=>exact absurd rfl hn
     |b=>exact⟨by rw[upd_same];exact hq1,by rw[upd_ne _ _ (by simp)];exact h⟩
    |b=>cases r' with
     |m=>exact absurd rfl hnm
     |a=>exact⟨by rw[upd_ne _ _ (by simp)];exact h,by rw[upd_same];exact hq1⟩
     |b=>exact absurd rfl hn
   have hh:hold C.L=none:=by unfold hold;rw[if_neg (Mf .a),if_neg (Mf .b)]
   have hh':hold (upd C.L r q.1)=some r:=by
    unfold hold;cases r with
    |m=>exact absurd rfl hrm
    |a=>rw[if_pos (by rw[upd_same];exact hq1)]
    |b=>rw[if_neg (by rw[upd_ne _ _ (by simp)];exact Mf .a),if_pos (by rw[upd_same];exact hq1)]
   have e1:MemOp.ofEvents (gid C.n0 r) x.frame.fn x.frame.place es=#[{g:=gid C.n0 r,fn:=x.frame.fn,pos:=x.frame.place,act:= .mark (.acquire (mA X))}]:=by rw[he,ofEvents_eq];simp[qg,MemAct.ofEvent]
   have hc:=c.ti;rw[hh] at hc Ff;rw[e1] at Ff⊢;have:=TI.acquire hc hr (z:={g:=gid C.n0 r,fn:=x.frame.fn,pos:=x.frame.place,act:= .mark (.acquire (mA X))}) rfl rfl (by rw[c.deaf r hr,hdd,hla];rfl) Ff;rw[hh'];refine TI.mono this VT born' (λr' b h=>?_)
   by_cases e:r'=r
   .subst e
    simp only[upd_same,g2,hla] at h;exact h.imp id λz=>⟨rfl,z⟩
   .simp only[upd_ne _ _ e] at h;exact .inl h
  by_cases hu:(C.L r).pc= .ur
  ·
   have hrm:=Jy (by rw[hu];rfl);have he:es=#[qg (.releaseMerge (mA X))]:=by simpa [EvStop,jf,hu] using hev
   have hh:hold C.L=some r:=by
    unfold hold;cases r with
    |m=>exact absurd rfl hrm
    |a=>rw[if_pos hu]
    |b=>rw[if_neg λe=>lG c.tab ⟨e,hu⟩,if_pos hu]
   have hh':hold (upd C.L r q.1)=none:=by
    unfold hold;have hq1:=u2 hu;cases r with
    |m=>exact absurd rfl hrm
    |a=>rw[if_neg (by rw[upd_same,hq1];simp),if_neg (by rw[upd_ne _ _ (by simp)];exactλe=>lG c.tab ⟨hu,e⟩)]
    |b=>rw[if_neg (by rw[upd_ne _ _ (by simp)];exactλe=>lG c.tab ⟨e,hu⟩),if_neg (by rw[upd_same,hq1];simp)]
   have e1:MemOp.ofEvents (gid C.n0 r) x.frame.fn x.frame.place es=#[{g:=gid C.n0 r,fn:=x.frame.fn,pos:=x.frame.place,act:= .mark (.releaseMerge (mA X))}]:=by rw[he,ofEvents_eq];simp[qg,MemAct.ofEvent]
   have hc:=c.ti;rw[hh] at hc Ff;rw[e1] at Ff⊢;have:=TI.release ((c.lay.vg r).2 hu) hc (y:={g:=gid C.n0 r,fn:=x.frame.fn,pos:=x.frame.place,act:= .mark (.releaseMerge (mA X))}) rfl rfl (by rw[c.deaf r hr,hdd,hu];rfl) Ff;rw[hh'];refine TI.mono this VT born' (λr' b h=>?_)
   by_cases e:r'=r
   .subst e
    simp only[upd_same,g2,hu] at h;exact h
   .simp only[upd_ne _ _ e] at h
    exact⟨h,λhb=>by subst hb;exact e (c.lay.apart _ _ _ h ((c.lay.vg r).2 hu))⟩
  .have hh':hold (upd C.L r q.1)=hold C.L:=by
    have e1:∀r',((upd C.L r q.1 r').pc= .ur)=((C.L r').pc= .ur):=λr'=>by
     by_cases e:r'=r
     .subst e;rw[upd_same];exact propext ⟨λh=>absurd (u1.1 h) hla,λh=>absurd h hu⟩
     .rw[upd_ne _ _ e]
    unfold hold;simp only[e1]
   rw[hh'];refine TI.mono Ff VT born' (λr' b h=>?_)
   by_cases e:r'=r
   .subst e
    simp only[upd_same,g2] at h;exact(qf h).resolve_right λz=>hla z.1
   .simp only[upd_ne _ _ e] at h;exact h
 have MF:∃ρ' aw0 qq,aw0<=1/\Sit X P Post k' r q.1 γ' ρ' aw0 (fQ q.1.pc) qq q.2 x' w'/\(q.1.pc≠.quit->True):=by
  unfold After at Rb;split at Rb
  .rename_i hqq
   obtain⟨qq,h⟩:=Rb;exact⟨.zero,0,qq,by omega,.inr (.inr ⟨hqq,rfl,by rw[hqq];exact h⟩),λ_=>trivial⟩
  .rename_i hqq
   obtain⟨ρ',h⟩:=Rb;exact⟨ρ',1,0,by omega,.inl ⟨hqq,rfl,rfl,h⟩,λ_=>trivial⟩
 obtain⟨ρ',aw0,qq,_,MF,_⟩:=MF
 let C':Cf Δ:={C with L:=upd C.L r q.1,γ:=upd C.γ r γ',k:=upd C.k r k',ρ:=upd C.ρ r ρ',aw:=upd aw' r aw0,ds:=upd C.ds r (fQ q.1.pc),q:=λj=>if j=gid C.n0 r then qq else C.q j,s:=q.2,r1:=r1',r2:=r2'}
 refine⟨_,_,C'.ms gs.size,hrun,.left _ _ nR,C',_,w',sl,rfl,rfl,?_,by rw[hsz]⟩;have MK:∀r',(C.L r).pc≠.ur->(upd C.γ r γ' r').mine=(C.γ r').mine:=λr' h=>by
  by_cases e:r'=r
  .subst e;rw[upd_same,g3];exact hcm h
  .rw[upd_ne _ _ e]
 have hoth:∀{r':bh},r'≠.m->r≠.m->r'≠r->L8 r=r':=fun {r'} h1 h2 h3=>by cases r<;>cases r'<;>simp_all [L8]
 refine⟨c.rY,by rw[hsz];show gs.size=C.n0+nb (upd C.L r q.1);rw[nb'];exact c.size,htab,λr' hr'=>?_,hsh,λr' hr'=>?_,λr' hr'=>?_,λi g h0 h1 hg=>?_,xY c hr hsz,λr' hr'=>?_,λh1 h2=>?_,λr' h=>?_,λr' h=>?_,λr' h=>?_,by rw[acm];exact Xu,hti⟩
 .have hb:=(born' r').1 hr'
  show nT (upd C.L r q.1) r1' r2'<upd C.k r k' r'
  by_cases e:r'=r
  .subst e;rw[upd_same];omega
  .rw[upd_ne _ _ e];have:=c.fuel r' hb;omega
 .have hb:=(born' r').1 hr'
  by_cases e:r'=r
  .subst e
   refine⟨x',ConcN.get_map_set_same _ _ _ (A8 c hr),?_⟩;simp only[C',upd_same,if_true];exact MF
  .obtain⟨g,h1,h2⟩:=haw r' e hb
   refine⟨g,h1,?_⟩;have e':gid C.n0 r'≠gid C.n0 r:=λh=>e (kq c.rY h)
   simp only[C',upd_ne _ _ e,if_neg e'];exact h2
 .have hb:¬born C.L r':=λh=>hr' ((born' r').2 h)
  have e:r'≠r:=λe=>hb (e▸hr)
  simp only[C',upd_ne _ _ e];exact c.SF r' hb
 .have e:i≠gid C.n0 r:=Ne.symm (vN c.rY h0 h1 r)
  have:=c.olds (r:=r) (x:=x) (x':=x') (w':=w') (fn:=x.frame.fn) (pos:=x.frame.place) (es:=es) i g h0 h1 hg;simp only[C',if_neg e];exact this
 .by_cases e:r'=r
  .subst e;simp only[C',upd_same];exact hdeaf
  .simp only[C',upd_ne _ _ e]
   exact uN c e ((born' r').1 hr')
 ·
  show ∃o,w'.heap[X.M]? =some o/\X.Dat (upd C.γ r γ' .a).mine (upd C.γ r γ' .b).mine o;rw[hM]
  by_cases hu:(C.L r).pc= .ur
  .have hrm:=Jy (by rw[hu];rfl)
   obtain⟨o,h3,h4⟩:=hur hu;refine⟨o,h3,?_⟩;have h5:=c.FE r hu;rw[h5] at h4;cases r with
   |m=>exact absurd rfl hrm
   |a=>rw[upd_same,upd_ne _ _ (by simp),g3];exact h4
   |b=>rw[upd_same,upd_ne _ _ (by simp),g3];exact h4
  .obtain⟨o,h3,h4⟩:=c.data (λe=>by
    by_cases er:r= .a
    .exact hu (er▸e)
    .exact h1 (by show(upd C.L r q.1 .a).pc= .ur;rw[upd_ne _ _ (Ne.symm er)];exact e)) (λe=>by
    by_cases er:r= .b
    .exact hu (er▸e)
    .exact h2 (by show(upd C.L r q.1 .b).pc= .ur;rw[upd_ne _ _ (Ne.symm er)];exact e))
   exact⟨o,h3,by rw[MK .a hu,MK .b hu];exact h4⟩
 ·
  have h:(upd C.L r q.1 r').pc= .ur:=h;show(upd C.γ r γ' r').other=(upd C.γ r γ' (L8 r')).mine
  by_cases e:r'=r
  .subst e
   rw[upd_same] at h;have hla:=u1.1 h;have hrm:=Jy (by rw[hla];rfl);have ho:L8 r'≠r':=by cases r'<;>simp[L8] at hrm⊢
   rw[upd_same,upd_ne _ _ ho,g4,if_pos hla];exact hd hla
  .rw[upd_ne _ _ e] at h⊢
   have hnu:(C.L r).pc≠.ur:=λhu=>by
    have n1:r'≠.m:=λz=>by subst z;exact jo c.tab rfl h
    have n2:=Jy (by rw[hu];rfl);cases r<;>cases r'<;>simp_all [lG c.tab]
    .exact lG c.tab ⟨hu,h⟩
    .exact lG c.tab ⟨h,hu⟩
   rw[MK _ hnu];exact c.FE r' h
 .have h:past (upd C.L r q.1 r').pc=true:=h
  show(upd C.γ r γ' r').mine=X.fin r'
  by_cases e:r'=r
  .subst e
   rw[upd_same] at h;rw[upd_same,g3];rcases u3 h with hp|⟨_,hp⟩
   .rw[hcm (λhu=>by rw[hu] at hp;cases hp)];exact c.fin r' hp
   .exact hfin hp
  .rw[upd_ne _ _ e] at h⊢;exact c.fin r' h
 .have h:past (upd C.L r q.1 r').pc=true:=h
  show ∃p,ConcN.RelBy (wA X) (t++MemOp.ofEvents (gid C.n0 r) x.frame.fn x.frame.place es) (gid C.n0 r') p
  by_cases e:r'=r
  .subst e
   rw[upd_same] at h;rcases u3 h with hp|⟨ho,hq1⟩
   .obtain⟨p,hp'⟩:=c.rel r' hp
    refine⟨p,ConcN.RelBy.appOwn hp' _ _ _ λj e he=>?_⟩;unfold EvStop at hev;have hcase:jf (C.L r') q.1= .dis\/jf (C.L r') q.1= .book:=by
     revert hp hnq
     cases hpc:(C.L r').pc<;>simp[past]<;>simp[jf,hpc]
    rcases hcase with hc|hc
    .rw[hc] at hev
     simp only at hev;subst hev;have:=Array.mem_of_getElem? he;simp at this;subst this;exact .inl rfl
    .rw[hc] at hev
     simp only at hev;have hd1:Deaf t (gid C.n0 r')=1:=by
      rw[c.deaf r' hr,hdd]
      revert hp hnq hc
      cases hpc:(C.L r').pc<;>simp[past]<;>simp[jf,hpc,fQ]
     rw[hd1];rcases hev.1.2.2 j e he with h5|h5
     .exact .inl h5
     .rcases hev.1.1 e (Array.mem_of_getElem? he) with h6|h6|⟨a,z,rfl,_⟩
      .exact .inl (by rw[dr h6];rfl)
      .exact .inl (by rw[dr h6];rfl)
      .exact .inr ⟨⟨a,z,rfl⟩,h5⟩
   .have he:es=#[ConcR.mk (.releaseMerge (wA X))]:=by
     have:es=#[qg (.releaseMerge (wA X))]:=by simpa [EvStop,jf,ho,hq1] using hev
     exact this
    subst he;exact⟨t.size,ConcN.RelBy.new (by rw[c.deaf r' hr,hdd,ho];rfl) _ _⟩
  .rw[upd_ne _ _ e] at h
   obtain⟨p,hp⟩:=c.rel r' h;exact⟨p,wU c e hp⟩
end
section
variable {L:bh->Lo}{s:Sh}{r1 r2:Nat}
theorem mD {T:Lo}:(pw T).pc= .un↔T.pc= .un:=by cases hp:T.pc<;>simp[pw,hp]
theorem AJ {T:Lo}:(pw T).pc= .quit↔T.pc= .quit:=by cases hp:T.pc<;>simp[pw,hp]
theorem vv.TJ (h:vv L s r1 r2):((L .a).pc= .un/\(L .b).pc= .un)\/((L .a).pc≠.un/\(L .b).pc= .un)\/((L .a).pc≠.un/\(L .b).pc≠.un):=by
 have FG:=h.QW.facts
 by_cases c1:(p0 (L .m)).pc= .x1\/(p0 (L .m)).pc= .g1
 .exact .inl ⟨mD.1 (FG.Z9 c1).1,mD.1 (FG.Z9 c1).2⟩
 by_cases c2:(p0 (L .m)).pc= .x2\/(p0 (L .m)).pc= .g2
 .exact .inr (.inl ⟨λe=>(FG.Z8 c2).1 (mD.2 e),mD.1 (FG.Z8 c2).2⟩)
 .have:=FG.on (by rintro(x|x|x|x);exact c1 (.inl x);exact c1 (.inr x);exact c2 (.inl x);exact c2 (.inr x))
  exact .inr (.inr ⟨λe=>this.1 (mD.2 e),λe=>this.2 (mD.2 e)⟩)
end
section
variable {Δ:Type}{X:Cx Δ}{P:Program}{Post:Gh Δ->Goroutine->World->Prop}{S0:Nat->Prop}{C:Cf Δ}{gs:Array Goroutine}{w w':World}{t:Trace}{sl:Option (Nat×Nat)}{r:bh}{x x' child:Goroutine}{es:Array Event}
theorem Core.at (c:Core X P Post S0 C gs w t)(d:Nat):Core X P Post S0 C gs (w.at d) t:=
 ⟨c.rY,c.size,c.tab,c.fuel,c.sh,λr hr=>by
  obtain⟨g,h1,h2⟩:=c.sit r hr;obtain⟨k',hk⟩:=c.kpos hr;rw[hk] at h2⊢;exact⟨g,h1,h2.rely (RX.at X _ _ w d)⟩,c.SF,c.old,c.above,c.deaf,c.data,c.FE,c.fin,c.rel,c.lay,c.ti⟩
theorem Core.who (c:Core X P Post S0 C gs w t){i:Nat}(hi:i<gs.size):(∃r,born C.L r/\i=gid C.n0 r)\/(0<i/\i<C.n0):=by
 rcases Nat.eq_zero_or_pos i with h0|h0
 .exact .inl ⟨.m,c.pd,h0⟩
 rcases Nat.lt_or_ge i C.n0 with h1|h1
 .exact .inr ⟨h0,h1⟩
 rw[c.size] at hi;unfold nb at hi;rcases c.tab.TJ with⟨ha,hb⟩|⟨ha,hb⟩|⟨ha,hb⟩
 .rw[if_pos ha,if_pos hb] at hi;omega
 .rw[if_neg ha,if_pos hb] at hi
  exact .inl ⟨.a,ha,by simp only[gid];omega⟩
 .rw[if_neg ha,if_neg hb] at hi
  rcases Nat.eq_or_lt_of_le h1 with h|h
  .exact .inl ⟨.a,ha,h.symm⟩
  .exact .inl ⟨.b,hb,by simp only[gid];omega⟩
theorem Core.awake (c:Core X P Post S0 C gs w t):∀g∈gs,awake g:=by
 intro g hg;obtain⟨i,hi,rfl⟩:=Array.mem_iff_getElem.1 hg;rcases c.who hi with⟨r,hr,rfl⟩|⟨h0,h1⟩
 .obtain⟨g,h2,h3⟩:=c.sit r hr
  obtain⟨k',hk⟩:=c.kpos hr;rw[hk] at h3;have:gs[gid C.n0 r]=g:=by simpa [Array.getElem?_eq_getElem hi] using h2
  rw[this];exact awake_of h3.status
 .exact awake_of ((c.old i _ h0 h1 (Array.getElem?_eq_getElem hi)).status.elim .inl λx=> .inr (.inr x))
theorem Core.Pt (c:Core X P Post S0 C gs w t):∃(i:Nat) (g:Goroutine),gs[i]? =some g/\g.status= .running:=by
 have FM:=c.tab.Zy.facts;have FG:=c.tab.QW.facts
 have one:∀r,born C.L r->(C.L r).pc≠.quit->(∃(i:Nat) (g:Goroutine),gs[i]? =some g/\g.status= .running)\/(C.L r).sleeps C.s=true:=λr hr hq=>by
  obtain⟨g,h1,h2⟩:=c.sit r hr;obtain⟨k',hk⟩:=c.kpos hr;rw[hk] at h2;rcases h2 with⟨_,_,_,h⟩|⟨_,_,_,h,_⟩|⟨h,_⟩
  .exact .inl ⟨_,g,h1,iW h⟩
  .exact .inr h
  .exact absurd h hq
 have wsl:∀r,r≠.m->(C.L r).sleeps C.s=true->(pm (C.L r)).waits C.s.ms=true:=λr hrm h=>by
  simp only[Lo.sleeps,Bool.or_eq_true,Bool.and_eq_true,beq_iff_eq] at h;rcases h with⟨h1,h2⟩|⟨h1,_⟩
  .simp[Lo.waits,pm,h1,h2]
  .exfalso
   cases r with
   |m=>exact hrm rfl
   |a=>have:=c.tab.wa;rw[h1] at this;cases this
   |b=>have:=c.tab.wb;rw[h1] at this;cases this
 have two:∀r r',r≠.m->r'≠.m->born C.L r->(C.L r).pc≠.quit->((pm (C.L r)).waits C.s.ms=true->(pm (C.L r')).waits C.s.ms=false/\(pm (C.L r')).pc≠.out)->∃(i:Nat) (g:Goroutine),gs[i]? =some g/\g.status= .running:=λr r' h1 h1' h2 h3 h4=>by
  rcases one r h2 h3 with h|h
  .exact h
  .obtain⟨h5,h6⟩:=h4 (wsl r h1 h)
   have hb:born C.L r':=λe=>h6 (by simp[pm,e])
   have hq:(C.L r').pc≠.quit:=λe=>h6 (by simp[pm,e])
   rcases one r' hb hq with h7|h7
   .exact h7
   .rw[wsl r' h1' h7] at h5;cases h5
 have hmq:(C.L .m).pc≠.quit:=jo c.tab rfl;rcases one .m c.pd hmq with h|h
 .exact h
 simp only[Lo.sleeps,Bool.or_eq_true,Bool.and_eq_true,beq_iff_eq] at h;rcases h with⟨h1,_⟩|⟨h1,h2⟩
 .exact absurd h1 (jo c.tab rfl)
 .have GP:∀T:Lo,live (pw T)=true->T.pc≠.un/\T.pc≠.quit:=λT h=>by
   simp only[live,Bool.and_eq_true,bne_iff_ne,ne_eq] at h;exact⟨λe=>h.1 (mD.2 e),λe=>h.2 (AJ.2 e)⟩
  rcases FG.sleep (by simp[p0,h1]) h2 with h3|h3
  .obtain⟨h4,h5⟩:=GP _ h3
   exact two .a .b (by simp) (by simp) h4 h5 FM.Uo
  .obtain⟨h4,h5⟩:=GP _ h3
   exact two .b .a (by simp) (by simp) h4 h5 FM.Un
theorem Uj (c:Core X P Post S0 C gs w t)(hx:gs[0]? =some x)(hg:(C.L .m).pc= .g1\/(C.L .m).pc= .g2){k':Nat}(hk:C.k .m=k'+1){cm:Δ}(hcm:cm=(C.γ .m).mine)
  (hl:OD X P (zo X P Post k') (C.L .m) {(C.γ .m) with mine:=cm} x w) (hdd:C.ds .m=0):
  ∃m₁ ops μ',runT P (crowd gs w sl) 0=(.next m₁,ops)/\TO μ' (C.ms gs.size)/\Bs X P Post S0 C.n0 μ' m₁ (t++ops):=by
 subst hcm;obtain⟨_,_,g',child,hs,hchild,hnext⟩:=hl;have hrun:=runT_crowd_spawn (P:=P) (sl:=sl) (i:=0) hx hs;obtain⟨hun,r2',htab,nR⟩:=c.tab.go (N:=X.N (eO (C.L .m).pc)) hg (c.SF _ (by
  intro hb;have:=c.tab.TJ;rcases hg with h|h
  .have FG:=c.tab.QW.facts
   have:=(FG.Z9 (.inr (by simp[p0,h]))).1;rw[h] at hb;exact hb (mD.1 this)
  .have FG:=c.tab.QW.facts
   have:=(FG.Z8 (.inr (by simp[p0,h]))).2;rw[h] at hb;exact hb (mD.1 this))).2
 have FG:=c.tab.QW.facts
 have JC:gid C.n0 (eO (C.L .m).pc)=gs.size:=by
  rw[c.size];unfold nb;rcases hg with h|h
  .have h1:=FG.Z9 (.inr (by simp[p0,h]))
   rw[if_pos (mD.1 h1.1),if_pos (mD.1 h1.2),h];rfl
  .have h1:=FG.Z8 (.inr (by simp[p0,h]))
   rw[if_neg (λe=>h1.1 (mD.2 e)),if_pos (mD.1 h1.2),h];rfl
 have hrm:eO (C.L .m).pc≠.m:=by rcases hg with h|h<;>rw[h]<;>simp[eO]
 have hbg:(gZ (C.L .m).pc).pc= .k2\/(gZ (C.L .m).pc).pc= .kw:=by rcases hg with h|h<;>rw[h]<;>simp[gZ]
 generalize hrc:eO (C.L .m).pc=rc at*;generalize hbh:gZ (C.L .m).pc=Tm at*;have hmute:eI Tm.pc=false:=by rcases hbg with h|h<;>rw[h]<;>rfl
 have Xy:fQ Tm.pc=0:=by rcases hbg with h|h<;>rw[h]<;>rfl
 have MR:Tm.pc≠.ur/\Tm.pc≠.un/\Tm.pc≠.quit/\past Tm.pc=false:=by rcases hbg with h|h<;>rw[h]<;>simp[past]
 have JI:0<gs.size:=(Array.getElem?_eq_some_iff.1 hx).1
 let L':bh->Lo:=upd (upd C.L .m Tm) rc (at_ .out (X.N rc))
 let γm:Gh Δ:=given (C.γ .m)
 let γ':bh->Gh Δ:=upd (upd C.γ .m γm) rc {γm with mine:=X.c0 rc}
 have Lm:L' .m=Tm:=by simp only[L'];rw[upd_ne _ _ (Ne.symm hrm),upd_same]
 have Lc:L' rc=at_ .out (X.N rc):=upd_same _ _ _;have TQ:∀r',r'≠.m->r'≠rc->L' r'=C.L r':=λr' h1 h2=>by simp only[L'];rw[upd_ne _ _ h2,upd_ne _ _ h1]
 have Gm:γ' .m=γm:=by simp only[γ'];rw[upd_ne _ _ (Ne.symm hrm),upd_same]
 have Gc:γ' rc={γm with mine:=X.c0 rc}:=upd_same _ _ _;have Zg:∀r',r'≠.m->r'≠rc->γ' r'=C.γ r':=λr' h1 h2=>by simp only[γ'];rw[upd_ne _ _ h2,upd_ne _ _ h1]
 have hnc:¬born C.L rc:=λh=>h hun
 have born':∀r',born L' r'↔born C.L r'\/r'=rc:=λr'=>by
  by_cases e2:r'=rc
  .subst e2
   refine⟨λ_=> .inr rfl,λ_=>?_⟩;show(L' r').pc≠.un;rw[Lc];simp
  .by_cases e1:r'= .m
   .subst e1
    refine⟨λ_=> .inl c.pd,λ_=>?_⟩;show(L' .m).pc≠.un;rw[Lm];exact MR.2.1
   .show(L' r').pc≠.un↔_
    rw[TQ r' e1 e2];exact⟨.inl,λh=>h.resolve_right e2⟩
 have nb':nb L'=nb C.L+1:=by
  unfold nb;cases rc with
  |m=>exact absurd rfl hrm
  |a=>
   have e:(at_ .out (X.N .a)).pc≠.un:=by simp
   simp only[Lc,TQ .b (by simp) (by simp),if_pos hun,if_neg e]<;>omega
  |b=>
   have e:(at_ .out (X.N .b)).pc≠.un:=by simp
   simp only[Lc,TQ .a (by simp) (by simp),if_pos hun,if_neg e]<;>omega
 have nL:∀r',(γ' r').mine=(C.γ r').mine:=λr'=>by
  by_cases e2:r'=rc
  .subst e2;rw[Gc];exact(c.SF r' hnc).1.symm
  .by_cases e1:r'= .m
   .subst e1;rw[Gm];rfl
   .rw[Zg r' e1 e2]
 have agE:¬(C.γ .m).own X.M:=λh=>jo c.tab rfl ((c.lay.vg .m).1 h)
 have own':∀r' b,(γ' r').own b->(C.γ r').own b/\r'≠.m/\r'≠rc:=λr' b h=>by
  by_cases e2:r'=rc
  .subst e2;rw[Gc] at h;exact h.elim
  .by_cases e1:r'= .m
   .subst e1;rw[Gm] at h;exact h.elim
   .rw[Zg r' e1 e2] at h;exact⟨h,e1,e2⟩
 have ro':∀r' b,(γ' r').ro b->((r'= .m\/r'=rc)/\((C.γ .m).ro b\/(C.γ .m).own b))\/(r'≠.m/\r'≠rc/\(C.γ r').ro b):=λr' b h=>by
  by_cases e2:r'=rc
  .subst e2;rw[Gc] at h;exact .inl ⟨.inr rfl,h⟩
  .by_cases e1:r'= .m
   .subst e1;rw[Gm] at h;exact .inl ⟨.inl rfl,h⟩
   .rw[Zg r' e1 e2] at h;exact .inr ⟨e1,e2,h⟩
 have Jz:∀r',(L' r').pc= .ur↔(C.L r').pc= .ur/\r'≠.m/\r'≠rc:=λr'=>by
  by_cases e2:r'=rc
  .subst e2;rw[Lc];simp
  .by_cases e1:r'= .m
   .subst e1;rw[Lm];exact⟨λh=>absurd h MR.1,λh=>absurd rfl h.2.1⟩
   .rw[TQ r' e1 e2];exact⟨λh=>⟨h,e1,e2⟩,λh=>h.1⟩
 have YS:∀r',(C.L r').pc= .ur->r'≠.m/\r'≠rc:=λr' h=>⟨λe=>by subst e;exact jo c.tab rfl h,λe=>by subst e;rw[hun] at h;cases h⟩
 have hold':hold L'=hold C.L:=by
  have e1:∀r',((L' r').pc= .ur)=((C.L r').pc= .ur):=λr'=>propext ⟨λh=>((Jz r').1 h).1,λh=>(Jz r').2 ⟨h,YS r' h⟩⟩
  unfold hold;simp only[e1]
 have Xu:Lay X S0 γ' L' w.heap.size:=by
  refine⟨λr' b h=>?_,λr' h=>?_,λr'=>?_,λr' r'' b h h'=>c.lay.apart _ _ b (own' _ _ h).1 (own' _ _ h').1,λr' r'' b h h'=>?_,λr' b h=>?_,c.lay.fm,c.lay.fw,c.lay.mw,c.lay.s0,c.lay.vl,c.lay.AX,c.lay.tI⟩
  .rcases h with h|h
   .exact c.lay.sp r' b (.inl (own' _ _ h).1)
   .rcases ro' _ _ h with⟨_,h|h⟩|⟨_,_,h⟩
    .exact c.lay.sp .m b (.inr h)
    .exact c.lay.sp .m b (.inl h)
    .exact c.lay.sp r' b (.inr h)
  .rcases ro' _ _ h with⟨_,h|h⟩|⟨_,_,h⟩
   .exact c.lay.Zs _ h
   .exact agE h
   .exact c.lay.Zs _ h
  .rw[Jz]
   constructor
   .intro h;exact⟨(c.lay.vg r').1 (own' _ _ h).1,(own' _ _ h).2⟩
   .intro⟨h,h1,h2⟩;rw[Zg r' h1 h2];exact(c.lay.vg r').2 h
  .obtain⟨h1,h2,h3⟩:=own' _ _ h
   rcases ro' _ _ h' with⟨_,h4|h4⟩|⟨_,_,h4⟩
   .exact c.lay.zM _ _ b h1 h4
   .exact h2 (c.lay.apart _ _ b h1 h4)
   .exact c.lay.zM _ _ b h1 h4
  .refine(born' r').2 ?_
   rcases h with h|h
   .exact .inl (c.lay.lv r' b (.inl (own' _ _ h).1))
   .rcases ro' _ _ h with⟨e,_⟩|⟨_,_,h⟩
    .rcases e with e|e
     .exact .inl (e▸c.pd)
     .exact .inr e
    .exact .inl (c.lay.lv r' b (.inr h))
 have hops:((MemOp.ofEvents 0 x.frame.fn x.frame.place #[]).push {g:=0,fn:=x.frame.fn,pos:=x.frame.place,act:= .go gs.size}).push {g:=gs.size,fn:=child.frame.fn,pos:=x.frame.place,act:= .start}=
   #[({g:=0,fn:=x.frame.fn,pos:=x.frame.place,act:= .go gs.size}:MemOp),{g:=gs.size,fn:=child.frame.fn,pos:=x.frame.place,act:= .start}]:=by rw[ofEvents_none];rfl
 rw[hops] at hrun;have still:∀op∈(#[({g:=0,fn:=x.frame.fn,pos:=x.frame.place,act:= .go gs.size}:MemOp),{g:=gs.size,fn:=child.frame.fn,pos:=x.frame.place,act:= .start}]:Trace),op.act≠.mark .disable/\op.act≠.mark .enable:=by
  intro op ho;simp at ho;rcases ho with rfl|rfl<;>simp
 have hti:=TI.fork c.pd hrm c.ti (x:={g:=0,fn:=x.frame.fn,pos:=x.frame.place,act:= .go gs.size}) (y:={g:=gs.size,fn:=child.frame.fn,pos:=x.frame.place,act:= .start}) ⟨rfl,by rw[JC]⟩ ⟨JC.symm,rfl⟩
  (by have:=c.deaf .m c.pd;rw[hdd] at this;exact this) (by rw[JC];exact c.above _ (Nat.le_refl _)) c.rY (λi g hgi e=>by
   subst e;have hge:C.n0<=gid C.n0 rc:=by cases rc<;>simp[gid] at hrm⊢
   obtain⟨r',h1,h2,h3⟩:=c.ti.ids i _ hgi hge;exact hnc (kq c.rY h3▸h2))
 obtain⟨ρc,ag2⟩:=hchild (nT L' C.r1 r2'+1);obtain⟨ρm,ag1⟩:=hnext;have hkm:=c.fuel .m c.pd
 let C':Cf Δ:={C with L:=L',γ:=γ',k:=upd (upd C.k .m k') rc (nT L' C.r1 r2'+1),ρ:=upd (upd C.ρ .m ρm) rc ρc,aw:=upd (upd C.aw .m 1) rc 1,ds:=upd C.ds rc 0,r2:=r2'}
 have hsz:((gs.setIfInBounds 0 g').push child).size=gs.size+1:=by simp
 have Z7:∀{α:Type} (f:bh->α) (u v:α) (r':bh),r'≠.m->r'≠rc->upd (upd f .m u) rc v r'=f r':=λf u v r' h1 h2=>by rw[upd_ne _ _ h2,upd_ne _ _ h1]
 have SE:∀{α:Type} (f:bh->α) (u v:α),upd (upd f .m u) rc v .m=u:=λf u v=>by rw[upd_ne _ _ (Ne.symm hrm),upd_same]
 have ahK:((gs.setIfInBounds 0 g').push child)[0]? =some g':=by rw[Array.getElem?_push_lt (by simpa using JI)];simp[JI]
 have ahJ:((gs.setIfInBounds 0 g').push child)[gs.size]? =some child:=by
  have:gs.size=(gs.setIfInBounds 0 g').size:=by simp
  rw[this];exact Array.getElem?_push_size
 have ac8:∀i,i≠0->i≠gs.size->((gs.setIfInBounds 0 g').push child)[i]? =gs[i]? :=λi h1 h2=>by
  rw[Array.getElem?_push];rw[if_neg (by simpa using h2),Array.getElem?_setIfInBounds_ne (Ne.symm h1)]
 have acz:nT L' C.r1 r2'<nT C.L C.r1 C.r2:=nR;refine⟨_,_,C'.ms (gs.size+1),hrun,.left _ _ acz,C',_,w,sl,rfl,rfl,?_,by rw[hsz]⟩;refine⟨c.rY,by rw[hsz,c.size];show C.n0+nb C.L+1=C.n0+nb L';rw[nb'];omega,htab,λr' hr'=>?_,c.sh,λr' hr'=>?_,λr' hr'=>?_,λi g h0 h1 hgi=>?_,λj hj=>?_,λr' hr'=>?_,λh1 h2=>?_,λr' h=>?_,λr' h=>?_,λr' h=>?_,Xu,?_⟩
 .show nT L' C.r1 r2'<upd (upd C.k .m k') rc (nT L' C.r1 r2'+1) r'
  by_cases e2:r'=rc
  .subst e2;rw[upd_same];omega
  .by_cases e1:r'= .m
   .subst e1;rw[SE];omega
   .rw[Z7 _ _ _ _ e1 e2]
    have:=c.fuel r' (((born' r').1 hr').resolve_right e2);omega
 .by_cases e2:r'=rc
  .subst e2
   refine⟨child,by show _[gid C.n0 r']? =_;rw[JC];exact ahJ,.inl ?_⟩;simp only[C',upd_same,Lc,Gc];refine⟨by simp,rfl,trivial,?_⟩;have hAt:AtR X P Post (nT L' C.r1 r2'+1) r'=Hy X P (nT L' C.r1 r2'+1) r':=by cases r'<;>first|rfl|exact absurd rfl hrm
   have hM:vn r'=false:=by cases r'<;>first|rfl|exact absurd rfl hrm
   rw[hAt,hM];exact ag2
  .by_cases e1:r'= .m
   .subst e1
    refine⟨g',ahK,.inl ?_⟩;simp only[C',SE,Lm,Gm,upd_ne _ _ (Ne.symm hrm)];refine⟨MR.2.2.1,by rw[Xy];exact hdd,trivial,?_⟩;rw[hmute];exact ag1
   .obtain⟨g,h1,h2⟩:=c.sit r' (((born' r').1 hr').resolve_right e2)
    have hne0:gid C.n0 r'≠0:=G8 c.rY e1;have ahi:gid C.n0 r'≠gs.size:=λh=>e2 (kq c.rY (h.trans JC.symm))
    refine⟨g,by rw[ac8 _ hne0 ahi];exact h1,?_⟩;simp only[C',Z7 _ _ _ _ e1 e2,TQ r' e1 e2,Zg r' e1 e2,upd_ne _ _ e2];exact h2
 .have hb:¬born C.L r':=λh=>hr' ((born' r').2 (.inl h))
  have e2:r'≠rc:=λe=>hr' ((born' r').2 (.inr e))
  have e1:r'≠.m:=λe=>hb (e▸c.pd)
  simp only[C',TQ r' e1 e2,Zg r' e1 e2];exact c.SF r' hb
 .have hlt:i<gs.size:=by rw[c.size];have:i<C.n0:=h1;omega
  rw[ac8 i (by omega) (by omega)] at hgi;rw[ConcN.Deaf_still _ _ _ still];exact c.old i g h0 h1 hgi
 .rw[ConcN.Deaf_still _ _ _ still]
  exact c.above j (by omega)
 .rw[ConcN.Deaf_still _ _ _ still]
  show Deaf t (gid C.n0 r')=upd C.ds rc 0 r'
  by_cases e2:r'=rc
  .subst e2;rw[upd_same,JC];exact c.above _ (Nat.le_refl _)
  .rw[upd_ne _ _ e2];exact c.deaf r' (((born' r').1 hr').resolve_right e2)
 .show ∃o,w.heap[X.M]? =some o/\X.Dat (γ' .a).mine (γ' .b).mine o
  rw[nL,nL];exact c.data (λh=>h1 ((Jz .a).2 ⟨h,YS _ h⟩)) (λh=>h2 ((Jz .b).2 ⟨h,YS _ h⟩))
 .obtain⟨h1,h2,h3⟩:=(Jz r').1 h
  show(γ' r').other=(γ' (L8 r')).mine;rw[nL,Zg r' h2 h3];exact c.FE r' h1
 .have h:past (L' r').pc=true:=h
  have e2:r'≠rc:=λe=>by rw[e,Lc] at h;cases h
  have e1:r'≠.m:=λe=>by rw[e,Lm,MR.2.2.2] at h;cases h
  rw[TQ r' e1 e2] at h;show(γ' r').mine=_;rw[nL];exact c.fin r' h
 .have h:past (L' r').pc=true:=h
  have e2:r'≠rc:=λe=>by rw[e,Lc] at h;cases h
  have e1:r'≠.m:=λe=>by rw[e,Lm,MR.2.2.2] at h;cases h
  rw[TQ r' e1 e2] at h;obtain⟨p,hp⟩:=c.rel r' h;refine⟨p,hp.app λi hi hgi hc=>?_⟩;obtain⟨z,hz,_⟩:=hc;rcases bT hz with⟨h5,_⟩|⟨_,op,hop,_,hox⟩
  .omega
  .simp at hop
   rcases hop with rfl|rfl<;>cases hox
 .show TI C.n0 (yC X S0) (OC X γ' L') (born L') (λr=>(γ' r).own) X.M (hold L') (mA X) (wA X) w.heap.size _
  rw[hold'];refine TI.mono hti (λr' l h=>?_) born' own'
  by_cases e:r'= .m\/r'=rc
  .rw[if_pos e]
   rcases h.2 with⟨b,hb,hin⟩|hcell
   .rcases ro' _ _ hb with⟨_,h5|h5⟩|⟨h6,h7,_⟩
    .exact .inl ⟨c.pd,.inl ⟨b,h5,hin⟩⟩
    .exact .inr ⟨b,h5,hin⟩
    .exact absurd e (λz=>z.elim h6 h7)
   .exact .inl ⟨c.pd,.inr hcell⟩
  .rw[if_neg e]
   refine⟨((born' r').1 h.1).resolve_right λz=>e (.inr z),?_⟩;rcases h.2 with⟨b,hb,hin⟩|hcell
   .rcases ro' _ _ hb with⟨h5,_⟩|⟨_,_,h5⟩
    .exact absurd h5 e
    .exact .inl ⟨b,h5,hin⟩
   .exact .inr hcell
structure Joined (X:Cx Δ)(P:Program)(Post:Gh Δ->Goroutine->World->Prop)(S0:Nat->Prop)(n0:Nat)(gs:Array Goroutine)(w:World)(t:Trace):Prop where
 size:gs.size=n0+2
 post:∃g γ,gs[0]? =some g/\Post γ g w
 agM:∃q,Leavers P t gs q
 past:Past (yC X S0) w.heap.size t
 ids:∀op∈t,op.g<n0+2
theorem Uk (c:Core X P Post S0 C gs w t)(hx:gs[0]? =some x)(hg:(C.L .m).pc= .aq)(hdd:C.ds .m=0){γ:Gh Δ}(hl:TR X P Post γ x w):
  ∃gs' ops,runT P (crowd gs w sl) 0=(.next (crowd gs' w sl),ops)/\Joined X P Post S0 C.n0 gs' w (t++ops):=by
 have FG:=c.tab.QW.facts;have hq:=FG.fin (by simp[p0,hg]);have ha:=AJ.1 hq.1;have hb:=AJ.1 hq.2;obtain⟨o,h1,h2⟩:=c.data (by rw[ha];simp) (by rw[hb];simp);rw[c.fin .a (by rw[ha];rfl),c.fin .b (by rw[hb];rfl)] at h2;obtain⟨_,_,hl⟩:=hl;obtain⟨g',hs,hpost⟩:=hl o h1 h2;have hrun:=runT_crowd_go (P:=P) (sl:=sl) (i:=0) hx (by simpa using hs)
 have JI:0<gs.size:=(Array.getElem?_eq_some_iff.1 hx).1;have acn:∀r,r≠.m->born C.L r->(C.L r).pc= .quit/\r≠.m:=λr h _=>by cases r<;>first|exact absurd rfl h|exact⟨ha,h⟩|exact⟨hb,h⟩
 have e1:MemOp.ofEvents 0 x.frame.fn x.frame.place #[qg (.acquire (wA X))]=#[{g:=0,fn:=x.frame.fn,pos:=x.frame.place,act:= .mark (.acquire (wA X))}]:=by rw[ofEvents_eq];simp[qg,MemAct.ofEvent]
 have hsz:((gs.map (woken P x g' w)).setIfInBounds 0 g').size=gs.size:=by simp
 have hd0:Deaf t 0=0:=by have:=c.deaf .m c.pd;rw[hdd] at this;exact this
 refine⟨_,_,hrun,⟨?_,⟨g',γ,by simp[JI],hpost⟩,⟨C.q,λi g hi0 hgi=>?_,λj hj=>?_⟩,?_,λop hop=>?_⟩⟩
 .rw[hsz,c.size]
  unfold nb;rw[if_neg (by rw[ha];simp),if_neg (by rw[hb];simp)]
 .rw[ConcN.get_map_set _ _ _ _ (by omega)] at hgi
  obtain⟨y,hy,rfl⟩:=Option.map_eq_some_iff.1 hgi;have hlt:i<gs.size:=(Array.getElem?_eq_some_iff.1 hy).1;have hQ:QuitsD P (C.q i) (Deaf t i) y:=by
   rcases c.who hlt with⟨r,hr,rfl⟩|⟨h3,h4⟩
   .have hrm:r≠.m:=λe=>by subst e;exact absurd rfl (Nat.ne_of_gt hi0)
    obtain⟨g,h5,h6⟩:=c.sit r hr;rw[hy] at h5;obtain rfl:=Option.some.inj h5;have hqp:=(acn r hrm hr).1;rw[c.deaf r hr];rcases h6 with⟨h7,_⟩|⟨h7,_⟩|⟨_,_,h7⟩
    .exact absurd hqp h7
    .exact absurd hqp h7
    .exact h7
   .exact c.old i y h3 h4 hy
  rw[woken_quitsD hQ,Deaf_other t (g':=0) (by omega) _ ux];exact hQ
 .rw[hsz] at hj
  rw[Deaf_other t (g':=0) (by omega) _ ux];exact c.above j hj
 .rw[e1]
  exact TI.join c.rY c.ti rfl rfl hd0 c.lay.tI λr hr hb'=>c.rel r (by rw[(acn r hr hb').1];rfl)
 .have rY:=c.rY
  rcases Array.mem_append.1 hop with hop|hop
  .rcases Nat.lt_or_ge op.g C.n0 with h|h
   .omega
   .obtain⟨i,hi⟩:=Array.mem_iff_getElem?.1 hop
    obtain⟨r,_,_,e⟩:=c.ti.ids i op.g (by simp[Trace.g?,hi]) h;rw[e];cases r<;>simp[gid]
  .have:=ux op hop
   omega
theorem K3 (c:Core X P Post S0 C gs w t):
  (∃m' ops μ',stepT P (crowd gs w sl)=(.next m',ops)/\TO μ' (C.ms gs.size)/\Bs X P Post S0 C.n0 μ' m' (t++ops))\/
  ∃gs' w' sl' ops,stepT P (crowd gs w sl)=(.next (crowd gs' w' sl'),ops)/\Joined X P Post S0 C.n0 gs' w' (t++ops):=by
 obtain⟨i,g,d,sl',hi,hg,hst⟩:=crowd_pick (P:=P) (w:=w) (sl:=sl) c.awake c.Pt;rw[hst];have c:=c.at d;generalize w.at d=w at c;have hlt:i<gs.size:=(Array.getElem?_eq_some_iff.1 hi).1;rcases c.who hlt with⟨r,hr,rfl⟩|⟨h0,h1⟩
 .obtain⟨g',hg1,hs⟩:=c.sit r hr
  rw[hi] at hg1;obtain rfl:=Option.some.inj hg1;obtain⟨k',hk⟩:=c.kpos hr
  have Oq:C.aw r=1->(C.L r).pc≠.quit->C.ds r=fQ (C.L r).pc->(∀w₁,RX X (C.γ r).ro (C.γ r).own w w₁->dM (AtR X P Post (C.k r) r) (C.L r) (C.γ r) (C.γ r).own g w₁)->
    (∃m' ops μ',runT P (crowd gs w sl') (gid C.n0 r)=(.next m',ops)/\TO μ' (C.ms gs.size)/\Bs X P Post S0 C.n0 μ' m' (t++ops))\/
    ∃gs' w' sl'' ops,runT P (crowd gs w sl') (gid C.n0 r)=(.next (crowd gs' w' sl''),ops)/\Joined X P Post S0 C.n0 gs' w' (t++ops):=λhaw hnq hdd hstop=>by
   obtain⟨cm,hcm,hat⟩:=hstop w (RX.refl X _ _ w);rw[hk] at hat;have acp:mI (C.L r).pc=true->r= .m:=λh=>by
    cases r with
    |m=>rfl
    |a=>have:=c.tab.wa;revert this h;cases (C.L .a).pc<;>simp[mI,iX]
    |b=>have:=c.tab.wb;revert this h;cases (C.L .b).pc<;>simp[mI,iX]
   by_cases hgo:(C.L r).pc= .g1\/(C.L r).pc= .g2
   .obtain rfl:=acp (by rcases hgo with h|h<;>rw[h]<;>rfl)
    have hat':zo X P Post (k'+1) (C.L .m) _ g w:=hat;unfold zo at hat';rw[if_pos hgo] at hat';exact .inl (Uj c hi hgo hk (hcm (by rcases hgo with h|h<;>rw[h]<;>simp)) hat' (by rw[hdd];rcases hgo with h|h<;>rw[h]<;>rfl))
   by_cases haq:(C.L r).pc= .aq
   .obtain rfl:=acp (by rw[haq];rfl)
    have hat':zo X P Post (k'+1) (C.L .m) _ g w:=hat;unfold zo at hat';rw[if_neg hgo,if_pos haq] at hat';obtain⟨gs',ops,e1,e2⟩:=Uk (sl:=sl') c hi haq (by rw[hdd,haq];rfl) hat';exact .inr ⟨gs',w,sl',ops,e1,e2⟩
   obtain⟨l1,l2,l3,l4,l5⟩:=hat.law hgo haq;obtain⟨l6,l7⟩:=l5 C.s c.sh c.tab.fits;have hty:mI (C.L r).pc=true\/iX (C.L r).pc=true:=by
    cases r with
    |m=>exact .inl c.tab.st
    |a=>exact .inr c.tab.wa
    |b=>exact .inr c.tab.wb
   by_cases hmv:mv (C.L r) C.s=[]
   .exact .inl (stepBlock c hr hi hnq hdd haw hstop (mv_nil hty hgo haq hr hnq hmv) (l6 hmv))
   .have hla:(C.L r).pc= .la->∃o,w.heap[X.M]? =some o/\Bt X r cm (C.γ (L8 r)).mine o:=λhla=>by
     have hrm:r≠.m:=λe=>by subst e;exact jo c.tab rfl hla
     have hp:(pm (C.L r)).pc= .u0:=by simp[pm,hla]
     have hnu:∀r',(C.L r').pc≠.ur:=λr' hu=>by
      have hn:r'≠r:=λe=>by subst e;rw[hla] at hu;cases hu
      have hnm:r'≠.m:=λe=>by subst e;exact jo c.tab rfl hu
      have hp':(pm (C.L r')).pc= .u0:=by simp[pm,hu]
      have FM:=c.tab.Zy.facts;cases r<;>cases r'<;>simp at hrm hn hnm
      .exact FM.excl ⟨hp,hp'⟩
      .exact FM.excl ⟨hp',hp⟩
     obtain⟨o,h1,h2⟩:=c.data (hnu .a) (hnu .b);have e:=hcm (by rw[hla];simp);refine⟨o,h1,?_⟩;rw[e];cases r with
     |m=>exact absurd rfl hrm
     |a=>exact h2
     |b=>exact h2
    obtain⟨q,hq,hrest⟩:=l7 (C.γ (L8 r)).mine hla hmv;have hnb:=(c.tab.move hq hr).1;obtain⟨hfin,x',w',es,m1,m2,m3,m4,m5⟩:=hrest hnb;exact .inl (stepMove c hr hi hnq hdd hq hk hcm (λhu=>l4 hu) l3 hfin m1 m2 m3 m4 (d:=(C.γ (L8 r)).mine) (λ_=>rfl) m5)
  rcases hs with⟨h1,h2,h3,hl⟩|⟨_,_,_,_,g₀,e,_⟩|⟨h1,h2,hq⟩
  .cases hρ:C.ρ r with
   |zero=>
    rw[hρ] at hl;exact Oq h3 h1 h2 hl
   |mk f=>
    rw[hρ] at hl;rcases hl with hl|⟨_,hl⟩
    .exact Oq h3 h1 h2 hl
    .obtain⟨x',w',es,m1,m2,m3⟩:=hl w (RX.refl X _ _ w)
     exact .inl (K4 c hr hi hρ h1 h2 m1 m2 m3)
  .subst e;cases hg
  .by_cases hrm:r= .m
   .subst hrm;exact absurd h1 (jo c.tab rfl)
   .refine .inl (zA c (G8 c.rY hrm) hi hg (.inr ⟨r,hr,hrm,rfl,h1⟩) ?_)
    rw[c.deaf r hr];exact hq
 .exact .inl (zA c (by omega) hi hg (.inl h1) (c.old i g h0 h1 hi))
theorem In {n0:Nat}:∀μ m t,Bs X P Post S0 n0 μ m t->∃N gs' w' sl' t',runNT P N m t=(.next (crowd gs' w' sl'),t')/\Joined X P Post S0 n0 gs' w' t':=by
 intro μ
 induction μ using WF.induction with
 |_ μ ih=>
  rintro m t ⟨C,gs,w,sl,rfl,rfl,hc,rfl⟩;rcases K3 (sl:=sl) hc with⟨m',ops,μ',h1,h2,h3⟩|⟨gs',w',sl',ops,h1,h2⟩
  .obtain⟨N,gs',w',sl',t',h4,h5⟩:=ih μ' h2 m' _ h3
   exact⟨N+1,gs',w',sl',t',by simp only[runNT,h1];exact h4,h5⟩
  .exact⟨1,gs',w',sl',_,by simp only[runNT,h1],h2⟩
end
end aF
end
section
open Go.Conc
open Go.ConcM (OsLater)
namespace aF
section
variable {Δ:Type}{X:Cx Δ}{P:Program}{r:bh}{k:Nat}{T T':Lo}{γ:Gh Δ}{own:Nat->Prop}{g g':Goroutine}{w w':World}{es:Array Event}
theorem jO (deaf:Bool)(ro:Nat->Prop):Idle (eY X deaf ro):=λown w=>
 ⟨⟨rfl,rfl,Nat.le_refl _,.refl _,λ_ _ _=>rfl,by simp,λ_=>rfl⟩,by funext b;show(own b\/(w.heap.size<=b/\b<w.heap.size))=own b;exact propext ⟨λh=>h.elim id λz=>by omega,.inl⟩⟩
theorem aC {deaf:Bool}{ro:Nat->Prop}{Stop:(Nat->Prop)->Goroutine->World->Prop}{main:Bool}(h:av P main g g')(k:aD P main (eY X deaf ro) Stop own g' w):aD P main (eY X deaf ro) Stop own g w:=j0 (jO deaf ro) h k
theorem aV {x:FuncId×Array Value}(h:aG g=some x):g.status= .running/\g.offers=none:=by
 obtain⟨f,args⟩:=x;obtain⟨b,a,ops,i,rest,kk,cs,o,ae,ats,rfl,_⟩:=cR h;exact⟨rfl,rfl⟩
theorem cT {v:kd}(h:aS g=some v):g.status= .running/\g.offers=none:=by
 obtain⟨b,a,ops,i,rest,kk,cs,o,rfl,_⟩:=mN h;exact⟨rfl,rfl⟩
theorem oV {x:FuncId×Array Value}(h:ie g=some x):g.status= .running/\g.offers=none:=by
 obtain⟨f,args⟩:=x;obtain⟨b,a,todo,ds,cs,rfl,_⟩:=sJ h;exact⟨rfl,rfl⟩
theorem Mv {main deaf:Bool}{Nx:Nat->Lo->Gh Δ->Goroutine->World->Prop}(h0:∀T γ g w,Nx 0 T γ g w)(h:∀k' w₁,k=k'+1->RX X γ.ro own w w₁->Nx (k'+1) T {γ with own:=own} g w₁):
  aD P main (eY X deaf γ.ro) (dM (Nx k) T γ) own g w:=by
 cases k with
 |zero=>exact aD.stop λw₁ hr=>⟨γ.mine,λ_=>rfl,h0 _ _ _ _⟩
 |succ k=>exact aD.stop λw₁ hr=>⟨γ.mine,λ_=>rfl,h k w₁ rfl hr⟩
theorem ShAt.YZ {s:Sh}(h:ShAt X w s):w.cell? (mA X)=some (.int .i32 s.mu):=by simp[World.cell?,mA,h.1]
theorem ShAt.cMs {s:Sh}(h:ShAt X w s):w.cell? (msA X)=some (.int .u32 s.ms):=by simp[World.cell?,msA,h.1]
theorem ShAt.Ke {s:Sh}(h:ShAt X w s):w.cell? (wA X)=some (.int .u64 s.wg):=by simp[World.cell?,wA,h.2]
theorem ShAt.ZQ {s:Sh}(h:ShAt X w s):w.cell? (Kw X)=some (.int .u32 s.ws):=by simp[World.cell?,Kw,h.2]
theorem ShAt.thF {s:Sh}(h:ShAt X w s)(o:Nat):w.frozen? ⟨X.Fd,o,none⟩=false:=by simp[World.frozen?,h.1]
theorem ShAt.OL {s:Sh}(h:ShAt X w s)(o:Nat):w.frozen? ⟨X.Wg,o,none⟩=false:=by simp[World.frozen?,h.2]
theorem ShAt.setMu {s:Sh}(hne:X.Fd≠X.Wg)(h:ShAt X w s)(v:Int):ShAt X (w.setCell (mA X) (.int .i32 v)) {s with mu:=v}:=
 ⟨by rw[mA,setCell_eq_setRow w X.Fd 0 _ X.tF (0,0) _ h.1,setRow_heap w X.Fd _ _ X.tF _ h.1];simp,((aside_setCell w (mA X) _).block X.Wg hne.symm).trans h.2⟩
theorem ShAt.setMs {s:Sh}(hne:X.Fd≠X.Wg)(h:ShAt X w s)(v:Int):ShAt X (w.setCell (msA X) (.int .u32 v)) {s with ms:=v}:=
 ⟨by rw[msA,setCell_eq_setRow w X.Fd 1 _ X.tF (0,0) _ h.1,setRow_heap w X.Fd _ _ X.tF _ h.1];simp,((aside_setCell w (msA X) _).block X.Wg hne.symm).trans h.2⟩
theorem ShAt.setWg {s:Sh}(hne:X.Fd≠X.Wg)(h:ShAt X w s)(v:Int):ShAt X (w.setCell (wA X) (.int .u64 v)) {s with wg:=v}:=
 ⟨((aside_setCell w (wA X) _).block X.Fd hne).trans h.1,by rw[wA,setCell_eq_setRow w X.Wg 0 _ X.tW (0,0) _ h.2,setRow_heap w X.Wg _ _ X.tW _ h.2];simp⟩
theorem ShAt.setWs {s:Sh}(hne:X.Fd≠X.Wg)(h:ShAt X w s)(v:Int):ShAt X (w.setCell (Kw X) (.int .u32 v)) {s with ws:=v}:=
 ⟨((aside_setCell w (Kw X) _).block X.Fd hne).trans h.1,by rw[Kw,setCell_eq_setRow w X.Wg 1 _ X.tW (0,0) _ h.2,setRow_heap w X.Wg _ _ X.tW _ h.2];simp⟩
def mi (X:Cx Δ)(a:Addr):Prop:=(a.block=X.Fd/\a.off≠2)\/(a.block=X.Wg/\X.Wg≠X.Fd)
theorem vR {a:Addr}(ha:mi X a)(hb:ConcM.BookOK X.Fd X.Wg 1 1 es)(hes:∀e∈es,∀b:Addr,e.loc= .cell b->b=a)(hT:jf T T'= .book):EvStop X T T' es:=by
 unfold EvStop;rw[hT];exact⟨hb,λe he b h1 h2=>by
  obtain rfl:=hes e he b h1;rcases ha with ha|ha
  .exact ha.2
  .exact absurd (ha.1.symm.trans h2) ha.2⟩
theorem pP {a:Addr}(ha:mi X a):a.block=X.Fd\/a.block=X.Wg:=ha.imp (·.1) (·.1)
theorem xR (hT:jf T T'= .book):EvStop X T T' #[]:=by unfold EvStop;rw[hT];exact⟨ConcM.book_nil 1,by simp⟩
theorem oT {a:Addr}(ha:mi X a)(hT:jf T T'= .book):EvStop X T T' #[⟨.cell a,false,true⟩,⟨.cell a,true,true⟩]:=
 vR ha (ConcM.book_rw 0 a (pP ha)) (λe he b hb=>by simp at he;rcases he with rfl|rfl<;>cases hb<;>rfl) hT
theorem Dx {a:Addr}(ha:mi X a)(hT:jf T T'= .book):EvStop X T T' #[⟨.cell a,false,true⟩]:=
 vR ha (ConcM.book_one 0 a false (pP ha)) (λe he b hb=>by simp at he;subst he;cases hb;rfl) hT
theorem aia {a:Addr}(ha:mi X a)(hT:jf T T'= .book):EvStop X T T' #[⟨.cell a,true,true⟩]:=
 vR ha (ConcM.book_one 0 a true (pP ha)) (λe he b hb=>by simp at he;subst he;cases hb;rfl) hT
theorem Be {a:Addr}(ha:mi X a)(hT:jf T T'= .book):EvStop X T T' (semEvents a):=
 vR ha (ConcM.book_sem 0 a (pP ha)) (λe he b hb=>by simp[semEvents] at he;rcases he with rfl|rfl|rfl|rfl<;>cases hb<;>rfl) hT
theorem okM:mi X (mA X):= .inl ⟨rfl,by simp[mA]⟩
theorem abH:mi X (msA X):= .inl ⟨rfl,by simp[msA]⟩
theorem okW (h:X.Fd≠X.Wg):mi X (wA X):= .inr ⟨rfl,h.symm⟩
theorem abG (h:X.Fd≠X.Wg):mi X (Kw X):= .inr ⟨rfl,h.symm⟩
theorem GS {Nx:Lo->Gh Δ->Goroutine->World->Prop}(hrun:g.status= .running/\g.offers=none)(hmv:∀s,mv T s=[(T',s)])(h1:T.pc≠.la)(h2:T.pc≠.ur)(h3:T'.pc≠.wk)(h4:T'.pc≠.quit)(h5:T.pc≠.us)(h6:T.pc≠.d4)
  (hs:∀s,ShAt X w s->∃es w',stepG P (vn r) g w= .go g' w' es/\ShAt X w' s/\ConcM.Eff X.Fd X.Wg w w'/\EvStop X T T' es/\aD P (vn r) (eY X (eI T'.pc) γ.ro) (dM Nx T' γ) γ.own g' w'):Zd X P Nx r T γ g w:=by
 refine⟨hrun.1,hrun.2,λh=>h.elim (absurd · h5) (absurd · h6),λh=>absurd h h2,λs hsh _=>⟨λh=>(by rw[hmv] at h;cases h),λd hd _=>?_⟩⟩;obtain⟨es,w',e1,e2,e3,e4,e5⟩:=hs s hsh;refine⟨(T',s),by rw[hmv];simp,λ_=>⟨λh=>absurd h h3,g',w',es,e1,e2,e3,e4,?_⟩⟩;unfold After;rw[if_neg h4];have e:iU X T.pc γ.own=γ.own:=by
  revert h1 h2
  cases T.pc<;>simp[iU]
 simp only[e,if_neg h1];exact e5
theorem da {Nx:Lo->Gh Δ->Goroutine->World->Prop}(hrun:g.status= .running/\g.offers=none)(h1:T.pc≠.la)(h2:T.pc≠.ur)(h3:T.pc≠.out)(h5:T.pc= .us\/T.pc= .d4->mayWake P g=true)
  (hb:∀s,ShAt X w s->s.fits->mv T s=[]->stepG P (vn r) g w= .go {g with status:= .blocked} w #[])
  (hs:∀s,ShAt X w s->s.fits->mv T s≠[]->∃q∈mv T s,q.1.pc≠.bad->∃g' w' es,stepG P (vn r) g w= .go g' w' es/\ShAt X w' q.2/\ConcM.Eff X.Fd X.Wg w w'/\EvStop X T q.1 es/\
   (if q.1.pc= .quit then ∃n,QuitsD P n 1 g' else aD P (vn r) (eY X (eI q.1.pc) γ.ro) (dM Nx q.1 γ) γ.own g' w')):Zd X P Nx r T γ g w:=by
 refine⟨hrun.1,hrun.2,h5,λh=>absurd h h2,λs hsh hf=>⟨hb s hsh hf,λd hd hne=>?_⟩⟩;obtain⟨q,hq,hrest⟩:=hs s hsh hf hne;refine⟨q,hq,λhbad=>⟨λh=>?_,?_⟩⟩
 .exfalso
  rcases(Mj hq).2.2.1 (by rw[h];rfl) with hp|⟨hp,_⟩
  .revert hp hq h3
   obtain⟨pc,old,nw,aw,sv,it,n⟩:=T;obtain⟨q1,q2⟩:=q;simp only at h;cases pc<;>simp[past]<;>simp only[mv]<;>(repeat' split)<;>simp<;>intros<;>simp_all
  .exact h3 hp
 .obtain⟨g',w',es,e1,e2,e3,e4,e5⟩:=hrest hbad
  refine⟨g',w',es,e1,e2,e3,e4,?_⟩;unfold After;have e:iU X T.pc γ.own=γ.own:=by
   revert h1 h2
   cases T.pc<;>simp[iU]
  simp only[e,if_neg h1];exact e5
end
abbrev PP:Program:=Tryz.prog
abbrev U:Value:= .tuple #[]
def pt (F:Nat):Value:= .pointer (some ⟨F,0,none⟩)
def p8 (F:Nat):Value:= .pointer (some ⟨F,1,none⟩)
def O (g:Goroutine):Goroutine:=AQ PP false 200 g
def On (n:Nat)(g:Goroutine):Goroutine:=AQ PP false n g
def qU (f:FuncId):Code:=((PP.funcs[f]?).bind (·.body)).getD .skip
def MY (f:FuncId)(args:Array Value)(n:Nat)(fr:Frame)(cs:List Frame):Goroutine:=G ((base f).at ⟨args++Array.replicate n undef,[]⟩ [.code (qU f)]) (fr::cs)
def cA (fr:Frame)(cs:List Frame)(v:Value):Goroutine:={frame:=fr.finish v,callers:=cs,status:= .running,dying:=none}
theorem HV:Ext PP 168 Tryz.f168:=⟨Tryz.func168,by kernel_rfl,by kernel_rfl,by kernel_rfl⟩
theorem JM:Extern.find Tryz.f168=some (λ_=>do mark .disable;pure Extern.Race.none_):=by kernel_rfl
theorem Zj:Ext PP 170 Tryz.f170:=⟨Tryz.func170,by kernel_rfl,by kernel_rfl,by kernel_rfl⟩
theorem ZM:Extern.find Tryz.f170=some (λ_=>do mark .enable;pure Extern.Race.none_):=by kernel_rfl
theorem ZX:Ext PP 171 Tryz.f171:=⟨Tryz.func171,by kernel_rfl,by kernel_rfl,by kernel_rfl⟩
theorem adI:Extern.find Tryz.f171=some (Extern.Race.marked .acquire):=by kernel_rfl
theorem xRm:Ext PP 193 Tryz.f193:=⟨Tryz.func193,by kernel_rfl,by kernel_rfl,by kernel_rfl⟩
theorem fRm:Extern.find Tryz.f193=some (Extern.Race.marked .releaseMerge):=by kernel_rfl
theorem ZW:Ext PP 217 Tryz.f217:=⟨Tryz.func217,by kernel_rfl,by kernel_rfl,by kernel_rfl⟩
theorem adH:Extern.find Tryz.f217=some (Extern.Atomic.casT (.int .i32)):=by kernel_rfl
theorem afU:Ext PP 219 Tryz.f219:=⟨Tryz.func219,by kernel_rfl,by kernel_rfl,by kernel_rfl⟩
theorem ah9:Extern.find Tryz.f219=some (Extern.Atomic.update (Op.intArith .add) .i32 true):=by kernel_rfl
theorem Sz:Ext PP 221 Tryz.f221:=⟨Tryz.func221,by kernel_rfl,by kernel_rfl,by kernel_rfl⟩
theorem Tu:Extern.find Tryz.f221=some Extern.Sync.canSpin:=by kernel_rfl
theorem xDo:Ext PP 222 Tryz.f222:=⟨Tryz.func222,by kernel_rfl,by kernel_rfl,by kernel_rfl⟩
theorem fDo:Extern.find Tryz.f222=some (λ_=>pure (.tuple #[])):=by kernel_rfl
theorem SC:Ext PP 224 Tryz.f224:=⟨Tryz.func224,by kernel_rfl,by kernel_rfl,by kernel_rfl⟩
theorem Tw:Extern.find Tryz.f224=some Extern.OsHooks.nano:=by kernel_rfl
theorem SU:Tryz.f224.norace=true:=by kernel_rfl
theorem ZU:Ext PP 225 Tryz.f225:=⟨Tryz.func225,by kernel_rfl,by kernel_rfl,by kernel_rfl⟩
theorem adB:Extern.find Tryz.f225=some Extern.Sync.semacquire:=by kernel_rfl
theorem ZV:Ext PP 227 Tryz.f227:=⟨Tryz.func227,by kernel_rfl,by kernel_rfl,by kernel_rfl⟩
theorem ah5:Extern.find Tryz.f227=some Extern.Sync.semrelease:=by kernel_rfl
section
variable (F:Nat)(fr:Frame)(cs:List Frame)
def gL0:Goroutine:=MY 201 #[pt F] 5 fr cs
def Ys:Goroutine:=O (gL0 F fr cs)
def Tr:Goroutine:=O (resume (Ys F fr cs) U)
def gE1:Goroutine:=O (resume (Tr F fr cs) (.bool true))
def MV:Goroutine:=O (resume (gE1 F fr cs) U)
def gA1:Goroutine:=O (resume (MV F fr cs) (pt F))
def Rj:Goroutine:=O (resume (Tr F fr cs) (.bool false))
def cS:List Frame:=(Rj F fr cs).callers
end
def aap:List Item:=(On 5 (resume (Rj 0 default []) (.int .i32 0))).frame.todo
def gH (F:Nat)(fr:Frame)(cs:List Frame)(tm:Array Value):Goroutine:=G ((base 218).at ⟨tm,[]⟩ aap) (cS F fr cs)
def tm0 (old:Int):Array Value:=#[pt 0,U,.int .i64 0,.bool false,.bool false,.int .i64 0,.int .i32 old]++Array.replicate 132 U
def aal:List Item:=(On 11 (resume (O (gH 0 default [] (tm0 0))) (.bool true))).frame.todo
def gR (F:Nat)(fr:Frame)(cs:List Frame)(tm:Array Value):Goroutine:=G ((base 218).at ⟨tm,[]⟩ aal) (cS F fr cs)
def gq1:Goroutine:=O (resume (O (resume (O (gH 0 default [] (tm0 1))) (.bool false))) (.bool true))
def gq2:Goroutine:=O (resume gq1 (.int .i64 1))
def gq3:Goroutine:=O (resume gq2 U)
def aam:List Item:=(On 1 (resume gq2 U)).frame.todo
def gQ (F:Nat)(fr:Frame)(cs:List Frame)(tm:Array Value):Goroutine:=G ((base 218).at ⟨tm,[]⟩ aam) (cS F fr cs)
def aan:List Item:=(On 6 (resume gq3 (.int .i64 1))).frame.todo
def gN (F:Nat)(fr:Frame)(cs:List Frame)(tm:Array Value):Goroutine:=G ((base 218).at ⟨tm,[]⟩ aan) (cS F fr cs)
def zc (g:Goroutine):TypeId:=match aS g with|some (.conv s _ _)=>s|_=>0
def z8 (g:Goroutine):TypeId:=match aS g with|some (.conv _ d _)=>d|_=>0
def z7 (g:Goroutine):TypeId:=match PP.underlying (zc g) with|some (.pointer t)=>t|_=>0
section
variable {Δ:Type}{X:Cx Δ}{r:bh}{k n:Nat}{T T':Lo}{γ:Gh Δ}{own:Nat->Prop}{g g':Goroutine}{w w':World}{es:Array Event}
theorem gl (n:Nat)(h:∀ws:Nat->World,yA PP false n g ws=some (AQ PP false n g,(List.range (bJ PP false n g)).map ws)){deaf:Bool}{ro:Nat->Prop}{Stop:(Nat->Prop)->Goroutine->World->Prop}
  (k:aD PP false (eY X deaf ro) Stop own (AQ PP false n g) w):aD PP false (eY X deaf ro) Stop own g w:=aC (av.of n h) k
theorem qG {deaf:Bool}{ro:Nat->Prop}{Stop:(Nat->Prop)->Goroutine->World->Prop}{s d t:TypeId}{a:Addr}(h:aS g=some (.conv s d (.pointer (some a))))(h1:PP.underlying s=some (.pointer t))(h2:PP.underlying d=some .unsafePointer)
  (h3:(PP.info? t).map (λi=>decide (i.size=0))=some false) (hc:∀w₁,RX X ro own w w₁->∃v,w₁.cell? a=some v) (k:aD PP false (eY X deaf ro) Stop own (resume g (.pointer (some a))) w):aD PP false (eY X deaf ro) Stop own g w:=by
 refine aD.step (cT h).1 λw₁ hr=>?_
 obtain⟨v,hv⟩:=hc w₁ hr;obtain⟨es,e1,e2⟩:=mQ (P:=PP) (main:=false) (w:=w₁) (w':=w₁) (x:= .pointer (some a)) h (by simp only[kd.sem,Sem.run_bind,run_convert_to_unsafe h1 h2 h3 hv];rfl);have e3:es=#[]:=Array.eq_empty_iff_forall_not_mem.2 λe he=>by
  have:=e2 e he;simp only[kd.sem,Sem.events_bind,run_convert_to_unsafe h1 h2 h3 hv,events_convert_to_unsafe h1 h2 h3 hv] at this;simp at this
 subst e3;refine⟨_,w₁,#[],e1,(jO deaf ro own w₁).1,?_⟩;have:=(jO (X:=X) deaf ro own w₁).2;rw[this];exact k.rely hr
end
theorem S5 {P:Program}{main:Bool}{g:Goroutine}{w:World}{t:TypeId}{ad:Addr}{k:IntKind}{v:Int}(h:aS g=some (.load t (.pointer (some ad))))(hc:w.cell? ad=some (.int k v))(ht:∀w,(Instr.loadAt t (.pointer (some ad))).run P w=(match w.cell? ad with|some x=> .ok x w|none=>(Instr.loadAt t (.pointer (some ad))).run P w))
  (he:∀w x,w.cell? ad=some x->(Instr.loadAt t (.pointer (some ad))).events P w #[]=#[⟨.cell ad,false,false⟩]) (hq:(P.funcs[g.frame.fn]?).any (·.norace)=true):
  stepG P main g w= .go (resume g (.int k v)) w #[]:=by
 obtain⟨b,a,ops,i,rest,kk,cs,o,rfl,h2,h3,h4,h5,h6,h7⟩:=mN h;have hr:(execOp a.eval o).run P w= .ok (.value (.int k v)) w:=by
  rw[h6];simp only[kd.sem,Sem.run_bind,ht w,hc];rfl
 have hev:(execOp a.eval o).events P w #[]=#[⟨.cell ad,false,false⟩]:=by
  rw[h6];simp only[kd.sem,Sem.events_bind,ht w,hc,he w _ hc];simp
 rw[h7,stepG_value h2 h3 h4 hr];have:listed P b.fn a o w=#[]:=by
  unfold listed;rw[hev,seen_def,(show b.fn=(G (b.at a (.inRegion ops (i::rest)::kk)) cs).frame.fn from rfl),hq];simp[seenStep]
 rw[this]
section
variable {Δ:Type}{X:Cx Δ}{r:bh}{k:Nat}{T T':Lo}{γ:Gh Δ}{g g':Goroutine}{w w':World}
structure Room (X:Cx Δ)(γ:Gh Δ):Prop where
 ne:X.Fd≠X.Wg
 off:∀b,γ.own b\/γ.ro b->b≠X.Fd/\b≠X.Wg
abbrev RR (X:Cx Δ)(γ:Gh Δ)(w w':World):Prop:=RX X γ.ro γ.own w w'
theorem Room.rx (h:Room X γ){s:Sh}(e:ConcM.Eff X.Fd X.Wg w w')(hs:ShAt X w' s):RR X γ w w':=
 ⟨e.tape,e.output,Nat.le_of_eq e.size.symm,e.os,λb _ ho=>e.block b (h.off b ho).1 (h.off b ho).2,λ_=>⟨s,hs⟩⟩
abbrev LW (X:Cx Δ)(r:bh)(γ:Gh Δ)(k:Nat)(T:Lo)(g:Goroutine)(w:World):Prop:=aD PP false (eY X (eI T.pc) γ.ro) (dM (Hy X PP k r) T γ) γ.own g w
theorem iu (h:∀k' w₁,k'<k->RR X γ w w₁->Zd X PP (Hy X PP k' r) r T γ g w₁):LW X r γ k T g w:=by
 refine Mv (Nx:=λk=>Hy X PP k r) (λT γ g w=>trivial) λk' w₁ e hr=>?_
 exact h k' w₁ (by omega) hr
variable (hm:vn r=false)(R:Room X γ)
include hm R
theorem Bk {T1 T2:Lo}(hpc:T.pc= .c2\/T.pc= .l0\/T.pc= .uc){old nw:Int}(hc:aG g=some (217,#[pt X.Fd,.int .i32 old,.int .i32 nw]))
  (h1:∀s,s.mu=old->(T1,{s with mu:=nw})∈mv T s) (h2:∀s,s.fits->s.mu≠old->∃q∈mv T s,q.1.pc= .bad\/q=(T2,s))
  (e1:jf T T1= .book) (q1:T1.pc≠.quit) (e2:jf T T2= .book) (q2:T2.pc≠.quit)
  (hit:∀k' w',k'<k->RR X γ w w'->LW X r γ k' T1 (resume g (.bool true)) w') (miss:T2.pc≠.bad->∀k' w',k'<k->RR X γ w w'->LW X r γ k' T2 (resume g (.bool false)) w'):LW X r γ k T g w:=by
 refine iu λk' w₁ hk hr=>da (aV hc) ?_ ?_ ?_ ?_ ?_ ?_
 .rcases hpc with h|h|h<;>rw[h]<;>simp
 .rcases hpc with h|h|h<;>rw[h]<;>simp
 .rcases hpc with h|h|h<;>rw[h]<;>simp
 .rcases hpc with h|h|h<;>rw[h]<;>simp
 .intro s _ hf hn
  exfalso
  by_cases hmu:s.mu=old
  .have:=h1 s hmu;rw[hn] at this;cases this
  .obtain⟨q,hq,_⟩:=h2 s hf hmu;rw[hn] at hq;cases hq
 .intro s hsh hf _
  rw[hm]
  by_cases hmu:s.mu=old
  .have hsh':=hsh.setMu R.ne nw
   have ef:=ConcM.Eff.set (w:=w₁) (Mu:=X.Fd) (Wg:=X.Wg) (mA X) (.int .i32 nw) (.inl rfl);refine⟨_,h1 s hmu,λ_=>⟨_,_,_,mR ZW .i32 adH hc (by rw[<-hmu];exact hsh.YZ) (hsh.thF 0),hsh',ef,oT okM e1,?_⟩⟩;rw[if_neg q1];exact hit k' _ hk (hr.trans X (R.rx ef hsh'))
  .obtain⟨q,hq,hb⟩:=h2 s hf hmu
   refine⟨q,hq,λhne=>?_⟩;obtain rfl:=hb.resolve_left hne;refine⟨_,_,_,lS ZW .i32 adH hc hsh.YZ (hsh.thF 0) hmu,hsh,.refl _,Dx okM e2,?_⟩;rw[if_neg q2];exact miss hne k' _ hk hr
theorem Oo {δ:Int}(hpc:T.pc= .a1\/T.pc= .u0)(hc:aG g=some (219,#[pt X.Fd,.int .i32 δ]))
  (h1:∀s,s.fits->∃q∈mv T s,q.1.pc= .bad\/(q.2={s with mu:=IntKind.i32.wrap (s.mu+δ)}/\jf T q.1= .book/\q.1.pc≠.quit/\∀k' w',k'<k->RR X γ w w'->LW X r γ k' q.1 (resume g (.int .i32 (IntKind.i32.wrap (s.mu+δ)))) w')):LW X r γ k T g w:=by
 refine iu λk' w₁ hk hr=>da (aV hc) ?_ ?_ ?_ ?_ ?_ ?_
 .rcases hpc with h|h<;>rw[h]<;>simp
 .rcases hpc with h|h<;>rw[h]<;>simp
 .rcases hpc with h|h<;>rw[h]<;>simp
 .rcases hpc with h|h<;>rw[h]<;>simp
 .intro s _ hf hn
  obtain⟨q,hq,_⟩:=h1 s hf;rw[hn] at hq;cases hq
 .intro s hsh hf _
  rw[hm];obtain⟨q,hq,hb⟩:=h1 s hf;refine⟨q,hq,λhne=>?_⟩;obtain⟨e1,e2,e3,e4⟩:=hb.resolve_left hne;have hsh':=hsh.setMu R.ne (IntKind.i32.wrap (s.mu+δ));have ef:=ConcM.Eff.set (w:=w₁) (Mu:=X.Fd) (Wg:=X.Wg) (mA X) (.int .i32 (IntKind.i32.wrap (s.mu+δ))) (.inl rfl);refine⟨_,_,_,rl afU .i32 ah9 hc hsh.YZ (hsh.thF 0),by rw[e1];exact hsh',ef,oT okM e2,?_⟩;rw[if_neg e3]
  exact e4 k' _ hk (hr.trans X (R.rx ef hsh'))
theorem Bj (hpc:T.pc= .r0\/T.pc= .r1\/T.pc= .r2\/T.pc= .r3)(hv:aS g=some (.load 21 (pt X.Fd)))(hq:(PP.funcs[g.frame.fn]?).any (·.norace)=true)
  (h1:∀s,s.fits->∃q∈mv T s,q.1.pc= .bad\/(q.2=s/\jf T q.1= .book/\q.1.pc≠.quit/\∀k' w',k'<k->RR X γ w w'->LW X r γ k' q.1 (resume g (.int .i32 s.mu)) w')):LW X r γ k T g w:=by
 refine iu λk' w₁ hk hr=>da (cT hv) ?_ ?_ ?_ ?_ ?_ ?_
 .rcases hpc with h|h|h|h<;>rw[h]<;>simp
 .rcases hpc with h|h|h|h<;>rw[h]<;>simp
 .rcases hpc with h|h|h|h<;>rw[h]<;>simp
 .rcases hpc with h|h|h|h<;>rw[h]<;>simp
 .intro s _ hf hn
  obtain⟨q,hq,_⟩:=h1 s hf;rw[hn] at hq;cases hq
 .intro s hsh hf _
  rw[hm];obtain⟨q,hq',hb⟩:=h1 s hf;refine⟨q,hq',λhne=>?_⟩;obtain⟨e1,e2,e3,e4⟩:=hb.resolve_left hne;refine⟨_,_,_,S5 hv hsh.YZ ?_ ?_ hq,by rw[e1];exact hsh,.refl _,xR e2,?_⟩
  .intro w
   cases hcc:w.cell? ⟨X.Fd,0,none⟩ with
   |none=>simp[mA]
   |some x=>simp[go_sem,hcc,mA,pt]
  .intro w x hx
   simp[go_sem,hx,mA,pt]
  rw[if_neg e3];exact e4 k' _ hk hr
theorem Y8 {T1:Lo}{u v:Value}(hpc:T.pc= .s1)(hc:aG g=some (225,#[p8 X.Fd,u,v]))
  (hT:T1={T with pc:=if T.sv then .r2 else .t2}) (go:∀k' w',k'<k->RR X γ w w'->LW X r γ k' T1 (resume g U) w'):LW X r γ k T g w:=by
 have e1:jf T T1= .book:=by unfold jf;rw[hpc]
 have q1:T1.pc≠.quit:=by rw[hT];dsimp only;split<;>simp
 refine iu λk' w₁ hk hr=>da (aV hc) ?_ ?_ ?_ ?_ ?_ ?_
 .rw[hpc];simp
 .rw[hpc];simp
 .rw[hpc];simp
 .rw[hpc];simp
 .intro s hsh _ hn
  rw[hm];have:s.ms=0:=by
   unfold mv at hn;rw[hpc] at hn
   by_cases h:s.ms=0
   .exact h
   .simp[h] at hn
  exact Ip ZU adB hc (by rw[<-this];exact hsh.cMs)
 .intro s hsh hf hne
  rw[hm];have h0:s.ms≠0:=by
   intro h
   apply hne
   unfold mv;rw[hpc];simp[h]
  have hmem:(T1,({s with ms:=s.ms-1}:Sh))∈mv T s:=by
   rw[hT];unfold mv;rw[hpc];simp[h0]
  have hsh':=hsh.setMs R.ne (s.ms-1);have ef:=ConcM.Eff.set (w:=w₁) (Mu:=X.Fd) (Wg:=X.Wg) (msA X) (.int .u32 (s.ms-1)) (.inl rfl);refine⟨_,hmem,λ_=>⟨_,_,_,K1 ZU adB hc hsh.cMs h0 (hsh.thF 1),hsh',ef,Be abH e1,?_⟩⟩;rw[if_neg q1];exact go k' _ hk (hr.trans X (R.rx ef hsh'))
theorem Oj {T1:Lo}{u v:Value}(hpc:T.pc= .us)(hc:aG g=some (227,#[p8 X.Fd,u,v]))
  (hT:T1=at_ .ue T.n) (go:∀k' w',k'<k->RR X γ w w'->LW X r γ k' T1 (resume g U) w'):LW X r γ k T g w:=by
 have e1:jf T T1= .book:=by unfold jf;rw[hpc]
 have q1:T1.pc≠.quit:=by rw[hT];simp
 refine iu λk' w₁ hk hr=>da (aV hc) ?_ ?_ ?_ ?_ ?_ ?_
 .rw[hpc];simp
 .rw[hpc];simp
 .rw[hpc];simp
 .exact λ_=>BF ZV hc
 .intro s hsh _ hn
  unfold mv at hn;rw[hpc] at hn;simp at hn
 .intro s hsh hf _
  rw[hm];have hw:IntKind.u32.wrap (s.ms+1)=s.ms+1:=by
   have:=hf.2.1;rcases this with h|h<;>rw[h]<;>decide
  have hmem:(T1,({s with ms:=s.ms+1}:Sh))∈mv T s:=by
   rw[hT];unfold mv;rw[hpc];simp
  have hsh':=hsh.setMs R.ne (s.ms+1);have ef:=ConcM.Eff.set (w:=w₁) (Mu:=X.Fd) (Wg:=X.Wg) (msA X) (.int .u32 (s.ms+1)) (.inl rfl);refine⟨_,hmem,λ_=>⟨resume g U,w₁.setCell (msA X) (.int .u32 (s.ms+1)),_,by have:=BW (P:=PP) (main:=false) (w:=w₁) ZV ah5 hc hsh.cMs (hsh.thF 1);rw[hw] at this;exact this,hsh',ef,Be abH e1,?_⟩⟩;rw[if_neg q1];exact go k' _ hk (hr.trans X (R.rx ef hsh'))
theorem Bi {T2:Lo}(hpc:T.pc= .sq){it:Int}(hit:T.it=it)(hc:aG g=some (221,#[.int .i64 it]))
  (hno:∀k' w',k'<k->RR X γ w w'->LW X r γ k' (cl T) (resume g (.bool false)) w')
  (hT:T2={T with pc:= .r1,old:=0,nw:=0}) (hyes:∀k' w',k'<k->RR X γ w w'->LW X r γ k' T2 (resume g (.bool true)) w'):LW X r γ k T g w:=by
 have e1:jf T (cl T)= .book:=by unfold jf;rw[hpc]
 have e2:jf T T2= .book:=by unfold jf;rw[hpc]
 have q1:(cl T).pc≠.quit:=by rw[Hh];simp
 have q2:T2.pc≠.quit:=by rw[hT];simp
 have m1:∀s,(cl T,s)∈mv T s:=λs=>by unfold mv;rw[hpc];simp
 refine iu λk' w₁ hk hr=>da (aV hc) ?_ ?_ ?_ ?_ ?_ ?_
 .rw[hpc];simp
 .rw[hpc];simp
 .rw[hpc];simp
 .rw[hpc];simp
 .intro s _ _ hn
  have:=m1 s;rw[hn] at this;cases this
 .intro s hsh hf _
  rw[hm]
  by_cases h4:it<4
  .have ef:=ConcM.Eff.asked (Mu:=X.Fd) (Wg:=X.Wg) w₁
   have hsh':ShAt X w₁.asked s:=⟨hsh.1,hsh.2⟩
   have hst:=Io (P:=PP) (main:=false) (w:=w₁) Sz Tu hc h4;cases hsp:w₁.spins with
   |false=>
    rw[hsp] at hst;refine⟨_,m1 s,λ_=>⟨_,_,_,hst,hsh',ef,xR e1,?_⟩⟩;rw[if_neg q1];exact hno k' _ hk (hr.trans X (R.rx ef hsh'))
   |true=>
    rw[hsp] at hst;have m2:(T2,s)∈mv T s:=by rw[hT];unfold mv;rw[hpc];simp[hit,h4]
    refine⟨_,m2,λ_=>⟨_,_,_,hst,hsh',ef,xR e2,?_⟩⟩;rw[if_neg q2];exact hyes k' _ hk (hr.trans X (R.rx ef hsh'))
  .refine⟨_,m1 s,λ_=>⟨_,_,_,Am Sz Tu hc (by omega),hsh,.refl _,xR e1,?_⟩⟩
   rw[if_neg q1];exact hno k' _ hk hr
theorem Om {args:Array Value}(hpc:T.pc= .t2)(hc:aG g=some (224,args))(next:Nat->Bool)
  (go:∀k' w' m,k'<k->RR X γ w w'->LW X r γ k' {T with pc:= .r2,sv:=if next m then true else T.sv} (resume g (.int .i64 (m:Int))) w'):LW X r γ k T g w:=by
 refine iu λk' w₁ hk hr=>da (aV hc) ?_ ?_ ?_ ?_ ?_ ?_
 .rw[hpc];simp
 .rw[hpc];simp
 .rw[hpc];simp
 .rw[hpc];simp
 .intro s _ _ hn
  unfold mv at hn;rw[hpc] at hn;simp at hn
 .intro s hsh hf _
  rw[hm];have ef:=ConcM.Eff.later (Mu:=X.Fd) (Wg:=X.Wg) w₁;have hsh':ShAt X w₁.later s:=⟨hsh.1,hsh.2⟩
  refine⟨({T with pc:= .r2,sv:=if next (w₁.os.mono+w₁.tick) then true else T.sv},s),?_,λ_=>⟨_,_,_,zz (P:=PP) (main:=false) (w:=w₁) SC Tw SU hc,hsh',ef,xR (by unfold jf;rw[hpc]),?_⟩⟩
  .unfold mv
   rw[hpc];cases next (w₁.os.mono+w₁.tick)<;>simp
  .rw[if_neg (by simp)]
   exact go k' _ _ hk (hr.trans X (R.rx ef hsh'))
theorem vS {f:FuncId}{fn:Func}{m:Mark}(hX:Ext PP f fn)(hmk:∀g,m≠.extern g)(he:Extern.find fn=some (λ_=>do mark m;pure Extern.Race.none_))(hc:aG g=some (f,#[]))
  (hmv:∀s,mv T s=[(T',s)]) (hev:EvStop X T T' #[qg m]) (h1:T.pc≠.la) (h2:T.pc≠.ur) (h3:T'.pc≠.wk) (h4:T'.pc≠.quit) (h5:T.pc≠.us) (h6:T.pc≠.d4)
  (go:∀k' w',k'<k->RR X γ w w'->LW X r γ k' T' (resume g U) w'):LW X r γ k T g w:=by
 refine iu λk' w₁ hk hr=>GS (g':=resume g U) (aV hc) hmv h1 h2 h3 h4 h5 h6 λs hsh=>?_
 rw[hm];exact⟨_,_,jl hX m (hm:=hmk) he hc,hsh,.refl _,hev,go k' _ hk hr⟩
abbrev Taken (X:Cx Δ)(r:bh)(γ:Gh Δ)(n:Nat)(fr:Frame)(cs:List Frame)(w:World):Prop:=
 ∀k w' d o,RR X γ w w'->w'.heap[X.M]? =some o->Bt X r γ.mine d o->aD PP false (eY X false γ.ro) (dM (Hy X PP k r) (at_ .ur n) {γ with own:=λb=>γ.own b\/b=X.M,other:=d}) (λb=>γ.own b\/b=X.M) (cA fr cs U) w'
theorem Sl {n:Nat}{fr:Frame}{cs:List Frame}(hc:aG g=some (171,#[pt X.Fd]))(hg:av PP false (resume g U) (cA fr cs U))(go:Taken X r γ n fr cs w):LW X r γ k (at_ .la n) g w:=by
 refine iu λk' w₁ hk hr=>?_
 refine⟨(aV hc).1,(aV hc).2,by simp,by simp,λs hsh hf=>⟨by simp[mv],λd hd _=>?_⟩⟩;obtain⟨o,ho,hD⟩:=hd rfl;refine⟨(at_ .ur n,s),by simp[mv],λ_=>⟨by simp,resume g U,w₁,#[qg (.acquire (mA X))],?_,hsh,.refl _,by simp[EvStop,jf],?_⟩⟩
 .rw[hm]
  exact fE ZX .acquire adI hc
 .unfold After
  rw[if_neg (by simp),hm];have:=go k' w₁ d o hr ho hD;exact aC hg this
theorem DY {n:Nat}{fr:Frame}{cs:List Frame}{g1 g2:Goroutine}(hc:aG g=some (170,#[]))(hg1:av PP false (resume g U) g1){s d t:TypeId}(hv:aS g1=some (.conv s d (pt X.Fd)))
  (hs:PP.underlying s=some (.pointer t)) (hd:PP.underlying d=some .unsafePointer) (ht:(PP.info? t).map (λi=>decide (i.size=0))=some false) (hg2:av PP false (resume g1 (pt X.Fd)) g2)
  (hc2:aG g2=some (171,#[pt X.Fd])) (hg3:av PP false (resume g2 U) (cA fr cs U)) (live:∃s,ShAt X w s) (go:Taken X r γ n fr cs w):LW X r γ k (at_ .le n) g w:=by
 refine vS hm R (T':=at_ .la n) (m:= .enable) Zj (by simp) ZM hc (by simp[mv]) (by simp[EvStop,jf]) (by simp) (by simp) (by simp) (by simp) (by simp) (by simp) λk' w' hk hr=>?_
 refine aC hg1 (qG hv hs hd ht (λw₁ hr'=>?_) (aC hg2 ?_))
 .obtain⟨s,hs⟩:=(hr.trans X hr').live live
  exact⟨_,hs.YZ⟩
 .exact Sl hm R hc2 hg3 λk w1 d o hr1=>go k w1 d o (hr.trans X hr1)
end
section
variable (F:Nat)(fr:Frame)(cs:List Frame)
theorem lD1:aG (Ys F fr cs)=some (168,#[]):=by kernel_rfl
theorem lL0 (ws:Nat->World):yA PP false 200 (gL0 F fr cs) ws=some (Ys F fr cs,(List.range (bJ PP false 200 (gL0 F fr cs))).map ws):=by kernel_rfl
theorem agU (ws:Nat->World):yA PP false 200 (resume (Ys F fr cs) U) ws=some (Tr F fr cs,(List.range (bJ PP false 200 (resume (Ys F fr cs) U))).map ws):=by kernel_rfl
theorem lC1:aG (Tr F fr cs)=some (217,#[pt F,.int .i32 0,.int .i32 1]):=by kernel_rfl
theorem agX (ws:Nat->World):yA PP false 200 (resume (Tr F fr cs) (.bool true)) ws=some (gE1 F fr cs,(List.range (bJ PP false 200 (resume (Tr F fr cs) (.bool true)))).map ws):=by kernel_rfl
theorem lE1:aG (gE1 F fr cs)=some (170,#[]):=by kernel_rfl
theorem agT (ws:Nat->World):yA PP false 200 (resume (gE1 F fr cs) U) ws=some (MV F fr cs,(List.range (bJ PP false 200 (resume (gE1 F fr cs) U))).map ws):=by kernel_rfl
theorem lV1:aS (MV F fr cs)=some (.conv (zc (MV 0 default [])) (z8 (MV 0 default [])) (pt F)):=by kernel_rfl
theorem agP:PP.underlying (zc (MV 0 default []))=some (.pointer (z7 (MV 0 default []))):=by kernel_rfl
theorem agQ:PP.underlying (z8 (MV 0 default []))=some .unsafePointer:=by kernel_rfl
theorem agO:(PP.info? (z7 (MV 0 default []))).map (λi=>decide (i.size=0))=some false:=by kernel_rfl
theorem agR (ws:Nat->World):yA PP false 200 (resume (MV F fr cs) (pt F)) ws=some (gA1 F fr cs,(List.range (bJ PP false 200 (resume (MV F fr cs) (pt F)))).map ws):=by kernel_rfl
theorem lA1:aG (gA1 F fr cs)=some (171,#[pt F]):=by kernel_rfl
theorem agY (ws:Nat->World):yA PP false 6 (resume (gA1 F fr cs) U) ws=some (cA fr cs U,(List.range (bJ PP false 6 (resume (gA1 F fr cs) U))).map ws):=by kernel_rfl
theorem agW (ws:Nat->World):yA PP false 200 (resume (Tr F fr cs) (.bool false)) ws=some (Rj F fr cs,(List.range (bJ PP false 200 (resume (Tr F fr cs) (.bool false)))).map ws):=by kernel_rfl
theorem lS0:aS (Rj F fr cs)=some (.load 21 (pt F)):=by kernel_rfl
theorem agS:(PP.funcs[(Rj F fr cs).frame.fn]?).any (·.norace)=true:=by kernel_rfl
end
def Pe (F aJ:Nat)(sv aw:Bool)(it old:Int)(y:Nat->Value):Array Value:=#[pt F,y 1,.int .i64 (aJ:Int),.bool sv,.bool aw,.int .i64 it,.int .i32 old,y 7,y 8,y 9,y 10,y 11,y 12,y 13,y 14,y 15,y 16,y 17,y 18,y 19,y 20,y 21,y 22,y 23,y 24,y 25,y 26,y 27,y 28,y 29,y 30,y 31,y 32,y 33,y 34,y 35,y 36,y 37,y 38,y 39,y 40,y 41,y 42,y 43,y 44,y 45,y 46,y 47,y 48,y 49,y 50,y 51,y 52,y 53,y 54,y 55,y 56,y 57,y 58,y 59,y 60,y 61,y 62,y 63,y 64,y 65,y 66,y 67,y 68,y 69,y 70,y 71,y 72,y 73,y 74,y 75,y 76,y 77,y 78,y 79,y 80,y 81,y 82,y 83,y 84,y 85,y 86,y 87,y 88,y 89,y 90,y 91,y 92,y 93,y 94,y 95,y 96,y 97,y 98,y 99,y 100,y 101,y 102,y 103,y 104,y 105,y 106,y 107,y 108,y 109,y 110,y 111,y 112,y 113,y 114,y 115,y 116,y 117,y 118,y 119,y 120,y 121,y 122,y 123,y 124,y 125,y 126,y 127,y 128,y 129,y 130,y 131,y 132,y 133,y 134,y 135,y 136,y 137,y 138]
def OK (F aJ:Nat)(sv:Bool)(y:Nat->Value):Array Value:=#[pt F,y 1,.int .i64 (aJ:Int),.bool sv,y 4,y 5,y 6,y 7,y 8,y 9,y 10,y 11,y 12,y 13,y 14,y 15,y 16,y 17,y 18,y 19,y 20,y 21,y 22,y 23,y 24,y 25,y 26,y 27,y 28,y 29,y 30,y 31,y 32,y 33,y 34,y 35,y 36,y 37,y 38,y 39,y 40,y 41,y 42,y 43,y 44,y 45,y 46,y 47,y 48,y 49,y 50,y 51,y 52,y 53,y 54,y 55,y 56,y 57,y 58,y 59,y 60,y 61,y 62,y 63,y 64,y 65,y 66,y 67,y 68,y 69,y 70,y 71,y 72,y 73,y 74,y 75,y 76,y 77,y 78,y 79,y 80,y 81,y 82,y 83,y 84,y 85,y 86,y 87,y 88,y 89,y 90,y 91,y 92,y 93,y 94,y 95,y 96,y 97,y 98,y 99,y 100,y 101,y 102,y 103,y 104,y 105,y 106,y 107,y 108,y 109,y 110,y 111,y 112,y 113,y 114,y 115,y 116,y 117,y 118,y 119,y 120,y 121,y 122,y 123,y 124,y 125,y 126,y 127,y 128,y 129,y 130,y 131,y 132,y 133,y 134,y 135,y 136,y 137,y 138]
def SI (F:Nat)(y:Nat->Value):Array Value:=#[pt F,y 1,y 2,y 3,y 4,y 5,y 6,y 7,y 8,y 9,y 10,y 11,y 12,y 13,y 14,y 15,y 16,y 17,y 18,y 19,y 20,y 21,y 22,y 23,y 24,y 25,y 26,y 27,y 28,y 29,y 30,y 31,y 32,y 33,y 34,y 35,y 36,y 37,y 38,y 39,y 40,y 41,y 42,y 43,y 44,y 45,y 46,y 47,y 48,y 49,y 50,y 51,y 52,y 53,y 54,y 55,y 56,y 57,y 58,y 59,y 60,y 61,y 62,y 63,y 64,y 65,y 66,y 67,y 68,y 69,y 70,y 71,y 72,y 73,y 74,y 75,y 76,y 77,y 78,y 79,y 80,y 81,y 82,y 83,y 84,y 85,y 86,y 87,y 88,y 89,y 90,y 91,y 92,y 93,y 94,y 95,y 96,y 97,y 98,y 99,y 100,y 101,y 102,y 103,y 104,y 105,y 106,y 107,y 108,y 109,y 110,y 111,y 112,y 113,y 114,y 115,y 116,y 117,y 118,y 119,y 120,y 121,y 122,y 123,y 124,y 125,y 126,y 127,y 128,y 129,y 130,y 131,y 132,y 133,y 134,y 135,y 136,y 137,y 138]
structure HH (F aJ:Nat)(sv aw:Bool)(it old:Int)(tm:Array Value):Prop where
 size:tm.size=139
 s0:tm[0]? =some (pt F)
 s2:tm[2]? =some (.int .i64 (aJ:Int))
 s3:tm[3]? =some (.bool sv)
 s4:tm[4]? =some (.bool aw)
 s5:tm[5]? =some (.int .i64 it)
 s6:tm[6]? =some (.int .i32 old)
structure HQ (F aJ:Nat)(sv:Bool)(tm:Array Value):Prop where
 size:tm.size=139
 s0:tm[0]? =some (pt F)
 s2:tm[2]? =some (.int .i64 (aJ:Int))
 s3:tm[3]? =some (.bool sv)
structure HR (F:Nat)(tm:Array Value):Prop where
 size:tm.size=139
 s0:tm[0]? =some (pt F)
theorem bX {tm:Array Value}{i:Nat}{v:Value}(h:tm[i]? =some v):tm.getD i undef=v:=by simp[Array.getD_eq_getD_getElem?,h]
theorem slots (tm:Array Value)(h:tm.size=139):tm=#[tm.getD 0 undef,tm.getD 1 undef,tm.getD 2 undef,tm.getD 3 undef,tm.getD 4 undef,tm.getD 5 undef,tm.getD 6 undef,tm.getD 7 undef,tm.getD 8 undef,tm.getD 9 undef,tm.getD 10 undef,tm.getD 11 undef,tm.getD 12 undef,tm.getD 13 undef,tm.getD 14 undef,tm.getD 15 undef,tm.getD 16 undef,tm.getD 17 undef,tm.getD 18 undef,tm.getD 19 undef,tm.getD 20 undef,tm.getD 21 undef,tm.getD 22 undef,tm.getD 23 undef,tm.getD 24 undef,tm.getD 25 undef,tm.getD 26 undef,tm.getD 27 undef,tm.getD 28 undef,tm.getD 29 undef,tm.getD 30 undef,tm.getD 31 undef,tm.getD 32 undef,tm.getD 33 undef,tm.getD 34 undef,tm.getD 35 undef,tm.getD 36 undef,tm.getD 37 undef,tm.getD 38 undef,tm.getD 39 undef,tm.getD 40 undef,tm.getD 41 undef,tm.getD 42 undef,tm.getD 43 undef,tm.getD 44 undef,tm.getD 45 undef,tm.getD 46 undef,tm.getD 47 undef,tm.getD 48 undef,tm.getD 49 undef,tm.getD 50 undef,tm.getD 51 undef,tm.getD 52 undef,tm.getD 53 undef,tm.getD 54 undef,tm.getD 55 undef,tm.getD 56 undef,tm.getD 57 undef,tm.getD 58 undef,tm.getD 59 undef,tm.getD 60 undef,tm.getD 61 undef,tm.getD 62 undef,tm.getD 63 undef,tm.getD 64 undef,tm.getD 65 undef,tm.getD 66 undef,tm.getD 67 undef,tm.getD 68 undef,tm.getD 69 undef,tm.getD 70 undef,tm.getD 71 undef,tm.getD 72 undef,tm.getD 73 undef,tm.getD 74 undef,tm.getD 75 undef,tm.getD 76 undef,tm.getD 77 undef,tm.getD 78 undef,tm.getD 79 undef,tm.getD 80 undef,tm.getD 81 undef,tm.getD 82 undef,tm.getD 83 undef,tm.getD 84 undef,tm.getD 85 undef,tm.getD 86 undef,tm.getD 87 undef,tm.getD 88 undef,tm.getD 89 undef,tm.getD 90 undef,tm.getD 91 undef,tm.getD 92 undef,tm.getD 93 undef,tm.getD 94 undef,tm.getD 95 undef,tm.getD 96 undef,tm.getD 97 undef,tm.getD 98 undef,tm.getD 99 undef,tm.getD 100 undef,tm.getD 101 undef,tm.getD 102 undef,tm.getD 103 undef,tm.getD 104 undef,tm.getD 105 undef,tm.getD 106 undef,tm.getD 107 undef,tm.getD 108 undef,tm.getD 109 undef,tm.getD 110 undef,tm.getD 111 undef,tm.getD 112 undef,tm.getD 113 undef,tm.getD 114 undef,tm.getD 115 undef,tm.getD 116 undef,tm.getD 117 undef,tm.getD 118 undef,tm.getD 119 undef,tm.getD 120 undef,tm.getD 121 undef,tm.getD 122 undef,tm.getD 123 undef,tm.getD 124 undef,tm.getD 125 undef,tm.getD 126 undef,tm.getD 127 undef,tm.getD 128 undef,tm.getD 129 undef,tm.getD 130 undef,tm.getD 131 undef,tm.getD 132 undef,tm.getD 133 undef,tm.getD 134 undef,tm.getD 135 undef,tm.getD 136 undef,tm.getD 137 undef,tm.getD 138 undef]:=by
 have e:tm=((List.range 139).map λi=>tm.getD i undef).toArray:=by
  apply Array.ext
  .simp[h]
  .intro i h1 h2
   simp[Array.getD_eq_getD_getElem?,h1]
 exact e.trans (by kernel_rfl)
theorem HH.eq {F aJ:Nat}{sv aw:Bool}{it old:Int}{tm:Array Value}(h:HH F aJ sv aw it old tm):tm=Pe F aJ sv aw it old λi=>tm.getD i undef:=by
 have h1:=slots tm h.size;rw[bX h.s0,bX h.s2,bX h.s3,bX h.s4,bX h.s5,bX h.s6] at h1;exact h1
theorem HQ.eq {F aJ:Nat}{sv:Bool}{tm:Array Value}(h:HQ F aJ sv tm):tm=OK F aJ sv λi=>tm.getD i undef:=by
 have h1:=slots tm h.size;rw[bX h.s0,bX h.s2,bX h.s3] at h1;exact h1
theorem HR.eq {F:Nat}{tm:Array Value}(h:HR F tm):tm=SI F λi=>tm.getD i undef:=by
 have h1:=slots tm h.size;rw[bX h.s0] at h1;exact h1
theorem aM {g g':Goroutine}(n m:Nat)(h:∀ws:Nat->World,yA PP false n g ws=some (g',(List.range m).map ws)):av PP false g g':=⟨n,m,h⟩
theorem aI {g:Goroutine}(h:∀ws:Nat->World,yA PP false 200 g ws=some (O g,(List.range (bJ PP false 200 g)).map ws)):av PP false g (O g):=⟨200,_,h⟩
section
variable (F:Nat)(fr:Frame)(cs:List Frame)(aJ:Nat)(it v:Int)(y:Nat->Value)
theorem abd:∃tm,HH F 0 false false 0 v tm/\av PP false (resume (Rj F fr cs) (.int .i32 v)) (gH F fr cs tm):=
 ⟨(On 5 (resume (Rj F fr cs) (.int .i32 v))).frame.tmps,⟨by kernel_rfl,by kernel_rfl,by kernel_rfl,by kernel_rfl,by kernel_rfl,by kernel_rfl,by kernel_rfl⟩,aM 5 (bJ PP false 5 (resume (Rj F fr cs) (.int .i32 v))) λws=>by kernel_rfl⟩
end
section
variable (F:Nat)(fr:Frame)(cs:List Frame)(aJ:Nat)(it v:Int)(y:Nat->Value)
def h0:Goroutine:=gH F fr cs (Pe F aJ false false it 0 y)
def b0:Goroutine:=O (h0 F fr cs aJ it y)
theorem ac6:av PP false (h0 F fr cs aJ it y) (b0 F fr cs aJ it y):=aI λws=>by kernel_rfl
abbrev c0:Goroutine:=b0 F fr cs aJ it y
theorem Y4:aG (c0 F fr cs aJ it y)=some (217,#[pt F,.int .i32 0,.int .i32 1]):=by kernel_rfl
def m0:Goroutine:=O (resume (c0 F fr cs aJ it y) (.bool false))
theorem Sf:av PP false (resume (c0 F fr cs aJ it y) (.bool false)) (m0 F fr cs aJ it y):=aI λws=>by kernel_rfl
theorem ab0:aS (m0 F fr cs aJ it y)=some (.load 21 (pt F)):=by kernel_rfl
theorem WE:(PP.funcs[(m0 F fr cs aJ it y).frame.fn]?).any (·.norace)=true:=by kernel_rfl
theorem ab1:∃tm,HH F aJ false false it v tm/\av PP false (resume (m0 F fr cs aJ it y) (.int .i32 v)) (gH F fr cs tm):=
 ⟨(On 4 (resume (m0 F fr cs aJ it y) (.int .i32 v))).frame.tmps,⟨by kernel_rfl,by kernel_rfl,by kernel_rfl,by kernel_rfl,by kernel_rfl,by kernel_rfl,by kernel_rfl⟩,aM 4 (bJ PP false 4 (resume (m0 F fr cs aJ it y) (.int .i32 v))) λws=>by kernel_rfl⟩
theorem Y3:∃tm,HR F tm/\av PP false (resume (c0 F fr cs aJ it y) (.bool true)) (gR F fr cs tm):=
 ⟨(On 11 (resume (c0 F fr cs aJ it y) (.bool true))).frame.tmps,⟨by kernel_rfl,by kernel_rfl⟩,aM 11 (bJ PP false 11 (resume (c0 F fr cs aJ it y) (.bool true))) λws=>by kernel_rfl⟩
end
section
variable (F:Nat)(fr:Frame)(cs:List Frame)(aJ:Nat)(it v:Int)(y:Nat->Value)
def h1:Goroutine:=gH F fr cs (Pe F aJ false false it 1 y)
def b1:Goroutine:=O (h1 F fr cs aJ it y)
theorem ac5:av PP false (h1 F fr cs aJ it y) (b1 F fr cs aJ it y):=aI λws=>by kernel_rfl
theorem ad6:aG (b1 F fr cs aJ it y)=some (221,#[.int .i64 it]):=by kernel_rfl
def c1:Goroutine:=O (resume (b1 F fr cs aJ it y) (.bool false))
theorem ad7:av PP false (resume (b1 F fr cs aJ it y) (.bool false)) (c1 F fr cs aJ it y):=aI λws=>by kernel_rfl
def d1:Goroutine:=O (resume (b1 F fr cs aJ it y) (.bool true))
theorem Y7:av PP false (resume (b1 F fr cs aJ it y) (.bool true)) (d1 F fr cs aJ it y):=aI λws=>by kernel_rfl
theorem adT:aG (d1 F fr cs aJ it y)=some (222,#[]):=by kernel_rfl
def e1:Goroutine:=O (resume (d1 F fr cs aJ it y) U)
theorem adS:av PP false (resume (d1 F fr cs aJ it y) U) (e1 F fr cs aJ it y):=aI λws=>by kernel_rfl
theorem adQ:aS (e1 F fr cs aJ it y)=some (.load 21 (pt F)):=by kernel_rfl
theorem YN:(PP.funcs[(e1 F fr cs aJ it y).frame.fn]?).any (·.norace)=true:=by kernel_rfl
theorem adR:∃tm,HH F aJ false false (IntKind.i64.wrap (it+1)) v tm/\av PP false (resume (e1 F fr cs aJ it y) (.int .i32 v)) (gH F fr cs tm):=
 ⟨(On 4 (resume (e1 F fr cs aJ it y) (.int .i32 v))).frame.tmps,⟨by kernel_rfl,by kernel_rfl,by kernel_rfl,by kernel_rfl,by kernel_rfl,by kernel_rfl,by kernel_rfl⟩,aM 4 (bJ PP false 4 (resume (e1 F fr cs aJ it y) (.int .i32 v))) λws=>by kernel_rfl⟩
theorem Y2:aG (c1 F fr cs aJ it y)=some (217,#[pt F,.int .i32 1,.int .i32 9]):=by kernel_rfl
def m1:Goroutine:=O (resume (c1 F fr cs aJ it y) (.bool false))
theorem Sb:av PP false (resume (c1 F fr cs aJ it y) (.bool false)) (m1 F fr cs aJ it y):=aI λws=>by kernel_rfl
theorem abY:aS (m1 F fr cs aJ it y)=some (.load 21 (pt F)):=by kernel_rfl
theorem WB:(PP.funcs[(m1 F fr cs aJ it y).frame.fn]?).any (·.norace)=true:=by kernel_rfl
theorem abZ:∃tm,HH F aJ false false it v tm/\av PP false (resume (m1 F fr cs aJ it y) (.int .i32 v)) (gH F fr cs tm):=
 ⟨(On 4 (resume (m1 F fr cs aJ it y) (.int .i32 v))).frame.tmps,⟨by kernel_rfl,by kernel_rfl,by kernel_rfl,by kernel_rfl,by kernel_rfl,by kernel_rfl,by kernel_rfl⟩,aM 4 (bJ PP false 4 (resume (m1 F fr cs aJ it y) (.int .i32 v))) λws=>by kernel_rfl⟩
def n1:Goroutine:=O (resume (c1 F fr cs 0 it y) (.bool true))
theorem Sd:av PP false (resume (c1 F fr cs 0 it y) (.bool true)) (n1 F fr cs it y):=aI λws=>by kernel_rfl
theorem Qw:aG (n1 F fr cs it y)=some (224,#[]):=by kernel_rfl
def p1:Goroutine:=O (resume (n1 F fr cs it y) (.int .i64 (aJ:Int)))
theorem abU:av PP false (resume (n1 F fr cs it y) (.int .i64 (aJ:Int))) (p1 F fr cs aJ it y):=aI λws=>by kernel_rfl
theorem Wb:aG (p1 F fr cs aJ it y)=some (225,#[p8 F,.bool false,.int .i64 2]):=by kernel_rfl
theorem abo:∃tm,HQ F aJ false tm/\av PP false (resume (p1 F fr cs aJ it y) U) (gQ F fr cs tm):=
 ⟨(On 1 (resume (p1 F fr cs aJ it y) U)).frame.tmps,⟨by kernel_rfl,by kernel_rfl,by kernel_rfl,by kernel_rfl⟩,aM 1 (bJ PP false 1 (resume (p1 F fr cs aJ it y) U)) λws=>by kernel_rfl⟩
def q1:Goroutine:=O (resume (c1 F fr cs (aJ+1) it y) (.bool true))
theorem Sc:av PP false (resume (c1 F fr cs (aJ+1) it y) (.bool true)) (q1 F fr cs aJ it y):=aI λws=>by kernel_rfl
theorem V5:aG (q1 F fr cs aJ it y)=some (225,#[p8 F,.bool true,.int .i64 2]):=by kernel_rfl
theorem abk:∃tm,HQ F (aJ+1) false tm/\av PP false (resume (q1 F fr cs aJ it y) U) (gQ F fr cs tm):=
 ⟨(On 1 (resume (q1 F fr cs aJ it y) U)).frame.tmps,⟨by kernel_rfl,by kernel_rfl,by kernel_rfl,by kernel_rfl⟩,aM 1 (bJ PP false 1 (resume (q1 F fr cs aJ it y) U)) λws=>by kernel_rfl⟩
end
section
variable (F:Nat)(fr:Frame)(cs:List Frame)(aJ:Nat)(it v:Int)(y:Nat->Value)
def h2:Goroutine:=gH F fr cs (Pe F aJ false false it 2 y)
def b2:Goroutine:=O (h2 F fr cs aJ it y)
theorem ac4:av PP false (h2 F fr cs aJ it y) (b2 F fr cs aJ it y):=aI λws=>by kernel_rfl
abbrev c2:Goroutine:=b2 F fr cs aJ it y
theorem Y1:aG (c2 F fr cs aJ it y)=some (217,#[pt F,.int .i32 2,.int .i32 3]):=by kernel_rfl
def m2:Goroutine:=O (resume (c2 F fr cs aJ it y) (.bool false))
theorem Sa:av PP false (resume (c2 F fr cs aJ it y) (.bool false)) (m2 F fr cs aJ it y):=aI λws=>by kernel_rfl
theorem abW:aS (m2 F fr cs aJ it y)=some (.load 21 (pt F)):=by kernel_rfl
theorem WA:(PP.funcs[(m2 F fr cs aJ it y).frame.fn]?).any (·.norace)=true:=by kernel_rfl
theorem abX:∃tm,HH F aJ false false it v tm/\av PP false (resume (m2 F fr cs aJ it y) (.int .i32 v)) (gH F fr cs tm):=
 ⟨(On 4 (resume (m2 F fr cs aJ it y) (.int .i32 v))).frame.tmps,⟨by kernel_rfl,by kernel_rfl,by kernel_rfl,by kernel_rfl,by kernel_rfl,by kernel_rfl,by kernel_rfl⟩,aM 4 (bJ PP false 4 (resume (m2 F fr cs aJ it y) (.int .i32 v))) λws=>by kernel_rfl⟩
theorem Y0:∃tm,HR F tm/\av PP false (resume (c2 F fr cs aJ it y) (.bool true)) (gR F fr cs tm):=
 ⟨(On 11 (resume (c2 F fr cs aJ it y) (.bool true))).frame.tmps,⟨by kernel_rfl,by kernel_rfl⟩,aM 11 (bJ PP false 11 (resume (c2 F fr cs aJ it y) (.bool true))) λws=>by kernel_rfl⟩
end
section
variable (F:Nat)(fr:Frame)(cs:List Frame)(aJ:Nat)(it v:Int)(y:Nat->Value)
def h2a:Goroutine:=gH F fr cs (Pe F aJ false true it 2 y)
def b2a:Goroutine:=O (h2a F fr cs aJ it y)
theorem XI:av PP false (h2a F fr cs aJ it y) (b2a F fr cs aJ it y):=aI λws=>by kernel_rfl
abbrev TG:Goroutine:=b2a F fr cs aJ it y
theorem R9:aG (TG F fr cs aJ it y)=some (217,#[pt F,.int .i32 2,.int .i32 1]):=by kernel_rfl
def Zv:Goroutine:=O (resume (TG F fr cs aJ it y) (.bool false))
theorem Oc:av PP false (resume (TG F fr cs aJ it y) (.bool false)) (Zv F fr cs aJ it y):=aI λws=>by kernel_rfl
theorem Wy:aS (Zv F fr cs aJ it y)=some (.load 21 (pt F)):=by kernel_rfl
theorem QF:(PP.funcs[(Zv F fr cs aJ it y).frame.fn]?).any (·.norace)=true:=by kernel_rfl
theorem Wz:∃tm,HH F aJ false true it v tm/\av PP false (resume (Zv F fr cs aJ it y) (.int .i32 v)) (gH F fr cs tm):=
 ⟨(On 4 (resume (Zv F fr cs aJ it y) (.int .i32 v))).frame.tmps,⟨by kernel_rfl,by kernel_rfl,by kernel_rfl,by kernel_rfl,by kernel_rfl,by kernel_rfl,by kernel_rfl⟩,aM 4 (bJ PP false 4 (resume (Zv F fr cs aJ it y) (.int .i32 v))) λws=>by kernel_rfl⟩
theorem R8:∃tm,HR F tm/\av PP false (resume (TG F fr cs aJ it y) (.bool true)) (gR F fr cs tm):=
 ⟨(On 11 (resume (TG F fr cs aJ it y) (.bool true))).frame.tmps,⟨by kernel_rfl,by kernel_rfl⟩,aM 11 (bJ PP false 11 (resume (TG F fr cs aJ it y) (.bool true))) λws=>by kernel_rfl⟩
end
section
variable (F:Nat)(fr:Frame)(cs:List Frame)(aJ:Nat)(it v:Int)(y:Nat->Value)
def ac3:Goroutine:=gH F fr cs (Pe F aJ true true it 2 y)
def ad5:Goroutine:=O (ac3 F fr cs aJ it y)
theorem Rf:av PP false (ac3 F fr cs aJ it y) (ad5 F fr cs aJ it y):=aI λws=>by kernel_rfl
abbrev DR:Goroutine:=ad5 F fr cs aJ it y
theorem Ob:aG (DR F fr cs aJ it y)=some (217,#[pt F,.int .i32 2,.int .i32 1]):=by kernel_rfl
def Jg:Goroutine:=O (resume (DR F fr cs aJ it y) (.bool false))
theorem Ki:av PP false (resume (DR F fr cs aJ it y) (.bool false)) (Jg F fr cs aJ it y):=aI λws=>by kernel_rfl
theorem QD:aS (Jg F fr cs aJ it y)=some (.load 21 (pt F)):=by kernel_rfl
theorem Mo:(PP.funcs[(Jg F fr cs aJ it y).frame.fn]?).any (·.norace)=true:=by kernel_rfl
theorem QE:∃tm,HH F aJ true true it v tm/\av PP false (resume (Jg F fr cs aJ it y) (.int .i32 v)) (gH F fr cs tm):=
 ⟨(On 4 (resume (Jg F fr cs aJ it y) (.int .i32 v))).frame.tmps,⟨by kernel_rfl,by kernel_rfl,by kernel_rfl,by kernel_rfl,by kernel_rfl,by kernel_rfl,by kernel_rfl⟩,aM 4 (bJ PP false 4 (resume (Jg F fr cs aJ it y) (.int .i32 v))) λws=>by kernel_rfl⟩
theorem Oa:∃tm,HR F tm/\av PP false (resume (DR F fr cs aJ it y) (.bool true)) (gR F fr cs tm):=
 ⟨(On 11 (resume (DR F fr cs aJ it y) (.bool true))).frame.tmps,⟨by kernel_rfl,by kernel_rfl⟩,aM 11 (bJ PP false 11 (resume (DR F fr cs aJ it y) (.bool true))) λws=>by kernel_rfl⟩
end
section
variable (F:Nat)(fr:Frame)(cs:List Frame)(aJ:Nat)(it v:Int)(y:Nat->Value)
def h3a:Goroutine:=gH F fr cs (Pe F aJ false true it 3 y)
def ZR:Goroutine:=O (h3a F fr cs aJ it y)
theorem XH:av PP false (h3a F fr cs aJ it y) (ZR F fr cs aJ it y):=aI λws=>by kernel_rfl
theorem Y5:aG (ZR F fr cs aJ it y)=some (221,#[.int .i64 it]):=by kernel_rfl
def OV:Goroutine:=O (resume (ZR F fr cs aJ it y) (.bool false))
theorem Y6:av PP false (resume (ZR F fr cs aJ it y) (.bool false)) (OV F fr cs aJ it y):=aI λws=>by kernel_rfl
def d3a:Goroutine:=O (resume (ZR F fr cs aJ it y) (.bool true))
theorem Sj:av PP false (resume (ZR F fr cs aJ it y) (.bool true)) (d3a F fr cs aJ it y):=aI λws=>by kernel_rfl
theorem YQ:aG (d3a F fr cs aJ it y)=some (222,#[]):=by kernel_rfl
def ZO:Goroutine:=O (resume (d3a F fr cs aJ it y) U)
theorem YP:av PP false (resume (d3a F fr cs aJ it y) U) (ZO F fr cs aJ it y):=aI λws=>by kernel_rfl
theorem YL:aS (ZO F fr cs aJ it y)=some (.load 21 (pt F)):=by kernel_rfl
theorem RK:(PP.funcs[(ZO F fr cs aJ it y).frame.fn]?).any (·.norace)=true:=by kernel_rfl
theorem YM:∃tm,HH F aJ false true (IntKind.i64.wrap (it+1)) v tm/\av PP false (resume (ZO F fr cs aJ it y) (.int .i32 v)) (gH F fr cs tm):=
 ⟨(On 4 (resume (ZO F fr cs aJ it y) (.int .i32 v))).frame.tmps,⟨by kernel_rfl,by kernel_rfl,by kernel_rfl,by kernel_rfl,by kernel_rfl,by kernel_rfl,by kernel_rfl⟩,aM 4 (bJ PP false 4 (resume (ZO F fr cs aJ it y) (.int .i32 v))) λws=>by kernel_rfl⟩
theorem R7:aG (OV F fr cs aJ it y)=some (217,#[pt F,.int .i32 3,.int .i32 9]):=by kernel_rfl
def Zu:Goroutine:=O (resume (OV F fr cs aJ it y) (.bool false))
theorem N7:av PP false (resume (OV F fr cs aJ it y) (.bool false)) (Zu F fr cs aJ it y):=aI λws=>by kernel_rfl
theorem Ww:aS (Zu F fr cs aJ it y)=some (.load 21 (pt F)):=by kernel_rfl
theorem QC:(PP.funcs[(Zu F fr cs aJ it y).frame.fn]?).any (·.norace)=true:=by kernel_rfl
theorem Wx:∃tm,HH F aJ false true it v tm/\av PP false (resume (Zu F fr cs aJ it y) (.int .i32 v)) (gH F fr cs tm):=
 ⟨(On 4 (resume (Zu F fr cs aJ it y) (.int .i32 v))).frame.tmps,⟨by kernel_rfl,by kernel_rfl,by kernel_rfl,by kernel_rfl,by kernel_rfl,by kernel_rfl,by kernel_rfl⟩,aM 4 (bJ PP false 4 (resume (Zu F fr cs aJ it y) (.int .i32 v))) λws=>by kernel_rfl⟩
def n3a:Goroutine:=O (resume (OV F fr cs 0 it y) (.bool true))
theorem N9:av PP false (resume (OV F fr cs 0 it y) (.bool true)) (n3a F fr cs it y):=aI λws=>by kernel_rfl
theorem Mh:aG (n3a F fr cs it y)=some (224,#[]):=by kernel_rfl
def p3a:Goroutine:=O (resume (n3a F fr cs it y) (.int .i64 (aJ:Int)))
theorem Wr:av PP false (resume (n3a F fr cs it y) (.int .i64 (aJ:Int))) (p3a F fr cs aJ it y):=aI λws=>by kernel_rfl
theorem Qe:aG (p3a F fr cs aJ it y)=some (225,#[p8 F,.bool false,.int .i64 2]):=by kernel_rfl
theorem Wa:∃tm,HQ F aJ false tm/\av PP false (resume (p3a F fr cs aJ it y) U) (gQ F fr cs tm):=
 ⟨(On 1 (resume (p3a F fr cs aJ it y) U)).frame.tmps,⟨by kernel_rfl,by kernel_rfl,by kernel_rfl,by kernel_rfl⟩,aM 1 (bJ PP false 1 (resume (p3a F fr cs aJ it y) U)) λws=>by kernel_rfl⟩
def q3a:Goroutine:=O (resume (OV F fr cs (aJ+1) it y) (.bool true))
theorem N8:av PP false (resume (OV F fr cs (aJ+1) it y) (.bool true)) (q3a F fr cs aJ it y):=aI λws=>by kernel_rfl
theorem P8:aG (q3a F fr cs aJ it y)=some (225,#[p8 F,.bool true,.int .i64 2]):=by kernel_rfl
theorem V4:∃tm,HQ F (aJ+1) false tm/\av PP false (resume (q3a F fr cs aJ it y) U) (gQ F fr cs tm):=
 ⟨(On 1 (resume (q3a F fr cs aJ it y) U)).frame.tmps,⟨by kernel_rfl,by kernel_rfl,by kernel_rfl,by kernel_rfl⟩,aM 1 (bJ PP false 1 (resume (q3a F fr cs aJ it y) U)) λws=>by kernel_rfl⟩
end
section
variable (F:Nat)(fr:Frame)(cs:List Frame)(aJ:Nat)(it v:Int)(y:Nat->Value)
def ac2:Goroutine:=gH F fr cs (Pe F aJ true true it 3 y)
def Kn:Goroutine:=O (ac2 F fr cs aJ it y)
theorem Re:av PP false (ac2 F fr cs aJ it y) (Kn F fr cs aJ it y):=aI λws=>by kernel_rfl
theorem Sg:aG (Kn F fr cs aJ it y)=some (221,#[.int .i64 it]):=by kernel_rfl
def zh:Goroutine:=O (resume (Kn F fr cs aJ it y) (.bool false))
theorem Si:av PP false (resume (Kn F fr cs aJ it y) (.bool false)) (zh F fr cs aJ it y):=aI λws=>by kernel_rfl
def RU:Goroutine:=O (resume (Kn F fr cs aJ it y) (.bool true))
theorem Oi:av PP false (resume (Kn F fr cs aJ it y) (.bool true)) (RU F fr cs aJ it y):=aI λws=>by kernel_rfl
theorem RS:aG (RU F fr cs aJ it y)=some (222,#[]):=by kernel_rfl
def JT:Goroutine:=O (resume (RU F fr cs aJ it y) U)
theorem RQ:av PP false (resume (RU F fr cs aJ it y) U) (JT F fr cs aJ it y):=aI λws=>by kernel_rfl
theorem RI:aS (JT F fr cs aJ it y)=some (.load 21 (pt F)):=by kernel_rfl
theorem NP:(PP.funcs[(JT F fr cs aJ it y).frame.fn]?).any (·.norace)=true:=by kernel_rfl
theorem RJ:∃tm,HH F aJ true true (IntKind.i64.wrap (it+1)) v tm/\av PP false (resume (JT F fr cs aJ it y) (.int .i32 v)) (gH F fr cs tm):=
 ⟨(On 4 (resume (JT F fr cs aJ it y) (.int .i32 v))).frame.tmps,⟨by kernel_rfl,by kernel_rfl,by kernel_rfl,by kernel_rfl,by kernel_rfl,by kernel_rfl,by kernel_rfl⟩,aM 4 (bJ PP false 4 (resume (JT F fr cs aJ it y) (.int .i32 v))) λws=>by kernel_rfl⟩
theorem N6:aG (zh F fr cs aJ it y)=some (217,#[pt F,.int .i32 3,.int .i32 13]):=by kernel_rfl
def Jf:Goroutine:=O (resume (zh F fr cs aJ it y) (.bool false))
theorem Kf:av PP false (resume (zh F fr cs aJ it y) (.bool false)) (Jf F fr cs aJ it y):=aI λws=>by kernel_rfl
theorem QA:aS (Jf F fr cs aJ it y)=some (.load 21 (pt F)):=by kernel_rfl
theorem Mn:(PP.funcs[(Jf F fr cs aJ it y).frame.fn]?).any (·.norace)=true:=by kernel_rfl
theorem QB:∃tm,HH F aJ true true it v tm/\av PP false (resume (Jf F fr cs aJ it y) (.int .i32 v)) (gH F fr cs tm):=
 ⟨(On 4 (resume (Jf F fr cs aJ it y) (.int .i32 v))).frame.tmps,⟨by kernel_rfl,by kernel_rfl,by kernel_rfl,by kernel_rfl,by kernel_rfl,by kernel_rfl,by kernel_rfl⟩,aM 4 (bJ PP false 4 (resume (Jf F fr cs aJ it y) (.int .i32 v))) λws=>by kernel_rfl⟩
def Qv:Goroutine:=O (resume (zh F fr cs 0 it y) (.bool true))
theorem Kh:av PP false (resume (zh F fr cs 0 it y) (.bool true)) (Qv F fr cs it y):=aI λws=>by kernel_rfl
theorem Jb:aG (Qv F fr cs it y)=some (224,#[]):=by kernel_rfl
def LY:Goroutine:=O (resume (Qv F fr cs it y) (.int .i64 (aJ:Int)))
theorem Qu:av PP false (resume (Qv F fr cs it y) (.int .i64 (aJ:Int))) (LY F fr cs aJ it y):=aI λws=>by kernel_rfl
theorem LX:aG (LY F fr cs aJ it y)=some (225,#[p8 F,.bool false,.int .i64 2]):=by kernel_rfl
theorem Qd:∃tm,HQ F aJ true tm/\av PP false (resume (LY F fr cs aJ it y) U) (gQ F fr cs tm):=
 ⟨(On 1 (resume (LY F fr cs aJ it y) U)).frame.tmps,⟨by kernel_rfl,by kernel_rfl,by kernel_rfl,by kernel_rfl⟩,aM 1 (bJ PP false 1 (resume (LY F fr cs aJ it y) U)) λws=>by kernel_rfl⟩
def LM:Goroutine:=O (resume (zh F fr cs (aJ+1) it y) (.bool true))
theorem Kg:av PP false (resume (zh F fr cs (aJ+1) it y) (.bool true)) (LM F fr cs aJ it y):=aI λws=>by kernel_rfl
theorem LL:aG (LM F fr cs aJ it y)=some (225,#[p8 F,.bool true,.int .i64 2]):=by kernel_rfl
theorem P6:∃tm,HQ F (aJ+1) true tm/\av PP false (resume (LM F fr cs aJ it y) U) (gQ F fr cs tm):=
 ⟨(On 1 (resume (LM F fr cs aJ it y) U)).frame.tmps,⟨by kernel_rfl,by kernel_rfl,by kernel_rfl,by kernel_rfl⟩,aM 1 (bJ PP false 1 (resume (LM F fr cs aJ it y) U)) λws=>by kernel_rfl⟩
end
section
variable (F:Nat)(fr:Frame)(cs:List Frame)(aJ:Nat)(it v:Int)(y:Nat->Value)
def h12:Goroutine:=gH F fr cs (Pe F aJ false false it 12 y)
def b12:Goroutine:=O (h12 F fr cs aJ it y)
theorem XJ:av PP false (h12 F fr cs aJ it y) (b12 F fr cs aJ it y):=aI λws=>by kernel_rfl
abbrev c12:Goroutine:=b12 F fr cs aJ it y
theorem Se:aG (c12 F fr cs aJ it y)=some (217,#[pt F,.int .i32 12,.int .i32 20]):=by kernel_rfl
def m12:Goroutine:=O (resume (c12 F fr cs aJ it y) (.bool false))
theorem Od:av PP false (resume (c12 F fr cs aJ it y) (.bool false)) (m12 F fr cs aJ it y):=aI λws=>by kernel_rfl
theorem WC:aS (m12 F fr cs aJ it y)=some (.load 21 (pt F)):=by kernel_rfl
theorem QG:(PP.funcs[(m12 F fr cs aJ it y).frame.fn]?).any (·.norace)=true:=by kernel_rfl
theorem WD:∃tm,HH F aJ false false it v tm/\av PP false (resume (m12 F fr cs aJ it y) (.int .i32 v)) (gH F fr cs tm):=
 ⟨(On 4 (resume (m12 F fr cs aJ it y) (.int .i32 v))).frame.tmps,⟨by kernel_rfl,by kernel_rfl,by kernel_rfl,by kernel_rfl,by kernel_rfl,by kernel_rfl,by kernel_rfl⟩,aM 4 (bJ PP false 4 (resume (m12 F fr cs aJ it y) (.int .i32 v))) λws=>by kernel_rfl⟩
def n12:Goroutine:=O (resume (c12 F fr cs 0 it y) (.bool true))
theorem Of:av PP false (resume (c12 F fr cs 0 it y) (.bool true)) (n12 F fr cs it y):=aI λws=>by kernel_rfl
theorem Mi:aG (n12 F fr cs it y)=some (224,#[]):=by kernel_rfl
def p12:Goroutine:=O (resume (n12 F fr cs it y) (.int .i64 (aJ:Int)))
theorem Ws:av PP false (resume (n12 F fr cs it y) (.int .i64 (aJ:Int))) (p12 F fr cs aJ it y):=aI λws=>by kernel_rfl
theorem Qf:aG (p12 F fr cs aJ it y)=some (225,#[p8 F,.bool false,.int .i64 2]):=by kernel_rfl
theorem Wc:∃tm,HQ F aJ false tm/\av PP false (resume (p12 F fr cs aJ it y) U) (gQ F fr cs tm):=
 ⟨(On 1 (resume (p12 F fr cs aJ it y) U)).frame.tmps,⟨by kernel_rfl,by kernel_rfl,by kernel_rfl,by kernel_rfl⟩,aM 1 (bJ PP false 1 (resume (p12 F fr cs aJ it y) U)) λws=>by kernel_rfl⟩
def q12:Goroutine:=O (resume (c12 F fr cs (aJ+1) it y) (.bool true))
theorem Oe:av PP false (resume (c12 F fr cs (aJ+1) it y) (.bool true)) (q12 F fr cs aJ it y):=aI λws=>by kernel_rfl
theorem P9:aG (q12 F fr cs aJ it y)=some (225,#[p8 F,.bool true,.int .i64 2]):=by kernel_rfl
theorem V6:∃tm,HQ F (aJ+1) false tm/\av PP false (resume (q12 F fr cs aJ it y) U) (gQ F fr cs tm):=
 ⟨(On 1 (resume (q12 F fr cs aJ it y) U)).frame.tmps,⟨by kernel_rfl,by kernel_rfl,by kernel_rfl,by kernel_rfl⟩,aM 1 (bJ PP false 1 (resume (q12 F fr cs aJ it y) U)) λws=>by kernel_rfl⟩
end
section
variable (F:Nat)(fr:Frame)(cs:List Frame)(aJ:Nat)(it v:Int)(y:Nat->Value)
def qF:Goroutine:=O (gQ F fr cs (OK F aJ false y))
theorem abg:av PP false (gQ F fr cs (OK F aJ false y)) (qF F fr cs aJ y):=aI λws=>by kernel_rfl
theorem P5:aG (qF F fr cs aJ y)=some (224,#[]):=by kernel_rfl
def late (m:Nat):Bool:=match((On 6 (resume (qF F fr cs aJ y) (.int .i64 (m:Int)))).frame.tmps[3]? :Option Value) with|some (.bool b)=>b|_=>false
theorem abf (m:Nat):∃tm,HQ F aJ (late F fr cs aJ y m) tm/\av PP false (resume (qF F fr cs aJ y) (.int .i64 (m:Int))) (gN F fr cs tm):=
 ⟨(On 6 (resume (qF F fr cs aJ y) (.int .i64 (m:Int)))).frame.tmps,⟨by kernel_rfl,by kernel_rfl,by kernel_rfl,by kernel_rfl⟩,aM 6 (bJ PP false 6 (resume (qF F fr cs aJ y) (.int .i64 (m:Int)))) λws=>by kernel_rfl⟩
theorem abe:∃tm,HQ F aJ true tm/\av PP false (gQ F fr cs (OK F aJ true y)) (gN F fr cs tm):=
 ⟨(On 11 (gQ F fr cs (OK F aJ true y))).frame.tmps,⟨by kernel_rfl,by kernel_rfl,by kernel_rfl,by kernel_rfl⟩,aM 11 (bJ PP false 11 (gQ F fr cs (OK F aJ true y))) λws=>by kernel_rfl⟩
def f:Goroutine:=O (gN F fr cs (OK F aJ false y))
theorem ah1:av PP false (gN F fr cs (OK F aJ false y)) (f F fr cs aJ y):=aI λws=>by kernel_rfl
theorem ah0:aS (f F fr cs aJ y)=some (.load 21 (pt F)):=by kernel_rfl
theorem ady:(PP.funcs[(f F fr cs aJ y).frame.fn]?).any (·.norace)=true:=by kernel_rfl
theorem f_2:∃tm,HH F aJ false true 0 2 tm/\av PP false (resume (f F fr cs aJ y) (.int .i32 2)) (gH F fr cs tm):=
 ⟨(On 20 (resume (f F fr cs aJ y) (.int .i32 2))).frame.tmps,⟨by kernel_rfl,by kernel_rfl,by kernel_rfl,by kernel_rfl,by kernel_rfl,by kernel_rfl,by kernel_rfl⟩,aM 20 (bJ PP false 20 (resume (f F fr cs aJ y) (.int .i32 2))) λws=>by kernel_rfl⟩
theorem f_3:∃tm,HH F aJ false true 0 3 tm/\av PP false (resume (f F fr cs aJ y) (.int .i32 3)) (gH F fr cs tm):=
 ⟨(On 20 (resume (f F fr cs aJ y) (.int .i32 3))).frame.tmps,⟨by kernel_rfl,by kernel_rfl,by kernel_rfl,by kernel_rfl,by kernel_rfl,by kernel_rfl,by kernel_rfl⟩,aM 20 (bJ PP false 20 (resume (f F fr cs aJ y) (.int .i32 3))) λws=>by kernel_rfl⟩
def j12:Goroutine:=O (resume (f F fr cs aJ y) (.int .i32 12))
theorem ah3:av PP false (resume (f F fr cs aJ y) (.int .i32 12)) (j12 F fr cs aJ y):=aI λws=>by kernel_rfl
theorem QU:aG (j12 F fr cs aJ y)=some (219,#[pt F,.int .i32 (-11)]):=by kernel_rfl
theorem Xi:∃tm,HR F tm/\av PP false (resume (j12 F fr cs aJ y) (.int .i32 v)) (gR F fr cs tm):=
 ⟨(On 2 (resume (j12 F fr cs aJ y) (.int .i32 v))).frame.tmps,⟨by kernel_rfl,by kernel_rfl⟩,aM 2 (bJ PP false 2 (resume (j12 F fr cs aJ y) (.int .i32 v))) λws=>by kernel_rfl⟩
def j20:Goroutine:=O (resume (f F fr cs aJ y) (.int .i32 20))
theorem ah2:av PP false (resume (f F fr cs aJ y) (.int .i32 20)) (j20 F fr cs aJ y):=aI λws=>by kernel_rfl
theorem QT:aG (j20 F fr cs aJ y)=some (219,#[pt F,.int .i32 (-11)]):=by kernel_rfl
theorem Xh:∃tm,HR F tm/\av PP false (resume (j20 F fr cs aJ y) (.int .i32 v)) (gR F fr cs tm):=
 ⟨(On 2 (resume (j20 F fr cs aJ y) (.int .i32 v))).frame.tmps,⟨by kernel_rfl,by kernel_rfl⟩,aM 2 (bJ PP false 2 (resume (j20 F fr cs aJ y) (.int .i32 v))) λws=>by kernel_rfl⟩
def fs:Goroutine:=O (gN F fr cs (OK F aJ true y))
theorem adq:av PP false (gN F fr cs (OK F aJ true y)) (fs F fr cs aJ y):=aI λws=>by kernel_rfl
theorem adp:aS (fs F fr cs aJ y)=some (.load 21 (pt F)):=by kernel_rfl
theorem Yt:(PP.funcs[(fs F fr cs aJ y).frame.fn]?).any (·.norace)=true:=by kernel_rfl
theorem ahT:∃tm,HH F aJ true true 0 2 tm/\av PP false (resume (fs F fr cs aJ y) (.int .i32 2)) (gH F fr cs tm):=
 ⟨(On 20 (resume (fs F fr cs aJ y) (.int .i32 2))).frame.tmps,⟨by kernel_rfl,by kernel_rfl,by kernel_rfl,by kernel_rfl,by kernel_rfl,by kernel_rfl,by kernel_rfl⟩,aM 20 (bJ PP false 20 (resume (fs F fr cs aJ y) (.int .i32 2))) λws=>by kernel_rfl⟩
theorem ahS:∃tm,HH F aJ true true 0 3 tm/\av PP false (resume (fs F fr cs aJ y) (.int .i32 3)) (gH F fr cs tm):=
 ⟨(On 20 (resume (fs F fr cs aJ y) (.int .i32 3))).frame.tmps,⟨by kernel_rfl,by kernel_rfl,by kernel_rfl,by kernel_rfl,by kernel_rfl,by kernel_rfl,by kernel_rfl⟩,aM 20 (bJ PP false 20 (resume (fs F fr cs aJ y) (.int .i32 3))) λws=>by kernel_rfl⟩
def MC:Goroutine:=O (resume (fs F fr cs aJ y) (.int .i32 12))
theorem ads:av PP false (resume (fs F fr cs aJ y) (.int .i32 12)) (MC F fr cs aJ y):=aI λws=>by kernel_rfl
theorem Mz:aG (MC F fr cs aJ y)=some (219,#[pt F,.int .i32 (-11)]):=by kernel_rfl
theorem QS:∃tm,HR F tm/\av PP false (resume (MC F fr cs aJ y) (.int .i32 v)) (gR F fr cs tm):=
 ⟨(On 2 (resume (MC F fr cs aJ y) (.int .i32 v))).frame.tmps,⟨by kernel_rfl,by kernel_rfl⟩,aM 2 (bJ PP false 2 (resume (MC F fr cs aJ y) (.int .i32 v))) λws=>by kernel_rfl⟩
def My:Goroutine:=O (resume (fs F fr cs aJ y) (.int .i32 20))
theorem adr:av PP false (resume (fs F fr cs aJ y) (.int .i32 20)) (My F fr cs aJ y):=aI λws=>by kernel_rfl
theorem Mx:aG (My F fr cs aJ y)=some (219,#[pt F,.int .i32 (-7)]):=by kernel_rfl
theorem QR:∃tm,HR F tm/\av PP false (resume (My F fr cs aJ y) (.int .i32 v)) (gR F fr cs tm):=
 ⟨(On 2 (resume (My F fr cs aJ y) (.int .i32 v))).frame.tmps,⟨by kernel_rfl,by kernel_rfl⟩,aM 2 (bJ PP false 2 (resume (My F fr cs aJ y) (.int .i32 v))) λws=>by kernel_rfl⟩
end
section
variable (F:Nat)(fr:Frame)(cs:List Frame)(aJ:Nat)(it v:Int)(y:Nat->Value)
def rE:Goroutine:=O (gR F fr cs (SI F y))
theorem abb:av PP false (gR F fr cs (SI F y)) (rE F fr cs y):=aI λws=>by kernel_rfl
theorem aba:aG (rE F fr cs y)=some (170,#[]):=by kernel_rfl
def rV:Goroutine:=O (resume (rE F fr cs y) U)
theorem aa9:av PP false (resume (rE F fr cs y) U) (rV F fr cs y):=aI λws=>by kernel_rfl
theorem aa8:aS (rV F fr cs y)=some (.conv (zc (rV 0 default [] λ_=>undef)) (z8 (rV 0 default [] λ_=>undef)) (pt F)):=by kernel_rfl
theorem agu:PP.underlying (zc (rV 0 default [] λ_=>undef))=some (.pointer (z7 (rV 0 default [] λ_=>undef))):=by kernel_rfl
theorem agv:PP.underlying (z8 (rV 0 default [] λ_=>undef))=some .unsafePointer:=by kernel_rfl
theorem agt:(PP.info? (z7 (rV 0 default [] λ_=>undef))).map (λi=>decide (i.size=0))=some false:=by kernel_rfl
def rA:Goroutine:=O (resume (rV F fr cs y) (pt F))
theorem aa7:av PP false (resume (rV F fr cs y) (pt F)) (rA F fr cs y):=aI λws=>by kernel_rfl
theorem VY:aG (rA F fr cs y)=some (171,#[pt F]):=by kernel_rfl
theorem abc:av PP false (resume (rA F fr cs y) U) (cA fr cs U):=aM 9 (bJ PP false 9 (resume (rA F fr cs y) U)) λws=>by kernel_rfl
end
end aF
end
end
end Go.Proofs.YtchcmhodnkgojaaGreat
