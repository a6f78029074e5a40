/- On the way to the last text; put together and shortened by program. -/
import Derived.Test.YtchcmhodnkgojaaGreatPart6
import Derived.Laws.MakeOwn
import Derived.Test.YtchcmhodnkgojaaGreatShelf
import Derived.OwnWalk
import Derived.DeepKeys
import Derived.Test.YtchcmhodnkgojaaGreatProg
import Derived.Laws.LoneSync
import Derived.Conc.SmallLaws
set_option linter.all false
set_option maxRecDepth 100000
set_option maxHeartbeats 8000000
namespace Go.Proofs.YtchcmhodnkgojaaGreat
noncomputable section
section
open Go.RowKit Go.Lib
def ft (root:List UInt8)(i:Int)(b:UInt8):List UInt8:=if i=-1 then root else root.set (10+i.toNat) b
def aZ (root:List UInt8)(takes frees:Int):List UInt8:=ft (ft root takes 1) frees 0
def DS.mark (x:DS)(takes frees:Int):DS:=
 if x.bp then(x.write 0 (aZ (x.read 0) takes frees)).flush else x.write 0 (aZ (x.read 0) takes frees)
def DS.jh (x:DS)(takes frees:Int):Bool:=x.bp&&(x.write 0 (aZ (x.read 0) takes frees)).bp
theorem du (root:List UInt8)(i:Int)(b:UInt8):(ft root i b).length=root.length:=by unfold ft;split<;>simp
theorem gW (l:List UInt8)(i:Nat)(b:UInt8):(byteCells (l.set i b)).toArray=(byteCells l).toArray.setIfInBounds i (.int .u8 b.toNat):=by
 simp[byteCells,List.map_set]
theorem B0 {w:World}{F:List Nat}{d n:Nat}{x:DS}(h:bM w F d n x):(x.read 0).length=64:=by
 obtain⟨bl,vw,h,_⟩:=h;exact bq _ _ (by rw[h.len];have:=h.lo;simp;omega) _ h.d8
theorem bM.size {w:World}{F:List Nat}{d n:Nat}{x:DS}(h:bM w F d n x):16<=n/\n<=400:=by
 obtain⟨bl,vw,h,_⟩:=h;exact⟨h.lo,h.hi⟩
theorem BZ (F:List Nat)(d n:Nat)(x:DS)(s:Int)(w:World)(h:bM w F d n x)(hs:0<=s)(hn:s<n):
  Calls Tryz.prog 114 #[.pointer (some ⟨d,0,none⟩),.int .i64 s] w fun e w'=>e= .returned (.agg (byteCells (x.read s)).toArray)/\aR [] w w':=by
 obtain⟨bl,vw,h,_⟩:=h;exact vV d bl n vw x s w h hs hn
theorem DS.i6 {x:DS}{s:Int}{l:List UInt8}{r:Nat}(h:x.Fit (r+1))(hc:x.bp=true):(x.write s l).Fit r:=by
 have h1:=h.jT;have h2:=h.jS;have h3:=h.jR;have h4:=h.jQ;unfold DS.write;rw[if_pos hc];unfold DS.bp at hc;refine⟨by simp[DS.iC];omega,by simp[DS.iC];omega,?_,?_⟩
 .simp only[DS.iC]
  split
  .rename_i hg
   simp[hg] at hc;have:=hc.2;omega
  .exact h3
 .simp only[DS.iC]
  split<;>omega
section
variable {P:Program}{ops:Array Oper}{Q:Exit->Act->World->Prop}{a:Act}{w:World}{rest:List Oper}{o:Oper}
theorem fO (hg:o.guard=none)(t:TypeId)(x y:Operand)(ho:o.op= .store t x y)(b off:Nat)(hx:a.eval x= .pointer (some ⟨b,off,none⟩))(k:IntKind)(v:Int)(hy:a.eval y= .int k v)(c:Array Value)(u:TypeId)(hr:Row w b c u)(hfit:off<c.size)(h:∀w1:World,aR [b] w w1->Row w1 b (c.setIfInBounds off (.int k v)) u->wpList P ops Q rest (a.put o.dst undef) w1)(hi:(P.info? t).map (·.size)=some 1:=by kernel_rfl):wpList P ops Q (o::rest) a w:=by
 refine zB hg (w.setCell ⟨b,off,none⟩ (.int k v)) ?_ (h _ (aR.setCell _ _ _ _) (hr.setCell _ _));have hc:=hr.cell off;have hf:=hr.thaw off;have hs:c[off]? =some c[off]:=by simp[hfit]
 rw[hs] at hc;have hst:(store ((⟨b,off,none⟩:Addr).add 0) (.int k v)).run P w= .ok () (w.setCell ⟨b,off,none⟩ (.int k v)):=by
  rw[Addr.add_mid,Nat.add_zero,run_store P w _ _ _ rfl,hc];simp[hf]
 cases hq:P.info? t with
 |none=>simp[hq] at hi
 |some i=>
  have h1:i.size=1:=by simpa [hq] using hi
  simp[execOp,ho,hx,hy,Instr.storeAt,Instr.sureAddr,storeVar,sizeOf,typeInfo,hq,h1,Value.cells,storeCells,hst]
end
theorem zc (F:List Nat)(d n:Nat)(x:DS)(takes frees:Int)(w:World)(h:bM w F d n x)(hx:x.Fit 2)(gS:x.waiting.length<60)(ht0:-1<=takes)(ht1:takes<54)(hf0:-1<=frees)(hf1:frees<54):
  Calls Tryz.prog 111 #[.pointer (some ⟨d,0,none⟩),.int .i64 takes,.int .i64 frees] w fun e w'=>e= .returned (cK (x.jh takes frees))/\∃F',bM w' F' d n (x.mark takes frees)/\aR F w w'/\bP F F' w:=by
 have hsz:=h.size;have ru:=B0 h;go_enter Tryz.func111,Tryz.ntmps111;go_wp2_with fail;refine(BZ F d n x 0 w h (by omega) (by omega)).mono ?_;rintro e w1 ⟨rfl,f1⟩;go_wp2_with (with_reducible first|refine aA rfl ?_|refine ah 148 rfl ?_);refine ax.go (bv rfl 148 rfl eN dH ?_);intro w2 b7 l7 f2 r7
 go_wp2_with (with_reducible first|refine aA rfl ?_|refine ah 148 rfl ?_);refine ax.go (bT rfl 148 _ _ rfl _ 0 rfl _ rfl 64 br ?_ ?_ _ _ r7 ?_ ?_)
 .simp only[List.size_toArray,af];exact ru
 .exact byteCells_one _
 .decide
 intro w3 f3 sG;rw[bO _ _ (by rw[af,ru];rfl)] at sG;have f13:aR [] w w3:=(f1.trans f2).trans f3 (by simp;have:=f1.size;omega);have l7w:w.heap.size<=b7:=by have:=f1.size;omega
 have HR:Hid ((x.read 0).length=64):=ru;clear r7 f1 f2 f3 ru;have hlt1:Hid (∀r:List UInt8,r.length=64->∀i:Int,0<=i->i<54->(10+i).toNat<(byteCells r).toArray.size/\(byteCells r).toArray.setIfInBounds (10+i).toNat (.int .u8 1)=(byteCells (ft r i 1)).toArray/\(byteCells r).toArray.setIfInBounds (10+i).toNat (.int .u8 0)=(byteCells (ft r i 0)).toArray):=by
  intro r hr i h0 h54;have e:(10+i).toNat=10+i.toNat:=by omega
  have hne:i≠-1:=by omega
  refine⟨by simp[af,hr];omega,?_,?_⟩
  .rw[ft,if_neg hne,gW,e];rfl
  .rw[ft,if_neg hne,gW,e];rfl
 by_cases h1:takes=-1
 .subst h1
  by_cases h2:frees=-1
  .subst h2
   go_wp2_with (with_reducible first|refine az 148 rfl ?_|refine ah 5 rfl ?_);have hml:Hid ((aZ (x.read 0) (-1) (-1)).length=64):=by show _=_;unfold aZ;rw[du,du];exact HR.out
   have q7:Row w3 b7 (byteCells (aZ (x.read 0) (-1) (-1))).toArray 148:=sG;have h3:=h.new f13;refine ax.go (bY rfl 148 _ rfl b7 0 rfl dy 64 br _ _ q7 (byteCells (aZ (x.read 0) (-1) (-1))) ?_ ?_ ?_)
   .simp only[List.drop_zero];exact List.take_of_length_le (by rw[af];exact Nat.le_of_eq hml.out)
   .rw[af];exact hml.out
   go_wp2_with fail;refine(ka F d n x 0 (aZ (x.read 0) (-1) (-1)) w3 h3 ⟨hx.jT,by have:=hx.jS;omega,hx.jR,hx.jQ⟩ hml.out gS).mono ?_;rintro e w8 ⟨rfl,F8,h8,f8,g8⟩;have qt:aR F w w8:=(f13.mono (by simp):aR F w w3).trans f8 (fun i hi=> .inl hi);have EB:bP F F8 w:=fun k hk=>(g8 k hk).imp id (fun hh=>by have:=f13.size;omega)
   have Eu:=qt.size;have HM:Hid (x.mark (-1) (-1)=if x.bp then(x.write 0 (aZ (x.read 0) (-1) (-1))).flush else x.write 0 (aZ (x.read 0) (-1) (-1))):=rfl;have HO:Hid (x.jh (-1) (-1)=(x.bp&&(x.write 0 (aZ (x.read 0) (-1) (-1))).bp)):=rfl;have hfit:Hid (x.bp=true->(x.write 0 (aZ (x.read 0) (-1) (-1))).Fit 1):=fun hc=>DS.i6 hx hc
   have xJ:∀R:Value×DS,R=R:=fun _=>rfl
   clear xJ q7 h3 f8 g8;generalize x.write 0 (aZ (x.read 0) (-1) (-1))=y at*;cases hc:x.bp with
   |true=>
    simp only[cK,if_true];go_wp2_with fail;refine(kD F8 d n y w8 h8 (hfit.out hc)).mono ?_;rintro e w9 ⟨rfl,F9,h9,f9,g9⟩;go_wp2_with fail;go_ret;refine⟨?_,F9,?_,qt.trans f9 (fun i hi=>EB i hi),EB.trans g9 Eu⟩
    .rw[HO.out,hc];simp
    .rw[HM.out,hc];simpa using h9
   |false=>
    simp only[cK];go_wp2_with fail;go_ret;refine⟨?_,F8,?_,qt,EB⟩
    .rw[HO.out,hc];rfl
    .rw[HM.out,hc];simpa using h8
  .have hb2:(frees==-1)=false:=by simpa using h2
   go_wp2_with (with_reducible first|refine az 148 rfl ?_|refine ah 5 rfl ?_);have za:=hlt1.out (x.read 0) (by exact HR.out) frees (by omega) (by omega);refine ax.go (fO rfl 5 _ _ rfl b7 (10+frees).toNat rfl .u8 0 rfl _ _ sG za.1 ?_);intro wa fa ra;rw[za.2.2] at ra;have ga:aR [] w wa:=f13.trans fa (by simpa using l7w);clear za
   go_wp2_with (with_reducible first|refine az 148 rfl ?_|refine ah 5 rfl ?_);have hml:Hid ((aZ (x.read 0) (-1) frees).length=64):=by show _=_;unfold aZ;rw[du,du];exact HR.out
   have q7:Row wa b7 (byteCells (aZ (x.read 0) (-1) frees)).toArray 148:=ra;have h3:=h.new ga;refine ax.go (bY rfl 148 _ rfl b7 0 rfl dy 64 br _ _ q7 (byteCells (aZ (x.read 0) (-1) frees)) ?_ ?_ ?_)
   .simp only[List.drop_zero];exact List.take_of_length_le (by rw[af];exact Nat.le_of_eq hml.out)
   .rw[af];exact hml.out
   go_wp2_with fail;refine(ka F d n x 0 (aZ (x.read 0) (-1) frees) wa h3 ⟨hx.jT,by have:=hx.jS;omega,hx.jR,hx.jQ⟩ hml.out gS).mono ?_;rintro e w8 ⟨rfl,F8,h8,f8,g8⟩;have qt:aR F w w8:=(ga.mono (by simp):aR F w wa).trans f8 (fun i hi=> .inl hi);have EB:bP F F8 w:=fun k hk=>(g8 k hk).imp id (fun hh=>by have:=ga.size;omega)
   have Eu:=qt.size;have HM:Hid (x.mark (-1) frees=if x.bp then(x.write 0 (aZ (x.read 0) (-1) frees)).flush else x.write 0 (aZ (x.read 0) (-1) frees)):=rfl;have HO:Hid (x.jh (-1) frees=(x.bp&&(x.write 0 (aZ (x.read 0) (-1) frees)).bp)):=rfl;have hfit:Hid (x.bp=true->(x.write 0 (aZ (x.read 0) (-1) frees)).Fit 1):=fun hc=>DS.i6 hx hc
   have xJ:∀R:Value×DS,R=R:=fun _=>rfl
   clear xJ q7 h3 f8 g8;generalize x.write 0 (aZ (x.read 0) (-1) frees)=y at*;cases hc:x.bp with
   |true=>
    simp only[cK,if_true];go_wp2_with fail;refine(kD F8 d n y w8 h8 (hfit.out hc)).mono ?_;rintro e w9 ⟨rfl,F9,h9,f9,g9⟩;go_wp2_with fail;go_ret;refine⟨?_,F9,?_,qt.trans f9 (fun i hi=>EB i hi),EB.trans g9 Eu⟩
    .rw[HO.out,hc];simp
    .rw[HM.out,hc];simpa using h9
   |false=>
    simp only[cK];go_wp2_with fail;go_ret;refine⟨?_,F8,?_,qt,EB⟩
    .rw[HO.out,hc];rfl
    .rw[HM.out,hc];simpa using h8
 .have hb1:(takes==-1)=false:=by simpa using h1
  by_cases h2:frees=-1
  .subst h2
   go_wp2_with (with_reducible first|refine az 148 rfl ?_|refine ah 5 rfl ?_);have za:=hlt1.out (x.read 0) (by exact HR.out) takes (by omega) (by omega);refine ax.go (fO rfl 5 _ _ rfl b7 (10+takes).toNat rfl .u8 1 rfl _ _ sG za.1 ?_);intro wa fa ra;rw[za.2.1] at ra;have ga:aR [] w wa:=f13.trans fa (by simpa using l7w);clear za
   go_wp2_with (with_reducible first|refine az 148 rfl ?_|refine ah 5 rfl ?_);have hml:Hid ((aZ (x.read 0) takes (-1)).length=64):=by show _=_;unfold aZ;rw[du,du];exact HR.out
   have q7:Row wa b7 (byteCells (aZ (x.read 0) takes (-1))).toArray 148:=ra;have h3:=h.new ga;refine ax.go (bY rfl 148 _ rfl b7 0 rfl dy 64 br _ _ q7 (byteCells (aZ (x.read 0) takes (-1))) ?_ ?_ ?_)
   .simp only[List.drop_zero];exact List.take_of_length_le (by rw[af];exact Nat.le_of_eq hml.out)
   .rw[af];exact hml.out
   go_wp2_with fail;refine(ka F d n x 0 (aZ (x.read 0) takes (-1)) wa h3 ⟨hx.jT,by have:=hx.jS;omega,hx.jR,hx.jQ⟩ hml.out gS).mono ?_;rintro e w8 ⟨rfl,F8,h8,f8,g8⟩;have qt:aR F w w8:=(ga.mono (by simp):aR F w wa).trans f8 (fun i hi=> .inl hi);have EB:bP F F8 w:=fun k hk=>(g8 k hk).imp id (fun hh=>by have:=ga.size;omega)
   have Eu:=qt.size;have HM:Hid (x.mark takes (-1)=if x.bp then(x.write 0 (aZ (x.read 0) takes (-1))).flush else x.write 0 (aZ (x.read 0) takes (-1))):=rfl;have HO:Hid (x.jh takes (-1)=(x.bp&&(x.write 0 (aZ (x.read 0) takes (-1))).bp)):=rfl;have hfit:Hid (x.bp=true->(x.write 0 (aZ (x.read 0) takes (-1))).Fit 1):=fun hc=>DS.i6 hx hc
   have xJ:∀R:Value×DS,R=R:=fun _=>rfl
   clear xJ q7 h3 f8 g8;generalize x.write 0 (aZ (x.read 0) takes (-1))=y at*;cases hc:x.bp with
   |true=>
    simp only[cK,if_true];go_wp2_with fail;refine(kD F8 d n y w8 h8 (hfit.out hc)).mono ?_;rintro e w9 ⟨rfl,F9,h9,f9,g9⟩;go_wp2_with fail;go_ret;refine⟨?_,F9,?_,qt.trans f9 (fun i hi=>EB i hi),EB.trans g9 Eu⟩
    .rw[HO.out,hc];simp
    .rw[HM.out,hc];simpa using h9
   |false=>
    simp only[cK];go_wp2_with fail;go_ret;refine⟨?_,F8,?_,qt,EB⟩
    .rw[HO.out,hc];rfl
    .rw[HM.out,hc];simpa using h8
  .have hb2:(frees==-1)=false:=by simpa using h2
   go_wp2_with (with_reducible first|refine az 148 rfl ?_|refine ah 5 rfl ?_);have za:=hlt1.out (x.read 0) (by exact HR.out) takes (by omega) (by omega);refine ax.go (fO rfl 5 _ _ rfl b7 (10+takes).toNat rfl .u8 1 rfl _ _ sG za.1 ?_);intro wa fa ra;rw[za.2.1] at ra;have ga:aR [] w wa:=f13.trans fa (by simpa using l7w);clear za
   go_wp2_with (with_reducible first|refine az 148 rfl ?_|refine ah 5 rfl ?_);have zb:=hlt1.out (ft (x.read 0) takes 1) (by rw[du];exact HR.out) frees (by omega) (by omega);refine ax.go (fO rfl 5 _ _ rfl b7 (10+frees).toNat rfl .u8 0 rfl _ _ ra zb.1 ?_);intro wb fb rb;rw[zb.2.2] at rb;have gb:aR [] w wb:=ga.trans fb (by simpa using l7w)
   clear zb;go_wp2_with (with_reducible first|refine az 148 rfl ?_|refine ah 5 rfl ?_);have hml:Hid ((aZ (x.read 0) takes frees).length=64):=by show _=_;unfold aZ;rw[du,du];exact HR.out
   have q7:Row wb b7 (byteCells (aZ (x.read 0) takes frees)).toArray 148:=rb;have h3:=h.new gb;refine ax.go (bY rfl 148 _ rfl b7 0 rfl dy 64 br _ _ q7 (byteCells (aZ (x.read 0) takes frees)) ?_ ?_ ?_)
   .simp only[List.drop_zero];exact List.take_of_length_le (by rw[af];exact Nat.le_of_eq hml.out)
   .rw[af];exact hml.out
   go_wp2_with fail;refine(ka F d n x 0 (aZ (x.read 0) takes frees) wb h3 ⟨hx.jT,by have:=hx.jS;omega,hx.jR,hx.jQ⟩ hml.out gS).mono ?_;rintro e w8 ⟨rfl,F8,h8,f8,g8⟩;have qt:aR F w w8:=(gb.mono (by simp):aR F w wb).trans f8 (fun i hi=> .inl hi);have EB:bP F F8 w:=fun k hk=>(g8 k hk).imp id (fun hh=>by have:=gb.size;omega)
   have Eu:=qt.size;have HM:Hid (x.mark takes frees=if x.bp then(x.write 0 (aZ (x.read 0) takes frees)).flush else x.write 0 (aZ (x.read 0) takes frees)):=rfl;have HO:Hid (x.jh takes frees=(x.bp&&(x.write 0 (aZ (x.read 0) takes frees)).bp)):=rfl;have hfit:Hid (x.bp=true->(x.write 0 (aZ (x.read 0) takes frees)).Fit 1):=fun hc=>DS.i6 hx hc
   have xJ:∀R:Value×DS,R=R:=fun _=>rfl
   clear xJ q7 h3 f8 g8;generalize x.write 0 (aZ (x.read 0) takes frees)=y at*;cases hc:x.bp with
   |true=>
    simp only[cK,if_true];go_wp2_with fail;refine(kD F8 d n y w8 h8 (hfit.out hc)).mono ?_;rintro e w9 ⟨rfl,F9,h9,f9,g9⟩;go_wp2_with fail;go_ret;refine⟨?_,F9,?_,qt.trans f9 (fun i hi=>EB i hi),EB.trans g9 Eu⟩
    .rw[HO.out,hc];simp
    .rw[HM.out,hc];simpa using h9
   |false=>
    simp only[cK];go_wp2_with fail;go_ret;refine⟨?_,F8,?_,qt,EB⟩
    .rw[HO.out,hc];rfl
    .rw[HM.out,hc];simpa using h8
def dR (root:List UInt8)(m:Nat):Nat->Nat->Int
 |0,_=>-1
 |f+1,k=>if k<m then(if db root k==0 then k else dR root m f (k+1)) else -1
def dQ (x:DS)(n:Nat):Int:=dR (x.read 0) (aN n) (aN n) 0
theorem Cn (root:List UInt8)(i:Nat):(((db root i).toNat:Int)==0)=(db root i==0):=by
 rw[Bool.eq_iff_iff];simp[<-UInt8.toNat_inj]
theorem og (root:List UInt8)(m:Nat):∀(f k:Nat),dR root m f k=-1\/∃i:Nat,i<m/\dR root m f k=i/\db root i=0
 |0,_=> .inl rfl
 |f+1,k=>by
  unfold dR
  by_cases h:k<m
  .rw[if_pos h]
   by_cases h2:(db root k==0)=true
   .exact .inr ⟨k,h,by simp[h2],by simpa using h2⟩
   .rw[if_neg h2];exact og root m f (k+1)
  .rw[if_neg h];exact .inl rfl
theorem AE (F:List Nat)(d n:Nat)(x:DS)(w:World)(h:bM w F d n x):
  Calls Tryz.prog 108 #[.pointer (some ⟨d,0,none⟩)] w fun e w'=>e= .returned (.int .i64 (dQ x n))/\aR [] w w':=by
 have hsz:=h.size;have ru:=B0 h;go_enter Tryz.func108,Tryz.ntmps108;go_wp2_with fail;refine(BZ F d n x 0 w h (by omega) (by omega)).mono ?_;rintro e w1 ⟨rfl,f1⟩;go_wp2_with (with_reducible first|refine aA rfl ?_|refine ah 148 rfl ?_);refine ax.go (bv rfl 148 rfl eN dH ?_);intro w2 b4 l4 f2 r4
 go_wp2_with (with_reducible first|refine aA rfl ?_|refine ah 148 rfl ?_);refine ax.go (bT rfl 148 _ _ rfl _ 0 rfl _ rfl 64 br ?_ ?_ _ _ r4 ?_ ?_)
 .simp only[List.size_toArray,af];exact ru
 .exact byteCells_one _
 .decide
 intro w3 f3 D5;rw[bO _ _ (by rw[af,ru];rfl)] at D5;have f13:aR [] w w3:=(f1.trans f2).trans f3 (by simp;have:=f1.size;omega);have h3:=h.new f13;clear r4 f3 f2;obtain⟨bl,vw,h3',_⟩:=h3;go_wp2_with fail;refine(nO d bl n vw x w3 h3').mono ?_;rintro e w4 ⟨rfl,rfl⟩;go_wp2_with fail;refine(lz n hsz.1 hsz.2 _).mono ?_;rintro e w4 ⟨rfl,rfl⟩
 go_wp2_with fail;have hns:aN n<=54:=by unfold aN;omega
 have l4w:w.heap.size<=b4:=by have:=f1.size;omega
 have HF0:Hid (dQ x n=dR (x.read 0) (aN n) (aN n) 0):=rfl
 go_loopw [10] (fun i wr=>∃k:Nat,i= .int .i64 k/\k<=aN n/\wr=w4/\Hid (dQ x n=dR (x.read 0) (aN n) (aN n-k) k)) (fun i _=>aN n-(intOf i).toNat)
 case atStart=>exact⟨0,rfl,by omega,rfl,HF0⟩
 case round=>
  obtain⟨k,rfl,hk,rfl,HF⟩:=hrel
  by_cases hlt:k<aN n
  .have hc:wr.cell? ⟨b4,10+k,none⟩=some (.int .u8 (db (x.read 0) k).toNat):=by
    rw[D5.cell];simp[byteCells,db,List.getD_eq_getElem?_getD];rw[List.getElem?_eq_getElem (by omega)];exact⟨_,rfl,rfl⟩
   have HR:Hid ((x.read 0).length=64):=ru;clear ru;have hm1:=Cn (x.read 0) k;have hstep:Hid (dR (x.read 0) (aN n) (aN n-k) k=if db (x.read 0) k==0 then(k:Int) else dR (x.read 0) (aN n) (aN n-(k+1)) (k+1)):=by
    show _=_;rw[show aN n-k=(aN n-(k+1))+1 by omega,dR,if_pos hlt]
   by_cases hm:(db (x.read 0) k==0)=true
   .have hb:(((db (x.read 0) k).toNat:Int)==0)=true:=by rw[hm1];exact hm
    have HM:Hid ((db (x.read 0) k==0)=true):=hm;clear hm hm1;go_wp2_with fail;go_ret;refine⟨oP ?_,f13⟩;rw[HF.out,hstep.out,if_pos HM.out]
   .have hm':(db (x.read 0) k==0)=false:=by simpa using hm
    have hb:(((db (x.read 0) k).toNat:Int)==0)=false:=by rw[hm1];exact hm'
    have HM:Hid ((db (x.read 0) k==0)=false):=hm';clear hm hm' hm1;go_wp2_with fail
    go_roundw
    case rel=>
     refine⟨k+1,by go_num,by omega,trivial,?_⟩;show _=_;rw[HF.out,hstep.out,if_neg (by rw[HM.out];simp)]
    case measure=>simp[intOf];omega
  .have HK:Hid (k=aN n):=(by omega:k=aN n)
   go_wp2_with fail;go_ret;refine⟨oP ?_,f13⟩;rw[HF.out,HK.out,Nat.sub_self];rfl
def splice (l:List UInt8)(o:Nat)(v:List UInt8):List UInt8:=l.take o++v++l.drop (o+v.length)
theorem kX (l:List UInt8)(o:Nat)(v:List UInt8):over (byteCells l).toArray o (byteCells v)=(byteCells (splice l o v)).toArray:=by
 simp[over,splice,byteCells_append,ez,eA,af]
theorem length_splice (l:List UInt8)(o:Nat)(v:List UInt8)(h:o+v.length<=l.length):(splice l o v).length=l.length:=by
 simp[splice];omega
def dO (s p c:Nat):List UInt8:=(((List.replicate 128 (0:UInt8)).set 0 (UInt8.ofNat s)).set 1 (UInt8.ofNat p)).set 2 (UInt8.ofNat c)
def cO (s:Nat)(p c:List UInt8):List UInt8:=splice (splice (dO s p.length c.length) 3 (p.take 8)) 11 (c.take 117)
theorem ew (s p c:Nat):(dO s p c).length=128:=by simp[dO]
theorem pN (s:Nat)(p c:List UInt8):(cO s p c).length=128:=by
 unfold cO;rw[length_splice _ _ _ (by rw[length_splice _ _ _ (by rw[ew,List.length_take];omega),ew,List.length_take];omega),length_splice _ _ _ (by rw[ew,List.length_take];omega),ew]
theorem Ez (s p c:Nat)(hs:s<256)(hp:p<256)(hc:c<256):(((byteCells (List.replicate 128 0)).toArray.setIfInBounds 0 (.int .u8 s)).setIfInBounds 1 (.int .u8 p)).setIfInBounds 2 (.int .u8 c)=(byteCells (dO s p c)).toArray:=by
 unfold dO;rw[gW,gW,gW];simp[hs,hp,hc,Nat.mod_eq_of_lt]
theorem EO (s:Nat)(p c:ByteArray)(w:World)(hs:s<256)(hp:p.size<256)(hc:c.size<256):
  Calls Tryz.prog 110 #[.agg #[.int .i64 s,.string p,.string c]] w fun e w'=>e= .returned (.agg (byteCells (cO s p.data.toList c.data.toList)).toArray)/\aR [] w w':=by
 have hpl:Hid (p.data.toList.length=p.size):=by show _=_;rw[Array.length_toList];rfl
 have hcl:Hid (c.data.toList.length=c.size):=by show _=_;rw[Array.length_toList];rfl
 go_enter Tryz.func110,Tryz.ntmps110;go_wp2_with (with_reducible first|refine bL rfl ?_|refine aA rfl ?_|refine az 138 rfl ?_|refine ah 138 rfl ?_|refine ah 5 rfl ?_);refine ax.go (ii rfl 107 _ rfl (.agg #[.int .i64 s,.string p,.string c]) rfl ?_);intro w1 b1 l1 f1 r1
 go_wp2_with (with_reducible first|refine bL rfl ?_|refine aA rfl ?_|refine az 138 rfl ?_|refine ah 138 rfl ?_|refine ah 5 rfl ?_);refine ax.go (bv rfl 138 rfl oH kN ?_);intro w2 b2 l2 f2 r2
 go_wp2_with (with_reducible first|refine bL rfl ?_|refine aA rfl ?_|refine az 138 rfl ?_|refine ah 138 rfl ?_|refine ah 5 rfl ?_);refine ax.go (bv rfl 138 rfl oH kN ?_);intro w3 b3 l3 f3 r3;have q1:Row w3 b1 #[.int .i64 s,.string p,.string c] 107:=f3.row (f2.row r1 (by simp));have q2:=f3.row r2
 have f13:=(f1.trans f2).trans f3;have hb2:w.heap.size<=b2:=by have:=f1.size;omega
 have hb3:w.heap.size<=b3:=by have:=f1.size;have:=f2.size;omega
 have n12:b1≠b2:=by have:=r1.lt;omega
 have n13:b1≠b3:=by have:=r1.lt;have:=f2.size;omega
 have n23:b2≠b3:=by have:=r2.lt;omega
 have r3':Row w3 b3 (byteCells (List.replicate 128 0)).toArray 138:=r3;clear r1 r2 r3 f1 f2 f3 l1 l2 l3;have c0:w3.cell? ⟨b1,0,none⟩=some (.int .i64 s):=by rw[q1.cell];rfl
 go_wp2_with (with_reducible first|refine bL rfl ?_|refine aA rfl ?_|refine az 138 rfl ?_|refine ah 138 rfl ?_|refine ah 5 rfl ?_);refine ax.go (fO rfl 5 _ _ rfl b3 0 rfl .u8 s rfl _ _ r3' (by simp only[List.size_toArray,af,List.length_replicate];omega) ?_);intro w4 f4 r4;have q1a:=f4.row q1 (by simpa using n13)
 have q2a:=f4.row q2 (by simpa using n23);have c1:w4.cell? ⟨b1,1,none⟩=some (.string p):=by rw[q1a.cell];rfl
 clear c0;go_wp2_with (with_reducible first|refine bL rfl ?_|refine aA rfl ?_|refine az 138 rfl ?_|refine ah 138 rfl ?_|refine ah 5 rfl ?_);refine ax.go (fO rfl 5 _ _ rfl b3 1 rfl .u8 p.size rfl _ _ r4 (by simp only[Array.size_setIfInBounds,List.size_toArray,af,List.length_replicate];omega) ?_);intro w5 f5 r5
 have q1b:=f5.row q1a (by simpa using n13);have q2b:=f5.row q2a (by simpa using n23);have c2:w5.cell? ⟨b1,2,none⟩=some (.string c):=by rw[q1b.cell];rfl
 clear c1;go_wp2_with (with_reducible first|refine bL rfl ?_|refine aA rfl ?_|refine az 138 rfl ?_|refine ah 138 rfl ?_|refine ah 5 rfl ?_);refine ax.go (fO rfl 5 _ _ rfl b3 2 rfl .u8 c.size rfl _ _ r5 (by simp only[Array.size_setIfInBounds,List.size_toArray,af,List.length_replicate];omega) ?_);intro w6 f6 r6
 have q1c:=f6.row q1b (by simpa using n13);have q2c:=f6.row q2b (by simpa using n23);rw[Ez s p.size c.size hs hp hc] at r6;have fw:aR [] w w6:=((f13.trans f4 (by simpa using hb3)).trans f5 (by simpa using hb3)).trans f6 (by simpa using hb3);clear c2 f4 f5 f6 r4 r5 q1a q1b q2a q2b q1 q2 r3' f13
 go_wp2_with (with_reducible first|refine bL rfl ?_|refine aA rfl ?_|refine az 138 rfl ?_|refine ah 138 rfl ?_|refine ah 5 rfl ?_)
 refine fg 5 rfl ?_;have fd:aR [] w6 w6.drew:=aR.drew _ _;have q1:=fd.row q1c;have q2:=fd.row q2c;have q3:=fd.row r6;have xP:=fw.trans fd;generalize w6.drew=w7 at q1 q2 q3 xP;clear q1c q2c r6 fw fd
 have hC:Lets (fun w':World=>Row w' b1 #[.int .i64 s,.string p,.string c] 107):=⟨fun w o h=>(aR.alloc [] w o).row h,fun w h=>h⟩
 refine bQ 0 (some 20) rfl rfl (fun _ _ _ h=>h) rfl (v:= .slice (some ⟨b3,3,none⟩) 8 125) (fun _=>jM 138 5 128 _ _ _ rfl Tryz.underlying138 (by kernel_rfl) b3 0 rfl 3 11 rfl rfl (by omega) (by omega) (by omega) (by omega) _ _ _ (by omega) (by omega) (by omega)) ?_
 refine bQ 1 (some 21) rfl rfl (fun _ _ _ h=>h) rfl (v:= .pointer (some ⟨b1,0,none⟩)) (fun _=>by go_simp) ?_;simp only[Act.put,aX,aY,aW];refine bQ 2 (some 22) rfl rfl (fun _ _ _ h=>h) rfl (v:= .pointer (some ⟨b1,1,none⟩)) (fun _=>by go_simp) ?_
 refine lk 3 _ hC q1 (some 23) rfl rfl (fun _ _ _ h=>h) rfl (v:= .string p) (fun w' hw'=>by have:=hw'.cell 1;go_simp) ?_;simp only[Act.put,aX,aY,aW];refine qp 4 (some 24) rfl rfl rfl _ _ (k8 _ _ _ _ 5 rfl Tryz.underlying85 b3 3 8 125 rfl p rfl _ _ q3 ?_) ?_
 .simp only[List.size_toArray,af,ew];have:Nat.min p.size 8<=8:=Nat.min_le_right _ _;omega
 rw[kX];refine lp ?_;have q3':=q3.setRow (byteCells (splice (dO s p.size c.size) 3 (p.data.toList.take 8))).toArray;have f8:aR [b3] w7 (w7.setRow b3 (byteCells (splice (dO s p.size c.size) 3 (p.data.toList.take 8))).toArray):=aR.setRow _ _ _ _;have q1':=f8.row q1 (by simpa using n13);have q2':=f8.row q2 (by simpa using n23)
 have qt:aR [] w _:=xP.trans f8 (by simpa using hb3);generalize w7.setRow b3 (byteCells (splice (dO s p.size c.size) 3 (p.data.toList.take 8))).toArray=w8 at q1' q2' q3' qt;clear q1 q2 q3 f8 xP;simp only[Act.put,aX,aY,aW]
 go_wp2_with (with_reducible first|refine bL rfl ?_|refine aA rfl ?_|refine az 138 rfl ?_|refine ah 138 rfl ?_|refine ah 5 rfl ?_)
 refine fg 4 rfl ?_;have fd:aR [] w8 w8.drew:=aR.drew _ _;have q1:=fd.row q1';have q2:=fd.row q2';have q3:=fd.row q3';have YA:=qt.trans fd;generalize w8.drew=w9 at q1 q2 q3 YA;clear q1' q2' q3' qt fd
 refine bQ 0 (some 25) rfl rfl (fun _ _ _ h=>h) rfl (v:= .slice (some ⟨b3,11,none⟩) 117 117) (fun _=>lJ 138 5 128 _ _ rfl Tryz.underlying138 (by kernel_rfl) b3 0 rfl 11 rfl (by omega) (by omega) _ _ (by omega) (by omega)) ?_
 refine bQ 1 (some 26) rfl rfl (fun _ _ _ h=>h) rfl (v:= .pointer (some ⟨b1,2,none⟩)) (fun _=>by go_simp) ?_;refine lk 2 _ hC q1 (some 27) rfl rfl (fun _ _ _ h=>h) rfl (v:= .string c) (fun w' hw'=>by have:=hw'.cell 2;go_simp) ?_
 simp only[Act.put,aX,aY,aW];have hsp:(splice (dO s p.size c.size) 3 (p.data.toList.take 8)).length=128:=by rw[length_splice _ _ _ (by rw[ew,List.length_take];omega),ew]
 refine qp 3 (some 28) rfl rfl rfl _ _ (k8 _ _ _ _ 5 rfl Tryz.underlying85 b3 11 117 117 rfl c rfl _ _ q3 ?_) ?_
 .simp only[List.size_toArray,af,hsp];have:Nat.min c.size 117<=117:=Nat.min_le_right _ _;omega
 rw[kX];refine lp ?_;have er:splice (splice (dO s p.size c.size) 3 (p.data.toList.take 8)) 11 (c.data.toList.take 117)=cO s p.data.toList c.data.toList:=by unfold cO;rw[hpl.out,hcl.out]
 rw[er];have q3':=q3.setRow (byteCells (cO s p.data.toList c.data.toList)).toArray;have f10:aR [b3] w9 (w9.setRow b3 (byteCells (cO s p.data.toList c.data.toList)).toArray):=aR.setRow _ _ _ _;have q2':=f10.row q2 (by simpa using n23);have acb:aR [] w _:=YA.trans f10 (by simpa using hb3)
 generalize w9.setRow b3 (byteCells (cO s p.data.toList c.data.toList)).toArray=w10 at q2' q3' acb;have h128:Hid ((cO s p.data.toList c.data.toList).length=128):=pN _ _ _;clear q1 q2 q3 f10 YA er hsp hC;simp only[Act.put,aX,aY,aW]
 go_wp2_with (with_reducible first|refine bL rfl ?_|refine aA rfl ?_|refine az 138 rfl ?_|refine ah 138 rfl ?_|refine ah 5 rfl ?_);refine ax.go (bY rfl 138 _ rfl b3 0 rfl mr 128 iz _ _ q3' (byteCells (cO s p.data.toList c.data.toList)) ?_ ?_ ?_)
 .simp only[List.drop_zero];exact List.take_of_length_le (by rw[af];exact Nat.le_of_eq h128.out)
 .rw[af];exact h128.out
 go_wp2_with (with_reducible first|refine bL rfl ?_|refine aA rfl ?_|refine az 138 rfl ?_|refine ah 138 rfl ?_|refine ah 5 rfl ?_);refine ax.go (bT rfl 138 _ _ rfl _ 0 rfl _ rfl 128 iz ?_ ?_ _ _ q2' ?_ ?_)
 .simp only[List.size_toArray,af];exact h128.out
 .exact byteCells_one _
 .decide
 intro w11 f11 q11;rw[bO _ _ (by simp only[af];rw[h128.out];rfl)] at q11;have agA:aR [] w w11:=acb.trans f11 (by simpa using hb2);go_wp2_with (with_reducible first|refine bL rfl ?_|refine aA rfl ?_|refine az 138 rfl ?_|refine ah 138 rfl ?_|refine ah 5 rfl ?_)
 exact kV rfl b2 rfl rfl _ _ q11 mr (by simp only[List.size_toArray,af];rw[h128.out];exact iz) ⟨rfl,agA⟩
theorem QV (t:TypeId)(a b c:Int)(w:World)(h:a+b=c)(h0:0<=c)(h1:c<=9223372036854775807):(binOp .add t (.int .i64 a) (.int .i64 b)).run Tryz.prog w= .ok (.int .i64 c) w:=by
 subst h;have:=IntWalk.i64_in (a+b) (by omega);go_simp
def DS.wr (x:DS)(i:Nat)(r:List UInt8):Nat->DS
 |0=>x
 |k+1=>(x.wr i r k).write (1+2*i+k:Nat) ((r.drop (k*64)).take 64)
def DS.ng (x:DS)(i:Nat)(r:List UInt8):DS:=if x.bp then(if(x.wr i r 1).bp then(x.wr i r 2).flush else x.wr i r 2) else x.wr i r 1
def DS.jI (x:DS)(i:Nat)(r:List UInt8):Bool:=x.bp&&(x.wr i r 1).bp&&(x.wr i r 2).bp
theorem DS.GL {x:DS}{s:Int}{l:List UInt8}{m:Nat}(h:x.waiting.length<=m):(x.write s l).waiting.length<=m+1:=by
 unfold DS.write DS.stopped DS.fall;split
 .simp;omega
 .split
  .omega
  .simp
theorem DS.Jy {x:DS}{i:Nat}{r:List UInt8}{m:Nat}(h:x.waiting.length<=m):∀k,(x.wr i r k).waiting.length<=m+k
 |0=>h
 |k+1=>DS.GL (DS.Jy h k)
theorem DS.Dv {x:DS}{i:Nat}{r:List UInt8}{m:Nat}:∀k,x.Fit (m+k)->(∀j,j<k->(x.wr i r j).bp=true)->(x.wr i r k).Fit m
 |0,h,_=>h
 |k+1,h,hc=>DS.i6 (DS.Dv (m:=m+1) k (by rw[show m+1+k=m+(k+1) by omega];exact h) fun j hj=>hc j (by omega)) (hc k (by omega))
section
variable {P:Program}{ops:Array Oper}{Q:Exit->Act->World->Prop}
theorem Di {n:Nat}(k:Nat){oi:Oper}{a:Act}{w:World}(hk:k<n)(dst:Option Tmp)(hi:ops[k]? =some oi)(hd:oi.dst=dst)(hr:Region.ready .any ops (upto n k)=[k])(hg:oi.guard=none)
  (f:FuncId) (args:Array Value) (hx:(execOp a.eval oi).run P w= .ok (.enter f args) w) (R:Ending->World->Prop) (hc:Calls P f args w R)
  (h:∀e w',R e w'->∃v,e= .returned v/\At P ops Q n (k+1) (a.put dst v) w'):At P ops Q n k a w:=
 at_one k hk hi hr hg fun K hK=>by
  unfold Oper.wp;rw[hx];simp only[Oper.upon];refine hc.mono ?_;intro e w' he;obtain⟨v,rfl,hv⟩:=h e w' he;rw[hd];exact hK _ _ hv
end
theorem sf (F:List Nat)(d n:Nat)(x:DS)(i:Nat)(r:List UInt8)(w:World)(h:bM w F d n x)(hx:x.Fit 3)(gS:x.waiting.length<55)(hi:i<aN n)(hr:r.length=128):
  Calls Tryz.prog 109 #[.pointer (some ⟨d,0,none⟩),.int .i64 i,.agg (byteCells r).toArray] w fun e w'=>e= .returned (cK (x.jI i r))/\∃F',bM w' F' d n (x.ng i r)/\aR F w w'/\bP F F' w:=by
 have hsz:=h.size;have aga:i<54:=by unfold aN at hi;omega
 have hin:2*i+2<n:=by unfold aN at hi;omega
 go_enter Tryz.func109,Tryz.ntmps109;go_wp2_with (with_reducible first|refine bL rfl ?_|refine aA rfl ?_|refine az 138 rfl ?_);refine ax.go (ii rfl 138 _ rfl (.agg (byteCells r).toArray) rfl ?_);intro w1 b5 l5 f1 r5;have h1:=h.new f1;have n5:b5∉F:=fun hF=>by have:=h.lt _ hF;omega
 have HR:Hid (r.length=128):=hr;clear hr;go_wp2_with (with_reducible first|refine bL rfl ?_|refine aA rfl ?_|refine az 138 rfl ?_);have HW:Hid (∀k,k<2->x.wr i r (k+1)=(x.wr i r k).write (1+2*i+k:Nat) ((r.drop (k*64)).take 64)):=fun k _=>rfl
 have abN:Hid (∀k,k<=2->(∀j,j<k->(x.wr i r j).bp=true)->(x.wr i r k).Fit 1):=fun k hk hc=>DS.Dv k ⟨hx.jT,by have:=hx.jS;omega,hx.jR,hx.jQ⟩ hc
 have ago:Hid (∀k,k<=2->(x.wr i r k).waiting.length<60):=fun k hk=>by have:=DS.Jy (x:=x) (i:=i) (r:=r) (Nat.le_refl _) k;omega
 have H0:Hid (x.wr i r 0=x):=rfl;have X4:Hid (x.ng i r=if x.bp then(if(x.wr i r 1).bp then(x.wr i r 2).flush else x.wr i r 2) else x.wr i r 1):=rfl;have HOk:Hid (x.jI i r=(x.bp&&(x.wr i r 1).bp&&(x.wr i r 2).bp)):=rfl;have h1':bM w1 F d n (x.wr i r 0):=h1;generalize x.wr i r=y at*
 go_loopw [10] (fun c wr=>∃k:Nat,c= .int .i64 k/\k<=2/\Hid (∀j,j<k->(y j).bp=true)/\∃F',bM wr F' d n (y k)/\aR F w wr/\Hid (bP F F' w)/\Row wr b5 (byteCells r).toArray 138/\Hid (b5∉F')) (fun c _=>2-(intOf c).toNat)
 case atStart=>exact⟨0,rfl,by omega,fun j hj=>by omega,F,h1',f1.mono,bP.refl _ _,r5,n5⟩
 case round=>
  obtain⟨k,rfl,hk,HC,F',ho,fk,gk,q5,n5'⟩:=hrel;clear h1 h1' f1 r5
  by_cases hlt:k<2
  .go_wp2_with (with_reducible first|refine bL rfl ?_|refine aA rfl ?_|refine az 138 rfl ?_)
   refine ax.go (bv rfl 148 rfl eN dH ?_);intro w2 b8 l8 f2 r8;have q5a:=f2.row q5;have hoa:=ho.new f2;have fka:=fk.trans f2;have n58:b5≠b8:=by have:=q5.lt;omega
   have n8:b8∉F':=fun hF=>by have:=ho.lt _ hF;omega
   have n8w:w.heap.size<=b8:=by have:=fk.size;omega
   clear q5 ho fk f2 l8;go_wp2_with fail;refine fg 5 rfl ?_;have fd:aR [] w2 w2.drew:=aR.drew _ _;have q5b:=fd.row q5a;have q8b:Row w2.drew b8 eN.cells 148:=fd.row r8;have Yo:=hoa.new fd;have fkb:=fka.trans fd;generalize w2.drew=w3 at q5b q8b Yo fkb;clear q5a r8 hoa fka fd
   refine bQ 0 (some 13) rfl rfl (fun _ _ _ h=>h) rfl (v:= .slice (some ⟨b8,0,none⟩) 64 64) (fun _=>by go_simp) ?_;refine bQ 1 (some 14) rfl rfl (fun _ _ _ h=>h) rfl (v:= .int .i64 k) (fun _=>rfl) ?_
   refine bQ 2 (some 15) rfl rfl (fun _ _ _ h=>h) rfl (v:= .int .i64 (k*64)) (fun _=>by go_simp;exact IntWalk.i64_in _ (by omega)) ?_;simp only[Act.put,aX,aY,aW]
   refine bQ 3 (some 16) rfl rfl (fun _ _ _ h=>h) rfl (v:= .slice (some ⟨b5,k*64,none⟩) (128-k*64) (128-k*64)) (fun _=>lJ 138 5 128 _ _ rfl Tryz.underlying138 (by kernel_rfl) b5 0 rfl (k*64) rfl (by omega) (by omega) _ _ (by omega) (by omega)) ?_;simp only[Act.put,aX,aY,aW]
   have hmin:Nat.min (128-k*64) 64=64:=Nat.min_eq_right (by omega);have hseg:((r.drop (k*64)).take 64).length=64:=by rw[List.length_take,List.length_drop,HR.out];omega
   refine qp 4 (some 17) rfl rfl rfl _ _ (Gr _ _ _ _ 5 rfl Tryz.underlying85 (by kernel_rfl) b8 0 _ _ rfl b5 (k*64) _ _ rfl _ _ q8b _ _ q5b (byteCells ((r.drop (k*64)).take 64)) ?_ ?_ ?_ (byteCells_one _)) ?_
   .rw[hmin];rw[eA,ez]
   .rw[hmin,af,hseg]
   .rw[af,hseg];decide
   rw[bO _ _ (by rw[af,hseg];rfl)];refine lp ?_;have q8c:=q8b.setRow (byteCells ((r.drop (k*64)).take 64)).toArray;have f3:aR [b8] w3 (w3.setRow b8 (byteCells ((r.drop (k*64)).take 64)).toArray):=aR.setRow _ _ _ _;have q5c:=f3.row q5b (by simpa using n58);have hoc:=Yo.wV f3 (by simpa using n8);have fkc:=fkb.trans f3 (by simp;omega)
   have QX:Hid (((r.drop (k*64)).take 64).length=64):=hseg;generalize hsg:(r.drop (k*64)).take 64=seg at*;have HSG:Hid ((r.drop (k*64)).take 64=seg):=hsg;generalize w3.setRow b8 (byteCells seg).toArray=w4 at q8c q5c hoc fkc;clear q8b q5b Yo fkb f3 hmin hseg hsg;simp only[Act.put,aX,aY,aW];go_wp2_with fail;refine fg 8 rfl ?_;have fd:aR [] w4 w4.drew:=aR.drew _ _
   have q5:=fd.row q5c;have q8:=fd.row q8c;have ho:=hoc.new fd;have fk:=fkc.trans fd;generalize w4.drew=w5 at q5 q8 ho fk;clear q5c q8c hoc fkc fd;have hC:Lets (fun w':World=>Row w' b8 (byteCells seg).toArray 148):=⟨fun w o h=>(aR.alloc [] w o).row h,fun w h=>h⟩
   refine bQ 0 (some 18) rfl rfl (fun _ _ _ h=>h) rfl (v:= .pointer (some ⟨d,0,none⟩)) (fun _=>rfl) ?_;refine bQ 1 (some 19) rfl rfl (fun _ _ _ h=>h) rfl (v:= .int .i64 i) (fun _=>rfl) ?_;simp only[Act.put,aX,aY,aW]
   refine QS 2 _ hC q8 (by omega) (some 20) rfl rfl (by kernel_rfl) (by kernel_rfl) (by kernel_rfl) rfl (by kernel_rfl) 115 #[.int .i64 i] (.int .i64 (1+2*i:Nat)) (fun _ _ _ h=>h) (fun _=>by go_simp) (fun w' _=>m9 i (by omega) w') ?_;refine bQ 3 (some 21) rfl rfl (fun _ _ _ h=>h) rfl (v:= .int .i64 k) (fun _=>rfl) ?_
   simp only[Act.put,aX,aY,aW];have afV:((1+2*i:Nat):Int)<=400:=by omega
   refine bQ 4 (some 22) rfl rfl (fun _ _ _ h=>h) rfl (v:= .int .i64 (1+2*i+k:Nat)) (fun _=>EM _ _ _ _ _ rfl (.int .i64 (1+2*i:Nat)) (.int .i64 k) rfl rfl _ rfl (QV _ _ _ _ _ (by omega) (by omega) (by omega))) ?_;simp only[Act.put,aX,aY,aW]
   refine qp 5 (some 23) rfl rfl rfl _ w5 (rJ 148 _ rfl b8 0 rfl dy 64 br _ _ q8 (byteCells seg) ?_ (by rw[af];exact QX.out)) ?_
   .simp only[List.drop_zero];exact List.take_of_length_le (by rw[af];exact Nat.le_of_eq QX.out)
   refine Di 6 (by omega) (some 24) rfl rfl (by kernel_rfl) rfl 148 #[.pointer (some ⟨d,0,none⟩),.int .i64 (1+2*i+k:Nat),.agg (byteCells seg).toArray] (by go_simp) _ (ka F' d n (y k) (1+2*i+k:Nat) seg w5 ho (abN.out k hk HC.out) QX.out (ago.out k hk)) ?_;rintro e w6 ⟨rfl,F6,h6,f6,g6⟩;refine⟨_,rfl,?_⟩
   refine bQ 7 (some 9) rfl rfl (fun _ _ _ h=>h) rfl (v:=cK (y k).bp) (fun _=>rfl) ?_;simp only[Act.put,aX,aY,aW];refine lp ?_;have hy:(y k).write (1+2*i+k:Nat) seg=y (k+1):=by rw[HW.out k hlt,HSG.out]
   rw[hy] at h6;have q56:=f6.row q5 (fun hF=>n5'.out hF);have sR:aR F w w6:=fk.trans f6 (fun j hj=>gk.out j hj);have gw6:Hid (bP F F6 w):=fun j hj=>(g6 j hj).elim (fun h=>gk.out j h) (fun h=> .inr (by have:=fk.size;omega))
   have n56:Hid (b5∉F6):=fun hF=>(g6 _ hF).elim n5'.out (fun h=>by have:=q5.lt;omega)
   clear hC q5 q8 ho fk hy f6 g6 gk n5' HSG QX afV;cases hc:(y k).bp with
   |true=>
    have HCA:Hid ((y k).bp=true):=hc;simp only[cK,if_true];clear hc;go_wp2_with fail
    go_roundw
    case rel=>
     refine⟨k+1,by go_num,by omega,fun j hj=>?_,F6,h6,sR,gw6,q56,n56⟩;rcases Nat.lt_or_ge j k with h|h
     .exact HC.out j h
     .obtain rfl:j=k:=by omega
      exact HCA.out
    case measure=>simp[intOf];omega
   |false=>
    have HCA:Hid ((y k).bp=false):=hc;simp only[cK];clear hc;have hres:x.jI i r=false/\x.ng i r=y (k+1):=by
     have af7:k=0\/k=1:=by omega
     rcases af7 with rfl|rfl
     .have h0:x.bp=false:=by rw[<-H0.out];exact HCA.out
      exact⟨by rw[HOk.out,h0];rfl,by rw[X4.out,h0];rfl⟩
     .have h0:x.bp=true:=by rw[<-H0.out];exact HC.out 0 (by omega)
      exact⟨by rw[HOk.out,h0,HCA.out];rfl,by rw[X4.out,h0,HCA.out];rfl⟩
    have Nj:Hid (x.jI i r=false/\x.ng i r=y (k+1)):=hres;clear hres;go_wp2_with fail;go_ret;exact⟨by rw[Nj.out.1];rfl,F6,by rw[Nj.out.2];exact h6,sR,gw6.out⟩
  .obtain rfl:k=2:=by omega
   have h0:x.bp=true:=by rw[<-H0.out];exact HC.out 0 (by omega)
   have Nj:Hid (x.jI i r=(y 2).bp/\x.ng i r=(y 2).flush):=by
    constructor
    .rw[HOk.out,h0,HC.out 1 (by omega)];rfl
    .rw[X4.out,h0,HC.out 1 (by omega)];rfl
   clear h0;go_wp2_with fail;refine(kD F' d n (y 2) wr ho (abN.out 2 (by omega) HC.out)).mono ?_;rintro e w9 ⟨rfl,F9,h9,f9,g9⟩;go_wp2_with fail;go_ret;exact⟨by rw[Nj.out.1];rfl,F9,by rw[Nj.out.2];exact h9,fk.trans f9 (fun j hj=>gk.out j hj),gk.out.trans g9 fk.size⟩
theorem DS.zo {x:DS}{r:Nat}(h:x.Fit (r+1))(hc:x.bp=true):x.flush.Fit r:=by
 have h2:=DS.i6 (s:=0) (l:=[]) h hc;unfold DS.write at h2;unfold DS.flush;rw[if_pos hc] at h2⊢;exact⟨h2.jT,h2.jS,h2.jR,h2.jQ⟩
theorem DS.ND {x:DS}{i:Nat}{r:List UInt8}(h:x.jI i r=true):x.ng i r=(x.wr i r 2).flush/\x.bp=true/\(x.wr i r 1).bp=true/\(x.wr i r 2).bp=true:=by
 unfold DS.jI at h;simp only[Bool.and_eq_true] at h;unfold DS.ng;rw[if_pos h.1.1,if_pos h.1.2];exact⟨rfl,h.1.1,h.1.2,h.2⟩
theorem DS.A5 {x:DS}{i:Nat}{r:List UInt8}{m:Nat}(hx:x.Fit (m+3))(h:x.jI i r=true):(x.ng i r).Fit m/\(x.ng i r).waiting=[]:=by
 obtain⟨e,h0,h1,h2⟩:=DS.ND h;rw[e];refine⟨DS.zo (DS.Dv (m:=m+1) 2 (by rw[show m+1+2=m+3 by omega];exact hx) fun j hj=>?_) h2,?_⟩
 .rcases Nat.lt_or_ge j 1 with h|h
  .obtain rfl:j=0:=by omega
   exact h0
  .obtain rfl:j=1:=by omega
   exact h1
 .unfold DS.flush;rw[if_pos h2]
def DS.put (x:DS)(n s:Nat)(p:ByteArray)(c:ByteArray):DS×Value:=
 if dQ x n=-1 then(x,.int .i64 7)
 else if x.jI (dQ x n).toNat (cO s p.data.toList c.data.toList) then
  ((
    x.ng (dQ x n).toNat (cO s p.data.toList c.data.toList)).mark (dQ x n) (cG x s p (taken x n)),
    cK ((x.ng (dQ x n).toNat (cO s p.data.toList c.data.toList)).jh (dQ x n) (cG x s p (taken x n))))
 else(x.ng (dQ x n).toNat (cO s p.data.toList c.data.toList),.int .i64 3)
def DS.remove (x:DS)(n s:Nat)(p:ByteArray):DS×Value:=
 if cG x s p (taken x n)=-1 then(x,.int .i64 5)
 else(x.mark (-1) (cG x s p (taken x n)),cK (x.jh (-1) (cG x s p (taken x n))))
theorem qE (n:Nat)(x:DS)(s:Int)(p:ByteArray):-1<=cG x s p (taken x n)/\cG x s p (taken x n)<aN n:=by
 rcases mh x s p (taken x n) with hs|⟨i,hi,hs,_⟩
 .rw[hs];omega
 .rw[hs];have:=qx x n i hi;omega
theorem nY (F:List Nat)(d n:Nat)(x:DS)(s:Nat)(p:ByteArray)(w:World)(h:bM w F d n x)(hx:x.Fit 2)(gS:x.waiting.length<60):
  Calls Tryz.prog 78 #[.pointer (some ⟨d,0,none⟩),.agg (dK s p)] w fun e w'=>e= .returned (x.remove n s p).2/\∃F',bM w' F' d n (x.remove n s p).1/\aR F w w'/\bP F F' w:=by
 have hn:aN n<=54:=by unfold aN;omega
 go_enter Tryz.func78,Tryz.ntmps78;go_wp2_with (with_reducible first|refine bL rfl ?_|refine az 103 rfl ?_);refine ax.go (ii rfl 103 _ rfl (.agg (dK s p)) rfl ?_);intro w1 b3 l3 f1 r3;have h1:=h.new f1;go_wp2_with (with_reducible first|refine bL rfl ?_|refine az 103 rfl ?_)
 refine ax.go (bY rfl 103 _ rfl b3 0 rfl gG 2 eJ _ _ r3 [.int .i64 s,.string p] rfl rfl ?_);go_wp2_with fail;obtain⟨bl,vw,h1',hF⟩:=id h1;refine(pZ d bl n vw x s p w1 h1').mono ?_;rintro e w2 ⟨rfl,f2⟩;have hr:=qE n x s p;have h2:=h1.new f2;have fw:=f1.trans f2
 have HD:Hid (x.remove n s p=if cG x s p (taken x n)=-1 then(x,.int .i64 5) else(x.mark (-1) (cG x s p (taken x n)),cK (x.jh (-1) (cG x s p (taken x n))))):=rfl;generalize cG x s p (taken x n)=k at*;clear h1' f1 f2 r3 hF h1;have fF:aR F w w2:=fw.mono;rcases Int.lt_or_le k 0 with hk|hk
 .obtain rfl:k=-1:=by omega
  go_wp2_with fail;go_ret;rw[HD.out];exact⟨rfl,F,h2,fF,bP.refl _ _⟩
 .have hne:(k==-1)=false:=by rw[beq_eq_false_iff_ne];omega
  go_wp2_with fail;refine(zc F d n x (-1) k w2 h2 hx gS (by omega) (by omega) (by omega) (by omega)).mono ?_;rintro e w3 ⟨rfl,F3,h3,f3,g3⟩;go_wp2_with fail;go_ret;rw[HD.out,if_neg (by omega)];exact⟨rfl,F3,h3,fF.trans f3 (fun j hj=> .inl hj),(bP.refl F w).trans g3 fw.size⟩
theorem vX (F:List Nat)(d n:Nat)(x:DS)(s:Nat)(p c:ByteArray)(w:World)(h:bM w F d n x)(hx:x.Fit 5)(gS:x.waiting.length<55)(hs:s<256)(hp:p.size<256)(hc:c.size<256):
  Calls Tryz.prog 76 #[.pointer (some ⟨d,0,none⟩),.agg #[.int .i64 s,.string p,.string c]] w fun e w'=>e= .returned (x.put n s p c).2/\∃F',bM w' F' d n (x.put n s p c).1/\aR F w w'/\bP F F' w:=by
 have hn:aN n<=54:=by unfold aN;omega
 go_enter Tryz.func76,Tryz.ntmps76;go_wp2_with (with_reducible first|refine bL rfl ?_|refine az 103 rfl ?_|refine az 107 rfl ?_);refine ax.go (ii rfl 107 _ rfl (.agg #[.int .i64 s,.string p,.string c]) rfl ?_);intro w1 b3 l3 f1 r3;have h1:=h.new f1
 go_wp2_with (with_reducible first|refine bL rfl ?_|refine az 103 rfl ?_|refine az 107 rfl ?_);refine(AE F d n x w1 h1).mono ?_;rintro e w2 ⟨rfl,f2⟩;have h2:=h1.new f2;have r32:=f2.row r3;have fw:=f1.trans f2;clear h1 f1 f2 r3;have HD:Hid (x.put n s p c=if dQ x n=-1 then(x,.int .i64 7)
 else if x.jI (dQ x n).toNat (cO s p.data.toList c.data.toList) then
  ((
    x.ng (dQ x n).toNat (cO s p.data.toList c.data.toList)).mark (dQ x n) (cG x s p (taken x n)),
    cK ((x.ng (dQ x n).toNat (cO s p.data.toList c.data.toList)).jh (dQ x n) (cG x s p (taken x n))))
 else(x.ng (dQ x n).toNat (cO s p.data.toList c.data.toList),.int .i64 3)):=rfl
 have hf:dQ x n=-1\/∃i:Nat,i<aN n/\dQ x n=i:=by
  rcases og (x.read 0) (aN n) (aN n) 0 with hf|⟨i,hi,hf,_⟩
  .exact .inl hf
  .exact .inr ⟨i,hi,hf⟩
 generalize dQ x n=fs at*;rcases hf with rfl|⟨i,hi,rfl⟩
 .go_wp2_with fail
  go_ret;rw[HD.out];exact⟨rfl,F,h2,fw.mono,bP.refl _ _⟩
 .have hne:((i:Int)==-1)=false:=by rw[beq_eq_false_iff_ne];omega
  simp only[Int.toNat_natCast] at HD;go_wp2_with (with_reducible first|refine az 103 rfl ?_|refine az 107 rfl ?_);refine ax.go (bY rfl 103 _ rfl b3 0 rfl gG 2 eJ _ _ r32 [.int .i64 s,.string p] rfl rfl ?_);go_wp2_with (with_reducible first|refine az 103 rfl ?_|refine az 107 rfl ?_);obtain⟨bl,vw,h2',hF⟩:=id h2
  refine(pZ d bl n vw x s p w2 h2').mono ?_;rintro e w3 ⟨rfl,f3⟩;have hr:=qE n x s p;have h3:=h2.new f3;have r33:=f3.row r32;have EG:=fw.trans f3;generalize cG x s p (taken x n)=k at*;clear h2' hF h2 r32 fw f3;go_wp2_with (with_reducible first|refine az 103 rfl ?_|refine az 107 rfl ?_)
  refine ax.go (bY rfl 107 _ rfl b3 0 rfl lS 3 fh _ _ r33 [.int .i64 s,.string p,.string c] rfl rfl ?_);go_wp2_with fail;refine(EO s p c w3 hs hp hc).mono ?_;rintro e w4 ⟨rfl,f4⟩;have h4:=h3.new f4;have Dt:=(EG.trans f4).mono (T:=F) (by simp);generalize hR:cO s p.data.toList c.data.toList=R at*
  have hRl:R.length=128:=by rw[<-hR];exact pN _ _ _
  clear hR;go_wp2_with fail;refine(sf F d n x i R w4 h4 ⟨hx.jT,by have:=hx.jS;omega,hx.jR,hx.jQ⟩ gS hi hRl).mono ?_;rintro e w5 ⟨rfl,F5,h5,f5,g5⟩;have rz:=Dt.trans f5 (fun j hj=> .inl hj);have gw5:=(bP.refl F w).trans g5 Dt.size;cases hok:x.jI i R with
  |true=>
   rw[hok] at HD;have hfit:=DS.A5 (m:=2) hx hok;generalize x.ng i R=y at*;clear hok;simp only[cK,if_true];go_wp2_with fail;refine(zc F5 d n y i k w5 h5 hfit.1 (by rw[hfit.2];decide) (by omega) (by omega) (by omega) (by omega)).mono ?_;rintro e w6 ⟨rfl,F6,h6,f6,g6⟩;go_wp2_with fail;go_ret;rw[HD.out,if_neg (by omega)];exact⟨rfl,F6,h6,rz.trans f6 gw5,gw5.trans g6 rz.size⟩
  |false=>
   rw[hok] at HD;generalize x.ng i R=y at*;clear hok;simp only[cK];go_wp2_with fail;go_ret;rw[HD.out,if_neg (by omega)];exact⟨rfl,F5,h5,rz,gw5⟩
def marks (n:Nat)(l:List Nat):Array Bool:=((List.range n).map fun j=>l.contains j).toArray
theorem sM (n k:Nat)(l:List Nat)(h:k<n):(marks n l).setIfInBounds k true=marks n (k::l):=by
 apply Array.ext_getElem?
 intro i;simp only[marks,Array.getElem?_setIfInBounds,List.size_toArray,List.length_map,List.length_range,List.getElem?_toArray,List.getElem?_map]
 by_cases hi:k=i
 .subst hi;simp[h]
 .simp only[hi,if_false]
  by_cases hn:i<n
  .simp[List.getElem?_range hn,Ne.symm hi]
  .rw[List.getElem?_eq_none (by simp;omega)];rfl
def xK (P:Program)(ops:Array Oper)(Q:Exit->Act->World->Prop)(n m:Nat)(l:List Nat)(a:Act)(w:World):Prop:=wpAny P .any ops Q m (marks n l) a w
section
variable {P:Program}{ops:Array Oper}{Q:Exit->Act->World->Prop}
theorem rY {n:Nat}{a:Act}{w:World}(h:xK P ops Q n n [] a w):At P ops Q n 0 a w:=by
 unfold At;have e:upto n 0=marks n []:=by simp[upto,marks]
 rw[e];exact h
theorem dX {n m:Nat}{l:List Nat}(k:Nat){oi:Oper}{v:Value}{a:Act}{w:World}(dst:Option Tmp)(hi:ops[k]? =some oi)(hd:oi.dst=dst)(hQ:∀c a w,Q (.panic c) (a.put oi.dst v) w->Q (.panic c) a w)(hg:oi.guard=none)(hy:∀w,(execOp a.eval oi).run P w= .ok (.value v) w)(h:xK P ops Q n m (k::l) (a.put dst v) w)(hk:k<n:=by omega)(hs:Region.noSelect ops=true:=by kernel_rfl)(hf:Region.free .any ops (marks n l) k=true:=by kernel_rfl)(hr:(Region.ready .any ops (marks n l)).contains k=true:=by kernel_rfl):xK P ops Q n (m+1) l a w:=
 Dn hi hs hf hr hQ hg hy (by rw[sM n k l hk,hd];exact h)
theorem M4 {n m:Nat}{l:List Nat}(k:Nat){oi:Oper}{a:Act}{w:World}(hk:k<n)(dst:Option Tmp)(hi:ops[k]? =some oi)(hd:oi.dst=dst)(hr:Region.ready .any ops (marks n l)=[k])(hg:oi.guard=none)
  (v:Value) (w1:World) (hrun:(execOp a.eval oi).run P w= .ok (.value v) w1) (h:xK P ops Q n m (k::l) (a.put dst v) w1):xK P ops Q n (m+1) l a w:=
 Gz hr hi hg v w1 hrun (by rw[sM n k l hk,hd];exact h)
theorem rX {n m:Nat}{l:List Nat}{a:Act}{w:World}(h:Q .normal a w)(hr:Region.ready .any ops (marks n l)=[]:=by kernel_rfl):xK P ops Q n m l a w:=wpAny_done hr h _
end
theorem KY (v:Value)(c m:Nat)(hc:0<c):madeCells (List.replicate c v).toArray m=(List.replicate m v).toArray:=by
 apply Array.ext_getElem?
 intro i;have hz:∀j,j<c->((List.replicate c v).toArray)[j]! =v:=fun j hj=>by
  rw[getElem!_pos _ j (by simpa using hj)];simp
 by_cases h:i<m
 .simp only[madeCells,Array.getElem?_map,Array.getElem?_range,h,if_true,Option.map_some,List.size_toArray,List.length_replicate,List.getElem?_toArray,List.getElem?_replicate]
  rw[hz _ (Nat.mod_lt _ hc)]
 .simp[madeCells,h]
theorem Ii (m:Nat):madeCells eN.cells m=(byteCells (List.replicate m 0)).toArray:=by
 have e:eN.cells=(List.replicate 64 (Value.int .u8 ((0:UInt8).toNat))).toArray:=by
  show(byteCells (List.replicate 64 0)).toArray=_;unfold byteCells;rw[List.map_replicate]
 rw[e,KY _ _ _ (by decide)];unfold byteCells;rw[List.map_replicate]
def DS.fresh (l:List UInt8):DS:=⟨l,[],0,false,0,0,false⟩
def laid (l:List UInt8)(n k:Nat):List UInt8:=l.take (k*64)++List.replicate ((n-k)*64) 0
theorem Ct (l:List UInt8)(n k:Nat)(hl:l.length=64*n)(hk:k<=n):(laid l n k).length=64*n:=by
 simp[laid];omega
theorem Bq (l:List UInt8)(n k:Nat)(hl:l.length=64*n)(hk:k<n):splice (laid l n k) (k*64) ((l.drop (k*64)).take 64)=laid l n (k+1):=by
 unfold splice laid;have h1:(l.take (k*64)).length=k*64:=by rw[List.length_take];omega
 have h2:((l.drop (k*64)).take 64).length=64:=by rw[List.length_take,List.length_drop];omega
 rw[List.take_append_of_le_length (by omega),List.take_of_length_le (Nat.le_of_eq h1),h2,List.drop_append,List.drop_of_length_le (show(l.take (k*64)).length<=k*64+64 by omega),h1,List.drop_replicate,show(k+1)*64=k*64+64 by omega,List.take_add];simp only[List.nil_append,List.append_assoc];rw[show(n-k)*64-(k*64+64-k*64)=(n-(k+1))*64 by omega]
theorem CD:(Tryz.prog.info? 148).map (fun i=>(i.size,i.bytes,i.zero))=some (64,64,some eN):=by kernel_rfl
theorem E7 (bl n:Nat):Tryz.prog.built 134 [(0,.slice (some ⟨bl,0,none⟩) n n)]=some (iq bl n (.slice none 0 0) (DS.fresh [])):=by kernel_rfl
theorem sj:Tryz.prog.underlying 129=some (.slice 148):=by kernel_rfl
theorem bJ {P:Program}{ops:Array Oper}{Q:Exit->Act->World->Prop}{a:Act}{w:World}{rest:List Oper}{o:Oper}(t:TypeId){ps:Array (Nat×Operand)}(_:o.op= .build t ps)(h:ax (wpList P ops Q (o::rest) a w)):wpList P ops Q (o::rest) a w:=h
theorem yO {P:Program}{ops:Array Oper}{Q:Exit->Act->World->Prop}{a:Act}{w:World}{rest:List Oper}{o:Oper}(t:TypeId){x y:Operand}(_:o.op= .makeSlice t x y)(h:ax (wpList P ops Q (o::rest) a w)):wpList P ops Q (o::rest) a w:=h
theorem NG {P:Program}{ops:Array Oper}{Q:Exit->Act->World->Prop}{a:Act}{w:World}{rest:List Oper}{o:Oper}(hg:o.guard=none)(t e:TypeId)(x y:Operand)(ho:o.op= .makeSlice t x y)(ht:P.underlying t=some (.slice e))(sz by_:Nat)(z:Value)
  (hi:(P.info? e).map (fun i=>(i.size,i.bytes,i.zero))=some (sz,by_,some z)) (n:Nat) (hx:a.eval x= .int .i64 n) (hy:a.eval y= .int .i64 n) (hb:by_*n<=281474976710656) (hn:n<=9223372036854775807)
  (h:∀(w1:World) (b:Nat),w.heap.size<=b->aR [] w w1->Row w1 b (madeCells z.cells (n*sz)) e->wpList P ops Q rest (a.put o.dst (.slice (some ⟨b,0,none⟩) n n)) w1):wpList P ops Q (o::rest) a w:=by
 refine cN hg _ (w.alloc (.cells (madeCells z.cells (n*sz)) e)) ?_ (h _ _ (Nat.le_refl _) (aR.alloc _ _ _) (Row.new _ _ _));cases hi':P.info? e with
 |none=>simp[hi'] at hi
 |some i=>
  simp only[hi',Option.map_some,Option.some.injEq,Prod.mk.injEq] at hi;obtain⟨h1,h2,h3⟩:=hi;subst h1;subst h2;have:=run_make (P:=P) w t e i z ht hi' h3 .i64 .i64 n n (by omega) (Int.le_refl _) (by rw[<-Int.natCast_mul];omega) (by omega);simp only[Int.toNat_natCast] at this;simp[execOp,ho,hx,hy,this]
theorem CG (s:ByteArray)(n:Nat)(w:World)(hs:s.size=64*n)(h16:16<=n)(EA:n<=400):
  Calls Tryz.prog 104 #[.string s] w fun e w'=>∃d F,e= .returned (.pointer (some ⟨d,0,none⟩))/\bM w' F d n (DS.fresh s.data.toList)/\aR [] w w'/\bP [] F w:=by
 have hsl:Hid (s.data.toList.length=64*n):=by show _=_;rw[Array.length_toList];exact hs
 have hq:(s.size:Int).tdiv 64=n:=by rw[hs];push_cast;exact Int.mul_tdiv_cancel_left _ (by decide)
 go_enter Tryz.func104,Tryz.ntmps104;go_wp2_with (with_reducible first|refine yO 129 rfl ?_);refine ax.go (NG rfl 129 148 _ _ rfl sj 64 64 eN CD n rfl rfl (by omega) (by omega) ?_);intro w1 bl l1 f1 r1;rw[Ii] at r1;have HL0:Hid (laid s.data.toList n 0=List.replicate (n*64) 0):=by show _=_;simp[laid]
 rw[<-HL0.out] at r1;go_wp2_with (with_reducible first|refine yO 129 rfl ?_|refine bJ 134 rfl ?_|refine bL rfl ?_);refine ax.go (cN rfl (.agg (iq bl n (.slice none 0 0) (DS.fresh []))) w1 (gU _ _ rfl _ (E7 bl n)) ?_);go_wp2_with (with_reducible first|refine bL rfl ?_)
 refine ax.go (ii rfl 134 _ rfl (.agg (iq bl n (.slice none 0 0) (DS.fresh []))) rfl ?_);intro w2 d l2 f2 r2;have q2:Row w2 d (iq bl n (.slice none 0 0) (DS.fresh [])) 134:=r2;have q1:=f2.row r1;have fw:=f1.trans f2;have hdb:d≠bl:=by have:=r1.lt;omega
 have ldw:w.heap.size<=d:=by have:=f1.size;omega
 clear r1 r2 f1 f2 l2;have c0:=(iU q2).1;go_wp2_with fail;clear c0
 go_loopw [16] (fun c wr=>∃k:Nat,c= .int .i64 k/\k<=n/\aR [] w wr/\Row wr d (iq bl n (.slice none 0 0) (DS.fresh [])) 134/\Row wr bl (byteCells (laid s.data.toList n k)).toArray 148) (fun c _=>n-(intOf c).toNat)
 case atStart=>exact⟨0,rfl,by omega,fw,q2,q1⟩
 case round=>
  obtain⟨k,rfl,hk,fk,qd,qb⟩:=hrel;clear q1 q2 fw
  by_cases hlt:k<n
  .go_wp2_with fail
   refine fg 12 rfl ?_;have fd:aR [] wr wr.drew:=aR.drew _ _;have q5:=fd.row qd;have q8:=fd.row qb;have fk:=fk.trans fd;generalize wr.drew=w5 at q5 q8 fk;clear qd qb fd;refine rY ?_
   refine dX 0 (some 19) rfl rfl (fun _ _ _ h=>h) rfl (v:= .pointer (some ⟨d,0,none⟩)) (fun _=>rfl) ?_;refine dX 1 (some 20) rfl rfl (fun _ _ _ h=>h) rfl (v:= .pointer (some ⟨d,0,none⟩)) (fun _=>by go_simp) ?_
   refine dX 2 (some 21) rfl rfl (fun _ _ _ h=>h) rfl (v:= .pointer (some ⟨d,0,none⟩)) (fun _=>by go_simp) ?_;refine dX 4 (some 23) rfl rfl (fun _ _ _ h=>h) rfl (v:= .int .i64 k) (fun _=>rfl) ?_
   refine dX 7 (some 26) rfl rfl (fun _ _ _ h=>h) rfl (v:= .string s) (fun _=>rfl) ?_;refine dX 8 (some 27) rfl rfl (fun _ _ _ h=>h) rfl (v:= .int .i64 k) (fun _=>rfl) ?_;simp only[Act.put,aX,aY,aW]
   refine dX 9 (some 28) rfl rfl (fun _ _ _ h=>h) rfl (v:= .int .i64 (k*64)) (fun _=>by go_simp;exact IntWalk.i64_in _ (by omega)) ?_;simp only[Act.put,aX,aY,aW]
   refine dX 10 (some 29) rfl rfl (fun _ _ _ h=>h) rfl (v:= .string (s.extract (k*64) s.size)) (fun _=>?_) ?_
   .have e:((k:Int)*64).toNat=k*64:=by omega
    go_simp;intro h;exact absurd (h (by omega)) (by omega)
   simp only[Act.put,aX,aY,aW];have c0:=(iU q5).1;refine M4 3 (by omega) (some 22) rfl rfl (by kernel_rfl) rfl (.slice (some ⟨bl,0,none⟩) n n) w5 (by go_simp) ?_;clear c0;refine dX 5 (some 24) rfl rfl (fun _ _ _ h=>h) rfl (v:= .pointer (some ⟨bl,k*64,none⟩)) (fun _=>by go_simp) ?_
   refine dX 6 (some 25) rfl rfl (fun _ _ _ h=>h) rfl (v:= .slice (some ⟨bl,k*64,none⟩) 64 64) (fun _=>by go_simp) ?_;simp only[Act.put,aX,aY,aW];have hll:=Ct s.data.toList n k hsl.out hk
   refine M4 11 (by omega) (some 30) rfl rfl (by kernel_rfl) rfl _ _ (k8 _ _ _ _ 5 rfl Tryz.underlying85 bl (k*64) 64 64 rfl (s.extract (k*64) s.size) rfl _ _ q8 ?_) ?_
   .simp only[List.size_toArray,af,hll]
    have:Nat.min (s.extract (k*64) s.size).size 64<=64:=Nat.min_le_right _ _;omega
   have e64:(s.extract (k*64) s.size).data.toList.take 64=(s.data.toList.drop (k*64)).take 64:=by
    have hsz:s.data.toList.length=s.size:=by rw[Array.length_toList];rfl
    rw[ByteArray.data_extract,Array.toList_extract,List.extract_eq_take_drop,List.take_take,<-hsz,<-List.length_drop];rw[List.take_eq_take_iff];omega
   rw[e64,kX,Bq _ _ _ hsl.out hlt];refine rX ?_;have Z9:=q8.setRow (byteCells (laid s.data.toList n (k+1))).toArray;have f3:aR [bl] w5 (w5.setRow bl (byteCells (laid s.data.toList n (k+1))).toArray):=aR.setRow _ _ _ _;have oQ:=f3.row q5 (by simpa using hdb)
   have fk3:aR [] w (w5.setRow bl (byteCells (laid s.data.toList n (k+1))).toArray):=fk.trans f3 (by simp;exact l1);generalize w5.setRow bl (byteCells (laid s.data.toList n (k+1))).toArray=w6 at Z9 oQ fk3;clear q8 q5 fk f3 e64 hll;simp only[Act.put,aX,aY,aW];go_wp2_with fail
   go_roundw
   case rel=>exact⟨k+1,by go_num,by omega,fk3,oQ,Z9⟩
   case measure=>simp[intOf];omega
  .obtain rfl:k=n:=by omega
   go_wp2_with fail;go_ret;have el:laid s.data.toList k k=s.data.toList:=by
    unfold laid;rw[List.take_of_length_le (by rw[hsl.out];omega)];simp
   rw[el] at qb;refine⟨d,[d,bl],rfl,⟨bl,.slice none 0 0,{row:=qd,last:=qb,len:=hsl.out,own:=World.ownsRow_nil _ _ _ _,d8:=by simp[DS.fresh],within:=by simp[DS.fresh],lo:=h16,hi:=EA,few:=by simp[DS.fresh],ne:=hdb,ne1:=by simp[Value.ownBlock],AY:=by simp[Value.ownBlock],nil:=fun _=>rfl},by simp[Value.ownBlock]⟩,fk,fun i hi=>?_⟩;simp only[List.mem_cons,List.not_mem_nil,or_false] at hi
   rcases hi with rfl|rfl
   .exact .inr ldw
   .exact .inr l1
theorem zl:(Tryz.prog.info? 5).map (fun i=>(i.size,i.bytes,i.zero))=some (1,1,some (.int .u8 0)):=by kernel_rfl
theorem oI:Tryz.prog.underlying 85=some (.slice 5):=Tryz.underlying85
theorem qG:(Tryz.prog.info? 146).map (·.size)=some 2:=by kernel_rfl
theorem Aq:liesAt Tryz.prog Tryz.prog.depth 146 (2/Tryz.prog.cellsOf 146) 0 146 1=true:=by kernel_rfl
theorem oz (b:Nat)(w:World)(h0:w.cell? ⟨b,0,none⟩=some (.pointer (some ⟨b,0,none⟩))):
  Calls Tryz.prog 129 #[.pointer (some ⟨b,0,none⟩)] w fun e w'=>e= .returned (.tuple #[])/\w'=w:=by
 obtain⟨j,hj,_⟩:=Option.map_eq_some_iff.1 qG;go_enter Tryz.func129,Tryz.ntmps129;go_wp2_with fail;rw[Lib.run_neq_ptr_same w _ Tryz.underlying144 hj];go_wp2_with fail
 go_end0
 exact⟨rfl,rfl⟩
theorem nd (b:Nat)(w:World)(h0:w.cell? ⟨b,0,none⟩=some (.pointer none))(hsh:w.shape? b=some (146,2))(hfz:w.frozen? ⟨b,0,none⟩=false):
  Calls Tryz.prog 129 #[.pointer (some ⟨b,0,none⟩)] w fun e w'=>e= .returned (.tuple #[])/\w'=w.setCell ⟨b,0,none⟩ (.pointer (some ⟨b,0,none⟩)):=by
 obtain⟨j,hj,hjs⟩:=Option.map_eq_some_iff.1 qG;go_enter Tryz.func129,Tryz.ntmps129;go_wp2_with fail;rw[Lib.run_to_unsafe w ⟨b,0,none⟩ Tryz.underlying144 Tryz.underlying247 hj (by rw[hjs];decide) hsh (Nat.zero_lt_succ 1)];simp only[Result.andThen];rw[Oper.upon_value];go_wp2_with fail
 rw[run_callFunc_extern Tryz.func161 (by kernel_rfl) (by kernel_rfl) (by kernel_rfl) (e:=Extern.AbiNoEscape.same) (by kernel_rfl)];rw[Lib.run_noEscape];simp only[Result.andThen];rw[Oper.upon_value];go_wp2_with fail;rw[Lib.run_from_unsafe w ⟨b,0,none⟩ Tryz.underlying247 Tryz.underlying144 hj hsh Aq];simp only[Result.andThen];rw[Oper.upon_value];go_wp2_with fail
 go_end0
 exact⟨rfl,rfl⟩
theorem E4 (B b:Nat)(bs:List Value)(ad:Addr)(m c:Nat)(news:List Value)(w:World)(h:IsBuilder 146 5 B b bs w)
  (hl:news.length=m) (hnews:∀j u,news[j]? =some u->w.cell? (ad.add j)=some u) (had:ad.block≠b) (h1:∀u∈news,u.oneCell'=true) (hlen:bs.length+m<=1000000) (hBw:B<=w.heap.size):
  Calls Tryz.prog 86 #[.pointer (some ⟨b,0,none⟩),.slice (some ad) m c] w fun e w'=>e= .returned (.tuple #[.int .i64 m,.nilIface])/\BuilderAt 146 5 B b (.pointer (some ⟨b,0,none⟩)) (bs++news) w'/\Below B w w':=by
 obtain⟨i0,hi,hz⟩:∃i,Tryz.prog.info? 5=some i/\i.size=1/\i.bytes=1/\i.zero=some (.int .u8 0):=by
  have:=zl;cases hi:Tryz.prog.info? 5 with
  |none=>simp[hi] at this
  |some i=>simp only[hi,Option.map_some,Option.some.injEq,Prod.mk.injEq] at this;exact⟨i,rfl,this⟩
 have cC:Calls Tryz.prog 129 #[.pointer (some ⟨b,0,none⟩)] w fun e w'=>e= .returned (.tuple #[])/\BuilderAt 146 5 B b (.pointer (some ⟨b,0,none⟩)) bs w'/\Below B w w'/\∀p:Addr,p.block≠b->w'.cell? p=w.cell? p:=by
  rcases h with h|h
  .refine(nd b w h.cell0 h.shape h.frozen0).mono ?_
   rintro e w' ⟨rfl,rfl⟩;exact⟨rfl,h.used _,(Below.refl B w).setCell (p:=⟨b,0,none⟩) h.1 _,fun p hp=>World.cell?_setCell_other _ _ _ _ (fun e=>hp (by rw[<-e]))⟩
  .refine(oz b w h.cell0).mono ?_
   rintro e w' ⟨rfl,rfl⟩;exact⟨rfl,h,Below.refl B _,fun _ _=>rfl⟩
 go_enter Tryz.func86,Tryz.ntmps86;go_wp2_with fail;refine cC.mono ?_;rintro e w1 ⟨rfl,h1',hb1,hcell⟩;obtain⟨hB,v,hbk,hown,hne⟩:=h1';have c0:w1.cell? ⟨b,0,none⟩=some (.pointer (some ⟨b,0,none⟩)):=by rw[Lib.cell_of_heap hbk];rfl
 have c1:w1.cell? ⟨b,1,none⟩=some v:=by rw[Lib.cell_of_heap hbk];rfl
 have hnews1:∀j u,news[j]? =some u->w1.cell? (ad.add j)=some u:=fun j u hj=>by rw[hcell (ad.add j) (by unfold Addr.add;split<;>exact had)];exact hnews j u hj
 go_wp2_with (at_builtin;refine wpList_append_own _ rfl _ _ 85 rfl B 5 i0 (.int .u8 0) 1 1 oI hi hz.2.2 hz.1 hz.2.1 rfl (by decide) _ _ _ rfl hown ad m c news rfl (by omega) hnews1 h1 ?c3 ?c4 ?c5 ?_)
 case c3=>unfold maxLen;omega
 case c4=>omega
 case c5=>have:=hb1.size;omega
 intro v' w2 hown' hgrow _;have hlt:b<w1.heap.size:=by
  rcases Nat.lt_or_ge b w1.heap.size with h'|h'
  .exact h'
  .simp[Array.getElem?_eq_none h'] at hbk
 have hb2:w2.heap[b]? =some (.cells #[.pointer (some ⟨b,0,none⟩),v] 146 (0,0)):=by
  rw[hgrow.block b hlt (fun e=>hne e.symm)];exact hbk
 have d0:w2.cell? ⟨b,0,none⟩=some (.pointer (some ⟨b,0,none⟩)):=by rw[Lib.cell_of_heap hb2];rfl
 have d1:w2.cell? ⟨b,1,none⟩=some v:=by rw[Lib.cell_of_heap hb2];rfl
 have f1:w2.frozen? ⟨b,1,none⟩=false:=Lib.frozen_of_heap hb2 1;obtain⟨ao,n',cap,rfl⟩:∃ao n' cap,v'= .slice ao n' cap:=by
  rcases hown'.2 with⟨hv,_⟩|⟨g,cap,cur,hv,_⟩
  .exact⟨_,_,_,hv⟩
  .exact⟨_,_,_,hv⟩
 go_wp2_with fail
 go_ret2
 refine⟨rfl,?_,?_⟩
 .exact Lib.BuilderAt.put (T:=146) (e:=5) hB hb2 (bs':=bs++news) (by simpa [hl] using hown') (by decide)
 .exact(hb1.grown hgrow (by have:=hb1.size;omega) (fun k hk=>(hown.lt k hk).1)).setCell (p:=⟨b,1,none⟩) hB _
theorem FX {T e:TypeId}{B b:Nat}{bs:List Value}{w w':World}(h:IsBuilder T e B b bs w)(f:aR [] w w'):IsBuilder T e B b bs w':=by
 have g:∀p,BuilderAt T e B b p bs w->BuilderAt T e B b p bs w':=fun p hp=>by
  have hlt:=hp.lt;obtain⟨hB,v,hb,ho,hn⟩:=hp;exact⟨hB,v,by rw[f.block b hlt (by simp)];exact hb,f.owns ho,hn⟩
 exact h.imp (g _) (g _)
theorem j8 {w w1 w2:World}(f:aR [] w w1)(h:Below w.heap.size w1 w2):aR [] w w2:=
 ⟨h.os.trans f.os,h.tape.trans f.tape,h.output.trans f.output,Nat.le_trans f.size h.size,fun k hk _=>(h.block k hk).trans (f.block k hk (by simp))⟩
theorem qu:(Tryz.prog.info? 146).map (·.zero)=some (some (.agg #[.pointer none,.slice none 0 0])):=by kernel_rfl
theorem I7 (d bl n:Nat)(vw:Value)(x:DS)(w:World)(h:bE w d bl n vw x):
  Calls Tryz.prog 53 #[.pointer (some ⟨d,0,none⟩)] w fun e w'=>e= .returned (.string ⟨x.aM.toArray⟩)/\aR [] w w':=by
 have hlen:=h.len;have EA:=h.hi;go_enter Tryz.func53,Tryz.ntmps53;go_wp2_with (with_reducible first|refine aA rfl ?_);refine ax.go (bv rfl 146 rfl _ qu ?_);intro w1 b3 l3 f1 r3;have h1:=h.new f1;have c0:=(iU h1.row).1;have hB0:IsBuilder 146 5 w.heap.size b3 (byteCells (x.aM.take (64*0))) w1:=
  .inl ⟨l3,.slice none 0 0,r3,by simpa [byteCells] using World.ownsRow_nil _ _ _ _,by simp[Value.ownBlock]⟩
 go_wp2_with fail;clear c0 r3
 go_loopw [11] (fun c wr=>∃k:Nat,c= .int .i64 k/\k<=n/\aR [] w wr/\IsBuilder 146 5 w.heap.size b3 (byteCells (x.aM.take (64*k))) wr) (fun c _=>n-(intOf c).toNat)
 case atStart=>exact⟨0,rfl,by omega,f1,hB0⟩
 case round=>
  obtain⟨k,rfl,hk,fk,hb⟩:=hrel;clear h1 f1 hB0
  by_cases hlt:k<n
  .have hw:=h.new fk
   have hseg:((x.aM.drop (k*64)).take 64).length=64:=by rw[List.length_take,List.length_drop];omega
   have hat:((byteCells x.aM).toArray.toList.drop (k*64)).take 64=byteCells ((x.aM.drop (k*64)).take 64):=by
    rw[List.toList_toArray,eA,ez]
   go_wp2_with (with_reducible first|refine aA rfl ?_|refine az 148 rfl ?_|refine ah 148 rfl ?_);refine ax.go (bY rfl 148 _ rfl bl (k*64) rfl dy 64 br _ _ hw.last (byteCells ((x.aM.drop (k*64)).take 64)) hat (by rw[af];exact hseg) ?_);have HX:Hid (x.aM.take (64*(k+1))=x.aM.take (64*k)++(x.aM.drop (k*64)).take 64):=by
    show _=_;rw[show 64*(k+1)=64*k+64 by omega,List.take_add,Nat.mul_comm k 64]
   generalize (x.aM.drop (k*64)).take 64=seg at*;have gS:(byteCells (x.aM.take (64*k))).length<=30000:=by rw[af,List.length_take];omega
   clear hat hw;go_wp2_with (with_reducible first|refine aA rfl ?_|refine ah 148 rfl ?_);refine ax.go (bv rfl 148 rfl eN dH ?_);intro w4 b7 l7 f4 r7;go_wp2_with (with_reducible first|refine aA rfl ?_|refine ah 148 rfl ?_);refine ax.go (bT rfl 148 _ _ rfl _ 0 rfl _ rfl 64 br ?_ ?_ _ _ r7 ?_ ?_)
   .simp only[List.size_toArray,af];exact hseg
   .exact byteCells_one _
   .decide
   intro w5 f5 sG;rw[bO _ _ (by rw[af,hseg];rfl)] at sG;have mI:aR [] wr w5:=f4.trans f5 (by simpa using l7);have rz:=fk.trans mI;have hb5:=FX hb mI;have q7:Row w5 b7 (byteCells seg).toArray 148:=sG;have hne:b7≠b3:=by
    have:b3<wr.heap.size:=by
     rcases hb with hb|hb<;>exact hb.lt
    omega
   clear r7 sG f4 f5 mI fk hb;go_wp2_with fail;refine(E4 w.heap.size b3 _ ⟨b7,0,none⟩ 64 64 (byteCells seg) w5 hb5 (by rw[af];exact hseg) ?_ hne (byteCells_one _) (by omega) rz.size).mono ?_
   .intro j u hj
    rw[Addr.add_mid,q7.cell];simpa using hj
   rintro e w6 ⟨rfl,hb6,QM⟩;have sR:=j8 rz QM;have PM:IsBuilder 146 5 w.heap.size b3 (byteCells (x.aM.take (64*(k+1)))) w6:=by
    rw[HX.out,byteCells_append];exact .inr hb6
   clear hb6 QM hb5 q7 rz gS;go_wp2_with fail
   go_roundw
   case rel=>exact⟨k+1,by go_num,by omega,sR,PM⟩
   case measure=>simp[intOf];omega
  .obtain rfl:k=n:=by omega
   rw[List.take_of_length_le (by omega)] at hb;go_wp2_with fail;refine(Tryz.Builder_String_any w.heap.size b3 x.aM wr hb fk.size).mono ?_;rintro e w6 ⟨rfl,QM⟩;have sR:=j8 fk QM;go_wp2_with fail;go_ret;exact⟨rfl,sR⟩
theorem ja {P:Program}{ops:Array Oper}{Q:Exit->Act->World->Prop}{a:Act}{w:World}{rest:List Oper}{o:Oper}{xs:Array Operand}{ts:Array TypeId}(_:o.op= .call {callee:= .builtin .copy,args:=xs,argTypes:=ts})(h:ax (wpList P ops Q (o::rest) a w)):wpList P ops Q (o::rest) a w:=h
def lH:List UInt8:=[99,111,110,99,111,114,100,49]
def kU (n:Nat):List UInt8:=lH++[UInt8.ofNat (n/256),UInt8.ofNat n]++List.replicate 54 0
theorem mC (n:Nat):(kU n).length=64:=by simp[kU,lH]
theorem DY (n:Nat)(hn:n<=400):((byteCells (splice (List.replicate 64 0) 0 lH)).toArray.setIfInBounds 8 (.int .u8 ((n:Int)/256))).setIfInBounds 9 (.int .u8 ((n:Int)%256))=(byteCells (kU n)).toArray:=by
 have e1:((n:Int)/256)=((UInt8.ofNat (n/256)).toNat:Nat):=by
  rw[UInt8.toNat_ofNat'];omega
 have e2:((n:Int)%256)=((UInt8.ofNat n).toNat:Nat):=by
  rw[UInt8.toNat_ofNat'];omega
 rw[e1,e2];rfl
theorem yq (n:Nat)(w:World)(hn:n<=400):
  Calls Tryz.prog 112 #[.int .i64 n] w fun e w'=>e= .returned (.agg (byteCells (kU n)).toArray)/\aR [] w w':=by
 go_enter Tryz.func112,Tryz.ntmps112;go_wp2_with (with_reducible first|refine aA rfl ?_|refine ja rfl ?_|refine az 148 rfl ?_|refine ah 148 rfl ?_|refine ah 5 rfl ?_);refine ax.go (bv rfl 148 rfl eN dH ?_);intro w1 b2 l2 f1 r2
 go_wp2_with (with_reducible first|refine aA rfl ?_|refine ja rfl ?_|refine az 148 rfl ?_|refine ah 148 rfl ?_|refine ah 5 rfl ?_);refine ax.go (bv rfl 148 rfl eN dH ?_);intro w2 b3 l3 f2 r3;have q2:=f2.row r2;have fw:=f1.trans f2;have n23:b2≠b3:=by have:=r2.lt;omega
 have h3:w.heap.size<=b3:=by have:=f1.size;omega
 have r3':Row w2 b3 (byteCells (List.replicate 64 0)).toArray 148:=r3;clear r2 r3 f1 f2 l3;go_wp2_with (with_reducible first|refine aA rfl ?_|refine ja rfl ?_|refine az 148 rfl ?_|refine ah 148 rfl ?_|refine ah 5 rfl ?_)
 refine ax.go (cN rfl _ _ (k8 _ _ _ _ 5 rfl Tryz.underlying85 b3 0 64 64 rfl ⟨#[99,111,110,99,111,114,100,49]⟩ rfl _ _ r3' (by simp only[List.size_toArray,af,List.length_replicate];decide)) ?_);rw[show((⟨#[99,111,110,99,111,114,100,49]⟩:ByteArray).data.toList.take 64)=lH from rfl,kX]
 have q3:=r3'.setRow (byteCells (splice (List.replicate 64 0) 0 lH)).toArray;have f3:aR [b3] w2 (w2.setRow b3 (byteCells (splice (List.replicate 64 0) 0 lH)).toArray):=aR.setRow _ _ _ _;have q2':=f3.row q2 (by simpa using n23);have EG:=fw.trans f3 (by simpa using h3);generalize w2.setRow b3 (byteCells (splice (List.replicate 64 0) 0 lH)).toArray=w3 at q3 q2' EG
 clear q2 r3' f3 fw;go_wp2_with (with_reducible first|refine aA rfl ?_|refine ja rfl ?_|refine az 148 rfl ?_|refine ah 148 rfl ?_|refine ah 5 rfl ?_);refine ax.go (fO rfl 5 _ _ rfl b3 8 rfl .u8 _ rfl _ _ q3 (by simp only[List.size_toArray,af];rw[length_splice _ _ _ (by decide)];decide) ?_);intro w4 f4 q4
 have q2a:=f4.row q2' (by simpa using n23);have Dt:=EG.trans f4 (by simpa using h3);clear q3 q2' EG f4;go_wp2_with (with_reducible first|refine aA rfl ?_|refine ja rfl ?_|refine az 148 rfl ?_|refine ah 148 rfl ?_|refine ah 5 rfl ?_)
 refine ax.go (fO rfl 5 _ _ rfl b3 9 rfl .u8 _ rfl _ _ q4 (by simp only[Array.size_setIfInBounds,List.size_toArray,af];rw[length_splice _ _ _ (by decide)];decide) ?_);intro w5 f5 q5;have q2b:=f5.row q2a (by simpa using n23);have rz:=Dt.trans f5 (by simpa using h3);clear q4 q2a Dt f5;rw[DY n hn] at q5;have hl:=mC n
 generalize hR:kU n=R at*;have HR:Hid (kU n=R):=hR;clear hR;go_wp2_with (with_reducible first|refine aA rfl ?_|refine ja rfl ?_|refine az 148 rfl ?_|refine ah 148 rfl ?_|refine ah 5 rfl ?_)
 refine ax.go (bY rfl 148 _ rfl b3 0 rfl dy 64 br _ _ q5 (byteCells R) (by simp only[List.drop_zero];exact List.take_of_length_le (by rw[af];omega)) (by rw[af];exact hl) ?_);go_wp2_with (with_reducible first|refine aA rfl ?_|refine ja rfl ?_|refine az 148 rfl ?_|refine ah 148 rfl ?_|refine ah 5 rfl ?_)
 refine ax.go (bT rfl 148 _ _ rfl _ 0 rfl _ rfl 64 br ?_ ?_ _ _ q2b ?_ ?_)
 .simp only[List.size_toArray,af];exact hl
 .exact byteCells_one _
 .decide
 intro w6 f6 q6;rw[bO _ _ (by rw[af,hl];rfl)] at q6;have sR:=rz.trans f6 (by simp;exact l2);have UM:Row w6 b2 (byteCells R).toArray 148:=q6;clear q6;go_wp2_with fail;exact kV rfl b2 rfl rfl _ _ UM dy (by rw[br];simp[af,hl]) ⟨by rw[HR.out],sR⟩
def eY (n:Nat):List UInt8:=kU n++List.replicate ((n-1)*64) 0
theorem nT:∀m,repeatL [(0:UInt8)] m=List.replicate m 0
 |0=>rfl
 |m+1=>by rw[repeatL,nT m,List.replicate_succ];rfl
theorem IN (n:Nat)(w:World)(h1:1<=n)(hn:n<=400):
  Calls Tryz.prog 77 #[.int .i64 n] w fun e w'=>e= .returned (.string ⟨(eY n).toArray⟩)/\aR [] w w':=by
 go_enter Tryz.func77,Tryz.ntmps77;go_wp2_with fail;refine(yq n w hn).mono ?_;rintro e w1 ⟨rfl,f1⟩;have hl:=mC n;have HE:Hid (eY n=kU n++List.replicate ((n-1)*64) 0):=rfl;generalize kU n=R at*;go_wp2_with (with_reducible first|refine aA rfl ?_|refine ah 148 rfl ?_);refine ax.go (bv rfl 148 rfl eN dH ?_);intro w2 b3 l3 f2 r3
 go_wp2_with (with_reducible first|refine aA rfl ?_|refine ah 148 rfl ?_);refine ax.go (bT rfl 148 _ _ rfl _ 0 rfl _ rfl 64 br ?_ ?_ _ _ r3 ?_ ?_)
 .simp only[List.size_toArray,af];exact hl
 .exact byteCells_one _
 .decide
 intro w3 f3 q3;rw[bO _ _ (by rw[af,hl];rfl)] at q3;have q3':Row w3 b3 (byteCells R).toArray 148:=q3;have EG:=(f1.trans f2).trans f3 (by simp;have:=f1.size;omega);clear q3 r3 f1 f2 f3 l3;go_wp2_with fail;refine qn (by kernel_rfl) (by kernel_rfl) ?_;simp only[Act.put];refine cM rfl (some 6) rfl (.slice (some ⟨b3,0,none⟩) 64 64) (fun _ _=>by go_simp) ?_
 simp only[Act.put,aX,aY,aW];refine cM rfl (some 7) rfl (.string (aF R)) (fun w' hw'=>xc 85 9 5 _ rfl Tryz.underlying85 Tryz.underlying5 Tryz.underlying9 b3 0 64 64 rfl R _ (hw'.row q3') R (by simp only[List.drop_zero];exact List.take_of_length_le (by omega)) hl) ?_;simp only[Act.put,aX,aY,aW];refine cM rfl (some 8) rfl (.int .i64 n) (fun _ _=>rfl) ?_
 simp only[Act.put,aX,aY,aW];refine cM rfl (some 9) rfl (.int .i64 (n-1:Nat)) (fun _ _=>by
   have e:((n-1:Nat):Int)=(n:Int)-1:=by omega
   rw[e];go_simp;exact IntWalk.i64_in _ (by omega)) ?_
 simp only[Act.put,aX,aY,aW];refine cM rfl (some 10) rfl (.int .i64 ((n-1)*64:Nat)) (fun _ _=>by
   have e:(((n-1)*64:Nat):Int)=((n-1:Nat):Int)*64:=by omega
   rw[e];go_simp;exact IntWalk.i64_in _ (by omega)) ?_
 simp only[Act.put,aX,aY,aW];refine tj rfl (some 11) rfl 113 #[.string ⟨#[0]⟩,.int .i64 ((n-1)*64:Nat)] (.string ⟨(repeatL [0] ((n-1)*64)).toArray⟩) (fun _ _=>by go_simp) (fun w' hw'=>?_) ?_
 .refine(Tryz.strings_Repeat ⟨#[0]⟩ ((n-1)*64) w' (by omega) (by show 1*((n-1)*64)<=_;omega)).mono ?_
  rintro e w'' ⟨rfl,f⟩;exact⟨rfl,hw'.trans (aR.of_below f)⟩
 simp only[Act.put,aX,aY,aW];refine cM rfl (some 12) rfl (.string ⟨(eY n).toArray⟩) (fun w' _=>?_) ?_
 .refine EM _ _ _ _ _ rfl (.string (aF R)) (.string ⟨(repeatL [0] ((n-1)*64)).toArray⟩) rfl rfl _ rfl ?_
  have e:(⟨(eY n).toArray⟩:ByteArray)=aF R++⟨(repeatL [0] ((n-1)*64)).toArray⟩:=by
   rw[HE.out,nT]
   apply ByteArray.ext
   simp[aF,ByteArray.data_append]
  rw[e];refine run_string_add_sum (P:=Tryz.prog) w' (aF R) ⟨(repeatL [0] ((n-1)*64)).toArray⟩ ?_;rw[nT];show R.toArray.size+(List.replicate ((n-1)*64) (0:UInt8)).toArray.size<=_;simp only[List.size_toArray,List.length_replicate];omega
 simp only[Act.put,aX,aY,aW];refine cM rfl (some 2) rfl (.string ⟨(eY n).toArray⟩) (fun _ _=>rfl) ?_;simp only[Act.put,aX,aY,aW];intro w5 f5;have rz:=EG.trans f5;go_wp2_with fail;go_ret;exact⟨rfl,rz⟩
def lX (r:List UInt8)(l:List Nat):List UInt8:=l.foldl (fun r i=>r.set (10+i) 1) r
theorem Hw (r:List UInt8):gj r<256:=pn r 0
theorem fX (l:List UInt8):(aF l).size=l.length:=rfl
def gP (b:UInt8):Bool:=97<=b.toNat&&b.toNat<=122
def cE (l:List UInt8):Bool:=1<=l.length&&l.length<=8&&l.all gP
theorem JB {P:Program}{ops:Array Oper}{Q:Exit->Act->World->Prop}{a:Act}{w:World}{rest:List Oper}{o:Oper}(hg:o.guard=none)(src dst e:TypeId)(x:Operand)(ho:o.op= .convert src dst x)
  (hs:P.underlying src=some .string) (hd:P.underlying dst=some (.slice e)) (he:P.underlying e=some (.int .u8)) (s:ByteArray) (hx:a.eval x= .string s)
  (h:∀(w1:World) (b cap:Nat),w.heap.size<=b->aR [] w w1->(∀j,(hj:j<s.data.toList.length)->w1.cell? ⟨b,j,none⟩=some (.int .u8 (s.data.toList[j].toNat:Int)))->wpList P ops Q rest (a.put o.dst (.slice (some ⟨b,0,none⟩) s.size cap)) w1):wpList P ops Q (o::rest) a w:=by
 have hr:=run_bytes_of_string (P:=P) w src dst e s hs hd he;have hb:(w.drew.alloc (.cells (bytesRow s (grownCap w s.size 0 e)) e ((bytesRow s (grownCap w s.size 0 e)).size,(bytesRow s (grownCap w s.size 0 e)).size+1))).heap[w.heap.size]? =some (.cells (bytesRow s (grownCap w s.size 0 e)) e ((bytesRow s (grownCap w s.size 0 e)).size,(bytesRow s (grownCap w s.size 0 e)).size+1)):=by
  show(w.heap.push _)[w.heap.size]? =_;simp
 have hf:aR [] w (w.drew.alloc (.cells (bytesRow s (grownCap w s.size 0 e)) e ((bytesRow s (grownCap w s.size 0 e)).size,(bytesRow s (grownCap w s.size 0 e)).size+1))):=(aR.drew [] w).trans (aR.alloc [] _ _);generalize w.drew.alloc (.cells (bytesRow s (grownCap w s.size 0 e)) e ((bytesRow s (grownCap w s.size 0 e)).size,(bytesRow s (grownCap w s.size 0 e)).size+1))=w1 at hr hb hf
 refine cN hg (.slice (some ⟨w.heap.size,0,none⟩) s.size (grownCap w s.size 0 e)) w1 ?_ (h w1 _ _ (Nat.le_refl _) hf fun j hj=>?_)
 .simp only[execOp,ho,hx,Sem.run_bind]
  rw[hr];rfl
 .rw[Lib.cell_of_heap hb,bytesRow_at s _ j (by simpa using hj)]
  simp
theorem mG (s:ByteArray)(w:World)(hs:s.size<=9223372036854775807):
  Calls Tryz.prog 49 #[.string s] w fun e w'=>e= .returned (.bool (cE s.data.toList))/\aR [] w w':=by
 have hsl:Hid (s.data.toList.length=s.size):=by show _=_;rw[Array.length_toList];rfl
 go_enter Tryz.func49,Tryz.ntmps49
 by_cases h1:(s.size:Int)<1
 .have HE:Hid (cE s.data.toList=false):=by
   show _=_;unfold cE;have:s.data.toList.length=0:=by rw[hsl.out];omega
   rw[this];rfl
  go_wp2_with fail;go_ret;exact⟨by rw[HE.out];rfl,aR.refl _ _⟩
 .by_cases h8:(s.size:Int)>8
  .have HE:Hid (cE s.data.toList=false):=by
    show _=_;unfold cE;rw[hsl.out];have:decide (s.size<=8)=false:=by simp;omega
    rw[this];simp
   go_wp2_with fail;go_ret;exact⟨by rw[HE.out];rfl,aR.refl _ _⟩
  .have HS0:Hid (cE s.data.toList=(s.data.toList.drop 0).all gP):=by
    show _=_;unfold cE;rw[hsl.out,List.drop_zero];have e1:decide (1<=s.size)=true:=by simp;omega
    have e2:decide (s.size<=8)=true:=by simp;omega
    rw[e1,e2];rfl
   go_wp2_with (with_reducible first|refine zK rfl ?_);refine ax.go (JB rfl 9 85 5 _ rfl Tryz.underlying9 Tryz.underlying85 Tryz.underlying5 s rfl ?_);intro w1 b cap lb f1 hcell;generalize hgl:s.data.toList=l at*;have HLL:Hid (s.data.toList=l):=hgl;clear hgl;have adf:Hid (∀j,(hj:j<l.length)->w1.cell? ⟨b,j,none⟩=some (.int .u8 (l[j].toNat:Int))):=hcell;clear hcell
   go_wp2_with fail;have hls:l.length=s.size:=hsl.out
   go_loopw [16] (fun c wr=>∃k:Nat,c= .int .i64 k/\k<=s.size/\wr=w1/\Hid (cE l=(l.drop k).all gP)) (fun c _=>s.size-(intOf c).toNat)
   case atStart=>exact⟨0,rfl,by omega,rfl,HS0⟩
   case round=>
    obtain⟨k,rfl,hk,rfl,HS⟩:=hrel
    by_cases hlt:k<s.size
    .have hk':k<l.length:=by omega
     have hc:=adf.out k hk';have HN:Hid (cE l=(gP l[k]&&(l.drop (k+1)).all gP)):=by
      have:=HS.out;rw[List.drop_eq_getElem_cons hk',List.all_cons] at this;exact this
     have hb0:(l[k].toNat:Int)<=255:=by have:=l[k].toNat_lt;omega
     have HL:Hid (gP l[k]=(decide (97<=l[k].toNat)&&decide (l[k].toNat<=122))):=rfl;generalize l[k]=c at*
     by_cases g1:(c.toNat:Int)<97
     .have HF:Hid (cE l=false):=by
       show _=_;rw[HN.out,HL.out];have:decide (97<=c.toNat)=false:=by simp;omega
       rw[this];rfl
      go_wp2_with fail;go_ret;exact⟨by rw[HLL.out,HF.out];rfl,f1⟩
     .by_cases g2:(c.toNat:Int)>122
      .have HF:Hid (cE l=false):=by
        show _=_;rw[HN.out,HL.out];have:decide (c.toNat<=122)=false:=by simp;omega
        rw[this];simp
       go_wp2_with fail;go_ret;exact⟨by rw[HLL.out,HF.out];rfl,f1⟩
      .have HF:Hid (cE l=(l.drop (k+1)).all gP):=by
        show _=_;rw[HN.out,HL.out];have e1:decide (97<=c.toNat)=true:=by simp;omega
        have e2:decide (c.toNat<=122)=true:=by simp;omega
        rw[e1,e2];rfl
       go_wp2_with fail
       go_roundw
       case rel=>exact⟨k+1,by go_num,by omega,trivial,HF⟩
       case measure=>simp[intOf];omega
    .have HF:Hid (cE l=true):=by
      have:=HS.out;rw[List.drop_of_length_le (by omega)] at this;exact this
     go_wp2_with fail;go_ret;exact⟨by rw[HLL.out,HF.out];rfl,f1⟩
def iS (s:Int)(p:List UInt8):Bool:=if s=0\/s=1\/s=2 then cE p else(if s=3 then p==[] else false)
abbrev adb:=Nat×List UInt8
theorem xy (a b:List UInt8):(aF a==aF b)=(a==b):=by
 have e:(aF a==aF b)=((aF a).toList==(aF b).toList):=beq_toListBytes _ _;rw[e,ByteArray.toList_eq,ByteArray.toList_eq];rfl
def nameOf (f:dk):adb:=(f.set,f.path)
theorem CM (l:List dk)(k:Nat)(hk:k<l.length):((gT l).drop (k*3)).take 3=cj l[k].set l[k].path l[k].content:=by
 have h:∀(l:List dk) (k:Nat),(gT l).drop (k*3)=gT (l.drop k):=by
  intro l
  induction l with
  |nil=>intro k;simp[gT]
  |cons f r ih=>
   intro k;cases k with
   |zero=>simp
   |succ k=>
    have:=ih k;simp only[gT,List.flatMap_cons,List.drop_succ_cons] at this⊢;rw[List.drop_append,List.drop_of_length_le (by simp[cj];omega),List.nil_append,<-this]
    congr 1
    simp[cj];omega
 rw[h,List.drop_eq_getElem_cons hk];show List.take 3 (cj l[k].set l[k].path l[k].content++gT (l.drop (k+1)))=_;rfl
end
section
open Go.Conc
open Go.ConcN (sumTo)
open Go.ConcM (OsLater)
namespace aI
section
variable {Δ:Type}{X:Cx Δ}{P:Program}{Post:Gh Δ->Goroutine->World->Prop}{S0:Nat->Prop}{C:Cf Δ}{gs:Array Goroutine}{w w':World}{t:Trace}{sl:Option (Nat×Nat)}{r:bm}{x x':Goroutine}{es:Array Event}
theorem QQ {aw aw':bm->Nat}{r:bm}(h:∀r',r'≠r->aw' r'=aw r')(hlt:aw' r<aw r):awS aw'<awS aw:=by
 unfold awS;cases r with
 |m=>have h1:=h .a (by simp);have h2:=h .b (by simp);omega
 |a=>have h1:=h .m (by simp);have h2:=h .b (by simp);omega
 |b=>have h1:=h .m (by simp);have h2:=h .a (by simp);omega
theorem stepBlock (c:Core X P Post S0 C gs w t)(hr:born C.L r)(hx:gs[gid C.n0 r]? =some x)(hnq:(C.L r).pc≠.quit)(hdd:C.ds r=fI (C.L r).pc)(haw:C.aw r=1)
  (hst:∀w₁,RX X (C.γ r).ro (C.γ r).own w w₁->dL (AtR X P Post (C.k r) r) (C.L r) (C.γ r) (C.γ r).own x w₁) (hsl:(C.L r).sleeps C.s=true) (hs:stepG P (uC r) x w= .go {x with status:= .blocked} w #[]):
  ∃m₁ ops μ',runT P (crowd gs w sl) (gid C.n0 r)=(.next m₁,ops)/\Sm μ' (C.ms gs.size)/\AU X P Post S0 C.n0 μ' m₁ (t++ops):=by
 have hrun:=runT_crowd_go (P:=P) (sl:=sl) (i:=gid C.n0 r) hx (by rw[Au c.qZ];exact hs);have hwk:∀o,woken P x {x with status:= .blocked} w o=o:=fun o=>by unfold woken;simp
 have hsz:((gs.map (woken P x {x with status:= .blocked} w)).setIfInBounds (gid C.n0 r) {x with status:= .blocked}).size=gs.size:=by simp
 have hget:∀i,i≠gid C.n0 r->((gs.map (woken P x {x with status:= .blocked} w)).setIfInBounds (gid C.n0 r) {x with status:= .blocked})[i]? =gs[i]? :=fun i hi=>by
  rw[ConcN.get_map_set _ _ _ _ (Ne.symm hi)];cases gs[i]? with
  |none=>rfl
  |some g=>simp[hwk]
 refine⟨_,_,({C with aw:=upd C.aw r 0}:Cf Δ).ms gs.size,hrun,.right _ (.right _ (.right _ (QQ (r:=r) (fun r' h=>upd_ne _ _ h) (by show upd C.aw r 0 r<C.aw r;rw[upd_same,haw];omega)))),{C with aw:=upd C.aw r 0},_,w,sl,rfl,rfl,?_,by rw[hsz]⟩;rw[ofEvents_none,Array.append_empty]
 refine⟨c.qZ,by rw[hsz];exact c.size,c.tab,c.fuel,c.sh,fun r' hr'=>?_,c.Ra,fun i g h0 h1 hg=>?_,by rw[hsz];exact c.above,c.deaf,c.data,c.ER,c.fin,c.rel,c.lay,c.ti⟩
 .by_cases e:r'=r
  .subst e
   refine⟨_,ConcN.get_map_set_same _ _ _ (AB c hr),.inr (.inl ⟨hnq,hdd,upd_same _ _ _,hsl,x,rfl,hst⟩)⟩
  .obtain⟨g,h1,h2⟩:=c.sit r' hr'
   refine⟨g,by rw[hget _ (fun h=>e (j0 c.qZ h))];exact h1,?_⟩;simp only[upd_ne _ _ e];exact h2
 .rw[hget _ (Ne.symm (uZ c.qZ h0 h1 r))] at hg
  exact c.old i g h0 h1 hg
theorem Eg {e:Event}(h:e.mute=true):e.loc= .mark .disable\/e.loc= .mark .enable:=by
 obtain⟨l,a,b⟩:=e;cases l with
 |mark m=>cases m<;>simp[Event.mute] at h<;>simp
 |_=>simp[Event.mute] at h
theorem NR {n i m:Nat}{q:Nat->Nat}(hi:i<n)(hq:q i=m+1):sumTo n (fun j=>if j=i then m else q j)<sumTo n q:=by
 have h:=ConcN.sumTo_upd q m id hi;have h':sumTo n (fun j=>if j=i then m else q j)+q i=sumTo n q+m:=h;omega
theorem yR (c:Core X P Post S0 C gs w t){i:Nat}(hi0:i≠0)(hx:gs[i]? =some x)(F4:x.status= .running)
  (hcase:i<C.n0\/∃r,born C.L r/\r≠.m/\i=gid C.n0 r/\(C.L r).pc= .quit) (hq:QuitsD P (C.q i) (Deaf t i) x):
  ∃m₁ ops μ',runT P (crowd gs w sl) i=(.next m₁,ops)/\Sm μ' (C.ms gs.size)/\AU X P Post S0 C.n0 μ' m₁ (t++ops):=by
 have hlt:i<gs.size:=(Array.getElem?_eq_some_iff.1 hx).1;have hiM:(i==0)=false:=by simpa using hi0
 cases hqi:C.q i with
 |zero=>rw[hqi] at hq;rw[hq.1] at F4;cases F4
 |succ k=>
  rw[hqi] at hq;rcases hq with⟨hf,_⟩|⟨_,g',es,hmute,hstep,hq'⟩
  .rw[hf] at F4;cases F4
  have hrun:=runT_crowd_go (P:=P) (sl:=sl) (i:=i) hx (by rw[hiM];exact hstep w);have ahX:g'.status= .running\/g'.status= .finished:=hq'.status
  let q':Nat->Nat:=fun j=>if j=i then k else C.q j
  have hops:∀op∈MemOp.ofEvents i x.frame.fn x.frame.place es,op.g=i/\op.act.touch? =none/\op.act.low w.heap.size/\op.act≠.mark (.release (mA X))/\op.act≠.mark (.release (wA X)):=fun op hop=>by
   obtain⟨e,he,rfl⟩:=Go.Conc.mem_ofEvents hop;have hm:=hmute e he;refine⟨rfl,touch_mute hm,low_mute hm _,?_,?_⟩<;>(rcases Eg hm with h|h<;>simp[dr h])
  have hsz:((gs.map (woken P x g' w)).setIfInBounds i g').size=gs.size:=by simp
  have key:∀r',∃a,born C.L r'->i≠gid C.n0 r'->∃g,((gs.map (woken P x g' w)).setIfInBounds i g')[gid C.n0 r']? =some g/\Sit X P Post (C.k r') r' (C.L r') (C.γ r') (C.ρ r') a (C.ds r') (C.q (gid C.n0 r')) C.s g w:=fun r'=>by
   by_cases h:born C.L r'/\i≠gid C.n0 r'
   .obtain⟨h1,h2⟩:=h
    obtain⟨g,hg,hs⟩:=c.sit r' h1;obtain⟨k',hk⟩:=c.kpos h1;rw[hk] at hs⊢;obtain⟨a,ha⟩:=hs.other (x:=x) (x':=g') (s':=C.s) (RX.refl X _ _ w) (fun z=> .inl z);exact⟨a,fun _ _=>⟨_,by rw[ConcN.get_map_set _ _ _ _ h2,hg];rfl,ha⟩⟩
   .exact⟨0,fun h1 h2=>absurd ⟨h1,h2⟩ h⟩
  let aw':bm->Nat:=fun r'=>(key r').choose
  let ds':bm->Nat:=fun r'=>if i=gid C.n0 r' then deafBehind (C.ds r') es else C.ds r'
  let C':Cf Δ:={C with aw:=fun r'=>if i=gid C.n0 r' then 0 else aw' r',ds:=ds',q:=q'}
  have hdeaf:∀r',born C.L r'->Deaf (t++MemOp.ofEvents i x.frame.fn x.frame.place es) (gid C.n0 r')=ds' r':=fun r' h=>by
   by_cases e:i=gid C.n0 r'
   .simp only[ds',if_pos e]
    rw[<-e,Deaf_own,e,c.deaf r' h]
   .simp only[ds',if_neg e]
    rw[Deaf_other t (g':=i) e _ (fun op ho=>(hops op ho).1)];exact c.deaf r' h
  refine⟨_,_,C'.ms gs.size,hrun,.right _ (.right _ (.left _ _ (NR hlt hqi))),C',_,w,sl,rfl,rfl,?_,by rw[hsz]⟩;refine⟨c.qZ,by rw[hsz];exact c.size,c.tab,c.fuel,c.sh,fun r' hr'=>?_,c.Ra,fun j g h0 h1 hg=>?_,fun j hj=>?_,hdeaf,c.data,c.ER,c.fin,fun r' h=>?_,c.lay,?_⟩
  .by_cases e:i=gid C.n0 r'
   ·
    have hqp:(C.L r').pc= .quit:=by
     rcases hcase with h|⟨r'',_,_,h3,h4⟩
     .cases r' with
      |m=>exact absurd e hi0
      |a=>simp[gid] at e;omega
      |b=>simp[gid] at e;omega
     .rw[<-j0 c.qZ (h3.symm.trans e)];exact h4
    refine⟨g',by rw[<-e];exact ConcN.get_map_set_same _ _ _ hlt,.inr (.inr ⟨hqp,by simp[C',e],?_⟩)⟩;simp only[C',q',ds',<-e,if_true];rw[e,c.deaf r' hr'] at hq';simpa [e] using hq'
   .obtain⟨g,h1,h2⟩:=(key r').choose_spec hr' e
    refine⟨g,h1,?_⟩;simp only[C',q',ds',if_neg e,if_neg (Ne.symm e)];exact h2
  .by_cases e:i=j
   .subst e
    rw[ConcN.get_map_set_same _ _ _ hlt] at hg;obtain rfl:=Option.some.inj hg;simp only[C',q',if_true];rw[Deaf_own];exact hq'
   .rw[ConcN.get_map_set _ _ _ _ e] at hg
    obtain⟨y,hy,rfl⟩:=Option.map_eq_some_iff.1 hg;have hqj:=c.old j y h0 h1 hy;simp only[C',q',if_neg (Ne.symm e)];rw[woken_quitsD hqj,Deaf_other t e _ (fun op ho=>(hops op ho).1)];exact hqj
  .rw[hsz] at hj
   rw[Deaf_other t (g':=i) (by omega) _ (fun op ho=>(hops op ho).1)];exact c.above j hj
  .obtain⟨p,hp⟩:=c.rel r' h
   by_cases e:i=gid C.n0 r'
   .subst e
    exact⟨p,ConcN.RelBy.appOwn hp _ _ _ fun j e he=> .inl (touch_mute (hmute e (Array.mem_of_getElem? he)))⟩
   .exact⟨p,ConcN.RelBy.appOther hp (fun op ho=>(hops op ho).1) e⟩
  .refine TI.mute c.ti hi0 ?_ hops
   rcases hcase with h|⟨r'',h1,h2,h3,_⟩
   .exact .inl h
   .exact .inr ⟨r'',h2,h1,h3⟩
theorem PL (T:Lo)(h:(hd T).pc≠.bad):fI (hd T).pc=1:=by rcases CJ T with e|e|e<;>first|(rw[e];rfl)|exact absurd e h
theorem Pa {T:Lo}{s:Sh}{q:Lo×Sh}(h:q∈mv T s)(hb:q.1.pc≠.bad)(he:EvStop X T q.1 es):deafBehind (fI T.pc) es=fI q.1.pc:=by
 have one:∀(d:Nat) (m:Mark),deafBehind d #[pK m]=match m with|.disable=>d+1|.enable=>d-1|_=>d:=fun d m=>by cases m<;>rfl
 have hcl:=Gs T;have Ge:∀{a b:Nat},a=1->b=1->ConcM.BookOK X.Fd X.Wg 1 1 es->deafBehind a es=b:=fun h1 h2 h=>by rw[h1,h2];exact h.2.1
 have hdd:=PL;obtain⟨pc,old,nw,aw,sv,it,n⟩:=T;obtain⟨mu,ms,wg,ws⟩:=s;cases pc<;>simp only[mv] at h<;>(repeat' split at h)<;>simp only[List.mem_cons,List.not_mem_nil,or_false] at h<;>(first|contradiction|(obtain rfl:=h)|(rcases h with rfl|rfl))<;>
  (first
   |exact absurd rfl hb
   |exact Ge rfl (hdd _ hb) he.1
   |exact Ge rfl (by rw[hcl];rfl) he.1
   |exact Ge rfl (by rfl) he.1
   |(simp only[EvStop,iX] at he;simp only[he,one];rfl)
   |(simp[EvStop,iX] at he;simp only[he,one];rfl)
   |(refine Ge rfl ?_ he.1;simp only;split<;>rfl))
theorem Ie {n0:Nat}{RO:bm->Loc->Prop}{own:bm->Nat->Prop}{B:Nat}(lay:Lay X S0 C.γ C.L B){T T':Lo}(he:EvStop X T T' es)(hsd:lY T.pc=false->r≠.m->True)(hrm:T.pc= .p1\/T.pc= .p2\/T.pc= .pw->r= .m){fn:FuncId}{pos:String}:
  ∀op∈MemOp.ofEvents (gid n0 r) fn pos es,OkOp n0 (xQ X S0) RO own (mA X) (wA X) B B r op/\∀z,op.act.touch? =some z->(xQ X S0 z.loc/\z.kind= .atomic)\/r= .m:=by
 intro op hop;obtain⟨e,hem,rfl⟩:=Go.Conc.mem_ofEvents hop;have mark:∀(m:Mark),es=#[pK m]->(MemAct.mark m).touch? =none->m≠.release (mA X)->m≠.release (wA X)->(MemAct.mark m).low B->
   OkOp n0 (xQ X S0) RO own (mA X) (wA X) B B r {g:=gid n0 r,fn,pos,act:= .ofEvent e}/\∀z,(MemAct.ofEvent e).touch? =some z->(xQ X S0 z.loc/\z.kind= .atomic)\/r= .m:=fun m h1 h2 h3 h4 h5=>by
  rw[h1] at hem;simp at hem;subst hem;have e0:MemAct.ofEvent (pK m)= .mark m:=rfl;refine⟨⟨rfl,?_,?_,?_,fun z hz=>?_⟩,fun z hz=>?_⟩<;>simp only[e0] at*
  .simpa using h3
  .simpa using h4
  .exact h5
  .rw[h2] at hz;cases hz
  .rw[h2] at hz;cases hz
 have said:∀(m:Mark) (wr:Bool),es=#[pK m]->(MemAct.mark m).touch? =some ⟨.cell (Jl X),wr,.said⟩->m≠.release (mA X)->m≠.release (wA X)->(MemAct.mark m).low B->r= .m->
   OkOp n0 (xQ X S0) RO own (mA X) (wA X) B B r {g:=gid n0 r,fn,pos,act:= .ofEvent e}/\∀z,(MemAct.ofEvent e).touch? =some z->(xQ X S0 z.loc/\z.kind= .atomic)\/r= .m:=fun m wr h1 h2 h3 h4 h5 h6=>by
  rw[h1] at hem;simp at hem;subst hem;have e0:MemAct.ofEvent (pK m)= .mark m:=rfl;refine⟨⟨rfl,?_,?_,?_,fun z hz=>?_⟩,fun z hz=> .inr h6⟩<;>simp only[e0] at*
  .simpa using h3
  .simpa using h4
  .exact h5
  .rw[h2] at hz
   obtain rfl:=Option.some.inj hz;exact .inl ⟨⟨_,rfl,.inr (.inl rfl)⟩,.inr ⟨rfl,h6⟩⟩
 unfold EvStop at he;cases hk:iX T T'<;>rw[hk] at he<;>simp only at he
 .exact mark _ he rfl (by simp) (by simp) trivial
 .exact mark _ he rfl (by simp) (by simp) trivial
 .exact mark _ he rfl (by simp) (by simp) lay.uB
 .exact mark _ he rfl (by simp) (by simp) lay.uB
 .exact mark _ he rfl (by simp) (by simp) lay.sO
 .exact mark _ he rfl (by simp) (by simp) lay.sO
 .have:T.pc= .p1\/T.pc= .p2\/T.pc= .pw:=by
   revert hk;unfold iX;cases T.pc<;>simp;split<;>simp
  exact said _ false he rfl (by simp) (by simp) lay.sO (hrm this)
 .have:T.pc= .p1\/T.pc= .p2\/T.pc= .pw:=by
   revert hk;unfold iX;cases T.pc<;>simp;split<;>simp
  exact said _ true he rfl (by simp) (by simp) lay.sO (hrm this)
 .rcases he.1.1 e hem with h1|h1|⟨a,z,rfl,ha⟩
  .have e0:=dr h1
   refine⟨⟨rfl,?_,?_,?_,fun z hz=>?_⟩,fun z hz=>?_⟩<;>simp only[e0] at*
   .simp
   .simp
   .trivial
   .cases hz
   .cases hz
  .have e0:=dr h1
   refine⟨⟨rfl,?_,?_,?_,fun z hz=>?_⟩,fun z hz=>?_⟩<;>simp only[e0] at*
   .simp
   .simp
   .trivial
   .cases hz
   .cases hz
  .have e0:MemAct.ofEvent (⟨.cell a,z,true⟩:Event)= .access ⟨.cell a,z,true⟩:=by cases z<;>rfl
   have hs:xQ X S0 (.cell a):=⟨a,rfl,ha.elim (fun h=> .inr (.inr ⟨h,he.2 _ hem a rfl h⟩)) fun h=> .inr (.inl h)⟩
   refine⟨⟨rfl,?_,?_,?_,fun y hy=>?_⟩,fun y hy=>?_⟩<;>simp only[e0] at*
   .simp
   .simp
   .show a.block<B
    rcases ha with h|h<;>rw[h]
    .exact lay.uB
    .exact lay.sO
   .simp only[MemAct.touch?,Option.some.injEq] at hy
    subst hy;exact .inl ⟨hs,.inl rfl⟩
   .simp only[MemAct.touch?,Option.some.injEq] at hy
    subst hy;exact .inl ⟨hs,rfl⟩
end
theorem KV {T:Lo}{s:Sh}{q:Lo×Sh}(h:q∈mv T s):(q.1.pc= .ur↔T.pc= .la)/\(T.pc= .ur->q.1.pc= .ud)/\(past q.1.pc=true->past T.pc=true\/(T.pc= .out/\q.1.pc= .wk))/\(T.pc= .out->q.1.pc= .wk\/q.1.pc= .l0)/\q.1.pc≠.un/\(T.pc= .d4->q.1.pc= .quit)/\(q.1.pc= .quit->T.pc= .d1\/T.pc= .d4):=by
 have hh:=CJ;have hcl:=Gs T;have key:∀{p p':Pc},p'= .c2\/p'= .sq\/p'= .bad->p≠.la->p≠.ur->p≠.out->p≠.d4->(p'= .ur↔p= .la)/\(p= .ur->p'= .ud)/\(past p'=true->past p=true\/(p= .out/\p'= .wk))/\(p= .out->p'= .wk\/p'= .l0)/\p'≠.un/\(p= .d4->p'= .quit)/\(p'= .quit->p= .d1\/p= .d4):=fun {p p'} h a b c d=>by rcases h with rfl|rfl|rfl<;>simp[past,a,b,c,d]
 obtain⟨pc,old,nw,aw,sv,it,n⟩:=T;obtain⟨mu,ms,wg,ws⟩:=s;cases pc<;>simp only[mv] at h<;>(repeat' split at h)<;>simp only[List.mem_cons,List.not_mem_nil,or_false] at h<;>(first|contradiction|(obtain rfl:=h)|(rcases h with rfl|rfl))<;>
  first
   |exact key (hh _) (by simp) (by simp) (by simp) (by simp)
   |(simp[hcl,past];done)
   |(simp[past];done)
   |(simp only;split<;>simp[past])
theorem mv_nil {T:Lo}{s:Sh}(hT:lY T.pc=true\/iR T.pc=true)(h1:¬(T.pc= .g1\/T.pc= .g2))(h2:T.pc≠.aq)(h3:T.pc≠.un)(h4:T.pc≠.quit)(h:mv T s=[]):T.sleeps s=true:=by
 obtain⟨pc,old,nw,aw,sv,it,n⟩:=T;obtain⟨mu,ms,wg,ws⟩:=s;cases pc<;>simp[lY,iR] at hT h1 h2 h3 h4<;>simp only[mv] at h<;>(repeat' split at h)<;>first|(simp at h;done)|(simp[Lo.sleeps];assumption)
section
variable {L:bm->Lo}{s:Sh}{r1 r2:Nat}{q:Lo×Sh}
theorem uI.wake (h:uI L s r1 r2){r r':bm}(hq:q∈mv (L r) s)(hu:(L r).pc≠.un)(hne:r'≠r)(hsl:(L r').sleeps s=true):(L r').sleeps q.2=true\/(L r).pc= .us\/(L r).pc= .d4:=by
 have FM:=h.Yn.facts;have FG:=h.PB.facts;simp only[Lo.sleeps,Bool.or_eq_true,Bool.and_eq_true,beq_iff_eq] at hsl⊢
 have aaV:fl (L r).pc=true->q.2.ws=s.ws:=fun hl=>(uT hl hq).2.2
 have Wx:jq (L r).pc=true->q.2.ms=s.ms:=fun hl=>(uQ hl hq).2.2.1
 have SN:jW (L r).pc=true->q.2.ms=s.ms:=fun hl=>(FS hl hq).2.2.1
 have Q8:kb (L r).pc=true->q.2=s:=fun hl=>(rg hl hq).1
 have aam:(L r).pc= .out->q.2=s:=fun ho=>by
  simp only[mv,ho] at hq;rcases List.mem_cons.1 hq with rfl|hq
  .rfl
  .split at hq
   .simp only[List.mem_singleton] at hq;subst hq;rfl
   .simp at hq
 have JU:kb (L r).pc=true\/fl (L r).pc=true\/jq (L r).pc=true\/jW (L r).pc=true\/(L r).pc= .out:=by
  cases hp:(L r).pc<;>simp[kb,fl,jq,jW]<;>(simp[mv,hp] at hq)
 rcases hsl with⟨h1,h2⟩|⟨h1,h2⟩
 ·
  have hnm:r'≠.m:=fun e=>by subst e;have:=h.st;rw[h1] at this;cases this
  have hpm:pm (L r')={L r' with n:=0}:=by simp[pm,h1]
  have hw:(pm (L r')).waits s.ms=true:=by rw[hpm];simp[Lo.waits,h1,h2]
  rcases JU with c|c|c|c|c
  .rw[Q8 c];exact .inl (.inl ⟨h1,h2⟩)
  .have m1:=(uT c hq).1
   have hrm:r≠.m:=fun e=>by subst e;have:=h.st;revert this c;cases (L .m).pc<;>simp[fl,lY]
   have fin:(pm (L r')).waits q.2.ms=true\/(pm (L r)).pc= .us:=by
    cases r with
    |m=>exact absurd rfl hrm
    |a=>cases r' with
     |m=>exact absurd rfl hnm
     |a=>exact absurd rfl hne
     |b=>exact FM.JD _ m1 hw
    |b=>cases r' with
     |m=>exact absurd rfl hnm
     |a=>exact FM.JC _ m1 hw
     |b=>exact absurd rfl hne
   rcases fin with f|f
   .rw[hpm] at f
    simp[Lo.waits,h1] at f;exact .inl (.inl ⟨h1,f⟩)
   .refine .inr (.inl ?_)
    revert f c
    cases hp:(L r).pc<;>simp[fl,pm,hp]
  .rw[Wx c];exact .inl (.inl ⟨h1,h2⟩)
  .rw[SN c];exact .inl (.inl ⟨h1,h2⟩)
  .rw[aam c];exact .inl (.inl ⟨h1,h2⟩)
 ·
  have hm:r'= .m:=by
   cases r' with
   |m=>rfl
   |a=>have:=h.wa;rw[h1] at this;cases this
   |b=>have:=h.wb;rw[h1] at this;cases this
  subst hm;have hp0:(p0 (L .m)).pc= .w3:=by simp[p0,h1]
  rcases JU with c|c|c|c|c
  .rw[Q8 c];exact .inl (.inr ⟨h1,h2⟩)
  .rw[aaV c];exact .inl (.inr ⟨h1,h2⟩)
  .have m1:=(uQ c hq).1
   have fin:q.2.ws=0\/(pw (L r)).pc= .d4:=by
    cases r with
    |m=>exact absurd rfl hne
    |a=>exact FG.JD hp0 h2 _ m1
    |b=>exact FG.JC hp0 h2 _ m1
   rcases fin with f|f
   .exact .inl (.inr ⟨h1,f⟩)
   .refine .inr (.inr ?_)
    revert f c
    cases hp:(L r).pc<;>simp[jq,pw,hp]
  .exfalso
   cases r with
   |m=>exact hne rfl
   |a=>have:=h.wa;revert this c;cases (L .a).pc<;>simp[jW,iR]
   |b=>have:=h.wb;revert this c;cases (L .b).pc<;>simp[jW,iR]
  .rw[aam c];exact .inl (.inr ⟨h1,h2⟩)
end
section
variable {Δ:Type}{X:Cx Δ}{P:Program}{Post:Gh Δ->Goroutine->World->Prop}{S0:Nat->Prop}{C:Cf Δ}{gs:Array Goroutine}{w w':World}{t:Trace}{sl:Option (Nat×Nat)}{r:bm}{x x':Goroutine}{es:Array Event}
theorem pJ {pc:Pc}{own:Nat->Prop}{c:Nat}(h:iO X pc own c):own c\/(pc= .la/\c=X.M):=by
 cases pc<;>first|exact .inl h|exact .inl h.1|exact h.imp id fun z=>⟨rfl,z⟩
theorem Lay.next (lay:Lay X S0 C.γ C.L w.heap.size)(tab:uI C.L C.s C.r1 C.r2)(hr:born C.L r){q:Lo×Sh}(hq:q∈mv (C.L r) C.s)(hex:¬((upd C.L r q.1 .a).pc= .ur/\(upd C.L r q.1 .b).pc= .ur)){γ':Gh Δ}(h1:γ'.ro=(C.γ r).ro)(h2:γ'.own=iO X (C.L r).pc (C.γ r).own)
  (hrm:(C.L r).pc= .la->r≠.m):Lay X S0 (upd C.γ r γ') (upd C.L r q.1) w.heap.size:=by
 obtain⟨u1,u2,_,_,u5,_⟩:=KV hq;have ro':∀r' c,(upd C.γ r γ' r').ro c->(C.γ r').ro c:=fun r' c h=>by
  by_cases e:r'=r
  .subst e;rw[upd_same,h1] at h;exact h
  .rw[upd_ne _ _ e] at h;exact h
 have own':∀r' c,(upd C.γ r γ' r').own c->(C.γ r').own c\/(r'=r/\(C.L r).pc= .la/\c=X.M):=fun r' c h=>by
  by_cases e:r'=r
  .subst e;rw[upd_same,h2] at h;exact(pJ h).imp id fun z=>⟨rfl,z⟩
  .rw[upd_ne _ _ e] at h;exact .inl h
 have spM:X.M≠X.Fd/\X.M≠X.Wg/\¬S0 X.M/\X.M<w.heap.size:=⟨lay.fm.symm,lay.mw,fun e=>(lay.s0 _ e).2.2.1 rfl,lay.An⟩
 have noM:(C.L r).pc= .la->∀r',¬(C.γ r').own X.M:=fun hla r' ho=>by
  have hu:=(lay.uw r').1 ho;have hn:r'≠r:=fun e=>by subst e;rw[hla] at hu;cases hu
  have hnm:r'≠.m:=fun e=>by subst e;exact jd tab rfl hu
  have hq1:=u1.2 hla
  apply hex
  cases r with
  |m=>exact absurd rfl (hrm hla)
  |a=>cases r' with
   |m=>exact absurd rfl hnm
   |a=>exact absurd rfl hn
   |b=>exact⟨by rw[upd_same];exact hq1,by rw[upd_ne _ _ (by simp)];exact hu⟩
  |b=>cases r' with
   |m=>exact absurd rfl hnm
   |a=>exact⟨by rw[upd_ne _ _ (by simp)];exact hu,by rw[upd_same];exact hq1⟩
   |b=>exact absurd rfl hn
 refine⟨fun r' c h=>?_,fun r' h=>lay.Yi r' (ro' _ _ h),fun r'=>?_,fun r' r'' c h h'=>?_,fun r' r'' c h h'=>?_,fun r' c h=>?_,lay.fm,lay.fw,lay.mw,lay.s0,lay.uB,lay.An,lay.sO⟩
 .rcases h with h|h
  .rcases own' _ _ h with h|⟨_,_,rfl⟩
   .exact lay.sp r' c (.inl h)
   .exact spM
  .exact lay.sp r' c (.inr (ro' _ _ h))
 .by_cases e:r'=r
  .subst e
   rw[upd_same,upd_same,h2,u1];constructor
   .intro h
    cases hp:(C.L r').pc<;>rw[hp] at h<;>first|rfl|(have:=(lay.uw r').1 h;rw[hp] at this;cases this)|exact absurd rfl h.2
   .intro h;rw[h];exact .inr rfl
  .rw[upd_ne _ _ e,upd_ne _ _ e];exact lay.uw r'
 .rcases own' _ _ h with h3|⟨e3,l3,c3⟩<;>rcases own' _ _ h' with h4|⟨e4,l4,c4⟩
  .exact lay.apart _ _ c h3 h4
  .subst c4;exact absurd h3 (noM l4 _)
  .subst c3;exact absurd h4 (noM l3 _)
  .rw[e3,e4]
 .rcases own' _ _ h with h3|⟨e3,l3,c3⟩
  .exact lay.y7 _ _ c h3 (ro' _ _ h')
  .subst c3;exact lay.Yi _ (ro' _ _ h')
 .have hb:born (upd C.L r q.1) r':=by
   by_cases e:r'=r
   .subst e;show(upd C.L r' q.1 r').pc≠.un;rw[upd_same];exact u5
   .show(upd C.L r q.1 r').pc≠.un
    rw[upd_ne _ _ e];rcases h with h|h
    .rcases own' _ _ h with h|⟨e',_⟩
     .exact lay.lv r' c (.inl h)
     .exact absurd e' e
    .exact lay.lv r' c (.inr (ro' _ _ h))
  exact hb
theorem stepMove (c:Core X P Post S0 C gs w t)(hr:born C.L r)(hx:gs[gid C.n0 r]? =some x)(hnq:(C.L r).pc≠.quit)(hdd:C.ds r=fI (C.L r).pc){q:Lo×Sh}(hq:q∈mv (C.L r) C.s){k':Nat}(hk:C.k r=k'+1)
  {cm:Δ} (hcm:(C.L r).pc≠.ur->cm=(C.γ r).mine) (hur:(C.L r).pc= .ur->∃o,w.heap[X.M]? =some o/\AV X r cm (C.γ r).other o) (hwake:(C.L r).pc= .us\/(C.L r).pc= .d4->mayWake P x=true) (hfin:q.1.pc= .wk->cm=X.fin r)
  (hs:stepG P (uC r) x w= .go x' w' es) (hsh:ShAt X w' q.2) (heff:ConcM.Eff X.Fd X.Wg w w') (hev:EvStop X (C.L r) q.1 es) {d:Δ} (hd:(C.L r).pc= .la->d=(C.γ (KJ r)).mine)
  (PR:After X P (AtR X P Post k' r) r q.1 {(C.γ r) with own:=iO X (C.L r).pc (C.γ r).own,mine:=cm,other:=if(C.L r).pc= .la then d else(C.γ r).other} x' w'):
  ∃m₁ ops μ',runT P (crowd gs w sl) (gid C.n0 r)=(.next m₁,ops)/\Sm μ' (C.ms gs.size)/\AU X P Post S0 C.n0 μ' m₁ (t++ops):=by
 have hrun:=runT_crowd_go (P:=P) (sl:=sl) (i:=gid C.n0 r) hx (by rw[Au c.qZ];exact hs);obtain⟨hnb,r1',r2',htab,ni⟩:=c.tab.move hq hr;obtain⟨u1,u2,u3,u4,u5,u6,u7⟩:=KV hq;have hfu:=c.fuel r hr;obtain⟨k'',af8⟩:∃k'',k'=k''+1:=⟨k'-1,by omega⟩
 generalize hγ:({(C.γ r) with own:=iO X (C.L r).pc (C.γ r).own,mine:=cm,other:=if(C.L r).pc= .la then d else(C.γ r).other}:Gh Δ)=γ' at PR;have g1:γ'.ro=(C.γ r).ro:=by rw[<-hγ]
 have g2:γ'.own=iO X (C.L r).pc (C.γ r).own:=by rw[<-hγ]
 have g3:γ'.mine=cm:=by rw[<-hγ]
 have g4:γ'.other=if(C.L r).pc= .la then d else(C.γ r).other:=by rw[<-hγ]
 have Lf:(C.L r).pc= .us\/(C.L r).pc= .d4->x'.status= .running:=fun hp=>by
  unfold After at PR;split at PR
  .obtain⟨qq,hqq⟩:=PR
   exact ConcM.quitsD_running hqq
  .obtain⟨ρ',hl⟩:=PR
   rw[af8] at hl;exact iQ hl
 obtain⟨aw',haw⟩:=c.others (x:=x) (x':=x') hr (fun r' _=>Hv c.lay heff hsh r') (s':=q.2) fun r' hne hsl=>(c.tab.wake hq hr hne hsl).imp id fun h=>⟨hwake h,Lf h⟩
 have hsz:((gs.map (woken P x x' w')).setIfInBounds (gid C.n0 r) x').size=gs.size:=by simp
 have hst:lY (C.L r).pc=true->r= .m:=fun h=>by
  cases r with
  |m=>rfl
  |a=>have:=c.tab.wa;revert this h;cases (C.L .a).pc<;>simp[lY,iR]
  |b=>have:=c.tab.wb;revert this h;cases (C.L .b).pc<;>simp[lY,iR]
 have Ix:iR (C.L r).pc=true->r≠.m:=fun h e=>by subst e;have:=c.tab.st;revert this h;cases (C.L .m).pc<;>simp[lY,iR]
 have hok:=Ie (n0:=C.n0) (RO:=Ng X C.γ C.L) (own:=fun r=>(C.γ r).own) (r:=r) c.lay hev (fun _ _=>trivial) (fun h=>hst (by rcases h with h|h|h<;>rw[h]<;>rfl)) (fn:=x.frame.fn) (pos:=x.frame.place);have hdeaf:Deaf (t++MemOp.ofEvents (gid C.n0 r) x.frame.fn x.frame.place es) (gid C.n0 r)=fI q.1.pc:=by
  rw[Deaf_own,c.deaf r hr,hdd];exact Pa hq hnb hev
 have afS:=TI.app c.qZ c.ap c.ti hr (Nat.le_refl _) (fun op ho=>(hok op ho).1) (fun hrm i z hi hz hm=> .inr (by
  rcases bU hz with⟨h,_⟩|⟨_,op,hop,_,hox⟩
  .omega
  .exact((hok op hop).2 z hox).resolve_right hrm))
 have abC:=k7 htab;have Wh:=Lay.next c.lay c.tab hr hq abC g1 g2 (fun h=>Ix (by rw[h];rfl));have abc:w'.heap.size=w.heap.size:=heff.size;have hM:w'.heap[X.M]? =w.heap[X.M]? :=heff.block _ c.lay.fm.symm c.lay.mw;have born':∀r',born (upd C.L r q.1) r'↔born C.L r':=fun r'=>by
  by_cases e:r'=r
  .subst e;show(upd C.L r' q.1 r').pc≠.un↔_;rw[upd_same];exact⟨fun _=>hr,fun _=>u5⟩
  .show(upd C.L r q.1 r').pc≠.un↔_;rw[upd_ne _ _ e];exact Iff.rfl
 have nb':nb (upd C.L r q.1)=nb C.L:=by
  have ha:=born' .a;have hb:=born' .b;unfold nb;have e1:((upd C.L r q.1 .a).pc= .un)=((C.L .a).pc= .un):=propext ⟨fun h=>Classical.byContradiction fun h'=>ha.2 h' h,fun h=>Classical.byContradiction fun h'=>ha.1 h' h⟩;have e2:((upd C.L r q.1 .b).pc= .un)=((C.L .b).pc= .un):=propext ⟨fun h=>Classical.byContradiction fun h'=>hb.2 h' h,fun h=>Classical.byContradiction fun h'=>hb.1 h' h⟩
  simp only[e1,e2]
 have UD:∀r' l,Ng X (upd C.γ r γ') (upd C.L r q.1) r' l->Ng X C.γ C.L r' l:=fun r' l h=>by
  refine⟨(born' r').1 h.1,?_⟩;have h2:=h.2
  by_cases e:r'=r
  .subst e;rw[upd_same,g1] at h2;exact h2
  .rw[upd_ne _ _ e] at h2;exact h2
 have hti:TI C.n0 (xQ X S0) (Ng X (upd C.γ r γ') (upd C.L r q.1)) (born (upd C.L r q.1)) (fun r'=>(upd C.γ r γ' r').own) X.M (hold (upd C.L r q.1)) (mA X) (wA X) w'.heap.size (t++MemOp.ofEvents (gid C.n0 r) x.frame.fn x.frame.place es):=by
  rw[abc];have ahG:∀r' b,grow (fun r=>(C.γ r).own) w.heap.size w.heap.size r r' b->(C.γ r').own b:=fun r' b h=>h.elim id fun z=>by omega
  have Et:=TI.mono afS (RO':=Ng X C.γ C.L) (lv':=born C.L) (own':=fun r=>(C.γ r).own) (fun _ _ h=>h) (fun _=>Iff.rfl) (fun r' b h=> .inl h)
  by_cases hla:(C.L r).pc= .la
  ·
   have hrm:=Ix (by rw[hla];rfl);have hq1:=u1.2 hla;have he:es=#[pK (.acquire (mA X))]:=by simpa [EvStop,iX,hla] using hev
   have KR:∀r',(C.L r').pc≠.ur:=fun r' h=>by
    have hn:r'≠r:=fun e=>by subst e;rw[hla] at h;cases h
    have hnm:r'≠.m:=fun e=>by subst e;exact jd c.tab rfl h
    apply abC
    cases r with
    |m=>exact absurd rfl hrm
    |a=>cases r' with
     |m=>exact absurd rfl hnm
     |a=>exact absurd rfl hn
     |b=>exact⟨by rw[upd_same];exact hq1,by rw[upd_ne _ _ (by simp)];exact h⟩
    |b=>cases r' with
     |m=>exact absurd rfl hnm
     |a=>exact⟨by rw[upd_ne _ _ (by simp)];exact h,by rw[upd_same];exact hq1⟩
     |b=>exact absurd rfl hn
   have hh:hold C.L=none:=by unfold hold;rw[if_neg (KR .a),if_neg (KR .b)]
   have hh':hold (upd C.L r q.1)=some r:=by
    unfold hold;cases r with
    |m=>exact absurd rfl hrm
    |a=>rw[if_pos (by rw[upd_same];exact hq1)]
    |b=>rw[if_neg (by rw[upd_ne _ _ (by simp)];exact KR .a),if_pos (by rw[upd_same];exact hq1)]
   have e1:MemOp.ofEvents (gid C.n0 r) x.frame.fn x.frame.place es=#[{g:=gid C.n0 r,fn:=x.frame.fn,pos:=x.frame.place,act:= .mark (.acquire (mA X))}]:=by rw[he,ofEvents_eq];simp[pK,MemAct.ofEvent]
   have hc:=c.ti;rw[hh] at hc Et;rw[e1] at Et⊢;have:=TI.acquire hc hr (z:={g:=gid C.n0 r,fn:=x.frame.fn,pos:=x.frame.place,act:= .mark (.acquire (mA X))}) rfl rfl (by rw[c.deaf r hr,hdd,hla];rfl) Et;rw[hh'];refine TI.mono this UD born' (fun r' b h=>?_)
   by_cases e:r'=r
   .subst e
    simp only[upd_same,g2,hla] at h;exact h.imp id fun z=>⟨rfl,z⟩
   .simp only[upd_ne _ _ e] at h;exact .inl h
  by_cases hu:(C.L r).pc= .ur
  ·
   have hrm:=Ix (by rw[hu];rfl);have he:es=#[pK (.releaseMerge (mA X))]:=by simpa [EvStop,iX,hu] using hev
   have hh:hold C.L=some r:=by
    unfold hold;cases r with
    |m=>exact absurd rfl hrm
    |a=>rw[if_pos hu]
    |b=>rw[if_neg fun e=>k7 c.tab ⟨e,hu⟩,if_pos hu]
   have hh':hold (upd C.L r q.1)=none:=by
    unfold hold;have hq1:=u2 hu;cases r with
    |m=>exact absurd rfl hrm
    |a=>rw[if_neg (by rw[upd_same,hq1];simp),if_neg (by rw[upd_ne _ _ (by simp)];exact fun e=>k7 c.tab ⟨hu,e⟩)]
    |b=>rw[if_neg (by rw[upd_ne _ _ (by simp)];exact fun e=>k7 c.tab ⟨e,hu⟩),if_neg (by rw[upd_same,hq1];simp)]
   have e1:MemOp.ofEvents (gid C.n0 r) x.frame.fn x.frame.place es=#[{g:=gid C.n0 r,fn:=x.frame.fn,pos:=x.frame.place,act:= .mark (.releaseMerge (mA X))}]:=by rw[he,ofEvents_eq];simp[pK,MemAct.ofEvent]
   have hc:=c.ti;rw[hh] at hc Et;rw[e1] at Et⊢;have:=TI.release ((c.lay.uw r).2 hu) hc (y:={g:=gid C.n0 r,fn:=x.frame.fn,pos:=x.frame.place,act:= .mark (.releaseMerge (mA X))}) rfl rfl (by rw[c.deaf r hr,hdd,hu];rfl) Et;rw[hh'];refine TI.mono this UD born' (fun r' b h=>?_)
   by_cases e:r'=r
   .subst e
    simp only[upd_same,g2,hu] at h;exact h
   .simp only[upd_ne _ _ e] at h
    exact⟨h,fun hb=>by subst hb;exact e (c.lay.apart _ _ _ h ((c.lay.uw r).2 hu))⟩
  .have hh':hold (upd C.L r q.1)=hold C.L:=by
    have e1:∀r',((upd C.L r q.1 r').pc= .ur)=((C.L r').pc= .ur):=fun r'=>by
     by_cases e:r'=r
     .subst e;rw[upd_same];exact propext ⟨fun h=>absurd (u1.1 h) hla,fun h=>absurd h hu⟩
     .rw[upd_ne _ _ e]
    unfold hold;simp only[e1]
   rw[hh'];refine TI.mono Et UD born' (fun r' b h=>?_)
   by_cases e:r'=r
   .subst e
    simp only[upd_same,g2] at h;exact(pJ h).resolve_right fun z=>hla z.1
   .simp only[upd_ne _ _ e] at h;exact h
 have Le:∃ρ' aw0 qq,aw0<=1/\Sit X P Post k' r q.1 γ' ρ' aw0 (fI q.1.pc) qq q.2 x' w'/\(q.1.pc≠.quit->True):=by
  unfold After at PR;split at PR
  .rename_i hqq
   obtain⟨qq,h⟩:=PR;exact⟨.zero,0,qq,by omega,.inr (.inr ⟨hqq,rfl,by rw[hqq];exact h⟩),fun _=>trivial⟩
  .rename_i hqq
   obtain⟨ρ',h⟩:=PR;exact⟨ρ',1,0,by omega,.inl ⟨hqq,rfl,rfl,h⟩,fun _=>trivial⟩
 obtain⟨ρ',aw0,qq,_,Le,_⟩:=Le
 let C':Cf Δ:={C with L:=upd C.L r q.1,γ:=upd C.γ r γ',k:=upd C.k r k',ρ:=upd C.ρ r ρ',aw:=upd aw' r aw0,ds:=upd C.ds r (fI q.1.pc),q:=fun j=>if j=gid C.n0 r then qq else C.q j,s:=q.2,r1:=r1',r2:=r2'}
 refine⟨_,_,C'.ms gs.size,hrun,.left _ _ ni,C',_,w',sl,rfl,rfl,?_,by rw[hsz]⟩;have Ll:∀r',(C.L r).pc≠.ur->(upd C.γ r γ' r').mine=(C.γ r').mine:=fun r' h=>by
  by_cases e:r'=r
  .subst e;rw[upd_same,g3];exact hcm h
  .rw[upd_ne _ _ e]
 have hoth:∀{r':bm},r'≠.m->r≠.m->r'≠r->KJ r=r':=fun {r'} h1 h2 h3=>by cases r<;>cases r'<;>simp_all [KJ]
 refine⟨c.qZ,by rw[hsz];show gs.size=C.n0+nb (upd C.L r q.1);rw[nb'];exact c.size,htab,fun r' hr'=>?_,hsh,fun r' hr'=>?_,fun r' hr'=>?_,fun i g h0 h1 hg=>?_,xj c hr hsz,fun r' hr'=>?_,fun h1 h2=>?_,fun r' h=>?_,fun r' h=>?_,fun r' h=>?_,by rw[abc];exact Wh,hti⟩
 .have hb:=(born' r').1 hr'
  show nn (upd C.L r q.1) r1' r2'<upd C.k r k' r'
  by_cases e:r'=r
  .subst e;rw[upd_same];omega
  .rw[upd_ne _ _ e];have:=c.fuel r' hb;omega
 .have hb:=(born' r').1 hr'
  by_cases e:r'=r
  .subst e
   refine⟨x',ConcN.get_map_set_same _ _ _ (AB c hr),?_⟩;simp only[C',upd_same,if_true];exact Le
  .obtain⟨g,h1,h2⟩:=haw r' e hb
   refine⟨g,h1,?_⟩;have e':gid C.n0 r'≠gid C.n0 r:=fun h=>e (j0 c.qZ h)
   simp only[C',upd_ne _ _ e,if_neg e'];exact h2
 .have hb:¬born C.L r':=fun h=>hr' ((born' r').2 h)
  have e:r'≠r:=fun e=>hb (e▸hr)
  simp only[C',upd_ne _ _ e];exact c.Ra r' hb
 .have e:i≠gid C.n0 r:=Ne.symm (uZ c.qZ h0 h1 r)
  have:=c.olds (r:=r) (x:=x) (x':=x') (w':=w') (fn:=x.frame.fn) (pos:=x.frame.place) (es:=es) i g h0 h1 hg;simp only[C',if_neg e];exact this
 .by_cases e:r'=r
  .subst e;simp only[C',upd_same];exact hdeaf
  .simp only[C',upd_ne _ _ e]
   exact ua c e ((born' r').1 hr')
 ·
  show ∃o,w'.heap[X.M]? =some o/\X.Dat (upd C.γ r γ' .a).mine (upd C.γ r γ' .b).mine o;rw[hM]
  by_cases hu:(C.L r).pc= .ur
  .have hrm:=Ix (by rw[hu];rfl)
   obtain⟨o,h3,h4⟩:=hur hu;refine⟨o,h3,?_⟩;have h5:=c.ER r hu;rw[h5] at h4;cases r with
   |m=>exact absurd rfl hrm
   |a=>rw[upd_same,upd_ne _ _ (by simp),g3];exact h4
   |b=>rw[upd_same,upd_ne _ _ (by simp),g3];exact h4
  .obtain⟨o,h3,h4⟩:=c.data (fun e=>by
    by_cases er:r= .a
    .exact hu (er▸e)
    .exact h1 (by show(upd C.L r q.1 .a).pc= .ur;rw[upd_ne _ _ (Ne.symm er)];exact e)) (fun e=>by
    by_cases er:r= .b
    .exact hu (er▸e)
    .exact h2 (by show(upd C.L r q.1 .b).pc= .ur;rw[upd_ne _ _ (Ne.symm er)];exact e))
   exact⟨o,h3,by rw[Ll .a hu,Ll .b hu];exact h4⟩
 ·
  have h:(upd C.L r q.1 r').pc= .ur:=h;show(upd C.γ r γ' r').other=(upd C.γ r γ' (KJ r')).mine
  by_cases e:r'=r
  .subst e
   rw[upd_same] at h;have hla:=u1.1 h;have hrm:=Ix (by rw[hla];rfl);have ho:KJ r'≠r':=by cases r'<;>simp[KJ] at hrm⊢
   rw[upd_same,upd_ne _ _ ho,g4,if_pos hla];exact hd hla
  .rw[upd_ne _ _ e] at h⊢
   have hnu:(C.L r).pc≠.ur:=fun hu=>by
    have n1:r'≠.m:=fun z=>by subst z;exact jd c.tab rfl h
    have n2:=Ix (by rw[hu];rfl);cases r<;>cases r'<;>simp_all [k7 c.tab]
    .exact k7 c.tab ⟨hu,h⟩
    .exact k7 c.tab ⟨h,hu⟩
   rw[Ll _ hnu];exact c.ER r' h
 .have h:past (upd C.L r q.1 r').pc=true:=h
  show(upd C.γ r γ' r').mine=X.fin r'
  by_cases e:r'=r
  .subst e
   rw[upd_same] at h;rw[upd_same,g3];rcases u3 h with hp|⟨_,hp⟩
   .rw[hcm (fun hu=>by rw[hu] at hp;cases hp)];exact c.fin r' hp
   .exact hfin hp
  .rw[upd_ne _ _ e] at h⊢;exact c.fin r' h
 .have h:past (upd C.L r q.1 r').pc=true:=h
  show ∃p,ConcN.RelBy (wA X) (t++MemOp.ofEvents (gid C.n0 r) x.frame.fn x.frame.place es) (gid C.n0 r') p
  by_cases e:r'=r
  .subst e
   rw[upd_same] at h;rcases u3 h with hp|⟨ho,hq1⟩
   .obtain⟨p,hp'⟩:=c.rel r' hp
    refine⟨p,ConcN.RelBy.appOwn hp' _ _ _ fun j e he=>?_⟩;unfold EvStop at hev;have hcase:iX (C.L r') q.1= .dis\/iX (C.L r') q.1= .book:=by
     revert hp hnq
     cases hpc:(C.L r').pc<;>simp[past]<;>simp[iX,hpc]
    rcases hcase with hc|hc
    .rw[hc] at hev
     simp only at hev;subst hev;have:=Array.mem_of_getElem? he;simp at this;subst this;exact .inl rfl
    .rw[hc] at hev
     simp only at hev;have hd1:Deaf t (gid C.n0 r')=1:=by
      rw[c.deaf r' hr,hdd]
      revert hp hnq hc
      cases hpc:(C.L r').pc<;>simp[past]<;>simp[iX,hpc,fI]
     rw[hd1];rcases hev.1.2.2 j e he with h5|h5
     .exact .inl h5
     .rcases hev.1.1 e (Array.mem_of_getElem? he) with h6|h6|⟨a,z,rfl,_⟩
      .exact .inl (by rw[dr h6];rfl)
      .exact .inl (by rw[dr h6];rfl)
      .exact .inr ⟨⟨a,z,rfl⟩,h5⟩
   .have he:es=#[ConcR.mk (.releaseMerge (wA X))]:=by
     have:es=#[pK (.releaseMerge (wA X))]:=by simpa [EvStop,iX,ho,hq1] using hev
     exact this
    subst he;exact⟨t.size,ConcN.RelBy.new (by rw[c.deaf r' hr,hdd,ho];rfl) _ _⟩
  .rw[upd_ne _ _ e] at h
   obtain⟨p,hp⟩:=c.rel r' h;exact⟨p,vT c e hp⟩
end
section
variable {L:bm->Lo}{s:Sh}{r1 r2:Nat}
theorem lT {T:Lo}:(pw T).pc= .un↔T.pc= .un:=by cases hp:T.pc<;>simp[pw,hp]
theorem Ab {T:Lo}:(pw T).pc= .quit↔T.pc= .quit:=by cases hp:T.pc<;>simp[pw,hp]
theorem uI.Se (h:uI L s r1 r2):((L .a).pc= .un/\(L .b).pc= .un)\/((L .a).pc≠.un/\(L .b).pc= .un)\/((L .a).pc≠.un/\(L .b).pc≠.un):=by
 have FG:=h.PB.facts
 by_cases c1:(p0 (L .m)).pc= .x1\/(p0 (L .m)).pc= .g1
 .exact .inl ⟨lT.1 (FG.Y0 c1).1,lT.1 (FG.Y0 c1).2⟩
 by_cases c2:(p0 (L .m)).pc= .x2\/(p0 (L .m)).pc= .g2
 .exact .inr (.inl ⟨fun e=>(FG.YZ c2).1 (lT.2 e),lT.1 (FG.YZ c2).2⟩)
 .have:=FG.on (by rintro(x|x|x|x);exact c1 (.inl x);exact c1 (.inr x);exact c2 (.inl x);exact c2 (.inr x))
  exact .inr (.inr ⟨fun e=>this.1 (lT.2 e),fun e=>this.2 (lT.2 e)⟩)
end
section
variable {Δ:Type}{X:Cx Δ}{P:Program}{Post:Gh Δ->Goroutine->World->Prop}{S0:Nat->Prop}{C:Cf Δ}{gs:Array Goroutine}{w w':World}{t:Trace}{sl:Option (Nat×Nat)}{r:bm}{x x' child:Goroutine}{es:Array Event}
theorem Core.at (c:Core X P Post S0 C gs w t)(d:Nat):Core X P Post S0 C gs (w.at d) t:=
 ⟨c.qZ,c.size,c.tab,c.fuel,c.sh,fun r hr=>by
  obtain⟨g,h1,h2⟩:=c.sit r hr;obtain⟨k',hk⟩:=c.kpos hr;rw[hk] at h2⊢;exact⟨g,h1,h2.rely (RX.at X _ _ w d)⟩,c.Ra,c.old,c.above,c.deaf,c.data,c.ER,c.fin,c.rel,c.lay,c.ti⟩
theorem Core.who (c:Core X P Post S0 C gs w t){i:Nat}(hi:i<gs.size):(∃r,born C.L r/\i=gid C.n0 r)\/(0<i/\i<C.n0):=by
 rcases Nat.eq_zero_or_pos i with h0|h0
 .exact .inl ⟨.m,c.oB,h0⟩
 rcases Nat.lt_or_ge i C.n0 with h1|h1
 .exact .inr ⟨h0,h1⟩
 rw[c.size] at hi;unfold nb at hi;rcases c.tab.Se with⟨ha,hb⟩|⟨ha,hb⟩|⟨ha,hb⟩
 .rw[if_pos ha,if_pos hb] at hi;omega
 .rw[if_neg ha,if_pos hb] at hi
  exact .inl ⟨.a,ha,by simp only[gid];omega⟩
 .rw[if_neg ha,if_neg hb] at hi
  rcases Nat.eq_or_lt_of_le h1 with h|h
  .exact .inl ⟨.a,ha,h.symm⟩
  .exact .inl ⟨.b,hb,by simp only[gid];omega⟩
theorem Core.awake (c:Core X P Post S0 C gs w t):∀g∈gs,awake g:=by
 intro g hg;obtain⟨i,hi,rfl⟩:=Array.mem_iff_getElem.1 hg;rcases c.who hi with⟨r,hr,rfl⟩|⟨h0,h1⟩
 .obtain⟨g,h2,h3⟩:=c.sit r hr
  obtain⟨k',hk⟩:=c.kpos hr;rw[hk] at h3;have:gs[gid C.n0 r]=g:=by simpa [Array.getElem?_eq_getElem hi] using h2
  rw[this];exact awake_of h3.status
 .exact awake_of ((c.old i _ h0 h1 (Array.getElem?_eq_getElem hi)).status.elim .inl fun x=> .inr (.inr x))
theorem Core.N0 (c:Core X P Post S0 C gs w t):∃(i:Nat) (g:Goroutine),gs[i]? =some g/\g.status= .running:=by
 have FM:=c.tab.Yn.facts;have FG:=c.tab.PB.facts
 have one:∀r,born C.L r->(C.L r).pc≠.quit->(∃(i:Nat) (g:Goroutine),gs[i]? =some g/\g.status= .running)\/(C.L r).sleeps C.s=true:=fun r hr hq=>by
  obtain⟨g,h1,h2⟩:=c.sit r hr;obtain⟨k',hk⟩:=c.kpos hr;rw[hk] at h2;rcases h2 with⟨_,_,_,h⟩|⟨_,_,_,h,_⟩|⟨h,_⟩
  .exact .inl ⟨_,g,h1,iQ h⟩
  .exact .inr h
  .exact absurd h hq
 have wsl:∀r,r≠.m->(C.L r).sleeps C.s=true->(pm (C.L r)).waits C.s.ms=true:=fun r hrm h=>by
  simp only[Lo.sleeps,Bool.or_eq_true,Bool.and_eq_true,beq_iff_eq] at h;rcases h with⟨h1,h2⟩|⟨h1,_⟩
  .simp[Lo.waits,pm,h1,h2]
  .exfalso
   cases r with
   |m=>exact hrm rfl
   |a=>have:=c.tab.wa;rw[h1] at this;cases this
   |b=>have:=c.tab.wb;rw[h1] at this;cases this
 have two:∀r r',r≠.m->r'≠.m->born C.L r->(C.L r).pc≠.quit->((pm (C.L r)).waits C.s.ms=true->(pm (C.L r')).waits C.s.ms=false/\(pm (C.L r')).pc≠.out)->∃(i:Nat) (g:Goroutine),gs[i]? =some g/\g.status= .running:=fun r r' h1 h1' h2 h3 h4=>by
  rcases one r h2 h3 with h|h
  .exact h
  .obtain⟨h5,h6⟩:=h4 (wsl r h1 h)
   have hb:born C.L r':=fun e=>h6 (by simp[pm,e])
   have hq:(C.L r').pc≠.quit:=fun e=>h6 (by simp[pm,e])
   rcases one r' hb hq with h7|h7
   .exact h7
   .rw[wsl r' h1' h7] at h5;cases h5
 have hmq:(C.L .m).pc≠.quit:=jd c.tab rfl;rcases one .m c.oB hmq with h|h
 .exact h
 simp only[Lo.sleeps,Bool.or_eq_true,Bool.and_eq_true,beq_iff_eq] at h;rcases h with⟨h1,_⟩|⟨h1,h2⟩
 .exact absurd h1 (jd c.tab rfl)
 .have FT:∀T:Lo,live (pw T)=true->T.pc≠.un/\T.pc≠.quit:=fun T h=>by
   simp only[live,Bool.and_eq_true,bne_iff_ne,ne_eq] at h;exact⟨fun e=>h.1 (lT.2 e),fun e=>h.2 (Ab.2 e)⟩
  rcases FG.sleep (by simp[p0,h1]) h2 with h3|h3
  .obtain⟨h4,h5⟩:=FT _ h3
   exact two .a .b (by simp) (by simp) h4 h5 FM.SQ
  .obtain⟨h4,h5⟩:=FT _ h3
   exact two .b .a (by simp) (by simp) h4 h5 FM.SP
theorem SL (c:Core X P Post S0 C gs w t)(hx:gs[0]? =some x)(hg:(C.L .m).pc= .g1\/(C.L .m).pc= .g2){k':Nat}(hk:C.k .m=k'+1){cm:Δ}(hcm:cm=(C.γ .m).mine)
  (hl:Nh X P (yG X P Post k') (C.L .m) {(C.γ .m) with mine:=cm} x w) (hdd:C.ds .m=0):
  ∃m₁ ops μ',runT P (crowd gs w sl) 0=(.next m₁,ops)/\Sm μ' (C.ms gs.size)/\AU X P Post S0 C.n0 μ' m₁ (t++ops):=by
 subst hcm;obtain⟨_,_,g',child,hs,hchild,hnext⟩:=hl;have hrun:=runT_crowd_spawn (P:=P) (sl:=sl) (i:=0) hx hs;obtain⟨hun,r2',htab,ni⟩:=c.tab.go (N:=X.N (eM (C.L .m).pc)) hg (c.Ra _ (by
  intro hb;have:=c.tab.Se;rcases hg with h|h
  .have FG:=c.tab.PB.facts
   have:=(FG.Y0 (.inr (by simp[p0,h]))).1;rw[h] at hb;exact hb (lT.1 this)
  .have FG:=c.tab.PB.facts
   have:=(FG.YZ (.inr (by simp[p0,h]))).2;rw[h] at hb;exact hb (lT.1 this))).2
 have FG:=c.tab.PB.facts
 have Iz:gid C.n0 (eM (C.L .m).pc)=gs.size:=by
  rw[c.size];unfold nb;rcases hg with h|h
  .have h1:=FG.Y0 (.inr (by simp[p0,h]))
   rw[if_pos (lT.1 h1.1),if_pos (lT.1 h1.2),h];rfl
  .have h1:=FG.YZ (.inr (by simp[p0,h]))
   rw[if_neg (fun e=>h1.1 (lT.2 e)),if_pos (lT.1 h1.2),h];rfl
 have hrm:eM (C.L .m).pc≠.m:=by rcases hg with h|h<;>rw[h]<;>simp[eM]
 have hbg:(gX (C.L .m).pc).pc= .k2\/(gX (C.L .m).pc).pc= .kw:=by rcases hg with h|h<;>rw[h]<;>simp[gX]
 generalize hrc:eM (C.L .m).pc=rc at*;generalize hbh:gX (C.L .m).pc=Tm at*;have hmute:eH Tm.pc=false:=by rcases hbg with h|h<;>rw[h]<;>rfl
 have Wl:fI Tm.pc=0:=by rcases hbg with h|h<;>rw[h]<;>rfl
 have Ls:Tm.pc≠.ur/\Tm.pc≠.un/\Tm.pc≠.quit/\past Tm.pc=false:=by rcases hbg with h|h<;>rw[h]<;>simp[past]
 have ID:0<gs.size:=(Array.getElem?_eq_some_iff.1 hx).1
 let L':bm->Lo:=upd (upd C.L .m Tm) rc (at_ .out (X.N rc))
 let γm:Gh Δ:=given (C.γ .m)
 let γ':bm->Gh Δ:=upd (upd C.γ .m γm) rc {γm with mine:=X.c0 rc}
 have Lm:L' .m=Tm:=by simp only[L'];rw[upd_ne _ _ (Ne.symm hrm),upd_same]
 have Lc:L' rc=at_ .out (X.N rc):=upd_same _ _ _;have So:∀r',r'≠.m->r'≠rc->L' r'=C.L r':=fun r' h1 h2=>by simp only[L'];rw[upd_ne _ _ h2,upd_ne _ _ h1]
 have Gm:γ' .m=γm:=by simp only[γ'];rw[upd_ne _ _ (Ne.symm hrm),upd_same]
 have Gc:γ' rc={γm with mine:=X.c0 rc}:=upd_same _ _ _;have X5:∀r',r'≠.m->r'≠rc->γ' r'=C.γ r':=fun r' h1 h2=>by simp only[γ'];rw[upd_ne _ _ h2,upd_ne _ _ h1]
 have hnc:¬born C.L rc:=fun h=>h hun
 have born':∀r',born L' r'↔born C.L r'\/r'=rc:=fun r'=>by
  by_cases e2:r'=rc
  .subst e2
   refine⟨fun _=> .inr rfl,fun _=>?_⟩;show(L' r').pc≠.un;rw[Lc];simp
  .by_cases e1:r'= .m
   .subst e1
    refine⟨fun _=> .inl c.oB,fun _=>?_⟩;show(L' .m).pc≠.un;rw[Lm];exact Ls.2.1
   .show(L' r').pc≠.un↔_
    rw[So r' e1 e2];exact⟨.inl,fun h=>h.resolve_right e2⟩
 have nb':nb L'=nb C.L+1:=by
  unfold nb;cases rc with
  |m=>exact absurd rfl hrm
  |a=>
   have e:(at_ .out (X.N .a)).pc≠.un:=by simp
   simp only[Lc,So .b (by simp) (by simp),if_pos hun,if_neg e]<;>omega
  |b=>
   have e:(at_ .out (X.N .b)).pc≠.un:=by simp
   simp only[Lc,So .a (by simp) (by simp),if_pos hun,if_neg e]<;>omega
 have m6:∀r',(γ' r').mine=(C.γ r').mine:=fun r'=>by
  by_cases e2:r'=rc
  .subst e2;rw[Gc];exact(c.Ra r' hnc).1.symm
  .by_cases e1:r'= .m
   .subst e1;rw[Gm];rfl
   .rw[X5 r' e1 e2]
 have afr:¬(C.γ .m).own X.M:=fun h=>jd c.tab rfl ((c.lay.uw .m).1 h)
 have own':∀r' b,(γ' r').own b->(C.γ r').own b/\r'≠.m/\r'≠rc:=fun r' b h=>by
  by_cases e2:r'=rc
  .subst e2;rw[Gc] at h;exact h.elim
  .by_cases e1:r'= .m
   .subst e1;rw[Gm] at h;exact h.elim
   .rw[X5 r' e1 e2] at h;exact⟨h,e1,e2⟩
 have ro':∀r' b,(γ' r').ro b->((r'= .m\/r'=rc)/\((C.γ .m).ro b\/(C.γ .m).own b))\/(r'≠.m/\r'≠rc/\(C.γ r').ro b):=fun r' b h=>by
  by_cases e2:r'=rc
  .subst e2;rw[Gc] at h;exact .inl ⟨.inr rfl,h⟩
  .by_cases e1:r'= .m
   .subst e1;rw[Gm] at h;exact .inl ⟨.inl rfl,h⟩
   .rw[X5 r' e1 e2] at h;exact .inr ⟨e1,e2,h⟩
 have Iy:∀r',(L' r').pc= .ur↔(C.L r').pc= .ur/\r'≠.m/\r'≠rc:=fun r'=>by
  by_cases e2:r'=rc
  .subst e2;rw[Lc];simp
  .by_cases e1:r'= .m
   .subst e1;rw[Lm];exact⟨fun h=>absurd h Ls.1,fun h=>absurd rfl h.2.1⟩
   .rw[So r' e1 e2];exact⟨fun h=>⟨h,e1,e2⟩,fun h=>h.1⟩
 have XH:∀r',(C.L r').pc= .ur->r'≠.m/\r'≠rc:=fun r' h=>⟨fun e=>by subst e;exact jd c.tab rfl h,fun e=>by subst e;rw[hun] at h;cases h⟩
 have hold':hold L'=hold C.L:=by
  have e1:∀r',((L' r').pc= .ur)=((C.L r').pc= .ur):=fun r'=>propext ⟨fun h=>((Iy r').1 h).1,fun h=>(Iy r').2 ⟨h,XH r' h⟩⟩
  unfold hold;simp only[e1]
 have Wh:Lay X S0 γ' L' w.heap.size:=by
  refine⟨fun r' b h=>?_,fun r' h=>?_,fun r'=>?_,fun r' r'' b h h'=>c.lay.apart _ _ b (own' _ _ h).1 (own' _ _ h').1,fun r' r'' b h h'=>?_,fun r' b h=>?_,c.lay.fm,c.lay.fw,c.lay.mw,c.lay.s0,c.lay.uB,c.lay.An,c.lay.sO⟩
  .rcases h with h|h
   .exact c.lay.sp r' b (.inl (own' _ _ h).1)
   .rcases ro' _ _ h with⟨_,h|h⟩|⟨_,_,h⟩
    .exact c.lay.sp .m b (.inr h)
    .exact c.lay.sp .m b (.inl h)
    .exact c.lay.sp r' b (.inr h)
  .rcases ro' _ _ h with⟨_,h|h⟩|⟨_,_,h⟩
   .exact c.lay.Yi _ h
   .exact afr h
   .exact c.lay.Yi _ h
  .rw[Iy]
   constructor
   .intro h;exact⟨(c.lay.uw r').1 (own' _ _ h).1,(own' _ _ h).2⟩
   .intro⟨h,h1,h2⟩;rw[X5 r' h1 h2];exact(c.lay.uw r').2 h
  .obtain⟨h1,h2,h3⟩:=own' _ _ h
   rcases ro' _ _ h' with⟨_,h4|h4⟩|⟨_,_,h4⟩
   .exact c.lay.y7 _ _ b h1 h4
   .exact h2 (c.lay.apart _ _ b h1 h4)
   .exact c.lay.y7 _ _ b h1 h4
  .refine(born' r').2 ?_
   rcases h with h|h
   .exact .inl (c.lay.lv r' b (.inl (own' _ _ h).1))
   .rcases ro' _ _ h with⟨e,_⟩|⟨_,_,h⟩
    .rcases e with e|e
     .exact .inl (e▸c.oB)
     .exact .inr e
    .exact .inl (c.lay.lv r' b (.inr h))
 have hops:((MemOp.ofEvents 0 x.frame.fn x.frame.place #[]).push {g:=0,fn:=x.frame.fn,pos:=x.frame.place,act:= .go gs.size}).push {g:=gs.size,fn:=child.frame.fn,pos:=x.frame.place,act:= .start}=
   #[({g:=0,fn:=x.frame.fn,pos:=x.frame.place,act:= .go gs.size}:MemOp),{g:=gs.size,fn:=child.frame.fn,pos:=x.frame.place,act:= .start}]:=by rw[ofEvents_none];rfl
 rw[hops] at hrun;have still:∀op∈(#[({g:=0,fn:=x.frame.fn,pos:=x.frame.place,act:= .go gs.size}:MemOp),{g:=gs.size,fn:=child.frame.fn,pos:=x.frame.place,act:= .start}]:Trace),op.act≠.mark .disable/\op.act≠.mark .enable:=by
  intro op ho;simp at ho;rcases ho with rfl|rfl<;>simp
 have hti:=TI.fork c.oB hrm c.ti (x:={g:=0,fn:=x.frame.fn,pos:=x.frame.place,act:= .go gs.size}) (y:={g:=gs.size,fn:=child.frame.fn,pos:=x.frame.place,act:= .start}) ⟨rfl,by rw[Iz]⟩ ⟨Iz.symm,rfl⟩
  (by have:=c.deaf .m c.oB;rw[hdd] at this;exact this) (by rw[Iz];exact c.above _ (Nat.le_refl _)) c.qZ (fun i g hgi e=>by
   subst e;have hge:C.n0<=gid C.n0 rc:=by cases rc<;>simp[gid] at hrm⊢
   obtain⟨r',h1,h2,h3⟩:=c.ti.ids i _ hgi hge;exact hnc (j0 c.qZ h3▸h2))
 obtain⟨ρc,afO⟩:=hchild (nn L' C.r1 r2'+1);obtain⟨ρm,afN⟩:=hnext;have hkm:=c.fuel .m c.oB
 let C':Cf Δ:={C with L:=L',γ:=γ',k:=upd (upd C.k .m k') rc (nn L' C.r1 r2'+1),ρ:=upd (upd C.ρ .m ρm) rc ρc,aw:=upd (upd C.aw .m 1) rc 1,ds:=upd C.ds rc 0,r2:=r2'}
 have hsz:((gs.setIfInBounds 0 g').push child).size=gs.size+1:=by simp
 have YY:∀{α:Type} (f:bm->α) (u v:α) (r':bm),r'≠.m->r'≠rc->upd (upd f .m u) rc v r'=f r':=fun f u v r' h1 h2=>by rw[upd_ne _ _ h2,upd_ne _ _ h1]
 have Q9:∀{α:Type} (f:bm->α) (u v:α),upd (upd f .m u) rc v .m=u:=fun f u v=>by rw[upd_ne _ _ (Ne.symm hrm),upd_same]
 have agw:((gs.setIfInBounds 0 g').push child)[0]? =some g':=by rw[Array.getElem?_push_lt (by simpa using ID)];simp[ID]
 have agv:((gs.setIfInBounds 0 g').push child)[gs.size]? =some child:=by
  have:gs.size=(gs.setIfInBounds 0 g').size:=by simp
  rw[this];exact Array.getElem?_push_size
 have abW:∀i,i≠0->i≠gs.size->((gs.setIfInBounds 0 g').push child)[i]? =gs[i]? :=fun i h1 h2=>by
  rw[Array.getElem?_push];rw[if_neg (by simpa using h2),Array.getElem?_setIfInBounds_ne (Ne.symm h1)]
 have abn:nn L' C.r1 r2'<nn C.L C.r1 C.r2:=ni;refine⟨_,_,C'.ms (gs.size+1),hrun,.left _ _ abn,C',_,w,sl,rfl,rfl,?_,by rw[hsz]⟩;refine⟨c.qZ,by rw[hsz,c.size];show C.n0+nb C.L+1=C.n0+nb L';rw[nb'];omega,htab,fun r' hr'=>?_,c.sh,fun r' hr'=>?_,fun r' hr'=>?_,fun i g h0 h1 hgi=>?_,fun j hj=>?_,fun r' hr'=>?_,fun h1 h2=>?_,fun r' h=>?_,fun r' h=>?_,fun r' h=>?_,Wh,?_⟩
 .show nn L' C.r1 r2'<upd (upd C.k .m k') rc (nn L' C.r1 r2'+1) r'
  by_cases e2:r'=rc
  .subst e2;rw[upd_same];omega
  .by_cases e1:r'= .m
   .subst e1;rw[Q9];omega
   .rw[YY _ _ _ _ e1 e2]
    have:=c.fuel r' (((born' r').1 hr').resolve_right e2);omega
 .by_cases e2:r'=rc
  .subst e2
   refine⟨child,by show _[gid C.n0 r']? =_;rw[Iz];exact agv,.inl ?_⟩;simp only[C',upd_same,Lc,Gc];refine⟨by simp,rfl,trivial,?_⟩;have hAt:AtR X P Post (nn L' C.r1 r2'+1) r'=GD X P (nn L' C.r1 r2'+1) r':=by cases r'<;>first|rfl|exact absurd rfl hrm
   have hM:uC r'=false:=by cases r'<;>first|rfl|exact absurd rfl hrm
   rw[hAt,hM];exact afO
  .by_cases e1:r'= .m
   .subst e1
    refine⟨g',agw,.inl ?_⟩;simp only[C',Q9,Lm,Gm,upd_ne _ _ (Ne.symm hrm)];refine⟨Ls.2.2.1,by rw[Wl];exact hdd,trivial,?_⟩;rw[hmute];exact afN
   .obtain⟨g,h1,h2⟩:=c.sit r' (((born' r').1 hr').resolve_right e2)
    have hne0:gid C.n0 r'≠0:=Gi c.qZ e1;have af4:gid C.n0 r'≠gs.size:=fun h=>e2 (j0 c.qZ (h.trans Iz.symm))
    refine⟨g,by rw[abW _ hne0 af4];exact h1,?_⟩;simp only[C',YY _ _ _ _ e1 e2,So r' e1 e2,X5 r' e1 e2,upd_ne _ _ e2];exact h2
 .have hb:¬born C.L r':=fun h=>hr' ((born' r').2 (.inl h))
  have e2:r'≠rc:=fun e=>hr' ((born' r').2 (.inr e))
  have e1:r'≠.m:=fun e=>hb (e▸c.oB)
  simp only[C',So r' e1 e2,X5 r' e1 e2];exact c.Ra r' hb
 .have hlt:i<gs.size:=by rw[c.size];have:i<C.n0:=h1;omega
  rw[abW i (by omega) (by omega)] at hgi;rw[ConcN.Deaf_still _ _ _ still];exact c.old i g h0 h1 hgi
 .rw[ConcN.Deaf_still _ _ _ still]
  exact c.above j (by omega)
 .rw[ConcN.Deaf_still _ _ _ still]
  show Deaf t (gid C.n0 r')=upd C.ds rc 0 r'
  by_cases e2:r'=rc
  .subst e2;rw[upd_same,Iz];exact c.above _ (Nat.le_refl _)
  .rw[upd_ne _ _ e2];exact c.deaf r' (((born' r').1 hr').resolve_right e2)
 .show ∃o,w.heap[X.M]? =some o/\X.Dat (γ' .a).mine (γ' .b).mine o
  rw[m6,m6];exact c.data (fun h=>h1 ((Iy .a).2 ⟨h,XH _ h⟩)) (fun h=>h2 ((Iy .b).2 ⟨h,XH _ h⟩))
 .obtain⟨h1,h2,h3⟩:=(Iy r').1 h
  show(γ' r').other=(γ' (KJ r')).mine;rw[m6,X5 r' h2 h3];exact c.ER r' h1
 .have h:past (L' r').pc=true:=h
  have e2:r'≠rc:=fun e=>by rw[e,Lc] at h;cases h
  have e1:r'≠.m:=fun e=>by rw[e,Lm,Ls.2.2.2] at h;cases h
  rw[So r' e1 e2] at h;show(γ' r').mine=_;rw[m6];exact c.fin r' h
 .have h:past (L' r').pc=true:=h
  have e2:r'≠rc:=fun e=>by rw[e,Lc] at h;cases h
  have e1:r'≠.m:=fun e=>by rw[e,Lm,Ls.2.2.2] at h;cases h
  rw[So r' e1 e2] at h;obtain⟨p,hp⟩:=c.rel r' h;refine⟨p,hp.app fun i hi hgi hc=>?_⟩;obtain⟨z,hz,_⟩:=hc;rcases bU hz with⟨h5,_⟩|⟨_,op,hop,_,hox⟩
  .omega
  .simp at hop
   rcases hop with rfl|rfl<;>cases hox
 .show TI C.n0 (xQ X S0) (Ng X γ' L') (born L') (fun r=>(γ' r).own) X.M (hold L') (mA X) (wA X) w.heap.size _
  rw[hold'];refine TI.mono hti (fun r' l h=>?_) born' own'
  by_cases e:r'= .m\/r'=rc
  .rw[if_pos e]
   rcases h.2 with⟨b,hb,hin⟩|hcell
   .rcases ro' _ _ hb with⟨_,h5|h5⟩|⟨h6,h7,_⟩
    .exact .inl ⟨c.oB,.inl ⟨b,h5,hin⟩⟩
    .exact .inr ⟨b,h5,hin⟩
    .exact absurd e (fun z=>z.elim h6 h7)
   .exact .inl ⟨c.oB,.inr hcell⟩
  .rw[if_neg e]
   refine⟨((born' r').1 h.1).resolve_right fun z=>e (.inr z),?_⟩;rcases h.2 with⟨b,hb,hin⟩|hcell
   .rcases ro' _ _ hb with⟨h5,_⟩|⟨_,_,h5⟩
    .exact absurd h5 e
    .exact .inl ⟨b,h5,hin⟩
   .exact .inr hcell
structure Joined (X:Cx Δ)(P:Program)(Post:Gh Δ->Goroutine->World->Prop)(S0:Nat->Prop)(n0:Nat)(gs:Array Goroutine)(w:World)(t:Trace):Prop where
 size:gs.size=n0+2
 post:∃g γ,gs[0]? =some g/\Post γ g w
 afy:∃q,Leavers P t gs q
 past:Past (xQ X S0) w.heap.size t
 ids:∀op∈t,op.g<n0+2
theorem SM (c:Core X P Post S0 C gs w t)(hx:gs[0]? =some x)(hg:(C.L .m).pc= .aq)(hdd:C.ds .m=0){γ:Gh Δ}(hl:Sp X P Post γ x w):
  ∃gs' ops,runT P (crowd gs w sl) 0=(.next (crowd gs' w sl),ops)/\Joined X P Post S0 C.n0 gs' w (t++ops):=by
 have FG:=c.tab.PB.facts;have hq:=FG.fin (by simp[p0,hg]);have ha:=Ab.1 hq.1;have hb:=Ab.1 hq.2;obtain⟨o,h1,h2⟩:=c.data (by rw[ha];simp) (by rw[hb];simp);rw[c.fin .a (by rw[ha];rfl),c.fin .b (by rw[hb];rfl)] at h2;obtain⟨_,_,hl⟩:=hl;obtain⟨g',hs,hpost⟩:=hl o h1 h2;have hrun:=runT_crowd_go (P:=P) (sl:=sl) (i:=0) hx (by simpa using hs)
 have ID:0<gs.size:=(Array.getElem?_eq_some_iff.1 hx).1;have abd:∀r,r≠.m->born C.L r->(C.L r).pc= .quit/\r≠.m:=fun r h _=>by cases r<;>first|exact absurd rfl h|exact⟨ha,h⟩|exact⟨hb,h⟩
 have e1:MemOp.ofEvents 0 x.frame.fn x.frame.place #[pK (.acquire (wA X))]=#[{g:=0,fn:=x.frame.fn,pos:=x.frame.place,act:= .mark (.acquire (wA X))}]:=by rw[ofEvents_eq];simp[pK,MemAct.ofEvent]
 have hsz:((gs.map (woken P x g' w)).setIfInBounds 0 g').size=gs.size:=by simp
 have hd0:Deaf t 0=0:=by have:=c.deaf .m c.oB;rw[hdd] at this;exact this
 refine⟨_,_,hrun,⟨?_,⟨g',γ,by simp[ID],hpost⟩,⟨C.q,fun i g hi0 hgi=>?_,fun j hj=>?_⟩,?_,fun op hop=>?_⟩⟩
 .rw[hsz,c.size]
  unfold nb;rw[if_neg (by rw[ha];simp),if_neg (by rw[hb];simp)]
 .rw[ConcN.get_map_set _ _ _ _ (by omega)] at hgi
  obtain⟨y,hy,rfl⟩:=Option.map_eq_some_iff.1 hgi;have hlt:i<gs.size:=(Array.getElem?_eq_some_iff.1 hy).1;have hQ:QuitsD P (C.q i) (Deaf t i) y:=by
   rcases c.who hlt with⟨r,hr,rfl⟩|⟨h3,h4⟩
   .have hrm:r≠.m:=fun e=>by subst e;exact absurd rfl (Nat.ne_of_gt hi0)
    obtain⟨g,h5,h6⟩:=c.sit r hr;rw[hy] at h5;obtain rfl:=Option.some.inj h5;have hqp:=(abd r hrm hr).1;rw[c.deaf r hr];rcases h6 with⟨h7,_⟩|⟨h7,_⟩|⟨_,_,h7⟩
    .exact absurd hqp h7
    .exact absurd hqp h7
    .exact h7
   .exact c.old i y h3 h4 hy
  rw[woken_quitsD hQ,Deaf_other t (g':=0) (by omega) _ tR];exact hQ
 .rw[hsz] at hj
  rw[Deaf_other t (g':=0) (by omega) _ tR];exact c.above j hj
 .rw[e1]
  exact TI.join c.qZ c.ti rfl rfl hd0 c.lay.sO fun r hr hb'=>c.rel r (by rw[(abd r hr hb').1];rfl)
 .have qZ:=c.qZ
  rcases Array.mem_append.1 hop with hop|hop
  .rcases Nat.lt_or_ge op.g C.n0 with h|h
   .omega
   .obtain⟨i,hi⟩:=Array.mem_iff_getElem?.1 hop
    obtain⟨r,_,_,e⟩:=c.ti.ids i op.g (by simp[Trace.g?,hi]) h;rw[e];cases r<;>simp[gid]
  .have:=tR op hop
   omega
theorem JO (c:Core X P Post S0 C gs w t):
  (∃m' ops μ',stepT P (crowd gs w sl)=(.next m',ops)/\Sm μ' (C.ms gs.size)/\AU X P Post S0 C.n0 μ' m' (t++ops))\/
  ∃gs' w' sl' ops,stepT P (crowd gs w sl)=(.next (crowd gs' w' sl'),ops)/\Joined X P Post S0 C.n0 gs' w' (t++ops):=by
 obtain⟨i,g,d,sl',hi,hg,hst⟩:=crowd_pick (P:=P) (w:=w) (sl:=sl) c.awake c.N0;rw[hst];have c:=c.at d;generalize w.at d=w at c;have hlt:i<gs.size:=(Array.getElem?_eq_some_iff.1 hi).1;rcases c.who hlt with⟨r,hr,rfl⟩|⟨h0,h1⟩
 .obtain⟨g',hg1,hs⟩:=c.sit r hr
  rw[hi] at hg1;obtain rfl:=Option.some.inj hg1;obtain⟨k',hk⟩:=c.kpos hr
  have MW:C.aw r=1->(C.L r).pc≠.quit->C.ds r=fI (C.L r).pc->(∀w₁,RX X (C.γ r).ro (C.γ r).own w w₁->dL (AtR X P Post (C.k r) r) (C.L r) (C.γ r) (C.γ r).own g w₁)->
    (∃m' ops μ',runT P (crowd gs w sl') (gid C.n0 r)=(.next m',ops)/\Sm μ' (C.ms gs.size)/\AU X P Post S0 C.n0 μ' m' (t++ops))\/
    ∃gs' w' sl'' ops,runT P (crowd gs w sl') (gid C.n0 r)=(.next (crowd gs' w' sl''),ops)/\Joined X P Post S0 C.n0 gs' w' (t++ops):=fun haw hnq hdd hstop=>by
   obtain⟨cm,hcm,hat⟩:=hstop w (RX.refl X _ _ w);rw[hk] at hat;have abf:lY (C.L r).pc=true->r= .m:=fun h=>by
    cases r with
    |m=>rfl
    |a=>have:=c.tab.wa;revert this h;cases (C.L .a).pc<;>simp[lY,iR]
    |b=>have:=c.tab.wb;revert this h;cases (C.L .b).pc<;>simp[lY,iR]
   by_cases hgo:(C.L r).pc= .g1\/(C.L r).pc= .g2
   .obtain rfl:=abf (by rcases hgo with h|h<;>rw[h]<;>rfl)
    have hat':yG X P Post (k'+1) (C.L .m) _ g w:=hat;unfold yG at hat';rw[if_pos hgo] at hat';exact .inl (SL c hi hgo hk (hcm (by rcases hgo with h|h<;>rw[h]<;>simp)) hat' (by rw[hdd];rcases hgo with h|h<;>rw[h]<;>rfl))
   by_cases haq:(C.L r).pc= .aq
   .obtain rfl:=abf (by rw[haq];rfl)
    have hat':yG X P Post (k'+1) (C.L .m) _ g w:=hat;unfold yG at hat';rw[if_neg hgo,if_pos haq] at hat';obtain⟨gs',ops,e1,e2⟩:=SM (sl:=sl') c hi haq (by rw[hdd,haq];rfl) hat';exact .inr ⟨gs',w,sl',ops,e1,e2⟩
   obtain⟨l1,l2,l3,l4,l5⟩:=hat.law hgo haq;obtain⟨l6,l7⟩:=l5 C.s c.sh c.tab.fits;have hty:lY (C.L r).pc=true\/iR (C.L r).pc=true:=by
    cases r with
    |m=>exact .inl c.tab.st
    |a=>exact .inr c.tab.wa
    |b=>exact .inr c.tab.wb
   by_cases hmv:mv (C.L r) C.s=[]
   .exact .inl (stepBlock c hr hi hnq hdd haw hstop (mv_nil hty hgo haq hr hnq hmv) (l6 hmv))
   .have hla:(C.L r).pc= .la->∃o,w.heap[X.M]? =some o/\AV X r cm (C.γ (KJ r)).mine o:=fun hla=>by
     have hrm:r≠.m:=fun e=>by subst e;exact jd c.tab rfl hla
     have hp:(pm (C.L r)).pc= .u0:=by simp[pm,hla]
     have hnu:∀r',(C.L r').pc≠.ur:=fun r' hu=>by
      have hn:r'≠r:=fun e=>by subst e;rw[hla] at hu;cases hu
      have hnm:r'≠.m:=fun e=>by subst e;exact jd c.tab rfl hu
      have hp':(pm (C.L r')).pc= .u0:=by simp[pm,hu]
      have FM:=c.tab.Yn.facts;cases r<;>cases r'<;>simp at hrm hn hnm
      .exact FM.excl ⟨hp,hp'⟩
      .exact FM.excl ⟨hp',hp⟩
     obtain⟨o,h1,h2⟩:=c.data (hnu .a) (hnu .b);have e:=hcm (by rw[hla];simp);refine⟨o,h1,?_⟩;rw[e];cases r with
     |m=>exact absurd rfl hrm
     |a=>exact h2
     |b=>exact h2
    obtain⟨q,hq,hrest⟩:=l7 (C.γ (KJ r)).mine hla hmv;have hnb:=(c.tab.move hq hr).1;obtain⟨hfin,x',w',es,m1,m2,m3,m4,m5⟩:=hrest hnb;exact .inl (stepMove c hr hi hnq hdd hq hk hcm (fun hu=>l4 hu) l3 hfin m1 m2 m3 m4 (d:=(C.γ (KJ r)).mine) (fun _=>rfl) m5)
  rcases hs with⟨h1,h2,h3,hl⟩|⟨_,_,_,_,g₀,e,_⟩|⟨h1,h2,hq⟩
  .cases hρ:C.ρ r with
   |zero=>
    rw[hρ] at hl;exact MW h3 h1 h2 hl
   |mk f=>
    rw[hρ] at hl;rcases hl with hl|⟨_,hl⟩
    .exact MW h3 h1 h2 hl
    .obtain⟨x',w',es,m1,m2,m3⟩:=hl w (RX.refl X _ _ w)
     exact .inl (JP c hr hi hρ h1 h2 m1 m2 m3)
  .subst e;cases hg
  .by_cases hrm:r= .m
   .subst hrm;exact absurd h1 (jd c.tab rfl)
   .refine .inl (yR c (Gi c.qZ hrm) hi hg (.inr ⟨r,hr,hrm,rfl,h1⟩) ?_)
    rw[c.deaf r hr];exact hq
 .exact .inl (yR c (by omega) hi hg (.inl h1) (c.old i g h0 h1 hi))
theorem GW {n0:Nat}:∀μ m t,AU X P Post S0 n0 μ m t->∃N gs' w' sl' t',runNT P N m t=(.next (crowd gs' w' sl'),t')/\Joined X P Post S0 n0 gs' w' t':=by
 intro μ
 induction μ using Vo.induction with
 |_ μ ih=>
  rintro m t ⟨C,gs,w,sl,rfl,rfl,hc,rfl⟩;rcases JO (sl:=sl) hc with⟨m',ops,μ',h1,h2,h3⟩|⟨gs',w',sl',ops,h1,h2⟩
  .obtain⟨N,gs',w',sl',t',h4,h5⟩:=ih μ' h2 m' _ h3
   exact⟨N+1,gs',w',sl',t',by simp only[runNT,h1];exact h4,h5⟩
  .exact⟨1,gs',w',sl',_,by simp only[runNT,h1],h2⟩
end
end aI
end
section
open Go.Conc
open Go.ConcM (OsLater)
namespace aI
section
variable {Δ:Type}{X:Cx Δ}{P:Program}{r:bm}{k:Nat}{T T':Lo}{γ:Gh Δ}{own:Nat->Prop}{g g':Goroutine}{w w':World}{es:Array Event}
theorem jA (deaf:Bool)(ro:Nat->Prop):Idle (eS X deaf ro):=fun own w=>
 ⟨⟨rfl,rfl,Nat.le_refl _,.refl _,fun _ _ _=>rfl,by simp,fun _=>rfl⟩,by funext b;show(own b\/(w.heap.size<=b/\b<w.heap.size))=own b;exact propext ⟨fun h=>h.elim id fun z=>by omega,.inl⟩⟩
theorem aC {deaf:Bool}{ro:Nat->Prop}{Stop:(Nat->Prop)->Goroutine->World->Prop}{main:Bool}(h:av P main g g')(k:aD P main (eS X deaf ro) Stop own g' w):aD P main (eS X deaf ro) Stop own g w:=jL (jA deaf ro) h k
theorem aU {x:FuncId×Array Value}(h:aG g=some x):g.status= .running/\g.offers=none:=by
 obtain⟨f,args⟩:=x;obtain⟨b,a,ops,i,rest,kk,cs,o,ae,ats,rfl,_⟩:=cU h;exact⟨rfl,rfl⟩
theorem cV {v:kJ}(h:aQ g=some v):g.status= .running/\g.offers=none:=by
 obtain⟨b,a,ops,i,rest,kk,cs,o,rfl,_⟩:=ma h;exact⟨rfl,rfl⟩
theorem ou {x:FuncId×Array Value}(h:ic g=some x):g.status= .running/\g.offers=none:=by
 obtain⟨f,args⟩:=x;obtain⟨b,a,todo,ds,cs,rfl,_⟩:=rN h;exact⟨rfl,rfl⟩
theorem K5 {main deaf:Bool}{Nx:Nat->Lo->Gh Δ->Goroutine->World->Prop}(h0:∀T γ g w,Nx 0 T γ g w)(h:∀k' w₁,k=k'+1->RX X γ.ro own w w₁->Nx (k'+1) T {γ with own:=own} g w₁):
  aD P main (eS X deaf γ.ro) (dL (Nx k) T γ) own g w:=by
 cases k with
 |zero=>exact aD.stop fun w₁ hr=>⟨γ.mine,fun _=>rfl,h0 _ _ _ _⟩
 |succ k=>exact aD.stop fun w₁ hr=>⟨γ.mine,fun _=>rfl,h k w₁ rfl hr⟩
theorem ShAt.XN {s:Sh}(h:ShAt X w s):w.cell? (mA X)=some (.int .i32 s.mu):=by simp[World.cell?,mA,h.1]
theorem ShAt.cMs {s:Sh}(h:ShAt X w s):w.cell? (msA X)=some (.int .u32 s.ms):=by simp[World.cell?,msA,h.1]
theorem ShAt.I2 {s:Sh}(h:ShAt X w s):w.cell? (wA X)=some (.int .u64 s.wg):=by simp[World.cell?,wA,h.2]
theorem ShAt.YH {s:Sh}(h:ShAt X w s):w.cell? (Jl X)=some (.int .u32 s.ws):=by simp[World.cell?,Jl,h.2]
theorem ShAt.Zo {s:Sh}(h:ShAt X w s)(o:Nat):w.frozen? ⟨X.Fd,o,none⟩=false:=by simp[World.frozen?,h.1]
theorem ShAt.Nn {s:Sh}(h:ShAt X w s)(o:Nat):w.frozen? ⟨X.Wg,o,none⟩=false:=by simp[World.frozen?,h.2]
theorem ShAt.setMu {s:Sh}(hne:X.Fd≠X.Wg)(h:ShAt X w s)(v:Int):ShAt X (w.setCell (mA X) (.int .i32 v)) {s with mu:=v}:=
 ⟨by rw[mA,setCell_eq_setRow w X.Fd 0 _ X.tF (0,0) _ h.1,setRow_heap w X.Fd _ _ X.tF _ h.1];simp,((aside_setCell w (mA X) _).block X.Wg hne.symm).trans h.2⟩
theorem ShAt.setMs {s:Sh}(hne:X.Fd≠X.Wg)(h:ShAt X w s)(v:Int):ShAt X (w.setCell (msA X) (.int .u32 v)) {s with ms:=v}:=
 ⟨by rw[msA,setCell_eq_setRow w X.Fd 1 _ X.tF (0,0) _ h.1,setRow_heap w X.Fd _ _ X.tF _ h.1];simp,((aside_setCell w (msA X) _).block X.Wg hne.symm).trans h.2⟩
theorem ShAt.setWg {s:Sh}(hne:X.Fd≠X.Wg)(h:ShAt X w s)(v:Int):ShAt X (w.setCell (wA X) (.int .u64 v)) {s with wg:=v}:=
 ⟨((aside_setCell w (wA X) _).block X.Fd hne).trans h.1,by rw[wA,setCell_eq_setRow w X.Wg 0 _ X.tW (0,0) _ h.2,setRow_heap w X.Wg _ _ X.tW _ h.2];simp⟩
theorem ShAt.setWs {s:Sh}(hne:X.Fd≠X.Wg)(h:ShAt X w s)(v:Int):ShAt X (w.setCell (Jl X) (.int .u32 v)) {s with ws:=v}:=
 ⟨((aside_setCell w (Jl X) _).block X.Fd hne).trans h.1,by rw[Jl,setCell_eq_setRow w X.Wg 1 _ X.tW (0,0) _ h.2,setRow_heap w X.Wg _ _ X.tW _ h.2];simp⟩
def lK (X:Cx Δ)(a:Addr):Prop:=(a.block=X.Fd/\a.off≠2)\/(a.block=X.Wg/\X.Wg≠X.Fd)
theorem vc {a:Addr}(ha:lK X a)(hb:ConcM.BookOK X.Fd X.Wg 1 1 es)(hes:∀e∈es,∀b:Addr,e.loc= .cell b->b=a)(hT:iX T T'= .book):EvStop X T T' es:=by
 unfold EvStop;rw[hT];exact⟨hb,fun e he b h1 h2=>by
  obtain rfl:=hes e he b h1;rcases ha with ha|ha
  .exact ha.2
  .exact absurd (ha.1.symm.trans h2) ha.2⟩
theorem pk {a:Addr}(ha:lK X a):a.block=X.Fd\/a.block=X.Wg:=ha.imp (·.1) (·.1)
theorem xe (hT:iX T T'= .book):EvStop X T T' #[]:=by unfold EvStop;rw[hT];exact⟨ConcM.book_nil 1,by simp⟩
theorem oq {a:Addr}(ha:lK X a)(hT:iX T T'= .book):EvStop X T T' #[⟨.cell a,false,true⟩,⟨.cell a,true,true⟩]:=
 vc ha (ConcM.book_rw 0 a (pk ha)) (fun e he b hb=>by simp at he;rcases he with rfl|rfl<;>cases hb<;>rfl) hT
theorem CW {a:Addr}(ha:lK X a)(hT:iX T T'= .book):EvStop X T T' #[⟨.cell a,false,true⟩]:=
 vc ha (ConcM.book_one 0 a false (pk ha)) (fun e he b hb=>by simp at he;subst he;cases hb;rfl) hT
theorem agV {a:Addr}(ha:lK X a)(hT:iX T T'= .book):EvStop X T T' #[⟨.cell a,true,true⟩]:=
 vc ha (ConcM.book_one 0 a true (pk ha)) (fun e he b hb=>by simp at he;subst he;cases hb;rfl) hT
theorem AH {a:Addr}(ha:lK X a)(hT:iX T T'= .book):EvStop X T T' (semEvents a):=
 vc ha (ConcM.book_sem 0 a (pk ha)) (fun e he b hb=>by simp[semEvents] at he;rcases he with rfl|rfl|rfl|rfl<;>cases hb<;>rfl) hT
theorem okM:lK X (mA X):= .inl ⟨rfl,by simp[mA]⟩
theorem aay:lK X (msA X):= .inl ⟨rfl,by simp[msA]⟩
theorem okW (h:X.Fd≠X.Wg):lK X (wA X):= .inr ⟨rfl,h.symm⟩
theorem aax (h:X.Fd≠X.Wg):lK X (Jl X):= .inr ⟨rfl,h.symm⟩
theorem FW {Nx:Lo->Gh Δ->Goroutine->World->Prop}(hrun:g.status= .running/\g.offers=none)(hmv:∀s,mv T s=[(T',s)])(h1:T.pc≠.la)(h2:T.pc≠.ur)(h3:T'.pc≠.wk)(h4:T'.pc≠.quit)(h5:T.pc≠.us)(h6:T.pc≠.d4)
  (hs:∀s,ShAt X w s->∃es w',stepG P (uC r) g w= .go g' w' es/\ShAt X w' s/\ConcM.Eff X.Fd X.Wg w w'/\EvStop X T T' es/\aD P (uC r) (eS X (eH T'.pc) γ.ro) (dL Nx T' γ) γ.own g' w'):X1 X P Nx r T γ g w:=by
 refine⟨hrun.1,hrun.2,fun h=>h.elim (absurd · h5) (absurd · h6),fun h=>absurd h h2,fun s hsh _=>⟨fun h=>(by rw[hmv] at h;cases h),fun d hd _=>?_⟩⟩;obtain⟨es,w',e1,e2,e3,e4,e5⟩:=hs s hsh;refine⟨(T',s),by rw[hmv];simp,fun _=>⟨fun h=>absurd h h3,g',w',es,e1,e2,e3,e4,?_⟩⟩;unfold After;rw[if_neg h4];have e:iO X T.pc γ.own=γ.own:=by
  revert h1 h2
  cases T.pc<;>simp[iO]
 simp only[e,if_neg h1];exact e5
theorem cZ {Nx:Lo->Gh Δ->Goroutine->World->Prop}(hrun:g.status= .running/\g.offers=none)(h1:T.pc≠.la)(h2:T.pc≠.ur)(h3:T.pc≠.out)(h5:T.pc= .us\/T.pc= .d4->mayWake P g=true)
  (hb:∀s,ShAt X w s->s.fits->mv T s=[]->stepG P (uC r) g w= .go {g with status:= .blocked} w #[])
  (hs:∀s,ShAt X w s->s.fits->mv T s≠[]->∃q∈mv T s,q.1.pc≠.bad->∃g' w' es,stepG P (uC r) g w= .go g' w' es/\ShAt X w' q.2/\ConcM.Eff X.Fd X.Wg w w'/\EvStop X T q.1 es/\
   (if q.1.pc= .quit then ∃n,QuitsD P n 1 g' else aD P (uC r) (eS X (eH q.1.pc) γ.ro) (dL Nx q.1 γ) γ.own g' w')):X1 X P Nx r T γ g w:=by
 refine⟨hrun.1,hrun.2,h5,fun h=>absurd h h2,fun s hsh hf=>⟨hb s hsh hf,fun d hd hne=>?_⟩⟩;obtain⟨q,hq,hrest⟩:=hs s hsh hf hne;refine⟨q,hq,fun hbad=>⟨fun h=>?_,?_⟩⟩
 .exfalso
  rcases(KV hq).2.2.1 (by rw[h];rfl) with hp|⟨hp,_⟩
  .revert hp hq h3
   obtain⟨pc,old,nw,aw,sv,it,n⟩:=T;obtain⟨q1,q2⟩:=q;simp only at h;cases pc<;>simp[past]<;>simp only[mv]<;>(repeat' split)<;>simp<;>intros<;>simp_all
  .exact h3 hp
 .obtain⟨g',w',es,e1,e2,e3,e4,e5⟩:=hrest hbad
  refine⟨g',w',es,e1,e2,e3,e4,?_⟩;unfold After;have e:iO X T.pc γ.own=γ.own:=by
   revert h1 h2
   cases T.pc<;>simp[iO]
  simp only[e,if_neg h1];exact e5
end
abbrev PP:Program:=Tryz.prog
abbrev U:Value:= .tuple #[]
def pt (F:Nat):Value:= .pointer (some ⟨F,0,none⟩)
def pF (F:Nat):Value:= .pointer (some ⟨F,1,none⟩)
def O (g:Goroutine):Goroutine:=Ah PP false 200 g
def On (n:Nat)(g:Goroutine):Goroutine:=Ah PP false n g
def qo (f:FuncId):Code:=((PP.funcs[f]?).bind (·.body)).getD .skip
def LB (f:FuncId)(args:Array Value)(n:Nat)(fr:Frame)(cs:List Frame):Goroutine:=G ((base f).at ⟨args++Array.replicate n undef,[]⟩ [.code (qo f)]) (fr::cs)
def cB (fr:Frame)(cs:List Frame)(v:Value):Goroutine:={frame:=fr.finish v,callers:=cs,status:= .running,dying:=none}
theorem GH:Ext PP 168 Tryz.f168:=⟨Tryz.func168,by kernel_rfl,by kernel_rfl,by kernel_rfl⟩
theorem II:Extern.find Tryz.f168=some (fun _=>do mark .disable;pure Extern.Race.none_):=by kernel_rfl
theorem X9:Ext PP 170 Tryz.f170:=⟨Tryz.func170,by kernel_rfl,by kernel_rfl,by kernel_rfl⟩
theorem YD:Extern.find Tryz.f170=some (fun _=>do mark .enable;pure Extern.Race.none_):=by kernel_rfl
theorem YO:Ext PP 171 Tryz.f171:=⟨Tryz.func171,by kernel_rfl,by kernel_rfl,by kernel_rfl⟩
theorem acx:Extern.find Tryz.f171=some (Extern.Race.marked .acquire):=by kernel_rfl
theorem xRm:Ext PP 193 Tryz.f193:=⟨Tryz.func193,by kernel_rfl,by kernel_rfl,by kernel_rfl⟩
theorem fRm:Extern.find Tryz.f193=some (Extern.Race.marked .releaseMerge):=by kernel_rfl
theorem YN:Ext PP 217 Tryz.f217:=⟨Tryz.func217,by kernel_rfl,by kernel_rfl,by kernel_rfl⟩
theorem acw:Extern.find Tryz.f217=some (Extern.Atomic.casT (.int .i32)):=by kernel_rfl
theorem aeK:Ext PP 219 Tryz.f219:=⟨Tryz.func219,by kernel_rfl,by kernel_rfl,by kernel_rfl⟩
theorem agU:Extern.find Tryz.f219=some (Extern.Atomic.update (Op.intArith .add) .i32 true):=by kernel_rfl
theorem Q4:Ext PP 221 Tryz.f221:=⟨Tryz.func221,by kernel_rfl,by kernel_rfl,by kernel_rfl⟩
theorem RZ:Extern.find Tryz.f221=some Extern.Sync.canSpin:=by kernel_rfl
theorem xDo:Ext PP 222 Tryz.f222:=⟨Tryz.func222,by kernel_rfl,by kernel_rfl,by kernel_rfl⟩
theorem fDo:Extern.find Tryz.f222=some (fun _=>pure (.tuple #[])):=by kernel_rfl
theorem Q7:Ext PP 224 Tryz.f224:=⟨Tryz.func224,by kernel_rfl,by kernel_rfl,by kernel_rfl⟩
theorem R4:Extern.find Tryz.f224=some Extern.OsHooks.nano:=by kernel_rfl
theorem Rq:Tryz.f224.norace=true:=by kernel_rfl
theorem YL:Ext PP 225 Tryz.f225:=⟨Tryz.func225,by kernel_rfl,by kernel_rfl,by kernel_rfl⟩
theorem acp:Extern.find Tryz.f225=some Extern.Sync.semacquire:=by kernel_rfl
theorem YM:Ext PP 227 Tryz.f227:=⟨Tryz.func227,by kernel_rfl,by kernel_rfl,by kernel_rfl⟩
theorem agQ:Extern.find Tryz.f227=some Extern.Sync.semrelease:=by kernel_rfl
section
variable (F:Nat)(fr:Frame)(cs:List Frame)
def gL0:Goroutine:=LB 201 #[pt F] 5 fr cs
def Xg:Goroutine:=O (gL0 F fr cs)
def RW:Goroutine:=O (resume (Xg F fr cs) U)
def gE1:Goroutine:=O (resume (RW F fr cs) (.bool true))
def Ly:Goroutine:=O (resume (gE1 F fr cs) U)
def gA1:Goroutine:=O (resume (Ly F fr cs) (pt F))
def P0:Goroutine:=O (resume (RW F fr cs) (.bool false))
def cS:List Frame:=(P0 F fr cs).callers
end
def Zg:List Item:=(On 5 (resume (P0 0 default []) (.int .i32 0))).frame.todo
def gH (F:Nat)(fr:Frame)(cs:List Frame)(tm:Array Value):Goroutine:=G ((base 218).at ⟨tm,[]⟩ Zg) (cS F fr cs)
def tm0 (old:Int):Array Value:=#[pt 0,U,.int .i64 0,.bool false,.bool false,.int .i64 0,.int .i32 old]++Array.replicate 132 U
def Zc:List Item:=(On 11 (resume (O (gH 0 default [] (tm0 0))) (.bool true))).frame.todo
def gR (F:Nat)(fr:Frame)(cs:List Frame)(tm:Array Value):Goroutine:=G ((base 218).at ⟨tm,[]⟩ Zc) (cS F fr cs)
def gq1:Goroutine:=O (resume (O (resume (O (gH 0 default [] (tm0 1))) (.bool false))) (.bool true))
def gq2:Goroutine:=O (resume gq1 (.int .i64 1))
def gq3:Goroutine:=O (resume gq2 U)
def Zd:List Item:=(On 1 (resume gq2 U)).frame.todo
def gQ (F:Nat)(fr:Frame)(cs:List Frame)(tm:Array Value):Goroutine:=G ((base 218).at ⟨tm,[]⟩ Zd) (cS F fr cs)
def Ze:List Item:=(On 6 (resume gq3 (.int .i64 1))).frame.todo
def gN (F:Nat)(fr:Frame)(cs:List Frame)(tm:Array Value):Goroutine:=G ((base 218).at ⟨tm,[]⟩ Ze) (cS F fr cs)
def yu (g:Goroutine):TypeId:=match aQ g with|some (.conv s _ _)=>s|_=>0
def zu (g:Goroutine):TypeId:=match aQ g with|some (.conv _ d _)=>d|_=>0
def zt (g:Goroutine):TypeId:=match PP.underlying (yu g) with|some (.pointer t)=>t|_=>0
section
variable {Δ:Type}{X:Cx Δ}{r:bm}{k n:Nat}{T T':Lo}{γ:Gh Δ}{own:Nat->Prop}{g g':Goroutine}{w w':World}{es:Array Event}
theorem gl (n:Nat)(h:∀ws:Nat->World,xO PP false n g ws=some (Ah PP false n g,(List.range (bN PP false n g)).map ws)){deaf:Bool}{ro:Nat->Prop}{Stop:(Nat->Prop)->Goroutine->World->Prop}
  (k:aD PP false (eS X deaf ro) Stop own (Ah PP false n g) w):aD PP false (eS X deaf ro) Stop own g w:=aC (av.of n h) k
theorem p9 {deaf:Bool}{ro:Nat->Prop}{Stop:(Nat->Prop)->Goroutine->World->Prop}{s d t:TypeId}{a:Addr}(h:aQ g=some (.conv s d (.pointer (some a))))(h1:PP.underlying s=some (.pointer t))(h2:PP.underlying d=some .unsafePointer)
  (h3:(PP.info? t).map (fun i=>decide (i.size=0))=some false) (hc:∀w₁,RX X ro own w w₁->∃v,w₁.cell? a=some v) (k:aD PP false (eS X deaf ro) Stop own (resume g (.pointer (some a))) w):aD PP false (eS X deaf ro) Stop own g w:=by
 refine aD.step (cV h).1 fun w₁ hr=>?_
 obtain⟨v,hv⟩:=hc w₁ hr;obtain⟨es,e1,e2⟩:=mc (P:=PP) (main:=false) (w:=w₁) (w':=w₁) (x:= .pointer (some a)) h (by simp only[kJ.sem,Sem.run_bind,run_convert_to_unsafe h1 h2 h3 hv];rfl);have e3:es=#[]:=Array.eq_empty_iff_forall_not_mem.2 fun e he=>by
  have:=e2 e he;simp only[kJ.sem,Sem.events_bind,run_convert_to_unsafe h1 h2 h3 hv,events_convert_to_unsafe h1 h2 h3 hv] at this;simp at this
 subst e3;refine⟨_,w₁,#[],e1,(jA deaf ro own w₁).1,?_⟩;have:=(jA (X:=X) deaf ro own w₁).2;rw[this];exact k.rely hr
end
theorem Ry {P:Program}{main:Bool}{g:Goroutine}{w:World}{t:TypeId}{ad:Addr}{k:IntKind}{v:Int}(h:aQ g=some (.load t (.pointer (some ad))))(hc:w.cell? ad=some (.int k v))(ht:∀w,(Instr.loadAt t (.pointer (some ad))).run P w=(match w.cell? ad with|some x=> .ok x w|none=>(Instr.loadAt t (.pointer (some ad))).run P w))
  (he:∀w x,w.cell? ad=some x->(Instr.loadAt t (.pointer (some ad))).events P w #[]=#[⟨.cell ad,false,false⟩]) (hq:(P.funcs[g.frame.fn]?).any (·.norace)=true):
  stepG P main g w= .go (resume g (.int k v)) w #[]:=by
 obtain⟨b,a,ops,i,rest,kk,cs,o,rfl,h2,h3,h4,h5,h6,h7⟩:=ma h;have hr:(execOp a.eval o).run P w= .ok (.value (.int k v)) w:=by
  rw[h6];simp only[kJ.sem,Sem.run_bind,ht w,hc];rfl
 have hev:(execOp a.eval o).events P w #[]=#[⟨.cell ad,false,false⟩]:=by
  rw[h6];simp only[kJ.sem,Sem.events_bind,ht w,hc,he w _ hc];simp
 rw[h7,stepG_value h2 h3 h4 hr];have:listed P b.fn a o w=#[]:=by
  unfold listed;rw[hev,seen_def,(show b.fn=(G (b.at a (.inRegion ops (i::rest)::kk)) cs).frame.fn from rfl),hq];simp[seenStep]
 rw[this]
section
variable {Δ:Type}{X:Cx Δ}{r:bm}{k:Nat}{T T':Lo}{γ:Gh Δ}{g g':Goroutine}{w w':World}
structure Room (X:Cx Δ)(γ:Gh Δ):Prop where
 ne:X.Fd≠X.Wg
 off:∀b,γ.own b\/γ.ro b->b≠X.Fd/\b≠X.Wg
abbrev RR (X:Cx Δ)(γ:Gh Δ)(w w':World):Prop:=RX X γ.ro γ.own w w'
theorem Room.rx (h:Room X γ){s:Sh}(e:ConcM.Eff X.Fd X.Wg w w')(hs:ShAt X w' s):RR X γ w w':=
 ⟨e.tape,e.output,Nat.le_of_eq e.size.symm,e.os,fun b _ ho=>e.block b (h.off b ho).1 (h.off b ho).2,fun _=>⟨s,hs⟩⟩
abbrev LW (X:Cx Δ)(r:bm)(γ:Gh Δ)(k:Nat)(T:Lo)(g:Goroutine)(w:World):Prop:=aD PP false (eS X (eH T.pc) γ.ro) (dL (GD X PP k r) T γ) γ.own g w
theorem ir (h:∀k' w₁,k'<k->RR X γ w w₁->X1 X PP (GD X PP k' r) r T γ g w₁):LW X r γ k T g w:=by
 refine K5 (Nx:=fun k=>GD X PP k r) (fun T γ g w=>trivial) fun k' w₁ e hr=>?_
 exact h k' w₁ (by omega) hr
variable (hm:uC r=false)(R:Room X γ)
include hm R
theorem AM {T1 T2:Lo}(hpc:T.pc= .c2\/T.pc= .l0\/T.pc= .uc){old nw:Int}(hc:aG g=some (217,#[pt X.Fd,.int .i32 old,.int .i32 nw]))
  (h1:∀s,s.mu=old->(T1,{s with mu:=nw})∈mv T s) (h2:∀s,s.fits->s.mu≠old->∃q∈mv T s,q.1.pc= .bad\/q=(T2,s))
  (e1:iX T T1= .book) (q1:T1.pc≠.quit) (e2:iX T T2= .book) (q2:T2.pc≠.quit)
  (hit:∀k' w',k'<k->RR X γ w w'->LW X r γ k' T1 (resume g (.bool true)) w') (miss:T2.pc≠.bad->∀k' w',k'<k->RR X γ w w'->LW X r γ k' T2 (resume g (.bool false)) w'):LW X r γ k T g w:=by
 refine ir fun k' w₁ hk hr=>cZ (aU hc) ?_ ?_ ?_ ?_ ?_ ?_
 .rcases hpc with h|h|h<;>rw[h]<;>simp
 .rcases hpc with h|h|h<;>rw[h]<;>simp
 .rcases hpc with h|h|h<;>rw[h]<;>simp
 .rcases hpc with h|h|h<;>rw[h]<;>simp
 .intro s _ hf hn
  exfalso
  by_cases hmu:s.mu=old
  .have:=h1 s hmu;rw[hn] at this;cases this
  .obtain⟨q,hq,_⟩:=h2 s hf hmu;rw[hn] at hq;cases hq
 .intro s hsh hf _
  rw[hm]
  by_cases hmu:s.mu=old
  .have hsh':=hsh.setMu R.ne nw
   have ef:=ConcM.Eff.set (w:=w₁) (Mu:=X.Fd) (Wg:=X.Wg) (mA X) (.int .i32 nw) (.inl rfl);refine⟨_,h1 s hmu,fun _=>⟨_,_,_,mg YN .i32 acw hc (by rw[<-hmu];exact hsh.XN) (hsh.Zo 0),hsh',ef,oq okM e1,?_⟩⟩;rw[if_neg q1];exact hit k' _ hk (hr.trans X (R.rx ef hsh'))
  .obtain⟨q,hq,hb⟩:=h2 s hf hmu
   refine⟨q,hq,fun hne=>?_⟩;obtain rfl:=hb.resolve_left hne;refine⟨_,_,_,lx YN .i32 acw hc hsh.XN (hsh.Zo 0) hmu,hsh,.refl _,CW okM e2,?_⟩;rw[if_neg q2];exact miss hne k' _ hk hr
theorem MV {δ:Int}(hpc:T.pc= .a1\/T.pc= .u0)(hc:aG g=some (219,#[pt X.Fd,.int .i32 δ]))
  (h1:∀s,s.fits->∃q∈mv T s,q.1.pc= .bad\/(q.2={s with mu:=IntKind.i32.wrap (s.mu+δ)}/\iX T q.1= .book/\q.1.pc≠.quit/\∀k' w',k'<k->RR X γ w w'->LW X r γ k' q.1 (resume g (.int .i32 (IntKind.i32.wrap (s.mu+δ)))) w')):LW X r γ k T g w:=by
 refine ir fun k' w₁ hk hr=>cZ (aU hc) ?_ ?_ ?_ ?_ ?_ ?_
 .rcases hpc with h|h<;>rw[h]<;>simp
 .rcases hpc with h|h<;>rw[h]<;>simp
 .rcases hpc with h|h<;>rw[h]<;>simp
 .rcases hpc with h|h<;>rw[h]<;>simp
 .intro s _ hf hn
  obtain⟨q,hq,_⟩:=h1 s hf;rw[hn] at hq;cases hq
 .intro s hsh hf _
  rw[hm];obtain⟨q,hq,hb⟩:=h1 s hf;refine⟨q,hq,fun hne=>?_⟩;obtain⟨e1,e2,e3,e4⟩:=hb.resolve_left hne;have hsh':=hsh.setMu R.ne (IntKind.i32.wrap (s.mu+δ));have ef:=ConcM.Eff.set (w:=w₁) (Mu:=X.Fd) (Wg:=X.Wg) (mA X) (.int .i32 (IntKind.i32.wrap (s.mu+δ))) (.inl rfl);refine⟨_,_,_,qB aeK .i32 agU hc hsh.XN (hsh.Zo 0),by rw[e1];exact hsh',ef,oq okM e2,?_⟩;rw[if_neg e3]
  exact e4 k' _ hk (hr.trans X (R.rx ef hsh'))
theorem AL (hpc:T.pc= .r0\/T.pc= .r1\/T.pc= .r2\/T.pc= .r3)(hv:aQ g=some (.load 21 (pt X.Fd)))(hq:(PP.funcs[g.frame.fn]?).any (·.norace)=true)
  (h1:∀s,s.fits->∃q∈mv T s,q.1.pc= .bad\/(q.2=s/\iX T q.1= .book/\q.1.pc≠.quit/\∀k' w',k'<k->RR X γ w w'->LW X r γ k' q.1 (resume g (.int .i32 s.mu)) w')):LW X r γ k T g w:=by
 refine ir fun k' w₁ hk hr=>cZ (cV hv) ?_ ?_ ?_ ?_ ?_ ?_
 .rcases hpc with h|h|h|h<;>rw[h]<;>simp
 .rcases hpc with h|h|h|h<;>rw[h]<;>simp
 .rcases hpc with h|h|h|h<;>rw[h]<;>simp
 .rcases hpc with h|h|h|h<;>rw[h]<;>simp
 .intro s _ hf hn
  obtain⟨q,hq,_⟩:=h1 s hf;rw[hn] at hq;cases hq
 .intro s hsh hf _
  rw[hm];obtain⟨q,hq',hb⟩:=h1 s hf;refine⟨q,hq',fun hne=>?_⟩;obtain⟨e1,e2,e3,e4⟩:=hb.resolve_left hne;refine⟨_,_,_,Ry hv hsh.XN ?_ ?_ hq,by rw[e1];exact hsh,.refl _,xe e2,?_⟩
  .intro w
   cases hcc:w.cell? ⟨X.Fd,0,none⟩ with
   |none=>simp[mA]
   |some x=>simp[go_sem,hcc,mA,pt]
  .intro w x hx
   simp[go_sem,hx,mA,pt]
  rw[if_neg e3];exact e4 k' _ hk hr
theorem XW {T1:Lo}{u v:Value}(hpc:T.pc= .s1)(hc:aG g=some (225,#[pF X.Fd,u,v]))
  (hT:T1={T with pc:=if T.sv then .r2 else .t2}) (go:∀k' w',k'<k->RR X γ w w'->LW X r γ k' T1 (resume g U) w'):LW X r γ k T g w:=by
 have e1:iX T T1= .book:=by unfold iX;rw[hpc]
 have q1:T1.pc≠.quit:=by rw[hT];dsimp only;split<;>simp
 refine ir fun k' w₁ hk hr=>cZ (aU hc) ?_ ?_ ?_ ?_ ?_ ?_
 .rw[hpc];simp
 .rw[hpc];simp
 .rw[hpc];simp
 .rw[hpc];simp
 .intro s hsh _ hn
  rw[hm];have:s.ms=0:=by
   unfold mv at hn;rw[hpc] at hn
   by_cases h:s.ms=0
   .exact h
   .simp[h] at hn
  exact GY YL acp hc (by rw[<-this];exact hsh.cMs)
 .intro s hsh hf hne
  rw[hm];have h0:s.ms≠0:=by
   intro h
   apply hne
   unfold mv;rw[hpc];simp[h]
  have hmem:(T1,({s with ms:=s.ms-1}:Sh))∈mv T s:=by
   rw[hT];unfold mv;rw[hpc];simp[h0]
  have hsh':=hsh.setMs R.ne (s.ms-1);have ef:=ConcM.Eff.set (w:=w₁) (Mu:=X.Fd) (Wg:=X.Wg) (msA X) (.int .u32 (s.ms-1)) (.inl rfl);refine⟨_,hmem,fun _=>⟨_,_,_,JM YL acp hc hsh.cMs h0 (hsh.Zo 1),hsh',ef,AH aay e1,?_⟩⟩;rw[if_neg q1];exact go k' _ hk (hr.trans X (R.rx ef hsh'))
theorem MS {T1:Lo}{u v:Value}(hpc:T.pc= .us)(hc:aG g=some (227,#[pF X.Fd,u,v]))
  (hT:T1=at_ .ue T.n) (go:∀k' w',k'<k->RR X γ w w'->LW X r γ k' T1 (resume g U) w'):LW X r γ k T g w:=by
 have e1:iX T T1= .book:=by unfold iX;rw[hpc]
 have q1:T1.pc≠.quit:=by rw[hT];simp
 refine ir fun k' w₁ hk hr=>cZ (aU hc) ?_ ?_ ?_ ?_ ?_ ?_
 .rw[hpc];simp
 .rw[hpc];simp
 .rw[hpc];simp
 .exact fun _=>A7 YM hc
 .intro s hsh _ hn
  unfold mv at hn;rw[hpc] at hn;simp at hn
 .intro s hsh hf _
  rw[hm];have hw:IntKind.u32.wrap (s.ms+1)=s.ms+1:=by
   have:=hf.2.1;rcases this with h|h<;>rw[h]<;>decide
  have hmem:(T1,({s with ms:=s.ms+1}:Sh))∈mv T s:=by
   rw[hT];unfold mv;rw[hpc];simp
  have hsh':=hsh.setMs R.ne (s.ms+1);have ef:=ConcM.Eff.set (w:=w₁) (Mu:=X.Fd) (Wg:=X.Wg) (msA X) (.int .u32 (s.ms+1)) (.inl rfl);refine⟨_,hmem,fun _=>⟨resume g U,w₁.setCell (msA X) (.int .u32 (s.ms+1)),_,by have:=Bn (P:=PP) (main:=false) (w:=w₁) YM agQ hc hsh.cMs (hsh.Zo 1);rw[hw] at this;exact this,hsh',ef,AH aay e1,?_⟩⟩;rw[if_neg q1];exact go k' _ hk (hr.trans X (R.rx ef hsh'))
theorem AK {T2:Lo}(hpc:T.pc= .sq){it:Int}(hit:T.it=it)(hc:aG g=some (221,#[.int .i64 it]))
  (hno:∀k' w',k'<k->RR X γ w w'->LW X r γ k' (cl T) (resume g (.bool false)) w')
  (hT:T2={T with pc:= .r1,old:=0,nw:=0}) (hyes:∀k' w',k'<k->RR X γ w w'->LW X r γ k' T2 (resume g (.bool true)) w'):LW X r γ k T g w:=by
 have e1:iX T (cl T)= .book:=by unfold iX;rw[hpc]
 have e2:iX T T2= .book:=by unfold iX;rw[hpc]
 have q1:(cl T).pc≠.quit:=by rw[Gs];simp
 have q2:T2.pc≠.quit:=by rw[hT];simp
 have m1:∀s,(cl T,s)∈mv T s:=fun s=>by unfold mv;rw[hpc];simp
 refine ir fun k' w₁ hk hr=>cZ (aU hc) ?_ ?_ ?_ ?_ ?_ ?_
 .rw[hpc];simp
 .rw[hpc];simp
 .rw[hpc];simp
 .rw[hpc];simp
 .intro s _ _ hn
  have:=m1 s;rw[hn] at this;cases this
 .intro s hsh hf _
  rw[hm]
  by_cases h4:it<4
  .have ef:=ConcM.Eff.asked (Mu:=X.Fd) (Wg:=X.Wg) w₁
   have hsh':ShAt X w₁.asked s:=⟨hsh.1,hsh.2⟩
   have hst:=GX (P:=PP) (main:=false) (w:=w₁) Q4 RZ hc h4;cases hsp:w₁.spins with
   |false=>
    rw[hsp] at hst;refine⟨_,m1 s,fun _=>⟨_,_,_,hst,hsh',ef,xe e1,?_⟩⟩;rw[if_neg q1];exact hno k' _ hk (hr.trans X (R.rx ef hsh'))
   |true=>
    rw[hsp] at hst;have m2:(T2,s)∈mv T s:=by rw[hT];unfold mv;rw[hpc];simp[hit,h4]
    refine⟨_,m2,fun _=>⟨_,_,_,hst,hsh',ef,xe e2,?_⟩⟩;rw[if_neg q2];exact hyes k' _ hk (hr.trans X (R.rx ef hsh'))
  .refine⟨_,m1 s,fun _=>⟨_,_,_,zM Q4 RZ hc (by omega),hsh,.refl _,xe e1,?_⟩⟩
   rw[if_neg q1];exact hno k' _ hk hr
theorem MU {args:Array Value}(hpc:T.pc= .t2)(hc:aG g=some (224,args))(next:Nat->Bool)
  (go:∀k' w' m,k'<k->RR X γ w w'->LW X r γ k' {T with pc:= .r2,sv:=if next m then true else T.sv} (resume g (.int .i64 (m:Int))) w'):LW X r γ k T g w:=by
 refine ir fun k' w₁ hk hr=>cZ (aU hc) ?_ ?_ ?_ ?_ ?_ ?_
 .rw[hpc];simp
 .rw[hpc];simp
 .rw[hpc];simp
 .rw[hpc];simp
 .intro s _ _ hn
  unfold mv at hn;rw[hpc] at hn;simp at hn
 .intro s hsh hf _
  rw[hm];have ef:=ConcM.Eff.later (Mu:=X.Fd) (Wg:=X.Wg) w₁;have hsh':ShAt X w₁.later s:=⟨hsh.1,hsh.2⟩
  refine⟨({T with pc:= .r2,sv:=if next (w₁.os.mono+w₁.tick) then true else T.sv},s),?_,fun _=>⟨_,_,_,yQ (P:=PP) (main:=false) (w:=w₁) Q7 R4 Rq hc,hsh',ef,xe (by unfold iX;rw[hpc]),?_⟩⟩
  .unfold mv
   rw[hpc];cases next (w₁.os.mono+w₁.tick)<;>simp
  .rw[if_neg (by simp)]
   exact go k' _ _ hk (hr.trans X (R.rx ef hsh'))
theorem vd {f:FuncId}{fn:Func}{m:Mark}(hX:Ext PP f fn)(hmk:∀g,m≠.extern g)(he:Extern.find fn=some (fun _=>do mark m;pure Extern.Race.none_))(hc:aG g=some (f,#[]))
  (hmv:∀s,mv T s=[(T',s)]) (hev:EvStop X T T' #[pK m]) (h1:T.pc≠.la) (h2:T.pc≠.ur) (h3:T'.pc≠.wk) (h4:T'.pc≠.quit) (h5:T.pc≠.us) (h6:T.pc≠.d4)
  (go:∀k' w',k'<k->RR X γ w w'->LW X r γ k' T' (resume g U) w'):LW X r γ k T g w:=by
 refine ir fun k' w₁ hk hr=>FW (g':=resume g U) (aU hc) hmv h1 h2 h3 h4 h5 h6 fun s hsh=>?_
 rw[hm];exact⟨_,_,jb hX m (hm:=hmk) he hc,hsh,.refl _,hev,go k' _ hk hr⟩
abbrev Taken (X:Cx Δ)(r:bm)(γ:Gh Δ)(n:Nat)(fr:Frame)(cs:List Frame)(w:World):Prop:=
 ∀k w' d o,RR X γ w w'->w'.heap[X.M]? =some o->AV X r γ.mine d o->aD PP false (eS X false γ.ro) (dL (GD X PP k r) (at_ .ur n) {γ with own:=fun b=>γ.own b\/b=X.M,other:=d}) (fun b=>γ.own b\/b=X.M) (cB fr cs U) w'
theorem QR {n:Nat}{fr:Frame}{cs:List Frame}(hc:aG g=some (171,#[pt X.Fd]))(hg:av PP false (resume g U) (cB fr cs U))(go:Taken X r γ n fr cs w):LW X r γ k (at_ .la n) g w:=by
 refine ir fun k' w₁ hk hr=>?_
 refine⟨(aU hc).1,(aU hc).2,by simp,by simp,fun s hsh hf=>⟨by simp[mv],fun d hd _=>?_⟩⟩;obtain⟨o,ho,hD⟩:=hd rfl;refine⟨(at_ .ur n,s),by simp[mv],fun _=>⟨by simp,resume g U,w₁,#[pK (.acquire (mA X))],?_,hsh,.refl _,by simp[EvStop,iX],?_⟩⟩
 .rw[hm]
  exact fv YO .acquire acx hc
 .unfold After
  rw[if_neg (by simp),hm];have:=go k' w₁ d o hr ho hD;exact aC hg this
theorem Dg {n:Nat}{fr:Frame}{cs:List Frame}{g1 g2:Goroutine}(hc:aG g=some (170,#[]))(hg1:av PP false (resume g U) g1){s d t:TypeId}(hv:aQ g1=some (.conv s d (pt X.Fd)))
  (hs:PP.underlying s=some (.pointer t)) (hd:PP.underlying d=some .unsafePointer) (ht:(PP.info? t).map (fun i=>decide (i.size=0))=some false) (hg2:av PP false (resume g1 (pt X.Fd)) g2)
  (hc2:aG g2=some (171,#[pt X.Fd])) (hg3:av PP false (resume g2 U) (cB fr cs U)) (live:∃s,ShAt X w s) (go:Taken X r γ n fr cs w):LW X r γ k (at_ .le n) g w:=by
 refine vd hm R (T':=at_ .la n) (m:= .enable) X9 (by simp) YD hc (by simp[mv]) (by simp[EvStop,iX]) (by simp) (by simp) (by simp) (by simp) (by simp) (by simp) fun k' w' hk hr=>?_
 refine aC hg1 (p9 hv hs hd ht (fun w₁ hr'=>?_) (aC hg2 ?_))
 .obtain⟨s,hs⟩:=(hr.trans X hr').live live
  exact⟨_,hs.XN⟩
 .exact QR hm R hc2 hg3 fun k w1 d o hr1=>go k w1 d o (hr.trans X hr1)
end
section
variable (F:Nat)(fr:Frame)(cs:List Frame)
theorem lD1:aG (Xg F fr cs)=some (168,#[]):=by kernel_rfl
theorem lL0 (ws:Nat->World):xO PP false 200 (gL0 F fr cs) ws=some (Xg F fr cs,(List.range (bN PP false 200 (gL0 F fr cs))).map ws):=by kernel_rfl
theorem afG (ws:Nat->World):xO PP false 200 (resume (Xg F fr cs) U) ws=some (RW F fr cs,(List.range (bN PP false 200 (resume (Xg F fr cs) U))).map ws):=by kernel_rfl
theorem lC1:aG (RW F fr cs)=some (217,#[pt F,.int .i32 0,.int .i32 1]):=by kernel_rfl
theorem afJ (ws:Nat->World):xO PP false 200 (resume (RW F fr cs) (.bool true)) ws=some (gE1 F fr cs,(List.range (bN PP false 200 (resume (RW F fr cs) (.bool true)))).map ws):=by kernel_rfl
theorem lE1:aG (gE1 F fr cs)=some (170,#[]):=by kernel_rfl
theorem afF (ws:Nat->World):xO PP false 200 (resume (gE1 F fr cs) U) ws=some (Ly F fr cs,(List.range (bN PP false 200 (resume (gE1 F fr cs) U))).map ws):=by kernel_rfl
theorem lV1:aQ (Ly F fr cs)=some (.conv (yu (Ly 0 default [])) (zu (Ly 0 default [])) (pt F)):=by kernel_rfl
theorem afB:PP.underlying (yu (Ly 0 default []))=some (.pointer (zt (Ly 0 default []))):=by kernel_rfl
theorem afC:PP.underlying (zu (Ly 0 default []))=some .unsafePointer:=by kernel_rfl
theorem afA:(PP.info? (zt (Ly 0 default []))).map (fun i=>decide (i.size=0))=some false:=by kernel_rfl
theorem afD (ws:Nat->World):xO PP false 200 (resume (Ly F fr cs) (pt F)) ws=some (gA1 F fr cs,(List.range (bN PP false 200 (resume (Ly F fr cs) (pt F)))).map ws):=by kernel_rfl
theorem lA1:aG (gA1 F fr cs)=some (171,#[pt F]):=by kernel_rfl
theorem afK (ws:Nat->World):xO PP false 6 (resume (gA1 F fr cs) U) ws=some (cB fr cs U,(List.range (bN PP false 6 (resume (gA1 F fr cs) U))).map ws):=by kernel_rfl
theorem afI (ws:Nat->World):xO PP false 200 (resume (RW F fr cs) (.bool false)) ws=some (P0 F fr cs,(List.range (bN PP false 200 (resume (RW F fr cs) (.bool false)))).map ws):=by kernel_rfl
theorem lS0:aQ (P0 F fr cs)=some (.load 21 (pt F)):=by kernel_rfl
theorem afE:(PP.funcs[(P0 F fr cs).frame.fn]?).any (·.norace)=true:=by kernel_rfl
end
def NN (F aK:Nat)(sv aw:Bool)(it old:Int)(y:Nat->Value):Array Value:=#[pt F,y 1,.int .i64 (aK:Int),.bool sv,.bool aw,.int .i64 it,.int .i32 old,y 7,y 8,y 9,y 10,y 11,y 12,y 13,y 14,y 15,y 16,y 17,y 18,y 19,y 20,y 21,y 22,y 23,y 24,y 25,y 26,y 27,y 28,y 29,y 30,y 31,y 32,y 33,y 34,y 35,y 36,y 37,y 38,y 39,y 40,y 41,y 42,y 43,y 44,y 45,y 46,y 47,y 48,y 49,y 50,y 51,y 52,y 53,y 54,y 55,y 56,y 57,y 58,y 59,y 60,y 61,y 62,y 63,y 64,y 65,y 66,y 67,y 68,y 69,y 70,y 71,y 72,y 73,y 74,y 75,y 76,y 77,y 78,y 79,y 80,y 81,y 82,y 83,y 84,y 85,y 86,y 87,y 88,y 89,y 90,y 91,y 92,y 93,y 94,y 95,y 96,y 97,y 98,y 99,y 100,y 101,y 102,y 103,y 104,y 105,y 106,y 107,y 108,y 109,y 110,y 111,y 112,y 113,y 114,y 115,y 116,y 117,y 118,y 119,y 120,y 121,y 122,y 123,y 124,y 125,y 126,y 127,y 128,y 129,y 130,y 131,y 132,y 133,y 134,y 135,y 136,y 137,y 138]
def Nm (F aK:Nat)(sv:Bool)(y:Nat->Value):Array Value:=#[pt F,y 1,.int .i64 (aK:Int),.bool sv,y 4,y 5,y 6,y 7,y 8,y 9,y 10,y 11,y 12,y 13,y 14,y 15,y 16,y 17,y 18,y 19,y 20,y 21,y 22,y 23,y 24,y 25,y 26,y 27,y 28,y 29,y 30,y 31,y 32,y 33,y 34,y 35,y 36,y 37,y 38,y 39,y 40,y 41,y 42,y 43,y 44,y 45,y 46,y 47,y 48,y 49,y 50,y 51,y 52,y 53,y 54,y 55,y 56,y 57,y 58,y 59,y 60,y 61,y 62,y 63,y 64,y 65,y 66,y 67,y 68,y 69,y 70,y 71,y 72,y 73,y 74,y 75,y 76,y 77,y 78,y 79,y 80,y 81,y 82,y 83,y 84,y 85,y 86,y 87,y 88,y 89,y 90,y 91,y 92,y 93,y 94,y 95,y 96,y 97,y 98,y 99,y 100,y 101,y 102,y 103,y 104,y 105,y 106,y 107,y 108,y 109,y 110,y 111,y 112,y 113,y 114,y 115,y 116,y 117,y 118,y 119,y 120,y 121,y 122,y 123,y 124,y 125,y 126,y 127,y 128,y 129,y 130,y 131,y 132,y 133,y 134,y 135,y 136,y 137,y 138]
def Re (F:Nat)(y:Nat->Value):Array Value:=#[pt F,y 1,y 2,y 3,y 4,y 5,y 6,y 7,y 8,y 9,y 10,y 11,y 12,y 13,y 14,y 15,y 16,y 17,y 18,y 19,y 20,y 21,y 22,y 23,y 24,y 25,y 26,y 27,y 28,y 29,y 30,y 31,y 32,y 33,y 34,y 35,y 36,y 37,y 38,y 39,y 40,y 41,y 42,y 43,y 44,y 45,y 46,y 47,y 48,y 49,y 50,y 51,y 52,y 53,y 54,y 55,y 56,y 57,y 58,y 59,y 60,y 61,y 62,y 63,y 64,y 65,y 66,y 67,y 68,y 69,y 70,y 71,y 72,y 73,y 74,y 75,y 76,y 77,y 78,y 79,y 80,y 81,y 82,y 83,y 84,y 85,y 86,y 87,y 88,y 89,y 90,y 91,y 92,y 93,y 94,y 95,y 96,y 97,y 98,y 99,y 100,y 101,y 102,y 103,y 104,y 105,y 106,y 107,y 108,y 109,y 110,y 111,y 112,y 113,y 114,y 115,y 116,y 117,y 118,y 119,y 120,y 121,y 122,y 123,y 124,y 125,y 126,y 127,y 128,y 129,y 130,y 131,y 132,y 133,y 134,y 135,y 136,y 137,y 138]
structure HH (F aK:Nat)(sv aw:Bool)(it old:Int)(tm:Array Value):Prop where
 size:tm.size=139
 s0:tm[0]? =some (pt F)
 s2:tm[2]? =some (.int .i64 (aK:Int))
 s3:tm[3]? =some (.bool sv)
 s4:tm[4]? =some (.bool aw)
 s5:tm[5]? =some (.int .i64 it)
 s6:tm[6]? =some (.int .i32 old)
structure HQ (F aK:Nat)(sv:Bool)(tm:Array Value):Prop where
 size:tm.size=139
 s0:tm[0]? =some (pt F)
 s2:tm[2]? =some (.int .i64 (aK:Int))
 s3:tm[3]? =some (.bool sv)
structure HR (F:Nat)(tm:Array Value):Prop where
 size:tm.size=139
 s0:tm[0]? =some (pt F)
theorem bZ {tm:Array Value}{i:Nat}{v:Value}(h:tm[i]? =some v):tm.getD i undef=v:=by simp[Array.getD_eq_getD_getElem?,h]
theorem slots (tm:Array Value)(h:tm.size=139):tm=#[tm.getD 0 undef,tm.getD 1 undef,tm.getD 2 undef,tm.getD 3 undef,tm.getD 4 undef,tm.getD 5 undef,tm.getD 6 undef,tm.getD 7 undef,tm.getD 8 undef,tm.getD 9 undef,tm.getD 10 undef,tm.getD 11 undef,tm.getD 12 undef,tm.getD 13 undef,tm.getD 14 undef,tm.getD 15 undef,tm.getD 16 undef,tm.getD 17 undef,tm.getD 18 undef,tm.getD 19 undef,tm.getD 20 undef,tm.getD 21 undef,tm.getD 22 undef,tm.getD 23 undef,tm.getD 24 undef,tm.getD 25 undef,tm.getD 26 undef,tm.getD 27 undef,tm.getD 28 undef,tm.getD 29 undef,tm.getD 30 undef,tm.getD 31 undef,tm.getD 32 undef,tm.getD 33 undef,tm.getD 34 undef,tm.getD 35 undef,tm.getD 36 undef,tm.getD 37 undef,tm.getD 38 undef,tm.getD 39 undef,tm.getD 40 undef,tm.getD 41 undef,tm.getD 42 undef,tm.getD 43 undef,tm.getD 44 undef,tm.getD 45 undef,tm.getD 46 undef,tm.getD 47 undef,tm.getD 48 undef,tm.getD 49 undef,tm.getD 50 undef,tm.getD 51 undef,tm.getD 52 undef,tm.getD 53 undef,tm.getD 54 undef,tm.getD 55 undef,tm.getD 56 undef,tm.getD 57 undef,tm.getD 58 undef,tm.getD 59 undef,tm.getD 60 undef,tm.getD 61 undef,tm.getD 62 undef,tm.getD 63 undef,tm.getD 64 undef,tm.getD 65 undef,tm.getD 66 undef,tm.getD 67 undef,tm.getD 68 undef,tm.getD 69 undef,tm.getD 70 undef,tm.getD 71 undef,tm.getD 72 undef,tm.getD 73 undef,tm.getD 74 undef,tm.getD 75 undef,tm.getD 76 undef,tm.getD 77 undef,tm.getD 78 undef,tm.getD 79 undef,tm.getD 80 undef,tm.getD 81 undef,tm.getD 82 undef,tm.getD 83 undef,tm.getD 84 undef,tm.getD 85 undef,tm.getD 86 undef,tm.getD 87 undef,tm.getD 88 undef,tm.getD 89 undef,tm.getD 90 undef,tm.getD 91 undef,tm.getD 92 undef,tm.getD 93 undef,tm.getD 94 undef,tm.getD 95 undef,tm.getD 96 undef,tm.getD 97 undef,tm.getD 98 undef,tm.getD 99 undef,tm.getD 100 undef,tm.getD 101 undef,tm.getD 102 undef,tm.getD 103 undef,tm.getD 104 undef,tm.getD 105 undef,tm.getD 106 undef,tm.getD 107 undef,tm.getD 108 undef,tm.getD 109 undef,tm.getD 110 undef,tm.getD 111 undef,tm.getD 112 undef,tm.getD 113 undef,tm.getD 114 undef,tm.getD 115 undef,tm.getD 116 undef,tm.getD 117 undef,tm.getD 118 undef,tm.getD 119 undef,tm.getD 120 undef,tm.getD 121 undef,tm.getD 122 undef,tm.getD 123 undef,tm.getD 124 undef,tm.getD 125 undef,tm.getD 126 undef,tm.getD 127 undef,tm.getD 128 undef,tm.getD 129 undef,tm.getD 130 undef,tm.getD 131 undef,tm.getD 132 undef,tm.getD 133 undef,tm.getD 134 undef,tm.getD 135 undef,tm.getD 136 undef,tm.getD 137 undef,tm.getD 138 undef]:=by
 have e:tm=((List.range 139).map fun i=>tm.getD i undef).toArray:=by
  apply Array.ext
  .simp[h]
  .intro i h1 h2
   simp[Array.getD_eq_getD_getElem?,h1]
 exact e.trans (by kernel_rfl)
theorem HH.eq {F aK:Nat}{sv aw:Bool}{it old:Int}{tm:Array Value}(h:HH F aK sv aw it old tm):tm=NN F aK sv aw it old fun i=>tm.getD i undef:=by
 have h1:=slots tm h.size;rw[bZ h.s0,bZ h.s2,bZ h.s3,bZ h.s4,bZ h.s5,bZ h.s6] at h1;exact h1
theorem HQ.eq {F aK:Nat}{sv:Bool}{tm:Array Value}(h:HQ F aK sv tm):tm=Nm F aK sv fun i=>tm.getD i undef:=by
 have h1:=slots tm h.size;rw[bZ h.s0,bZ h.s2,bZ h.s3] at h1;exact h1
theorem HR.eq {F:Nat}{tm:Array Value}(h:HR F tm):tm=Re F fun i=>tm.getD i undef:=by
 have h1:=slots tm h.size;rw[bZ h.s0] at h1;exact h1
theorem aO {g g':Goroutine}(n m:Nat)(h:∀ws:Nat->World,xO PP false n g ws=some (g',(List.range m).map ws)):av PP false g g':=⟨n,m,h⟩
theorem aJ {g:Goroutine}(h:∀ws:Nat->World,xO PP false 200 g ws=some (O g,(List.range (bN PP false 200 g)).map ws)):av PP false g (O g):=⟨200,_,h⟩
section
variable (F:Nat)(fr:Frame)(cs:List Frame)(aK:Nat)(it v:Int)(y:Nat->Value)
theorem Z5:∃tm,HH F 0 false false 0 v tm/\av PP false (resume (P0 F fr cs) (.int .i32 v)) (gH F fr cs tm):=
 ⟨(On 5 (resume (P0 F fr cs) (.int .i32 v))).frame.tmps,⟨by kernel_rfl,by kernel_rfl,by kernel_rfl,by kernel_rfl,by kernel_rfl,by kernel_rfl,by kernel_rfl⟩,aO 5 (bN PP false 5 (resume (P0 F fr cs) (.int .i32 v))) fun ws=>by kernel_rfl⟩
end
section
variable (F:Nat)(fr:Frame)(cs:List Frame)(aK:Nat)(it v:Int)(y:Nat->Value)
def h0:Goroutine:=gH F fr cs (NN F aK false false it 0 y)
def b0:Goroutine:=O (h0 F fr cs aK it y)
theorem abU:av PP false (h0 F fr cs aK it y) (b0 F fr cs aK it y):=aJ fun ws=>by kernel_rfl
abbrev c0:Goroutine:=b0 F fr cs aK it y
theorem XS:aG (c0 F fr cs aK it y)=some (217,#[pt F,.int .i32 0,.int .i32 1]):=by kernel_rfl
def m0:Goroutine:=O (resume (c0 F fr cs aK it y) (.bool false))
theorem QL:av PP false (resume (c0 F fr cs aK it y) (.bool false)) (m0 F fr cs aK it y):=aJ fun ws=>by kernel_rfl
theorem aaR:aQ (m0 F fr cs aK it y)=some (.load 21 (pt F)):=by kernel_rfl
theorem Vn:(PP.funcs[(m0 F fr cs aK it y).frame.fn]?).any (·.norace)=true:=by kernel_rfl
theorem aaS:∃tm,HH F aK false false it v tm/\av PP false (resume (m0 F fr cs aK it y) (.int .i32 v)) (gH F fr cs tm):=
 ⟨(On 4 (resume (m0 F fr cs aK it y) (.int .i32 v))).frame.tmps,⟨by kernel_rfl,by kernel_rfl,by kernel_rfl,by kernel_rfl,by kernel_rfl,by kernel_rfl,by kernel_rfl⟩,aO 4 (bN PP false 4 (resume (m0 F fr cs aK it y) (.int .i32 v))) fun ws=>by kernel_rfl⟩
theorem XR:∃tm,HR F tm/\av PP false (resume (c0 F fr cs aK it y) (.bool true)) (gR F fr cs tm):=
 ⟨(On 11 (resume (c0 F fr cs aK it y) (.bool true))).frame.tmps,⟨by kernel_rfl,by kernel_rfl⟩,aO 11 (bN PP false 11 (resume (c0 F fr cs aK it y) (.bool true))) fun ws=>by kernel_rfl⟩
end
section
variable (F:Nat)(fr:Frame)(cs:List Frame)(aK:Nat)(it v:Int)(y:Nat->Value)
def h1:Goroutine:=gH F fr cs (NN F aK false false it 1 y)
def b1:Goroutine:=O (h1 F fr cs aK it y)
theorem abT:av PP false (h1 F fr cs aK it y) (b1 F fr cs aK it y):=aJ fun ws=>by kernel_rfl
theorem acT:aG (b1 F fr cs aK it y)=some (221,#[.int .i64 it]):=by kernel_rfl
def c1:Goroutine:=O (resume (b1 F fr cs aK it y) (.bool false))
theorem acU:av PP false (resume (b1 F fr cs aK it y) (.bool false)) (c1 F fr cs aK it y):=aJ fun ws=>by kernel_rfl
def d1:Goroutine:=O (resume (b1 F fr cs aK it y) (.bool true))
theorem XV:av PP false (resume (b1 F fr cs aK it y) (.bool true)) (d1 F fr cs aK it y):=aJ fun ws=>by kernel_rfl
theorem acI:aG (d1 F fr cs aK it y)=some (222,#[]):=by kernel_rfl
def e1:Goroutine:=O (resume (d1 F fr cs aK it y) U)
theorem acH:av PP false (resume (d1 F fr cs aK it y) U) (e1 F fr cs aK it y):=aJ fun ws=>by kernel_rfl
theorem acF:aQ (e1 F fr cs aK it y)=some (.load 21 (pt F)):=by kernel_rfl
theorem XC:(PP.funcs[(e1 F fr cs aK it y).frame.fn]?).any (·.norace)=true:=by kernel_rfl
theorem acG:∃tm,HH F aK false false (IntKind.i64.wrap (it+1)) v tm/\av PP false (resume (e1 F fr cs aK it y) (.int .i32 v)) (gH F fr cs tm):=
 ⟨(On 4 (resume (e1 F fr cs aK it y) (.int .i32 v))).frame.tmps,⟨by kernel_rfl,by kernel_rfl,by kernel_rfl,by kernel_rfl,by kernel_rfl,by kernel_rfl,by kernel_rfl⟩,aO 4 (bN PP false 4 (resume (e1 F fr cs aK it y) (.int .i32 v))) fun ws=>by kernel_rfl⟩
theorem XQ:aG (c1 F fr cs aK it y)=some (217,#[pt F,.int .i32 1,.int .i32 9]):=by kernel_rfl
def m1:Goroutine:=O (resume (c1 F fr cs aK it y) (.bool false))
theorem QH:av PP false (resume (c1 F fr cs aK it y) (.bool false)) (m1 F fr cs aK it y):=aJ fun ws=>by kernel_rfl
theorem aaP:aQ (m1 F fr cs aK it y)=some (.load 21 (pt F)):=by kernel_rfl
theorem Vk:(PP.funcs[(m1 F fr cs aK it y).frame.fn]?).any (·.norace)=true:=by kernel_rfl
theorem aaQ:∃tm,HH F aK false false it v tm/\av PP false (resume (m1 F fr cs aK it y) (.int .i32 v)) (gH F fr cs tm):=
 ⟨(On 4 (resume (m1 F fr cs aK it y) (.int .i32 v))).frame.tmps,⟨by kernel_rfl,by kernel_rfl,by kernel_rfl,by kernel_rfl,by kernel_rfl,by kernel_rfl,by kernel_rfl⟩,aO 4 (bN PP false 4 (resume (m1 F fr cs aK it y) (.int .i32 v))) fun ws=>by kernel_rfl⟩
def n1:Goroutine:=O (resume (c1 F fr cs 0 it y) (.bool true))
theorem QJ:av PP false (resume (c1 F fr cs 0 it y) (.bool true)) (n1 F fr cs it y):=aJ fun ws=>by kernel_rfl
theorem O9:aG (n1 F fr cs it y)=some (224,#[]):=by kernel_rfl
def p1:Goroutine:=O (resume (n1 F fr cs it y) (.int .i64 (aK:Int)))
theorem aaL:av PP false (resume (n1 F fr cs it y) (.int .i64 (aK:Int))) (p1 F fr cs aK it y):=aJ fun ws=>by kernel_rfl
theorem UU:aG (p1 F fr cs aK it y)=some (225,#[pF F,.bool false,.int .i64 2]):=by kernel_rfl
theorem aag:∃tm,HQ F aK false tm/\av PP false (resume (p1 F fr cs aK it y) U) (gQ F fr cs tm):=
 ⟨(On 1 (resume (p1 F fr cs aK it y) U)).frame.tmps,⟨by kernel_rfl,by kernel_rfl,by kernel_rfl,by kernel_rfl⟩,aO 1 (bN PP false 1 (resume (p1 F fr cs aK it y) U)) fun ws=>by kernel_rfl⟩
def q1:Goroutine:=O (resume (c1 F fr cs (aK+1) it y) (.bool true))
theorem QI:av PP false (resume (c1 F fr cs (aK+1) it y) (.bool true)) (q1 F fr cs aK it y):=aJ fun ws=>by kernel_rfl
theorem UO:aG (q1 F fr cs aK it y)=some (225,#[pF F,.bool true,.int .i64 2]):=by kernel_rfl
theorem aac:∃tm,HQ F (aK+1) false tm/\av PP false (resume (q1 F fr cs aK it y) U) (gQ F fr cs tm):=
 ⟨(On 1 (resume (q1 F fr cs aK it y) U)).frame.tmps,⟨by kernel_rfl,by kernel_rfl,by kernel_rfl,by kernel_rfl⟩,aO 1 (bN PP false 1 (resume (q1 F fr cs aK it y) U)) fun ws=>by kernel_rfl⟩
end
section
variable (F:Nat)(fr:Frame)(cs:List Frame)(aK:Nat)(it v:Int)(y:Nat->Value)
def h2:Goroutine:=gH F fr cs (NN F aK false false it 2 y)
def b2:Goroutine:=O (h2 F fr cs aK it y)
theorem abS:av PP false (h2 F fr cs aK it y) (b2 F fr cs aK it y):=aJ fun ws=>by kernel_rfl
abbrev c2:Goroutine:=b2 F fr cs aK it y
theorem XP:aG (c2 F fr cs aK it y)=some (217,#[pt F,.int .i32 2,.int .i32 3]):=by kernel_rfl
def m2:Goroutine:=O (resume (c2 F fr cs aK it y) (.bool false))
theorem QG:av PP false (resume (c2 F fr cs aK it y) (.bool false)) (m2 F fr cs aK it y):=aJ fun ws=>by kernel_rfl
theorem aaN:aQ (m2 F fr cs aK it y)=some (.load 21 (pt F)):=by kernel_rfl
theorem Vj:(PP.funcs[(m2 F fr cs aK it y).frame.fn]?).any (·.norace)=true:=by kernel_rfl
theorem aaO:∃tm,HH F aK false false it v tm/\av PP false (resume (m2 F fr cs aK it y) (.int .i32 v)) (gH F fr cs tm):=
 ⟨(On 4 (resume (m2 F fr cs aK it y) (.int .i32 v))).frame.tmps,⟨by kernel_rfl,by kernel_rfl,by kernel_rfl,by kernel_rfl,by kernel_rfl,by kernel_rfl,by kernel_rfl⟩,aO 4 (bN PP false 4 (resume (m2 F fr cs aK it y) (.int .i32 v))) fun ws=>by kernel_rfl⟩
theorem XO:∃tm,HR F tm/\av PP false (resume (c2 F fr cs aK it y) (.bool true)) (gR F fr cs tm):=
 ⟨(On 11 (resume (c2 F fr cs aK it y) (.bool true))).frame.tmps,⟨by kernel_rfl,by kernel_rfl⟩,aO 11 (bN PP false 11 (resume (c2 F fr cs aK it y) (.bool true))) fun ws=>by kernel_rfl⟩
end
section
variable (F:Nat)(fr:Frame)(cs:List Frame)(aK:Nat)(it v:Int)(y:Nat->Value)
def h2a:Goroutine:=gH F fr cs (NN F aK false true it 2 y)
def b2a:Goroutine:=O (h2a F fr cs aK it y)
theorem Wv:av PP false (h2a F fr cs aK it y) (b2a F fr cs aK it y):=aJ fun ws=>by kernel_rfl
abbrev Sd:Goroutine:=b2a F fr cs aK it y
theorem QF:aG (Sd F fr cs aK it y)=some (217,#[pt F,.int .i32 2,.int .i32 1]):=by kernel_rfl
def Yk:Goroutine:=O (resume (Sd F fr cs aK it y) (.bool false))
theorem ML:av PP false (resume (Sd F fr cs aK it y) (.bool false)) (Yk F fr cs aK it y):=aJ fun ws=>by kernel_rfl
theorem Vh:aQ (Yk F fr cs aK it y)=some (.load 21 (pt F)):=by kernel_rfl
theorem Pj:(PP.funcs[(Yk F fr cs aK it y).frame.fn]?).any (·.norace)=true:=by kernel_rfl
theorem Vi:∃tm,HH F aK false true it v tm/\av PP false (resume (Yk F fr cs aK it y) (.int .i32 v)) (gH F fr cs tm):=
 ⟨(On 4 (resume (Yk F fr cs aK it y) (.int .i32 v))).frame.tmps,⟨by kernel_rfl,by kernel_rfl,by kernel_rfl,by kernel_rfl,by kernel_rfl,by kernel_rfl,by kernel_rfl⟩,aO 4 (bN PP false 4 (resume (Yk F fr cs aK it y) (.int .i32 v))) fun ws=>by kernel_rfl⟩
theorem QE:∃tm,HR F tm/\av PP false (resume (Sd F fr cs aK it y) (.bool true)) (gR F fr cs tm):=
 ⟨(On 11 (resume (Sd F fr cs aK it y) (.bool true))).frame.tmps,⟨by kernel_rfl,by kernel_rfl⟩,aO 11 (bN PP false 11 (resume (Sd F fr cs aK it y) (.bool true))) fun ws=>by kernel_rfl⟩
end
section
variable (F:Nat)(fr:Frame)(cs:List Frame)(aK:Nat)(it v:Int)(y:Nat->Value)
def abR:Goroutine:=gH F fr cs (NN F aK true true it 2 y)
def acS:Goroutine:=O (abR F fr cs aK it y)
theorem PV:av PP false (abR F fr cs aK it y) (acS F fr cs aK it y):=aJ fun ws=>by kernel_rfl
abbrev Da:Goroutine:=acS F fr cs aK it y
theorem MK:aG (Da F fr cs aK it y)=some (217,#[pt F,.int .i32 2,.int .i32 1]):=by kernel_rfl
def Ik:Goroutine:=O (resume (Da F fr cs aK it y) (.bool false))
theorem I6:av PP false (resume (Da F fr cs aK it y) (.bool false)) (Ik F fr cs aK it y):=aJ fun ws=>by kernel_rfl
theorem Ph:aQ (Ik F fr cs aK it y)=some (.load 21 (pt F)):=by kernel_rfl
theorem K1:(PP.funcs[(Ik F fr cs aK it y).frame.fn]?).any (·.norace)=true:=by kernel_rfl
theorem Pi:∃tm,HH F aK true true it v tm/\av PP false (resume (Ik F fr cs aK it y) (.int .i32 v)) (gH F fr cs tm):=
 ⟨(On 4 (resume (Ik F fr cs aK it y) (.int .i32 v))).frame.tmps,⟨by kernel_rfl,by kernel_rfl,by kernel_rfl,by kernel_rfl,by kernel_rfl,by kernel_rfl,by kernel_rfl⟩,aO 4 (bN PP false 4 (resume (Ik F fr cs aK it y) (.int .i32 v))) fun ws=>by kernel_rfl⟩
theorem MJ:∃tm,HR F tm/\av PP false (resume (Da F fr cs aK it y) (.bool true)) (gR F fr cs tm):=
 ⟨(On 11 (resume (Da F fr cs aK it y) (.bool true))).frame.tmps,⟨by kernel_rfl,by kernel_rfl⟩,aO 11 (bN PP false 11 (resume (Da F fr cs aK it y) (.bool true))) fun ws=>by kernel_rfl⟩
end
section
variable (F:Nat)(fr:Frame)(cs:List Frame)(aK:Nat)(it v:Int)(y:Nat->Value)
def h3a:Goroutine:=gH F fr cs (NN F aK false true it 3 y)
def YI:Goroutine:=O (h3a F fr cs aK it y)
theorem Wu:av PP false (h3a F fr cs aK it y) (YI F fr cs aK it y):=aJ fun ws=>by kernel_rfl
theorem XT:aG (YI F fr cs aK it y)=some (221,#[.int .i64 it]):=by kernel_rfl
def Nw:Goroutine:=O (resume (YI F fr cs aK it y) (.bool false))
theorem XU:av PP false (resume (YI F fr cs aK it y) (.bool false)) (Nw F fr cs aK it y):=aJ fun ws=>by kernel_rfl
def d3a:Goroutine:=O (resume (YI F fr cs aK it y) (.bool true))
theorem QP:av PP false (resume (YI F fr cs aK it y) (.bool true)) (d3a F fr cs aK it y):=aJ fun ws=>by kernel_rfl
theorem XF:aG (d3a F fr cs aK it y)=some (222,#[]):=by kernel_rfl
def YF:Goroutine:=O (resume (d3a F fr cs aK it y) U)
theorem XE:av PP false (resume (d3a F fr cs aK it y) U) (YF F fr cs aK it y):=aJ fun ws=>by kernel_rfl
theorem XA:aQ (YF F fr cs aK it y)=some (.load 21 (pt F)):=by kernel_rfl
theorem Qo:(PP.funcs[(YF F fr cs aK it y).frame.fn]?).any (·.norace)=true:=by kernel_rfl
theorem XB:∃tm,HH F aK false true (IntKind.i64.wrap (it+1)) v tm/\av PP false (resume (YF F fr cs aK it y) (.int .i32 v)) (gH F fr cs tm):=
 ⟨(On 4 (resume (YF F fr cs aK it y) (.int .i32 v))).frame.tmps,⟨by kernel_rfl,by kernel_rfl,by kernel_rfl,by kernel_rfl,by kernel_rfl,by kernel_rfl,by kernel_rfl⟩,aO 4 (bN PP false 4 (resume (YF F fr cs aK it y) (.int .i32 v))) fun ws=>by kernel_rfl⟩
theorem QD:aG (Nw F fr cs aK it y)=some (217,#[pt F,.int .i32 3,.int .i32 9]):=by kernel_rfl
def Yj:Goroutine:=O (resume (Nw F fr cs aK it y) (.bool false))
theorem MG:av PP false (resume (Nw F fr cs aK it y) (.bool false)) (Yj F fr cs aK it y):=aJ fun ws=>by kernel_rfl
theorem Vf:aQ (Yj F fr cs aK it y)=some (.load 21 (pt F)):=by kernel_rfl
theorem Pg:(PP.funcs[(Yj F fr cs aK it y).frame.fn]?).any (·.norace)=true:=by kernel_rfl
theorem Vg:∃tm,HH F aK false true it v tm/\av PP false (resume (Yj F fr cs aK it y) (.int .i32 v)) (gH F fr cs tm):=
 ⟨(On 4 (resume (Yj F fr cs aK it y) (.int .i32 v))).frame.tmps,⟨by kernel_rfl,by kernel_rfl,by kernel_rfl,by kernel_rfl,by kernel_rfl,by kernel_rfl,by kernel_rfl⟩,aO 4 (bN PP false 4 (resume (Yj F fr cs aK it y) (.int .i32 v))) fun ws=>by kernel_rfl⟩
def n3a:Goroutine:=O (resume (Nw F fr cs 0 it y) (.bool true))
theorem MI:av PP false (resume (Nw F fr cs 0 it y) (.bool true)) (n3a F fr cs it y):=aJ fun ws=>by kernel_rfl
theorem KT:aG (n3a F fr cs it y)=some (224,#[]):=by kernel_rfl
def p3a:Goroutine:=O (resume (n3a F fr cs it y) (.int .i64 (aK:Int)))
theorem Va:av PP false (resume (n3a F fr cs it y) (.int .i64 (aK:Int))) (p3a F fr cs aK it y):=aJ fun ws=>by kernel_rfl
theorem OO:aG (p3a F fr cs aK it y)=some (225,#[pF F,.bool false,.int .i64 2]):=by kernel_rfl
theorem UT:∃tm,HQ F aK false tm/\av PP false (resume (p3a F fr cs aK it y) U) (gQ F fr cs tm):=
 ⟨(On 1 (resume (p3a F fr cs aK it y) U)).frame.tmps,⟨by kernel_rfl,by kernel_rfl,by kernel_rfl,by kernel_rfl⟩,aO 1 (bN PP false 1 (resume (p3a F fr cs aK it y) U)) fun ws=>by kernel_rfl⟩
def q3a:Goroutine:=O (resume (Nw F fr cs (aK+1) it y) (.bool true))
theorem MH:av PP false (resume (Nw F fr cs (aK+1) it y) (.bool true)) (q3a F fr cs aK it y):=aJ fun ws=>by kernel_rfl
theorem OI:aG (q3a F fr cs aK it y)=some (225,#[pF F,.bool true,.int .i64 2]):=by kernel_rfl
theorem UN:∃tm,HQ F (aK+1) false tm/\av PP false (resume (q3a F fr cs aK it y) U) (gQ F fr cs tm):=
 ⟨(On 1 (resume (q3a F fr cs aK it y) U)).frame.tmps,⟨by kernel_rfl,by kernel_rfl,by kernel_rfl,by kernel_rfl⟩,aO 1 (bN PP false 1 (resume (q3a F fr cs aK it y) U)) fun ws=>by kernel_rfl⟩
end
section
variable (F:Nat)(fr:Frame)(cs:List Frame)(aK:Nat)(it v:Int)(y:Nat->Value)
def abQ:Goroutine:=gH F fr cs (NN F aK true true it 3 y)
def Jb:Goroutine:=O (abQ F fr cs aK it y)
theorem PU:av PP false (abQ F fr cs aK it y) (Jb F fr cs aK it y):=aJ fun ws=>by kernel_rfl
theorem QN:aG (Jb F fr cs aK it y)=some (221,#[.int .i64 it]):=by kernel_rfl
def yy:Goroutine:=O (resume (Jb F fr cs aK it y) (.bool false))
theorem QO:av PP false (resume (Jb F fr cs aK it y) (.bool false)) (yy F fr cs aK it y):=aJ fun ws=>by kernel_rfl
def Qu:Goroutine:=O (resume (Jb F fr cs aK it y) (.bool true))
theorem MR:av PP false (resume (Jb F fr cs aK it y) (.bool true)) (Qu F fr cs aK it y):=aJ fun ws=>by kernel_rfl
theorem Qt:aG (Qu F fr cs aK it y)=some (222,#[]):=by kernel_rfl
def IP:Goroutine:=O (resume (Qu F fr cs aK it y) U)
theorem Qs:av PP false (resume (Qu F fr cs aK it y) U) (IP F fr cs aK it y):=aJ fun ws=>by kernel_rfl
theorem Qm:aQ (IP F fr cs aK it y)=some (.load 21 (pt F)):=by kernel_rfl
theorem Mn:(PP.funcs[(IP F fr cs aK it y).frame.fn]?).any (·.norace)=true:=by kernel_rfl
theorem Qn:∃tm,HH F aK true true (IntKind.i64.wrap (it+1)) v tm/\av PP false (resume (IP F fr cs aK it y) (.int .i32 v)) (gH F fr cs tm):=
 ⟨(On 4 (resume (IP F fr cs aK it y) (.int .i32 v))).frame.tmps,⟨by kernel_rfl,by kernel_rfl,by kernel_rfl,by kernel_rfl,by kernel_rfl,by kernel_rfl,by kernel_rfl⟩,aO 4 (bN PP false 4 (resume (IP F fr cs aK it y) (.int .i32 v))) fun ws=>by kernel_rfl⟩
theorem MF:aG (yy F fr cs aK it y)=some (217,#[pt F,.int .i32 3,.int .i32 13]):=by kernel_rfl
def Ij:Goroutine:=O (resume (yy F fr cs aK it y) (.bool false))
theorem I3:av PP false (resume (yy F fr cs aK it y) (.bool false)) (Ij F fr cs aK it y):=aJ fun ws=>by kernel_rfl
theorem Pe:aQ (Ij F fr cs aK it y)=some (.load 21 (pt F)):=by kernel_rfl
theorem KZ:(PP.funcs[(Ij F fr cs aK it y).frame.fn]?).any (·.norace)=true:=by kernel_rfl
theorem Pf:∃tm,HH F aK true true it v tm/\av PP false (resume (Ij F fr cs aK it y) (.int .i32 v)) (gH F fr cs tm):=
 ⟨(On 4 (resume (Ij F fr cs aK it y) (.int .i32 v))).frame.tmps,⟨by kernel_rfl,by kernel_rfl,by kernel_rfl,by kernel_rfl,by kernel_rfl,by kernel_rfl,by kernel_rfl⟩,aO 4 (bN PP false 4 (resume (Ij F fr cs aK it y) (.int .i32 v))) fun ws=>by kernel_rfl⟩
def O8:Goroutine:=O (resume (yy F fr cs 0 it y) (.bool true))
theorem I5:av PP false (resume (yy F fr cs 0 it y) (.bool true)) (O8 F fr cs it y):=aJ fun ws=>by kernel_rfl
theorem Ig:aG (O8 F fr cs it y)=some (224,#[]):=by kernel_rfl
def KC:Goroutine:=O (resume (O8 F fr cs it y) (.int .i64 (aK:Int)))
theorem O7:av PP false (resume (O8 F fr cs it y) (.int .i64 (aK:Int))) (KC F fr cs aK it y):=aJ fun ws=>by kernel_rfl
theorem KB:aG (KC F fr cs aK it y)=some (225,#[pF F,.bool false,.int .i64 2]):=by kernel_rfl
theorem ON:∃tm,HQ F aK true tm/\av PP false (resume (KC F fr cs aK it y) U) (gQ F fr cs tm):=
 ⟨(On 1 (resume (KC F fr cs aK it y) U)).frame.tmps,⟨by kernel_rfl,by kernel_rfl,by kernel_rfl,by kernel_rfl⟩,aO 1 (bN PP false 1 (resume (KC F fr cs aK it y) U)) fun ws=>by kernel_rfl⟩
def Ku:Goroutine:=O (resume (yy F fr cs (aK+1) it y) (.bool true))
theorem I4:av PP false (resume (yy F fr cs (aK+1) it y) (.bool true)) (Ku F fr cs aK it y):=aJ fun ws=>by kernel_rfl
theorem Kt:aG (Ku F fr cs aK it y)=some (225,#[pF F,.bool true,.int .i64 2]):=by kernel_rfl
theorem OH:∃tm,HQ F (aK+1) true tm/\av PP false (resume (Ku F fr cs aK it y) U) (gQ F fr cs tm):=
 ⟨(On 1 (resume (Ku F fr cs aK it y) U)).frame.tmps,⟨by kernel_rfl,by kernel_rfl,by kernel_rfl,by kernel_rfl⟩,aO 1 (bN PP false 1 (resume (Ku F fr cs aK it y) U)) fun ws=>by kernel_rfl⟩
end
section
variable (F:Nat)(fr:Frame)(cs:List Frame)(aK:Nat)(it v:Int)(y:Nat->Value)
def h12:Goroutine:=gH F fr cs (NN F aK false false it 12 y)
def b12:Goroutine:=O (h12 F fr cs aK it y)
theorem Ww:av PP false (h12 F fr cs aK it y) (b12 F fr cs aK it y):=aJ fun ws=>by kernel_rfl
abbrev c12:Goroutine:=b12 F fr cs aK it y
theorem QK:aG (c12 F fr cs aK it y)=some (217,#[pt F,.int .i32 12,.int .i32 20]):=by kernel_rfl
def m12:Goroutine:=O (resume (c12 F fr cs aK it y) (.bool false))
theorem MM:av PP false (resume (c12 F fr cs aK it y) (.bool false)) (m12 F fr cs aK it y):=aJ fun ws=>by kernel_rfl
theorem Vl:aQ (m12 F fr cs aK it y)=some (.load 21 (pt F)):=by kernel_rfl
theorem Pk:(PP.funcs[(m12 F fr cs aK it y).frame.fn]?).any (·.norace)=true:=by kernel_rfl
theorem Vm:∃tm,HH F aK false false it v tm/\av PP false (resume (m12 F fr cs aK it y) (.int .i32 v)) (gH F fr cs tm):=
 ⟨(On 4 (resume (m12 F fr cs aK it y) (.int .i32 v))).frame.tmps,⟨by kernel_rfl,by kernel_rfl,by kernel_rfl,by kernel_rfl,by kernel_rfl,by kernel_rfl,by kernel_rfl⟩,aO 4 (bN PP false 4 (resume (m12 F fr cs aK it y) (.int .i32 v))) fun ws=>by kernel_rfl⟩
def n12:Goroutine:=O (resume (c12 F fr cs 0 it y) (.bool true))
theorem MO:av PP false (resume (c12 F fr cs 0 it y) (.bool true)) (n12 F fr cs it y):=aJ fun ws=>by kernel_rfl
theorem KU:aG (n12 F fr cs it y)=some (224,#[]):=by kernel_rfl
def p12:Goroutine:=O (resume (n12 F fr cs it y) (.int .i64 (aK:Int)))
theorem Vb:av PP false (resume (n12 F fr cs it y) (.int .i64 (aK:Int))) (p12 F fr cs aK it y):=aJ fun ws=>by kernel_rfl
theorem OP:aG (p12 F fr cs aK it y)=some (225,#[pF F,.bool false,.int .i64 2]):=by kernel_rfl
theorem UV:∃tm,HQ F aK false tm/\av PP false (resume (p12 F fr cs aK it y) U) (gQ F fr cs tm):=
 ⟨(On 1 (resume (p12 F fr cs aK it y) U)).frame.tmps,⟨by kernel_rfl,by kernel_rfl,by kernel_rfl,by kernel_rfl⟩,aO 1 (bN PP false 1 (resume (p12 F fr cs aK it y) U)) fun ws=>by kernel_rfl⟩
def q12:Goroutine:=O (resume (c12 F fr cs (aK+1) it y) (.bool true))
theorem MN:av PP false (resume (c12 F fr cs (aK+1) it y) (.bool true)) (q12 F fr cs aK it y):=aJ fun ws=>by kernel_rfl
theorem OJ:aG (q12 F fr cs aK it y)=some (225,#[pF F,.bool true,.int .i64 2]):=by kernel_rfl
theorem UP:∃tm,HQ F (aK+1) false tm/\av PP false (resume (q12 F fr cs aK it y) U) (gQ F fr cs tm):=
 ⟨(On 1 (resume (q12 F fr cs aK it y) U)).frame.tmps,⟨by kernel_rfl,by kernel_rfl,by kernel_rfl,by kernel_rfl⟩,aO 1 (bN PP false 1 (resume (q12 F fr cs aK it y) U)) fun ws=>by kernel_rfl⟩
end
section
variable (F:Nat)(fr:Frame)(cs:List Frame)(aK:Nat)(it v:Int)(y:Nat->Value)
def qF:Goroutine:=O (gQ F fr cs (Nm F aK false y))
theorem Z8:av PP false (gQ F fr cs (Nm F aK false y)) (qF F fr cs aK y):=aJ fun ws=>by kernel_rfl
theorem OG:aG (qF F fr cs aK y)=some (224,#[]):=by kernel_rfl
def late (m:Nat):Bool:=match((On 6 (resume (qF F fr cs aK y) (.int .i64 (m:Int)))).frame.tmps[3]? :Option Value) with|some (.bool b)=>b|_=>false
theorem Z7 (m:Nat):∃tm,HQ F aK (late F fr cs aK y m) tm/\av PP false (resume (qF F fr cs aK y) (.int .i64 (m:Int))) (gN F fr cs tm):=
 ⟨(On 6 (resume (qF F fr cs aK y) (.int .i64 (m:Int)))).frame.tmps,⟨by kernel_rfl,by kernel_rfl,by kernel_rfl,by kernel_rfl⟩,aO 6 (bN PP false 6 (resume (qF F fr cs aK y) (.int .i64 (m:Int)))) fun ws=>by kernel_rfl⟩
theorem Z6:∃tm,HQ F aK true tm/\av PP false (gQ F fr cs (Nm F aK true y)) (gN F fr cs tm):=
 ⟨(On 11 (gQ F fr cs (Nm F aK true y))).frame.tmps,⟨by kernel_rfl,by kernel_rfl,by kernel_rfl,by kernel_rfl⟩,aO 11 (bN PP false 11 (gQ F fr cs (Nm F aK true y))) fun ws=>by kernel_rfl⟩
def f:Goroutine:=O (gN F fr cs (Nm F aK false y))
theorem agM:av PP false (gN F fr cs (Nm F aK false y)) (f F fr cs aK y):=aJ fun ws=>by kernel_rfl
theorem agL:aQ (f F fr cs aK y)=some (.load 21 (pt F)):=by kernel_rfl
theorem acm:(PP.funcs[(f F fr cs aK y).frame.fn]?).any (·.norace)=true:=by kernel_rfl
theorem f_2:∃tm,HH F aK false true 0 2 tm/\av PP false (resume (f F fr cs aK y) (.int .i32 2)) (gH F fr cs tm):=
 ⟨(On 20 (resume (f F fr cs aK y) (.int .i32 2))).frame.tmps,⟨by kernel_rfl,by kernel_rfl,by kernel_rfl,by kernel_rfl,by kernel_rfl,by kernel_rfl,by kernel_rfl⟩,aO 20 (bN PP false 20 (resume (f F fr cs aK y) (.int .i32 2))) fun ws=>by kernel_rfl⟩
theorem f_3:∃tm,HH F aK false true 0 3 tm/\av PP false (resume (f F fr cs aK y) (.int .i32 3)) (gH F fr cs tm):=
 ⟨(On 20 (resume (f F fr cs aK y) (.int .i32 3))).frame.tmps,⟨by kernel_rfl,by kernel_rfl,by kernel_rfl,by kernel_rfl,by kernel_rfl,by kernel_rfl,by kernel_rfl⟩,aO 20 (bN PP false 20 (resume (f F fr cs aK y) (.int .i32 3))) fun ws=>by kernel_rfl⟩
def j12:Goroutine:=O (resume (f F fr cs aK y) (.int .i32 12))
theorem agO:av PP false (resume (f F fr cs aK y) (.int .i32 12)) (j12 F fr cs aK y):=aJ fun ws=>by kernel_rfl
theorem PA:aG (j12 F fr cs aK y)=some (219,#[pt F,.int .i32 (-11)]):=by kernel_rfl
theorem V2:∃tm,HR F tm/\av PP false (resume (j12 F fr cs aK y) (.int .i32 v)) (gR F fr cs tm):=
 ⟨(On 2 (resume (j12 F fr cs aK y) (.int .i32 v))).frame.tmps,⟨by kernel_rfl,by kernel_rfl⟩,aO 2 (bN PP false 2 (resume (j12 F fr cs aK y) (.int .i32 v))) fun ws=>by kernel_rfl⟩
def j20:Goroutine:=O (resume (f F fr cs aK y) (.int .i32 20))
theorem agN:av PP false (resume (f F fr cs aK y) (.int .i32 20)) (j20 F fr cs aK y):=aJ fun ws=>by kernel_rfl
theorem Pz:aG (j20 F fr cs aK y)=some (219,#[pt F,.int .i32 (-11)]):=by kernel_rfl
theorem V1:∃tm,HR F tm/\av PP false (resume (j20 F fr cs aK y) (.int .i32 v)) (gR F fr cs tm):=
 ⟨(On 2 (resume (j20 F fr cs aK y) (.int .i32 v))).frame.tmps,⟨by kernel_rfl,by kernel_rfl⟩,aO 2 (bN PP false 2 (resume (j20 F fr cs aK y) (.int .i32 v))) fun ws=>by kernel_rfl⟩
def fs:Goroutine:=O (gN F fr cs (Nm F aK true y))
theorem ace:av PP false (gN F fr cs (Nm F aK true y)) (fs F fr cs aK y):=aJ fun ws=>by kernel_rfl
theorem acd:aQ (fs F fr cs aK y)=some (.load 21 (pt F)):=by kernel_rfl
theorem Xh:(PP.funcs[(fs F fr cs aK y).frame.fn]?).any (·.norace)=true:=by kernel_rfl
theorem agF:∃tm,HH F aK true true 0 2 tm/\av PP false (resume (fs F fr cs aK y) (.int .i32 2)) (gH F fr cs tm):=
 ⟨(On 20 (resume (fs F fr cs aK y) (.int .i32 2))).frame.tmps,⟨by kernel_rfl,by kernel_rfl,by kernel_rfl,by kernel_rfl,by kernel_rfl,by kernel_rfl,by kernel_rfl⟩,aO 20 (bN PP false 20 (resume (fs F fr cs aK y) (.int .i32 2))) fun ws=>by kernel_rfl⟩
theorem agE:∃tm,HH F aK true true 0 3 tm/\av PP false (resume (fs F fr cs aK y) (.int .i32 3)) (gH F fr cs tm):=
 ⟨(On 20 (resume (fs F fr cs aK y) (.int .i32 3))).frame.tmps,⟨by kernel_rfl,by kernel_rfl,by kernel_rfl,by kernel_rfl,by kernel_rfl,by kernel_rfl,by kernel_rfl⟩,aO 20 (bN PP false 20 (resume (fs F fr cs aK y) (.int .i32 3))) fun ws=>by kernel_rfl⟩
def La:Goroutine:=O (resume (fs F fr cs aK y) (.int .i32 12))
theorem acg:av PP false (resume (fs F fr cs aK y) (.int .i32 12)) (La F fr cs aK y):=aJ fun ws=>by kernel_rfl
theorem K9:aG (La F fr cs aK y)=some (219,#[pt F,.int .i32 (-11)]):=by kernel_rfl
theorem Py:∃tm,HR F tm/\av PP false (resume (La F fr cs aK y) (.int .i32 v)) (gR F fr cs tm):=
 ⟨(On 2 (resume (La F fr cs aK y) (.int .i32 v))).frame.tmps,⟨by kernel_rfl,by kernel_rfl⟩,aO 2 (bN PP false 2 (resume (La F fr cs aK y) (.int .i32 v))) fun ws=>by kernel_rfl⟩
def K8:Goroutine:=O (resume (fs F fr cs aK y) (.int .i32 20))
theorem acf:av PP false (resume (fs F fr cs aK y) (.int .i32 20)) (K8 F fr cs aK y):=aJ fun ws=>by kernel_rfl
theorem K7:aG (K8 F fr cs aK y)=some (219,#[pt F,.int .i32 (-7)]):=by kernel_rfl
theorem Px:∃tm,HR F tm/\av PP false (resume (K8 F fr cs aK y) (.int .i32 v)) (gR F fr cs tm):=
 ⟨(On 2 (resume (K8 F fr cs aK y) (.int .i32 v))).frame.tmps,⟨by kernel_rfl,by kernel_rfl⟩,aO 2 (bN PP false 2 (resume (K8 F fr cs aK y) (.int .i32 v))) fun ws=>by kernel_rfl⟩
end
section
variable (F:Nat)(fr:Frame)(cs:List Frame)(aK:Nat)(it v:Int)(y:Nat->Value)
def rE:Goroutine:=O (gR F fr cs (Re F y))
theorem Z3:av PP false (gR F fr cs (Re F y)) (rE F fr cs y):=aJ fun ws=>by kernel_rfl
theorem Z2:aG (rE F fr cs y)=some (170,#[]):=by kernel_rfl
def rV:Goroutine:=O (resume (rE F fr cs y) U)
theorem Z1:av PP false (resume (rE F fr cs y) U) (rV F fr cs y):=aJ fun ws=>by kernel_rfl
theorem Z0:aQ (rV F fr cs y)=some (.conv (yu (rV 0 default [] fun _=>undef)) (zu (rV 0 default [] fun _=>undef)) (pt F)):=by kernel_rfl
theorem afh:PP.underlying (yu (rV 0 default [] fun _=>undef))=some (.pointer (zt (rV 0 default [] fun _=>undef))):=by kernel_rfl
theorem afi:PP.underlying (zu (rV 0 default [] fun _=>undef))=some .unsafePointer:=by kernel_rfl
theorem afg:(PP.info? (zt (rV 0 default [] fun _=>undef))).map (fun i=>decide (i.size=0))=some false:=by kernel_rfl
def rA:Goroutine:=O (resume (rV F fr cs y) (pt F))
theorem ZZ:av PP false (resume (rV F fr cs y) (pt F)) (rA F fr cs y):=aJ fun ws=>by kernel_rfl
theorem UH:aG (rA F fr cs y)=some (171,#[pt F]):=by kernel_rfl
theorem Z4:av PP false (resume (rA F fr cs y) U) (cB fr cs U):=aO 9 (bN PP false 9 (resume (rA F fr cs y) U)) fun ws=>by kernel_rfl
end
end aI
end
end
end Go.Proofs.YtchcmhodnkgojaaGreat
