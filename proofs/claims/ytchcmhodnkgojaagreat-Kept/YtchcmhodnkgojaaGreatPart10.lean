/- On the way to the last text; put together and shortened by program. -/
import Derived.Test.YtchcmhodnkgojaaGreatPart9
import Derived.Handy
import Derived.Lib.AppendStr
import Derived.Sort.Walk0
import Derived.Laws.ResultCell
import Derived.BigQuiet
set_option linter.all false
set_option maxRecDepth 100000
set_option maxHeartbeats 8000000
namespace Go.Proofs.YtchcmhodnkgojaaGreat
noncomputable section
section
open Go.RowKit Go.Lib Go.Sort
structure eM (S:List Nat)(w w':World):Prop where
 os:w'.os=w.os
 size:w.heap.size<=w'.heap.size
 block:∀k,k<w.heap.size->k∉S->w'.heap[k]? =w.heap[k]?
theorem aO.blk {S:List Nat}{w w':World}(h:aO S w w'):eM S w w':=⟨h.os,h.size,h.block⟩
theorem eM.refl (S:List Nat)(w:World):eM S w w:=⟨rfl,Nat.le_refl _,fun _ _ _=>rfl⟩
theorem eM.tape {S:List Nat}{w w':World}(h:eM S w w')(t:Go.Proofs.YtchcmhodnkgojaaGreat.dU)(d:Nat):eM S w (ax w' t d):=⟨h.os,h.size,h.block⟩
theorem eM.trans {S T:List Nat}{w w' w'':World}(h:eM S w w')(h':eM T w' w'')(hs:∀i∈T,i∈S\/w.heap.size<=i:=by simp):eM S w w'':=
 ⟨h'.os.trans h.os,Nat.le_trans h.size h'.size,fun k hk hS=>(h'.block k (Nat.lt_of_lt_of_le hk h.size) fun x=>(hs k x).elim hS fun q=>by omega).trans (h.block k hk hS)⟩
theorem eM.mono {S T:List Nat}{w w':World}(h:eM S w w')(hs:∀i∈S,i∈T\/w.heap.size<=i:=by simp):eM T w w':=⟨h.os,h.size,fun k hk hT=>h.block k hk fun x=>(hs k x).elim hT fun q=>by omega⟩
namespace aH
namespace Sq
theorem sO {E:az.Env}{f:FuncId}{k:List Item}{R:Act->World->Prop}{a:Act}{wL:World}(a':Act)(e:a=a')(h:az.CI E f k R a' wL):az.CI E f k R a wL:=e▸h
def GN (f:ByteArray->Option Value)(wL:World)(v:Value)(w':World):Prop:=∃ps:List (List UInt8),ps.Pairwise (·<=·)/\ps.Nodup/\(∀l,l∈ps↔f (aB l)≠none)/\eM [] wL w'/\
 ((v= .slice none 0 0/\ps=[])\/∃g cap,v= .slice (some ⟨g,0,none⟩) ps.length cap/\wL.heap.size<=g/\g<w'.heap.size/\Holds encStr w' g 0 ps.toArray)
theorem Jh {E:az.Env}{wL:World}{bx:Nat}{f:ByteArray->Option Value}{es:Array MapEntry}(h:az.CC E 134 #[mB bx] (Jx f wL) wL)(hes:∀ks:List ByteArray,ks.Nodup->(∀s,s∈ks↔f s≠none)->ks.length<1000000):
  az.CC E 89 #[mB bx] (GN f wL) wL:=by
 refine az.mg Tryz.func89 rfl ?_;refine az.eE (az.dR (eU _ rfl (.inl rfl) rfl (az.cF ?_)));refine az.eE (az.dR (eU _ rfl (.inr rfl) rfl ?_));refine kM (f2:=134) #[.tmp 4] #[mB bx] (R2:=Jx f wL) rfl rfl (by kernel_rfl) (fun b w=>by kernel_rfl) (by kernel_rfl) h fun v w1 hR hsz=>?_
 refine eU _ rfl (.inl rfl) rfl (az.cF ?_);refine sO {tmps:=#[mB bx,undef,.slice none 0 0,v,mB bx,v,undef,undef,undef],defers:=[]} (by kernel_rfl) ?_;obtain⟨ks,hn,hmem,hv⟩:=hR;have hlen:=hes ks hn hmem;rcases hv with⟨rfl,rfl,t,d,rfl⟩|⟨cap,rfl,hle,t,d,rfl⟩
 .refine az.fg none ⟨_,Tryz.func89⟩ (by kernel_rfl) (by simp) (fun w=>eM [] wL w) (fun w t d h=>h.tape t d) ((eM.refl _ _).tape t d) fun w hI hs=>?_
  go_wp2_with fail;refine(Tryz.slices_Sort_string_none none 0 w).mono ?_;rintro e w6 ⟨rfl,rfl⟩;go_wp2_with fail;exact⟨w6.tape,w6.drawn,.slice none 0 0,by kernel_rfl,[],.nil,.nil,fun l=>by rw[<-hmem];simp,hI,.inl ⟨rfl,rfl⟩⟩
 .obtain⟨qs,hqs⟩:∃qs:List (List UInt8),qs=ks.map fun k=>k.data.toList:=⟨_,rfl⟩
  have hql:qs.length=ks.length:=by rw[hqs];simp
  have hqv:ks.map Value.string=qs.map encStr:=by
   rw[hqs,List.map_map];refine List.map_congr_left fun k _=>?_
   simp[encStr]
  have hqm:∀l,l∈qs↔f (aB l)≠none:=fun l=>by
   rw[hqs,List.mem_map,<-hmem];constructor
   .rintro⟨k,hk,rfl⟩
    simpa [aB] using hk
   .intro hl
    exact⟨aB l,hl,by simp[aB]⟩
  have hqn:qs.Nodup:=by
   rw[hqs];refine List.Pairwise.map _ (fun a b hab he=>hab ?_) hn;have:a.data=b.data:=Array.ext' he;cases a;cases b;simp_all
  have hlt:qs.length<4611686018427387904:=by omega
  rw[<-hql,hqv];clear hqv hql hlen hqs hmem hn;refine az.fg none ⟨_,Tryz.func89⟩ (by kernel_rfl) (by simp) (fun w=>eM [] wL w/\wL.heap.size<w.heap.size/\Holds encStr w wL.heap.size 0 qs.toArray) (fun w t d h=>⟨h.1.tape t d,h.2.1,h.2.2⟩) ⟨?_,?_,?_⟩ fun w hI hs=>?_
  .exact⟨rfl,by simp[ax],fun k hk _=>by show(wL.heap.push _)[k]? =_;rw[Array.getElem?_push_lt hk];exact(Array.getElem?_eq_getElem hk).symm⟩
  .show wL.heap.size<(wL.heap.push _).size
   simp
  .intro j hj
   have hj':j<qs.length:=by simpa using hj
   have hrow:(ax {wL with heap:=wL.heap.push (.cells (qs.map encStr++List.replicate (cap-qs.length) (Value.string ⟨#[]⟩)).toArray aH.jI (0,0))} t d).heap[wL.heap.size]? =some (.cells (qs.map encStr++List.replicate (cap-qs.length) (Value.string ⟨#[]⟩)).toArray aH.jI (0,0)):=by
    show(wL.heap.push _)[wL.heap.size]? =_;simp
   refine⟨?_,Lib.frozen_of_heap hrow _⟩;rw[Lib.cell_of_heap hrow,Nat.zero_add];rw[List.getElem?_toArray,List.getElem?_append_left (by simpa using hj'),getElem!_pos qs.toArray j hj];simp[hj']
  obtain⟨hB,hg,hH⟩:=hI;generalize hgg:wL.heap.size=g at*;go_wp2_with fail;refine(Tryz.slices_Sort_string g 0 cap qs w hH hg hlt).mono ?_;rintro e w6 ⟨rfl,m,os,NQ⟩;have hsl:(qs.mergeSort fun x y=>decide (x<=y)).length=qs.length:=List.length_mergeSort _;have hH6:Holds encStr w6 g 0 (qs.mergeSort fun x y=>decide (x<=y)).toArray:=by
   rw[NQ];exact holds_grow _ _ _ _ _ _ (by rw[size_putRow];exact hg) (holds_putRow _ _ _ _ _ _ (holds_ahead _ _ _ _ _ _ hH) (by simp))
  have f6:aO [g] w w6:=by
   rw[NQ];exact(((oX w m).mono (T:=[g]) (by simp)).trans (mO encStr _ g 0 _) (fun i hi=> .inl hi)).trans (wQ _ _)
  have B6:eM [] wL w6:=hB.trans f6.blk (by simp[hgg]);have hg6:g<w6.heap.size:=Nat.lt_of_lt_of_le hg f6.size;have hp:(qs.mergeSort fun x y=>decide (x<=y)).Pairwise (·<=·):=yQ;have hn6:(qs.mergeSort fun x y=>decide (x<=y)).Nodup:=(List.mergeSort_perm _ _).nodup_iff.2 hqn;have hm6:∀l,l∈(qs.mergeSort fun x y=>decide (x<=y))↔f (aB l)≠none:=fun l=>by rw[List.mem_mergeSort];exact hqm l
  clear NQ f6 hH hB hs;generalize (qs.mergeSort fun x y=>decide (x<=y))=rs at*;go_wp2_with fail;exact⟨w6.tape,w6.drawn,.slice (some ⟨g,0,none⟩) qs.length cap,by kernel_rfl,rs,hp,hn6,hm6,B6,.inr ⟨g,cap,by rw[hsl],by rw[hgg];exact Nat.le_refl _,hg6,hH6⟩⟩
end Sq
end aH
end
section
open Go.RowKit Go.Lib
def kh (a b:Option (Bool×ByteArray)):Option Nat:=match a,b with
 |none,_=>some 1
 |some _,none=>some 0
 |some x,some y=>if x=y then some 0 else none
section
variable {P:Program}{ops:Array Oper}{Q:Exit->Act->World->Prop}{a:Act}{w:World}{rest:List Oper}{o:Oper}
theorem Fx (hw:Region.wanted o (yielded ops a.tmps)=true)(v:Value)(w1:World)(hr:(execOp a.eval o).run P w= .ok (.value v) w1)(h:wpList P ops Q rest (a.put o.dst v) w1):wpList P ops Q (o::rest) a w:=by
 unfold wpList;rw[if_pos hw];refine .inl ?_;unfold Oper.wp;rw[hr];exact h
end
theorem Hf (xb yb:Bool)(xs ys:ByteArray):kh (some (xb,xs)) (some (yb,ys))=if(xb==yb&&xs==ys)=true then some 0 else none:=by
 have e:((xb==yb&&xs==ys)=true)↔(xb,xs)=(yb,ys):=by rw[Bool.and_eq_true,beq_iff_eq,Go.MapKept.bytes_beq,Prod.mk.injEq]
 show(if(xb,xs)=(yb,ys) then some 0 else none)=_
 by_cases h:(xb,xs)=(yb,ys)
 .rw[if_pos h,if_pos (e.2 h)]
 .rw[if_neg h,if_neg fun q=>h (e.1 q)]
theorem OX {w:World}(b1 b2:Bool)(s1 s2:ByteArray):aH.RT (kP.bin .eql aH.TH (aH.hv b1 s1) (aH.hv b2 s2)).sem w (.value (.bool (b1==b2&&s1==s2))) w #[]:=by
 have hg:Tryz.prog.eqGuardType Tryz.prog.depth aH.TH=false:=by kernel_rfl
 refine aH.RT.aN (x:= .bool (b1==b2&&s1==s2)) (aH.RT.aN (x:=()) (w1:=w) ?_ ?_) (.pure _)
 .unfold eqGuard
  simp only[aH.hv];refine aH.fH.aN (aH.fH.aN ?_);rw[hg];exact .pure _
 .exact aH.RT.aN (aH.yV 9998 b1 b2 s1 s2) (.pure _)
section
variable {ops:Array Oper}{Q:Exit->Act->World->Prop}{a:Act}{w:World}{rest:List Oper}{o:Oper}
theorem N6 (hw:Region.wanted o (yielded ops a.tmps)=true)(x y:Nat)(u:TypeId)(ho:o.op= .binOp .eql aH.TH (.tmp x) (.tmp y) u){b1 b2:Bool}{s1 s2:ByteArray}(hx:a.eval (.tmp x)=aH.hv b1 s1)(hy:a.eval (.tmp y)=aH.hv b2 s2)
  (h:wpList Tryz.prog ops Q rest (a.put o.dst (.bool (b1==b2&&s1==s2))) w):wpList Tryz.prog ops Q (o::rest) a w:=by
 refine Fx hw _ w ?_ h;have:=(OX (w:=w) b1 b2 s1 s2).run;unfold execOp;rw[ho];show(do pure (.value (<-(do eqGuard .eql aH.TH (.tmp x) (.tmp y) (a.eval (.tmp x)) (a.eval (.tmp y));binOp .eql aH.TH (a.eval (.tmp x)) (a.eval (.tmp y))))):Sem Next).run _ _=_;rw[hx,hy,ou _ _ _ _ rfl rfl];exact this
theorem A9 (hw:Region.wanted o (yielded ops a.tmps)=true)(t:TypeId)(x:Operand)(ho:o.op= .load t x)(b off:Nat)(hx:a.eval x= .pointer (some ⟨b,off,none⟩)){cs:Array Value}{u:TypeId}{f:Nat×Nat}{n:Nat}(hr:w.heap[b]? =some (.cells cs u f))
  (ha:(Tryz.prog.underlying t).map (fun d=>match d with|.struct _|.array _ _=>true|_=>false)=some true) (hn:(Tryz.prog.info? t).map (·.size)=some n) (hle:off+n<=cs.size) (v:Value) (hv:Value.agg (cs.extract off (off+n))=v)
  (h:wpList Tryz.prog ops Q rest (a.put o.dst v) w):wpList Tryz.prog ops Q (o::rest) a w:=by
 obtain⟨ev,h1,_⟩:=aH.jC hr ha hn hle;rw[hv] at h1;refine Fx hw _ w ?_ h;have:=h1.run;unfold execOp;rw[ho];show(do pure (.value (<-Instr.loadAt t (a.eval x))):Sem Next).run _ _=_;rw[hx];exact this
end
theorem DR (a b:Option (Bool×ByteArray))(w:World):
  Calls Tryz.prog 91 #[.agg (aH.bV a b)] w fun e w'=>e= .returned (.tuple #[.int .i64 ((kh a b).getD 0),.bool (kh a b).isSome])/\aO [] w w':=by
 go_enter Tryz.func91,Tryz.ntmps91;go_wp2_with (with_reducible first|refine bK rfl ?_);refine al.go (ii rfl 164 _ rfl (.agg (aH.bV a b)) rfl ?_);intro w1 b1 l1 f1 r1;have c0:w1.cell? ⟨b1,0,none⟩=some (.bool a.isSome):=by rw[r1.cell];rfl
 have c1:w1.cell? ⟨b1,1,none⟩=some (.bool b.isSome):=by rw[r1.cell];rfl
 cases a with
 |none=>
  simp only[Option.isSome_none] at c0;go_wp2_with (with_reducible first|refine av 161 rfl ?_|refine ei 161 rfl ?_)
  go_ret2
  exact⟨rfl,f1⟩
 |some x=>
  simp only[Option.isSome_some] at c0;cases b with
  |none=>
   simp only[Option.isSome_none] at c1;go_wp2_with (with_reducible first|refine av 161 rfl ?_|refine ei 161 rfl ?_)
   go_ret2
   exact⟨rfl,f1⟩
  |some y=>
   simp only[Option.isSome_some] at c1;go_wp2_with (with_reducible first|refine av 161 rfl ?_|refine ei 161 rfl ?_);obtain⟨xb,xs⟩:=x;obtain⟨yb,ys⟩:=y;refine al.go (A9 rfl 161 _ rfl b1 2 rfl r1 (by kernel_rfl) (n:=2) (by kernel_rfl) (by simp[aH.bV,Value.cells]) (aH.hv xb xs) (by simp[aH.bV,Value.cells,aH.hv]) ?_)
   go_wp2_with (with_reducible first|refine av 161 rfl ?_|refine ei 161 rfl ?_);refine al.go (A9 rfl 161 _ rfl b1 4 rfl r1 (by kernel_rfl) (n:=2) (by kernel_rfl) (by simp[aH.bV,Value.cells]) (aH.hv yb ys) (by simp[aH.bV,Value.cells,aH.hv]) ?_);go_wp2_with (with_reducible first|refine av 161 rfl ?_|refine ei 161 rfl ?_)
   refine al.go (N6 rfl 15 18 _ rfl (b1:=xb) (b2:=yb) (s1:=xs) (s2:=ys) rfl rfl ?_);have hsrc:=Hf xb yb xs ys;cases heq:(xb==yb&&xs==ys) with
   |true=>
    have hs:Hid (kh (some (xb,xs)) (some (yb,ys))=some 0):=by show _=_;rw[hsrc,heq];rfl
    clear hsrc;go_wp2_with (with_reducible first|refine av 161 rfl ?_|refine ei 161 rfl ?_)
    go_ret2
    exact⟨by rw[hs.out];rfl,f1⟩
   |false=>
    have hs:Hid (kh (some (xb,xs)) (some (yb,ys))=none):=by show _=_;rw[hsrc,heq];rfl
    clear hsrc;go_wp2_with (with_reducible first|refine av 161 rfl ?_|refine ei 161 rfl ?_)
    go_ret2
    exact⟨by rw[hs.out];rfl,f1⟩
end
section
open Go.RowKit Go.Lib Go.Sort
open Go.Conc (base G stepG_value listed)
namespace aH
namespace Sq
abbrev Sy:Nat:=90
def SO (m:Nat)(wL:World)(v:Value)(w':World):Prop:=v=mB wL.heap.size/\∃t d,w'=ax {wL with heap:=wL.heap.push (.cells #[.map (some m)] NB (0,0))} t d
theorem mS {E:az.Env}{f:FuncId}{k:List Item}{R:Act->World->Prop}{a:Act}{wL w1:World}{ops:Array Oper}{i:Nat}{rest:List Nat}{o:Oper}(v:Value)(ho:ops[i]? =some o)(hg:o.guard=none)(hr:∀t d,(execOp a.eval o).run PP (ax wL t d)= .ok (.value v) (ax w1 t d))(h:az.CI E f (.inRegion ops rest::k) R (a.put o.dst v) w1)(rW:lK PP S0 E0 true o=true:=by kernel_rfl):az.CI E f (.inRegion ops (i::rest)::k) R a wL:=by
 refine az.SC ho rW hg fun t d=>?_
 rw[hr];exact(az.mT t d).2 h
theorem Dj {E:az.Env}{f:FuncId}{k:List Item}{R:Act->World->Prop}{a:Act}{wL:World}{ops:Array Oper}{i:Nat}{rest:List Nat}{o:Oper}(g j:Nat)(ho:ops[i]? =some o)(hg:o.guard=none)(hop:o.op= .makeFunc (.func g) #[] #[.tmp j])
  (h:az.CI E f (.inRegion ops rest::k) R (a.put o.dst (.func (.func g) #[] #[a.eval (.tmp j)])) wL):az.CI E f (.inRegion ops (i::rest)::k) R a wL:=fun CS π M tr hp ha hd hk=>by
 have hwd:∀c:Array Value,Region.wanted o (yielded ops c)=true:=fun c=>by simp[Region.wanted,hg]
 have hkb:(base f).kind≠.early:=by simp[base]
 have hv:VV (gh E.H wL) (a.eval (.tmp j)):=lp (x:= .tmp j) ha rfl;have hr:∀w es,(execOp (bg π a []).eval o).runT PP w es=(.ok (.value (.func (.func g) #[] #[(bg π a []).eval (.tmp j)])) w,es):=fun w es=>by
  unfold execOp;rw[hop];show(do pure (.value (<-Instr.makeFunc (.func g) ((#[]:Array Operand).map (bg π a []).eval) ((#[.tmp j]:Array Operand).map (bg π a []).eval))):Sem Next).runT PP w es=_;rw[show(#[]:Array Operand).map (bg π a []).eval=#[] by simp,show(#[.tmp j]:Array Operand).map (bg π a []).eval=#[(bg π a []).eval (.tmp j)] by simp];rfl
 have hl0:∀w,listed PP (base f).fn (bg π a []) o w=#[]:=fun w=>by
  unfold listed;rw[show(execOp (bg π a []).eval o).events PP w #[]=#[] from congrArg Prod.snd (hr w #[])];simp[seen]
 refine az.ep hp (fun w=>by rw[stepG_value ho (hwd _) hkb (by rw[<-Sem.runT_fst PP _ w #[],hr]),hl0]) fun M1 G4 hp1=>?_
 have e:(bg π a []).put o.dst (.func (.func g) #[] #[(bg π a []).eval (.tmp j)])=bg π (a.put o.dst (.func (.func g) #[] #[a.eval (.tmp j)])) []:=by
  have h1:=qQ (π:=π) a o.dst (.func (.func g) #[] #[a.eval (.tmp j)]);have h2:Value.ren π (.func (.func g) #[] #[a.eval (.tmp j)])= .func (.func g) #[] #[(bg π a []).eval (.tmp j)]:=by
   have h3:(bg π a []).eval (.tmp j)=Value.ren π (a.eval (.tmp j)):=by
    show(a.tmps.map (Value.ren π)).getD j undef=_;rw[jF];rfl
   rw[h3];simp[nZ]
  rw[<-h2];exact h1
 rw[e] at hp1;refine h CS π M1 G4 hp1 (jk ha fun r hr=>?_) ((put_defers _ _ _).trans hd) hk;cases hr with
 |first hx _=>simp at hx
 |Fg hx hh=>
  simp at hx;subst hx;exact hv r hh
theorem QY {E:az.Env}{wL:World}(m:Nat):az.CC E Sy #[.map (some m)] (SO m wL) wL:=by
 refine az.mg Tryz.func90 rfl ?_;refine az.eE (az.dR (mS (w1:={wL with heap:=wL.heap.push (.cells #[.map (some m)] NB (0,0))}) (pb wL.heap.size) rfl rfl (fun t d=>by kernel_rfl) ?_));refine eU _ rfl (.inl rfl) rfl (az.cF ?_);refine az.eE (az.dR (Dj Sx 1 rfl rfl rfl ?_))
 refine eU _ rfl (.inl rfl) rfl (az.cF (az.E8 ?_));exact⟨mB wL.heap.size,by kernel_rfl,rfl,wL.tape,wL.drawn,rfl⟩
end Sq
end aH
def gB (x:DS)(n:Nat)(s:Int):aH.iI:=aH.jG (pO s (aP x n)) (pO 2 (aP x n))
def ij (fa fb:aH.iI)(ps:List (List UInt8)):List (List UInt8×Nat):=ps.filterMap fun l=>(kh (fa (aB l)) (fb (aB l))).map fun s=>(l,s)
def jt (fa fb:aH.iI)(ps:List (List UInt8)):List (List UInt8):=ps.filter fun l=>(kh (fa (aB l)) (fb (aB l))).isNone
def cx (ss:List (List UInt8×Nat)):List Value:=ss.flatMap fun p=>[.string (aB p.1),.int .i64 p.2]
theorem Gu (set:Int)(fs:List cV)(s:ByteArray)(h:pO set fs s≠none):∃f∈fs,s=aB f.path:=by
 have key:∀(fs:List cV) (g:ByteArray->Option ByteArray),fs.foldl (fun g f=>if(f.set:Int)=set then fun s=>if s=aB f.path then some (aB f.content) else g s else g) g s≠none->(∃f∈fs,s=aB f.path)\/g s≠none:=by
  intro fs
  induction fs with
  |nil=>intro g h;exact .inr h
  |cons f fs ih=>
   intro g h;rcases ih _ h with⟨x,hx,e⟩|h
   .exact .inl ⟨x,by simp[hx],e⟩
   .dsimp only at h
    by_cases hs:(f.set:Int)=set
    .rw[if_pos hs] at h
     by_cases he:s=aB f.path
     .exact .inl ⟨f,by simp,he⟩
     .rw[if_neg he] at h;exact .inr h
    .rw[if_neg hs] at h;exact .inr h
 rcases key fs _ h with h|h
 .exact h
 .exact absurd rfl h
theorem QA {x:DS}{n:Nat}{s:ByteArray}(h:aH.comb (gB x n 0 s) (gB x n 1 s)≠none):∃f∈aP x n,s=aB f.path:=by
 have one:∀set,gB x n set s≠none->∃f∈aP x n,s=aB f.path:=fun set hs=>by
  unfold gB aH.jG at hs;split at hs
  .exact absurd rfl hs
  .rename_i hne
   by_cases h1:pO set (aP x n) s=none
   .exact Gu 2 _ s fun q=>hne (h1.trans q.symm)
   .exact Gu set _ s h1
 by_cases h0:gB x n 0 s=none
 .by_cases h1:gB x n 1 s=none
  .rw[h0,h1] at h;exact absurd rfl h
  .exact one 1 h1
 .exact one 0 h0
theorem few {x:DS}{n:Nat}(ks:List ByteArray)(hn:ks.Nodup)(h:∀s∈ks,aH.comb (gB x n 0 s) (gB x n 1 s)≠none):ks.length<=54:=by
 have h54:(aP x n).length<=54:=by unfold aP;rw[List.length_map];exact iz x n
 have h1:(ks.map fun k=>k.data.toList).Nodup:=by
  refine List.Pairwise.map _ (fun a b hab he=>hab ?_) hn;have:a.data=b.data:=Array.ext' he;cases a;cases b;simp_all
 have h2:=jY (ks.map fun k=>k.data.toList) ((aP x n).map (·.path)) h1 fun a ha=>by
  obtain⟨k,hk,rfl⟩:=List.mem_map.1 ha;obtain⟨f,hf,e⟩:=QA (h k hk);refine List.mem_map.2 ⟨f,hf,?_⟩;rw[e];simp[aB]
 simp at h2;omega
theorem aH.dh.few {es:Array MapEntry}{c:Nat}{f:ByteArray->Option Value}(h:aH.dh es c f):∃ks:List ByteArray,ks.Nodup/\ks.length=es.size/\∀s∈ks,f s≠none:=by
 refine⟨es.toList.map fun e=>match e.key with|.string s=>s|_=>⟨#[]⟩,?_,by simp,fun s hs=>?_⟩
 .have hp:=((Go.MapKept.stamped_iff es c).1 h.stamped).2.2
  refine(List.pairwise_map).2 (hp.imp_of_mem fun {a b} ha hb hab he=>?_);obtain⟨s,hs⟩:=aH.iC (h.keys a ha);obtain⟨s',hs'⟩:=aH.iC (h.keys b hb);rw[hs,hs'] at he hab;simp only at he;subst he
  simp_all
 .obtain⟨e,he,rfl⟩:=List.mem_map.1 hs
  obtain⟨s,hs⟩:=aH.iC (h.keys e he);rw[hs];rw[(h.has s e.val).2 ⟨e,he,hs,rfl⟩];simp
end
section
open Go.RowKit Go.Lib Go.Sort
open Go.Conc (base G)
theorem pd:Elem Tryz.prog 109 168 2 24:=⟨by kernel_rfl,by kernel_rfl,by omega⟩
theorem MQ {a b:Option (Bool×ByteArray)}:aH.comb a b≠none↔(a≠none\/b≠none):=by
 unfold aH.comb;cases a<;>cases b<;>simp
theorem World.ownsRow.ag1 {S:List Nat}{w w':World}{base:Nat}{e:TypeId}{size:Nat}{v:Value}{n:Nat}{xs:List Value}(h:w.ownsRow base e size v n xs)(f:eM S w w')(hS:∀g,v.ownBlock=some g->g∉S):w'.ownsRow base e size v n xs:=by
 refine⟨h.1,h.2.imp id fun⟨g,cap,cur,e1,e2,e3,e4⟩=>⟨g,cap,cur,e1,e2,?_,e4⟩⟩;rw[f.block g (Array.getElem?_eq_some_iff.1 e3).1 (hS g (by rw[e1];rfl))];exact e3
theorem Bl (fa fb:aH.iI)(ps:List (List UInt8))(k:Nat)(hk:k<ps.length):ij fa fb (ps.take (k+1))=ij fa fb (ps.take k)++((kh (fa (aB ps[k])) (fb (aB ps[k]))).map fun s=>(ps[k],s)).toList:=by
 unfold ij;rw[List.take_succ_eq_append_getElem hk,List.filterMap_append]
 congr 1
 all_goals (cases h:kh (fa (aB ps[k])) (fb (aB ps[k]))<;>simp[h])
theorem Dc (fa fb:aH.iI)(ps:List (List UInt8))(k:Nat)(hk:k<ps.length):jt fa fb (ps.take (k+1))=jt fa fb (ps.take k)++if(kh (fa (aB ps[k])) (fb (aB ps[k]))).isNone then [ps[k]] else []:=by
 unfold jt;rw[List.take_succ_eq_append_getElem hk,List.filter_append]
 congr 1
 all_goals (cases h:kh (fa (aB ps[k])) (fb (aB ps[k]))<;>simp[h])
theorem DL (fa fb:aH.iI)(ps:List (List UInt8)):(ij fa fb ps).length<=ps.length:=List.length_filterMap_le _ _
theorem E4 (fa fb:aH.iI)(ps:List (List UInt8)):(jt fa fb ps).length<=ps.length:=List.length_filter_le _ _
theorem qA (a b:List (List UInt8×Nat)):cx (a++b)=cx a++cx b:=by simp[cx]
section
variable {ops:Array Oper}{Q:Exit->Act->World->Prop}{a:Act}{w:World}{rest:List Oper}{o:Oper}
theorem tb {t:TypeId}{x y:Operand}{b:Bool}(_:o.op= .lookup t x y b)(h:al (wpList Tryz.prog ops Q (o::rest) a w)):wpList Tryz.prog ops Q (o::rest) a w:=h
theorem GY (hg:o.guard=none)(t kt vt:TypeId)(x y:Operand)(ho:o.op= .lookup t x y false)(ht:Tryz.prog.underlying t=some (.map kt vt))(hk:Tryz.prog.underlying kt=some .string){z:Value}(hz:(Tryz.prog.info? vt).bind (·.zero)=some z)
  {m c:Nat} {es:Array MapEntry} {f:ByteArray->Option Value} {s:ByteArray} (hx:a.eval x= .map (some m)) (hy:a.eval y= .string s) (hm:w.heap[m]? =some (.map es c)) (hf:aH.dh es c f) (v:Value) (hv:(f s).getD z=v)
  (h:wpList Tryz.prog ops Q rest (a.put o.dst v) w):wpList Tryz.prog ops Q (o::rest) a w:=by
 refine cM hg v w ?_ h;have:=(aH.oJ (t:=t) (s:=s) ht hk hz hm hf).run;rw[hv] at this;unfold execOp;rw[ho];show(do pure (.value (<-Instr.lookup t (a.eval x) (a.eval y) false)):Sem Next).run _ _=_;rw[hx,hy];exact this
end
theorem _root_.Go.World.ownsRow.weak {w:World}{base base':Nat}{e:TypeId}{size:Nat}{v:Value}{n:Nat}{xs:List Value}(h:w.ownsRow base e size v n xs)(hb:base'<=base):w.ownsRow base' e size v n xs:=
 ⟨h.1,h.2.imp id fun⟨g,cap,cur,e1,e2,e3⟩=>⟨g,cap,cur,e1,Nat.le_trans hb e2,e3⟩⟩
def SP (x:DS)(n:Nat)(wL:World)(v:Value)(w':World):Prop:=∃(ps:List (List UInt8)) (sv cv:Value),ps.Pairwise (·<=·)/\ps.Nodup/\(∀l,l∈ps↔aH.comb (gB x n 0 (aB l)) (gB x n 1 (aB l))≠none)/\
 v= .tuple #[sv,cv]/\eM [] wL w'/\w'.ownsRow wL.heap.size 168 2 sv (ij (gB x n 0) (gB x n 1) ps).length (cx (ij (gB x n 0) (gB x n 1) ps))/\
 w'.ownsRow wL.heap.size 9 1 cv (jt (gB x n 0) (gB x n 1) ps).length (eW (jt (gB x n 0) (gB x n 1) ps))
open aH aH.Sq in
theorem QZ {E:az.Env}{wL:World}{d bl n:Nat}{x:DS}(hd:aH.fq d bl n x wL):az.CC E 55 #[.pointer (some ⟨d,0,none⟩)] (SP x n wL) wL:=by
 refine az.mg Tryz.func55 rfl ?_;refine az.eE (az.dR (eU _ rfl (.inl rfl) rfl (eU _ rfl (.inl rfl) rfl (az.cF ?_))));refine az.eE (az.dR (eU _ rfl (.inl rfl) rfl (az.cF ?_)))
 refine az.eE (az.dR (eU _ rfl (.inl rfl) rfl (az.cF ?_)));refine az.eE (az.dR (eU _ rfl (.inr rfl) rfl ?_));refine kM (f2:=88) #[.tmp 11] #[.pointer (some ⟨d,0,none⟩)] (R2:=adp x n wL) rfl rfl (by kernel_rfl) (fun b w=>by kernel_rfl) (by kernel_rfl) (Fc hd) fun v w1 hR _=>?_
 obtain⟨es,c,rfl,⟨t1,d1,rfl⟩,hD⟩:=hR;refine(az.mT t1 d1).2 ?_;obtain⟨es',c',f,e0,hm,hf⟩:=hD;cases e0;have hfix:=C8 (a:=gB x n 0) (b:=gB x n 1) (es:=es) (c:=c) ⟨es,c,f,rfl,hm,hf⟩;have hf':∀s,f s=comb (gB x n 0 s) (gB x n 1 s):=hf;obtain⟨w1,hw1⟩:∃w1,w1={wL with heap:=wL.heap.push (.map es c)}:=⟨_,rfl⟩
 rw[<-hw1];have hes:es.size<=54:=by
  obtain⟨ks,k1,k2,k3⟩:=hm.few;rw[<-k2];exact few (x:=x) (n:=n) ks k1 fun s hs=>by rw[<-hf'];exact k3 s hs
 have B1:eM [] wL w1:=by
  rw[hw1];exact⟨rfl,by simp,fun k hk _=>by show(wL.heap.push _)[k]? =_;rw[Array.getElem?_push_lt hk];exact(Array.getElem?_eq_getElem hk).symm⟩
 have hM1:w1.heap[wL.heap.size]? =some (.map es c):=by rw[hw1];simp
 have s1:w1.heap.size=wL.heap.size+1:=by rw[hw1];simp
 clear hw1;refine eU _ rfl (.inl rfl) rfl (az.cF ?_);refine az.eE (az.eE (az.dR (eU _ rfl (.inr rfl) rfl ?_)));refine kM (f2:=Sy) #[.tmp 13] #[.map (some wL.heap.size)] (R2:=SO wL.heap.size w1) rfl rfl (by kernel_rfl) (fun b w=>by kernel_rfl) (by kernel_rfl) (QY _) fun v w2 hR _=>?_
 obtain⟨rfl,t2,d2,rfl⟩:=hR;refine(az.mT t2 d2).2 ?_;obtain⟨w2,hw2⟩:∃w2,w2={w1 with heap:=w1.heap.push (.cells #[.map (some wL.heap.size)] NB (0,0))}:=⟨_,rfl⟩
 rw[<-hw2];have B2:eM [] w1 w2:=by
  rw[hw2];exact⟨rfl,by simp,fun k hk _=>by show(w1.heap.push _)[k]? =_;rw[Array.getElem?_push_lt hk];exact(Array.getElem?_eq_getElem hk).symm⟩
 have hB2:w2.heap[w1.heap.size]? =some (.cells #[.map (some wL.heap.size)] NB (0,0)):=by rw[hw2];simp
 have s2:w2.heap.size=w1.heap.size+1:=by rw[hw2];simp
 clear hw2;have hM2:w2.heap[wL.heap.size]? =some (.map es c):=(B2.block _ (by omega) (by simp)).trans hM1;refine kM (f2:=89) #[.tmp 14] #[mB w1.heap.size] (R2:=GN f w2) rfl rfl (by kernel_rfl) (fun b w=>by kernel_rfl) (by kernel_rfl)
  (Jh (es:=es) (Ff (X1 hB2 hM2 hm hfix (by omega))) fun ks k1 k2=>Nat.lt_of_le_of_lt (few (x:=x) (n:=n) ks k1 fun s hs=>by rw[<-hf'];exact(k2 s).1 hs) (by omega)) fun v w3 hR _=>?_
 obtain⟨ps,hs,hn,hmem,B3,hv⟩:=hR;have WM:w3.heap[wL.heap.size]? =some (.map es c):=(B3.block _ (by omega) (by simp)).trans hM2;have BL:eM [] wL w3:=(B1.trans B2).trans B3;obtain⟨ad,cap,rfl,hcell⟩:∃ad cap,v= .slice ad ps.length cap/\(0<ps.length->∃g,ad=some ⟨g,0,none⟩/\g<w3.heap.size/\Holds encStr w3 g 0 ps.toArray):=by
  rcases hv with⟨rfl,rfl⟩|⟨g,cap,rfl,_,h2,h3⟩
  .exact⟨none,0,rfl,fun h=>absurd h (by simp)⟩
  .exact⟨_,cap,rfl,fun _=>⟨g,rfl,h2,h3⟩⟩
 have hpl:ps.length<=54:=by
  have:=few (x:=x) (n:=n) (ps.map aB) (List.Pairwise.map _ (fun a b hab he=>hab (by simpa [aB] using he)) hn) fun s hs=>by
   obtain⟨l,hl,rfl⟩:=List.mem_map.1 hs;rw[<-hf'];exact(hmem l).1 hl
  simpa using this
 clear hv B1 B2 B3 hM1 hM2 hB2;refine mS (w1:=w3) (.int .i64 ps.length) rfl rfl (fun t d=>by kernel_rfl) ?_;refine eU _ rfl (.inr rfl) rfl (az.cF ?_)
 refine sO {tmps:=#[.pointer (some ⟨d,0,none⟩),undef,.slice none 0 0,.slice none 0 0,.slice none 0 0,.slice none 0 0,.map (some wL.heap.size),undef,undef,undef,undef,.pointer (some ⟨d,0,none⟩),.map (some wL.heap.size),.map (some wL.heap.size),mB w1.heap.size,.slice ad ps.length cap,.int .i64 ps.length,.int .i64 0,undef,undef,undef,undef,undef,undef,undef,undef,undef,undef,undef,undef,undef,undef,undef,undef,undef,undef,undef,undef,undef,undef,undef,undef],defers:=[]} (by kernel_rfl) ?_
 generalize hmm:wL.heap.size=m at*;generalize w1.heap.size=qb at*;refine az.fg none ⟨_,Tryz.func55⟩ (by kernel_rfl) (by simp) (fun w=>eM [] wL w/\w.heap[m]? =some (.map es c)/\(0<ps.length->∃g,ad=some ⟨g,0,none⟩/\g<w.heap.size/\Holds encStr w g 0 ps.toArray)) (fun w t d h=>⟨h.1.tape t d,h.2.1,h.2.2⟩) ⟨BL,WM,hcell⟩ fun w hI hsz=>?_
 obtain⟨hB,hM,hC⟩:=hI;clear BL WM hcell hsz;go_wp2_with fail
 go_loopw [4,5,17] (fun u4 u5 u17 wr=>∃k:Nat,u17= .int .i64 k/\k<=ps.length/\aO [] w wr/\wr.ownsRow w.heap.size 168 2 u4 (ij (gB x n 0) (gB x n 1) (ps.take k)).length (cx (ij (gB x n 0) (gB x n 1) (ps.take k)))/\
  wr.ownsRow w.heap.size 9 1 u5 (jt (gB x n 0) (gB x n 1) (ps.take k)).length (eW (jt (gB x n 0) (gB x n 1) (ps.take k)))/\∀g,u4.ownBlock=some g->u5.ownBlock=some g->False) (fun _ _ u17 _=>ps.length-(intOf u17).toNat)
 case atStart=>exact⟨0,rfl,by omega,aO.refl _ _,World.ownsRow_nil _ _ _ _,World.ownsRow_nil _ _ _ _,fun g h=>by cases h⟩
 case round=>
  obtain⟨k,rfl,hk,fk,ho1,ho2,IQ⟩:=hrel
  by_cases hlt:k<ps.length
  .obtain⟨g,rfl,hg,hH⟩:=hC (by omega)
   have hc1:wr.cell? ⟨g,k,none⟩=some (.string (aB ps[k])):=by
    have h1:=(hH k (by simpa using hlt)).1;rw[getElem!_pos ps.toArray k (by simpa using hlt)] at h1;have h2:wr.heap[g]? =w.heap[g]? :=fk.block g hg (by simp);unfold World.cell? at h1⊢;simp only[Nat.zero_add] at h1;rw[h2];simpa [encStr,aB] using h1
   have hM':wr.heap[m]? =some (.map es c):=(fk.block m (Array.getElem?_eq_some_iff.1 hM).1 (by simp)).trans hM;have hs1:=Bl (gB x n 0) (gB x n 1) ps k hlt;have hs2:=Dc (gB x n 0) (gB x n 1) ps k hlt;have hl1:(ij (gB x n 0) (gB x n 1) (ps.take k)).length<=54:=by have:=DL (gB x n 0) (gB x n 1) (ps.take k);rw[List.length_take] at this;omega
   have hl2:(jt (gB x n 0) (gB x n 1) (ps.take k)).length<=54:=by have:=E4 (gB x n 0) (gB x n 1) (ps.take k);rw[List.length_take] at this;omega
   generalize ps[k]=p at*;have hfp:(f (aB p)).getD zF= .agg (aH.bV (gB x n 0 (aB p)) (gB x n 1 (aB p))):=by rw[hf',xl]
   go_wp2_with (with_reducible first|refine tb rfl ?_);refine al.go (GY rfl 153 9 164 _ _ rfl JT JU JI rfl rfl hM' hm _ hfp ?_);clear hfp hM' hc1;have Y4:Hid (ij (gB x n 0) (gB x n 1) (ps.take (k+1))=ij (gB x n 0) (gB x n 1) (ps.take k)++((kh (gB x n 0 (aB p)) (gB x n 1 (aB p))).map fun s=>(p,s)).toList):=hs1
   have HS2:Hid (jt (gB x n 0) (gB x n 1) (ps.take (k+1))=jt (gB x n 0) (gB x n 1) (ps.take k)++if(kh (gB x n 0 (aB p)) (gB x n 1 (aB p))).isNone then [p] else []):=hs2;clear hs1 hs2;generalize gB x n 0 (aB p)=fa at Y4 HS2⊢;generalize gB x n 1 (aB p)=fb at Y4 HS2⊢;go_wp2_with (with_reducible first|refine tb rfl ?_);refine(DR fa fb wr).mono ?_
   rintro e w4 ⟨rfl,f4⟩;have Sr:=fk.trans f4;have P8:=f4.owns ho1;have P6:=f4.owns ho2;cases hsrc:kh fa fb with
   |some sd=>
    rw[hsrc] at Y4 HS2;simp only[Option.getD_some,Option.isSome_some];go_wp2_with (with_reducible first|refine bH 168 rfl ?_|refine bT rfl ?_|refine bU rfl ?_);refine al.go (cM rfl (.agg #[.string (aB p),.int .i64 sd]) w4 (by kernel_rfl) ?_);go_wp2_with (with_reducible first|refine bT rfl ?_|refine bU rfl ?_)
    refine al.go (fR rfl 109 168 2 24 pd _ rfl (.agg #[.string (aB p),.int .i64 sd]) rfl rfl ?_);intro w8 b8 l8 f8 r8;go_wp2_with (with_reducible first|refine bT rfl ?_|refine bU rfl ?_);have wK:=f8.owns P8;have EG:=f8.owns P6;have L6:=Sr.trans f8;have hbase:w.heap.size<=w8.heap.size:=L6.size
    refine al.go (iy rfl 109 168 2 24 pd _ _ rfl w.heap.size u4 _ _ rfl wK b8 1 1 [.string (aB p),.int .i64 sd] rfl _ _ r8 rfl rfl (by simp[Value.oneCell']) (by omega) (by omega) (by omega) hbase ?_);intro g' cap' w9 IN f9 hg';have QB:=L6.trans f9 (by intro j hj;right;simp at hj;exact(wK.lt j hj).1)
    have agm:=f9.owns EG (by intro q hq hq';simp at hq;exact IQ q hq hq');have LK:∀q,g'=q->u5.ownBlock=some q->False:=fun q e hq=>by
     subst e;rcases hg' with h|h
     .exact IQ g' h hq
     .have:=(EG.lt g' hq).2;omega
    clear ho1 ho2 P8 P6 wK EG r8 f8 f9 l8 fk Sr L6 f4 hbase IQ hg';go_wp2_with fail
    go_roundw
    case rel=>
     refine⟨k+1,by go_num,by omega,QB,?_,?_,fun q h=>LK q (by simpa [Value.ownBlock] using h)⟩
     .rw[Y4.out,qA]
      simpa [cx] using IN
     .rw[HS2.out]
      simpa using agm
    case measure=>simp[intOf];omega
   |none=>
    rw[hsrc] at Y4 HS2;simp only[Option.getD_none,Option.isSome_none];go_wp2_with (with_reducible first|refine bH 168 rfl ?_|refine bT rfl ?_|refine bU rfl ?_);refine al.go (fR rfl 45 9 1 16 iE _ rfl (.string (aB p)) rfl rfl ?_);intro w8 b8 l8 f8 r8;go_wp2_with (with_reducible first|refine bT rfl ?_|refine bU rfl ?_)
    have wK:=f8.owns P8;have EG:=f8.owns P6;have L6:=Sr.trans f8;have hbase:w.heap.size<=w8.heap.size:=L6.size;refine al.go (iy rfl 45 9 1 16 iE _ _ rfl w.heap.size u5 _ _ rfl EG b8 1 1 [.string (aB p)] rfl _ _ r8 rfl rfl (by simp[Value.oneCell']) (by omega) (by omega) (by omega) hbase ?_);intro g' cap' w9 IN f9 hg'
    have QB:=L6.trans f9 (by intro j hj;right;simp at hj;exact(EG.lt j hj).1);have agn:=f9.owns wK (by intro q hq hq';simp at hq;exact IQ q hq' hq);have LK:∀q,u4.ownBlock=some q->g'=q->False:=fun q hq e=>by
     subst e;rcases hg' with h|h
     .exact IQ g' hq h
     .have:=(wK.lt g' hq).2;omega
    clear ho1 ho2 P8 P6 wK EG r8 f8 f9 l8 fk Sr L6 f4 hbase IQ hg';go_wp2_with fail
    go_roundw
    case rel=>
     refine⟨k+1,by go_num,by omega,QB,?_,?_,fun q h h'=>LK q h (by simpa [Value.ownBlock] using h')⟩
     .rw[Y4.out]
      simpa using agn
     .rw[HS2.out]
      simpa [eW,encStr,aB] using IN
    case measure=>simp[intOf];omega
  .have hk2:k=ps.length:=by omega
   subst hk2;rw[List.take_of_length_le (Nat.le_refl _)] at ho1 ho2;have hbw:m<=w.heap.size:=by have:=hB.size;omega
   go_wp2_with fail;refine az.eE (az.dR (eU _ rfl (.inr rfl) rfl (eU _ rfl (.inr rfl) rfl (eU _ rfl (.inl rfl) rfl (eU _ rfl (.inl rfl) rfl (az.cF (az.E8 ?_)))))));refine⟨.tuple #[u4,u5],by kernel_rfl,ps,u4,u5,hs,hn,fun l=>by rw[<-hf'];exact hmem l,rfl,hB.trans fk.blk,?_,?_⟩
   .rw[hmm];exact ho1.weak hbw
   .rw[hmm];exact ho2.weak hbw
end
section
open Go.RowKit Go.Lib
theorem wF:∃i,Tryz.prog.info? 5=some i/\i.size=1/\i.bytes=1/\i.zero=some (.int .u8 0):=by
 have:=IG;cases hi:Tryz.prog.info? 5 with
 |none=>simp[hi] at this
 |some i=>simp only[hi,Option.map_some,Option.some.injEq,Prod.mk.injEq] at this;exact⟨i,rfl,this⟩
def xN (b:Nat)(w w':World):Prop:=∀k o,w.heap[k]? =some o->k≠b->(∀c f,o≠.cells c 5 f)->w'.heap[k]? =some o
theorem xN.refl (b:Nat)(w:World):xN b w w:=fun _ _ h _ _=>h
theorem xN.trans {b:Nat}{w w' w'':World}(h:xN b w w')(h':xN b w' w''):xN b w w'':=fun k o h1 h2 h3=>h' k o (h k o h1 h2 h3) h2 h3
theorem xN.cell {b off:Nat}{w:World}(v:Value):xN b w (w.setCell ⟨b,off,none⟩ v):=fun k o h1 h2 _=>by rw[(Go.Conc.aside_setCell w ⟨b,off,none⟩ v).block k h2];exact h1
theorem xN.uP {b:Nat}{w w':World}(h:aO [] w w'):xN b w w':=fun k o h1 _ _=>by rw[h.block k (Array.getElem?_eq_some_iff.1 h1).1 (by simp)];exact h1
theorem xN.grown {b B n:Nat}{w w':World}{v:Value}{xs:List Value}(ho:w.ownsRow B 5 1 v n xs)(h:w.grownBy w' v.ownBlock):xN b w w':=fun k o h1 _ h3=>by
 rw[h.block k (Array.getElem?_eq_some_iff.1 h1).1 fun e=>?_]
 .exact h1
 .rcases ho.2 with⟨rfl,_⟩|⟨g,cap,cur,rfl,_,hg,_⟩
  .cases e
  .have:g=k:=by simpa [Value.ownBlock] using e.symm
   subst this;rw[hg] at h1;exact h3 _ _ (Option.some.inj h1).symm
theorem tS (B b:Nat)(bs:List Value)(w:World)(h:IsBuilder 146 5 B b bs w):
  Calls Tryz.prog 129 #[.pointer (some ⟨b,0,none⟩)] w fun e w'=>e= .returned (.tuple #[])/\BuilderAt 146 5 B b (.pointer (some ⟨b,0,none⟩)) bs w'/\Below B w w'/\xN b w w':=by
 rcases h with h|h
 .refine(ut b w h.cell0 h.shape h.frozen0).mono ?_
  rintro e w' ⟨rfl,rfl⟩;exact⟨rfl,h.used _,(Below.refl B w).setCell (p:=⟨b,0,none⟩) h.1 _,xN.cell _⟩
 .refine(xh b w h.cell0).mono ?_
  rintro e w' ⟨rfl,rfl⟩;exact⟨rfl,h,Below.refl B _,xN.refl _ _⟩
theorem I3:Elem Tryz.prog 85 5 1 1:=⟨sa,by kernel_rfl,by omega⟩
theorem GZ (B b:Nat)(bs:List Value)(c:Int)(w:World)(h:IsBuilder 146 5 B b bs w)(hlen:bs.length+1<=1000000)(hBw:B<=w.heap.size):
  Calls Tryz.prog 179 #[.pointer (some ⟨b,0,none⟩),.int .u8 c] w fun e w'=>e= .returned .nilIface/\BuilderAt 146 5 B b (.pointer (some ⟨b,0,none⟩)) (bs++[.int .u8 c]) w'/\Below B w w'/\xN b w w':=by
 obtain⟨i0,hi,hz⟩:=wF;go_enter Tryz.func179,Tryz.ntmps179;go_wp2_with fail;refine(tS B b bs w h).mono ?_;rintro e w1 ⟨rfl,h1',hb1,ot1⟩;obtain⟨hB,v,hbk,hown,hne⟩:=h1';have c0:w1.cell? ⟨b,0,none⟩=some (.pointer (some ⟨b,0,none⟩)):=by rw[Lib.cell_of_heap hbk];rfl
 have c1:w1.cell? ⟨b,1,none⟩=some v:=by rw[Lib.cell_of_heap hbk];rfl
 have hlt:b<w1.heap.size:=(Array.getElem?_eq_some_iff.1 hbk).1;go_wp2_with (with_reducible first|refine bT rfl ?_|refine bU rfl ?_);refine al.go (fR rfl 85 5 1 1 I3 _ rfl (.int .u8 c) rfl rfl ?_);intro w2 b2 l2 f2 r2;have hown2:=f2.owns hown
 have hbk2:w2.heap[b]? =some (.cells #[.pointer (some ⟨b,0,none⟩),v] 146 (0,0)):=by rw[f2.block b hlt (by simp)];exact hbk
 have hsz:=hb1.size;have hsz2:=f2.size;have hcell2:∀j u,[Value.int .u8 c][j]? =some u->w2.cell? ((⟨b2,0,none⟩:Addr).add j)=some u:=fun j u hj=>by
  rw[Addr.add_mid,r2.cell];simpa [Value.cells] using hj
 clear c0 c1;go_wp2_with (at_builtin;refine wpList_append_own _ rfl _ _ 85 rfl B 5 i0 (.int .u8 0) 1 1 sa hi hz.2.2 hz.1 hz.2.1 rfl (by decide) _ _ _ rfl hown2 ⟨b2,0,none⟩ 1 1 [.int .u8 c] rfl rfl hcell2 (by simp[Value.oneCell']) ?c3 ?c4 ?c5 ?_)
 case c3=>unfold maxLen;omega
 case c4=>omega
 case c5=>omega
 intro v' w3 hown' hgrow _;have hb3:w3.heap[b]? =some (.cells #[.pointer (some ⟨b,0,none⟩),v] 146 (0,0)):=by
  rw[hgrow.block b (by omega) (fun e=>hne e.symm)];exact hbk2
 have d0:w3.cell? ⟨b,0,none⟩=some (.pointer (some ⟨b,0,none⟩)):=by rw[Lib.cell_of_heap hb3];rfl
 have d1:w3.cell? ⟨b,1,none⟩=some v:=by rw[Lib.cell_of_heap hb3];rfl
 have f1:w3.frozen? ⟨b,1,none⟩=false:=Lib.frozen_of_heap hb3 1;obtain⟨ao,n',cap,rfl⟩:∃ao n' cap,v'= .slice ao n' cap:=by
  rcases hown'.2 with⟨hv,_⟩|⟨g,cap,cur,hv,_⟩
  .exact⟨_,_,_,hv⟩
  .exact⟨_,_,_,hv⟩
 have hB2:Below B w w2:=⟨f2.os.trans hb1.os,f2.tape.trans hb1.tape,f2.output.trans hb1.output,by omega,fun k hk=>by rw[f2.block k (by have:=hb1.size;omega) (by simp)];exact hb1.block k hk⟩
 go_wp2_with fail;go_ret;refine⟨rfl,?_,?_,((ot1.trans (xN.uP f2)).trans (xN.grown hown2 hgrow)).trans (xN.cell _)⟩
 .exact Lib.BuilderAt.put (T:=146) (e:=5) hB hb3 (bs':=bs++[.int .u8 c]) (by simpa using hown') (by decide)
 .exact(hB2.grown hgrow (by omega) (fun k hk=>(hown.lt k hk).1)).setCell (p:=⟨b,1,none⟩) hB _
theorem A6 (B b:Nat)(bs:List Value)(s:ByteArray)(w:World)(h:IsBuilder 146 5 B b bs w)(hlen:bs.length+s.size<=1000000)(hBw:B<=w.heap.size):
  Calls Tryz.prog 153 #[.pointer (some ⟨b,0,none⟩),.string s] w fun e w'=>e= .returned (.tuple #[.int .i64 s.size,.nilIface])/\BuilderAt 146 5 B b (.pointer (some ⟨b,0,none⟩)) (bs++strCells s) w'/\Below B w w'/\xN b w w':=by
 obtain⟨i0,hi,hz⟩:=wF;go_enter Tryz.func153,Tryz.ntmps153;go_wp2_with fail;refine(tS B b bs w h).mono ?_;rintro e w1 ⟨rfl,h1',hb1,ot1⟩;obtain⟨hB,v,hbk,hown,hne⟩:=h1';have c0:w1.cell? ⟨b,0,none⟩=some (.pointer (some ⟨b,0,none⟩)):=by rw[Lib.cell_of_heap hbk];rfl
 have c1:w1.cell? ⟨b,1,none⟩=some v:=by rw[Lib.cell_of_heap hbk];rfl
 have hlt:b<w1.heap.size:=(Array.getElem?_eq_some_iff.1 hbk).1;have hsz:=hb1.size;go_wp2_with (at_builtin;refine Lib.wpList_append_own_string _ rfl _ _ 85 9 rfl B 5 i0 sa Tryz.underlying9 hi hz.2.2 hz.1 hz.2.1 _ _ _ rfl hown s rfl ?c3 ?c4 ?c5 ?_)
 case c3=>unfold maxLen;omega
 case c4=>omega
 case c5=>omega
 intro v' w3 hown' hgrow _;have hb3:w3.heap[b]? =some (.cells #[.pointer (some ⟨b,0,none⟩),v] 146 (0,0)):=by
  rw[hgrow.block b (by omega) (fun e=>hne e.symm)];exact hbk
 have d0:w3.cell? ⟨b,0,none⟩=some (.pointer (some ⟨b,0,none⟩)):=by rw[Lib.cell_of_heap hb3];rfl
 have d1:w3.cell? ⟨b,1,none⟩=some v:=by rw[Lib.cell_of_heap hb3];rfl
 have f1:w3.frozen? ⟨b,1,none⟩=false:=Lib.frozen_of_heap hb3 1;obtain⟨ao,n',cap,rfl⟩:∃ao n' cap,v'= .slice ao n' cap:=by
  rcases hown'.2 with⟨hv,_⟩|⟨g,cap,cur,hv,_⟩
  .exact⟨_,_,_,hv⟩
  .exact⟨_,_,_,hv⟩
 clear c0 c1;go_wp2_with fail
 go_ret2
 refine⟨rfl,?_,?_,(ot1.trans (xN.grown hown hgrow)).trans (xN.cell _)⟩
 .exact Lib.BuilderAt.put (T:=146) (e:=5) hB hb3 (bs':=bs++strCells s) (by rw[List.length_append,strCells_length];exact hown') (by decide)
 .exact(hb1.grown hgrow (by omega) (fun k hk=>(hown.lt k hk).1)).setCell (p:=⟨b,1,none⟩) hB _
def dc (ss:List (List UInt8×Nat)):List UInt8:=ss.flatMap fun p=>(if p.2=0 then 76 else 82)::p.1
theorem C3 (a b:List (List UInt8×Nat)):dc (a++b)=dc a++dc b:=by simp[dc]
theorem nB (l:List (List UInt8×Nat))(k:Nat)(hk:k<l.length):((cx l).drop (k*2)).take 2=[.string (aB l[k].1),.int .i64 l[k].2]:=by
 have h:∀(l:List (List UInt8×Nat)) (k:Nat),(cx l).drop (k*2)=cx (l.drop k):=by
  intro l
  induction l with
  |nil=>intro k;simp[cx]
  |cons f r ih=>
   intro k;cases k with
   |zero=>simp
   |succ k=>
    have:=ih k;have e:cx (f::r)=[.string (aB f.1),.int .i64 f.2]++cx r:=rfl;rw[e,show(k+1)*2=2+k*2 by omega,<-List.drop_drop];simpa using this
 rw[h,List.drop_eq_getElem_cons hk];rfl
theorem row_step:(Tryz.prog.underlying 168).map TypeDesc.isRow=some true:=by kernel_rfl
theorem oU:(Tryz.prog.info? 168).map (·.size)=some 2:=by kernel_rfl
theorem yC:(Tryz.prog.info? 168).map (·.zero)=some (some (.agg #[.string ⟨#[]⟩,.int .i64 0])):=by kernel_rfl
theorem vj (l:List UInt8):strCells (aB l)=byteCells l:=by
 unfold strCells aB byteCells;simp
theorem CH (base:Nat)(v:Value)(ss:List (List UInt8×Nat))(w:World)(hv:w.ownsRow base 168 2 v ss.length (cx ss))(hl:ss.length<=54)(hp:∀p∈ss,p.1.length<=8/\p.2<=1):
  Calls Tryz.prog 138 #[v] w fun e w'=>e= .returned (.string (aB (dc ss)))/\aO [] w w':=by
 obtain⟨ad,cap,hv'⟩:=ci hv;subst hv';have hel:∀k,k<=ss.length->(dc (ss.take k)).length<=9*k:=by
  intro k
  induction k with
  |zero=>intro _;simp[dc]
  |succ k ih=>
   intro hk;rw[List.take_succ_eq_append_getElem (by omega),C3,List.length_append];have h1:=ih (by omega);have h2:=(hp ss[k] (List.getElem_mem (by omega))).1;have h3:(dc [ss[k]]).length=1+ss[k].1.length:=by simp[dc];omega
   omega
 go_enter Tryz.func138,Tryz.ntmps138;go_wp2_with (with_reducible first|refine ay rfl ?_);refine al.go (bm rfl 146 rfl _ zA ?_);intro w1 b3 l3 f1 r3;have hB0:IsBuilder 146 5 w.heap.size b3 (byteCells (dc (ss.take 0))) w1:=
  .inl ⟨l3,.slice none 0 0,r3,by simpa [byteCells,dc] using World.ownsRow_nil _ _ _ _,by simp[Value.ownBlock]⟩
 go_wp2_with fail;clear r3
 go_loopw [8] (fun c wr=>∃k:Nat,c= .int .i64 k/\k<=ss.length/\aO [] w wr/\IsBuilder 146 5 w.heap.size b3 (byteCells (dc (ss.take k))) wr) (fun c _=>ss.length-(intOf c).toNat)
 case atStart=>exact⟨0,rfl,by omega,f1,hB0⟩
 case round=>
  obtain⟨k,rfl,hk,fk,hb⟩:=hrel;clear f1 hB0
  by_cases hlt:k<ss.length
  .have hvk:=fk.owns hv
   obtain⟨g,cur,rfl,hg,hle,_,hcs,htk⟩:=eQ hvk;have hat:((cur.toList.drop (k*2)).take 2)=[.string (aB ss[k].1),.int .i64 ss[k].2]:=by
    rw[cu htk _ _,nB ss k hlt]
   have hpk:=hp ss[k] (List.getElem_mem hlt);have hek:=hel k hk;have HX:Hid (dc (ss.take (k+1))=dc (ss.take k)++((if ss[k].2=0 then 76 else 82)::ss[k].1)):=by
    show _=_;rw[List.take_succ_eq_append_getElem hlt,C3];simp[dc]
   generalize ss[k]=p at*;obtain⟨p1,p2⟩:=p;simp only at hat hpk HX;generalize dc (ss.take k)=pre at*;clear hcs htk hvk;go_wp2_with (with_reducible first|refine ay rfl ?_|refine av 168 rfl ?_|refine af 168 rfl ?_);refine al.go (bX rfl 168 _ rfl g (k*2) rfl row_step 2 oU _ _ hg _ hat rfl ?_);clear hat hg
   go_wp2_with (with_reducible first|refine ay rfl ?_|refine af 168 rfl ?_);refine al.go (bm rfl 168 rfl _ yC ?_);intro w4 b5 l5 f4 r5;go_wp2_with (with_reducible first|refine ay rfl ?_|refine af 168 rfl ?_);refine al.go (bQ rfl 168 _ _ rfl _ 0 rfl _ rfl 2 oU ?_ ?_ _ _ r5 ?_ ?_)
   .rfl
   .simp[Value.oneCell']
   .decide
   intro w5 f5 q5;rw[bL _ _ (by rfl)] at q5;have m9:Row w5 b5 #[.string (aB p1),.int .i64 p2] 168:=q5;have mh:aO [] wr w5:=f4.trans f5 (by simpa using l5);have uo:=fk.trans mh;have hb5:=P1 hb mh;have c0:w5.cell? ⟨b5,0,none⟩=some (.string (aB p1)):=by rw[m9.cell];rfl
   have hne:b5≠b3:=by
    have:b3<wr.heap.size:=by
     rcases hb with hb|hb<;>exact hb.lt
    omega
   have hlen1:(byteCells pre).length+1<=1000000:=by rw[ah];omega
   clear q5 r5 f4 f5 mh fk hb;have hs8:(aB p1).size<=8:=by simpa [aB,ByteArray.size] using hpk.1
   obtain⟨cb,hcb,HX2⟩:∃cb:UInt8,Hid (cb=if p2=0 then 76 else 82)/\Hid (dc (ss.take (k+1))=pre++[cb]++p1):=⟨_,rfl,by show _=_;rw[HX.out];rcases(by omega:p2=0\/p2=1) with rfl|rfl<;>simp⟩
   clear HX;rcases(by omega:p2=0\/p2=1) with rfl|rfl
   all_goals
    have c1:=m9.cell 1;simp at c1;go_wp2_with fail;refine(GZ w.heap.size b3 _ _ w5 hb5 hlen1 uo.size).mono ?_;rintro e w6 ⟨rfl,hb6,bl6,ot6⟩;have um:=oW uo bl6;have ab4:IsBuilder 146 5 w.heap.size b3 (byteCells (pre++[cb])) w6:=by
     rw[byteCells_append,hcb.out];exact .inr hb6
    have q6:Row w6 b5 _ 168:=ot6 b5 _ m9 hne (by simp);have d0:w6.cell? ⟨b5,0,none⟩=some (.string (aB p1)):=by rw[q6.cell];rfl
    have Gk:(byteCells (pre++[cb])).length+(aB p1).size<=1000000:=by rw[ah,List.length_append,List.length_singleton];omega
    clear hb6 bl6 ot6 hb5 m9 q6 uo c0 c1 hlen1;go_wp2_with fail;refine(A6 w.heap.size b3 _ _ w6 ab4 Gk um.size).mono ?_;rintro e w7 ⟨rfl,hb7,bl7,_⟩;have xL:=oW um bl7;have agC:IsBuilder 146 5 w.heap.size b3 (byteCells (dc (ss.take (k+1)))) w7:=by
     rw[HX2.out,byteCells_append,<-vj p1];exact .inr hb7
    clear hb7 bl7 ab4 um d0 Gk;go_wp2_with fail
    go_roundw
    case rel=>exact⟨k+1,by go_num,by omega,xL,agC⟩
    case measure=>simp[intOf];omega
  .obtain rfl:k=ss.length:=by omega
   rw[List.take_of_length_le (by omega)] at hb;go_wp2_with fail;refine(Tryz.Builder_String_any w.heap.size b3 (dc ss) wr hb fk.size).mono ?_;rintro e w6 ⟨rfl,bl6⟩;have um:=oW fk bl6;go_wp2_with fail;go_ret;exact⟨rfl,um⟩
def hvD (o:Option (List UInt8)):Value:=aH.hv o.isSome (aB (o.getD []))
def hcells (o:Option (List UInt8)):Array Value:=#[.bool o.isSome,.string (aB (o.getD []))]
theorem qO:(Tryz.prog.underlying 161).map TypeDesc.isRow=some true:=by kernel_rfl
theorem jp:(Tryz.prog.info? 161).map (·.size)=some 2:=by kernel_rfl
theorem rX:(Tryz.prog.info? 161).map (·.zero)=some (some (.agg #[.bool false,.string ⟨#[]⟩])):=by kernel_rfl
theorem zi (d bl n:Nat)(vw:Value)(x:DS)(s:Int)(p:ByteArray)(w:World)(h:bE w d bl n vw x):
  Calls Tryz.prog 142 #[.pointer (some ⟨d,0,none⟩),.agg (dG s p)] w fun e w'=>e= .returned (hvD (x.content n s p))/\aO [] w w':=by
 go_enter Tryz.func142,Tryz.ntmps142;go_wp2_with (with_reducible first|refine bK rfl ?_|refine ay rfl ?_|refine av 103 rfl ?_);refine al.go (ii rfl 103 _ rfl (.agg (dG s p)) rfl ?_);intro w1 b3 l3 f1 r3;have h1:=h.new f1;go_wp2_with (with_reducible first|refine ay rfl ?_|refine av 103 rfl ?_)
 refine al.go (bm rfl 161 rfl _ rX ?_);intro w2 b4 l4 f2 r4;have h2:=h1.new f2;have r32:Row w2 b3 (dG s p) 103:=by unfold Row;rw[f2.block b3 (Array.getElem?_eq_some_iff.1 r3).1 (by simp)];exact r3
 go_wp2_with (with_reducible first|refine av 103 rfl ?_);refine al.go (bX rfl 103 _ rfl b3 0 rfl gP 2 eF _ _ r32 [.int .i64 s,.string p] rfl rfl ?_);go_wp2_with fail;refine(rD d bl n vw x s p w2 h2).mono ?_;rintro e w3 ⟨rfl,f3⟩
 have r43:Row w3 b4 #[.bool false,.string ⟨#[]⟩] 161:=by unfold Row;rw[f3.block b4 (Array.getElem?_eq_some_iff.1 r4).1 (by simp)];exact r4
 have EP:=(f1.trans f2).trans f3;have hfz:w.heap.size<=b4:=Nat.le_trans f1.size l4;clear h1 h2 r3 r4 r32 f1 f2 f3;obtain⟨o,ho⟩:∃o,x.content n s p=o:=⟨_,rfl⟩
 have HC:Hid (x.content n s p=o):=ho;rw[ho];clear ho;go_wp2_with (with_reducible first|refine bH 161 rfl ?_|refine af 161 rfl ?_);refine al.go (cM rfl (.agg (hcells o)) w3 (by kernel_rfl) ?_);go_wp2_with (with_reducible first|refine af 161 rfl ?_);refine al.go (bQ rfl 161 _ _ rfl b4 0 rfl (hcells o) rfl 2 jp ?_ ?_ _ _ r43 ?_ ?_)
 .rfl
 .simp[hcells,Value.oneCell']
 .decide
 intro w4 f4 q4;rw[bL _ _ (by rfl)] at q4;have KJ:Row w4 b4 (hcells o) 161:=q4;have fw:=EP.trans f4 (by simp;exact hfz);clear q4;go_wp2_with fail;exact k8 rfl b4 rfl rfl _ _ KJ qO (by exact jp) ⟨by rw[HC.out];rfl,fw⟩
theorem x5 (s:Nat)(hs:s<=1)(w:World):Calls Tryz.prog 143 #[.int .i64 s] w fun e w'=>e= .returned (.int .i64 (1-s:Nat))/\w'=w:=by
 rcases(by omega:s=0\/s=1) with rfl|rfl
 .go_enter Tryz.func143,Tryz.ntmps143
  go_wp2_with fail;go_ret;exact⟨rfl,rfl⟩
 .go_enter Tryz.func143,Tryz.ntmps143
  go_wp2_with fail;go_ret;exact⟨rfl,rfl⟩
structure dg where
 set:Nat
 path:List UInt8
 becomes:Option (List UInt8)
 replaces:Bool
def dg.vals (w:dg):List Value:=[.int .i64 w.set,.string (aB w.path),.bool w.becomes.isSome,.string (aB (w.becomes.getD [])),.bool w.replaces]
def jA (ws:List dg):List Value:=ws.flatMap dg.vals
def dk (x:DS)(n:Nat)(p:List UInt8×Nat)(set:Nat):List dg:=if x.content n set (aB p.1)=x.content n p.2 (aB p.1) then [] else [⟨set,p.1,x.content n p.2 (aB p.1),(x.content n set (aB p.1)).isSome⟩]
def fu (x:DS)(n:Nat)(p:List UInt8×Nat):List dg:=dk x n p (1-p.2)++dk x n p 2
def bB (x:DS)(n:Nat)(ss:List (List UInt8×Nat)):List dg:=ss.flatMap (fu x n)
theorem xP (x:DS)(n:Nat)(ss:List (List UInt8×Nat))(k:Nat)(hk:k<ss.length):bB x n (ss.take (k+1))=bB x n (ss.take k)++fu x n ss[k]:=by
 unfold bB;rw[List.take_succ_eq_append_getElem hk,List.flatMap_append];simp
theorem ny (x:DS)(n:Nat)(p:List UInt8×Nat)(s:Nat):(dk x n p s).length<=1:=by unfold dk;split<;>simp
theorem iJ (x:DS)(n:Nat)(ss:List (List UInt8×Nat)):(bB x n ss).length<=2*ss.length:=by
 induction ss with
 |nil=>simp[bB]
 |cons p ss ih=>
  have e:bB x n (p::ss)=fu x n p++bB x n ss:=rfl;have h1:=ny x n p (1-p.2);have h2:=ny x n p 2;rw[e,List.length_append,List.length_cons];unfold fu;rw[List.length_append];omega
theorem GS (a b:List dg):jA (a++b)=jA a++jA b:=by simp[jA]
theorem wZ:Elem Tryz.prog 173 176 5 56:=⟨by kernel_rfl,by kernel_rfl,by omega⟩
theorem Lz {a b:Option (List UInt8)}:(a.isSome==b.isSome&&aB (a.getD [])==aB (b.getD []))=true↔a=b:=by
 rw[Bool.and_eq_true,beq_iff_eq,Go.MapKept.bytes_beq];constructor
 .rintro⟨h1,h2⟩
  have h3:a.getD []=b.getD []:=by
   have:=congrArg (fun s:ByteArray=>s.data.toList) h2;simpa [aB] using this
  cases a<;>cases b<;>simp_all
 .rintro rfl
  exact⟨rfl,rfl⟩
section
variable {ops:Array Oper}{Q:Exit->Act->World->Prop}{a:Act}{w:World}{rest:List Oper}{o:Oper}
theorem pU {t:TypeId}{x y:Operand}(_:o.op= .index t x y)(h:al (wpList Tryz.prog ops Q (o::rest) a w)):wpList Tryz.prog ops Q (o::rest) a w:=h
theorem N4 (hg:o.guard=none)(x y:Nat)(u:TypeId)(ho:o.op= .binOp .neq aH.TH (.tmp x) (.tmp y) u){b1 b2:Bool}{s1 s2:ByteArray}(hx:a.eval (.tmp x)=aH.hv b1 s1)(hy:a.eval (.tmp y)=aH.hv b2 s2)
  (h:wpList Tryz.prog ops Q rest (a.put o.dst (.bool (!(b1==b2&&s1==s2)))) w):wpList Tryz.prog ops Q (o::rest) a w:=by
 refine cM hg _ w ?_ h;have:=(aH.FP (w:=w) b1 b2 s1 s2).run;unfold execOp;rw[ho];show(do pure (.value (<-(do eqGuard .neq aH.TH (.tmp x) (.tmp y) (a.eval (.tmp x)) (a.eval (.tmp y));binOp .neq aH.TH (a.eval (.tmp x)) (a.eval (.tmp y))))):Sem Next).run _ _=_;rw[hx,hy,ou _ _ _ _ rfl rfl];exact this
end
theorem Row.aside {w w':World}{b base size n:Nat}{c:Array Value}{t e:TypeId}{v:Value}{xs:List Value}(r:Row w b c t)(ho:w.ownsRow base e size v n xs)(hne:t≠e)(f:aO v.ownBlock.toList w w'):Row w' b c t:=by
 unfold Row at r⊢;rw[f.block b (Array.getElem?_eq_some_iff.1 r).1 fun hb=>?_]
 .exact r
 .rcases ho.2 with⟨rfl,_⟩|⟨g,cap,cur,rfl,_,hg,_⟩
  .simp[Value.ownBlock] at hb
  .have:b=g:=by simpa [Value.ownBlock] using hb
   subst this;rw[r] at hg;cases hg;exact hne rfl
theorem Row.uP {w w':World}{b:Nat}{c:Array Value}{t:TypeId}(r:Row w b c t)(f:aO [] w w'):Row w' b c t:=by
 unfold Row at r⊢;rw[f.block b (Array.getElem?_eq_some_iff.1 r).1 (by simp)];exact r
theorem u9 (d bl n:Nat)(vw:Value)(x:DS)(base:Nat)(v:Value)(ss:List (List UInt8×Nat))(w:World)(h:bE w d bl n vw x)(hv:w.ownsRow base 168 2 v ss.length (cx ss))(hl:ss.length<=54)(hp:∀p∈ss,p.2<=1):
  Calls Tryz.prog 95 #[.pointer (some ⟨d,0,none⟩),v] w fun e w'=>∃u,e= .returned u/\w'.ownsRow w.heap.size 176 5 u (bB x n ss).length (jA (bB x n ss))/\aO [] w w':=by
 obtain⟨ad,cap,hv'⟩:=ci hv;subst hv';go_enter Tryz.func95,Tryz.ntmps95;go_wp2_with fail
 go_loopw [5,15] (fun u c wr=>∃k:Nat,c= .int .i64 k/\k<=ss.length/\aO [] w wr/\wr.ownsRow w.heap.size 176 5 u (bB x n (ss.take k)).length (jA (bB x n (ss.take k)))) (fun _ c _=>ss.length-(intOf c).toNat)
 case atStart=>exact⟨0,rfl,by omega,aO.refl _ _,World.ownsRow_nil _ _ _ _⟩
 case round=>
  obtain⟨k,rfl,hk,fk,ho⟩:=hrel
  by_cases hlt:k<ss.length
  .have hvk:=fk.owns hv
   obtain⟨g,cur,rfl,hg,hle,_,hcs,htk⟩:=eQ hvk;have hat:((cur.toList.drop (k*2)).take 2)=[.string (aB ss[k].1),.int .i64 ss[k].2]:=by
    rw[cu htk _ _,nB ss k hlt]
   have hpk:=hp ss[k] (List.getElem_mem hlt);have hlen:(bB x n (ss.take k)).length<=108:=by have:=iJ x n (ss.take k);rw[List.length_take] at this;omega
   have HX:Hid (bB x n (ss.take (k+1))=bB x n (ss.take k)++fu x n ss[k]):=xP x n ss k hlt;generalize ss[k]=p at*;generalize bB x n (ss.take k)=pre at*;obtain⟨p1,sd⟩:=p;simp only at hat hpk;clear hcs htk hvk;go_wp2_with (with_reducible first|refine ay rfl ?_|refine av 168 rfl ?_|refine af 168 rfl ?_)
   refine al.go (bX rfl 168 _ rfl g (k*2) rfl row_step 2 oU _ _ hg _ hat rfl ?_);clear hat hg;go_wp2_with (with_reducible first|refine ay rfl ?_|refine af 168 rfl ?_);refine al.go (bm rfl 168 rfl _ yC ?_);intro w4 b7 l7 f4 r4;go_wp2_with (with_reducible first|refine ay rfl ?_|refine af 168 rfl ?_)
   refine al.go (bQ rfl 168 _ _ rfl _ 0 rfl _ rfl 2 oU ?_ ?_ _ _ r4 ?_ ?_)
   .rfl
   .simp[Value.oneCell']
   .decide
   intro w5 f5 q5;rw[bL _ _ (by rfl)] at q5;have m9:Row w5 b7 #[.string (aB p1),.int .i64 sd] 168:=q5;have mh:aO [] wr w5:=f4.trans f5 (by simpa using l7);have uo:=fk.trans mh;have A2:=mh.owns ho;have h5:=h.new uo;have c0:w5.cell? ⟨b7,0,none⟩=some (.string (aB p1)):=by rw[m9.cell];rfl
   have c1:w5.cell? ⟨b7,1,none⟩=some (.int .i64 sd):=by rw[m9.cell];rfl
   clear q5 r4 f4 f5 fk ho;go_wp2_with (with_reducible first|refine bH 103 rfl ?_|refine ay rfl ?_);refine al.go (cM rfl (.agg (dG sd (aB p1))) w5 (by kernel_rfl) ?_);go_wp2_with (with_reducible first|refine ay rfl ?_);refine(zi d bl n vw x sd (aB p1) w5 h5).mono ?_;rintro e w6 ⟨rfl,f6⟩;obtain⟨o,ho0⟩:∃o,x.content n sd (aB p1)=o:=⟨_,rfl⟩
   have HB:Hid (x.content n sd (aB p1)=o):=ho0;rw[ho0];clear ho0 h5 c0 c1;go_wp2_with (with_reducible first|refine ay rfl ?_);refine al.go (bm rfl 161 rfl _ rX ?_);intro w7 b8 l8 f7 r7;go_wp2_with (with_reducible first|refine af 161 rfl ?_);refine al.go (bQ rfl 161 _ _ rfl b8 0 rfl (hcells o) rfl 2 jp ?_ ?_ _ _ r7 ?_ ?_)
   .rfl
   .simp[hcells,Value.oneCell']
   .decide
   intro w8 f8 q8;rw[bL _ _ (by rfl)] at q8;have q8':Row w8 b8 (hcells o) 161:=q8;have f68:aO [] w5 w8:=f6.trans (f7.trans f8 (by simpa using l8));have qt:=uo.trans f68;have q7:=m9.uP f68;have DB:=f68.owns A2;have c1:w8.cell? ⟨b7,1,none⟩=some (.int .i64 sd):=by rw[q7.cell];rfl
   clear q8 r7 f6 f7 f8 f68 uo m9 A2;go_wp2_with fail;refine(x5 sd hpk w8).mono ?_;rintro e w9 ⟨rfl,rfl⟩;go_wp2_with (with_reducible first|refine bH 233 rfl ?_);refine al.go (cM rfl (.agg #[.int .i64 (1-sd:Nat),.int .i64 2]) w9 (by kernel_rfl) ?_);go_wp2_with fail
   go_loopw [5,30] (fun u c wr2=>∃j:Nat,c= .int .i64 j/\j<=2/\aO [] w wr2/\Row wr2 b7 #[.string (aB p1),.int .i64 sd] 168/\Row wr2 b8 (hcells o) 161/\
    wr2.ownsRow w.heap.size 176 5 u (pre++([1-sd,2].take j).flatMap (dk x n (p1,sd))).length (jA (pre++([1-sd,2].take j).flatMap (dk x n (p1,sd))))) (fun _ c _=>2-(intOf c).toNat)
   case atStart=>exact⟨0,rfl,by omega,qt,q7,q8',by simpa using DB⟩
   case round=>
    obtain⟨j,rfl,hj,fr,rb7,rb8,hor⟩:=hrel;clear c1 q7 q8' DB qt
    by_cases hj2:j<2
    .have Gk:(pre++([1-sd,2].take j).flatMap (dk x n (p1,sd))).length<=110:=by
      have h1:=ny x n (p1,sd) (1-sd);rw[List.length_append];rcases(by omega:j=0\/j=1) with rfl|rfl<;>simp<;>omega
     obtain⟨tw,jn,HT,HJ,HY⟩:∃tw jn:Nat,Hid (tw=if j=0 then 1-sd else 2)/\Hid (jn=j+1)/\Hid (([1-sd,2].take jn).flatMap (dk x n (p1,sd))=([1-sd,2].take j).flatMap (dk x n (p1,sd))++dk x n (p1,sd) tw):=⟨_,_,rfl,rfl,by show _=_;rcases(by omega:j=0\/j=1) with rfl|rfl<;>simp⟩
     obtain⟨afI,LD⟩:∃l,l=pre++([1-sd,2].take j).flatMap (dk x n (p1,sd)):=⟨_,rfl⟩
     have HP2:Hid (afI=pre++([1-sd,2].take j).flatMap (dk x n (p1,sd))):=LD;rw[<-LD] at hor Gk;clear LD;rcases(by omega:j=0\/j=1) with rfl|rfl
     all_goals
      have c0:wr.cell? ⟨b7,0,none⟩=some (.string (aB p1)):=by rw[rb7.cell];rfl
      go_wp2_with (with_reducible first|refine pU rfl ?_);refine al.go (cM rfl (.int .i64 (tw:Nat)) wr (by rw[HT.out];kernel_rfl) ?_);go_wp2_with (with_reducible first|refine bH 103 rfl ?_|refine ay rfl ?_);refine al.go (cM rfl (.agg (dG tw (aB p1))) wr (by kernel_rfl) ?_);go_wp2_with (with_reducible first|refine ay rfl ?_)
      refine al.go (bm rfl 103 rfl JJ yD ?_);intro v1 b11 m1 g1 s1;go_wp2_with (with_reducible first|refine af 103 rfl ?_);refine al.go (bQ rfl 103 _ _ rfl b11 0 rfl (dG tw (aB p1)) rfl 2 eF ?_ ?_ _ _ s1 ?_ ?_)
      .rfl
      .simp[dG,Value.oneCell']
      .decide
      intro v2 g2 s2;rw[bL _ _ (by rfl)] at s2;have s2':Row v2 b11 (dG tw (aB p1)) 103:=s2;have g12:aO [] wr v2:=g1.trans g2 (by simpa using m1);have fv2:=fr.trans g12;have h2:=h.new fv2;have aai:=rb7.uP g12;have aag:=rb8.uP g12;have ho2:=g12.owns hor;clear s1 s2 g1 g2 g12 fr rb7 rb8 hor c0
      go_wp2_with (with_reducible first|refine av 103 rfl ?_|refine ay rfl ?_);refine al.go (bX rfl 103 _ rfl b11 0 rfl gP 2 eF _ _ s2' [.int .i64 (tw:Nat),.string (aB p1)] rfl rfl ?_);go_wp2_with (with_reducible first|refine ay rfl ?_);refine(zi d bl n vw x tw (aB p1) v2 h2).mono ?_;rintro e v3 ⟨rfl,g3⟩
      obtain⟨o2,EH⟩:∃o,x.content n tw (aB p1)=o:=⟨_,rfl⟩
      have HO2:Hid (x.content n tw (aB p1)=o2):=EH;rw[EH];clear EH h2;go_wp2_with (with_reducible first|refine ay rfl ?_);refine al.go (bm rfl 161 rfl _ rX ?_);intro v4 b12 m4 g4 s4;go_wp2_with (with_reducible first|refine af 161 rfl ?_);refine al.go (bQ rfl 161 _ _ rfl b12 0 rfl (hcells o2) rfl 2 jp ?_ ?_ _ _ s4 ?_ ?_)
      .rfl
      .simp[hcells,Value.oneCell']
      .decide
      intro v5 g5 s5;rw[bL _ _ (by rfl)] at s5;have s5':Row v5 b12 (hcells o2) 161:=s5;have YT:aO [] v2 v5:=g3.trans (g4.trans g5 (by simpa using m4));have fv5:=fv2.trans YT;have U2:=aai.uP YT;have KH:=aag.uP YT;have WA:=YT.owns ho2;have s25:=s2'.uP YT;have c12:v5.cell? ⟨b12,0,none⟩=some (.bool o2.isSome):=by rw[s5'.cell];rfl
      clear s4 s5 g3 g4 g5 YT fv2 aai aag ho2 s2';go_wp2_with (with_reducible first|refine av 161 rfl ?_|refine ei 161 rfl ?_);refine al.go (bX rfl 161 _ rfl b12 0 rfl qO 2 jp _ _ s5' [.bool o2.isSome,.string (aB (o2.getD []))] rfl rfl ?_);go_wp2_with (with_reducible first|refine av 161 rfl ?_|refine ei 161 rfl ?_)
      refine al.go (bX rfl 161 _ rfl b8 0 rfl qO 2 jp _ _ KH [.bool o.isSome,.string (aB (o.getD []))] rfl rfl ?_);go_wp2_with (with_reducible first|refine av 161 rfl ?_|refine ei 161 rfl ?_);refine al.go (N4 rfl 40 41 _ rfl (b1:=o2.isSome) (b2:=o.isSome) (s1:=aB (o2.getD [])) (s2:=aB (o.getD [])) rfl rfl ?_)
      by_cases heq:(o2.isSome==o.isSome&&aB (o2.getD [])==aB (o.getD []))=true
      .have HW:Hid (dk x n (p1,sd) tw=[]):=by
        show _=_;unfold dk;rw[if_pos (by rw[HO2.out,HB.out];exact Lz.1 heq)]
       rw[heq];clear heq;go_wp2_with fail
       go_roundw
       case rel=>exact⟨jn,by rw[HJ.out];rfl,by rw[HJ.out];omega,fv5,U2,KH,by rw[HY.out,HW.out,List.append_nil,<-HP2.out];exact WA⟩
       case measure=>simp[intOf]
      .have HW:Hid (dk x n (p1,sd) tw=[⟨tw,p1,o,o2.isSome⟩]):=by
        show _=_;unfold dk;rw[if_neg (by rw[HO2.out,HB.out];exact fun q=>heq (Lz.2 q)),HO2.out,HB.out]
       have heq':(o2.isSome==o.isSome&&aB (o2.getD [])==aB (o.getD []))=false:=by simpa using heq
       rw[heq'];clear heq heq';go_wp2_with (with_reducible first|refine av 161 rfl ?_|refine av 103 rfl ?_|refine bH 176 rfl ?_);refine al.go (bX rfl 103 _ rfl b11 0 rfl gP 2 eF _ _ s25 [.int .i64 (tw:Nat),.string (aB p1)] rfl rfl ?_);go_wp2_with (with_reducible first|refine av 161 rfl ?_|refine bH 176 rfl ?_)
       refine al.go (bX rfl 161 _ rfl b8 0 rfl qO 2 jp _ _ KH [.bool o.isSome,.string (aB (o.getD []))] rfl rfl ?_);go_wp2_with (with_reducible first|refine bH 176 rfl ?_);refine al.go (cM rfl (.agg (dg.vals ⟨tw,p1,o,o2.isSome⟩).toArray) v5 (by kernel_rfl) ?_);go_wp2_with (with_reducible first|refine bT rfl ?_|refine bU rfl ?_)
       refine al.go (fR rfl 173 176 5 56 wZ _ rfl (.agg (dg.vals ⟨tw,p1,o,o2.isSome⟩).toArray) rfl rfl ?_);intro v8 b9 m8 g8 s8;go_wp2_with (with_reducible first|refine bT rfl ?_|refine bU rfl ?_);have DB:=g8.owns WA;have fv8:=fv5.trans g8;have aah:=U2.uP g8;have aaf:=KH.uP g8
       have hbase:w.heap.size<=v8.heap.size:=fv8.size;refine al.go (iy rfl 173 176 5 56 wZ _ _ rfl w.heap.size u5 _ _ rfl DB b9 1 1 (dg.vals ⟨tw,p1,o,o2.isSome⟩) rfl _ _ s8 rfl rfl (by simp[dg.vals,Value.oneCell']) (by omega) (by omega) (by omega) hbase ?_);intro g' cap' v9 IN g9 _;have fv9:=fv8.trans g9 (by intro j hj;right;simp at hj;exact(DB.lt j hj).1)
       have afy:=aah.aside DB (by decide) g9;have afx:=aaf.aside DB (by decide) g9;clear WA DB s8 g8 g9 m8 fv5 fv8 U2 KH aah aaf hbase c12 s5' s25;go_wp2_with fail
       go_roundw
       case rel=>
        refine⟨jn,by rw[HJ.out];rfl,by rw[HJ.out];omega,fv9,afy,afx,?_⟩;rw[HY.out,HW.out,<-List.append_assoc,<-HP2.out,GS,List.length_append];simpa [jA] using IN
       case measure=>simp[intOf]
    .obtain rfl:j=2:=by omega
     have HZ:Hid (pre++([1-sd,2].take 2).flatMap (dk x n (p1,sd))=bB x n (ss.take (k+1))):=by
      show _=_;rw[HX.out];simp[fu]
     go_wp2_with fail
     go_roundw
     case rel=>exact⟨k+1,by go_num,by omega,fr,by rw[<-HZ.out];exact hor⟩
     case measure=>simp[intOf];omega
  .obtain rfl:k=ss.length:=by omega
   rw[List.take_of_length_le (by omega)] at ho;go_wp2_with fail;go_ret;exact⟨u5,rfl,ho,fk⟩
def kI:List dg->Int->Bool
 |[],_=>true
 |w::r,f=>if w.becomes=none then kI r (f+1) else if f=0 then false else if w.replaces=false then kI r (f-1) else kI r f
def pP (x:DS)(n:Nat)(ss:List (List UInt8×Nat))(free:Int):Bool:=decide (0<=free)&&kI (bB x n ss) free
theorem A5 (l:List dg)(k:Nat)(hk:k<l.length):((jA l).drop (k*5)).take 5=l[k].vals:=by
 have h:∀(l:List dg) (k:Nat),(jA l).drop (k*5)=jA (l.drop k):=by
  intro l
  induction l with
  |nil=>intro k;simp[jA]
  |cons f r ih=>
   intro k;cases k with
   |zero=>simp
   |succ k=>
    have:=ih k;have e:jA (f::r)=f.vals++jA r:=rfl;rw[e,show(k+1)*5=5+k*5 by omega,<-List.drop_drop];have e2:(f.vals++jA r).drop 5=jA r:=by simp[dg.vals]
    rw[e2];simpa using this
 rw[h,List.drop_eq_getElem_cons hk];rfl
theorem Eb:(Tryz.prog.underlying 176).map TypeDesc.isRow=some true:=by kernel_rfl
theorem ri:(Tryz.prog.info? 176).map (·.size)=some 5:=by kernel_rfl
def zJw:Value:= .agg #[.int .i64 0,.string ⟨#[]⟩,.bool false,.string ⟨#[]⟩,.bool false]
theorem Fu:(Tryz.prog.info? 176).map (·.zero)=some (some zJw):=by kernel_rfl
theorem L7 (d bl n:Nat)(vw:Value)(x:DS)(base:Nat)(v:Value)(ss:List (List UInt8×Nat))(free:Int)(w:World)(h:bE w d bl n vw x)(hv:w.ownsRow base 168 2 v ss.length (cx ss))(hl:ss.length<=54)(hp:∀p∈ss,p.2<=1)(hf0:-1<=free)(hf:free<=1000):
  Calls Tryz.prog 136 #[.pointer (some ⟨d,0,none⟩),v,.int .i64 free] w fun e w'=>e= .returned (.bool (pP x n ss free))/\aO [] w w':=by
 by_cases hneg:free<0
 .have HF:Hid (pP x n ss free=false):=by show _=_;unfold pP;rw[decide_eq_false (by omega)];rfl
  obtain⟨ad,cap,hv'⟩:=ci hv;subst hv';go_enter Tryz.func136,Tryz.ntmps136;go_wp2_with fail;go_ret;exact⟨by rw[HF.out];rfl,aO.refl _ _⟩
 .have HF:Hid (pP x n ss free=kI (bB x n ss) free):=by show _=_;unfold pP;rw[decide_eq_true (by omega)];rfl
  have hwl:(bB x n ss).length<=108:=by have:=iJ x n ss;omega
  obtain⟨ad,cap,hv'⟩:=ci hv;subst hv';go_enter Tryz.func136,Tryz.ntmps136;go_wp2_with fail;refine(u9 d bl n vw x base _ ss w h hv hl hp).mono ?_;rintro e w1 ⟨u,rfl,ho,f1⟩;generalize bB x n ss=ws at*;obtain⟨Ny,cap2,hu⟩:=ci ho;subst hu;clear hv hp;go_wp2_with fail
  go_loopw [2,15] (fun vf c wr=>∃(k:Nat) (f:Int),c= .int .i64 k/\k<=ws.length/\vf= .int .i64 f/\0<=f/\f<=1000+k/\aO [] w1 wr/\kI (ws.drop k) f=kI ws free) (fun _ c _=>ws.length-(intOf c).toNat)
  case atStart=>exact⟨0,free,rfl,by omega,rfl,by omega,by omega,aO.refl _ _,by simp⟩
  case round=>
   obtain⟨k,f,rfl,hk,rfl,hfn,hfu,fk,hfit⟩:=hrel
   by_cases hlt:k<ws.length
   .have hok:=fk.owns ho
    obtain⟨g,cur,rfl,hg,hle,_,hcs,htk⟩:=eQ hok;have hat:((cur.toList.drop (k*5)).take 5)=ws[k].vals:=by
     rw[cu htk _ _,A5 ws k hlt]
    have hd:kI (ws.drop k) f=if ws[k].becomes=none then kI (ws.drop (k+1)) (f+1) else if f=0 then false else if ws[k].replaces=false then kI (ws.drop (k+1)) (f-1) else kI (ws.drop (k+1)) f:=by
     rw[List.drop_eq_getElem_cons hlt];rfl
    rw[hd] at hfit;clear hd;generalize ws[k]=wd at*;obtain⟨st,pt,bc,rp⟩:=wd;simp only at hfit;clear hcs htk hok;go_wp2_with (with_reducible first|refine ay rfl ?_|refine av 176 rfl ?_|refine af 176 rfl ?_);refine al.go (bX rfl 176 _ rfl g (k*5) rfl Eb 5 ri _ _ hg _ hat rfl ?_);clear hat hg
    go_wp2_with (with_reducible first|refine ay rfl ?_|refine af 176 rfl ?_);refine al.go (bm rfl 176 rfl _ Fu ?_);intro w4 b7 l7 f4 r4;go_wp2_with (with_reducible first|refine ay rfl ?_|refine af 176 rfl ?_);refine al.go (bQ rfl 176 _ _ rfl _ 0 rfl _ rfl 5 ri ?_ ?_ _ _ r4 ?_ ?_)
    .rfl
    .simp[dg.vals,Value.oneCell']
    .decide
    intro w5 f5 q5;rw[bL _ _ (by rfl)] at q5;have m9:Row w5 b7 (dg.vals ⟨st,pt,bc,rp⟩).toArray 176:=q5;have mh:=fk.trans (f4.trans f5 (by simpa using l7):aO [] wr w5);have c2:w5.cell? ⟨b7,2,none⟩=some (.bool bc.isSome):=by rw[m9.cell];rfl
    have c4:w5.cell? ⟨b7,4,none⟩=some (.bool rp):=by rw[m9.cell];rfl
    clear q5 m9 r4 f4 f5 fk l7;cases bc with
    |none=>
     simp only[Option.isSome_none] at c2;rw[if_pos rfl] at hfit;go_wp2_with fail
     go_roundw
     case rel=>exact⟨k+1,f+1,by go_num,by omega,by go_num,by omega,by omega,mh,hfit⟩
     case measure=>simp[intOf];omega
    |some bb=>
     simp only[Option.isSome_some] at c2;rw[if_neg (by simp)] at hfit
     by_cases hz:f=0
     .subst hz
      rw[if_pos rfl] at hfit;have HZ:Hid (kI ws free=false):=hfit.symm;clear hfit;go_wp2_with fail;go_ret;exact⟨by rw[HF.out,HZ.out];rfl,f1.trans mh⟩
     .rw[if_neg hz] at hfit
      have hz':(f==0)=false:=by simpa using hz
      cases rp with
      |false=>
       rw[if_pos rfl] at hfit;go_wp2_with fail
       go_roundw
       case rel=>exact⟨k+1,f-1,by go_num,by omega,by go_num,by omega,by omega,mh,hfit⟩
       case measure=>simp[intOf];omega
      |true=>
       rw[if_neg (by simp)] at hfit;go_wp2_with fail
       go_roundw
       case rel=>exact⟨k+1,f,by go_num,by omega,rfl,by omega,by omega,mh,hfit⟩
       case measure=>simp[intOf];omega
   .obtain rfl:k=ws.length:=by omega
    rw[List.drop_length] at hfit;have HZ:Hid (kI ws free=true):=hfit.symm;clear hfit;go_wp2_with fail;go_ret;exact⟨by rw[HF.out,HZ.out];rfl,f1.trans fk⟩
def DS.sN (x:DS)(n:Nat)(w:dg):DS×Value:=match w.becomes with
 |none=>x.remove n w.set (aB w.path)
 |some c=>x.put n w.set (aB w.path) (aB c)
theorem MK (F:List Nat)(d n:Nat)(x:DS)(wd:dg)(w:World)(h:bM w F d n x)(hx:x.Fit 5)(iH:x.waiting.length<55)(hs:wd.set<256)(hp:wd.path.length<256)(hc:∀c,wd.becomes=some c->c.length<256):
  Calls Tryz.prog 96 #[.agg wd.vals.toArray,.pointer (some ⟨d,0,none⟩)] w fun e w'=>e= .returned (x.sN n wd).2/\∃F',bM w' F' d n (x.sN n wd).1/\aO F w w'/\ce F F' w:=by
 obtain⟨st,pt,bc,rp⟩:=wd;simp only at hs hp hc;have hps:(aB pt).size<256:=by simpa [aB,ByteArray.size] using hp
 go_enter Tryz.func96,Tryz.ntmps96;go_wp2_with (with_reducible first|refine bK rfl ?_);refine al.go (ii rfl 176 _ rfl (.agg (dg.vals ⟨st,pt,bc,rp⟩).toArray) rfl ?_);intro w1 b2 l1 f1 r1;have h1:=h.new f1;have r1':Row w1 b2 (dg.vals ⟨st,pt,bc,rp⟩).toArray 176:=r1;have c2:w1.cell? ⟨b2,2,none⟩=some (.bool bc.isSome):=by rw[r1'.cell];rfl
 have c3:w1.cell? ⟨b2,3,none⟩=some (.string (aB (bc.getD []))):=by rw[r1'.cell];rfl
 clear r1;cases bc with
 |none=>
  simp only[Option.isSome_none] at c2;have HD:Hid (x.sN n ⟨st,pt,none,rp⟩=x.remove n st (aB pt)):=rfl;go_wp2_with (with_reducible first|refine av 103 rfl ?_);refine al.go (bX rfl 103 _ rfl b2 0 rfl gP 2 eF _ _ r1' [.int .i64 st,.string (aB pt)] rfl rfl ?_);clear c2 c3 r1';go_wp2_with fail
  refine(n4 F d n x st (aB pt) w1 h1 ⟨hx.jW,by have:=hx.jV;omega,hx.jT,hx.jS⟩ (by omega)).mono ?_;rintro e w2 ⟨rfl,F',h2,f2,g2⟩;obtain⟨r,hr⟩:∃r,x.remove n st (aB pt)=r:=⟨_,rfl⟩
  rw[hr] at h2⊢;have HD2:Hid (x.sN n ⟨st,pt,none,rp⟩=r):=HD.out.trans hr;clear hr HD;obtain⟨r1,r2⟩:=r;go_wp2_with fail;go_ret;rw[HD2.out];exact⟨rfl,F',h2,(f1.mono).trans f2 (fun j hj=> .inl hj),(ce.refl F w).trans g2 f1.size⟩
 |some c=>
  simp only[Option.isSome_some] at c2;have hcs:(aB c).size<256:=by simpa [aB,ByteArray.size] using hc c rfl
  have HD:Hid (x.sN n ⟨st,pt,some c,rp⟩=x.put n st (aB pt) (aB c)):=rfl;have c3':w1.cell? ⟨b2,3,none⟩=some (.string (aB c)):=c3;clear c3;go_wp2_with (with_reducible first|refine av 103 rfl ?_|refine bH 107 rfl ?_);refine al.go (bX rfl 103 _ rfl b2 0 rfl gP 2 eF _ _ r1' [.int .i64 st,.string (aB pt)] rfl rfl ?_)
  go_wp2_with (with_reducible first|refine bH 107 rfl ?_);refine al.go (cM rfl (.agg #[.int .i64 st,.string (aB pt),.string (aB c)]) w1 (by kernel_rfl) ?_);clear c2 c3' r1';go_wp2_with fail;refine(vU F d n x st (aB pt) (aB c) w1 h1 hx iH hs hps hcs).mono ?_;rintro e w2 ⟨rfl,F',h2,f2,g2⟩;obtain⟨r,hr⟩:∃r,x.put n st (aB pt) (aB c)=r:=⟨_,rfl⟩
  rw[hr] at h2⊢;have HD2:Hid (x.sN n ⟨st,pt,some c,rp⟩=r):=HD.out.trans hr;clear hr HD;obtain⟨r1,r2⟩:=r;go_wp2_with fail;go_ret;rw[HD2.out];exact⟨rfl,F',h2,(f1.mono).trans f2 (fun j hj=> .inl hj),(ce.refl F w).trans g2 f1.size⟩
theorem zM (l:List (List UInt8×Nat))(k:Nat)(hk:k<l.length):(cx l)[k*2]? =some (.string (aB l[k].1)):=by
 have h:=nB l k hk;have h1:(((cx l).drop (k*2)).take 2)[0]? =some (.string (aB l[k].1)):=by rw[h];rfl
 rw[List.getElem?_take_of_lt (by omega),List.getElem?_drop] at h1;simpa using h1
theorem aO.SD {w w':World}{b off:Nat}{v:Value}(f:aO [] w w')(h:w.cell? ⟨b,off,none⟩=some v)(_:True):w'.cell? ⟨b,off,none⟩=some v:=by
 have hb:b<w.heap.size:=by
  unfold World.cell? at h;cases hh:w.heap[b]? with
  |none=>simp[hh] at h
  |some o=>exact(Array.getElem?_eq_some_iff.1 hh).1
 unfold World.cell? at h⊢;rw[f.block b hb (by simp)];exact h
theorem CN (base:Nat)(v:Value)(ss:List (List UInt8×Nat))(w:World)(hv:w.ownsRow base 168 2 v ss.length (cx ss))(h0:0<ss.length)(hl:ss.length<=54)(hs:ss.Pairwise fun p q=>p.1<q.1):
  Calls Tryz.prog 141 #[v] w fun e w'=>e= .returned (.bool true)/\aO [] w w':=by
 obtain⟨ad,cap,hv'⟩:=ci hv;subst hv';obtain⟨g,cur,rfl,hg,hle,_,hcs,htk⟩:=eQ hv;have hcell:∀k (hk:k<ss.length),cur[k*2]? =some (.string (aB ss[k].1)):=fun k hk=>by
  have h1:=zM ss k hk;rw[<-htk,List.getElem?_take_of_lt (by omega)] at h1;simpa using h1
 go_enter Tryz.func141,Tryz.ntmps141;go_wp2_with fail
 go_loopw [7] (fun c wr=>∃k:Nat,c= .int .i64 k/\k+1<=ss.length/\aO [] w wr) (fun c _=>ss.length-(intOf c).toNat)
 case atStart=>exact⟨0,rfl,by omega,aO.refl _ _⟩
 case round=>
  obtain⟨k,rfl,hk,fk⟩:=hrel
  by_cases hlt:k+1<ss.length
  .have hgr:=fk.row (b:=g) hg (by simp)
   have c1:wr.cell? ⟨g,k*2,none⟩=some (.string (aB (ss[k]'(by omega)).1)):=by rw[hgr.cell];exact hcell k (by omega)
   have c2:wr.cell? ⟨g,(k+1)*2,none⟩=some (.string (aB (ss[k+1]'hlt).1)):=by rw[hgr.cell];exact hcell (k+1) hlt
   have hlt2:(ss[k]'(by omega)).1<(ss[k+1]'hlt).1:=(List.pairwise_iff_getElem.1 hs) k (k+1) (by omega) hlt (by omega);generalize (ss[k]'(by omega)).1=p1 at*;generalize (ss[k+1]'hlt).1=p2 at*;go_wp2_with fail;have fin:∀(Z:List (Nat×Value)),True:=fun _=>trivial
   refine qn (by kernel_rfl) (by kernel_rfl) ?_;refine cL rfl (some 10) rfl (.slice (some ⟨g,0,none⟩) ss.length cap) (fun w' hw'=>by go_simp) ?_;simp only[Act.put,aX,aY,aW];refine cL rfl (some 11) rfl (.int .i64 k) (fun w' hw'=>by go_simp) ?_;simp only[Act.put,aX,aY,aW]
   refine cL rfl (some 12) rfl (.pointer (some ⟨g,k*2,none⟩)) (fun w' hw'=>by go_simp;intro hh;omega) ?_;simp only[Act.put,aX,aY,aW];refine cL rfl (some 13) rfl (.pointer (some ⟨g,k*2,none⟩)) (fun w' hw'=>by go_simp) ?_;simp only[Act.put,aX,aY,aW];refine cL rfl (some 14) rfl (.string (aB p1)) (fun w' hw'=>by have cc:=hw'.SD c1 (by simp);go_simp) ?_
   simp only[Act.put,aX,aY,aW];refine cL rfl (some 15) rfl (.slice (some ⟨g,0,none⟩) ss.length cap) (fun w' hw'=>by go_simp) ?_;simp only[Act.put,aX,aY,aW];refine cL rfl (some 16) rfl (.int .i64 k) (fun w' hw'=>by go_simp) ?_;simp only[Act.put,aX,aY,aW];refine cL rfl (some 17) rfl (.int .i64 (k+1:Nat)) (fun w' hw'=>by go_simp;rw[IntKind.wrap_i64];omega) ?_
   simp only[Act.put,aX,aY,aW];refine cL rfl (some 18) rfl (.pointer (some ⟨g,(k+1)*2,none⟩)) (fun w' hw'=>by go_simp;intro hh;have:=hh (by omega);omega) ?_;simp only[Act.put,aX,aY,aW];refine cL rfl (some 19) rfl (.pointer (some ⟨g,(k+1)*2,none⟩)) (fun w' hw'=>by go_simp) ?_;simp only[Act.put,aX,aY,aW]
   refine cL rfl (some 20) rfl (.string (aB p2)) (fun w' hw'=>by have cc:=hw'.SD c2 (by simp);go_simp) ?_;simp only[Act.put,aX,aY,aW];refine cL rfl (some 21) rfl (.bool false) (fun w' hw'=>by go_simp;rw[bytesLess_eq,Lib.toList_data,Lib.toList_data];exact decide_eq_true (by simpa [aB] using hlt2)) ?_;simp only[Act.put,aX,aY,aW];intro w2 f2
   have fk2:=fk.trans f2;go_wp2_with fail
   go_roundw
   case rel=>exact⟨k+1,by go_num,by omega,fk2⟩
   case measure=>simp[intOf];omega
  .go_wp2_with fail
   go_ret;exact⟨rfl,fk⟩
def chJ (s:Nat):UInt8:=if s=0 then 76 else 82
theorem sM (p:List UInt8×Nat)(r:List (List UInt8×Nat)):dc (p::r)=chJ p.2::(p.1++dc r):=rfl
theorem rj (chars:List UInt8):∀(p r:List UInt8),(∀b∈p,chars.contains b=false)->indexAny (p++r) chars=if indexAny r chars=-1 then -1 else indexAny r chars+p.length
 |[],r,_=>by
  by_cases h:indexAny r chars=-1<;>simp[h]
 |b::p,r,h=>by
  have h1:=h b (by simp);have ih:=rj chars p r fun x hx=>h x (by simp[hx])
  have hg:=indexAny_ge chars r;show(if chars.contains b then 0 else if indexAny (p++r) chars==-1 then -1 else indexAny (p++r) chars+1)=_;rw[h1,ih]
  by_cases he:indexAny r chars=-1
  .simp[he]
  .simp only[he,if_false,Bool.false_eq_true]
   rw[if_neg (by simp;omega)];simp;omega
theorem Ex {b:UInt8}(h:gS b=true):([76,82]:List UInt8).contains b=false:=by
 unfold gS at h;rw[Bool.and_eq_true] at h;have h1:97<=b.toNat:=by simpa using h.1
 simp only[List.contains_cons,List.contains_nil,Bool.or_false,Bool.or_eq_false_iff,beq_eq_false_iff_ne];constructor<;>(intro e;subst e;revert h1;decide)
theorem Av {p:List UInt8}(hp:cE p=true)(r:List (List UInt8×Nat)):indexAny (p++dc r) [76,82]=if r=[] then -1 else(p.length:Int):=by
 unfold cE at hp;simp only[Bool.and_eq_true,List.all_eq_true] at hp;rw[rj _ p _ fun b hb=>Ex (hp.2 b hb)];cases r with
 |nil=>rfl
 |cons q r=>
  have:indexAny (dc (q::r)) [76,82]=0:=by
   rw[sM];show(if([76,82]:List UInt8).contains (chJ q.2) then 0 else _)=_;rw[if_pos (by unfold chJ;split<;>decide)]
  rw[this];simp
theorem Jt {ss:List (List UInt8×Nat)}(h:∀p∈ss,cE p.1=true):∀b∈dc ss,b.toNat<128:=by
 intro b hb;unfold dc at hb;rw[List.mem_flatMap] at hb;obtain⟨p,hp,hb⟩:=hb;rcases List.mem_cons.1 hb with rfl|hb
 .split<;>decide
 .have:=h p hp
  unfold cE at this;simp only[Bool.and_eq_true,List.all_eq_true] at this;have:=this.2 b hb;unfold gS at this;rw[Bool.and_eq_true] at this;have:b.toNat<=122:=by simpa using this.2
  omega
theorem mV (l:List UInt8)(a b:Nat):(aB l).extract a b=aB ((l.take b).drop a):=by
 have h:((aB l).extract a b).data=(l.toArray).extract a b:=by simp[aB,ByteArray.data_extract]
 have h2:(l.toArray).extract a b=((l.take b).drop a).toArray:=by simp[List.extract_eq_drop_take,List.drop_take]
 have:((aB l).extract a b).data=(aB ((l.take b).drop a)).data:=h.trans h2;cases hx:(aB l).extract a b;rw[hx] at this;simp only at this;rw[this]
theorem fx {P:Program}{ops:Array Oper}{Q:Exit->Act->World->Prop}{a:Act}{w:World}{rest:List Oper}{o:Oper}{t:TypeId}{x:Operand}{l h m:Option Operand}(_:o.op= .slice t x l h m)(k:al (wpList P ops Q (o::rest) a w)):wpList P ops Q (o::rest) a w:=k
theorem rK:∀(l:List (List UInt8×Nat)),(∀p∈l,p.1.length<=8)->(dc l).length<=9*l.length
 |[],_=>by simp[dc]
 |p::l,h=>by
  have h1:=h p (by simp);have h2:=rK l fun q hq=>h q (by simp[hq])
  rw[sM,List.length_cons,List.length_append,List.length_cons];omega
theorem qS {p:List UInt8}(h:cE p=true):p.length<=8:=by
 unfold cE at h;simp only[Bool.and_eq_true] at h;simpa using h.1.2
theorem C9 (c:UInt8)(p R:List UInt8):(aB (c::(p++R))).extract (1+(p.length:Int)).toNat (aB (c::(p++R))).size=aB R:=by
 rw[mV,fZ,List.take_of_length_le (Nat.le_refl _),show(1+(p.length:Int)).toNat=p.length+1 by omega];simp
theorem zu (c:UInt8)(p:List UInt8):(aB (c::p)).extract (1+(p.length:Int)).toNat (aB (c::p)).size=aB (dc []):=by
 have:=C9 c p [];rw[List.append_nil] at this;exact this
theorem JX {P:Program}{ops:Array Oper}{Q:Exit->Act->World->Prop}{a:Act}{w:World}{rest:List Oper}{o:Oper}{as':Array Operand}{ts:Array TypeId}(_:o.op= .call {callee:= .builtin .len,args:=as',argTypes:=ts})(k:al (wpList P ops Q (o::rest) a w)):wpList P ops Q (o::rest) a w:=k
theorem CJ (ss:List (List UInt8×Nat))(w:World)(h0:0<ss.length)(hl:ss.length<=54)(hp:∀p∈ss,cE p.1=true/\p.2<=1)(hs:ss.Pairwise fun p q=>p.1<q.1):
  Calls Tryz.prog 94 #[.string (aB (dc ss))] w fun e w'=>∃u,e= .returned (.tuple #[u,.bool true])/\w'.ownsRow w.heap.size 168 2 u ss.length (cx ss)/\aO [] w w':=by
 go_enter Tryz.func94,Tryz.ntmps94;go_wp2_with fail
 go_loopw [4,5] (fun u t wr=>∃k:Nat,t= .string (aB (dc (ss.drop k)))/\k<=ss.length/\aO [] w wr/\wr.ownsRow w.heap.size 168 2 u k (cx (ss.take k))) (fun _ t _=>match t with|.string s=>s.size|_=>0)
 case atStart=>exact⟨0,rfl,by omega,aO.refl _ _,World.ownsRow_nil _ _ _ _⟩
 case round=>
  obtain⟨k,rfl,hk,fk,ho⟩:=hrel
  by_cases hlt:k<ss.length
  .have hd:ss.drop k=ss[k]::ss.drop (k+1):=List.drop_eq_getElem_cons hlt
   have hpk:=hp ss[k] (List.getElem_mem hlt);have htk:ss.take (k+1)=ss.take k++[ss[k]]:=List.take_succ_eq_append_getElem hlt;have HR:Hid (ss.take (k+1)=ss.take k++[ss[k]]):=htk;have hasc:∀b∈dc (ss.drop k),b.toNat<128:=Jt fun p hp'=>(hp p (List.mem_of_mem_drop hp')).1
   have hlen:(dc (ss.drop k)).length<=1000:=by
    have h1:=rK (ss.drop k) fun p hp'=>qS (hp p (List.mem_of_mem_drop hp')).1
    have h2:(ss.drop k).length<=54:=by rw[List.length_drop];omega
    omega
   rw[hd,sM] at hasc hlen⊢;have HD:Hid (ss.drop k=ss[k]::ss.drop (k+1)):=hd;clear hd htk;generalize ss[k]=p at*;obtain⟨p1,sd⟩:=p;simp only at hpk hasc hlen⊢;have hsc:∃(c:UInt8) (sv:Int),Hid (c=chJ sd)/\Hid (sv=sd)/\Hid (Lib.indexByte [76,82] c=sv):=⟨chJ sd,sd,rfl,rfl,by show _=_;rcases(by omega:sd=0\/sd=1) with rfl|rfl<;>decide⟩
   obtain⟨c,sv,hc,hsv,abQ⟩:=hsc;rcases(by omega:sd=0\/sd=1) with rfl|rfl
   all_goals
    obtain⟨r,hdr⟩:∃r,ss.drop (k+1)=r:=⟨_,rfl⟩
    rw[hdr] at HD hasc hlen⊢;go_wp2_with (with_reducible first|refine ei 9 rfl ?_|refine pU rfl ?_|refine fx rfl ?_);refine al.go (cM rfl (.bool true) wr (by go_simp;simp[aB]) ?_);go_wp2_with (with_reducible first|refine ei 9 rfl ?_|refine pU rfl ?_|refine fx rfl ?_)
    refine al.go (cM rfl (.int .u8 c.toNat) wr (by rw[hc.out];kernel_rfl) ?_);go_wp2_with (with_reducible first|refine ei 9 rfl ?_|refine fx rfl ?_);refine(Tryz.strings_IndexByte ⟨#[76,82]⟩ c.toNat wr).mono ?_;rintro e w1 ⟨rfl,rfl⟩;rw[show Lib.indexByte (⟨#[76,82]⟩:ByteArray).data.toList (c.toNat:Int).toNat.toUInt8=sv by simpa using abQ.out,hsv.out];clear abQ
    go_wp2_with (with_reducible first|refine ei 9 rfl ?_|refine fx rfl ?_);refine al.go (cM rfl (.string (aB (p1++dc r))) w1 (by go_simp;rw[if_pos (by rw[fZ];simp;omega),mV,fZ,List.take_of_length_le (Nat.le_refl _)];rfl) ?_);go_wp2_with (with_reducible first|refine ei 9 rfl ?_|refine fx rfl ?_);have hia:=Av hpk.1 r
    refine(Tryz.strings_IndexAny_laid (aB (p1++dc r)) ⟨#[76,82]⟩ w1 (by rw[fZ];simp at hlen⊢;omega) (by decide) (fun j b hj=>hasc b (by
     have:b∈p1++dc r:=List.mem_of_getElem? (by simpa [aB] using hj);exact List.mem_cons_of_mem _ this)) (fun j b hj=>by
     have:b∈([76,82]:List UInt8):=List.mem_of_getElem? hj;simp at this;rcases this with rfl|rfl<;>decide)).mono ?_
    rintro e w2 ⟨rfl,bl2⟩;have f2:aO [] w1 w2:=oW (aO.refl _ _) bl2;have abU:Lib.indexAny (aB (p1++dc r)).data.toList (⟨#[76,82]⟩:ByteArray).data.toList=if r=[] then -1 else(p1.length:Int):=by simpa [aB] using hia
    rw[abU];clear hia abU bl2 hasc;have hp8:p1.length<=8:=by
     have:=hpk.1;unfold cE at this;simp only[Bool.and_eq_true] at this;simpa using this.1.2
    have hlk:k<=54:=by omega
    have HDR:Hid (ss.drop (k+1)=r):=hdr;clear hdr;have hps:(aB p1).size<=9223372036854775807:=by rw[fZ];omega
    by_cases hr:r=[]
    all_goals
     first
      |(
        rw[if_pos hr];have e0:p1++dc r=p1:=by rw[hr];simp[dc]
        rw[e0];clear e0)
      |(
        rw[if_neg hr];go_wp2_with (with_reducible first|refine fx rfl ?_);refine al.go (cM rfl (.string (aB p1)) w2 (by go_simp;rw[if_pos (by rw[fZ];simp),mV];simp) ?_))
     go_wp2_with (with_reducible first|refine bT rfl ?_|refine bU rfl ?_);refine(mL (aB p1) w2 hps).mono ?_;rintro e w3 ⟨rfl,f3⟩;have hpt:cE (aB p1).data.toList=true:=by simpa [aB] using hpk.1
     rw[hpt];clear hpt;have Ss:=(fk.trans f2).trans f3;have ho3:=f3.owns (f2.owns ho (by simp));clear ho f2 f3;go_wp2_with (with_reducible first|refine bH 168 rfl ?_|refine bT rfl ?_|refine bU rfl ?_);refine al.go (cM rfl (.agg #[.string (aB p1),.int .i64 sv]) w3 (by rw[hsv.out];kernel_rfl) ?_)
     go_wp2_with (with_reducible first|refine bT rfl ?_|refine bU rfl ?_);refine al.go (fR rfl 109 168 2 24 pd _ rfl (.agg #[.string (aB p1),.int .i64 sv]) rfl rfl ?_);intro w8 b8 l8 f8 r8;go_wp2_with (with_reducible first|refine bT rfl ?_|refine bU rfl ?_);have wK:=f8.owns ho3;have L6:=Ss.trans f8
     have hbase:w.heap.size<=w8.heap.size:=L6.size;refine al.go (iy rfl 109 168 2 24 pd _ _ rfl w.heap.size u4 _ _ rfl wK b8 1 1 [.string (aB p1),.int .i64 sv] rfl _ _ r8 rfl rfl (by simp[Value.oneCell']) (by omega) (by omega) (by omega) hbase ?_);intro g' cap' w9 IN f9 _;have QB:=L6.trans f9 (by intro j hj;right;simp at hj;exact(wK.lt j hj).1)
     have agl:w9.ownsRow w.heap.size 168 2 (.slice (some ⟨g',0,none⟩) (k+1) cap') (k+1) (cx (ss.take (k+1))):=by
      rw[HR.out,qA];rw[hsv.out] at IN;exact IN
     clear ho3 wK IN r8 f8 f9 l8 fk Ss L6 hbase;go_wp2_with (with_reducible first|refine JX rfl ?_|refine fx rfl ?_);refine al.go (cM rfl (.int .i64 p1.length) w9 (by kernel_rfl) ?_);have hw1:wrap64 (1+(p1.length:Int))=1+p1.length:=IntWalk.wrap64_in _ (by omega);go_wp2_with (with_reducible first|refine fx rfl ?_)
     refine al.go (cM rfl (.string (aB (dc r))) w9 (by go_simp;rw[if_pos (by rw[fZ];simp;omega)];first|rw[C9]|rw[zu]|rw[zu,hr]) ?_);go_wp2_with fail
     go_roundw
     case rel=>exact⟨k+1,by simp only[HDR.out,hr],by omega,QB,agl⟩
     case measure=>simp[fZ,hr];omega
  .obtain rfl:k=ss.length:=by omega
   rw[List.drop_length];rw[List.take_of_length_le (by omega)] at ho;have e0:aB (dc [])=⟨#[]⟩:=rfl;rw[e0];obtain⟨ad4,cap4,hu4⟩:=ci ho;subst hu4;go_wp2_with fail;refine(CN w.heap.size _ ss wr ho h0 hl hs).mono ?_;rintro e w2 ⟨rfl,f2⟩;go_wp2_with fail
   go_ret2
   exact⟨_,rfl,f2.owns ho,fk.trans f2⟩
theorem LY (d bl n:Nat)(vw:Value)(x:DS)(w:World)(h:bE w d bl n vw x):
  Calls Tryz.prog 137 #[.pointer (some ⟨d,0,none⟩)] w fun e w'=>e= .returned (.int .i64 ((aK n:Int)-(taken x n).length))/\aO [] w w':=by
 have hn:aK n<=54:=by unfold aK;omega
 have ht:=iz x n;go_enter Tryz.func137,Tryz.ntmps137;go_wp2_with fail;refine(nQ d bl n vw x w h).mono ?_;rintro e w1 ⟨rfl,rfl⟩;go_wp2_with fail;refine(lE n h.lo h.hi w1).mono ?_;rintro e w2 ⟨rfl,rfl⟩;go_wp2_with fail;refine(nA d bl n vw x w2 h).mono ?_;rintro e w3 ⟨v,rfl,ho,f3⟩;obtain⟨ad,cap,hv⟩:=ci ho;subst hv
 obtain⟨tl,htl⟩:∃tl,(taken x n).length=tl:=⟨_,rfl⟩
 obtain⟨ns,hns⟩:∃ns,aK n=ns:=⟨_,rfl⟩
 have H1:Hid ((taken x n).length=tl):=htl;have H2:Hid (aK n=ns):=hns;rw[htl] at ht ho⊢;rw[hns] at hn⊢;clear htl hns;have hw1:wrap64 ((ns:Int)-tl)=ns-tl:=IntWalk.wrap64_in _ (by omega);go_wp2_with fail;go_ret;exact⟨by rw[H1.out,H2.out];rfl,f3⟩
def oR (ss:List (List UInt8×Nat)):Prop:=∀p∈ss,cE p.1=true/\p.2<=1
def DS.begin (x:DS)(n:Nat)(ss:List (List UInt8×Nat)):DS×Value:=
 if pP x n ss ((aK n:Int)-(taken x n).length-1)=false then(x,.int .i64 7) else x.put n 3 ⟨#[]⟩ (aB (dc ss))
theorem Fm (F:List Nat)(d n:Nat)(x:DS)(base:Nat)(v:Value)(ss:List (List UInt8×Nat))(w:World)(h:bM w F d n x)(hx:x.Fit 5)(iH:x.waiting.length<55)(hv:w.ownsRow base 168 2 v ss.length (cx ss))(hl:ss.length<=7)(hp:oR ss)(hF:∀g,v.ownBlock=some g->g∉F):
  Calls Tryz.prog 92 #[.pointer (some ⟨d,0,none⟩),v] w fun e w'=>e= .returned (x.begin n ss).2/\∃F',bM w' F' d n (x.begin n ss).1/\aO F w w'/\ce F F' w:=by
 have hn:aK n<=54:=by unfold aK;omega
 have ht:=iz x n;obtain⟨bl,vw,hd,hFe⟩:=id h;have hp8:∀p∈ss,p.1.length<=8/\p.2<=1:=fun p hpm=>⟨qS (hp p hpm).1,(hp p hpm).2⟩
 have hej:(dc ss).length<=63:=by have:=rK ss fun p hpm=>(hp8 p hpm).1;omega
 obtain⟨ad,cap,hv'⟩:=ci hv;subst hv';have HB:Hid (x.begin n ss=if pP x n ss ((aK n:Int)-(taken x n).length-1)=false then(x,.int .i64 7) else x.put n 3 ⟨#[]⟩ (aB (dc ss))):=rfl;go_enter Tryz.func92,Tryz.ntmps92;go_wp2_with fail;refine(LY d bl n vw x w hd).mono ?_;rintro e w1 ⟨rfl,f1⟩;have hd1:=hd.new f1;have h1:=h.new f1;have hv1:=f1.owns hv
 have htl:(taken x n).length<=aK n:=nz (x.read 0) (aK n);generalize (taken x n).length=tl at*;generalize aK n=ns at*;have hw1:wrap64 ((ns:Int)-tl-1)=ns-tl-1:=IntWalk.wrap64_in _ (by omega);go_wp2_with fail;refine(L7 d bl n vw x base _ ss (ns-tl-1) w1 hd1 hv1 (by omega) (fun p hpm=>(hp p hpm).2) (by omega) (by omega)).mono ?_;rintro e w2 ⟨rfl,f2⟩
 have h2:=h1.new f2;have hv2:=f2.owns hv1;have fw:=f1.trans f2;have fF:aO F w w2:=fw.mono;clear hd hd1 h1 hv1 f1 f2;cases hfit:pP x n ss (ns-tl-1) with
 |false=>
  have HB2:Hid (x.begin n ss=(x,.int .i64 7)):=by show _=_;rw[HB.out,hfit];rfl
  clear HB hfit;go_wp2_with fail;go_ret;rw[HB2.out];exact⟨rfl,F,h2,fF,ce.refl _ _⟩
 |true=>
  have HB2:Hid (x.begin n ss=x.put n 3 ⟨#[]⟩ (aB (dc ss))):=by show _=_;rw[HB.out,hfit];rfl
  clear HB hfit;go_wp2_with fail;refine(ib w2).mono ?_;rintro e w3 ⟨rfl,f3⟩;have h3:=h2.new f3;have hv3:=f3.owns hv2;have EP:=fw.trans f3;clear h2 hv2 f3 fw fF;go_wp2_with fail;refine(CH base _ ss w3 hv3 (by omega) hp8).mono ?_;rintro e w4 ⟨rfl,f4⟩;have h4:=h3.new f4;have DC:=EP.trans f4;clear h3 hv3 f4 EP
  go_wp2_with (with_reducible first|refine bH 107 rfl ?_);refine al.go (cM rfl (.agg #[.int .i64 (3:Nat),.string ⟨#[]⟩,.string (aB (dc ss))]) w4 (by kernel_rfl) ?_);go_wp2_with fail;refine(vU F d n x 3 ⟨#[]⟩ (aB (dc ss)) w4 h4 hx iH (by omega) (by decide) (by rw[fZ];omega)).mono ?_;rintro e w5 ⟨rfl,F',h5,f5,g5⟩
  obtain⟨r,hr⟩:∃r,x.put n 3 ⟨#[]⟩ (aB (dc ss))=r:=⟨_,rfl⟩
  rw[hr] at h5⊢;have HB3:Hid (x.begin n ss=r):=HB2.out.trans hr;clear hr HB2;obtain⟨r1,r2⟩:=r;go_wp2_with fail;go_ret;rw[HB3.out];exact⟨rfl,F',h5,(DC.mono).trans f5 (fun j hj=> .inl hj),(ce.refl F w).trans g5 DC.size⟩
def qv:Value->Int
 |.int _ e=>e
 |_=>0
theorem DS.Fit.weak {x:DS}{m k:Nat}(h:x.Fit (m+k)):x.Fit m:=⟨h.jW,by have:=h.jV;omega,h.jT,h.jS⟩
theorem zd {x:DS}{t o:Int}{m:Nat}(hx:x.Fit (m+2))(h:x.jm t o=true):(x.mark t o).Fit m/\(x.mark t o).waiting=[]:=by
 unfold DS.jm at h;rw[Bool.and_eq_true] at h;unfold DS.mark;rw[if_pos h.1];refine⟨DS.zn (DS.je (r:=m+1) hx h.1) h.2,?_⟩;unfold DS.flush;rw[if_pos h.2]
theorem Ce {x:DS}{n s m:Nat}{p c:ByteArray}(hx:x.Fit (m+5)):∃e:Int,(x.put n s p c).2= .int .i64 e/\(e=0->(x.put n s p c).1.Fit m/\(x.put n s p c).1.waiting=[]):=by
 unfold DS.put;split
 .exact⟨7,rfl,fun h=>by cases h⟩
 .split
  .rename_i h1 h2
   refine⟨_,rfl,fun h=>?_⟩;have h3:=(DS.A8 (m:=m+2) hx h2).1;split at h
   .exact zd h3 (by assumption)
   .cases h
  .exact⟨3,rfl,fun h=>by cases h⟩
theorem B4 {x:DS}{n s m:Nat}{p:ByteArray}(hx:x.Fit (m+5)):∃e:Int,(x.remove n s p).2= .int .i64 e/\(e=0->(x.remove n s p).1.Fit m/\(x.remove n s p).1.waiting=[]):=by
 unfold DS.remove;split
 .exact⟨5,rfl,fun h=>by cases h⟩
 .refine⟨_,rfl,fun h=>?_⟩
  have h3:x.Fit (m+3+2):=hx;split at h
  .have:=zd h3 (by assumption)
   exact⟨this.1.weak (k:=3),this.2⟩
  .cases h
theorem ML {x:DS}{n m:Nat}{w:dg}(hx:x.Fit (m+5)):∃e:Int,(x.sN n w).2= .int .i64 e/\(e=0->(x.sN n w).1.Fit m/\(x.sN n w).1.waiting=[]):=by
 unfold DS.sN;cases w.becomes with
 |none=>exact B4 hx
 |some c=>exact Ce hx
def DS.gj (x:DS)(n:Nat):List dg->DS×Value
 |[]=>(x,.int .i64 0)
 |w::r=>if qv (x.sN n w).2=0 then(x.sN n w).1.gj n r else x.sN n w
def DS.rI (x:DS)(n:Nat)(ss:List (List UInt8×Nat)):DS×Value:=
 if qv (x.gj n (bB x n ss)).2=0 then(x.gj n (bB x n ss)).1.remove n 3 ⟨#[]⟩ else x.gj n (bB x n ss)
theorem rM {x:DS}{n:Nat}{s:Int}{p:ByteArray}{c:List UInt8}(h:x.content n s p=some c):c.length<=96:=by
 unfold DS.content at h;split at h
 .rw[<-Option.some.inj h]
  unfold bR;rw[List.length_take];omega
 .cases h
theorem GU {x:DS}{n:Nat}{ss:List (List UInt8×Nat)}(hp:oR ss):∀w∈bB x n ss,w.set<256/\w.path.length<256/\∀c,w.becomes=some c->c.length<256:=by
 intro w hw;unfold bB at hw;obtain⟨p,hp',hw⟩:=List.mem_flatMap.1 hw;have hpp:=hp p hp';have one:∀set,set<=2->w∈dk x n p set->w.set<256/\w.path.length<256/\∀c,w.becomes=some c->c.length<256:=fun set hs hm=>by
  unfold dk at hm;split at hm
  .simp at hm
  .simp only[List.mem_singleton] at hm
   subst hm;exact⟨by show set<256;omega,by have:=qS hpp.1;show p.1.length<256;omega,fun c hc=>by have:=rM hc;omega⟩
 unfold fu at hw;rcases List.mem_append.1 hw with hw|hw
 .exact one _ (by omega) hw
 .exact one _ (by omega) hw
theorem bM.apart {w:World}{F:List Nat}{d n:Nat}{x:DS}(h:bM w F d n x){b:Nat}{c:Array Value}{t:TypeId}(r:Row w b c t)(h1:t≠134)(h2:t≠148)(h3:t≠240):b∉F:=by
 obtain⟨bl,vw,hd,rfl⟩:=h;unfold Row at r;intro hb;rcases List.mem_cons.1 hb with rfl|hb
 .have:=hd.row
  unfold Row at this;rw[r] at this;cases this;exact h1 rfl
 rcases List.mem_cons.1 hb with rfl|hb
 .have:=hd.last
  unfold Row at this;rw[r] at this;cases this;exact h2 rfl
 .rcases hd.own.2 with⟨e,_⟩|⟨g,cap,cur,e,_,hg,_⟩
  .rw[e] at hb;simp[Value.ownBlock] at hb
  .rw[e] at hb
   have:b=g:=by simpa [Value.ownBlock] using hb
   subst this;rw[r] at hg;cases hg;exact h3 rfl
theorem Ik {w:World}{F:List Nat}{d n base size k:Nat}{x:DS}{v:Value}{e:TypeId}{xs:List Value}(h:bM w F d n x)(ho:w.ownsRow base e size v k xs)(h1:e≠134)(h2:e≠148)(h3:e≠240):∀j∈F,v.ownBlock≠some j:=fun j hj hv=>by
 rcases ho.2 with⟨rfl,_⟩|⟨g,cap,cur,rfl,_,hg,_⟩
 .cases hv
 .have:g=j:=by simpa [Value.ownBlock] using hv
  subst this;exact h.apart (c:=cur) (t:=e) hg h1 h2 h3 hj
theorem Mz (F:List Nat)(d n:Nat)(x:DS)(ss:List (List UInt8×Nat))(w:World)(h:bM w F d n x)(hx:x.Fit 100)(iH:x.waiting.length<55)(hj:x.content n 3 ⟨#[]⟩=some (dc ss))(h0:0<ss.length)(hl:ss.length<=7)(hp:oR ss)(hs:ss.Pairwise fun p q=>p.1<q.1):
  Calls Tryz.prog 58 #[.pointer (some ⟨d,0,none⟩)] w fun e w'=>e= .returned (x.rI n ss).2/\∃F',bM w' F' d n (x.rI n ss).1/\aO F w w'/\ce F F' w:=by
 obtain⟨bl,vw,hd,hFe⟩:=id h;go_enter Tryz.func58,Tryz.ntmps58;go_wp2_with fail;refine(ib w).mono ?_;rintro e w1 ⟨rfl,f1⟩;have hd1:=hd.new f1;go_wp2_with fail;refine(rD d bl n vw x 3 ⟨#[]⟩ w1 hd1).mono ?_;rintro e w2 ⟨rfl,f2⟩;have hd2:=hd1.new f2;have fw2:=f1.trans f2;rw[hj];simp only[Option.getD_some,Option.isSome_some];go_wp2_with fail
 refine(CJ ss w2 h0 (by omega) hp hs).mono ?_;rintro e w3 ⟨u,rfl,ho3,f3⟩;have hd3:=hd2.new f3;have EP:=fw2.trans f3;go_wp2_with fail;refine(u9 d bl n vw x _ u ss w3 hd3 ho3 (by omega) fun p hpm=>(hp p hpm).2).mono ?_;rintro e w4 ⟨v,rfl,ho4,f4⟩;have DC:=EP.trans f4;have h4:=h.new DC
 have hwl:(bB x n ss).length<=14:=by have:=iJ x n ss;omega
 have hwo:=GU (x:=x) (n:=n) hp;have HE:Hid (x.rI n ss=if qv (x.gj n (bB x n ss)).2=0 then(x.gj n (bB x n ss)).1.remove n 3 ⟨#[]⟩ else x.gj n (bB x n ss)):=rfl;generalize bB x n ss=ws at*;clear hd hd1 hd2 hd3 f1 f2 f3 f4 fw2 EP ho3;obtain⟨ad,cap,hv⟩:=ci ho4;subst hv;go_wp2_with fail
 go_loopw [25] (fun c wr=>∃(k:Nat) (y:DS) (G:List Nat),c= .int .i64 k/\k<=ws.length/\bM wr G d n y/\y.Fit (5*(14-k)+5)/\y.waiting.length<55/\y.gj n (ws.drop k)=x.gj n ws/\aO F w4 wr/\ce F G w4/\wr.ownsRow w3.heap.size 176 5 (Value.slice ad ws.length cap) ws.length (jA ws)) (fun c _=>ws.length-(intOf c).toNat)
 case atStart=>exact⟨0,x,F,rfl,by omega,h4,DS.Fit.weak (k:=25) hx,iH,by simp,aO.refl _ _,ce.refl _ _,ho4⟩
 case round=>
  obtain⟨k,y,G,rfl,hk,hy,JD,hyw,hdo,fk,gk,hok⟩:=hrel
  by_cases hlt:k<ws.length
  .have hGa:=Ik hy hok (by decide) (by decide) (by decide)
   obtain⟨g,cur,agF,hg,hle,_,hcs,htk⟩:=eQ hok;have hat:((cur.toList.drop (k*5)).take 5)=ws[k].vals:=by
    rw[cu htk _ _,A5 ws k hlt]
   have hd:y.gj n (ws.drop k)=if qv (y.sN n ws[k]).2=0 then(y.sN n ws[k]).1.gj n (ws.drop (k+1)) else y.sN n ws[k]:=by
    rw[List.drop_eq_getElem_cons hlt];rfl
   rw[hd] at hdo;obtain⟨m,hm⟩:∃m,5*(14-k)+5=m+5:=⟨_,rfl⟩
   have hm2:m=5*(14-(k+1))+5:=by omega
   rw[hm] at JD;obtain⟨e,he,hgood⟩:=ML (n:=n) (w:=ws[k]) JD;have hwk:=hwo ws[k] (List.getElem_mem hlt);clear hd hcs htk;generalize ws[k]=wd at*;subst agF;go_wp2_with (with_reducible first|refine ay rfl ?_|refine av 176 rfl ?_|refine af 176 rfl ?_);refine al.go (bX rfl 176 _ rfl g (k*5) rfl Eb 5 ri _ _ hg _ hat rfl ?_);clear hat hg
   go_wp2_with (with_reducible first|refine ay rfl ?_|refine af 176 rfl ?_);refine al.go (bm rfl 176 rfl _ Fu ?_);intro w5 b7 l7 f5 r5;go_wp2_with (with_reducible first|refine ay rfl ?_|refine av 176 rfl ?_|refine af 176 rfl ?_);refine al.go (bQ rfl 176 _ _ rfl _ 0 rfl _ rfl 5 ri ?_ ?_ _ _ r5 ?_ ?_)
   .rfl
   .simp[dg.vals,Value.oneCell']
   .decide
   intro w6 f6 q6;rw[bL _ _ (by rfl)] at q6;have U8:Row w6 b7 wd.vals.toArray 176:=q6;have Gw:aO [] wr w6:=f5.trans f6 (by simpa using l7);have hy6:=hy.new Gw;have agk:=Gw.owns hok;clear q6 r5 f5 f6 hok hy;go_wp2_with (with_reducible first|refine ay rfl ?_|refine av 176 rfl ?_)
   refine al.go (bX rfl 176 _ rfl b7 0 rfl Eb 5 ri _ _ U8 wd.vals (by rfl) rfl ?_);clear U8;go_wp2_with fail;refine(MK G d n y wd w6 hy6 ⟨JD.jW,by have:=JD.jV;omega,JD.jT,JD.jS⟩ hyw hwk.1 hwk.2.1 hwk.2.2).mono ?_;rintro e w7 ⟨rfl,G',h7,f7,g7⟩
   have fk7:aO F w4 w7:=fk.trans ((Gw.mono).trans f7 (fun j hj=> .inl hj):aO G wr w7) (fun j hj=>gk j hj);have gk7:ce F G' w4:=gk.trans (ce.trans (ce.refl G wr) g7 Gw.size) fk.size;have agj:=f7.owns agk hGa;rw[he] at hdo⊢;have HD:Hid (x.gj n ws=if qv (.int .i64 e)=0 then(y.sN n wd).1.gj n (ws.drop (k+1)) else y.sN n wd):=hdo.symm
   have HP:Hid (y.sN n wd=((y.sN n wd).1,.int .i64 e)):=Prod.ext rfl he;clear hdo he;generalize (y.sN n wd).1=z at*
   by_cases JE:e=0
   .subst JE
    obtain⟨hzf,hzw⟩:=hgood rfl;have HD2:Hid (x.gj n ws=z.gj n (ws.drop (k+1))):=HD.out;clear hgood HD HP;go_wp2_with fail
    go_roundw
    case rel=>exact⟨k+1,z,G',by go_num,by omega,h7,hm2▸hzf,by rw[hzw];decide,HD2.out.symm,fk7,gk7,agj⟩
    case measure=>simp[intOf];omega
   .have abW:(e==0)=false:=by simpa using JE
    have HD2:Hid (x.rI n ss=(z,.int .i64 e)):=by
     have h1:x.gj n ws=(z,.int .i64 e):=by rw[HD.out,if_neg (by simpa [qv] using JE),HP.out]
     show _=_;rw[HE.out,h1,if_neg (by simpa [qv] using JE)]
    clear hgood HD HP HE;go_wp2_with fail;go_ret;rw[HD2.out];exact⟨rfl,G',h7,(DC.mono).trans fk7 (fun j hj=> .inl hj),(ce.refl F w).trans gk7 DC.size⟩
  .obtain rfl:k=ws.length:=by omega
   rw[List.drop_length] at hdo;have HD2:Hid (x.rI n ss=y.remove n 3 ⟨#[]⟩):=by
    have h1:x.gj n ws=(y,.int .i64 0):=hdo.symm;show _=_;rw[HE.out,h1];rfl
   clear hdo HE hok;go_wp2_with fail;refine(ib wr).mono ?_;rintro e w5 ⟨rfl,f5⟩;have h5:=hy.new f5;go_wp2_with fail;refine(n4 G d n y 3 ⟨#[]⟩ w5 h5 ⟨JD.jW,by have:=JD.jV;omega,JD.jT,JD.jS⟩ (by omega)).mono ?_;rintro e w6 ⟨rfl,G',h6,f6,g6⟩;obtain⟨r,hr⟩:∃r,y.remove n 3 ⟨#[]⟩=r:=⟨_,rfl⟩
   rw[hr] at h6⊢;have HD3:Hid (x.rI n ss=r):=HD2.out.trans hr;clear hr HD2;obtain⟨r1,r2⟩:=r;go_wp2_with fail;go_ret;rw[HD3.out];have Gw:aO F w4 w6:=fk.trans ((f5.mono).trans f6 (fun j hj=> .inl hj):aO G wr w6) (fun j hj=>gk j hj);have gk6:ce F G' w4:=gk.trans (ce.trans (ce.refl G wr) g6 f5.size) fk.size
   exact⟨rfl,G',h6,(DC.mono).trans Gw (fun j hj=> .inl hj),(ce.refl F w).trans gk6 DC.size⟩
theorem O9 (x:DS)(n s:Nat)(p c:ByteArray):∃e:Int,(x.put n s p c).2= .int .i64 e:=by
 unfold DS.put;split
 .exact⟨_,rfl⟩
 .split<;>exact⟨_,rfl⟩
theorem vN (x:DS)(n s:Nat)(p:ByteArray):∃e:Int,(x.remove n s p).2= .int .i64 e:=by
 unfold DS.remove;split<;>exact⟨_,rfl⟩
theorem zp (n:Nat):∀(ws:List dg) (x:DS),∃e:Int,(x.gj n ws).2= .int .i64 e
 |[],_=>⟨0,rfl⟩
 |w::r,x=>by
  unfold DS.gj;split
  .exact zp n r _
  .unfold DS.sN
   cases w.becomes with
   |none=>exact vN ..
   |some c=>exact O9 ..
theorem ME (x:DS)(n:Nat)(ss:List (List UInt8×Nat)):∃e:Int,(x.rI n ss).2= .int .i64 e:=by
 unfold DS.rI;split
 .exact vN ..
 .exact zp ..
theorem xx {x:DS}{n m:Nat}{ss:List (List UInt8×Nat)}(hx:x.Fit (m+5)):∃e:Int,(x.begin n ss).2= .int .i64 e/\(e=0->(x.begin n ss).1.Fit m/\(x.begin n ss).1.waiting=[]):=by
 unfold DS.begin;split
 .exact⟨7,rfl,fun h=>by cases h⟩
 .exact Ce hx
def DS.xa (x:DS)(n:Nat)(ss:List (List UInt8×Nat)):DS×Value:=
 if ss=[] then(x,.int .i64 0) else if qv (x.begin n ss).2=0 then(x.begin n ss).1.rI n ss else x.begin n ss
theorem QO (x:DS)(n:Nat)(ss:List (List UInt8×Nat))(hx:x.Fit 105):∃e:Int,(x.xa n ss).2= .int .i64 e:=by
 unfold DS.xa;split
 .exact⟨0,rfl⟩
 .split
  .exact ME ..
  .exact(xx (m:=100) hx).imp fun e h=>h.1
theorem aQ.moved {w w':World}{F F':List Nat}{s d n:Nat}{x x':DS}(h:aQ w F s d n x)(hd:bM w' F' d n x')(f:aO F w w')(g:ce F F' w):aQ w' F' s d n x':=
 ⟨f.row h.row h.ne,hd,fun hF=>(g s hF).elim h.ne (fun hh=>by have:=h.row.lt;omega)⟩
theorem QM (F:List Nat)(s d n:Nat)(x:DS)(base:Nat)(v:Value)(ss:List (List UInt8×Nat))(w:World)(h:aQ w F s d n x)(hx:x.Fit 105)(iH:x.waiting.length<55)(hv:w.ownsRow base 168 2 v ss.length (cx ss))(hl:ss.length<=7)(hp:oR ss)(hs:ss.Pairwise fun p q=>p.1<q.1)
  (hF:∀g,v.ownBlock=some g->g∉F) (hB:qv (x.begin n ss).2=0->(x.begin n ss).1.content n 3 ⟨#[]⟩=some (dc ss)):
  Calls Tryz.prog 56 #[.pointer (some ⟨s,0,none⟩),v] w fun e w'=>e= .returned (x.xa n ss).2/\(∃F',aQ w' F' s d n (x.xa n ss).1/\ce F F' w)/\aO F w w':=by
 have c0:=h.cell;obtain⟨ad,cap,hv'⟩:=ci hv;subst hv';have HD:Hid (x.xa n ss=if ss=[] then(x,.int .i64 0) else if qv (x.begin n ss).2=0 then(x.begin n ss).1.rI n ss else x.begin n ss):=rfl;go_enter Tryz.func56,Tryz.ntmps56
 by_cases h0:ss.length=0
 .have HD2:Hid (x.xa n ss=(x,.int .i64 0)):=HD.out.trans (if_pos (List.length_eq_zero_iff.1 h0))
  rw[h0];clear HD hv hs hp hB hl h0;go_wp2_with fail;go_ret;rw[HD2.out];exact⟨rfl,⟨F,h,ce.refl _ _⟩,aO.refl _ _⟩
 .have hne:ss≠[]:=fun e=>h0 (by rw[e];rfl)
  have h0':0<ss.length:=by omega
  have hlb:((ss.length:Int)==0)=false:=by simp;omega
  obtain⟨e1,he1,hgood⟩:=xx (m:=100) (n:=n) (ss:=ss) hx;go_wp2_with fail;refine(Fm F d n x base _ ss w h.disk ⟨hx.jW,by have:=hx.jV;omega,hx.jT,hx.jS⟩ iH hv hl hp hF).mono ?_;rintro e w1 ⟨rfl,F1,h1,f1,g1⟩;have hs1:=h.moved h1 f1 g1;have c1:=hs1.cell;rw[he1] at hB HD⊢;have HB:Hid (x.begin n ss=((x.begin n ss).1,.int .i64 e1)):=Prod.ext rfl he1;clear he1 c0 h0
  generalize (x.begin n ss).1=y at*
  by_cases JE:e1=0
  .subst JE
   obtain⟨JD,hyw⟩:=hgood rfl;have HD2:Hid (x.xa n ss=y.rI n ss):=HD.out.trans (if_neg hne);have hjy:=hB rfl;clear HD HB hB hgood hlb;go_wp2_with fail;refine(Mz F1 d n y ss w1 h1 JD (by rw[hyw];decide) hjy h0' hl hp hs).mono ?_;rintro e w2 ⟨rfl,F2,h2,f2,g2⟩;obtain⟨r,hr⟩:∃r,y.rI n ss=r:=⟨_,rfl⟩
   rw[hr] at h2⊢;have HD3:Hid (x.xa n ss=r):=HD2.out.trans hr;clear hr HD2;obtain⟨r1,r2⟩:=r;go_wp2_with fail;go_ret;rw[HD3.out];exact⟨rfl,⟨F2,hs1.moved h2 f2 g2,g1.trans g2 f1.size⟩,f1.trans f2 (fun j hj=>g1 j hj)⟩
  .have abW:(e1==0)=false:=by simpa using JE
   have HD2:Hid (x.xa n ss=(y,.int .i64 e1)):=HD.out.trans ((if_neg hne).trans ((if_neg (by simpa [qv] using JE)).trans HB.out));clear HD HB hB hgood hlb;go_wp2_with fail;go_ret;rw[HD2.out];exact⟨rfl,⟨F1,hs1,g1⟩,f1⟩
def ik (l:List (List UInt8)):Array Value:=(l.map fun b=>Value.string (aB b)).toArray
theorem eh (l:List (List UInt8)):(ik l).size=l.length:=by simp[ik]
theorem vo (l:List (List UInt8))(i:Nat)(h:i<l.length):(ik l)[i]? =some (.string (aB l[i])):=by simp[ik,h]
theorem oA (b:List UInt8):(aB b).toList=b:=by rw[ByteArray.toList_eq];rfl
theorem AL:Tryz.prog.cellsOf 9=1:=by kernel_rfl
theorem CK:(Tryz.prog.info? 9).map (·.size)=some 1:=by kernel_rfl
theorem mM:(Tryz.prog.info? 33).map (·.size)=some 21:=by kernel_rfl
theorem yW:(Tryz.prog.underlying 33).map TypeDesc.isRow=some true:=by kernel_rfl
end
section
open Go.RowKit Go.Lib Go.Sort
section
variable {L:List UInt8}{n:Nat}{m:dJ}
theorem mZ.loose (h:mZ L n m){j:Nat}{b:List UInt8}(hj:j<n)(h0:j≠0)(hb:b.length=64)(hf:∀i f,m i=some f->j≠1+2*i/\j≠2+2*i):mZ (bG L ((j:Int),b)) n m where
 len:=Ga L n h.len j hj b hb
 lo:=h.lo
 root:=by rw[jB L n h.len j hj b hb,if_neg (by omega),h.root]
 recs i f hm:=by
  have h1:=hf i f hm;rw[jB L n h.len j hj b hb,jB L n h.len j hj b hb,if_neg (by omega),if_neg (by omega),h.recs i f hm]
 lt:=h.lt
 good:=h.good
 inj:=h.inj
theorem wR {i:Nat}(hi:m i=none){j:Nat}(hj:j=1+2*i\/j=2+2*i):∀k f,m k=some f->j≠1+2*k/\j≠2+2*k:=by
 intro k f hk;have:k≠i:=fun e=>by subst e;rw[hi] at hk;cases hk
 omega
def pQ (m:dJ)(o:Int):dJ:=if o=-1 then m else upd m o.toNat none
def after (m:dJ)(i:Nat)(f:cV)(o:Int):dJ:=pQ (upd m i (some f)) o
theorem qK (m:dJ)(o:Int)(ho:-1<=o/\o<54):fv (eg n m) o 0=eg n (pQ m o):=by
 unfold fv pQ;split
 .rfl
 .exact BQ n m o.toNat (by omega) none
theorem Al (m:dJ)(i:Nat)(hi:i<54)(f:cV)(o:Int)(ho:-1<=o/\o<54):aZ (eg n m) i o=eg n (after m i f o):=by
 unfold aZ after;have:fv (eg n m) (i:Int) 1=eg n (upd m i (some f)):=by
  unfold fv;rw[if_neg (by omega)];exact BQ n m i hi (some f)
 rw[this,qK _ o ho]
theorem ya (m:dJ)(o:Int)(ho:-1<=o/\o<54):aZ (eg n m) (-1) o=eg n (pQ m o):=by
 unfold aZ;rw[show fv (eg n m) (-1) 1=eg n m from rfl,qK _ o ho]
theorem fJ {m:dJ}{o:Int}{j:Nat}{f:cV}(h:pQ m o j=some f):m j=some f/\(0<=o->o.toNat≠j):=by
 unfold pQ at h;split at h
 .exact⟨h,by omega⟩
 .unfold upd at h
  split at h
  .cases h
  .rename_i hne
   exact⟨h,fun _ e=>hne e.symm⟩
theorem ql {m:dJ}{o:Int}{j:Nat}(h:o=-1\/(0<=o/\o≠j)):pQ m o j=m j:=by
 unfold pQ;split
 .rfl
 .unfold upd
  rw[if_neg (by omega)]
theorem mZ.rooted (h:mZ L n m){m':dJ}(hn:0<n)(hr:∀i f,m' i=some f->j0 L (1+2*i)++j0 L (2+2*i)=cN f.set f.path f.content)(hl:∀i f,m' i=some f->i<aK n)
  (hg:∀i f,m' i=some f->iW f.set f.path=true/\f.content.length<=96) (hi:∀i j f g,m' i=some f->m' j=some g->nameOf f=nameOf g->i=j):mZ (bG L (0,eg n m')) n m' where
 len:=Ga L n h.len 0 hn _ (iT _ _)
 lo:=h.lo
 root:=by
  have:=jB L n h.len 0 hn _ (iT n m') 0;rw[if_pos rfl] at this;exact this
 recs i f hm:=by
  have h1:=jB L n h.len 0 hn _ (iT n m') (1+2*i);have h2:=jB L n h.len 0 hn _ (iT n m') (2+2*i);rw[if_neg (by omega)] at h1 h2;show j0 (bG L (((0:Nat):Int),eg n m')) _++j0 (bG L (((0:Nat):Int),eg n m')) _=_;rw[h1,h2];exact hr i f hm
 lt:=hl
 good:=hg
 inj:=hi
theorem mZ.dropped (h:mZ L n m)(o:Int):mZ (bG L (0,eg n (pQ m o))) n (pQ m o):=
 h.rooted (by have:=h.lo;omega) (fun i f hm=>h.recs i f (fJ hm).1) (fun i f hm=>h.lt i f (fJ hm).1) (fun i f hm=>h.good i f (fJ hm).1)
  fun i j f g hf hg e=>h.inj i j f g (fJ hf).1 (fJ hg).1 e
theorem iv {m:dJ}{i:Nat}{f:cV}{o:Int}{j:Nat}{g:cV}(h:after m i f o j=some g):(j=i/\g=f)\/(j≠i/\m j=some g/\(0<=o->o.toNat≠j)):=by
 unfold after at h;obtain⟨h1,h2⟩:=fJ h;unfold upd at h1;split at h1
 .rename_i e
  exact .inl ⟨e,(Option.some.inj h1).symm⟩
 .rename_i e
  exact .inr ⟨e,h1,h2⟩
theorem mZ.put (h:mZ L n m){i:Nat}{f:cV}{o:Int}(hi:i<aK n)(hrec:j0 L (1+2*i)++j0 L (2+2*i)=cN f.set f.path f.content)
  (hg:iW f.set f.path=true/\f.content.length<=96) (ho:∀j g,m j=some g->nameOf g=nameOf f->o=j):mZ (bG L (0,eg n (after m i f o))) n (after m i f o):=by
 refine h.rooted (by have:=h.lo;omega) (fun j g hm=>?_) (fun j g hm=>?_) (fun j g hm=>?_) fun j k g g' hj hk e=>?_
 .rcases iv hm with⟨rfl,rfl⟩|⟨_,h1,_⟩
  .exact hrec
  .exact h.recs j g h1
 .rcases iv hm with⟨rfl,rfl⟩|⟨_,h1,_⟩
  .exact hi
  .exact h.lt j g h1
 .rcases iv hm with⟨rfl,rfl⟩|⟨_,h1,_⟩
  .exact hg
  .exact h.good j g h1
 .rcases iv hj with⟨rfl,rfl⟩|⟨_,h1,h2⟩
  .rcases iv hk with⟨rfl,rfl⟩|⟨_,h3,h4⟩
   .rfl
   .have:=ho k g' h3 e.symm
    have:=h4 (by omega);omega
  .rcases iv hk with⟨rfl,rfl⟩|⟨_,h3,h4⟩
   .have:=ho j g h1 e
    have:=h2 (by omega);omega
   .exact h.inj j k g g' h1 h3 e
end
def half (r:List UInt8)(k:Nat):List UInt8:=(r.drop (k*64)).take 64
theorem CT (r:List UInt8)(h:r.length=128)(k:Nat)(hk:k<2):(half r k).length=64:=by
 unfold half;rw[List.length_take,List.length_drop];omega
theorem halves (r:List UInt8)(h:r.length=128):half r 0++half r 1=r:=by
 unfold half;simp only[Nat.zero_mul,List.drop_zero,Nat.one_mul];rw[List.take_of_length_le (l:=r.drop 64) (by rw[List.length_drop];omega),List.take_append_drop]
def Ef (L:List UInt8)(i:Nat)(r:List UInt8):List UInt8:=bG (bG L ((1+2*i:Nat),half r 0)) ((2+2*i:Nat),half r 1)
section
variable (L:List UInt8)(a k kp:Int)(n s:Nat)(p c:ByteArray)(i:Nat)(o:Int)(root r:List UInt8)
theorem KN (hr:cN s p.data.toList c.data.toList=r)
  (hfi:dO ⟨L,[],a,false,k,kp,false⟩ n=i) (hsl:cG ⟨L,[],a,false,k,kp,false⟩ s p (taken ⟨L,[],a,false,k,kp,false⟩ n)=o) (hroot:seenIn (Ef L i r) [] 0=root):
  (⟨L,[],a,false,k,kp,false⟩:DS).put n s p c=(⟨bG (Ef L i r) (0,aZ root i o),[],a+5,false,k,kp,false⟩,.int .i64 0):=by
 have e:bG (bG L ((1+2*i:Nat),List.take 64 r)) ((2+2*i:Nat),List.take 64 (List.drop 64 r))=Ef L i r:=by simp[Ef,half]
 unfold DS.put;rw[hfi,hsl,hr,if_neg (by omega)];simp[DS.jL,DS.nn,DS.wr,DS.write,DS.bn,DS.jd,DS.flush,DS.mark,DS.jm,cK,jl,DS.read];rw[show 1+2*(i:Int)=((1+2*i:Nat):Int) by omega,show((1+2*i:Nat):Int)+1=((2+2*i:Nat):Int) by omega,e,hroot];simp;omega
theorem B0 (x:DS)(hsl:cG x s p (taken x n)=-1):x.remove n s p=(x,.int .i64 5):=by
 unfold DS.remove;rw[if_pos hsl]
theorem B5 (hsl:cG ⟨L,[],a,false,k,kp,false⟩ s p (taken ⟨L,[],a,false,k,kp,false⟩ n)=o)(ho:o≠-1)(hroot:seenIn L [] 0=root):
  (⟨L,[],a,false,k,kp,false⟩:DS).remove n s p=(⟨bG L (0,aZ root (-1) o),[],a+2,false,k,kp,false⟩,.int .i64 0):=by
 unfold DS.remove;rw[hsl,if_neg ho];simp[DS.write,DS.bn,DS.jd,DS.flush,DS.mark,DS.jm,cK,jl,DS.read,hroot];omega
end
end
section
open Go.RowKit Go.Lib
def cellOf (r:Option (List UInt8)):List UInt8:=match r with
 |none=>[]
 |some c=>43::c
def DS.at (x:DS)(n q:Nat):Option (List UInt8):=x.content n ((q/7:Nat):Int) (dI (q%7))
def lV (c:Nat->Option (List UInt8))(q:Nat):List (List UInt8):=(List.range 21).map fun i=>if i<q then cellOf (c i) else []
def DS.state (x:DS)(n:Nat):List (List UInt8):=lV (x.at n) 21
theorem fi (c:Nat->Option (List UInt8))(q:Nat):(lV c q).length=21:=by simp[lV]
theorem He (c:Nat->Option (List UInt8))(q:Nat)(h:c q=none):lV c (q+1)=lV c q:=by
 unfold lV
 apply List.map_congr_left
 intro i _
 by_cases h1:i<q
 .rw[if_pos h1,if_pos (by omega)]
 .by_cases h2:i=q
  .subst h2
   rw[if_pos (by omega),if_neg h1,h];rfl
  .rw[if_neg h1,if_neg (by omega)]
theorem Hd (c:Nat->Option (List UInt8))(q:Nat)(t:List UInt8)(h:c q=some t):ik (lV c (q+1))=(ik (lV c q)).setIfInBounds q (.string (aB (43::t))):=by
 apply Array.ext_getElem?
 intro i;rw[Array.getElem?_setIfInBounds,eh,fi]
 by_cases h1:i<21
 .rw[vo _ i (by rw[fi];exact h1),vo _ i (by rw[fi];exact h1)]
  by_cases h2:q=i
  .subst h2
   rw[if_pos rfl,if_pos h1];simp[lV,h,cellOf]
  .rw[if_neg h2]
   by_cases h3:i<q
   .simp[lV,h3,show i<q+1 by omega]
   .simp[lV,h3,show ¬i<q+1 by omega]
 .rw[Array.getElem?_eq_none (by rw[eh,fi];omega),Array.getElem?_eq_none (by rw[eh,fi];omega)]
  by_cases h2:q=i
  .rw[if_pos h2,if_neg (by omega)]
  .rw[if_neg h2]
def DE:Value:= .agg (ik (List.replicate 21 []))
theorem mi:(Tryz.prog.info? 33).map (·.zero)=some (some DE):=by kernel_rfl
def iZ (x:DS)(n s p:Nat):Nat:=((List.range p).filter fun k=>(x.content n s (dI k)).isSome).length
theorem AH (x:DS)(n s p:Nat):iZ x n s (p+1)=iZ x n s p+if(x.content n s (dI p)).isSome then 1 else 0:=by
 unfold iZ;rw[List.range_succ,List.filter_append,List.length_append];cases h:(x.content n s (dI p)).isSome<;>simp[h]
theorem E3 (x:DS)(n s p:Nat):iZ x n s p<=p:=by
 unfold iZ;exact Nat.le_trans (List.length_filter_le _ _) (by simp)
theorem Cl (c n:Nat)(h:c<n):br c n=c:=by
 unfold br;rw[if_neg (by omega),Int.emod_eq_of_lt (by omega) (by omega)];rfl
theorem Da {x:DS}{n:Nat}{s:Int}{p:ByteArray}{t:List UInt8}(h:x.content n s p=some t):(aB t).size<=96:=by
 unfold DS.content at h;split at h
 .cases h
  exact vP _
 .cases h
theorem aQ.uP {w w':World}{S F:List Nat}{s d n:Nat}{x:DS}(h:aQ w F s d n x)(f:aO S w w')(h1:s∉S)(h2:∀k∈S,k∉F):aQ w' F s d n x:=⟨f.row h.row h1,h.disk.uP f h2,h.ne⟩
theorem KS (t:List UInt8):(⟨#[43]⟩:ByteArray)++aB t=aB (43::t):=by
 apply ByteArray.ext
 rw[ByteArray.data_append];simp[aB]
section
variable {P:Program}{ops:Array Oper}{Q:Exit->Act->World->Prop}{a:Act}{w:World}{rest:List Oper}{o:Oper}
theorem GX (hg:o.guard=none)(t:TypeId)(x y:Operand)(ho:o.op= .store t x y)(b off:Nat)(hx:a.eval x= .pointer (some ⟨b,off,none⟩))
  (v:ByteArray) (hy:a.eval y= .string v) (hi:(P.info? t).map (·.size)=some 1)
  (c:Array Value) (u:TypeId) (hr:Row w b c u) (hfit:off<c.size)
  (h:∀w1:World,aO [b] w w1->Row w1 b (c.setIfInBounds off (.string v)) u->wpList P ops Q rest (a.put o.dst undef) w1):wpList P ops Q (o::rest) a w:=by
 refine uw hg (w.setCell ⟨b,off,none⟩ (.string v)) ?_ (h _ (aO.setCell _ _ _ _) (hr.setCell _ _));have hc:=hr.cell off;have hf:=hr.thaw off;have hs:c[off]? =some c[off]:=by simp[hfit]
 rw[hs] at hc;have hst:(store ((⟨b,off,none⟩:Addr).add 0) (.string v)).run P w= .ok () (w.setCell ⟨b,off,none⟩ (.string v)):=by
  rw[Addr.add_mid,Nat.add_zero,run_store P w _ _ _ rfl,hc];simp[hf]
 cases hq:P.info? t with
 |none=>simp[hq] at hi
 |some i=>
  have h1:i.size=1:=by simpa [hq] using hi
  simp[execOp,ho,hx,hy,Instr.storeAt,Instr.sureAddr,storeVar,sizeOf,typeInfo,hq,h1,Value.cells,storeCells,hst]
theorem KD {fn:Func}{R:Ending->World->Prop}{tp tq:Tmp}{ty:TypeId}(hf:fn.results=#[.cell tp ty,.tmp tq])(b:Nat)(hp:a.tmps.getD tp undef= .pointer (some ⟨b,0,none⟩))(hd:a.defers=[])
  (c:Array Value) (u:TypeId) (hr:Row w b c u) (hu:(P.underlying ty).map TypeDesc.isRow=some true) (hi:(P.info? ty).map (·.size)=some c.size) (v:Value) (hv:a.tmps.getD tq undef=v) (h:R (.returned (.tuple #[.agg c,v])) w):bodyPost P fn R .ret a w:=by
 obtain⟨d,hu',hd'⟩:=Option.map_eq_some_iff.1 hu;have hl:=run_loadVar_row (P:=P) w b u ty c (0,0) d hr hu' (by revert hd' hu';cases d<;>intro x y<;>first|rfl|cases y) hi;refine bodyPost_ret ?_ hd h;rw[results_cell_tmp hf,hp,hv];simp[asAddr,hl]
end
theorem Kj (F:List Nat)(s d n:Nat)(x:DS)(w:World)(h:aQ w F s d n x)(hf:x.failed=false)(hw:x.waiting=[])(hcnt:∀side,side<3->(bJ (aP x n) side).length=iZ x n side 7):
  Calls Tryz.prog 15 #[.pointer (some ⟨s,0,none⟩)] w fun e w'=>e= .returned (.tuple #[.agg (ik (x.state n)),.bool true])/\aO [] w w':=by
 go_enter Tryz.func15,Tryz.ntmps15;go_wp2_with (with_reducible first|refine ay rfl ?_);refine al.go (bm rfl 33 rfl DE mi ?_);intro w1 b2 l2 f1 r2;go_wp2_with (with_reducible first|refine ay rfl ?_);refine al.go (bm rfl 33 rfl DE mi ?_);intro w2 b4 l4 f2 r4;have q2:Row w2 b2 (ik (List.replicate 21 [])) 33:=f2.row r2
 have q4:Row w2 b4 (ik (lV (x.at n) 0)) 33:=r4;have hne:b2≠b4:=by have:=r2.lt;omega
 have fw:=f1.trans f2;have h2:=h.new fw;have hb4:w.heap.size<=b4:=by have:=f1.size;omega
 have ab5:s≠b4/\b4∉F:=⟨by have:=h.row.lt;omega,fun hF=>by have:=h.disk.lt b4 hF;omega⟩
 clear r2 r4 f1 f2 h l4;go_wp2_with fail
 go_loopw [5] (fun i wr=>∃k:Nat,i= .int .i64 k/\k<=3/\aO [] w wr/\Row wr b2 (ik (List.replicate 21 [])) 33/\Row wr b4 (ik (lV (x.at n) (7*k))) 33/\aQ wr F s d n x) (fun i _=>3-(intOf i).toNat)
 case atStart=>exact⟨0,rfl,by omega,fw,q2,q4,h2⟩
 case round=>
  obtain⟨k,rfl,hk,fk,k2,k4,hst⟩:=hrel;clear fw q2 q4 h2
  by_cases hlt:k<3
  .go_wp2_with fail
   refine(Ln F s d n x k wr hst (by omega)).mono ?_;rintro e w3 ⟨⟨ad,cap,rfl⟩,f3⟩;have abC:=hst.new f3;have Ss:=fk.trans f3;have k23:=f3.row k2;have k43:=f3.row k4;have hcn:=hcnt k hlt;rw[hf];generalize hLN:(bJ (aP x n) k).length=ln at hcn⊢;have HCN:Hid (iZ x n k 7=ln):=hcn.symm;clear hLN f3 fk k2 k4 hst hcn hcnt
   simp only[Bool.false_eq_true,if_false];go_wp2_with fail;rw[show decide ((k:Int)<3)=true from decide_eq_true (by omega)]
   go_loopw [8,9] (fun c i w1=>∃p:Nat,i= .int .i64 p/\p<=7/\c= .int .i64 (iZ x n k p)/\aO [] w w1/\Row w1 b2 (ik (List.replicate 21 [])) 33/\Row w1 b4 (ik (lV (x.at n) (7*k+p))) 33/\aQ w1 F s d n x) (fun _ i _=>7-(intOf i).toNat)
   case atStart=>exact⟨0,rfl,by omega,rfl,Ss,k23,k43,abC⟩
   case round=>
    obtain⟨p,rfl,hp,rfl,fp,p2,p4,hsp⟩:=hrel;clear Ss k23 k43 abC
    by_cases hlt2:p<7
    .have hcs:=AH x n k p
     have hcl:=E3 x n k p;have hpo:=vZ p hlt2;have hpk:br p 7=p:=Cl p 7 hlt2;have hat:x.at n (7*k+p)=x.content n k (dI p):=by
      unfold DS.at
      rw[show(7*k+p)/7=k by omega,show(7*k+p)%7=p by omega]
     have hget:x.get n k (dI p)=match x.content n k (dI p) with|none=>((.string ⟨#[]⟩,5):Value×Int)|some c=>(.string (aB c),0):=by
      unfold DS.get;rw[hf];rfl
     have HCS:Hid (iZ x n k (p+1)=iZ x n k p+if(x.content n k (dI p)).isSome then 1 else 0):=hcs;generalize iZ x n k p=cn at hcl HCS;clear hcs;go_wp2_with fail;refine(dm p wr (by omega) (by omega)).mono ?_;rintro e w4 ⟨rfl,rfl⟩;rw[hpk];go_wp2_with fail;refine(Gr F s d n x k (dI p) w4 hsp (by omega) hpo.1 (by omega)).mono ?_;rintro e w5 ⟨rfl,f5⟩;have hs5:=hsp.new f5
     have fp5:=fp.trans f5;have p25:=f5.row p2;have p45:=f5.row p4;rw[hget];clear hget f5 fp p2 p4 hsp hpk;cases hc:x.content n k (dI p) with
     |none=>
      rw[hc] at hat HCS;have e1:=He (x.at n) (7*k+p) hat;rw[<-e1] at p45;go_wp2_with fail
      go_roundw
      case rel=>exact⟨p+1,by go_num,by omega,by rw[HCS.out];rfl,fp5,p25,p45,hs5⟩
      case measure=>simp[intOf];omega
     |some t=>
      rw[hc] at hat HCS;have HE:Hid (ik (lV (x.at n) (7*k+p+1))=(ik (lV (x.at n) (7*k+p))).setIfInBounds (7*k+p) (.string (aB (43::t)))):=Hd (x.at n) (7*k+p) t hat;have hpl:=KS t;have hsz:(aB t).size<=96:=Da hc;go_wp2_with (with_reducible first|refine af 9 rfl ?_)
      refine al.go (GX rfl 9 _ _ rfl b4 (k*7+p) rfl (aB (43::t)) rfl CK _ _ p45 (by rw[eh,fi];omega) ?_);intro w6 f6 q6;have fp6:=fp5.trans f6 (by simpa using hb4);have p26:=f6.row p25 (by simpa using hne);rw[show k*7+p=7*k+p by omega,<-HE.out] at q6;have hs6:aQ w6 F s d n x:=hs5.uP f6 (by simpa using ab5.1) (by simpa using ab5.2)
      clear p25 p45 fp5 hs5 f6 hpl hsz;go_wp2_with fail
      go_roundw
      case rel=>exact⟨p+1,by go_num,by omega,by rw[HCS.out];rfl,fp6,p26,q6,hs6⟩
      case measure=>simp[intOf];omega
    .obtain rfl:p=7:=by omega
     rw[HCN.out];go_wp2_with fail
     go_roundw
     case rel=>exact⟨k+1,by go_num,by omega,fp,p2,by rw[show 7*(k+1)=7*k+7 by omega];exact p4,hsp⟩
     case measure=>simp[intOf];omega
  .obtain rfl:k=3:=by omega
   go_wp2_with (with_reducible first|refine av 33 rfl ?_|refine af 33 rfl ?_);have ags:((ik (lV (x.at n) (7*3))).toList.drop 0).take 21=(ik (lV (x.at n) (7*3))).toList:=by rw[List.drop_zero];exact List.take_of_length_le (by rw[Array.length_toList,eh,fi];omega)
   refine al.go (bX rfl 33 _ rfl b4 0 rfl yW 21 mM _ _ k4 _ ags (by rw[Array.length_toList,eh,fi]) ?_);go_wp2_with (with_reducible first|refine af 33 rfl ?_);refine al.go (bQ rfl 33 _ _ rfl _ 0 rfl _ rfl 21 mM ?_ ?_ _ _ k2 ?_ ?_)
   .rw[List.size_toArray,Array.length_toList,eh,fi]
   .simp[ik,Value.oneCell']
   .rw[eh];decide
   intro w6 f6 q6;rw[bL _ _ (by simp only[Array.length_toList,eh,fi,List.length_replicate])] at q6;simp only[Array.toArray_toList] at q6;have Gw:=fk.trans f6 (by simpa using l2);clear k2 k4 hst f6;go_wp2_with fail;exact KD rfl b2 rfl rfl _ _ q6 yW (by rw[eh,fi];exact mM) _ rfl ⟨rfl,Gw⟩
theorem Dy {P:Program}{ops:Array Oper}{Q:Exit->Act->World->Prop}{n m:Nat}{l:List Nat}{a:Act}{w:World}(i j k:Nat)(hr:Region.ready .any ops (marks n l)=[i,j,k])(hi:i<n)(hj:j<n)(hk:k<n)(h1:Step P ops Q n m l i a w)(h2:Step P ops Q n m l j a w)(h3:Step P ops Q n m l k a w):xG P ops Q n (m+1) l a w:=
 Fq [i,j,k] (by simp) hr (by simp[hi,hj,hk]) (by simp[h1,h2,h3])
theorem yp (s:ByteArray):(de s).size<=96:=by
 unfold de;split
 .rw[ByteArray.size_extract];omega
 .omega
def ew (k sd pt:Int)(ct:ByteArray):Array Value:=#[.int .i64 k,.int .i64 sd,.int .i64 pt,.string ct]
def DS.act (x:DS)(n:Nat)(k sd pt:Int)(ct:ByteArray):DS×Value:=
 if br k 4=2 then x.fS n (br sd 2) (dI (br pt 7)) else x.pX n (br sd 2) (dI (br pt 7)) (de ct)
end
section
open Go.RowKit Go.Lib Go.Sort
theorem Db (c:ByteArray):(de c).data.toList.length<=96:=by
 unfold de;split
 .have:(c.extract 0 96).size<=96:=by rw[ByteArray.size_extract];omega
  simpa using this
 .have:c.size<=96:=by omega
  simpa using this
theorem Em (k:Nat)(hk:k<7)(s:Nat)(hs:s<=2):iW s (cz k)=true:=by
 unfold iW;rw[if_pos (by omega)];exact(vZ k hk).1
theorem Ij (k:Nat)(hk:k<7):cz k∈P7:=wm.2 ⟨k,hk,rfl⟩
theorem CV (x:DS)(n:Nat)(h:x.waiting=[]):dO x n=dP (j0 x.aS 0) (aK n) (aK n) 0:=by
 unfold dO;rw[su x h]
section
variable {L:List UInt8}{n:Nat}{m:dJ}
theorem owner (h:mZ L n m)(s:Nat)(p:List UInt8):∃o:Int,(∀x:DS,x.aS=L->x.waiting=[]->cG x s (aB p) (taken x n)=o)/\-1<=o/\o<54/\(∀j g,m j=some g->nameOf g=(s,p)->o=j)/\(o≠-1->∃g,m o.toNat=some g/\nameOf g=(s,p)):=by
 by_cases hx:∃j g,m j=some g/\nameOf g=(s,p)
 .obtain⟨j,g,hg,e⟩:=hx
  have hlt:=h.lt j g hg;have:=oS n;have e':=e;unfold nameOf at e';simp only[Prod.mk.injEq] at e';refine⟨j,fun x hl hw=>?_,by omega,by omega,fun k g' hk ek=>?_,fun _=>⟨g,by simpa using hg,e⟩⟩
  .subst hl
   have:=BW h hw hg;rw[e'.1,e'.2] at this;exact this
  .rw[h.inj k j g' g hk hg (ek.trans e.symm)]
 .refine⟨-1,fun x hl hw=>?_,by omega,by omega,fun j g hg e=>absurd ⟨j,g,hg,e⟩ hx,fun h=>absurd rfl h⟩
  subst hl;exact p7 h hw s p fun j g hg e=>hx ⟨j,g,hg,e⟩
end
theorem Ia (n:Nat)(h:16<=n):mZ (e9 n) n fun _=>none where
 len:=by unfold e9;rw[List.length_append,jw,List.length_replicate];omega
 lo:=h
 root:=by
  unfold e9 j0;rw[Nat.mul_zero,List.drop_zero,List.take_append_of_le_length (by rw[jw];omega),List.take_of_length_le (by rw[jw];omega)];have:=Ee n (fun _=>none) 0 (by simp);rw[<-this];rfl
 recs:=fun i f hm=>by cases hm
 lt:=fun i f hm=>by cases hm
 good:=fun i f hm=>by cases hm
 inj:=fun i j f g hm=>by cases hm
end
section
open Go.RowKit Go.Lib
theorem aO.cell {S:List Nat}{w w':World}(h:aO S w w'){a:Addr}{v:Value}(hc:w.cell? a=some v)(ha:a.block∉S):w'.cell? a=some v:=by
 unfold World.cell? at hc⊢;cases hb:w.heap[a.block]? with
 |none=>rw[hb] at hc;cases hc
 |some o=>
  rw[h.block a.block (Array.getElem?_eq_some_iff.1 hb).1 ha,hb];rw[hb] at hc;exact hc
structure pr where
 kind:Int
 side:Int
 path:Int
 content:ByteArray
def wT (x:Int):Prop:=-9223372036854775808<=x/\x<=9223372036854775807
def pr.Ok (a:pr):Prop:=wT a.kind/\wT a.side/\wT a.path
def pr.cells (a:pr):Array Value:=ew a.kind a.side a.path a.content
def NI (w:World)(ad:Option Addr)(l:List pr):Prop:=∀j,(hj:j<l.length)->(l[j]).Ok/\∃b off,ad=some ⟨b,off,none⟩/\w.rangeAt b (off+j*4) (l[j]).cells.toList
theorem CM:(Tryz.prog.info? 24).map (·.size)=some 4:=by kernel_rfl
def DS.calm (L:List UInt8)(a:Int):DS:=⟨L,[],a,false,0,0,false⟩
theorem wU (L:List UInt8)(a:Int)(r:Nat)(h0:0<=a)(h1:a+r<=1000000000):(DS.calm L a).Fit r:=⟨h0,h1,by show(0:Int)<=0;omega,by show(0:Int)<=_;omega⟩
def wV:ByteArray:=⟨#[102,105,114,115,116]⟩
section
variable {P:Program}{ops:Array Oper}{Q:Exit->Act->World->Prop}{a:Act}{w:World}{rest:List Oper}{o:Oper}
theorem iw (hg:o.guard=none)(t:TypeId)(x y:Operand)(ho:o.op= .store t x y)(b:Nat)(hx:a.eval x= .pointer (some ⟨b,0,none⟩))
  (cells:Array Value) (hy:a.eval y= .agg cells) (hi:(P.info? t).map (·.size)=some cells.size) (h1:∀v∈cells.toList,v.oneCell'=true)
  (c:Array Value) (u:TypeId) (hr:Row w b c u) (hc:c.size=cells.size)
  (h:∀w1:World,aO [b] w w1->Row w1 b cells u->wpList P ops Q rest (a.put o.dst undef) w1):wpList P ops Q (o::rest) a w:=by
 refine bQ hg t x y ho b 0 hx cells hy cells.size hi rfl h1 c u hr (by omega) fun w1 f1 r1=>h w1 f1 ?_
 rw[bL _ _ (by rw[hc,Array.length_toList]),Array.toArray_toList] at r1;exact r1
end
theorem Bu (l:List (List UInt8)):∀v∈(ik l).toList,v.oneCell'=true:=by simp[ik,Value.oneCell']
theorem Ki (F:List Nat)(s d n:Nat)(x:DS)(m:dJ)(w:World)(h:aQ w F s d n x)(hf:x.failed=false)(hw:x.waiting=[])(hr:mZ x.aS n m)(h7:Seven m):
  Calls Tryz.prog 15 #[.pointer (some ⟨s,0,none⟩)] w fun e w'=>e= .returned (.tuple #[.agg (ik (x.state n)),.bool true])/\aO [] w w':=
 Kj F s d n x w h hf hw fun side _=>D3 hr hw h7 side
end
section
open Go.RowKit Go.Lib Go.Sort
open Go.Conc (base G)
def pq (w:World):Prop:=∃c t f,w.heap[0]? =some (.cells c t f)/\∀v∈c,∀r,¬Value.Has r v
theorem pq.blk {S:List Nat}{w w':World}(h:pq w)(f:eM S w w')(h0:0∉S):pq w':=by
 obtain⟨c,t,fz,h1,h2⟩:=h;exact⟨c,t,fz,(f.block 0 (Array.getElem?_eq_some_iff.1 h1).1 h0).trans h1,h2⟩
theorem ce.zero {F F':List Nat}{w:World}(g:ce F F' w)(hg:pq w)(h:0∉F):0∉F':=fun h0=>by
 obtain⟨c,t,fz,h1,h2⟩:=hg;have:=(Array.getElem?_eq_some_iff.1 h1).1;rcases g 0 h0 with q|q
 .exact h q
 .omega
theorem aQ.ax {w:World}{F:List Nat}{s d n:Nat}{x:DS}(h:aQ w F s d n x)(t:Go.Proofs.YtchcmhodnkgojaaGreat.dU)(k:Nat):aQ (ax w t k) F s d n x:=by
 obtain⟨h1,⟨bl,vw,⟨a1,a2,a3,a4,a5,a6,a7,a8,a9,a10,a11,a12,a13⟩,hF⟩,h3⟩:=h;exact⟨h1,⟨bl,vw,⟨a1,a2,a3,a4,a5,a6,a7,a8,a9,a10,a11,a12,a13⟩,hF⟩,h3⟩
theorem bE.blk {w w':World}{S:List Nat}{d bl n:Nat}{vw:Value}{x:DS}(h:bE w d bl n vw x)(f:eM S w w')(h1:d∉S)(h2:bl∉S)(h3:∀k∈S,vw.ownBlock≠some k):bE w' d bl n vw x:=
 {h with row:=(f.block d h.row.lt h1).trans h.row,last:=(f.block bl h.last.lt h2).trans h.last,own:=World.ownsRow.ag1 h.own f fun g hg hS=>h3 g hS hg}
theorem aQ.blk {w w':World}{F S:List Nat}{s d n:Nat}{x:DS}(h:aQ w F s d n x)(f:eM S w w')(h1:s∉S)(h2:∀k∈S,k∉F):aQ w' F s d n x:=by
 obtain⟨bl,vw,hd,rfl⟩:=h.disk;exact⟨(f.block s h.row.lt h1).trans h.row,⟨bl,vw,hd.blk f (fun e=>h2 _ e (by simp)) (fun e=>h2 _ e (by simp)) (fun k hk e=>h2 k hk (by simp[e])),rfl⟩,h.ne⟩
theorem aQ.rd {w:World}{F:List Nat}{s d n:Nat}{x:DS}(h:aQ w F s d n x)(hg:pq w)(hw:x.waiting=[]):∃bl,aH.fq d bl n x w:=by
 obtain⟨bl,vw,hd,rfl⟩:=h.disk;have:=hd.nil hw;subst this;exact⟨bl,⟨⟨_,hd.row⟩,⟨_,hd.last⟩,hg,hd.len,hd.lo,hd.hi,hw⟩⟩
def rU (x:DS)(n:Nat)(ps:List (List UInt8)):Prop:=ps.Pairwise (·<=·)/\ps.Nodup/\∀l,l∈ps↔aH.comb (gB x n 0 (aB l)) (gB x n 1 (aB l))≠none
theorem yJ {ps:List (List UInt8)}(h:ps.Pairwise (·<=·))(hn:ps.Nodup):ps.Pairwise (·<·):=
 (h.and hn).imp fun {a b} hab=>by
  rcases List.le_iff_lt_or_eq.1 hab.1 with q|q
  .exact q
  .exact absurd q hab.2
theorem xR (fa fb:aH.iI){ps:List (List UInt8)}(h:ps.Pairwise (·<·)):(ij fa fb ps).Pairwise fun p q=>p.1<q.1:=by
 unfold ij;refine List.Pairwise.filterMap _ (fun a b hab p hp q hq=>?_) h;obtain⟨_,_,rfl⟩:=Option.map_eq_some_iff.1 hp;obtain⟨_,_,rfl⟩:=Option.map_eq_some_iff.1 hq;exact hab
def eA (x:DS)(n:Nat)(ps:List (List UInt8)):List (List UInt8×Nat):=ij (gB x n 0) (gB x n 1) ps
def lq (x:DS)(n:Nat)(ps:List (List UInt8)):List (List UInt8):=jt (gB x n 0) (gB x n 1) ps
theorem eJ:(Tryz.prog.info? 58).map (·.size)=some 2:=by kernel_rfl
def fO:Value:= .agg #[.int .i64 0,.slice none 0 0]
theorem kU:(Tryz.prog.info? 58).map (·.zero)=some (some fO):=by kernel_rfl
theorem mG {fn:Func}{tp tq:Tmp}{ty:TypeId}(hf:fn.results=#[.cell tp ty,.tmp tq])(tmps:Array Value)(w:World)(b:Nat)(c:Array Value)(u:TypeId)(hp:tmps.getD tp undef= .pointer (some ⟨b,0,none⟩))
  (hr:Row w b c u) (hu:(Tryz.prog.underlying ty).map (fun d=>match d with|.struct _|.array _ _=>true|_=>false)=some true) (hi:(Tryz.prog.info? ty).map (·.size)=some c.size):(results fn tmps).run Tryz.prog w= .ok (.tuple #[.agg c,tmps.getD tq undef]) w:=by
 obtain⟨d,hu',hd'⟩:=Option.map_eq_some_iff.1 hu;have hp':tmps[tp]?.getD undef= .pointer (some ⟨b,0,none⟩):=by simpa using hp
 have hl:=run_loadVar_row w b u ty c (0,0) d hr hu' (by revert hd' hu';cases d<;>intro x y<;>first|rfl|cases y) hi;simp[results,hf,hp',asAddr,hl]
theorem ac8 {E:az.Env}{f:FuncId}{k:List Item}{R:Act->World->Prop}{a:Act}{wL:World}{ops:Array Oper}{i:Nat}{rest:List Nat}{o:Oper}(t:TypeId)(x:Operand)(ho:ops[i]? =some o)(hop:o.op= .load t x)(rW:lK az.PP S0 E0 true o=true)(hg:o.guard=none)
  (ha:(Tryz.prog.underlying t).map (fun d=>match d with|.struct _|.array _ _=>true|_=>false)=some false) (b:Addr) (hx:a.eval x= .pointer (some b)) (v:Value) (hc:wL.cell? b=some v)
  (h:az.CI E f (.inRegion ops rest::k) R (a.put o.dst v) wL):az.CI E f (.inRegion ops (i::rest)::k) R a wL:=by
 refine aH.Sq.mS (w1:=wL) v ho hg (fun t' d=>?_) h (rW:=rW);have hc':(ax wL t' d).cell? b=some v:=hc;have h1:aH.RT (kP.load t (.pointer (some b))).sem (ax wL t' d) (.value v) (ax wL t' d) #[⟨.cell b,false,false⟩]:=by
  refine aH.RT.eC (x:=v) ?_ (.pure _);show aH.RT (do if<-isAgg t then Pure.pure (.agg (<-loadCells b (<-Go.sizeOf t))) else load b) _ _ _ _;refine(aH.gO ha).aN ?_;simp only[Bool.false_eq_true,if_false];exact aH.j4 hc'
 have:=h1.run;unfold execOp;rw[hop];show(do pure (.value (<-Instr.loadAt t (a.eval x))):Sem Next).run _ _=_;rw[hx];exact this
theorem QU {E:az.Env}{f:FuncId}{k:List Item}{R:Act->World->Prop}{a:Act}{wL:World}{ops:Array Oper}{l:List Nat}(m:Nat)(hl:l=List.range' m (ops.toList.drop m).length)(h0:∃fn,az.PP.funcs[f]? =some fn)(A0:Ai az.PP S0 E0 true (.inRegion ops l)=true)
  (I:World->Prop) (hb:∀w t d,I w->I (ax w t d)) (hI:I wL) (hwp:∀w,I w->w.heap.size=wL.heap.size->wpList az.PP ops (az.after E none f k R) (ops.toList.drop m) a w):az.CI E f (.inRegion ops l::k) R a wL:=by
 refine az.QW none h0 A0 (by simp) I hb hI fun w h1 h2=>?_
 rw[hl,wpOps_eq_wpList (ops.toList.drop m) m fun j=>by rw[List.getElem?_drop,Array.getElem?_toList]];exact hwp w h1 h2
structure AU (x:DS)(n:Nat):Prop where
 wait:x.waiting=[]
 fit:x.failed=false->x.Fit 105
 steps:∀ps,rU x n ps->(eA x n ps).length<=7/\oR (eA x n ps)/\(qv (x.begin n (eA x n ps)).2=0->(x.begin n (eA x n ps)).1.content n 3 ⟨#[]⟩=some (dc (eA x n ps)))
def x8 (x:DS)(n:Nat):Int:=if x.failed then 3 else if x.pending n then 4 else 0
def xE (F:List Nat)(s d n:Nat)(x:DS)(wL:World)(v:Value)(w':World):Prop:=
 (x8 x n≠0/\v= .tuple #[fO,.int .i64 (x8 x n)]/\aQ w' F s d n x/\eM [] wL w')\/
 (x8 x n=0/\∃ps F',rU x n ps/\aQ w' F' s d n (x.xa n (eA x n ps)).1/\ce F F' wL/\eM F wL w'/\
  ((∃cv,(x.xa n (eA x n ps)).2= .int .i64 0/\v= .tuple #[.agg #[.int .i64 (eA x n ps).length,cv],.int .i64 0]/\w'.ownsRow wL.heap.size 9 1 cv (lq x n ps).length (eW (lq x n ps))/\∀g,cv.ownBlock=some g->g∉F')\/
   (∃e:Int,e≠0/\(x.xa n (eA x n ps)).2= .int .i64 e/\v= .tuple #[fO,.int .i64 e])))
open aH aH.Sq in
theorem AM {E:az.Env}{wL:World}{F:List Nat}{s d n:Nat}{x:DS}(h:aQ wL F s d n x)(hG:pq wL)(h0:0∉F)(hok:AU x n):
  az.CC E 31 #[.pointer (some ⟨s,0,none⟩)] (xE F s d n x wL) wL:=by
 refine az.mg Tryz.func31 rfl ?_;refine az.eE ?_;refine sO {tmps:=#[.pointer (some ⟨s,0,none⟩),undef,undef,undef,undef,undef,undef,undef,undef,undef,undef,undef,undef,undef,undef,undef,undef,undef,undef,undef,undef,undef,undef,undef,undef,undef,undef,undef,undef,undef,undef,undef,undef],defers:=[]} (by kernel_rfl) ?_
 refine az.fg none ⟨_,Tryz.func31⟩ (by kernel_rfl) (by simp) (fun w=>aQ w F s d n x/\eM [] wL w) (fun w t k h=>⟨h.1.ax t k,h.2.tape t k⟩) ⟨h,eM.refl _ _⟩ fun w hI hsz=>?_
 obtain⟨hS,hB⟩:=hI;go_wp2_with (with_reducible first|refine ay rfl ?_);refine al.go (bm rfl 58 rfl _ kU ?_);intro w1 b2 l2 f2 r2;have hS1:=hS.new f2;have hB1:=hB.trans f2.blk;have hb2:b2∉F:=fun hb=>by have:=hS.disk.lt b2 hb;omega
 have WI:s≠b2:=by have:=hS.row.lt;omega
 have agD:wL.heap.size<=b2:=by omega
 clear hS hB f2;go_wp2_with fail;refine az.eE (az.fg none ⟨_,Tryz.func31⟩ (by kernel_rfl) (by simp) (fun w=>aQ w F s d n x/\eM [] wL w/\Row w b2 fO.cells 58) (fun w t k h=>⟨h.1.ax t k,h.2.1.tape t k,h.2.2⟩) ⟨hS1,hB1,r2⟩ fun w2 hI hsz2=>?_);obtain⟨hS2,hB2,r2'⟩:=hI;clear hS1 hB1 r2 hsz2;go_wp2_with fail;refine(lL F s d n x w2 hS2).mono ?_;rintro e w3 ⟨rfl,f3⟩
 have YL:=hS2.new f3;have hB3:=hB2.trans f3.blk;have r3:Row w3 b2 fO.cells 58:=f3.row r2';have HE:Hid (x8 x n=(if x.failed then 3 else if x.pending n then 4 else 0)):=rfl;obtain⟨e0,he0⟩:∃e0:Int,(if x.failed then 3 else if x.pending n then 4 else 0)=e0:=⟨_,rfl⟩
 rw[he0] at HE⊢;clear he0 hS2 hB2 f3 r2'
 by_cases JE:e0=0
 .subst JE
  go_wp2_with fail;have hG3:pq w3:=hG.blk hB3 (by simp);obtain⟨bl,hrd⟩:=YL.rd hG3 hok.wait
  refine az.eE (az.dR (eU _ rfl (.inr rfl) rfl (mS (w1:=w3) (.pointer (some ⟨s,0,none⟩)) rfl rfl (fun t d=>by kernel_rfl) (mS (w1:=w3) (.pointer (some ⟨s,0,none⟩)) rfl rfl (fun t d=>by kernel_rfl) (ac8 _ _ rfl rfl (by kernel_rfl) rfl (by kernel_rfl) ⟨s,0,none⟩ rfl (.pointer (some ⟨d,0,none⟩)) YL.cell ?_)))))
  refine kM (f2:=55) #[.tmp 18] #[.pointer (some ⟨d,0,none⟩)] (R2:=SP x n w3) rfl rfl (by kernel_rfl) (fun b w=>by kernel_rfl) (by kernel_rfl) (QZ hrd) fun v w4 hR age=>?_
  obtain⟨ps,sv,cv,p1,p2,p3,rfl,hB4,ho1,ho2⟩:=hR;refine eU _ rfl (.inr rfl) rfl (mS (w1:=w4) sv rfl rfl (fun t d=>by kernel_rfl) (mS (w1:=w4) cv rfl rfl (fun t d=>by kernel_rfl) (eU _ rfl (.inl rfl) rfl (eU _ rfl (.inl rfl) rfl (az.cF ?_)))));have hP:rU x n ps:=⟨p1,p2,p3⟩
  have hss:=hok.steps ps hP;have hst:(eA x n ps).Pairwise fun p q=>p.1<q.1:=xR _ _ (yJ p1 p2)
  have WB:w4.ownsRow w3.heap.size 168 2 sv (eA x n ps).length (cx (eA x n ps)):=ho1;have EH:w4.ownsRow w3.heap.size 9 1 cv (lq x n ps).length (eW (lq x n ps)):=ho2;have hS4:aQ w4 F s d n x:=YL.blk hB4 (by simp) (by simp);have r4:Row w4 b2 fO.cells 58:=(hB4.block b2 r3.lt (by simp)).trans r3;have acb:=hB3.trans hB4
  have hL3:wL.heap.size<=w3.heap.size:=hB3.size;have hFl:=YL.disk.lt;have hfit:x.Fit 105:=hok.fit (by
   have:=HE.out;unfold x8 at this;cases hf:x.failed with
   |false=>rfl
   |true=>rw[hf] at this;simp at this)
  generalize abD:eA x n ps=ss at*;generalize hcs':lq x n ps=cs at*;clear ho1 ho2 p1 p2 p3 YL hB3 r3 hG3 hrd hB4;obtain⟨ad,cap,hsv⟩:=ci WB;obtain⟨Ny,cap2,hcv⟩:=ci EH;subst hsv hcv
  refine sO {tmps:=#[.pointer (some ⟨s,0,none⟩),undef,.pointer (some ⟨b2,0,none⟩),.int .i64 0,.int .i64 0,.slice ad ss.length cap,.slice Ny cs.length cap2,undef,.pointer (some ⟨s,0,none⟩),.int .i64 0,.int .i64 0,.bool false,undef,undef,.tuple #[.slice ad ss.length cap,.slice Ny cs.length cap2],.pointer (some ⟨s,0,none⟩),.pointer (some ⟨s,0,none⟩),.pointer (some ⟨s,0,none⟩),.pointer (some ⟨d,0,none⟩),.tuple #[.slice ad ss.length cap,.slice Ny cs.length cap2],.slice ad ss.length cap,.slice Ny cs.length cap2,undef,undef,undef,undef,undef,undef,undef,undef,undef,undef,undef],defers:=[]} (by kernel_rfl) ?_
  refine az.fg none ⟨_,Tryz.func31⟩ (by kernel_rfl) (by simp) (fun w=>aQ w F s d n x/\eM [] wL w/\Row w b2 fO.cells 58/\w.ownsRow w3.heap.size 168 2 (.slice ad ss.length cap) ss.length (cx ss)/\w.ownsRow w3.heap.size 9 1 (.slice Ny cs.length cap2) cs.length (eW cs)) (fun w t k h=>⟨h.1.ax t k,h.2.1.tape t k,h.2.2⟩) ⟨hS4,acb,r4,WB,EH⟩ fun w5 hI hsz5=>?_
  obtain⟨hS5,YM,r5,A2,YK⟩:=hI;clear hS4 acb r4 WB EH age hsz5;have apart:∀{v:Value} {e:TypeId} {m k:Nat} {l:List Value},w5.ownsRow w3.heap.size e m v k l->∀g,v.ownBlock=some g->g∉F:=fun ho g hg hF=>by
   have:=(ho.lt g hg).1;have:=hFl g hF;omega
  have HD:Hid (eA x n ps=ss/\lq x n ps=cs):=⟨abD,hcs'⟩
  clear abD hcs';obtain⟨e5,he5⟩:=QO x n ss hfit;go_wp2_with fail;refine(QM F s d n x _ _ ss w5 hS5 hfit (by rw[hok.wait];decide) A2 hss.1 hss.2.1 hst (apart A2) hss.2.2).mono ?_;rintro e w6 ⟨rfl,⟨F',hS6,g6⟩,f6⟩;have r6:=f6.row r5 hb2;have hc6:=f6.owns YK fun k hk h=>apart YK k h hk
  have hcF:∀g,(Value.slice Ny cs.length cap2).ownBlock=some g->g∉F':=fun g hg hF=>by
   rcases g6 g hF with q|q
   .exact apart YK g hg q
   .have:=(YK.lt g hg).2;omega
  have ab6:b2∉F':=fun hF=>by
   rcases g6 b2 hF with q|q
   .exact hb2 q
   .have:=r5.lt;omega
  have hgr:ce F F' wL:=(ce.refl F wL).trans g6 YM.size;have hB6:eM F wL w6:=(YM.mono).trans f6.blk (fun i hi=> .inl hi);have hcb:∀g,(Value.slice Ny cs.length cap2).ownBlock=some g->g≠b2:=fun g hg e=>by
   subst e;rcases YK.2 with⟨e1,_⟩|⟨g',cap',cur,e1,_,hg',_⟩
   .rw[e1] at hg;simp[Value.ownBlock] at hg
   .rw[e1] at hg
    have:g'=g:=by simpa [Value.ownBlock] using hg
    subst this;unfold Row at r5;rw[r5] at hg';cases hg'
  have HO:Hid ((x.xa n ss).2= .int .i64 e5):=he5;rw[he5];have HX:Hid (aQ w6 F' s d n (x.xa n ss).1):=hS6;clear hss hst hS6 he5 hS5 YM r5 A2 YK f6 g6 apart
  by_cases h5:e5=0
  .subst h5
   go_wp2_with (with_reducible first|refine bH 58 rfl ?_|refine af 58 rfl ?_);refine al.go (cM rfl (.agg #[.int .i64 ss.length,.slice Ny cs.length cap2]) w6 (by kernel_rfl) ?_);go_wp2_with (with_reducible first|refine af 58 rfl ?_)
   refine al.go (iw rfl 58 _ _ rfl b2 rfl #[.int .i64 ss.length,.slice Ny cs.length cap2] rfl eJ (by simp[Value.oneCell']) _ _ r6 rfl ?_);intro w7 f7 r7;have hc7:=f7.owns hc6 (fun k hk h=>hcb k h (by simpa using hk));go_wp2_with fail
   refine⟨w7.tape,w7.drawn,.tuple #[.agg #[.int .i64 ss.length,.slice Ny cs.length cap2],.int .i64 0],?_,.inr ⟨HE.out,ps,F',hP,?_,hgr,?_,.inl ⟨_,?_,?_,?_,hcF⟩⟩⟩
   .exact mG (tp:=2) (tq:=3) (ty:=58) rfl _ _ b2 _ _ rfl r7 (by kernel_rfl) eJ
   .rw[HD.out.1]
    exact HX.out.uP f7 (by simpa using WI) (by simpa using ab6)
   .exact hB6.trans f7.blk (by intro i hi;right;simp at hi;omega)
   .rw[HD.out.1];exact HO.out
   .rw[HD.out.1]
   .rw[HD.out.2];exact hc7.weak hL3
  .have h5':(e5==0)=false:=by simpa using h5
   go_wp2_with (with_reducible first|refine bH 58 rfl ?_|refine af 58 rfl ?_);refine al.go (cM rfl fO w6 (by kernel_rfl) ?_);go_wp2_with (with_reducible first|refine af 58 rfl ?_);refine al.go (iw rfl 58 _ _ rfl b2 rfl fO.cells rfl eJ (by decide) _ _ r6 rfl ?_);intro w7 f7 r7;go_wp2_with fail
   refine⟨w7.tape,w7.drawn,.tuple #[fO,.int .i64 e5],?_,.inr ⟨HE.out,ps,F',hP,?_,hgr,?_,.inr ⟨e5,h5,?_,rfl⟩⟩⟩
   .exact mG (tp:=2) (tq:=3) (ty:=58) rfl _ _ b2 _ _ rfl r7 (by kernel_rfl) eJ
   .rw[HD.out.1]
    exact HX.out.uP f7 (by simpa using WI) (by simpa using ab6)
   .exact hB6.trans f7.blk (by intro i hi;right;simp at hi;omega)
   .rw[HD.out.1];exact HO.out
 .have abW:(e0==0)=false:=by simpa using JE
  go_wp2_with (with_reducible first|refine bH 58 rfl ?_|refine af 58 rfl ?_);refine al.go (cM rfl fO w3 (by kernel_rfl) ?_);go_wp2_with (with_reducible first|refine af 58 rfl ?_);refine al.go (iw rfl 58 _ _ rfl b2 rfl fO.cells rfl eJ (by decide) _ _ r3 rfl ?_);intro w4 f4 r4;go_wp2_with fail
  refine⟨w4.tape,w4.drawn,.tuple #[fO,.int .i64 e0],?_,.inl ⟨by rw[HE.out];exact JE,by rw[HE.out],YL.uP f4 ?_ ?_,?_⟩⟩
  .exact mG (tp:=2) (tq:=3) (ty:=58) rfl _ _ b2 _ _ rfl r4 (by kernel_rfl) eJ
  .simpa using WI
  .simpa using hb2
  .exact hB3.trans (f4.blk.mono (T:=[b2]) (by simp)) (by simpa using agD)
end
section
open Go.RowKit Go.Lib
abbrev bO:=Nat->List UInt8->Option (List UInt8)
def fl (H:bO)(s:Nat)(p:List UInt8)(r:Option (List UInt8)):bO:=fun s' p'=>if s'=s/\p'=p then r else H s' p'
def Has (L:List UInt8)(n:Nat)(H:bO):Prop:=∃m,mZ L n m/\∀s p,holds m s p (H s p)
def pS (H:bO):Prop:=∀s p,H s p≠none->(s<=2/\p∈P7)\/(s=3/\p=[])
def dW (H:bO):Prop:=∀s p,H s p≠none->s<=2/\p∈P7
theorem wI {m:dJ}{s:Nat}{p:List UInt8}{r:Option (List UInt8)}(h:holds m s p r){i:Nat}{f:cV}(hf:m i=some f)(e:nameOf f=(s,p)):r≠none:=fun hr=>by
 subst hr;exact h i f hf e
theorem pS.slots {L:List UInt8}{n:Nat}{H:bO}{m:dJ}(h:pS H)(hm:∀s p,holds m s p (H s p))(i:Nat)(f:cV)(hf:m i=some f):(f.set<=2/\f.path∈P7)\/(f.set=3/\f.path=[]):=
 h f.set f.path (wI (hm f.set f.path) hf rfl)
theorem dW.slots {H:bO}{m:dJ}(h:dW H)(hm:∀s p,holds m s p (H s p)):Seven m:=fun i f hf=>h f.set f.path (wI (hm f.set f.path) hf rfl)
theorem RS {L:List UInt8}{n:Nat}{m:dJ}(h:mZ L n m)(h8:∀i f,m i=some f->(f.set<=2/\f.path∈P7)\/(f.set=3/\f.path=[])):(iX n m).length<=22:=by
 have h3:=jY ((iX n m).map nameOf) (((List.range 3).flatMap fun s=>P7.map fun p=>(s,p))++[(3,[])]) h.nodup fun a ha=>by
  obtain⟨f,hf,e⟩:=List.mem_map.1 ha;obtain⟨i,hi⟩:=h.mem.1 hf;rw[<-e,List.mem_append];rcases h8 i f hi with⟨q1,q2⟩|⟨q1,q2⟩
  .left
   rw[List.mem_flatMap];exact⟨f.set,List.mem_range.2 (by omega),List.mem_map.2 ⟨f.path,q2,rfl⟩⟩
  .right
   simp[nameOf,q1,q2]
 rw[List.length_map] at h3;have:(((List.range 3).flatMap fun s=>P7.map fun p=>(s,p))++[(3,([]:List UInt8))]).length=22:=by rfl
 omega
theorem UY {L:List UInt8}{n:Nat}{m:dJ}(h:mZ L n m)(h8:∀i f,m i=some f->(f.set<=2/\f.path∈P7)\/(f.set=3/\f.path=[]))(hn:22<aK n):∃i,i<aK n/\m i=none:=by
 by_cases hx:∃i,i<aK n/\m i=none
 .exact hx
 .exfalso
  have h1:(iX n m).length=aK n:=by
   have h2:∀l:List Nat,(∀i∈l,i<aK n)->(l.filterMap m).length=l.length:=by
    intro l
    induction l with
    |nil=>intro _;rfl
    |cons a l ih=>
     intro hl;have ha:=hl a List.mem_cons_self;cases hm:m a with
     |none=>exact absurd ⟨a,ha,hm⟩ hx
     |some f=>rw[List.filterMap_cons_some hm,List.length_cons,List.length_cons,ih fun i hi=>hl i (List.mem_cons_of_mem _ hi)]
   unfold iX;rw[h2 _ fun i hi=>List.mem_range.1 hi,List.length_range]
  have:=RS h h8;omega
section
variable {L:List UInt8}{n:Nat}{H:bO}{x:DS}
theorem Has.content (h:Has x.aS n H)(hw:x.waiting=[])(s:Nat)(p:List UInt8):x.content n s (aB p)=H s p:=by
 obtain⟨m,hr,hm⟩:=h;exact tx hr hw (hm s p)
theorem uN (h:Has L n H)(h8:pS H)(hn:22<aK n)(s:Nat)(p c:List UInt8)(hs:iW s p=true)(hc:c.length<=96):
  ∃L',Has L' n (fl H s p (some c))/\∀a,(DS.calm L a).put n s (aB p) (aB c)=(DS.calm L' (a+5),.int .i64 0):=by
 obtain⟨m,hr,hm⟩:=h;have hln:=oS n;obtain⟨i,hi,hfi,hmi⟩:=KE (x:=DS.fresh L) hr rfl (UY hr (h8.slots (L:=L) (n:=n) hm) hn);have hn2:=Iq n i hi;obtain⟨o,ho,ho0,ho1,hom,hox⟩:=owner hr s p;have hoi:o≠i:=by
  intro e;obtain⟨g,hg,_⟩:=hox (by omega);rw[e] at hg;simp only[Int.toNat_natCast] at hg;rw[hmi] at hg;cases hg
 let f:cV:=⟨s,p,c⟩
 have hfg:iW f.set f.path=true/\f.content.length<=96:=⟨hs,hc⟩
 have hpl:f.path.length<=8:=(wj hfg.1).1;generalize hrr:cN f.set f.path f.content=r;have hrl:r.length=128:=by rw[<-hrr];exact PM _ _ _ hpl hc
 have h0:=CT r hrl 0 (by omega);have h1:=CT r hrl 1 (by omega);generalize hA:bG L ((1+2*i:Nat),half r 0)=A;have rA:mZ A n m:=by rw[<-hA];exact hr.loose (by omega) (by omega) h0 (wR hmi (.inl rfl))
 generalize hB:bG A ((2+2*i:Nat),half r 1)=B;have rB:mZ B n m:=by rw[<-hB];exact rA.loose (by omega) (by omega) h1 (wR hmi (.inr rfl))
 have Sg:Ef L i r=B:=by unfold Ef;rw[hA,hB]
 have hroot:seenIn (Ef L i r) [] 0=eg n m:=by rw[Sg,<-rB.root];rfl
 have hnew:aZ (eg n m) i o=eg n (after m i f o):=Al m i (by omega) f o ⟨ho0,ho1⟩;have sA:∀j,j0 A j=if j=1+2*i then half r 0 else j0 L j:=fun j=>by rw[<-hA];exact jB L n hr.len _ (by omega) _ h0 j
 have sB:∀j,j0 B j=if j=2+2*i then half r 1 else j0 A j:=fun j=>by rw[<-hB];exact jB A n rA.len _ (by omega) _ h1 j
 have abF:j0 B (1+2*i)++j0 B (2+2*i)=cN f.set f.path f.content:=by
  rw[sB,sB,if_neg (by omega),if_pos rfl,sA,if_pos rfl,halves r hrl,hrr]
 have rC:=rB.put hi abF hfg fun j g hg e=>hom j g hg e
 refine⟨_,⟨_,rC,fun s' p'=>?_⟩,fun a=>?_⟩
 .unfold fl
  by_cases e:s'=s/\p'=p
  .rw[if_pos e]
   obtain⟨rfl,rfl⟩:=e;refine⟨i,?_⟩;unfold after;rw[ql (by omega)];unfold upd;rw[if_pos rfl]
  .rw[if_neg e]
   have hh:=hm s' p';cases hv:H s' p' with
   |none=>
    rw[hv] at hh;intro j g hg e2;rcases iv hg with⟨rfl,rfl⟩|⟨_,q,_⟩
    .unfold nameOf at e2
     simp only[Prod.mk.injEq] at e2;exact e ⟨e2.1.symm,e2.2.symm⟩
    .exact hh j g q e2
   |some v=>
    rw[hv] at hh;obtain⟨j,hj⟩:=hh;have hji:j≠i:=fun e2=>by subst e2;rw[hmi] at hj;cases hj
    refine⟨j,?_⟩;unfold after;rw[ql ?_]
    .unfold upd
     rw[if_neg hji];exact hj
    .by_cases hoj:o=-1
     .exact .inl hoj
     .right
      refine⟨by omega,fun e2=>?_⟩;obtain⟨g,hg,hgn⟩:=hox hoj;rw[e2] at hg;simp only[Int.toNat_natCast] at hg;rw[hj] at hg;cases hg;unfold nameOf at hgn;simp only[Prod.mk.injEq] at hgn;exact e ⟨hgn.1,hgn.2⟩
 .have henc:cN s (aB p).data.toList (aB c).data.toList=r:=hrr
  have hfx:dO (DS.calm L a) n=i:=by
   rw[CV _ n rfl,<-hfi,CV (DS.fresh L) n rfl];rfl
  have:=KN L a 0 0 n s (aB p) (aB c) i o (eg n m) r henc hfx (ho (DS.calm L a) rfl rfl) hroot;rw[Sg,hnew] at this;exact this
theorem qf (h:Has L n H)(s:Nat)(p:List UInt8)(hs:H s p≠none):
  ∃L',Has L' n (fl H s p none)/\∀a,(DS.calm L a).remove n s (aB p)=(DS.calm L' (a+2),.int .i64 0):=by
 obtain⟨m,hr,hm⟩:=h;obtain⟨o,ho,ho0,ho1,hom,hox⟩:=owner hr s p;have hne:o≠-1:=by
  have hh:=hm s p;cases hv:H s p with
  |none=>exact absurd hv hs
  |some v=>
   rw[hv] at hh;obtain⟨j,hj⟩:=hh;have:=hom j _ hj rfl;omega
 have rC:=hr.dropped o;refine⟨_,⟨_,rC,fun s' p'=>?_⟩,fun a=>?_⟩
 .unfold fl
  by_cases e:s'=s/\p'=p
  .rw[if_pos e]
   obtain⟨rfl,rfl⟩:=e;intro j g hg e2;obtain⟨q1,q2⟩:=fJ hg;have:=hom j g q1 e2;have:=q2 (by omega);omega
  .rw[if_neg e]
   have hh:=hm s' p';cases hv:H s' p' with
   |none=>
    rw[hv] at hh;intro j g hg e2;exact hh j g (fJ hg).1 e2
   |some v=>
    rw[hv] at hh;obtain⟨j,hj⟩:=hh;refine⟨j,?_⟩;rw[ql ?_]
    .exact hj
    .right
     refine⟨by omega,fun e2=>?_⟩;obtain⟨g,hg,hgn⟩:=hox hne;rw[e2] at hg;simp only[Int.toNat_natCast] at hg;rw[hj] at hg;cases hg;unfold nameOf at hgn;simp only[Prod.mk.injEq] at hgn;exact e ⟨hgn.1,hgn.2⟩
 .have hroot:seenIn L [] 0=eg n m:=by rw[<-hr.root];rfl
  have:=B5 L a 0 0 n s (aB p) o (eg n m) (ho (DS.calm L a) rfl rfl) hne hroot;rw[ya m o ⟨ho0,ho1⟩] at this;exact this
theorem Hw (H:bO)(s:Nat)(p:List UInt8):fl H s p (H s p)=H:=by
 funext s' p'
 unfold fl;split
 .rename_i e;rw[e.1,e.2]
 .rfl
theorem pS.set {H:bO}(h:pS H){s:Nat}{p:List UInt8}(hs:(s<=2/\p∈P7)\/(s=3/\p=[]))(r:Option (List UInt8)):pS (fl H s p r):=fun s' p' hn=>by
 unfold fl at hn;split at hn
 .rename_i e;rw[e.1,e.2];exact hs
 .exact h s' p' hn
theorem dW.eight {H:bO}(h:dW H):pS H:=fun s p hn=> .inl (h s p hn)
end
theorem AW {s:Nat}{p:List UInt8}(hs:s<=2)(hp:p∈P7):iW s p=true:=by
 obtain⟨k,hk,rfl⟩:=wm.1 hp;exact Em k hk s hs
theorem Rl {p:List UInt8}(hp:p∈P7):cE p=true:=by
 have h:=AW (s:=0) (by omega) hp;unfold iW at h;simpa using h
def kO (H:bO):List dg->bO
 |[]=>H
 |w::r=>kO (fl H w.set w.path w.becomes) r
def okW (H:bO):List dg->Prop
 |[]=>True
 |w::r=>(w.set<=2/\w.path∈P7/\(∀c,w.becomes=some c->c.length<=96)/\(w.becomes=none->H w.set w.path≠none))/\okW (fl H w.set w.path w.becomes) r
theorem xB (H:bO)(a b:List dg):kO H (a++b)=kO (kO H a) b:=by
 induction a generalizing H with
 |nil=>rfl
 |cons w r ih=>exact ih _
theorem FU (H:bO)(a b:List dg):okW H (a++b)↔okW H a/\okW (kO H a) b:=by
 induction a generalizing H with
 |nil=>simp[okW,kO]
 |cons w r ih=>
  constructor
  .rintro⟨x,y⟩
   exact⟨⟨x,((ih _).1 y).1⟩,((ih _).1 y).2⟩
  .rintro⟨⟨x,y⟩,z⟩
   exact⟨x,(ih _).2 ⟨y,z⟩⟩
theorem JR (x:DS):qv (x,Value.int .i64 0).2=0:=rfl
section
variable {n:Nat}
theorem Gn:∀(ws:List dg) {L:List UInt8} {H:bO},Has L n H->pS H->22<aK n->okW H ws->
  ∃L' k,Has L' n (kO H ws)/\pS (kO H ws)/\0<=k/\k<=5*(ws.length:Int)/\∀a,(DS.calm L a).gj n ws=(DS.calm L' (a+k),.int .i64 0)
 |[],L,H,h,h8,_,_=>⟨L,0,h,h8,by omega,by simp,fun a=>by simp[DS.gj]⟩
 |w::r,L,H,h,h8,hn,ho=>by
  obtain⟨⟨hs,hp,hc,hx⟩,ho⟩:=ho;have h8':=h8.set (.inl ⟨hs,hp⟩) w.becomes;obtain⟨L1,k1,hL1,hk0,hk1,hw1⟩:∃L1 k1,Has L1 n (fl H w.set w.path w.becomes)/\(0:Int)<=k1/\k1<=5/\∀a,(DS.calm L a).sN n w=(DS.calm L1 (a+k1),.int .i64 0):=by
   unfold DS.sN;cases hb:w.becomes with
   |none=>
    obtain⟨L1,q1,q2⟩:=qf h w.set w.path (hx hb);exact⟨L1,2,q1,by omega,by omega,q2⟩
   |some c=>
    obtain⟨L1,q1,q2⟩:=uN h h8 hn w.set w.path c (AW hs hp) (hc c hb);exact⟨L1,5,q1,by omega,by omega,q2⟩
  obtain⟨L2,k2,hL2,h82,hk2,hk3,hw2⟩:=Gn r hL1 h8' hn ho;refine⟨L2,k1+k2,hL2,h82,by omega,by rw[List.length_cons];omega,fun a=>?_⟩;show(if qv ((DS.calm L a).sN n w).2=0 then((DS.calm L a).sN n w).1.gj n r else(DS.calm L a).sN n w)=_;rw[hw1 a,if_pos (JR _),hw2,show a+k1+k2=a+(k1+k2) by omega]
def gG (H:bO)(p:List UInt8×Nat):bO:=fun s q=>if q=p.1/\s<=2 then H p.2 p.1 else H s q
theorem Bm {x:DS}{K:bO}(p:List UInt8×Nat)(hp:p.1∈P7)(h2:p.2<=1)(hK:∀s:Nat,s<=2->x.content n s (aB p.1)=K s p.1):okW K (fu x n p)/\kO K (fu x n p)=gG K p:=by
 have c1:=hK (1-p.2) (by omega);have c2:=hK 2 (by omega);have cs:=hK p.2 (by omega);have hl:∀c,K p.2 p.1=some c->c.length<=96:=fun c hc=>rM (cs.trans hc)
 have one:∀(s:Nat) (M:bO),s<=2->s≠p.2->M s p.1=x.content n s (aB p.1)->M p.2 p.1=K p.2 p.1->okW M (dk x n p s)/\kO M (dk x n p s)=fl M s p.1 (K p.2 p.1):=by
  intro s M hs hne hM hMs;have hcs:=hK s hs;unfold dk;rw[cs];split
  .rename_i e
   refine⟨trivial,?_⟩;rw[<-e,<-hM,Hw];rfl
  .rename_i e
   refine⟨⟨⟨hs,hp,hl,fun hn=>?_⟩,trivial⟩,rfl⟩;rw[hM];intro q;exact e (q.trans hn.symm)
 obtain⟨o1,a1⟩:=one (1-p.2) K (by omega) (by omega) c1.symm rfl;obtain⟨o2,a2⟩:=one 2 (fl K (1-p.2) p.1 (K p.2 p.1)) (by omega) (by omega) (by
  unfold fl;rw[if_neg (by omega),c2]) (by
  unfold fl;rw[if_neg (by omega)])
 unfold fu;refine⟨(FU _ _ _).2 ⟨o1,by rw[a1];exact o2⟩,?_⟩;rw[xB,a1,a2]
 funext s q
 unfold gG fl
 by_cases hq:q=p.1
 .subst hq
  by_cases h0:s=2
  .subst h0;simp
  .by_cases h1:s=1-p.2
   .subst h1;simp[h0]
   .by_cases hs:s=p.2
    .subst hs;simp[h0,h1]
    .simp[h0,h1];intro;omega
 .simp[hq]
theorem qh (ss:List (List UInt8×Nat))(K:bO)(s:Nat)(q:List UInt8)(h:∀p∈ss,p.1≠q):ss.foldl gG K s q=K s q:=by
 induction ss generalizing K with
 |nil=>rfl
 |cons p r ih=>
  rw[List.foldl_cons,ih _ fun p' hp'=>h p' (by simp[hp'])];unfold gG;rw[if_neg];exact fun e=>h p (by simp) e.1.symm
theorem kG (ss:List (List UInt8×Nat))(K:bO)(s:Nat)(q:List UInt8)(h:2<s:=by omega):ss.foldl gG K s q=K s q:=by
 induction ss generalizing K with
 |nil=>rfl
 |cons p r ih=>
  rw[List.foldl_cons,ih];unfold gG;rw[if_neg (by omega)]
theorem CW (ss:List (List UInt8×Nat))(K K':bO)(h:∀s q,s<=2->K s q=K' s q)(h1:∀p∈ss,p.2<=1)(s:Nat)(q:List UInt8)(hs:s<=2):ss.foldl gG K s q=ss.foldl gG K' s q:=by
 induction ss generalizing K K' with
 |nil=>exact h s q hs
 |cons p r ih=>
  rw[List.foldl_cons,List.foldl_cons];refine ih _ _ (fun s q hs=>?_) fun p' hp'=>h1 p' (by simp[hp'])
  have:=h1 p (by simp);unfold gG;rw[h p.2 p.1 (by omega),h s q hs]
theorem L0 (ss:List (List UInt8×Nat))(K:bO)(hs:ss.Pairwise fun p q=>p.1≠q.1)(h1:∀p∈ss,p.2<=1){p:List UInt8×Nat}(hp:p∈ss)(s:Nat)(h2:s<=2):ss.foldl gG K s p.1=K p.2 p.1:=by
 induction ss generalizing K with
 |nil=>simp at hp
 |cons a r ih=>
  rw[List.pairwise_cons] at hs;rw[List.foldl_cons];rcases List.mem_cons.1 hp with rfl|hp'
  .rw[qh r _ _ _ fun q hq e=>hs.1 q hq e.symm]
   unfold gG;rw[if_pos ⟨rfl,h2⟩]
  .rw[ih _ hs.2 (fun q hq=>h1 q (by simp[hq])) hp']
   unfold gG;rw[if_neg];exact fun e=>hs.1 p hp' e.1.symm
theorem Fp {x:DS}(ss:List (List UInt8×Nat))(K:bO)(hs:ss.Pairwise fun p q=>p.1≠q.1)(h1:∀p∈ss,p.1∈P7/\p.2<=1)(hK:∀p∈ss,∀s:Nat,s<=2->x.content n s (aB p.1)=K s p.1):
  okW K (bB x n ss)/\kO K (bB x n ss)=ss.foldl gG K:=by
 induction ss generalizing K with
 |nil=>exact⟨trivial,rfl⟩
 |cons p r ih=>
  rw[List.pairwise_cons] at hs;obtain⟨o1,a1⟩:=Bm (n:=n) (x:=x) (K:=K) p (h1 p (by simp)).1 (h1 p (by simp)).2 (hK p (by simp));have e:bB x n (p::r)=fu x n p++bB x n r:=rfl;obtain⟨o2,a2⟩:=ih (gG K p) hs.2 (fun q hq=>h1 q (by simp[hq])) fun q hq s hs'=>by
   rw[hK q (by simp[hq]) s hs'];unfold gG;rw[if_neg];exact fun e=>hs.1 q hq e.1.symm
  rw[e,FU,xB,a1,a2];exact⟨⟨o1,o2⟩,rfl⟩
theorem mQ:∀(ws:List dg) (f:Int),(ws.length:Int)<f->kI ws f=true
 |[],_,_=>rfl
 |w::r,f,h=>by
  rw[List.length_cons] at h;unfold kI;split
  .exact mQ r _ (by omega)
  .rw[if_neg (by omega)]
   split
   .exact mQ r _ (by omega)
   .exact mQ r _ (by omega)
structure jz (ss:List (List UInt8×Nat)):Prop where
 strict:ss.Pairwise fun p q=>p.1<q.1
 names:∀p∈ss,p.1∈P7/\p.2<=1
theorem jz.ne {ss:List (List UInt8×Nat)}(h:jz ss):ss.Pairwise fun p q=>p.1≠q.1:=h.strict.imp fun {a b} hab e=>by rw[e] at hab;exact absurd hab (List.lt_irrefl _)
theorem jz.ok {ss:List (List UInt8×Nat)}(h:jz ss):oR ss:=fun p hp=>⟨Rl (h.names p hp).1,(h.names p hp).2⟩
theorem jz.len {ss:List (List UInt8×Nat)}(h:jz ss):ss.length<=7:=by
 have:=jY (ss.map (·.1)) P7 (List.Pairwise.map _ (fun _ _ h=>h) h.ne) fun a ha=>by
  obtain⟨p,hp,rfl⟩:=List.mem_map.1 ha;exact(h.names p hp).1
 rw[List.length_map] at this;exact Nat.le_trans this (Nat.le_of_eq (by rfl))
variable {L:List UInt8}{H:bO}
theorem xy (h:Has L n H)(h7:dW H)(hn:37<aK n){ss:List (List UInt8×Nat)}(hs:jz ss):
  ∃L',Has L' n (fl H 3 [] (some (dc ss)))/\∀a,(DS.calm L a).begin n ss=(DS.calm L' (a+5),.int .i64 0):=by
 have hl:=hs.len;have hej:(dc ss).length<=63:=by have:=rK ss fun p hpm=>qS (hs.ok p hpm).1;omega
 obtain⟨L',q1,q2⟩:=uN h h7.eight (by omega) 3 [] (dc ss) (by rfl) (by omega);refine⟨L',q1,fun a=>?_⟩;have hfit:pP (DS.calm L a) n ss ((aK n:Int)-(taken (DS.calm L a) n).length-1)=true:=by
  have ht:(taken (DS.calm L a) n).length<=22:=by
   obtain⟨m,hr,hm⟩:=h;have h1:=oP (x:=DS.calm L a) hr rfl;have h2:=RS hr (h7.eight.slots (L:=L) (n:=n) hm);rw[<-h1] at h2;unfold aP at h2
   rwa [List.length_map] at h2
  have hw:=iJ (DS.calm L a) n ss;unfold pP;rw[decide_eq_true (by omega),Bool.true_and];exact mQ _ _ (by omega)
 unfold DS.begin;rw[hfit,if_neg (by simp)];exact q2 a
theorem QN (h:Has L n H)(h7:dW H)(hn:37<aK n){ss:List (List UInt8×Nat)}(hs:jz ss)(hne:ss≠[]):
  ∃L' k,Has L' n (ss.foldl gG H)/\dW (ss.foldl gG H)/\(0:Int)<=k/\k<=80/\(∀a,(DS.calm L a).xa n ss=(DS.calm L' (a+k),.int .i64 0))/\
   ∀a,((DS.calm L a).begin n ss).1.content n 3 ⟨#[]⟩=some (dc ss):=by
 have hl:=hs.len;obtain⟨L1,q1,q2⟩:=xy h h7 hn hs;have h8:pS (fl H 3 [] (some (dc ss))):=h7.eight.set (.inr ⟨rfl,rfl⟩) _;have hset:∀s p,s<=2->fl H 3 [] (some (dc ss)) s p=H s p:=fun s p hs=>by unfold fl;rw[if_neg (by omega)]
 obtain⟨o1,a1⟩:=Fp (n:=n) (x:=DS.calm L1 0) ss (fl H 3 [] (some (dc ss))) hs.ne hs.names fun p hp s hs'=>Has.content (x:=DS.calm L1 0) q1 rfl s p.1
 have hcalm:∀a,bB (DS.calm L1 a) n ss=bB (DS.calm L1 0) n ss:=fun a=>by
  have hc:∀(s:Nat) p,(DS.calm L1 a).content n s (aB p)=(DS.calm L1 0).content n s (aB p):=fun s p=>(Has.content (x:=DS.calm L1 a) q1 rfl s p).trans (Has.content (x:=DS.calm L1 0) q1 rfl s p).symm
  have hw:fu (DS.calm L1 a) n=fu (DS.calm L1 0) n:=by
   funext p
   unfold fu dk;simp only[hc]
  unfold bB;rw[hw]
 obtain⟨L2,k2,r1,r2,r3,r4,r5⟩:=Gn _ q1 h8 (by omega) o1;rw[a1] at r1 r2;have hj:ss.foldl gG (fl H 3 [] (some (dc ss))) 3 []=some (dc ss):=by
  rw[kG _ _ _ _];unfold fl;rw[if_pos ⟨rfl,rfl⟩]
 obtain⟨L3,t1,t2⟩:=qf r1 3 [] (by rw[hj];simp);have hfin:fl (ss.foldl gG (fl H 3 [] (some (dc ss)))) 3 [] none=ss.foldl gG H:=by
  funext s p
  unfold fl
  by_cases e:s=3/\p=[]
  .rw[if_pos e,kG _ _ _ _]
   cases hv:H s p with
   |none=>rfl
   |some v=>have:=(h7 s p (by rw[hv];simp)).1;omega
  .rw[if_neg e]
   by_cases h2:s<=2
   .exact CW ss _ _ (fun s q hs=>by rw[if_neg (by omega)]) (fun p hp=>(hs.names p hp).2) s p h2
   .rw[kG _ _ _ _,kG _ _ _ _,if_neg e]
 rw[hfin] at t1;have hlw:=iJ (DS.calm L1 0) n ss;refine⟨L3,5+k2+2,t1,?_,by omega,by omega,fun a=>?_,fun a=>?_⟩
 .intro s p hsp
  rw[<-hfin] at hsp;unfold fl at hsp;split at hsp
  .exact absurd rfl hsp
  .rename_i e
   rcases r2 s p hsp with q|q
   .exact q
   .exact absurd q e
 .unfold DS.xa
  rw[if_neg hne,q2 a,if_pos (JR _)];show DS.rI (DS.calm L1 (a+5)) n ss=_;unfold DS.rI;rw[hcalm,r5,if_pos (JR _)];show DS.remove (DS.calm L2 (a+5+k2)) n 3 ⟨#[]⟩=_;have:=t2 (a+5+k2);rw[show a+5+k2+2=a+(5+k2+2) by omega] at this;exact this
 .rw[q2 a]
  have:=Has.content (x:=DS.calm L1 (a+5)) q1 rfl 3 [];rw[show fl H 3 [] (some (dc ss)) 3 []=some (dc ss) by unfold fl;rw[if_pos ⟨rfl,rfl⟩]] at this;exact this
end
theorem sV {a b:List UInt8}(h:aB a=aB b):a=b:=by simpa [aB] using h
def Gt (set:Int):(ByteArray->Option ByteArray)->cV->ByteArray->Option ByteArray:=fun g f=>if(f.set:Int)=set then fun s=>if s=aB f.path then some (aB f.content) else g s else g
theorem qg (set:Int)(p:List UInt8):∀(fs:List cV) (g:ByteArray->Option ByteArray),(∀f∈fs,(f.set:Int)=set->f.path≠p)->fs.foldl (Gt set) g (aB p)=g (aB p)
 |[],_,_=>rfl
 |f::r,g,h=>by
  rw[List.foldl_cons,qg set p r _ fun f' hf'=>h f' (by simp[hf'])];unfold Gt;split
  .rename_i e
   exact if_neg fun q=>h f (by simp) e (sV q).symm
  .rfl
theorem CU (set:Nat):∀(fs:List cV) (g:ByteArray->Option ByteArray),(fs.map nameOf).Nodup->∀f∈fs,f.set=set->fs.foldl (Gt set) g (aB f.path)=some (aB f.content)
 |[],_,_,f,hf,_=>by simp at hf
 |a::r,g,hn,f,hf,hs=>by
  rw[List.map_cons,List.nodup_cons] at hn;rw[List.foldl_cons];rcases List.mem_cons.1 hf with rfl|hf
  .rw[qg set f.path r _ fun f' hf' e1 e2=>hn.1 (List.mem_map.2 ⟨f',hf',by unfold nameOf;rw[e2,hs,show f'.set=set by omega]⟩)]
   unfold Gt;rw[if_pos (by omega),if_pos rfl]
  .exact CU set r _ hn.2 f hf hs
section
variable {L:List UInt8}{n:Nat}{H:bO}{x:DS}
theorem Gv (h:Has x.aS n H)(hw:x.waiting=[])(s:Nat)(l:List UInt8):pO s (aP x n) (aB l)=(H s l).map aB:=by
 obtain⟨m,hr,hm⟩:=h;rw[oP hr hw];have hh:=hm s l;cases hv:H s l with
 |none=>
  rw[hv] at hh;refine qg _ l _ _ fun f hf e1 e2=>?_
  obtain⟨i,hi⟩:=hr.mem.1 hf;exact hh i f hi (by unfold nameOf;rw[e2,show f.set=s by omega])
 |some c=>
  rw[hv] at hh;obtain⟨i,hi⟩:=hh;exact CU s _ _ hr.nodup ⟨s,l,c⟩ (hr.mem.2 ⟨i,hi⟩) rfl
def ER (H:bO)(s:Nat)(l:List UInt8):Option (Bool×ByteArray):=if H s l=H 2 l then none else some (match H s l with|some c=>(true,aB c)|none=>(false,⟨#[]⟩))
theorem Cu {a b:Option (List UInt8)}:a.map aB=b.map aB↔a=b:=by
 constructor
 .intro h
  cases a<;>cases b<;>simp at h
  .rfl
  .rw[sV h]
 .rintro rfl;rfl
theorem uQ (h:Has x.aS n H)(hw:x.waiting=[])(s:Nat)(l:List UInt8):gB x n s (aB l)=ER H s l:=by
 unfold gB aH.jG ER;have h2:=Gv h hw 2 l;rw[show((2:Nat):Int)=2 from rfl] at h2;rw[Gv h hw s l,h2]
 by_cases e:H s l=H 2 l
 .rw[if_pos e,if_pos (Cu.2 e)]
 .rw[if_neg e,if_neg fun q=>e (Cu.1 q)]
  cases H s l<;>rfl
def iG (H:bO)(l:List UInt8):Option Nat:=if H 0 l=H 2 l then some 1 else if H 1 l=H 2 l then some 0 else if H 0 l=H 1 l then some 0 else none
theorem Ot (H:bO)(l:List UInt8):kh (ER H 0 l) (ER H 1 l)=iG H l:=by
 unfold ER iG
 by_cases e0:H 0 l=H 2 l
 .rw[if_pos e0,if_pos e0]
  cases (if H 1 l=H 2 l then none else some (match H 1 l with|some c=>(true,aB c)|none=>(false,⟨#[]⟩):Bool×ByteArray))<;>rfl
 .rw[if_neg e0,if_neg e0]
  by_cases e1:H 1 l=H 2 l
  .rw[if_pos e1,if_pos e1];rfl
  .rw[if_neg e1,if_neg e1]
   by_cases e:H 0 l=H 1 l
   .rw[if_pos e,<-e]
    exact if_pos rfl
   .rw[if_neg e]
    refine if_neg fun q=>e ?_
    cases h0:H 0 l<;>cases h1:H 1 l<;>rw[h0,h1] at q<;>simp at q;rw[sV q]
theorem Ou {l:List UInt8}{q:Nat}(h:iG H l=some q):q<=1:=by
 unfold iG at h;split at h
 .cases h;omega
 .split at h
  .cases h;omega
  .split at h
   .cases h;omega
   .cases h
theorem Hg {l:List UInt8}(h0:H 0 l=H 2 l)(_:H 1 l=H 2 l):iG H l=some 1:=by unfold iG;rw[if_pos h0]
def fh (H:bO):bO:=fun s p=>if s<=2 then(match iG H p with|some q=>H q p|none=>H s p) else H s p
def fy (H:bO)(ps:List (List UInt8)):List (List UInt8×Nat):=ps.filterMap fun l=>(iG H l).map fun s=>(l,s)
def jq (H:bO)(ps:List (List UInt8)):List (List UInt8):=ps.filter fun l=>(iG H l).isNone
def gy (H:bO)(ps:List (List UInt8)):Prop:=ps.Pairwise (·<·)/\∀l,l∈ps↔(H 0 l≠H 2 l\/H 1 l≠H 2 l)
theorem sw (h:Has x.aS n H)(hw:x.waiting=[]){ps:List (List UInt8)}(hP:rU x n ps):gy H ps:=by
 obtain⟨h1,h2,h3⟩:=hP;refine⟨yJ h1 h2,fun l=>?_⟩;rw[h3,MQ];have f0:=uQ h hw 0 l;have f1:=uQ h hw 1 l;rw[show((0:Nat):Int)=0 from rfl] at f0;rw[show((1:Nat):Int)=1 from rfl] at f1;rw[f0,f1];have one:∀s,ER H s l≠none↔H s l≠H 2 l:=fun s=>by
  unfold ER
  by_cases e:H s l=H 2 l
  .rw[if_pos e];simp[e]
  .rw[if_neg e];simp[e]
 rw[one,one]
theorem se (h:Has x.aS n H)(hw:x.waiting=[])(ps:List (List UInt8)):eA x n ps=fy H ps/\lq x n ps=jq H ps:=by
 have f0:=fun l=>uQ h hw 0 l
 have f1:=fun l=>uQ h hw 1 l
 simp only[show((0:Nat):Int)=0 from rfl] at f0;simp only[show((1:Nat):Int)=1 from rfl] at f1;unfold eA lq ij jt fy jq;simp only[f0,f1,Ot];exact⟨trivial,trivial⟩
theorem vn (h7:dW H){ps:List (List UInt8)}(hP:gy H ps):jz (fy H ps):=by
 refine⟨?_,fun p hp=>?_⟩
 .unfold fy
  refine List.Pairwise.filterMap _ (fun a b hab p hp q hq=>?_) hP.1;obtain⟨_,_,rfl⟩:=Option.map_eq_some_iff.1 hp;obtain⟨_,_,rfl⟩:=Option.map_eq_some_iff.1 hq;exact hab
 .unfold fy at hp
  obtain⟨l,hl,e⟩:=List.mem_filterMap.1 hp;obtain⟨q,hq,rfl⟩:=Option.map_eq_some_iff.1 e;refine⟨?_,Ou hq⟩;show l∈P7;have h1:=(hP.2 l).1 hl
  by_cases e2:H 2 l=none
  .rcases h1 with h1|h1
   .exact(h7 0 l fun q=>h1 (q.trans e2.symm)).2
   .exact(h7 1 l fun q=>h1 (q.trans e2.symm)).2
  .exact(h7 2 l e2).2
theorem vg (h7:dW H){ps:List (List UInt8)}(hP:gy H ps):(fy H ps).foldl gG H=fh H:=by
 have hok:=vn h7 hP
 funext s p
 unfold fh
 by_cases h2:s<=2
 .rw[if_pos h2]
  by_cases hp:p∈ps
  .cases hs:iG H p with
   |some q=>
    have hm:(p,q)∈fy H ps:=List.mem_filterMap.2 ⟨p,hp,by rw[hs];rfl⟩;exact L0 _ H hok.ne (fun a ha=>(hok.names a ha).2) hm s h2
   |none=>
    refine qh _ H s p fun a ha e=>?_
    obtain⟨l,hl,e1⟩:=List.mem_filterMap.1 ha;obtain⟨q,hq,rfl⟩:=Option.map_eq_some_iff.1 e1;have e:l=p:=e;rw[e,hs] at hq;cases hq
  .have hnp:=fun q=>hp ((hP.2 p).2 q)
   have e0:H 0 p=H 2 p:=Classical.byContradiction fun q=>hnp (.inl q)
   have e1:H 1 p=H 2 p:=Classical.byContradiction fun q=>hnp (.inr q)
   rw[Hg e0 e1];rw[qh _ H s p fun a ha e=>?_]
   .show H s p=H 1 p
    rcases(by omega:s=0\/s=1\/s=2) with rfl|rfl|rfl
    .rw[e0,e1]
    .rfl
    .rw[e1]
   .obtain⟨l,hl,e1⟩:=List.mem_filterMap.1 ha
    obtain⟨q,hq,rfl⟩:=Option.map_eq_some_iff.1 e1;exact hp (e▸hl)
 .rw[if_neg h2]
  exact kG _ _ _ _
theorem yw (h:Has L n H)(h7:dW H)(hn:37<aK n){ss:List (List UInt8×Nat)}(hs:jz ss)(a:Int):((DS.calm L a).begin n ss).1.content n 3 ⟨#[]⟩=some (dc ss):=by
 obtain⟨L1,q1,q2⟩:=xy h h7 hn hs;rw[q2 a];have:=Has.content (x:=DS.calm L1 (a+5)) q1 rfl 3 [];rw[show fl H 3 [] (some (dc ss)) 3 []=some (dc ss) by unfold fl;rw[if_pos ⟨rfl,rfl⟩]] at this;exact this
theorem Oe (h:Has L n H)(h7:dW H)(hn:37<aK n)(a:Int)(h0:0<=a)(h1:a<=900000000):AU (DS.calm L a) n:=by
 refine⟨rfl,fun _=>wU L a 105 h0 (by omega),fun ps hP=>?_⟩;have Sm:=sw (x:=DS.calm L a) h rfl hP;rw[(se (x:=DS.calm L a) h rfl ps).1];have hok:=vn h7 Sm;exact⟨hok.len,hok.ok,fun _=>yw h h7 hn hok a⟩
theorem Cr (h:Has L n H)(h7:dW H)(a:Int):x8 (DS.calm L a) n=0:=by
 obtain⟨m,hr,hm⟩:=h;have:=nW (x:=DS.calm L a) hr rfl (h7.slots hm);unfold x8;rw[this];rfl
theorem yI (h:Has L n H)(h7:dW H)(hn:37<aK n){ps:List (List UInt8)}(hP:gy H ps):
  ∃L' k,Has L' n (fh H)/\dW (fh H)/\(0:Int)<=k/\k<=80/\(∀a,(DS.calm L a).xa n (fy H ps)=(DS.calm L' (a+k),.int .i64 0))/\(fy H ps=[]->L'=L/\k=0):=by
 by_cases he:fy H ps=[]
 .have hf:=vg h7 hP
  rw[he] at hf;have hf:H=fh H:=hf;refine⟨L,0,hf▸h,hf▸h7,by omega,by omega,fun a=>?_,fun _=>⟨rfl,rfl⟩⟩;unfold DS.xa;rw[if_pos he,Int.add_zero]
 .obtain⟨L',k,q1,q2,q3,q4,q5,_⟩:=QN h h7 hn (vn h7 hP) he
  rw[vg h7 hP] at q1 q2;exact⟨L',k,q1,q2,q3,q4,q5,fun e=>absurd e he⟩
end
theorem vi:∀{a b:List (List UInt8)},a.Pairwise (·<·)->b.Pairwise (·<·)->(∀x,x∈a↔x∈b)->a=b
 |[],[],_,_,_=>rfl
 |[],y::_,_,_,h=>absurd ((h y).2 (by simp)) (by simp)
 |x::_,[],_,_,h=>absurd ((h x).1 (by simp)) (by simp)
 |x::a,y::b,ha,hb,h=>by
  rw[List.pairwise_cons] at ha hb;have hxy:x=y:=by
   rcases List.mem_cons.1 ((h x).1 (by simp)) with e|hx
   .exact e
   .rcases List.mem_cons.1 ((h y).2 (by simp)) with e|hy
    .exact e.symm
    .exact absurd (List.lt_trans (ha.1 y hy) (hb.1 x hx)) (List.lt_irrefl _)
  subst hxy;rw[vi ha.2 hb.2 fun z=>?_];constructor
  .intro hz
   rcases List.mem_cons.1 ((h z).1 (by simp[hz])) with rfl|q
   .exact absurd (ha.1 z hz) (List.lt_irrefl _)
   .exact q
  .intro hz
   rcases List.mem_cons.1 ((h z).2 (by simp[hz])) with rfl|q
   .exact absurd (hb.1 z hz) (List.lt_irrefl _)
   .exact q
section
variable {H:bO}{l:List UInt8}{ps ps':List (List UInt8)}
theorem gy.uniq (h:gy H ps)(h':gy H ps'):ps=ps':=vi h.1 h'.1 fun x=>(h.2 x).trans (h'.2 x).symm
theorem sc {q:Nat}(h:iG H l=some q)(s:Nat)(hs:s<=2):fh H s l=H q l:=by
 unfold fh;rw[if_pos hs,h]
theorem G7 (h:iG H l=none)(s:Nat)(hs:s<=2):fh H s l=H s l:=by
 unfold fh;rw[if_pos hs,h]
theorem Bv:iG H l=none↔H 0 l≠H 2 l/\H 1 l≠H 2 l/\H 0 l≠H 1 l:=by
 unfold iG
 by_cases h0:H 0 l=H 2 l
 .simp[h0]
 .by_cases h1:H 1 l=H 2 l
  .simp[h0,h1]
  .by_cases h2:H 0 l=H 1 l
   .simp[h0,h1,h2]
   .simp[h0,h1,h2]
theorem zv (h:gy H ps):l∈jq H ps↔iG H l=none:=by
 unfold jq;rw[List.mem_filter,Option.isNone_iff_eq_none,h.2];exact⟨fun q=>q.2,fun q=>⟨.inl (Bv.1 q).1,q⟩⟩
theorem AI (h:gy H ps):(jq H ps).Pairwise (·<·):=h.1.filter _
theorem E5 (h7:dW H)(h:gy H ps):((List.range 7).filter fun k=>decide (iG H (cz k)=none)).length=(jq H ps).length:=by
 generalize hks:((List.range 7).filter fun k=>decide (iG H (cz k)=none))=ks;have hmem:∀k,k∈ks↔k<7/\iG H (cz k)=none:=fun k=>by rw[<-hks,List.mem_filter,List.mem_range,decide_eq_true_eq]
 have hnd:ks.Nodup:=by rw[<-hks];exact List.nodup_range.filter _
 have hmap:(ks.map cz).Nodup:=by
  rw[List.Nodup,List.pairwise_map];exact hnd.imp_of_mem fun {a b} ha hb hab e=>hab (y5 a ((hmem a).1 ha).1 b ((hmem b).1 hb).1 e)
 have hcn:(jq H ps).Nodup:=(AI h).imp fun {a b} hab e=>by rw[e] at hab;exact absurd hab (List.lt_irrefl _)
 have h1:=jY (ks.map cz) (jq H ps) hmap fun a ha=>by
  obtain⟨k,hk,rfl⟩:=List.mem_map.1 ha;exact(zv h).2 ((hmem k).1 hk).2
 have h2:=jY (jq H ps) (ks.map cz) hcn fun a ha=>by
  have hs:=(zv h).1 ha;have hne:=(Bv.1 hs).1;have hp:a∈P7:=by
   by_cases e:H 2 a=none
   .exact(h7 0 a fun q=>hne (q.trans e.symm)).2
   .exact(h7 2 a e).2
  obtain⟨k,hk,rfl⟩:=wm.1 hp;exact List.mem_map.2 ⟨k,(hmem k).2 ⟨hk,hs⟩,rfl⟩
 rw[List.length_map] at h1 h2;omega
def jU (H:bO)(k:Nat):Nat:=((List.range k).filter fun k=>decide (iG H (cz k)=none)).length
theorem E6 (H:bO)(k:Nat):jU H (k+1)=jU H k+if iG H (cz k)=none then 1 else 0:=by
 unfold jU;rw[List.range_succ,List.filter_append,List.length_append]
 by_cases h:iG H (cz k)=none<;>simp[h]
theorem MP (H:bO)(k:Nat):jU H k<=k:=Nat.le_trans (List.length_filter_le _ _) (by simp)
end
end
end
end Go.Proofs.YtchcmhodnkgojaaGreat
