/- On the way to the last text; put together and shortened by program. -/
import Derived.Test.YtchcmhodnkgojaaGreatPart9
import Derived.Lib.AppendStr
import Derived.Sort.Walk0
import Derived.Laws.ResultCell
import Derived.BigQuiet
set_option linter.all false
set_option maxRecDepth 100000
set_option maxHeartbeats 8000000
namespace Go.Proofs.YtchcmhodnkgojaaGreat
noncomputable section
section
open Go.RowKit Go.Lib Go.Sort
open Go.Conc (base G stepG_value listed)
namespace aI
namespace Sq
abbrev R6:Nat:=90
def Sr (m:Nat)(wL:World)(v:Value)(w':World):Prop:=v=mm wL.heap.size/\∃t d,w'=ay {wL with heap:=wL.heap.push (.cells #[.map (some m)] Nd (0,0))} t d
theorem mM {E:aj.Env}{f:FuncId}{k:List Item}{R:Act->World->Prop}{a:Act}{wL w1:World}{ops:Array Oper}{i:Nat}{rest:List Nat}{o:Oper}(v:Value)(ho:ops[i]? =some o)(hg:o.guard=none)(hr:∀t d,(execOp a.eval o).run PP (ay wL t d)= .ok (.value v) (ay w1 t d))(h:aj.CI E f (.inRegion ops rest::k) R (a.put o.dst v) w1)(sc:lF PP S0 E0 true o=true:=by kernel_rfl):aj.CI E f (.inRegion ops (i::rest)::k) R a wL:=by
 refine aj.Sa ho sc hg fun t d=>?_
 rw[hr];exact(aj.mN t d).2 h
theorem C8 {E:aj.Env}{f:FuncId}{k:List Item}{R:Act->World->Prop}{a:Act}{wL:World}{ops:Array Oper}{i:Nat}{rest:List Nat}{o:Oper}(g j:Nat)(ho:ops[i]? =some o)(hg:o.guard=none)(hop:o.op= .makeFunc (.func g) #[] #[.tmp j])
  (h:aj.CI E f (.inRegion ops rest::k) R (a.put o.dst (.func (.func g) #[] #[a.eval (.tmp j)])) wL):aj.CI E f (.inRegion ops (i::rest)::k) R a wL:=fun CS π M tr hp ha hd hk=>by
 have hwd:∀c:Array Value,Region.wanted o (yielded ops c)=true:=fun c=>by simp[Region.wanted,hg]
 have hkb:(base f).kind≠.early:=by simp[base]
 have hv:VV (fY E.H wL) (a.eval (.tmp j)):=k9 (x:= .tmp j) ha rfl;have hr:∀w es,(execOp (bg π a []).eval o).runT PP w es=(.ok (.value (.func (.func g) #[] #[(bg π a []).eval (.tmp j)])) w,es):=fun w es=>by
  unfold execOp;rw[hop];show(do pure (.value (<-Instr.makeFunc (.func g) ((#[]:Array Operand).map (bg π a []).eval) ((#[.tmp j]:Array Operand).map (bg π a []).eval))):Sem Next).runT PP w es=_;rw[show(#[]:Array Operand).map (bg π a []).eval=#[] by simp,show(#[.tmp j]:Array Operand).map (bg π a []).eval=#[(bg π a []).eval (.tmp j)] by simp];rfl
 have hl0:∀w,listed PP (base f).fn (bg π a []) o w=#[]:=fun w=>by
  unfold listed;rw[show(execOp (bg π a []).eval o).events PP w #[]=#[] from congrArg Prod.snd (hr w #[])];simp[seen]
 refine aj.eu hp (fun w=>by rw[stepG_value ho (hwd _) hkb (by rw[<-Sem.runT_fst PP _ w #[],hr]),hl0]) fun M1 GU hp1=>?_
 have e:(bg π a []).put o.dst (.func (.func g) #[] #[(bg π a []).eval (.tmp j)])=bg π (a.put o.dst (.func (.func g) #[] #[a.eval (.tmp j)])) []:=by
  have h1:=qS (π:=π) a o.dst (.func (.func g) #[] #[a.eval (.tmp j)]);have h2:Value.ren π (.func (.func g) #[] #[a.eval (.tmp j)])= .func (.func g) #[] #[(bg π a []).eval (.tmp j)]:=by
   have h3:(bg π a []).eval (.tmp j)=Value.ren π (a.eval (.tmp j)):=by
    show(a.tmps.map (Value.ren π)).getD j undef=_;rw[jB];rfl
   rw[h3];simp[nX]
  rw[<-h2];exact h1
 rw[e] at hp1;refine h CS π M1 GU hp1 (jf ha fun r hr=>?_) ((put_defers _ _ _).trans hd) hk;cases hr with
 |first hx _=>simp at hx
 |E3 hx hh=>
  simp at hx;subst hx;exact hv r hh
theorem QB {E:aj.Env}{wL:World}(m:Nat):aj.CC E R6 #[.map (some m)] (Sr m wL) wL:=by
 refine aj.l9 Tryz.func90 rfl ?_;refine aj.eI (aj.dW (mM (w1:={wL with heap:=wL.heap.push (.cells #[.map (some m)] Nd (0,0))}) (pb wL.heap.size) rfl rfl (fun t d=>by kernel_rfl) ?_));refine eU _ rfl (.inl rfl) rfl (aj.cF ?_);refine aj.eI (aj.dW (C8 R5 1 rfl rfl rfl ?_))
 refine eU _ rfl (.inl rfl) rfl (aj.cF (aj.EV ?_));exact⟨mm wL.heap.size,by kernel_rfl,rfl,wL.tape,wL.drawn,rfl⟩
end Sq
end aI
def gy (x:DS)(n:Nat)(s:Int):aI.iD:=aI.jC (pP s (bh x n)) (pP 2 (bh x n))
def ij (fa fb:aI.iD)(ps:List (List UInt8)):List (List UInt8×Nat):=ps.filterMap fun l=>(kd (fa (aF l)) (fb (aF l))).map fun s=>(l,s)
def jk (fa fb:aI.iD)(ps:List (List UInt8)):List (List UInt8):=ps.filter fun l=>(kd (fa (aF l)) (fb (aF l))).isNone
def cu (ss:List (List UInt8×Nat)):List Value:=ss.flatMap fun p=>[.string (aF p.1),.int .i64 p.2]
theorem Gl (set:Int)(fs:List dk)(s:ByteArray)(h:pP set fs s≠none):∃f∈fs,s=aF f.path:=by
 have key:∀(fs:List dk) (g:ByteArray->Option ByteArray),fs.foldl (fun g f=>if(f.set:Int)=set then fun s=>if s=aF f.path then some (aF f.content) else g s else g) g s≠none->(∃f∈fs,s=aF f.path)\/g s≠none:=by
  intro fs
  induction fs with
  |nil=>intro g h;exact .inr h
  |cons f fs ih=>
   intro g h;rcases ih _ h with⟨x,hx,e⟩|h
   .exact .inl ⟨x,by simp[hx],e⟩
   .dsimp only at h
    by_cases hs:(f.set:Int)=set
    .rw[if_pos hs] at h
     by_cases he:s=aF f.path
     .exact .inl ⟨f,by simp,he⟩
     .rw[if_neg he] at h;exact .inr h
    .rw[if_neg hs] at h;exact .inr h
 rcases key fs _ h with h|h
 .exact h
 .exact absurd rfl h
theorem Qe {x:DS}{n:Nat}{s:ByteArray}(h:aI.comb (gy x n 0 s) (gy x n 1 s)≠none):∃f∈bh x n,s=aF f.path:=by
 have one:∀set,gy x n set s≠none->∃f∈bh x n,s=aF f.path:=fun set hs=>by
  unfold gy aI.jC at hs;split at hs
  .exact absurd rfl hs
  .rename_i hne
   by_cases h1:pP set (bh x n) s=none
   .exact Gl 2 _ s fun q=>hne (h1.trans q.symm)
   .exact Gl set _ s h1
 by_cases h0:gy x n 0 s=none
 .by_cases h1:gy x n 1 s=none
  .rw[h0,h1] at h;exact absurd rfl h
  .exact one 1 h1
 .exact one 0 h0
theorem few {x:DS}{n:Nat}(ks:List ByteArray)(hn:ks.Nodup)(h:∀s∈ks,aI.comb (gy x n 0 s) (gy x n 1 s)≠none):ks.length<=54:=by
 have h54:(bh x n).length<=54:=by unfold bh;rw[List.length_map];exact i9 x n
 have h1:(ks.map fun k=>k.data.toList).Nodup:=by
  refine List.Pairwise.map _ (fun a b hab he=>hab ?_) hn;have:a.data=b.data:=Array.ext' he;cases a;cases b;simp_all
 have h2:=qz (ks.map fun k=>k.data.toList) ((bh x n).map (·.path)) h1 fun a ha=>by
  obtain⟨k,hk,rfl⟩:=List.mem_map.1 ha;obtain⟨f,hf,e⟩:=Qe (h k hk);refine List.mem_map.2 ⟨f,hf,?_⟩;rw[e];simp[aF]
 simp at h2;omega
theorem aI.dh.few {es:Array MapEntry}{c:Nat}{f:ByteArray->Option Value}(h:aI.dh es c f):∃ks:List ByteArray,ks.Nodup/\ks.length=es.size/\∀s∈ks,f s≠none:=by
 refine⟨es.toList.map fun e=>match e.key with|.string s=>s|_=>⟨#[]⟩,?_,by simp,fun s hs=>?_⟩
 .have hp:=((Go.MapKept.stamped_iff es c).1 h.stamped).2.2
  refine(List.pairwise_map).2 (hp.imp_of_mem fun {a b} ha hb hab he=>?_);obtain⟨s,hs⟩:=aI.iy (h.keys a ha);obtain⟨s',hs'⟩:=aI.iy (h.keys b hb);rw[hs,hs'] at he hab;simp only at he;subst he
  simp_all
 .obtain⟨e,he,rfl⟩:=List.mem_map.1 hs
  obtain⟨s,hs⟩:=aI.iy (h.keys e he);rw[hs];rw[(h.has s e.val).2 ⟨e,he,hs,rfl⟩];simp
end
section
open Go.RowKit Go.Lib Go.Sort
open Go.Conc (base G)
theorem pd:Elem Tryz.prog 109 168 2 24:=⟨by kernel_rfl,by kernel_rfl,by omega⟩
theorem Mv {a b:Option (Bool×ByteArray)}:aI.comb a b≠none↔(a≠none\/b≠none):=by
 unfold aI.comb;cases a<;>cases b<;>simp
theorem World.ownsRow.agG {S:List Nat}{w w':World}{base:Nat}{e:TypeId}{size:Nat}{v:Value}{n:Nat}{xs:List Value}(h:w.ownsRow base e size v n xs)(f:eF S w w')(hS:∀g,v.ownBlock=some g->g∉S):w'.ownsRow base e size v n xs:=by
 refine⟨h.1,h.2.imp id fun⟨g,cap,cur,e1,e2,e3,e4⟩=>⟨g,cap,cur,e1,e2,?_,e4⟩⟩;rw[f.block g (Array.getElem?_eq_some_iff.1 e3).1 (hS g (by rw[e1];rfl))];exact e3
theorem Bi (fa fb:aI.iD)(ps:List (List UInt8))(k:Nat)(hk:k<ps.length):ij fa fb (ps.take (k+1))=ij fa fb (ps.take k)++((kd (fa (aF ps[k])) (fb (aF ps[k]))).map fun s=>(ps[k],s)).toList:=by
 unfold ij;rw[List.take_succ_eq_append_getElem hk,List.filterMap_append]
 congr 1
 all_goals (cases h:kd (fa (aF ps[k])) (fb (aF ps[k]))<;>simp[h])
theorem C5 (fa fb:aI.iD)(ps:List (List UInt8))(k:Nat)(hk:k<ps.length):jk fa fb (ps.take (k+1))=jk fa fb (ps.take k)++if(kd (fa (aF ps[k])) (fb (aF ps[k]))).isNone then [ps[k]] else []:=by
 unfold jk;rw[List.take_succ_eq_append_getElem hk,List.filter_append]
 congr 1
 all_goals (cases h:kd (fa (aF ps[k])) (fb (aF ps[k]))<;>simp[h])
theorem DB (fa fb:aI.iD)(ps:List (List UInt8)):(ij fa fb ps).length<=ps.length:=List.length_filterMap_le _ _
theorem ET (fa fb:aI.iD)(ps:List (List UInt8)):(jk fa fb ps).length<=ps.length:=List.length_filter_le _ _
theorem qC (a b:List (List UInt8×Nat)):cu (a++b)=cu a++cu b:=by simp[cu]
section
variable {ops:Array Oper}{Q:Exit->Act->World->Prop}{a:Act}{w:World}{rest:List Oper}{o:Oper}
theorem tC {t:TypeId}{x y:Operand}{b:Bool}(_:o.op= .lookup t x y b)(h:ax (wpList Tryz.prog ops Q (o::rest) a w)):wpList Tryz.prog ops Q (o::rest) a w:=h
theorem GN (hg:o.guard=none)(t kt vt:TypeId)(x y:Operand)(ho:o.op= .lookup t x y false)(ht:Tryz.prog.underlying t=some (.map kt vt))(hk:Tryz.prog.underlying kt=some .string){z:Value}(hz:(Tryz.prog.info? vt).bind (·.zero)=some z)
  {m c:Nat} {es:Array MapEntry} {f:ByteArray->Option Value} {s:ByteArray} (hx:a.eval x= .map (some m)) (hy:a.eval y= .string s) (hm:w.heap[m]? =some (.map es c)) (hf:aI.dh es c f) (v:Value) (hv:(f s).getD z=v)
  (h:wpList Tryz.prog ops Q rest (a.put o.dst v) w):wpList Tryz.prog ops Q (o::rest) a w:=by
 refine cN hg v w ?_ h;have:=(aI.oL (t:=t) (s:=s) ht hk hz hm hf).run;rw[hv] at this;unfold execOp;rw[ho];show(do pure (.value (<-Instr.lookup t (a.eval x) (a.eval y) false)):Sem Next).run _ _=_;rw[hx,hy];exact this
end
theorem _root_.Go.World.ownsRow.weak {w:World}{base base':Nat}{e:TypeId}{size:Nat}{v:Value}{n:Nat}{xs:List Value}(h:w.ownsRow base e size v n xs)(hb:base'<=base):w.ownsRow base' e size v n xs:=
 ⟨h.1,h.2.imp id fun⟨g,cap,cur,e1,e2,e3⟩=>⟨g,cap,cur,e1,Nat.le_trans hb e2,e3⟩⟩
def Ss (x:DS)(n:Nat)(wL:World)(v:Value)(w':World):Prop:=∃(ps:List (List UInt8)) (sv cv:Value),ps.Pairwise (·<=·)/\ps.Nodup/\(∀l,l∈ps↔aI.comb (gy x n 0 (aF l)) (gy x n 1 (aF l))≠none)/\
 v= .tuple #[sv,cv]/\eF [] wL w'/\w'.ownsRow wL.heap.size 168 2 sv (ij (gy x n 0) (gy x n 1) ps).length (cu (ij (gy x n 0) (gy x n 1) ps))/\
 w'.ownsRow wL.heap.size 9 1 cv (jk (gy x n 0) (gy x n 1) ps).length (iG (jk (gy x n 0) (gy x n 1) ps))
open aI aI.Sq in
theorem QC {E:aj.Env}{wL:World}{d bl n:Nat}{x:DS}(hd:aI.fo d bl n x wL):aj.CC E 55 #[.pointer (some ⟨d,0,none⟩)] (Ss x n wL) wL:=by
 refine aj.l9 Tryz.func55 rfl ?_;refine aj.eI (aj.dW (eU _ rfl (.inl rfl) rfl (eU _ rfl (.inl rfl) rfl (aj.cF ?_))));refine aj.eI (aj.dW (eU _ rfl (.inl rfl) rfl (aj.cF ?_)))
 refine aj.eI (aj.dW (eU _ rfl (.inl rfl) rfl (aj.cF ?_)));refine aj.eI (aj.dW (eU _ rfl (.inr rfl) rfl ?_));refine kH (f2:=88) #[.tmp 11] #[.pointer (some ⟨d,0,none⟩)] (R2:=ac7 x n wL) rfl rfl (by kernel_rfl) (fun b w=>by kernel_rfl) (by kernel_rfl) (EZ hd) fun v w1 hR _=>?_
 obtain⟨es,c,rfl,⟨t1,d1,rfl⟩,hD⟩:=hR;refine(aj.mN t1 d1).2 ?_;obtain⟨es',c',f,e0,hm,hf⟩:=hD;cases e0;have hfix:=C2 (a:=gy x n 0) (b:=gy x n 1) (es:=es) (c:=c) ⟨es,c,f,rfl,hm,hf⟩;have hf':∀s,f s=comb (gy x n 0 s) (gy x n 1 s):=hf;obtain⟨w1,hw1⟩:∃w1,w1={wL with heap:=wL.heap.push (.map es c)}:=⟨_,rfl⟩
 rw[<-hw1];have hes:es.size<=54:=by
  obtain⟨ks,k1,k2,k3⟩:=hm.few;rw[<-k2];exact few (x:=x) (n:=n) ks k1 fun s hs=>by rw[<-hf'];exact k3 s hs
 have B1:eF [] wL w1:=by
  rw[hw1];exact⟨rfl,by simp,fun k hk _=>by show(wL.heap.push _)[k]? =_;rw[Array.getElem?_push_lt hk];exact(Array.getElem?_eq_getElem hk).symm⟩
 have hM1:w1.heap[wL.heap.size]? =some (.map es c):=by rw[hw1];simp
 have s1:w1.heap.size=wL.heap.size+1:=by rw[hw1];simp
 clear hw1;refine eU _ rfl (.inl rfl) rfl (aj.cF ?_);refine aj.eI (aj.eI (aj.dW (eU _ rfl (.inr rfl) rfl ?_)));refine kH (f2:=R6) #[.tmp 13] #[.map (some wL.heap.size)] (R2:=Sr wL.heap.size w1) rfl rfl (by kernel_rfl) (fun b w=>by kernel_rfl) (by kernel_rfl) (QB _) fun v w2 hR _=>?_
 obtain⟨rfl,t2,d2,rfl⟩:=hR;refine(aj.mN t2 d2).2 ?_;obtain⟨w2,hw2⟩:∃w2,w2={w1 with heap:=w1.heap.push (.cells #[.map (some wL.heap.size)] Nd (0,0))}:=⟨_,rfl⟩
 rw[<-hw2];have B2:eF [] w1 w2:=by
  rw[hw2];exact⟨rfl,by simp,fun k hk _=>by show(w1.heap.push _)[k]? =_;rw[Array.getElem?_push_lt hk];exact(Array.getElem?_eq_getElem hk).symm⟩
 have hB2:w2.heap[w1.heap.size]? =some (.cells #[.map (some wL.heap.size)] Nd (0,0)):=by rw[hw2];simp
 have s2:w2.heap.size=w1.heap.size+1:=by rw[hw2];simp
 clear hw2;have hM2:w2.heap[wL.heap.size]? =some (.map es c):=(B2.block _ (by omega) (by simp)).trans hM1;refine kH (f2:=89) #[.tmp 14] #[mm w1.heap.size] (R2:=GB f w2) rfl rfl (by kernel_rfl) (fun b w=>by kernel_rfl) (by kernel_rfl)
  (I0 (es:=es) (E1 (XI hB2 hM2 hm hfix (by omega))) fun ks k1 k2=>Nat.lt_of_le_of_lt (few (x:=x) (n:=n) ks k1 fun s hs=>by rw[<-hf'];exact(k2 s).1 hs) (by omega)) fun v w3 hR _=>?_
 obtain⟨ps,hs,hn,hmem,B3,hv⟩:=hR;have Ws:w3.heap[wL.heap.size]? =some (.map es c):=(B3.block _ (by omega) (by simp)).trans hM2;have BL:eF [] wL w3:=(B1.trans B2).trans B3;obtain⟨ad,cap,rfl,hcell⟩:∃ad cap,v= .slice ad ps.length cap/\(0<ps.length->∃g,ad=some ⟨g,0,none⟩/\g<w3.heap.size/\Holds encStr w3 g 0 ps.toArray):=by
  rcases hv with⟨rfl,rfl⟩|⟨g,cap,rfl,_,h2,h3⟩
  .exact⟨none,0,rfl,fun h=>absurd h (by simp)⟩
  .exact⟨_,cap,rfl,fun _=>⟨g,rfl,h2,h3⟩⟩
 have hpl:ps.length<=54:=by
  have:=few (x:=x) (n:=n) (ps.map aF) (List.Pairwise.map _ (fun a b hab he=>hab (by simpa [aF] using he)) hn) fun s hs=>by
   obtain⟨l,hl,rfl⟩:=List.mem_map.1 hs;rw[<-hf'];exact(hmem l).1 hl
  simpa using this
 clear hv B1 B2 B3 hM1 hM2 hB2;refine mM (w1:=w3) (.int .i64 ps.length) rfl rfl (fun t d=>by kernel_rfl) ?_;refine eU _ rfl (.inr rfl) rfl (aj.cF ?_)
 refine ta {tmps:=#[.pointer (some ⟨d,0,none⟩),undef,.slice none 0 0,.slice none 0 0,.slice none 0 0,.slice none 0 0,.map (some wL.heap.size),undef,undef,undef,undef,.pointer (some ⟨d,0,none⟩),.map (some wL.heap.size),.map (some wL.heap.size),mm w1.heap.size,.slice ad ps.length cap,.int .i64 ps.length,.int .i64 0,undef,undef,undef,undef,undef,undef,undef,undef,undef,undef,undef,undef,undef,undef,undef,undef,undef,undef,undef,undef,undef,undef,undef,undef],defers:=[]} (by kernel_rfl) ?_
 generalize hmm:wL.heap.size=m at*;generalize w1.heap.size=qb at*;refine aj.eZ none ⟨_,Tryz.func55⟩ (by kernel_rfl) (by simp) (fun w=>eF [] wL w/\w.heap[m]? =some (.map es c)/\(0<ps.length->∃g,ad=some ⟨g,0,none⟩/\g<w.heap.size/\Holds encStr w g 0 ps.toArray)) (fun w t d h=>⟨h.1.tape t d,h.2.1,h.2.2⟩) ⟨BL,Ws,hcell⟩ fun w hI hsz=>?_
 obtain⟨hB,hM,hC⟩:=hI;clear BL Ws hcell hsz;go_wp2_with fail
 go_loopw [4,5,17] (fun u4 u5 u17 wr=>∃k:Nat,u17= .int .i64 k/\k<=ps.length/\aR [] w wr/\wr.ownsRow w.heap.size 168 2 u4 (ij (gy x n 0) (gy x n 1) (ps.take k)).length (cu (ij (gy x n 0) (gy x n 1) (ps.take k)))/\
  wr.ownsRow w.heap.size 9 1 u5 (jk (gy x n 0) (gy x n 1) (ps.take k)).length (iG (jk (gy x n 0) (gy x n 1) (ps.take k)))/\∀g,u4.ownBlock=some g->u5.ownBlock=some g->False) (fun _ _ u17 _=>ps.length-(intOf u17).toNat)
 case atStart=>exact⟨0,rfl,by omega,aR.refl _ _,World.ownsRow_nil _ _ _ _,World.ownsRow_nil _ _ _ _,fun g h=>by cases h⟩
 case round=>
  obtain⟨k,rfl,hk,fk,ho1,ho2,IB⟩:=hrel
  by_cases hlt:k<ps.length
  .obtain⟨g,rfl,hg,hH⟩:=hC (by omega)
   have hc1:wr.cell? ⟨g,k,none⟩=some (.string (aF ps[k])):=by
    have h1:=(hH k (by simpa using hlt)).1;rw[getElem!_pos ps.toArray k (by simpa using hlt)] at h1;have h2:wr.heap[g]? =w.heap[g]? :=fk.block g hg (by simp);unfold World.cell? at h1⊢;simp only[Nat.zero_add] at h1;rw[h2];simpa [encStr,aF] using h1
   have hM':wr.heap[m]? =some (.map es c):=(fk.block m (Array.getElem?_eq_some_iff.1 hM).1 (by simp)).trans hM;have hs1:=Bi (gy x n 0) (gy x n 1) ps k hlt;have hs2:=C5 (gy x n 0) (gy x n 1) ps k hlt;have hl1:(ij (gy x n 0) (gy x n 1) (ps.take k)).length<=54:=by have:=DB (gy x n 0) (gy x n 1) (ps.take k);rw[List.length_take] at this;omega
   have hl2:(jk (gy x n 0) (gy x n 1) (ps.take k)).length<=54:=by have:=ET (gy x n 0) (gy x n 1) (ps.take k);rw[List.length_take] at this;omega
   generalize ps[k]=p at*;have hfp:(f (aF p)).getD zF= .agg (aI.cj (gy x n 0 (aF p)) (gy x n 1 (aF p))):=by rw[hf',xp]
   go_wp2_with (with_reducible first|refine tC rfl ?_);refine ax.go (GN rfl 153 9 164 _ _ rfl JG JH Jv rfl rfl hM' hm _ hfp ?_);clear hfp hM' hc1;have YJ:Hid (ij (gy x n 0) (gy x n 1) (ps.take (k+1))=ij (gy x n 0) (gy x n 1) (ps.take k)++((kd (gy x n 0 (aF p)) (gy x n 1 (aF p))).map fun s=>(p,s)).toList):=hs1
   have HS2:Hid (jk (gy x n 0) (gy x n 1) (ps.take (k+1))=jk (gy x n 0) (gy x n 1) (ps.take k)++if(kd (gy x n 0 (aF p)) (gy x n 1 (aF p))).isNone then [p] else []):=hs2;clear hs1 hs2;generalize gy x n 0 (aF p)=fa at YJ HS2⊢;generalize gy x n 1 (aF p)=fb at YJ HS2⊢;go_wp2_with (with_reducible first|refine tC rfl ?_);refine(DH fa fb wr).mono ?_
   rintro e w4 ⟨rfl,f4⟩;have RY:=fk.trans f4;have PG:=f4.owns ho1;have PF:=f4.owns ho2;cases hsrc:kd fa fb with
   |some sd=>
    rw[hsrc] at YJ HS2;simp only[Option.getD_some,Option.isSome_some];go_wp2_with (with_reducible first|refine bJ 168 rfl ?_|refine ce rfl ?_|refine cg rfl ?_);refine ax.go (cN rfl (.agg #[.string (aF p),.int .i64 sd]) w4 (by kernel_rfl) ?_);go_wp2_with (with_reducible first|refine ce rfl ?_|refine cg rfl ?_)
    refine ax.go (iv rfl 109 168 2 24 pd _ rfl (.agg #[.string (aF p),.int .i64 sd]) rfl rfl ?_);intro w8 b8 l8 f8 r8;go_wp2_with (with_reducible first|refine ce rfl ?_|refine cg rfl ?_);have wQ:=f8.owns PG;have Ev:=f8.owns PF;have LJ:=RY.trans f8;have hbase:w.heap.size<=w8.heap.size:=LJ.size
    refine ax.go (i7 rfl 109 168 2 24 pd _ _ rfl w.heap.size u4 _ _ rfl wQ b8 1 1 [.string (aF p),.int .i64 sd] rfl _ _ r8 rfl rfl (by simp[Value.oneCell']) (by omega) (by omega) (by omega) hbase ?_);intro g' cap' w9 Lj f9 hg';have Xj:=LJ.trans f9 (by intro j hj;right;simp at hj;exact(wQ.lt j hj).1)
    have af1:=f9.owns Ev (by intro q hq hq';simp at hq;exact IB q hq hq');have Lr:∀q,g'=q->u5.ownBlock=some q->False:=fun q e hq=>by
     subst e;rcases hg' with h|h
     .exact IB g' h hq
     .have:=(Ev.lt g' hq).2;omega
    clear ho1 ho2 PG PF wQ Ev r8 f8 f9 l8 fk RY LJ f4 hbase IB hg';go_wp2_with fail
    go_roundw
    case rel=>
     refine⟨k+1,by go_num,by omega,Xj,?_,?_,fun q h=>Lr q (by simpa [Value.ownBlock] using h)⟩
     .rw[YJ.out,qC]
      simpa [cu] using Lj
     .rw[HS2.out]
      simpa using af1
    case measure=>simp[intOf];omega
   |none=>
    rw[hsrc] at YJ HS2;simp only[Option.getD_none,Option.isSome_none];go_wp2_with (with_reducible first|refine bJ 168 rfl ?_|refine ce rfl ?_|refine cg rfl ?_);refine ax.go (iv rfl 45 9 1 16 lg _ rfl (.string (aF p)) rfl rfl ?_);intro w8 b8 l8 f8 r8;go_wp2_with (with_reducible first|refine ce rfl ?_|refine cg rfl ?_)
    have wQ:=f8.owns PG;have Ev:=f8.owns PF;have LJ:=RY.trans f8;have hbase:w.heap.size<=w8.heap.size:=LJ.size;refine ax.go (i7 rfl 45 9 1 16 lg _ _ rfl w.heap.size u5 _ _ rfl Ev b8 1 1 [.string (aF p)] rfl _ _ r8 rfl rfl (by simp[Value.oneCell']) (by omega) (by omega) (by omega) hbase ?_);intro g' cap' w9 Lj f9 hg'
    have Xj:=LJ.trans f9 (by intro j hj;right;simp at hj;exact(Ev.lt j hj).1);have af2:=f9.owns wQ (by intro q hq hq';simp at hq;exact IB q hq' hq);have Lr:∀q,u4.ownBlock=some q->g'=q->False:=fun q hq e=>by
     subst e;rcases hg' with h|h
     .exact IB g' hq h
     .have:=(wQ.lt g' hq).2;omega
    clear ho1 ho2 PG PF wQ Ev r8 f8 f9 l8 fk RY LJ f4 hbase IB hg';go_wp2_with fail
    go_roundw
    case rel=>
     refine⟨k+1,by go_num,by omega,Xj,?_,?_,fun q h h'=>Lr q h (by simpa [Value.ownBlock] using h')⟩
     .rw[YJ.out]
      simpa using af2
     .rw[HS2.out]
      simpa [iG,encStr,aF] using Lj
    case measure=>simp[intOf];omega
  .have hk2:k=ps.length:=by omega
   subst hk2;rw[List.take_of_length_le (Nat.le_refl _)] at ho1 ho2;have hbw:m<=w.heap.size:=by have:=hB.size;omega
   go_wp2_with fail;refine aj.eI (aj.dW (eU _ rfl (.inr rfl) rfl (eU _ rfl (.inr rfl) rfl (eU _ rfl (.inl rfl) rfl (eU _ rfl (.inl rfl) rfl (aj.cF (aj.EV ?_)))))));refine⟨.tuple #[u4,u5],by kernel_rfl,ps,u4,u5,hs,hn,fun l=>by rw[<-hf'];exact hmem l,rfl,hB.trans fk.blk,?_,?_⟩
   .rw[hmm];exact ho1.weak hbw
   .rw[hmm];exact ho2.weak hbw
end
section
open Go.RowKit Go.Lib
theorem wK:∃i,Tryz.prog.info? 5=some i/\i.size=1/\i.bytes=1/\i.zero=some (.int .u8 0):=by
 have:=zl;cases hi:Tryz.prog.info? 5 with
 |none=>simp[hi] at this
 |some i=>simp only[hi,Option.map_some,Option.some.injEq,Prod.mk.injEq] at this;exact⟨i,rfl,this⟩
def xR (b:Nat)(w w':World):Prop:=∀k o,w.heap[k]? =some o->k≠b->(∀c f,o≠.cells c 5 f)->w'.heap[k]? =some o
theorem xR.refl (b:Nat)(w:World):xR b w w:=fun _ _ h _ _=>h
theorem xR.trans {b:Nat}{w w' w'':World}(h:xR b w w')(h':xR b w' w''):xR b w w'':=fun k o h1 h2 h3=>h' k o (h k o h1 h2 h3) h2 h3
theorem xR.cell {b off:Nat}{w:World}(v:Value):xR b w (w.setCell ⟨b,off,none⟩ v):=fun k o h1 h2 _=>by rw[(Go.Conc.aside_setCell w ⟨b,off,none⟩ v).block k h2];exact h1
theorem xR.wV {b:Nat}{w w':World}(h:aR [] w w'):xR b w w':=fun k o h1 _ _=>by rw[h.block k (Array.getElem?_eq_some_iff.1 h1).1 (by simp)];exact h1
theorem xR.grown {b B n:Nat}{w w':World}{v:Value}{xs:List Value}(ho:w.ownsRow B 5 1 v n xs)(h:w.grownBy w' v.ownBlock):xR b w w':=fun k o h1 _ h3=>by
 rw[h.block k (Array.getElem?_eq_some_iff.1 h1).1 fun e=>?_]
 .exact h1
 .rcases ho.2 with⟨rfl,_⟩|⟨g,cap,cur,rfl,_,hg,_⟩
  .cases e
  .have:g=k:=by simpa [Value.ownBlock] using e.symm
   subst this;rw[hg] at h1;exact h3 _ _ (Option.some.inj h1).symm
theorem uf (B b:Nat)(bs:List Value)(w:World)(h:IsBuilder 146 5 B b bs w):
  Calls Tryz.prog 129 #[.pointer (some ⟨b,0,none⟩)] w fun e w'=>e= .returned (.tuple #[])/\BuilderAt 146 5 B b (.pointer (some ⟨b,0,none⟩)) bs w'/\Below B w w'/\xR b w w':=by
 rcases h with h|h
 .refine(nd b w h.cell0 h.shape h.frozen0).mono ?_
  rintro e w' ⟨rfl,rfl⟩;exact⟨rfl,h.used _,(Below.refl B w).setCell (p:=⟨b,0,none⟩) h.1 _,xR.cell _⟩
 .refine(oz b w h.cell0).mono ?_
  rintro e w' ⟨rfl,rfl⟩;exact⟨rfl,h,Below.refl B _,xR.refl _ _⟩
theorem Iq9:Elem Tryz.prog 85 5 1 1:=⟨oI,by kernel_rfl,by omega⟩
theorem GO (B b:Nat)(bs:List Value)(c:Int)(w:World)(h:IsBuilder 146 5 B b bs w)(hlen:bs.length+1<=1000000)(hBw:B<=w.heap.size):
  Calls Tryz.prog 179 #[.pointer (some ⟨b,0,none⟩),.int .u8 c] w fun e w'=>e= .returned .nilIface/\BuilderAt 146 5 B b (.pointer (some ⟨b,0,none⟩)) (bs++[.int .u8 c]) w'/\Below B w w'/\xR b w w':=by
 obtain⟨i0,hi,hz⟩:=wK;go_enter Tryz.func179,Tryz.ntmps179;go_wp2_with fail;refine(uf B b bs w h).mono ?_;rintro e w1 ⟨rfl,h1',hb1,ot1⟩;obtain⟨hB,v,hbk,hown,hne⟩:=h1';have c0:w1.cell? ⟨b,0,none⟩=some (.pointer (some ⟨b,0,none⟩)):=by rw[Lib.cell_of_heap hbk];rfl
 have c1:w1.cell? ⟨b,1,none⟩=some v:=by rw[Lib.cell_of_heap hbk];rfl
 have hlt:b<w1.heap.size:=(Array.getElem?_eq_some_iff.1 hbk).1;go_wp2_with (with_reducible first|refine ce rfl ?_|refine cg rfl ?_);refine ax.go (iv rfl 85 5 1 1 Iq9 _ rfl (.int .u8 c) rfl rfl ?_);intro w2 b2 l2 f2 r2;have hown2:=f2.owns hown
 have hbk2:w2.heap[b]? =some (.cells #[.pointer (some ⟨b,0,none⟩),v] 146 (0,0)):=by rw[f2.block b hlt (by simp)];exact hbk
 have hsz:=hb1.size;have hsz2:=f2.size;have hcell2:∀j u,[Value.int .u8 c][j]? =some u->w2.cell? ((⟨b2,0,none⟩:Addr).add j)=some u:=fun j u hj=>by
  rw[Addr.add_mid,r2.cell];simpa [Value.cells] using hj
 clear c0 c1;go_wp2_with (at_builtin;refine wpList_append_own _ rfl _ _ 85 rfl B 5 i0 (.int .u8 0) 1 1 oI hi hz.2.2 hz.1 hz.2.1 rfl (by decide) _ _ _ rfl hown2 ⟨b2,0,none⟩ 1 1 [.int .u8 c] rfl rfl hcell2 (by simp[Value.oneCell']) ?c3 ?c4 ?c5 ?_)
 case c3=>unfold maxLen;omega
 case c4=>omega
 case c5=>omega
 intro v' w3 hown' hgrow _;have hb3:w3.heap[b]? =some (.cells #[.pointer (some ⟨b,0,none⟩),v] 146 (0,0)):=by
  rw[hgrow.block b (by omega) (fun e=>hne e.symm)];exact hbk2
 have d0:w3.cell? ⟨b,0,none⟩=some (.pointer (some ⟨b,0,none⟩)):=by rw[Lib.cell_of_heap hb3];rfl
 have d1:w3.cell? ⟨b,1,none⟩=some v:=by rw[Lib.cell_of_heap hb3];rfl
 have f1:w3.frozen? ⟨b,1,none⟩=false:=Lib.frozen_of_heap hb3 1;obtain⟨ao,n',cap,rfl⟩:∃ao n' cap,v'= .slice ao n' cap:=by
  rcases hown'.2 with⟨hv,_⟩|⟨g,cap,cur,hv,_⟩
  .exact⟨_,_,_,hv⟩
  .exact⟨_,_,_,hv⟩
 have hB2:Below B w w2:=⟨f2.os.trans hb1.os,f2.tape.trans hb1.tape,f2.output.trans hb1.output,by omega,fun k hk=>by rw[f2.block k (by have:=hb1.size;omega) (by simp)];exact hb1.block k hk⟩
 go_wp2_with fail;go_ret;refine⟨rfl,?_,?_,((ot1.trans (xR.wV f2)).trans (xR.grown hown2 hgrow)).trans (xR.cell _)⟩
 .exact Lib.BuilderAt.put (T:=146) (e:=5) hB hb3 (bs':=bs++[.int .u8 c]) (by simpa using hown') (by decide)
 .exact(hB2.grown hgrow (by omega) (fun k hk=>(hown.lt k hk).1)).setCell (p:=⟨b,1,none⟩) hB _
theorem A3 (B b:Nat)(bs:List Value)(s:ByteArray)(w:World)(h:IsBuilder 146 5 B b bs w)(hlen:bs.length+s.size<=1000000)(hBw:B<=w.heap.size):
  Calls Tryz.prog 153 #[.pointer (some ⟨b,0,none⟩),.string s] w fun e w'=>e= .returned (.tuple #[.int .i64 s.size,.nilIface])/\BuilderAt 146 5 B b (.pointer (some ⟨b,0,none⟩)) (bs++strCells s) w'/\Below B w w'/\xR b w w':=by
 obtain⟨i0,hi,hz⟩:=wK;go_enter Tryz.func153,Tryz.ntmps153;go_wp2_with fail;refine(uf B b bs w h).mono ?_;rintro e w1 ⟨rfl,h1',hb1,ot1⟩;obtain⟨hB,v,hbk,hown,hne⟩:=h1';have c0:w1.cell? ⟨b,0,none⟩=some (.pointer (some ⟨b,0,none⟩)):=by rw[Lib.cell_of_heap hbk];rfl
 have c1:w1.cell? ⟨b,1,none⟩=some v:=by rw[Lib.cell_of_heap hbk];rfl
 have hlt:b<w1.heap.size:=(Array.getElem?_eq_some_iff.1 hbk).1;have hsz:=hb1.size;go_wp2_with (at_builtin;refine Lib.wpList_append_own_string _ rfl _ _ 85 9 rfl B 5 i0 oI Tryz.underlying9 hi hz.2.2 hz.1 hz.2.1 _ _ _ rfl hown s rfl ?c3 ?c4 ?c5 ?_)
 case c3=>unfold maxLen;omega
 case c4=>omega
 case c5=>omega
 intro v' w3 hown' hgrow _;have hb3:w3.heap[b]? =some (.cells #[.pointer (some ⟨b,0,none⟩),v] 146 (0,0)):=by
  rw[hgrow.block b (by omega) (fun e=>hne e.symm)];exact hbk
 have d0:w3.cell? ⟨b,0,none⟩=some (.pointer (some ⟨b,0,none⟩)):=by rw[Lib.cell_of_heap hb3];rfl
 have d1:w3.cell? ⟨b,1,none⟩=some v:=by rw[Lib.cell_of_heap hb3];rfl
 have f1:w3.frozen? ⟨b,1,none⟩=false:=Lib.frozen_of_heap hb3 1;obtain⟨ao,n',cap,rfl⟩:∃ao n' cap,v'= .slice ao n' cap:=by
  rcases hown'.2 with⟨hv,_⟩|⟨g,cap,cur,hv,_⟩
  .exact⟨_,_,_,hv⟩
  .exact⟨_,_,_,hv⟩
 clear c0 c1;go_wp2_with fail
 go_ret2
 refine⟨rfl,?_,?_,(ot1.trans (xR.grown hown hgrow)).trans (xR.cell _)⟩
 .exact Lib.BuilderAt.put (T:=146) (e:=5) hB hb3 (bs':=bs++strCells s) (by rw[List.length_append,strCells_length];exact hown') (by decide)
 .exact(hb1.grown hgrow (by omega) (fun k hk=>(hown.lt k hk).1)).setCell (p:=⟨b,1,none⟩) hB _
def dc (ss:List (List UInt8×Nat)):List UInt8:=ss.flatMap fun p=>(if p.2=0 then 76 else 82)::p.1
theorem CX (a b:List (List UInt8×Nat)):dc (a++b)=dc a++dc b:=by simp[dc]
theorem nz (l:List (List UInt8×Nat))(k:Nat)(hk:k<l.length):((cu l).drop (k*2)).take 2=[.string (aF l[k].1),.int .i64 l[k].2]:=by
 have h:∀(l:List (List UInt8×Nat)) (k:Nat),(cu l).drop (k*2)=cu (l.drop k):=by
  intro l
  induction l with
  |nil=>intro k;simp[cu]
  |cons f r ih=>
   intro k;cases k with
   |zero=>simp
   |succ k=>
    have:=ih k;have e:cu (f::r)=[.string (aF f.1),.int .i64 f.2]++cu r:=rfl;rw[e,show(k+1)*2=2+k*2 by omega,<-List.drop_drop];simpa using this
 rw[h,List.drop_eq_getElem_cons hk];rfl
theorem row_step:(Tryz.prog.underlying 168).map TypeDesc.isRow=some true:=by kernel_rfl
theorem oW:(Tryz.prog.info? 168).map (·.size)=some 2:=by kernel_rfl
theorem yH:(Tryz.prog.info? 168).map (·.zero)=some (some (.agg #[.string ⟨#[]⟩,.int .i64 0])):=by kernel_rfl
theorem vq (l:List UInt8):strCells (aF l)=byteCells l:=by
 unfold strCells aF byteCells;simp
theorem CA (base:Nat)(v:Value)(ss:List (List UInt8×Nat))(w:World)(hv:w.ownsRow base 168 2 v ss.length (cu ss))(hl:ss.length<=54)(hp:∀p∈ss,p.1.length<=8/\p.2<=1):
  Calls Tryz.prog 138 #[v] w fun e w'=>e= .returned (.string (aF (dc ss)))/\aR [] w w':=by
 obtain⟨ad,cap,hv'⟩:=cy hv;subst hv';have hel:∀k,k<=ss.length->(dc (ss.take k)).length<=9*k:=by
  intro k
  induction k with
  |zero=>intro _;simp[dc]
  |succ k ih=>
   intro hk;rw[List.take_succ_eq_append_getElem (by omega),CX,List.length_append];have h1:=ih (by omega);have h2:=(hp ss[k] (List.getElem_mem (by omega))).1;have h3:(dc [ss[k]]).length=1+ss[k].1.length:=by simp[dc];omega
   omega
 go_enter Tryz.func138,Tryz.ntmps138;go_wp2_with (with_reducible first|refine aA rfl ?_);refine ax.go (bv rfl 146 rfl _ qu ?_);intro w1 b3 l3 f1 r3;have hB0:IsBuilder 146 5 w.heap.size b3 (byteCells (dc (ss.take 0))) w1:=
  .inl ⟨l3,.slice none 0 0,r3,by simpa [byteCells,dc] using World.ownsRow_nil _ _ _ _,by simp[Value.ownBlock]⟩
 go_wp2_with fail;clear r3
 go_loopw [8] (fun c wr=>∃k:Nat,c= .int .i64 k/\k<=ss.length/\aR [] w wr/\IsBuilder 146 5 w.heap.size b3 (byteCells (dc (ss.take k))) wr) (fun c _=>ss.length-(intOf c).toNat)
 case atStart=>exact⟨0,rfl,by omega,f1,hB0⟩
 case round=>
  obtain⟨k,rfl,hk,fk,hb⟩:=hrel;clear f1 hB0
  by_cases hlt:k<ss.length
  .have hvk:=fk.owns hv
   obtain⟨g,cur,rfl,hg,hle,_,hcs,htk⟩:=e9 hvk;have hat:((cur.toList.drop (k*2)).take 2)=[.string (aF ss[k].1),.int .i64 ss[k].2]:=by
    rw[cL htk _ _,nz ss k hlt]
   have hpk:=hp ss[k] (List.getElem_mem hlt);have hek:=hel k hk;have HX:Hid (dc (ss.take (k+1))=dc (ss.take k)++((if ss[k].2=0 then 76 else 82)::ss[k].1)):=by
    show _=_;rw[List.take_succ_eq_append_getElem hlt,CX];simp[dc]
   generalize ss[k]=p at*;obtain⟨p1,p2⟩:=p;simp only at hat hpk HX;generalize dc (ss.take k)=pre at*;clear hcs htk hvk;go_wp2_with (with_reducible first|refine aA rfl ?_|refine az 168 rfl ?_|refine ah 168 rfl ?_);refine ax.go (bY rfl 168 _ rfl g (k*2) rfl row_step 2 oW _ _ hg _ hat rfl ?_);clear hat hg
   go_wp2_with (with_reducible first|refine aA rfl ?_|refine ah 168 rfl ?_);refine ax.go (bv rfl 168 rfl _ yH ?_);intro w4 b5 l5 f4 r5;go_wp2_with (with_reducible first|refine aA rfl ?_|refine ah 168 rfl ?_);refine ax.go (bT rfl 168 _ _ rfl _ 0 rfl _ rfl 2 oW ?_ ?_ _ _ r5 ?_ ?_)
   .rfl
   .simp[Value.oneCell']
   .decide
   intro w5 f5 q5;rw[bO _ _ (by rfl)] at q5;have oQ:Row w5 b5 #[.string (aF p1),.int .i64 p2] 168:=q5;have mI:aR [] wr w5:=f4.trans f5 (by simpa using l5);have rz:=fk.trans mI;have hb5:=FX hb mI;have c0:w5.cell? ⟨b5,0,none⟩=some (.string (aF p1)):=by rw[oQ.cell];rfl
   have hne:b5≠b3:=by
    have:b3<wr.heap.size:=by
     rcases hb with hb|hb<;>exact hb.lt
    omega
   have hlen1:(byteCells pre).length+1<=1000000:=by rw[af];omega
   clear q5 r5 f4 f5 mI fk hb;have hs8:(aF p1).size<=8:=by simpa [aF,ByteArray.size] using hpk.1
   obtain⟨cb,hcb,HX2⟩:∃cb:UInt8,Hid (cb=if p2=0 then 76 else 82)/\Hid (dc (ss.take (k+1))=pre++[cb]++p1):=⟨_,rfl,by show _=_;rw[HX.out];rcases(by omega:p2=0\/p2=1) with rfl|rfl<;>simp⟩
   clear HX;rcases(by omega:p2=0\/p2=1) with rfl|rfl
   all_goals
    have c1:=oQ.cell 1;simp at c1;go_wp2_with fail;refine(GO w.heap.size b3 _ _ w5 hb5 hlen1 rz.size).mono ?_;rintro e w6 ⟨rfl,hb6,QM,ot6⟩;have sR:=j8 rz QM;have PM:IsBuilder 146 5 w.heap.size b3 (byteCells (pre++[cb])) w6:=by
     rw[byteCells_append,hcb.out];exact .inr hb6
    have q6:Row w6 b5 _ 168:=ot6 b5 _ oQ hne (by simp);have d0:w6.cell? ⟨b5,0,none⟩=some (.string (aF p1)):=by rw[q6.cell];rfl
    have Gd:(byteCells (pre++[cb])).length+(aF p1).size<=1000000:=by rw[af,List.length_append,List.length_singleton];omega
    clear hb6 QM ot6 hb5 oQ q6 rz c0 c1 hlen1;go_wp2_with fail;refine(A3 w.heap.size b3 _ _ w6 PM Gd sR.size).mono ?_;rintro e w7 ⟨rfl,hb7,bl7,_⟩;have xP:=j8 sR bl7;have agf:IsBuilder 146 5 w.heap.size b3 (byteCells (dc (ss.take (k+1)))) w7:=by
     rw[HX2.out,byteCells_append,<-vq p1];exact .inr hb7
    clear hb7 bl7 PM sR d0 Gd;go_wp2_with fail
    go_roundw
    case rel=>exact⟨k+1,by go_num,by omega,xP,agf⟩
    case measure=>simp[intOf];omega
  .obtain rfl:k=ss.length:=by omega
   rw[List.take_of_length_le (by omega)] at hb;go_wp2_with fail;refine(Tryz.Builder_String_any w.heap.size b3 (dc ss) wr hb fk.size).mono ?_;rintro e w6 ⟨rfl,QM⟩;have sR:=j8 fk QM;go_wp2_with fail;go_ret;exact⟨rfl,sR⟩
def hvD (o:Option (List UInt8)):Value:=aI.hv o.isSome (aF (o.getD []))
def hcells (o:Option (List UInt8)):Array Value:=#[.bool o.isSome,.string (aF (o.getD []))]
theorem qQ:(Tryz.prog.underlying 161).map TypeDesc.isRow=some true:=by kernel_rfl
theorem jj:(Tryz.prog.info? 161).map (·.size)=some 2:=by kernel_rfl
theorem se:(Tryz.prog.info? 161).map (·.zero)=some (some (.agg #[.bool false,.string ⟨#[]⟩])):=by kernel_rfl
theorem zj (d bl n:Nat)(vw:Value)(x:DS)(s:Int)(p:ByteArray)(w:World)(h:bE w d bl n vw x):
  Calls Tryz.prog 142 #[.pointer (some ⟨d,0,none⟩),.agg (dK s p)] w fun e w'=>e= .returned (hvD (x.content n s p))/\aR [] w w':=by
 go_enter Tryz.func142,Tryz.ntmps142;go_wp2_with (with_reducible first|refine bL rfl ?_|refine aA rfl ?_|refine az 103 rfl ?_);refine ax.go (ii rfl 103 _ rfl (.agg (dK s p)) rfl ?_);intro w1 b3 l3 f1 r3;have h1:=h.new f1;go_wp2_with (with_reducible first|refine aA rfl ?_|refine az 103 rfl ?_)
 refine ax.go (bv rfl 161 rfl _ se ?_);intro w2 b4 l4 f2 r4;have h2:=h1.new f2;have r32:Row w2 b3 (dK s p) 103:=by unfold Row;rw[f2.block b3 (Array.getElem?_eq_some_iff.1 r3).1 (by simp)];exact r3
 go_wp2_with (with_reducible first|refine az 103 rfl ?_);refine ax.go (bY rfl 103 _ rfl b3 0 rfl gG 2 eJ _ _ r32 [.int .i64 s,.string p] rfl rfl ?_);go_wp2_with fail;refine(rG d bl n vw x s p w2 h2).mono ?_;rintro e w3 ⟨rfl,f3⟩
 have r43:Row w3 b4 #[.bool false,.string ⟨#[]⟩] 161:=by unfold Row;rw[f3.block b4 (Array.getElem?_eq_some_iff.1 r4).1 (by simp)];exact r4
 have EG:=(f1.trans f2).trans f3;have hfz:w.heap.size<=b4:=Nat.le_trans f1.size l4;clear h1 h2 r3 r4 r32 f1 f2 f3;obtain⟨o,ho⟩:∃o,x.content n s p=o:=⟨_,rfl⟩
 have HC:Hid (x.content n s p=o):=ho;rw[ho];clear ho;go_wp2_with (with_reducible first|refine bJ 161 rfl ?_|refine ah 161 rfl ?_);refine ax.go (cN rfl (.agg (hcells o)) w3 (by kernel_rfl) ?_);go_wp2_with (with_reducible first|refine ah 161 rfl ?_);refine ax.go (bT rfl 161 _ _ rfl b4 0 rfl (hcells o) rfl 2 jj ?_ ?_ _ _ r43 ?_ ?_)
 .rfl
 .simp[hcells,Value.oneCell']
 .decide
 intro w4 f4 q4;rw[bO _ _ (by rfl)] at q4;have Ks:Row w4 b4 (hcells o) 161:=q4;have fw:=EG.trans f4 (by simp;exact hfz);clear q4;go_wp2_with fail;exact kV rfl b4 rfl rfl _ _ Ks qQ (by exact jj) ⟨by rw[HC.out];rfl,fw⟩
theorem ya (s:Nat)(hs:s<=1)(w:World):Calls Tryz.prog 143 #[.int .i64 s] w fun e w'=>e= .returned (.int .i64 (1-s:Nat))/\w'=w:=by
 rcases(by omega:s=0\/s=1) with rfl|rfl
 .go_enter Tryz.func143,Tryz.ntmps143
  go_wp2_with fail;go_ret;exact⟨rfl,rfl⟩
 .go_enter Tryz.func143,Tryz.ntmps143
  go_wp2_with fail;go_ret;exact⟨rfl,rfl⟩
structure dg where
 set:Nat
 path:List UInt8
 becomes:Option (List UInt8)
 replaces:Bool
def dg.vals (w:dg):List Value:=[.int .i64 w.set,.string (aF w.path),.bool w.becomes.isSome,.string (aF (w.becomes.getD [])),.bool w.replaces]
def jw (ws:List dg):List Value:=ws.flatMap dg.vals
def dm (x:DS)(n:Nat)(p:List UInt8×Nat)(set:Nat):List dg:=if x.content n set (aF p.1)=x.content n p.2 (aF p.1) then [] else [⟨set,p.1,x.content n p.2 (aF p.1),(x.content n set (aF p.1)).isSome⟩]
def fq (x:DS)(n:Nat)(p:List UInt8×Nat):List dg:=dm x n p (1-p.2)++dm x n p 2
def bD (x:DS)(n:Nat)(ss:List (List UInt8×Nat)):List dg:=ss.flatMap (fq x n)
theorem xU (x:DS)(n:Nat)(ss:List (List UInt8×Nat))(k:Nat)(hk:k<ss.length):bD x n (ss.take (k+1))=bD x n (ss.take k)++fq x n ss[k]:=by
 unfold bD;rw[List.take_succ_eq_append_getElem hk,List.flatMap_append];simp
theorem nr (x:DS)(n:Nat)(p:List UInt8×Nat)(s:Nat):(dm x n p s).length<=1:=by unfold dm;split<;>simp
theorem iE (x:DS)(n:Nat)(ss:List (List UInt8×Nat)):(bD x n ss).length<=2*ss.length:=by
 induction ss with
 |nil=>simp[bD]
 |cons p ss ih=>
  have e:bD x n (p::ss)=fq x n p++bD x n ss:=rfl;have h1:=nr x n p (1-p.2);have h2:=nr x n p 2;rw[e,List.length_append,List.length_cons];unfold fq;rw[List.length_append];omega
theorem GI (a b:List dg):jw (a++b)=jw a++jw b:=by simp[jw]
theorem xf:Elem Tryz.prog 173 176 5 56:=⟨by kernel_rfl,by kernel_rfl,by omega⟩
theorem Ld {a b:Option (List UInt8)}:(a.isSome==b.isSome&&aF (a.getD [])==aF (b.getD []))=true↔a=b:=by
 rw[Bool.and_eq_true,beq_iff_eq,Go.MapKept.bytes_beq];constructor
 .rintro⟨h1,h2⟩
  have h3:a.getD []=b.getD []:=by
   have:=congrArg (fun s:ByteArray=>s.data.toList) h2;simpa [aF] using this
  cases a<;>cases b<;>simp_all
 .rintro rfl
  exact⟨rfl,rfl⟩
section
variable {ops:Array Oper}{Q:Exit->Act->World->Prop}{a:Act}{w:World}{rest:List Oper}{o:Oper}
theorem pV {t:TypeId}{x y:Operand}(_:o.op= .index t x y)(h:ax (wpList Tryz.prog ops Q (o::rest) a w)):wpList Tryz.prog ops Q (o::rest) a w:=h
theorem NF (hg:o.guard=none)(x y:Nat)(u:TypeId)(ho:o.op= .binOp .neq aI.TH (.tmp x) (.tmp y) u){b1 b2:Bool}{s1 s2:ByteArray}(hx:a.eval (.tmp x)=aI.hv b1 s1)(hy:a.eval (.tmp y)=aI.hv b2 s2)
  (h:wpList Tryz.prog ops Q rest (a.put o.dst (.bool (!(b1==b2&&s1==s2)))) w):wpList Tryz.prog ops Q (o::rest) a w:=by
 refine cN hg _ w ?_ h;have:=(aI.FF (w:=w) b1 b2 s1 s2).run;unfold execOp;rw[ho];show(do pure (.value (<-(do eqGuard .neq aI.TH (.tmp x) (.tmp y) (a.eval (.tmp x)) (a.eval (.tmp y));binOp .neq aI.TH (a.eval (.tmp x)) (a.eval (.tmp y))))):Sem Next).run _ _=_;rw[hx,hy,ot _ _ _ _ rfl rfl];exact this
end
theorem Row.aside {w w':World}{b base size n:Nat}{c:Array Value}{t e:TypeId}{v:Value}{xs:List Value}(r:Row w b c t)(ho:w.ownsRow base e size v n xs)(hne:t≠e)(f:aR v.ownBlock.toList w w'):Row w' b c t:=by
 unfold Row at r⊢;rw[f.block b (Array.getElem?_eq_some_iff.1 r).1 fun hb=>?_]
 .exact r
 .rcases ho.2 with⟨rfl,_⟩|⟨g,cap,cur,rfl,_,hg,_⟩
  .simp[Value.ownBlock] at hb
  .have:b=g:=by simpa [Value.ownBlock] using hb
   subst this;rw[r] at hg;cases hg;exact hne rfl
theorem Row.wV {w w':World}{b:Nat}{c:Array Value}{t:TypeId}(r:Row w b c t)(f:aR [] w w'):Row w' b c t:=by
 unfold Row at r⊢;rw[f.block b (Array.getElem?_eq_some_iff.1 r).1 (by simp)];exact r
theorem vg (d bl n:Nat)(vw:Value)(x:DS)(base:Nat)(v:Value)(ss:List (List UInt8×Nat))(w:World)(h:bE w d bl n vw x)(hv:w.ownsRow base 168 2 v ss.length (cu ss))(hl:ss.length<=54)(hp:∀p∈ss,p.2<=1):
  Calls Tryz.prog 95 #[.pointer (some ⟨d,0,none⟩),v] w fun e w'=>∃u,e= .returned u/\w'.ownsRow w.heap.size 176 5 u (bD x n ss).length (jw (bD x n ss))/\aR [] w w':=by
 obtain⟨ad,cap,hv'⟩:=cy hv;subst hv';go_enter Tryz.func95,Tryz.ntmps95;go_wp2_with fail
 go_loopw [5,15] (fun u c wr=>∃k:Nat,c= .int .i64 k/\k<=ss.length/\aR [] w wr/\wr.ownsRow w.heap.size 176 5 u (bD x n (ss.take k)).length (jw (bD x n (ss.take k)))) (fun _ c _=>ss.length-(intOf c).toNat)
 case atStart=>exact⟨0,rfl,by omega,aR.refl _ _,World.ownsRow_nil _ _ _ _⟩
 case round=>
  obtain⟨k,rfl,hk,fk,ho⟩:=hrel
  by_cases hlt:k<ss.length
  .have hvk:=fk.owns hv
   obtain⟨g,cur,rfl,hg,hle,_,hcs,htk⟩:=e9 hvk;have hat:((cur.toList.drop (k*2)).take 2)=[.string (aF ss[k].1),.int .i64 ss[k].2]:=by
    rw[cL htk _ _,nz ss k hlt]
   have hpk:=hp ss[k] (List.getElem_mem hlt);have hlen:(bD x n (ss.take k)).length<=108:=by have:=iE x n (ss.take k);rw[List.length_take] at this;omega
   have HX:Hid (bD x n (ss.take (k+1))=bD x n (ss.take k)++fq x n ss[k]):=xU x n ss k hlt;generalize ss[k]=p at*;generalize bD x n (ss.take k)=pre at*;obtain⟨p1,sd⟩:=p;simp only at hat hpk;clear hcs htk hvk;go_wp2_with (with_reducible first|refine aA rfl ?_|refine az 168 rfl ?_|refine ah 168 rfl ?_)
   refine ax.go (bY rfl 168 _ rfl g (k*2) rfl row_step 2 oW _ _ hg _ hat rfl ?_);clear hat hg;go_wp2_with (with_reducible first|refine aA rfl ?_|refine ah 168 rfl ?_);refine ax.go (bv rfl 168 rfl _ yH ?_);intro w4 b7 l7 f4 r4;go_wp2_with (with_reducible first|refine aA rfl ?_|refine ah 168 rfl ?_)
   refine ax.go (bT rfl 168 _ _ rfl _ 0 rfl _ rfl 2 oW ?_ ?_ _ _ r4 ?_ ?_)
   .rfl
   .simp[Value.oneCell']
   .decide
   intro w5 f5 q5;rw[bO _ _ (by rfl)] at q5;have oQ:Row w5 b7 #[.string (aF p1),.int .i64 sd] 168:=q5;have mI:aR [] wr w5:=f4.trans f5 (by simpa using l7);have rz:=fk.trans mI;have Gb:=mI.owns ho;have h5:=h.new rz;have c0:w5.cell? ⟨b7,0,none⟩=some (.string (aF p1)):=by rw[oQ.cell];rfl
   have c1:w5.cell? ⟨b7,1,none⟩=some (.int .i64 sd):=by rw[oQ.cell];rfl
   clear q5 r4 f4 f5 fk ho;go_wp2_with (with_reducible first|refine bJ 103 rfl ?_|refine aA rfl ?_);refine ax.go (cN rfl (.agg (dK sd (aF p1))) w5 (by kernel_rfl) ?_);go_wp2_with (with_reducible first|refine aA rfl ?_);refine(zj d bl n vw x sd (aF p1) w5 h5).mono ?_;rintro e w6 ⟨rfl,f6⟩;obtain⟨o,ho0⟩:∃o,x.content n sd (aF p1)=o:=⟨_,rfl⟩
   have HB:Hid (x.content n sd (aF p1)=o):=ho0;rw[ho0];clear ho0 h5 c0 c1;go_wp2_with (with_reducible first|refine aA rfl ?_);refine ax.go (bv rfl 161 rfl _ se ?_);intro w7 b8 l8 f7 r7;go_wp2_with (with_reducible first|refine ah 161 rfl ?_);refine ax.go (bT rfl 161 _ _ rfl b8 0 rfl (hcells o) rfl 2 jj ?_ ?_ _ _ r7 ?_ ?_)
   .rfl
   .simp[hcells,Value.oneCell']
   .decide
   intro w8 f8 q8;rw[bO _ _ (by rfl)] at q8;have Z9:Row w8 b8 (hcells o) 161:=q8;have f68:aR [] w5 w8:=f6.trans (f7.trans f8 (by simpa using l8));have qt:=rz.trans f68;have q7:=oQ.wV f68;have Jp:=f68.owns Gb;have c1:w8.cell? ⟨b7,1,none⟩=some (.int .i64 sd):=by rw[q7.cell];rfl
   clear q8 r7 f6 f7 f8 f68 rz oQ Gb;go_wp2_with fail;refine(ya sd hpk w8).mono ?_;rintro e w9 ⟨rfl,rfl⟩;go_wp2_with (with_reducible first|refine bJ 233 rfl ?_);refine ax.go (cN rfl (.agg #[.int .i64 (1-sd:Nat),.int .i64 2]) w9 (by kernel_rfl) ?_);go_wp2_with fail
   go_loopw [5,30] (fun u c wr2=>∃j:Nat,c= .int .i64 j/\j<=2/\aR [] w wr2/\Row wr2 b7 #[.string (aF p1),.int .i64 sd] 168/\Row wr2 b8 (hcells o) 161/\
    wr2.ownsRow w.heap.size 176 5 u (pre++([1-sd,2].take j).flatMap (dm x n (p1,sd))).length (jw (pre++([1-sd,2].take j).flatMap (dm x n (p1,sd))))) (fun _ c _=>2-(intOf c).toNat)
   case atStart=>exact⟨0,rfl,by omega,qt,q7,Z9,by simpa using Jp⟩
   case round=>
    obtain⟨j,rfl,hj,fr,rb7,rb8,hor⟩:=hrel;clear c1 q7 Z9 Jp qt
    by_cases hj2:j<2
    .have Gd:(pre++([1-sd,2].take j).flatMap (dm x n (p1,sd))).length<=110:=by
      have h1:=nr x n (p1,sd) (1-sd);rw[List.length_append];rcases(by omega:j=0\/j=1) with rfl|rfl<;>simp<;>omega
     obtain⟨tw,jn,HT,HJ,HY⟩:∃tw jn:Nat,Hid (tw=if j=0 then 1-sd else 2)/\Hid (jn=j+1)/\Hid (([1-sd,2].take jn).flatMap (dm x n (p1,sd))=([1-sd,2].take j).flatMap (dm x n (p1,sd))++dm x n (p1,sd) tw):=⟨_,_,rfl,rfl,by show _=_;rcases(by omega:j=0\/j=1) with rfl|rfl<;>simp⟩
     obtain⟨afo,Lh⟩:∃l,l=pre++([1-sd,2].take j).flatMap (dm x n (p1,sd)):=⟨_,rfl⟩
     have HP2:Hid (afo=pre++([1-sd,2].take j).flatMap (dm x n (p1,sd))):=Lh;rw[<-Lh] at hor Gd;clear Lh;rcases(by omega:j=0\/j=1) with rfl|rfl
     all_goals
      have c0:wr.cell? ⟨b7,0,none⟩=some (.string (aF p1)):=by rw[rb7.cell];rfl
      go_wp2_with (with_reducible first|refine pV rfl ?_);refine ax.go (cN rfl (.int .i64 (tw:Nat)) wr (by rw[HT.out];kernel_rfl) ?_);go_wp2_with (with_reducible first|refine bJ 103 rfl ?_|refine aA rfl ?_);refine ax.go (cN rfl (.agg (dK tw (aF p1))) wr (by kernel_rfl) ?_);go_wp2_with (with_reducible first|refine aA rfl ?_)
      refine ax.go (bv rfl 103 rfl Jw yI ?_);intro v1 b11 m1 g1 s1;go_wp2_with (with_reducible first|refine ah 103 rfl ?_);refine ax.go (bT rfl 103 _ _ rfl b11 0 rfl (dK tw (aF p1)) rfl 2 eJ ?_ ?_ _ _ s1 ?_ ?_)
      .rfl
      .simp[dK,Value.oneCell']
      .decide
      intro v2 g2 s2;rw[bO _ _ (by rfl)] at s2;have s2':Row v2 b11 (dK tw (aF p1)) 103:=s2;have g12:aR [] wr v2:=g1.trans g2 (by simpa using m1);have fv2:=fr.trans g12;have h2:=h.new fv2;have ZY:=rb7.wV g12;have ZW:=rb8.wV g12;have ho2:=g12.owns hor;clear s1 s2 g1 g2 g12 fr rb7 rb8 hor c0
      go_wp2_with (with_reducible first|refine az 103 rfl ?_|refine aA rfl ?_);refine ax.go (bY rfl 103 _ rfl b11 0 rfl gG 2 eJ _ _ s2' [.int .i64 (tw:Nat),.string (aF p1)] rfl rfl ?_);go_wp2_with (with_reducible first|refine aA rfl ?_);refine(zj d bl n vw x tw (aF p1) v2 h2).mono ?_;rintro e v3 ⟨rfl,g3⟩
      obtain⟨o2,Ew⟩:∃o,x.content n tw (aF p1)=o:=⟨_,rfl⟩
      have HO2:Hid (x.content n tw (aF p1)=o2):=Ew;rw[Ew];clear Ew h2;go_wp2_with (with_reducible first|refine aA rfl ?_);refine ax.go (bv rfl 161 rfl _ se ?_);intro v4 b12 m4 g4 s4;go_wp2_with (with_reducible first|refine ah 161 rfl ?_);refine ax.go (bT rfl 161 _ _ rfl b12 0 rfl (hcells o2) rfl 2 jj ?_ ?_ _ _ s4 ?_ ?_)
      .rfl
      .simp[hcells,Value.oneCell']
      .decide
      intro v5 g5 s5;rw[bO _ _ (by rfl)] at s5;have s5':Row v5 b12 (hcells o2) 161:=s5;have Yz:aR [] v2 v5:=g3.trans (g4.trans g5 (by simpa using m4));have fv5:=fv2.trans Yz;have UG:=ZY.wV Yz;have Kq:=ZW.wV Yz;have Wd:=Yz.owns ho2;have s25:=s2'.wV Yz;have c12:v5.cell? ⟨b12,0,none⟩=some (.bool o2.isSome):=by rw[s5'.cell];rfl
      clear s4 s5 g3 g4 g5 Yz fv2 ZY ZW ho2 s2';go_wp2_with (with_reducible first|refine az 161 rfl ?_|refine ep 161 rfl ?_);refine ax.go (bY rfl 161 _ rfl b12 0 rfl qQ 2 jj _ _ s5' [.bool o2.isSome,.string (aF (o2.getD []))] rfl rfl ?_);go_wp2_with (with_reducible first|refine az 161 rfl ?_|refine ep 161 rfl ?_)
      refine ax.go (bY rfl 161 _ rfl b8 0 rfl qQ 2 jj _ _ Kq [.bool o.isSome,.string (aF (o.getD []))] rfl rfl ?_);go_wp2_with (with_reducible first|refine az 161 rfl ?_|refine ep 161 rfl ?_);refine ax.go (NF rfl 40 41 _ rfl (b1:=o2.isSome) (b2:=o.isSome) (s1:=aF (o2.getD [])) (s2:=aF (o.getD [])) rfl rfl ?_)
      by_cases heq:(o2.isSome==o.isSome&&aF (o2.getD [])==aF (o.getD []))=true
      .have HW:Hid (dm x n (p1,sd) tw=[]):=by
        show _=_;unfold dm;rw[if_pos (by rw[HO2.out,HB.out];exact Ld.1 heq)]
       rw[heq];clear heq;go_wp2_with fail
       go_roundw
       case rel=>exact⟨jn,by rw[HJ.out];rfl,by rw[HJ.out];omega,fv5,UG,Kq,by rw[HY.out,HW.out,List.append_nil,<-HP2.out];exact Wd⟩
       case measure=>simp[intOf]
      .have HW:Hid (dm x n (p1,sd) tw=[⟨tw,p1,o,o2.isSome⟩]):=by
        show _=_;unfold dm;rw[if_neg (by rw[HO2.out,HB.out];exact fun q=>heq (Ld.2 q)),HO2.out,HB.out]
       have heq':(o2.isSome==o.isSome&&aF (o2.getD [])==aF (o.getD []))=false:=by simpa using heq
       rw[heq'];clear heq heq';go_wp2_with (with_reducible first|refine az 161 rfl ?_|refine az 103 rfl ?_|refine bJ 176 rfl ?_);refine ax.go (bY rfl 103 _ rfl b11 0 rfl gG 2 eJ _ _ s25 [.int .i64 (tw:Nat),.string (aF p1)] rfl rfl ?_);go_wp2_with (with_reducible first|refine az 161 rfl ?_|refine bJ 176 rfl ?_)
       refine ax.go (bY rfl 161 _ rfl b8 0 rfl qQ 2 jj _ _ Kq [.bool o.isSome,.string (aF (o.getD []))] rfl rfl ?_);go_wp2_with (with_reducible first|refine bJ 176 rfl ?_);refine ax.go (cN rfl (.agg (dg.vals ⟨tw,p1,o,o2.isSome⟩).toArray) v5 (by kernel_rfl) ?_);go_wp2_with (with_reducible first|refine ce rfl ?_|refine cg rfl ?_)
       refine ax.go (iv rfl 173 176 5 56 xf _ rfl (.agg (dg.vals ⟨tw,p1,o,o2.isSome⟩).toArray) rfl rfl ?_);intro v8 b9 m8 g8 s8;go_wp2_with (with_reducible first|refine ce rfl ?_|refine cg rfl ?_);have Jp:=g8.owns Wd;have fv8:=fv5.trans g8;have ZX:=UG.wV g8;have ZV:=Kq.wV g8
       have hbase:w.heap.size<=v8.heap.size:=fv8.size;refine ax.go (i7 rfl 173 176 5 56 xf _ _ rfl w.heap.size u5 _ _ rfl Jp b9 1 1 (dg.vals ⟨tw,p1,o,o2.isSome⟩) rfl _ _ s8 rfl rfl (by simp[dg.vals,Value.oneCell']) (by omega) (by omega) (by omega) hbase ?_);intro g' cap' v9 Lj g9 _;have fv9:=fv8.trans g9 (by intro j hj;right;simp at hj;exact(Jp.lt j hj).1)
       have afe:=ZX.aside Jp (by decide) g9;have afd:=ZV.aside Jp (by decide) g9;clear Wd Jp s8 g8 g9 m8 fv5 fv8 UG Kq ZX ZV hbase c12 s5' s25;go_wp2_with fail
       go_roundw
       case rel=>
        refine⟨jn,by rw[HJ.out];rfl,by rw[HJ.out];omega,fv9,afe,afd,?_⟩;rw[HY.out,HW.out,<-List.append_assoc,<-HP2.out,GI,List.length_append];simpa [jw] using Lj
       case measure=>simp[intOf]
    .obtain rfl:j=2:=by omega
     have HZ:Hid (pre++([1-sd,2].take 2).flatMap (dm x n (p1,sd))=bD x n (ss.take (k+1))):=by
      show _=_;rw[HX.out];simp[fq]
     go_wp2_with fail
     go_roundw
     case rel=>exact⟨k+1,by go_num,by omega,fr,by rw[<-HZ.out];exact hor⟩
     case measure=>simp[intOf];omega
  .obtain rfl:k=ss.length:=by omega
   rw[List.take_of_length_le (by omega)] at ho;go_wp2_with fail;go_ret;exact⟨u5,rfl,ho,fk⟩
def kE:List dg->Int->Bool
 |[],_=>true
 |w::r,f=>if w.becomes=none then kE r (f+1) else if f=0 then false else if w.replaces=false then kE r (f-1) else kE r f
def pQ (x:DS)(n:Nat)(ss:List (List UInt8×Nat))(free:Int):Bool:=decide (0<=free)&&kE (bD x n ss) free
theorem A2 (l:List dg)(k:Nat)(hk:k<l.length):((jw l).drop (k*5)).take 5=l[k].vals:=by
 have h:∀(l:List dg) (k:Nat),(jw l).drop (k*5)=jw (l.drop k):=by
  intro l
  induction l with
  |nil=>intro k;simp[jw]
  |cons f r ih=>
   intro k;cases k with
   |zero=>simp
   |succ k=>
    have:=ih k;have e:jw (f::r)=f.vals++jw r:=rfl;rw[e,show(k+1)*5=5+k*5 by omega,<-List.drop_drop];have e2:(f.vals++jw r).drop 5=jw r:=by simp[dg.vals]
    rw[e2];simpa using this
 rw[h,List.drop_eq_getElem_cons hk];rfl
theorem DV:(Tryz.prog.underlying 176).map TypeDesc.isRow=some true:=by kernel_rfl
theorem rl:(Tryz.prog.info? 176).map (·.size)=some 5:=by kernel_rfl
def zJw:Value:= .agg #[.int .i64 0,.string ⟨#[]⟩,.bool false,.string ⟨#[]⟩,.bool false]
theorem Fj:(Tryz.prog.info? 176).map (·.zero)=some (some zJw):=by kernel_rfl
theorem LK (d bl n:Nat)(vw:Value)(x:DS)(base:Nat)(v:Value)(ss:List (List UInt8×Nat))(free:Int)(w:World)(h:bE w d bl n vw x)(hv:w.ownsRow base 168 2 v ss.length (cu ss))(hl:ss.length<=54)(hp:∀p∈ss,p.2<=1)(hf0:-1<=free)(hf:free<=1000):
  Calls Tryz.prog 136 #[.pointer (some ⟨d,0,none⟩),v,.int .i64 free] w fun e w'=>e= .returned (.bool (pQ x n ss free))/\aR [] w w':=by
 by_cases hneg:free<0
 .have HF:Hid (pQ x n ss free=false):=by show _=_;unfold pQ;rw[decide_eq_false (by omega)];rfl
  obtain⟨ad,cap,hv'⟩:=cy hv;subst hv';go_enter Tryz.func136,Tryz.ntmps136;go_wp2_with fail;go_ret;exact⟨by rw[HF.out];rfl,aR.refl _ _⟩
 .have HF:Hid (pQ x n ss free=kE (bD x n ss) free):=by show _=_;unfold pQ;rw[decide_eq_true (by omega)];rfl
  have hwl:(bD x n ss).length<=108:=by have:=iE x n ss;omega
  obtain⟨ad,cap,hv'⟩:=cy hv;subst hv';go_enter Tryz.func136,Tryz.ntmps136;go_wp2_with fail;refine(vg d bl n vw x base _ ss w h hv hl hp).mono ?_;rintro e w1 ⟨u,rfl,ho,f1⟩;generalize bD x n ss=ws at*;obtain⟨xI,cap2,hu⟩:=cy ho;subst hu;clear hv hp;go_wp2_with fail
  go_loopw [2,15] (fun vf c wr=>∃(k:Nat) (f:Int),c= .int .i64 k/\k<=ws.length/\vf= .int .i64 f/\0<=f/\f<=1000+k/\aR [] w1 wr/\kE (ws.drop k) f=kE ws free) (fun _ c _=>ws.length-(intOf c).toNat)
  case atStart=>exact⟨0,free,rfl,by omega,rfl,by omega,by omega,aR.refl _ _,by simp⟩
  case round=>
   obtain⟨k,f,rfl,hk,rfl,hfn,hfu,fk,hfit⟩:=hrel
   by_cases hlt:k<ws.length
   .have hok:=fk.owns ho
    obtain⟨g,cur,rfl,hg,hle,_,hcs,htk⟩:=e9 hok;have hat:((cur.toList.drop (k*5)).take 5)=ws[k].vals:=by
     rw[cL htk _ _,A2 ws k hlt]
    have hd:kE (ws.drop k) f=if ws[k].becomes=none then kE (ws.drop (k+1)) (f+1) else if f=0 then false else if ws[k].replaces=false then kE (ws.drop (k+1)) (f-1) else kE (ws.drop (k+1)) f:=by
     rw[List.drop_eq_getElem_cons hlt];rfl
    rw[hd] at hfit;clear hd;generalize ws[k]=wd at*;obtain⟨st,pt,bc,rp⟩:=wd;simp only at hfit;clear hcs htk hok;go_wp2_with (with_reducible first|refine aA rfl ?_|refine az 176 rfl ?_|refine ah 176 rfl ?_);refine ax.go (bY rfl 176 _ rfl g (k*5) rfl DV 5 rl _ _ hg _ hat rfl ?_);clear hat hg
    go_wp2_with (with_reducible first|refine aA rfl ?_|refine ah 176 rfl ?_);refine ax.go (bv rfl 176 rfl _ Fj ?_);intro w4 b7 l7 f4 r4;go_wp2_with (with_reducible first|refine aA rfl ?_|refine ah 176 rfl ?_);refine ax.go (bT rfl 176 _ _ rfl _ 0 rfl _ rfl 5 rl ?_ ?_ _ _ r4 ?_ ?_)
    .rfl
    .simp[dg.vals,Value.oneCell']
    .decide
    intro w5 f5 q5;rw[bO _ _ (by rfl)] at q5;have oQ:Row w5 b7 (dg.vals ⟨st,pt,bc,rp⟩).toArray 176:=q5;have mI:=fk.trans (f4.trans f5 (by simpa using l7):aR [] wr w5);have c2:w5.cell? ⟨b7,2,none⟩=some (.bool bc.isSome):=by rw[oQ.cell];rfl
    have c4:w5.cell? ⟨b7,4,none⟩=some (.bool rp):=by rw[oQ.cell];rfl
    clear q5 oQ r4 f4 f5 fk l7;cases bc with
    |none=>
     simp only[Option.isSome_none] at c2;rw[if_pos rfl] at hfit;go_wp2_with fail
     go_roundw
     case rel=>exact⟨k+1,f+1,by go_num,by omega,by go_num,by omega,by omega,mI,hfit⟩
     case measure=>simp[intOf];omega
    |some bb=>
     simp only[Option.isSome_some] at c2;rw[if_neg (by simp)] at hfit
     by_cases hz:f=0
     .subst hz
      rw[if_pos rfl] at hfit;have HZ:Hid (kE ws free=false):=hfit.symm;clear hfit;go_wp2_with fail;go_ret;exact⟨by rw[HF.out,HZ.out];rfl,f1.trans mI⟩
     .rw[if_neg hz] at hfit
      have hz':(f==0)=false:=by simpa using hz
      cases rp with
      |false=>
       rw[if_pos rfl] at hfit;go_wp2_with fail
       go_roundw
       case rel=>exact⟨k+1,f-1,by go_num,by omega,by go_num,by omega,by omega,mI,hfit⟩
       case measure=>simp[intOf];omega
      |true=>
       rw[if_neg (by simp)] at hfit;go_wp2_with fail
       go_roundw
       case rel=>exact⟨k+1,f,by go_num,by omega,rfl,by omega,by omega,mI,hfit⟩
       case measure=>simp[intOf];omega
   .obtain rfl:k=ws.length:=by omega
    rw[List.drop_length] at hfit;have HZ:Hid (kE ws free=true):=hfit.symm;clear hfit;go_wp2_with fail;go_ret;exact⟨by rw[HF.out,HZ.out];rfl,f1.trans fk⟩
def DS.sX (x:DS)(n:Nat)(w:dg):DS×Value:=match w.becomes with
 |none=>x.remove n w.set (aF w.path)
 |some c=>x.put n w.set (aF w.path) (aF c)
theorem Mo (F:List Nat)(d n:Nat)(x:DS)(wd:dg)(w:World)(h:bM w F d n x)(hx:x.Fit 5)(gS:x.waiting.length<55)(hs:wd.set<256)(hp:wd.path.length<256)(hc:∀c,wd.becomes=some c->c.length<256):
  Calls Tryz.prog 96 #[.agg wd.vals.toArray,.pointer (some ⟨d,0,none⟩)] w fun e w'=>e= .returned (x.sX n wd).2/\∃F',bM w' F' d n (x.sX n wd).1/\aR F w w'/\bP F F' w:=by
 obtain⟨st,pt,bc,rp⟩:=wd;simp only at hs hp hc;have hps:(aF pt).size<256:=by simpa [aF,ByteArray.size] using hp
 go_enter Tryz.func96,Tryz.ntmps96;go_wp2_with (with_reducible first|refine bL rfl ?_);refine ax.go (ii rfl 176 _ rfl (.agg (dg.vals ⟨st,pt,bc,rp⟩).toArray) rfl ?_);intro w1 b2 l1 f1 r1;have h1:=h.new f1;have r1':Row w1 b2 (dg.vals ⟨st,pt,bc,rp⟩).toArray 176:=r1;have c2:w1.cell? ⟨b2,2,none⟩=some (.bool bc.isSome):=by rw[r1'.cell];rfl
 have c3:w1.cell? ⟨b2,3,none⟩=some (.string (aF (bc.getD []))):=by rw[r1'.cell];rfl
 clear r1;cases bc with
 |none=>
  simp only[Option.isSome_none] at c2;have HD:Hid (x.sX n ⟨st,pt,none,rp⟩=x.remove n st (aF pt)):=rfl;go_wp2_with (with_reducible first|refine az 103 rfl ?_);refine ax.go (bY rfl 103 _ rfl b2 0 rfl gG 2 eJ _ _ r1' [.int .i64 st,.string (aF pt)] rfl rfl ?_);clear c2 c3 r1';go_wp2_with fail
  refine(nY F d n x st (aF pt) w1 h1 ⟨hx.jT,by have:=hx.jS;omega,hx.jR,hx.jQ⟩ (by omega)).mono ?_;rintro e w2 ⟨rfl,F',h2,f2,g2⟩;obtain⟨r,hr⟩:∃r,x.remove n st (aF pt)=r:=⟨_,rfl⟩
  rw[hr] at h2⊢;have HD2:Hid (x.sX n ⟨st,pt,none,rp⟩=r):=HD.out.trans hr;clear hr HD;obtain⟨r1,r2⟩:=r;go_wp2_with fail;go_ret;rw[HD2.out];exact⟨rfl,F',h2,(f1.mono).trans f2 (fun j hj=> .inl hj),(bP.refl F w).trans g2 f1.size⟩
 |some c=>
  simp only[Option.isSome_some] at c2;have hcs:(aF c).size<256:=by simpa [aF,ByteArray.size] using hc c rfl
  have HD:Hid (x.sX n ⟨st,pt,some c,rp⟩=x.put n st (aF pt) (aF c)):=rfl;have c3':w1.cell? ⟨b2,3,none⟩=some (.string (aF c)):=c3;clear c3;go_wp2_with (with_reducible first|refine az 103 rfl ?_|refine bJ 107 rfl ?_);refine ax.go (bY rfl 103 _ rfl b2 0 rfl gG 2 eJ _ _ r1' [.int .i64 st,.string (aF pt)] rfl rfl ?_)
  go_wp2_with (with_reducible first|refine bJ 107 rfl ?_);refine ax.go (cN rfl (.agg #[.int .i64 st,.string (aF pt),.string (aF c)]) w1 (by kernel_rfl) ?_);clear c2 c3' r1';go_wp2_with fail;refine(vX F d n x st (aF pt) (aF c) w1 h1 hx gS hs hps hcs).mono ?_;rintro e w2 ⟨rfl,F',h2,f2,g2⟩;obtain⟨r,hr⟩:∃r,x.put n st (aF pt) (aF c)=r:=⟨_,rfl⟩
  rw[hr] at h2⊢;have HD2:Hid (x.sX n ⟨st,pt,some c,rp⟩=r):=HD.out.trans hr;clear hr HD;obtain⟨r1,r2⟩:=r;go_wp2_with fail;go_ret;rw[HD2.out];exact⟨rfl,F',h2,(f1.mono).trans f2 (fun j hj=> .inl hj),(bP.refl F w).trans g2 f1.size⟩
theorem zN (l:List (List UInt8×Nat))(k:Nat)(hk:k<l.length):(cu l)[k*2]? =some (.string (aF l[k].1)):=by
 have h:=nz l k hk;have h1:(((cu l).drop (k*2)).take 2)[0]? =some (.string (aF l[k].1)):=by rw[h];rfl
 rw[List.getElem?_take_of_lt (by omega),List.getElem?_drop] at h1;simpa using h1
theorem aR.Sb {w w':World}{b off:Nat}{v:Value}(f:aR [] w w')(h:w.cell? ⟨b,off,none⟩=some v)(_:True):w'.cell? ⟨b,off,none⟩=some v:=by
 have hb:b<w.heap.size:=by
  unfold World.cell? at h;cases hh:w.heap[b]? with
  |none=>simp[hh] at h
  |some o=>exact(Array.getElem?_eq_some_iff.1 hh).1
 unfold World.cell? at h⊢;rw[f.block b hb (by simp)];exact h
theorem CE (base:Nat)(v:Value)(ss:List (List UInt8×Nat))(w:World)(hv:w.ownsRow base 168 2 v ss.length (cu ss))(h0:0<ss.length)(hl:ss.length<=54)(hs:ss.Pairwise fun p q=>p.1<q.1):
  Calls Tryz.prog 141 #[v] w fun e w'=>e= .returned (.bool true)/\aR [] w w':=by
 obtain⟨ad,cap,hv'⟩:=cy hv;subst hv';obtain⟨g,cur,rfl,hg,hle,_,hcs,htk⟩:=e9 hv;have hcell:∀k (hk:k<ss.length),cur[k*2]? =some (.string (aF ss[k].1)):=fun k hk=>by
  have h1:=zN ss k hk;rw[<-htk,List.getElem?_take_of_lt (by omega)] at h1;simpa using h1
 go_enter Tryz.func141,Tryz.ntmps141;go_wp2_with fail
 go_loopw [7] (fun c wr=>∃k:Nat,c= .int .i64 k/\k+1<=ss.length/\aR [] w wr) (fun c _=>ss.length-(intOf c).toNat)
 case atStart=>exact⟨0,rfl,by omega,aR.refl _ _⟩
 case round=>
  obtain⟨k,rfl,hk,fk⟩:=hrel
  by_cases hlt:k+1<ss.length
  .have hgr:=fk.row (b:=g) hg (by simp)
   have c1:wr.cell? ⟨g,k*2,none⟩=some (.string (aF (ss[k]'(by omega)).1)):=by rw[hgr.cell];exact hcell k (by omega)
   have c2:wr.cell? ⟨g,(k+1)*2,none⟩=some (.string (aF (ss[k+1]'hlt).1)):=by rw[hgr.cell];exact hcell (k+1) hlt
   have hlt2:(ss[k]'(by omega)).1<(ss[k+1]'hlt).1:=(List.pairwise_iff_getElem.1 hs) k (k+1) (by omega) hlt (by omega);generalize (ss[k]'(by omega)).1=p1 at*;generalize (ss[k+1]'hlt).1=p2 at*;go_wp2_with fail;have fin:∀(Z:List (Nat×Value)),True:=fun _=>trivial
   refine qn (by kernel_rfl) (by kernel_rfl) ?_;refine cM rfl (some 10) rfl (.slice (some ⟨g,0,none⟩) ss.length cap) (fun w' hw'=>by go_simp) ?_;simp only[Act.put,aX,aY,aW];refine cM rfl (some 11) rfl (.int .i64 k) (fun w' hw'=>by go_simp) ?_;simp only[Act.put,aX,aY,aW]
   refine cM rfl (some 12) rfl (.pointer (some ⟨g,k*2,none⟩)) (fun w' hw'=>by go_simp;intro hh;omega) ?_;simp only[Act.put,aX,aY,aW];refine cM rfl (some 13) rfl (.pointer (some ⟨g,k*2,none⟩)) (fun w' hw'=>by go_simp) ?_;simp only[Act.put,aX,aY,aW];refine cM rfl (some 14) rfl (.string (aF p1)) (fun w' hw'=>by have cc:=hw'.Sb c1 (by simp);go_simp) ?_
   simp only[Act.put,aX,aY,aW];refine cM rfl (some 15) rfl (.slice (some ⟨g,0,none⟩) ss.length cap) (fun w' hw'=>by go_simp) ?_;simp only[Act.put,aX,aY,aW];refine cM rfl (some 16) rfl (.int .i64 k) (fun w' hw'=>by go_simp) ?_;simp only[Act.put,aX,aY,aW];refine cM rfl (some 17) rfl (.int .i64 (k+1:Nat)) (fun w' hw'=>by go_simp;rw[IntKind.wrap_i64];omega) ?_
   simp only[Act.put,aX,aY,aW];refine cM rfl (some 18) rfl (.pointer (some ⟨g,(k+1)*2,none⟩)) (fun w' hw'=>by go_simp;intro hh;have:=hh (by omega);omega) ?_;simp only[Act.put,aX,aY,aW];refine cM rfl (some 19) rfl (.pointer (some ⟨g,(k+1)*2,none⟩)) (fun w' hw'=>by go_simp) ?_;simp only[Act.put,aX,aY,aW]
   refine cM rfl (some 20) rfl (.string (aF p2)) (fun w' hw'=>by have cc:=hw'.Sb c2 (by simp);go_simp) ?_;simp only[Act.put,aX,aY,aW];refine cM rfl (some 21) rfl (.bool false) (fun w' hw'=>by go_simp;rw[bytesLess_eq,Lib.toList_data,Lib.toList_data];exact decide_eq_true (by simpa [aF] using hlt2)) ?_;simp only[Act.put,aX,aY,aW];intro w2 f2
   have fk2:=fk.trans f2;go_wp2_with fail
   go_roundw
   case rel=>exact⟨k+1,by go_num,by omega,fk2⟩
   case measure=>simp[intOf];omega
  .go_wp2_with fail
   go_ret;exact⟨rfl,fk⟩
def chJ (s:Nat):UInt8:=if s=0 then 76 else 82
theorem sW (p:List UInt8×Nat)(r:List (List UInt8×Nat)):dc (p::r)=chJ p.2::(p.1++dc r):=rfl
theorem rq (chars:List UInt8):∀(p r:List UInt8),(∀b∈p,chars.contains b=false)->indexAny (p++r) chars=if indexAny r chars=-1 then -1 else indexAny r chars+p.length
 |[],r,_=>by
  by_cases h:indexAny r chars=-1<;>simp[h]
 |b::p,r,h=>by
  have h1:=h b (by simp);have ih:=rq chars p r fun x hx=>h x (by simp[hx])
  have hg:=indexAny_ge chars r;show(if chars.contains b then 0 else if indexAny (p++r) chars==-1 then -1 else indexAny (p++r) chars+1)=_;rw[h1,ih]
  by_cases he:indexAny r chars=-1
  .simp[he]
  .simp only[he,if_false,Bool.false_eq_true]
   rw[if_neg (by simp;omega)];simp;omega
theorem El {b:UInt8}(h:gP b=true):([76,82]:List UInt8).contains b=false:=by
 unfold gP at h;rw[Bool.and_eq_true] at h;have h1:97<=b.toNat:=by simpa using h.1
 simp only[List.contains_cons,List.contains_nil,Bool.or_false,Bool.or_eq_false_iff,beq_eq_false_iff_ne];constructor<;>(intro e;subst e;revert h1;decide)
theorem Aw {p:List UInt8}(hp:cE p=true)(r:List (List UInt8×Nat)):indexAny (p++dc r) [76,82]=if r=[] then -1 else(p.length:Int):=by
 unfold cE at hp;simp only[Bool.and_eq_true,List.all_eq_true] at hp;rw[rq _ p _ fun b hb=>El (hp.2 b hb)];cases r with
 |nil=>rfl
 |cons q r=>
  have:indexAny (dc (q::r)) [76,82]=0:=by
   rw[sW];show(if([76,82]:List UInt8).contains (chJ q.2) then 0 else _)=_;rw[if_pos (by unfold chJ;split<;>decide)]
  rw[this];simp
theorem Jc {ss:List (List UInt8×Nat)}(h:∀p∈ss,cE p.1=true):∀b∈dc ss,b.toNat<128:=by
 intro b hb;unfold dc at hb;rw[List.mem_flatMap] at hb;obtain⟨p,hp,hb⟩:=hb;rcases List.mem_cons.1 hb with rfl|hb
 .split<;>decide
 .have:=h p hp
  unfold cE at this;simp only[Bool.and_eq_true,List.all_eq_true] at this;have:=this.2 b hb;unfold gP at this;rw[Bool.and_eq_true] at this;have:b.toNat<=122:=by simpa using this.2
  omega
theorem mQ (l:List UInt8)(a b:Nat):(aF l).extract a b=aF ((l.take b).drop a):=by
 have h:((aF l).extract a b).data=(l.toArray).extract a b:=by simp[aF,ByteArray.data_extract]
 have h2:(l.toArray).extract a b=((l.take b).drop a).toArray:=by simp[List.extract_eq_drop_take,List.drop_take]
 have:((aF l).extract a b).data=(aF ((l.take b).drop a)).data:=h.trans h2;cases hx:(aF l).extract a b;rw[hx] at this;simp only at this;rw[this]
theorem fu {P:Program}{ops:Array Oper}{Q:Exit->Act->World->Prop}{a:Act}{w:World}{rest:List Oper}{o:Oper}{t:TypeId}{x:Operand}{l h m:Option Operand}(_:o.op= .slice t x l h m)(k:ax (wpList P ops Q (o::rest) a w)):wpList P ops Q (o::rest) a w:=k
theorem rM:∀(l:List (List UInt8×Nat)),(∀p∈l,p.1.length<=8)->(dc l).length<=9*l.length
 |[],_=>by simp[dc]
 |p::l,h=>by
  have h1:=h p (by simp);have h2:=rM l fun q hq=>h q (by simp[hq])
  rw[sW,List.length_cons,List.length_append,List.length_cons];omega
theorem qU {p:List UInt8}(h:cE p=true):p.length<=8:=by
 unfold cE at h;simp only[Bool.and_eq_true] at h;simpa using h.1.2
theorem C3 (c:UInt8)(p R:List UInt8):(aF (c::(p++R))).extract (1+(p.length:Int)).toNat (aF (c::(p++R))).size=aF R:=by
 rw[mQ,fX,List.take_of_length_le (Nat.le_refl _),show(1+(p.length:Int)).toNat=p.length+1 by omega];simp
theorem zv (c:UInt8)(p:List UInt8):(aF (c::p)).extract (1+(p.length:Int)).toNat (aF (c::p)).size=aF (dc []):=by
 have:=C3 c p [];rw[List.append_nil] at this;exact this
theorem JK {P:Program}{ops:Array Oper}{Q:Exit->Act->World->Prop}{a:Act}{w:World}{rest:List Oper}{o:Oper}{as':Array Operand}{ts:Array TypeId}(_:o.op= .call {callee:= .builtin .len,args:=as',argTypes:=ts})(k:ax (wpList P ops Q (o::rest) a w)):wpList P ops Q (o::rest) a w:=k
theorem CB (ss:List (List UInt8×Nat))(w:World)(h0:0<ss.length)(hl:ss.length<=54)(hp:∀p∈ss,cE p.1=true/\p.2<=1)(hs:ss.Pairwise fun p q=>p.1<q.1):
  Calls Tryz.prog 94 #[.string (aF (dc ss))] w fun e w'=>∃u,e= .returned (.tuple #[u,.bool true])/\w'.ownsRow w.heap.size 168 2 u ss.length (cu ss)/\aR [] w w':=by
 go_enter Tryz.func94,Tryz.ntmps94;go_wp2_with fail
 go_loopw [4,5] (fun u t wr=>∃k:Nat,t= .string (aF (dc (ss.drop k)))/\k<=ss.length/\aR [] w wr/\wr.ownsRow w.heap.size 168 2 u k (cu (ss.take k))) (fun _ t _=>match t with|.string s=>s.size|_=>0)
 case atStart=>exact⟨0,rfl,by omega,aR.refl _ _,World.ownsRow_nil _ _ _ _⟩
 case round=>
  obtain⟨k,rfl,hk,fk,ho⟩:=hrel
  by_cases hlt:k<ss.length
  .have hd:ss.drop k=ss[k]::ss.drop (k+1):=List.drop_eq_getElem_cons hlt
   have hpk:=hp ss[k] (List.getElem_mem hlt);have htk:ss.take (k+1)=ss.take k++[ss[k]]:=List.take_succ_eq_append_getElem hlt;have HR:Hid (ss.take (k+1)=ss.take k++[ss[k]]):=htk;have hasc:∀b∈dc (ss.drop k),b.toNat<128:=Jc fun p hp'=>(hp p (List.mem_of_mem_drop hp')).1
   have hlen:(dc (ss.drop k)).length<=1000:=by
    have h1:=rM (ss.drop k) fun p hp'=>qU (hp p (List.mem_of_mem_drop hp')).1
    have h2:(ss.drop k).length<=54:=by rw[List.length_drop];omega
    omega
   rw[hd,sW] at hasc hlen⊢;have HD:Hid (ss.drop k=ss[k]::ss.drop (k+1)):=hd;clear hd htk;generalize ss[k]=p at*;obtain⟨p1,sd⟩:=p;simp only at hpk hasc hlen⊢;have hsc:∃(c:UInt8) (sv:Int),Hid (c=chJ sd)/\Hid (sv=sd)/\Hid (Lib.indexByte [76,82] c=sv):=⟨chJ sd,sd,rfl,rfl,by show _=_;rcases(by omega:sd=0\/sd=1) with rfl|rfl<;>decide⟩
   obtain⟨c,sv,hc,hsv,abw⟩:=hsc;rcases(by omega:sd=0\/sd=1) with rfl|rfl
   all_goals
    obtain⟨r,hdr⟩:∃r,ss.drop (k+1)=r:=⟨_,rfl⟩
    rw[hdr] at HD hasc hlen⊢;go_wp2_with (with_reducible first|refine ep 9 rfl ?_|refine pV rfl ?_|refine fu rfl ?_);refine ax.go (cN rfl (.bool true) wr (by go_simp;simp[aF]) ?_);go_wp2_with (with_reducible first|refine ep 9 rfl ?_|refine pV rfl ?_|refine fu rfl ?_)
    refine ax.go (cN rfl (.int .u8 c.toNat) wr (by rw[hc.out];kernel_rfl) ?_);go_wp2_with (with_reducible first|refine ep 9 rfl ?_|refine fu rfl ?_);refine(Tryz.strings_IndexByte ⟨#[76,82]⟩ c.toNat wr).mono ?_;rintro e w1 ⟨rfl,rfl⟩;rw[show Lib.indexByte (⟨#[76,82]⟩:ByteArray).data.toList (c.toNat:Int).toNat.toUInt8=sv by simpa using abw.out,hsv.out];clear abw
    go_wp2_with (with_reducible first|refine ep 9 rfl ?_|refine fu rfl ?_);refine ax.go (cN rfl (.string (aF (p1++dc r))) w1 (by go_simp;rw[if_pos (by rw[fX];simp;omega),mQ,fX,List.take_of_length_le (Nat.le_refl _)];rfl) ?_);go_wp2_with (with_reducible first|refine ep 9 rfl ?_|refine fu rfl ?_);have hia:=Aw hpk.1 r
    refine(Tryz.strings_IndexAny_laid (aF (p1++dc r)) ⟨#[76,82]⟩ w1 (by rw[fX];simp at hlen⊢;omega) (by decide) (fun j b hj=>hasc b (by
     have:b∈p1++dc r:=List.mem_of_getElem? (by simpa [aF] using hj);exact List.mem_cons_of_mem _ this)) (fun j b hj=>by
     have:b∈([76,82]:List UInt8):=List.mem_of_getElem? hj;simp at this;rcases this with rfl|rfl<;>decide)).mono ?_
    rintro e w2 ⟨rfl,bl2⟩;have f2:aR [] w1 w2:=j8 (aR.refl _ _) bl2;have abA:Lib.indexAny (aF (p1++dc r)).data.toList (⟨#[76,82]⟩:ByteArray).data.toList=if r=[] then -1 else(p1.length:Int):=by simpa [aF] using hia
    rw[abA];clear hia abA bl2 hasc;have hp8:p1.length<=8:=by
     have:=hpk.1;unfold cE at this;simp only[Bool.and_eq_true] at this;simpa using this.1.2
    have hlk:k<=54:=by omega
    have HDR:Hid (ss.drop (k+1)=r):=hdr;clear hdr;have hps:(aF p1).size<=9223372036854775807:=by rw[fX];omega
    by_cases hr:r=[]
    all_goals
     first
      |(
        rw[if_pos hr];have e0:p1++dc r=p1:=by rw[hr];simp[dc]
        rw[e0];clear e0)
      |(
        rw[if_neg hr];go_wp2_with (with_reducible first|refine fu rfl ?_);refine ax.go (cN rfl (.string (aF p1)) w2 (by go_simp;rw[if_pos (by rw[fX];simp),mQ];simp) ?_))
     go_wp2_with (with_reducible first|refine ce rfl ?_|refine cg rfl ?_);refine(mG (aF p1) w2 hps).mono ?_;rintro e w3 ⟨rfl,f3⟩;have hpt:cE (aF p1).data.toList=true:=by simpa [aF] using hpk.1
     rw[hpt];clear hpt;have fk3:=(fk.trans f2).trans f3;have ho3:=f3.owns (f2.owns ho (by simp));clear ho f2 f3;go_wp2_with (with_reducible first|refine bJ 168 rfl ?_|refine ce rfl ?_|refine cg rfl ?_);refine ax.go (cN rfl (.agg #[.string (aF p1),.int .i64 sv]) w3 (by rw[hsv.out];kernel_rfl) ?_)
     go_wp2_with (with_reducible first|refine ce rfl ?_|refine cg rfl ?_);refine ax.go (iv rfl 109 168 2 24 pd _ rfl (.agg #[.string (aF p1),.int .i64 sv]) rfl rfl ?_);intro w8 b8 l8 f8 r8;go_wp2_with (with_reducible first|refine ce rfl ?_|refine cg rfl ?_);have wQ:=f8.owns ho3;have LJ:=fk3.trans f8
     have hbase:w.heap.size<=w8.heap.size:=LJ.size;refine ax.go (i7 rfl 109 168 2 24 pd _ _ rfl w.heap.size u4 _ _ rfl wQ b8 1 1 [.string (aF p1),.int .i64 sv] rfl _ _ r8 rfl rfl (by simp[Value.oneCell']) (by omega) (by omega) (by omega) hbase ?_);intro g' cap' w9 Lj f9 _;have Xj:=LJ.trans f9 (by intro j hj;right;simp at hj;exact(wQ.lt j hj).1)
     have af0:w9.ownsRow w.heap.size 168 2 (.slice (some ⟨g',0,none⟩) (k+1) cap') (k+1) (cu (ss.take (k+1))):=by
      rw[HR.out,qC];rw[hsv.out] at Lj;exact Lj
     clear ho3 wQ Lj r8 f8 f9 l8 fk fk3 LJ hbase;go_wp2_with (with_reducible first|refine JK rfl ?_|refine fu rfl ?_);refine ax.go (cN rfl (.int .i64 p1.length) w9 (by kernel_rfl) ?_);have hw1:wrap64 (1+(p1.length:Int))=1+p1.length:=IntWalk.wrap64_in _ (by omega);go_wp2_with (with_reducible first|refine fu rfl ?_)
     refine ax.go (cN rfl (.string (aF (dc r))) w9 (by go_simp;rw[if_pos (by rw[fX];simp;omega)];first|rw[C3]|rw[zv]|rw[zv,hr]) ?_);go_wp2_with fail
     go_roundw
     case rel=>exact⟨k+1,by simp only[HDR.out,hr],by omega,Xj,af0⟩
     case measure=>simp[fX,hr];omega
  .obtain rfl:k=ss.length:=by omega
   rw[List.drop_length];rw[List.take_of_length_le (by omega)] at ho;have e0:aF (dc [])=⟨#[]⟩:=rfl;rw[e0];obtain⟨ad4,cap4,hu4⟩:=cy ho;subst hu4;go_wp2_with fail;refine(CE w.heap.size _ ss wr ho h0 hl hs).mono ?_;rintro e w2 ⟨rfl,f2⟩;go_wp2_with fail
   go_ret2
   exact⟨_,rfl,f2.owns ho,fk.trans f2⟩
theorem LD (d bl n:Nat)(vw:Value)(x:DS)(w:World)(h:bE w d bl n vw x):
  Calls Tryz.prog 137 #[.pointer (some ⟨d,0,none⟩)] w fun e w'=>e= .returned (.int .i64 ((aN n:Int)-(taken x n).length))/\aR [] w w':=by
 have hn:aN n<=54:=by unfold aN;omega
 have ht:=i9 x n;go_enter Tryz.func137,Tryz.ntmps137;go_wp2_with fail;refine(nO d bl n vw x w h).mono ?_;rintro e w1 ⟨rfl,rfl⟩;go_wp2_with fail;refine(lz n h.lo h.hi w1).mono ?_;rintro e w2 ⟨rfl,rfl⟩;go_wp2_with fail;refine(ny d bl n vw x w2 h).mono ?_;rintro e w3 ⟨v,rfl,ho,f3⟩;obtain⟨ad,cap,hv⟩:=cy ho;subst hv
 obtain⟨tl,htl⟩:∃tl,(taken x n).length=tl:=⟨_,rfl⟩
 obtain⟨ns,hns⟩:∃ns,aN n=ns:=⟨_,rfl⟩
 have H1:Hid ((taken x n).length=tl):=htl;have H2:Hid (aN n=ns):=hns;rw[htl] at ht ho⊢;rw[hns] at hn⊢;clear htl hns;have hw1:wrap64 ((ns:Int)-tl)=ns-tl:=IntWalk.wrap64_in _ (by omega);go_wp2_with fail;go_ret;exact⟨by rw[H1.out,H2.out];rfl,f3⟩
def oS (ss:List (List UInt8×Nat)):Prop:=∀p∈ss,cE p.1=true/\p.2<=1
def DS.begin (x:DS)(n:Nat)(ss:List (List UInt8×Nat)):DS×Value:=
 if pQ x n ss ((aN n:Int)-(taken x n).length-1)=false then(x,.int .i64 7) else x.put n 3 ⟨#[]⟩ (aF (dc ss))
theorem E9 (F:List Nat)(d n:Nat)(x:DS)(base:Nat)(v:Value)(ss:List (List UInt8×Nat))(w:World)(h:bM w F d n x)(hx:x.Fit 5)(gS:x.waiting.length<55)(hv:w.ownsRow base 168 2 v ss.length (cu ss))(hl:ss.length<=7)(hp:oS ss)(hF:∀g,v.ownBlock=some g->g∉F):
  Calls Tryz.prog 92 #[.pointer (some ⟨d,0,none⟩),v] w fun e w'=>e= .returned (x.begin n ss).2/\∃F',bM w' F' d n (x.begin n ss).1/\aR F w w'/\bP F F' w:=by
 have hn:aN n<=54:=by unfold aN;omega
 have ht:=i9 x n;obtain⟨bl,vw,hd,hFe⟩:=id h;have hp8:∀p∈ss,p.1.length<=8/\p.2<=1:=fun p hpm=>⟨qU (hp p hpm).1,(hp p hpm).2⟩
 have hej:(dc ss).length<=63:=by have:=rM ss fun p hpm=>(hp8 p hpm).1;omega
 obtain⟨ad,cap,hv'⟩:=cy hv;subst hv';have HB:Hid (x.begin n ss=if pQ x n ss ((aN n:Int)-(taken x n).length-1)=false then(x,.int .i64 7) else x.put n 3 ⟨#[]⟩ (aF (dc ss))):=rfl;go_enter Tryz.func92,Tryz.ntmps92;go_wp2_with fail;refine(LD d bl n vw x w hd).mono ?_;rintro e w1 ⟨rfl,f1⟩;have hd1:=hd.new f1;have h1:=h.new f1;have hv1:=f1.owns hv
 have htl:(taken x n).length<=aN n:=nu (x.read 0) (aN n);generalize (taken x n).length=tl at*;generalize aN n=ns at*;have hw1:wrap64 ((ns:Int)-tl-1)=ns-tl-1:=IntWalk.wrap64_in _ (by omega);go_wp2_with fail;refine(LK d bl n vw x base _ ss (ns-tl-1) w1 hd1 hv1 (by omega) (fun p hpm=>(hp p hpm).2) (by omega) (by omega)).mono ?_;rintro e w2 ⟨rfl,f2⟩
 have h2:=h1.new f2;have hv2:=f2.owns hv1;have fw:=f1.trans f2;have fF:aR F w w2:=fw.mono;clear hd hd1 h1 hv1 f1 f2;cases hfit:pQ x n ss (ns-tl-1) with
 |false=>
  have HB2:Hid (x.begin n ss=(x,.int .i64 7)):=by show _=_;rw[HB.out,hfit];rfl
  clear HB hfit;go_wp2_with fail;go_ret;rw[HB2.out];exact⟨rfl,F,h2,fF,bP.refl _ _⟩
 |true=>
  have HB2:Hid (x.begin n ss=x.put n 3 ⟨#[]⟩ (aF (dc ss))):=by show _=_;rw[HB.out,hfit];rfl
  clear HB hfit;go_wp2_with fail;refine(ia w2).mono ?_;rintro e w3 ⟨rfl,f3⟩;have h3:=h2.new f3;have hv3:=f3.owns hv2;have EG:=fw.trans f3;clear h2 hv2 f3 fw fF;go_wp2_with fail;refine(CA base _ ss w3 hv3 (by omega) hp8).mono ?_;rintro e w4 ⟨rfl,f4⟩;have h4:=h3.new f4;have Dt:=EG.trans f4;clear h3 hv3 f4 EG
  go_wp2_with (with_reducible first|refine bJ 107 rfl ?_);refine ax.go (cN rfl (.agg #[.int .i64 (3:Nat),.string ⟨#[]⟩,.string (aF (dc ss))]) w4 (by kernel_rfl) ?_);go_wp2_with fail;refine(vX F d n x 3 ⟨#[]⟩ (aF (dc ss)) w4 h4 hx gS (by omega) (by decide) (by rw[fX];omega)).mono ?_;rintro e w5 ⟨rfl,F',h5,f5,g5⟩
  obtain⟨r,hr⟩:∃r,x.put n 3 ⟨#[]⟩ (aF (dc ss))=r:=⟨_,rfl⟩
  rw[hr] at h5⊢;have HB3:Hid (x.begin n ss=r):=HB2.out.trans hr;clear hr HB2;obtain⟨r1,r2⟩:=r;go_wp2_with fail;go_ret;rw[HB3.out];exact⟨rfl,F',h5,(Dt.mono).trans f5 (fun j hj=> .inl hj),(bP.refl F w).trans g5 Dt.size⟩
def qw:Value->Int
 |.int _ e=>e
 |_=>0
theorem DS.Fit.weak {x:DS}{m k:Nat}(h:x.Fit (m+k)):x.Fit m:=⟨h.jT,by have:=h.jS;omega,h.jR,h.jQ⟩
theorem zd {x:DS}{t o:Int}{m:Nat}(hx:x.Fit (m+2))(h:x.jh t o=true):(x.mark t o).Fit m/\(x.mark t o).waiting=[]:=by
 unfold DS.jh at h;rw[Bool.and_eq_true] at h;unfold DS.mark;rw[if_pos h.1];refine⟨DS.zo (DS.i6 (r:=m+1) hx h.1) h.2,?_⟩;unfold DS.flush;rw[if_pos h.2]
theorem B5 {x:DS}{n s m:Nat}{p c:ByteArray}(hx:x.Fit (m+5)):∃e:Int,(x.put n s p c).2= .int .i64 e/\(e=0->(x.put n s p c).1.Fit m/\(x.put n s p c).1.waiting=[]):=by
 unfold DS.put;split
 .exact⟨7,rfl,fun h=>by cases h⟩
 .split
  .rename_i h1 h2
   refine⟨_,rfl,fun h=>?_⟩;have h3:=(DS.A5 (m:=m+2) hx h2).1;split at h
   .exact zd h3 (by assumption)
   .cases h
  .exact⟨3,rfl,fun h=>by cases h⟩
theorem BW {x:DS}{n s m:Nat}{p:ByteArray}(hx:x.Fit (m+5)):∃e:Int,(x.remove n s p).2= .int .i64 e/\(e=0->(x.remove n s p).1.Fit m/\(x.remove n s p).1.waiting=[]):=by
 unfold DS.remove;split
 .exact⟨5,rfl,fun h=>by cases h⟩
 .refine⟨_,rfl,fun h=>?_⟩
  have h3:x.Fit (m+3+2):=hx;split at h
  .have:=zd h3 (by assumption)
   exact⟨this.1.weak (k:=3),this.2⟩
  .cases h
theorem Mp {x:DS}{n m:Nat}{w:dg}(hx:x.Fit (m+5)):∃e:Int,(x.sX n w).2= .int .i64 e/\(e=0->(x.sX n w).1.Fit m/\(x.sX n w).1.waiting=[]):=by
 unfold DS.sX;cases w.becomes with
 |none=>exact BW hx
 |some c=>exact B5 hx
def DS.fZ (x:DS)(n:Nat):List dg->DS×Value
 |[]=>(x,.int .i64 0)
 |w::r=>if qw (x.sX n w).2=0 then(x.sX n w).1.fZ n r else x.sX n w
def DS.rK (x:DS)(n:Nat)(ss:List (List UInt8×Nat)):DS×Value:=
 if qw (x.fZ n (bD x n ss)).2=0 then(x.fZ n (bD x n ss)).1.remove n 3 ⟨#[]⟩ else x.fZ n (bD x n ss)
theorem rO {x:DS}{n:Nat}{s:Int}{p:ByteArray}{c:List UInt8}(h:x.content n s p=some c):c.length<=96:=by
 unfold DS.content at h;split at h
 .rw[<-Option.some.inj h]
  unfold bW;rw[List.length_take];omega
 .cases h
theorem GJ {x:DS}{n:Nat}{ss:List (List UInt8×Nat)}(hp:oS ss):∀w∈bD x n ss,w.set<256/\w.path.length<256/\∀c,w.becomes=some c->c.length<256:=by
 intro w hw;unfold bD at hw;obtain⟨p,hp',hw⟩:=List.mem_flatMap.1 hw;have hpp:=hp p hp';have one:∀set,set<=2->w∈dm x n p set->w.set<256/\w.path.length<256/\∀c,w.becomes=some c->c.length<256:=fun set hs hm=>by
  unfold dm at hm;split at hm
  .simp at hm
  .simp only[List.mem_singleton] at hm
   subst hm;exact⟨by show set<256;omega,by have:=qU hpp.1;show p.1.length<256;omega,fun c hc=>by have:=rO hc;omega⟩
 unfold fq at hw;rcases List.mem_append.1 hw with hw|hw
 .exact one _ (by omega) hw
 .exact one _ (by omega) hw
theorem bM.apart {w:World}{F:List Nat}{d n:Nat}{x:DS}(h:bM w F d n x){b:Nat}{c:Array Value}{t:TypeId}(r:Row w b c t)(h1:t≠134)(h2:t≠148)(h3:t≠240):b∉F:=by
 obtain⟨bl,vw,hd,rfl⟩:=h;unfold Row at r;intro hb;rcases List.mem_cons.1 hb with rfl|hb
 .have:=hd.row
  unfold Row at this;rw[r] at this;cases this;exact h1 rfl
 rcases List.mem_cons.1 hb with rfl|hb
 .have:=hd.last
  unfold Row at this;rw[r] at this;cases this;exact h2 rfl
 .rcases hd.own.2 with⟨e,_⟩|⟨g,cap,cur,e,_,hg,_⟩
  .rw[e] at hb;simp[Value.ownBlock] at hb
  .rw[e] at hb
   have:b=g:=by simpa [Value.ownBlock] using hb
   subst this;rw[r] at hg;cases hg;exact h3 rfl
theorem Ia {w:World}{F:List Nat}{d n base size k:Nat}{x:DS}{v:Value}{e:TypeId}{xs:List Value}(h:bM w F d n x)(ho:w.ownsRow base e size v k xs)(h1:e≠134)(h2:e≠148)(h3:e≠240):∀j∈F,v.ownBlock≠some j:=fun j hj hv=>by
 rcases ho.2 with⟨rfl,_⟩|⟨g,cap,cur,rfl,_,hg,_⟩
 .cases hv
 .have:g=j:=by simpa [Value.ownBlock] using hv
  subst this;exact h.apart (c:=cur) (t:=e) hg h1 h2 h3 hj
theorem Mf (F:List Nat)(d n:Nat)(x:DS)(ss:List (List UInt8×Nat))(w:World)(h:bM w F d n x)(hx:x.Fit 100)(gS:x.waiting.length<55)(hj:x.content n 3 ⟨#[]⟩=some (dc ss))(h0:0<ss.length)(hl:ss.length<=7)(hp:oS ss)(hs:ss.Pairwise fun p q=>p.1<q.1):
  Calls Tryz.prog 58 #[.pointer (some ⟨d,0,none⟩)] w fun e w'=>e= .returned (x.rK n ss).2/\∃F',bM w' F' d n (x.rK n ss).1/\aR F w w'/\bP F F' w:=by
 obtain⟨bl,vw,hd,hFe⟩:=id h;go_enter Tryz.func58,Tryz.ntmps58;go_wp2_with fail;refine(ia w).mono ?_;rintro e w1 ⟨rfl,f1⟩;have hd1:=hd.new f1;go_wp2_with fail;refine(rG d bl n vw x 3 ⟨#[]⟩ w1 hd1).mono ?_;rintro e w2 ⟨rfl,f2⟩;have hd2:=hd1.new f2;have fw2:=f1.trans f2;rw[hj];simp only[Option.getD_some,Option.isSome_some];go_wp2_with fail
 refine(CB ss w2 h0 (by omega) hp hs).mono ?_;rintro e w3 ⟨u,rfl,ho3,f3⟩;have hd3:=hd2.new f3;have EG:=fw2.trans f3;go_wp2_with fail;refine(vg d bl n vw x _ u ss w3 hd3 ho3 (by omega) fun p hpm=>(hp p hpm).2).mono ?_;rintro e w4 ⟨v,rfl,ho4,f4⟩;have Dt:=EG.trans f4;have h4:=h.new Dt
 have hwl:(bD x n ss).length<=14:=by have:=iE x n ss;omega
 have hwo:=GJ (x:=x) (n:=n) hp;have HE:Hid (x.rK n ss=if qw (x.fZ n (bD x n ss)).2=0 then(x.fZ n (bD x n ss)).1.remove n 3 ⟨#[]⟩ else x.fZ n (bD x n ss)):=rfl;generalize bD x n ss=ws at*;clear hd hd1 hd2 hd3 f1 f2 f3 f4 fw2 EG ho3;obtain⟨ad,cap,hv⟩:=cy ho4;subst hv;go_wp2_with fail
 go_loopw [25] (fun c wr=>∃(k:Nat) (y:DS) (G:List Nat),c= .int .i64 k/\k<=ws.length/\bM wr G d n y/\y.Fit (5*(14-k)+5)/\y.waiting.length<55/\y.fZ n (ws.drop k)=x.fZ n ws/\aR F w4 wr/\bP F G w4/\wr.ownsRow w3.heap.size 176 5 (Value.slice ad ws.length cap) ws.length (jw ws)) (fun c _=>ws.length-(intOf c).toNat)
 case atStart=>exact⟨0,x,F,rfl,by omega,h4,DS.Fit.weak (k:=25) hx,gS,by simp,aR.refl _ _,bP.refl _ _,ho4⟩
 case round=>
  obtain⟨k,y,G,rfl,hk,hy,Jo,hyw,hdo,fk,gk,hok⟩:=hrel
  by_cases hlt:k<ws.length
  .have hGa:=Ia hy hok (by decide) (by decide) (by decide)
   obtain⟨g,cur,agk,hg,hle,_,hcs,htk⟩:=e9 hok;have hat:((cur.toList.drop (k*5)).take 5)=ws[k].vals:=by
    rw[cL htk _ _,A2 ws k hlt]
   have hd:y.fZ n (ws.drop k)=if qw (y.sX n ws[k]).2=0 then(y.sX n ws[k]).1.fZ n (ws.drop (k+1)) else y.sX n ws[k]:=by
    rw[List.drop_eq_getElem_cons hlt];rfl
   rw[hd] at hdo;obtain⟨m,hm⟩:∃m,5*(14-k)+5=m+5:=⟨_,rfl⟩
   have hm2:m=5*(14-(k+1))+5:=by omega
   rw[hm] at Jo;obtain⟨e,he,hgood⟩:=Mp (n:=n) (w:=ws[k]) Jo;have hwk:=hwo ws[k] (List.getElem_mem hlt);clear hd hcs htk;generalize ws[k]=wd at*;subst agk;go_wp2_with (with_reducible first|refine aA rfl ?_|refine az 176 rfl ?_|refine ah 176 rfl ?_);refine ax.go (bY rfl 176 _ rfl g (k*5) rfl DV 5 rl _ _ hg _ hat rfl ?_);clear hat hg
   go_wp2_with (with_reducible first|refine aA rfl ?_|refine ah 176 rfl ?_);refine ax.go (bv rfl 176 rfl _ Fj ?_);intro w5 b7 l7 f5 r5;go_wp2_with (with_reducible first|refine aA rfl ?_|refine az 176 rfl ?_|refine ah 176 rfl ?_);refine ax.go (bT rfl 176 _ _ rfl _ 0 rfl _ rfl 5 rl ?_ ?_ _ _ r5 ?_ ?_)
   .rfl
   .simp[dg.vals,Value.oneCell']
   .decide
   intro w6 f6 q6;rw[bO _ _ (by rfl)] at q6;have UM:Row w6 b7 wd.vals.toArray 176:=q6;have Js:aR [] wr w6:=f5.trans f6 (by simpa using l7);have hy6:=hy.new Js;have afZ:=Js.owns hok;clear q6 r5 f5 f6 hok hy;go_wp2_with (with_reducible first|refine aA rfl ?_|refine az 176 rfl ?_)
   refine ax.go (bY rfl 176 _ rfl b7 0 rfl DV 5 rl _ _ UM wd.vals (by rfl) rfl ?_);clear UM;go_wp2_with fail;refine(Mo G d n y wd w6 hy6 ⟨Jo.jT,by have:=Jo.jS;omega,Jo.jR,Jo.jQ⟩ hyw hwk.1 hwk.2.1 hwk.2.2).mono ?_;rintro e w7 ⟨rfl,G',h7,f7,g7⟩
   have fk7:aR F w4 w7:=fk.trans ((Js.mono).trans f7 (fun j hj=> .inl hj):aR G wr w7) (fun j hj=>gk j hj);have gk7:bP F G' w4:=gk.trans (bP.trans (bP.refl G wr) g7 Js.size) fk.size;have afY:=f7.owns afZ hGa;rw[he] at hdo⊢;have HD:Hid (x.fZ n ws=if qw (.int .i64 e)=0 then(y.sX n wd).1.fZ n (ws.drop (k+1)) else y.sX n wd):=hdo.symm
   have HP:Hid (y.sX n wd=((y.sX n wd).1,.int .i64 e)):=Prod.ext rfl he;clear hdo he;generalize (y.sX n wd).1=z at*
   by_cases Jq:e=0
   .subst Jq
    obtain⟨hzf,hzw⟩:=hgood rfl;have HD2:Hid (x.fZ n ws=z.fZ n (ws.drop (k+1))):=HD.out;clear hgood HD HP;go_wp2_with fail
    go_roundw
    case rel=>exact⟨k+1,z,G',by go_num,by omega,h7,hm2▸hzf,by rw[hzw];decide,HD2.out.symm,fk7,gk7,afY⟩
    case measure=>simp[intOf];omega
   .have abB:(e==0)=false:=by simpa using Jq
    have HD2:Hid (x.rK n ss=(z,.int .i64 e)):=by
     have h1:x.fZ n ws=(z,.int .i64 e):=by rw[HD.out,if_neg (by simpa [qw] using Jq),HP.out]
     show _=_;rw[HE.out,h1,if_neg (by simpa [qw] using Jq)]
    clear hgood HD HP HE;go_wp2_with fail;go_ret;rw[HD2.out];exact⟨rfl,G',h7,(Dt.mono).trans fk7 (fun j hj=> .inl hj),(bP.refl F w).trans gk7 Dt.size⟩
  .obtain rfl:k=ws.length:=by omega
   rw[List.drop_length] at hdo;have HD2:Hid (x.rK n ss=y.remove n 3 ⟨#[]⟩):=by
    have h1:x.fZ n ws=(y,.int .i64 0):=hdo.symm;show _=_;rw[HE.out,h1];rfl
   clear hdo HE hok;go_wp2_with fail;refine(ia wr).mono ?_;rintro e w5 ⟨rfl,f5⟩;have h5:=hy.new f5;go_wp2_with fail;refine(nY G d n y 3 ⟨#[]⟩ w5 h5 ⟨Jo.jT,by have:=Jo.jS;omega,Jo.jR,Jo.jQ⟩ (by omega)).mono ?_;rintro e w6 ⟨rfl,G',h6,f6,g6⟩;obtain⟨r,hr⟩:∃r,y.remove n 3 ⟨#[]⟩=r:=⟨_,rfl⟩
   rw[hr] at h6⊢;have HD3:Hid (x.rK n ss=r):=HD2.out.trans hr;clear hr HD2;obtain⟨r1,r2⟩:=r;go_wp2_with fail;go_ret;rw[HD3.out];have Js:aR F w4 w6:=fk.trans ((f5.mono).trans f6 (fun j hj=> .inl hj):aR G wr w6) (fun j hj=>gk j hj);have gk6:bP F G' w4:=gk.trans (bP.trans (bP.refl G wr) g6 f5.size) fk.size
   exact⟨rfl,G',h6,(Dt.mono).trans Js (fun j hj=> .inl hj),(bP.refl F w).trans gk6 Dt.size⟩
theorem OK (x:DS)(n s:Nat)(p c:ByteArray):∃e:Int,(x.put n s p c).2= .int .i64 e:=by
 unfold DS.put;split
 .exact⟨_,rfl⟩
 .split<;>exact⟨_,rfl⟩
theorem vS (x:DS)(n s:Nat)(p:ByteArray):∃e:Int,(x.remove n s p).2= .int .i64 e:=by
 unfold DS.remove;split<;>exact⟨_,rfl⟩
theorem zq (n:Nat):∀(ws:List dg) (x:DS),∃e:Int,(x.fZ n ws).2= .int .i64 e
 |[],_=>⟨0,rfl⟩
 |w::r,x=>by
  unfold DS.fZ;split
  .exact zq n r _
  .unfold DS.sX
   cases w.becomes with
   |none=>exact vS ..
   |some c=>exact OK ..
theorem Mi (x:DS)(n:Nat)(ss:List (List UInt8×Nat)):∃e:Int,(x.rK n ss).2= .int .i64 e:=by
 unfold DS.rK;split
 .exact vS ..
 .exact zq ..
theorem xA {x:DS}{n m:Nat}{ss:List (List UInt8×Nat)}(hx:x.Fit (m+5)):∃e:Int,(x.begin n ss).2= .int .i64 e/\(e=0->(x.begin n ss).1.Fit m/\(x.begin n ss).1.waiting=[]):=by
 unfold DS.begin;split
 .exact⟨7,rfl,fun h=>by cases h⟩
 .exact B5 hx
def DS.xg (x:DS)(n:Nat)(ss:List (List UInt8×Nat)):DS×Value:=
 if ss=[] then(x,.int .i64 0) else if qw (x.begin n ss).2=0 then(x.begin n ss).1.rK n ss else x.begin n ss
theorem Qr (x:DS)(n:Nat)(ss:List (List UInt8×Nat))(hx:x.Fit 105):∃e:Int,(x.xg n ss).2= .int .i64 e:=by
 unfold DS.xg;split
 .exact⟨0,rfl⟩
 .split
  .exact Mi ..
  .exact(xA (m:=100) hx).imp fun e h=>h.1
theorem aS.moved {w w':World}{F F':List Nat}{s d n:Nat}{x x':DS}(h:aS w F s d n x)(hd:bM w' F' d n x')(f:aR F w w')(g:bP F F' w):aS w' F' s d n x':=
 ⟨f.row h.row h.ne,hd,fun hF=>(g s hF).elim h.ne (fun hh=>by have:=h.row.lt;omega)⟩
theorem Qp (F:List Nat)(s d n:Nat)(x:DS)(base:Nat)(v:Value)(ss:List (List UInt8×Nat))(w:World)(h:aS w F s d n x)(hx:x.Fit 105)(gS:x.waiting.length<55)(hv:w.ownsRow base 168 2 v ss.length (cu ss))(hl:ss.length<=7)(hp:oS ss)(hs:ss.Pairwise fun p q=>p.1<q.1)
  (hF:∀g,v.ownBlock=some g->g∉F) (hB:qw (x.begin n ss).2=0->(x.begin n ss).1.content n 3 ⟨#[]⟩=some (dc ss)):
  Calls Tryz.prog 56 #[.pointer (some ⟨s,0,none⟩),v] w fun e w'=>e= .returned (x.xg n ss).2/\(∃F',aS w' F' s d n (x.xg n ss).1/\bP F F' w)/\aR F w w':=by
 have c0:=h.cell;obtain⟨ad,cap,hv'⟩:=cy hv;subst hv';have HD:Hid (x.xg n ss=if ss=[] then(x,.int .i64 0) else if qw (x.begin n ss).2=0 then(x.begin n ss).1.rK n ss else x.begin n ss):=rfl;go_enter Tryz.func56,Tryz.ntmps56
 by_cases h0:ss.length=0
 .have HD2:Hid (x.xg n ss=(x,.int .i64 0)):=HD.out.trans (if_pos (List.length_eq_zero_iff.1 h0))
  rw[h0];clear HD hv hs hp hB hl h0;go_wp2_with fail;go_ret;rw[HD2.out];exact⟨rfl,⟨F,h,bP.refl _ _⟩,aR.refl _ _⟩
 .have hne:ss≠[]:=fun e=>h0 (by rw[e];rfl)
  have h0':0<ss.length:=by omega
  have hlb:((ss.length:Int)==0)=false:=by simp;omega
  obtain⟨e1,he1,hgood⟩:=xA (m:=100) (n:=n) (ss:=ss) hx;go_wp2_with fail;refine(E9 F d n x base _ ss w h.disk ⟨hx.jT,by have:=hx.jS;omega,hx.jR,hx.jQ⟩ gS hv hl hp hF).mono ?_;rintro e w1 ⟨rfl,F1,h1,f1,g1⟩;have hs1:=h.moved h1 f1 g1;have c1:=hs1.cell;rw[he1] at hB HD⊢;have HB:Hid (x.begin n ss=((x.begin n ss).1,.int .i64 e1)):=Prod.ext rfl he1;clear he1 c0 h0
  generalize (x.begin n ss).1=y at*
  by_cases Jq:e1=0
  .subst Jq
   obtain⟨Jo,hyw⟩:=hgood rfl;have HD2:Hid (x.xg n ss=y.rK n ss):=HD.out.trans (if_neg hne);have hjy:=hB rfl;clear HD HB hB hgood hlb;go_wp2_with fail;refine(Mf F1 d n y ss w1 h1 Jo (by rw[hyw];decide) hjy h0' hl hp hs).mono ?_;rintro e w2 ⟨rfl,F2,h2,f2,g2⟩;obtain⟨r,hr⟩:∃r,y.rK n ss=r:=⟨_,rfl⟩
   rw[hr] at h2⊢;have HD3:Hid (x.xg n ss=r):=HD2.out.trans hr;clear hr HD2;obtain⟨r1,r2⟩:=r;go_wp2_with fail;go_ret;rw[HD3.out];exact⟨rfl,⟨F2,hs1.moved h2 f2 g2,g1.trans g2 f1.size⟩,f1.trans f2 (fun j hj=>g1 j hj)⟩
  .have abB:(e1==0)=false:=by simpa using Jq
   have HD2:Hid (x.xg n ss=(y,.int .i64 e1)):=HD.out.trans ((if_neg hne).trans ((if_neg (by simpa [qw] using Jq)).trans HB.out));clear HD HB hB hgood hlb;go_wp2_with fail;go_ret;rw[HD2.out];exact⟨rfl,⟨F1,hs1,g1⟩,f1⟩
theorem Dd (b:List UInt8):(aF b).toList=b:=by rw[ByteArray.toList_eq];rfl
theorem AJ:Tryz.prog.cellsOf 9=1:=by kernel_rfl
end
section
open Go.RowKit Go.Lib Go.Sort
section
variable {L:List UInt8}{n:Nat}{m:dY}
theorem nj.loose (h:nj L n m){j:Nat}{b:List UInt8}(hj:j<n)(h0:j≠0)(hb:b.length=64)(hf:∀i f,m i=some f->j≠1+2*i/\j≠2+2*i):nj (bI L ((j:Int),b)) n m where
 len:=FV L n h.len j hj b hb
 lo:=h.lo
 root:=by rw[jx L n h.len j hj b hb,if_neg (by omega),h.root]
 recs i f hm:=by
  have h1:=hf i f hm;rw[jx L n h.len j hj b hb,jx L n h.len j hj b hb,if_neg (by omega),if_neg (by omega),h.recs i f hm]
 lt:=h.lt
 good:=h.good
 inj:=h.inj
theorem wW {i:Nat}(hi:m i=none){j:Nat}(hj:j=1+2*i\/j=2+2*i):∀k f,m k=some f->j≠1+2*k/\j≠2+2*k:=by
 intro k f hk;have:k≠i:=fun e=>by subst e;rw[hi] at hk;cases hk
 omega
def pR (m:dY)(o:Int):dY:=if o=-1 then m else upd m o.toNat none
def after (m:dY)(i:Nat)(f:dk)(o:Int):dY:=pR (upd m i (some f)) o
theorem qM (m:dY)(o:Int)(ho:-1<=o/\o<54):ft (ej n m) o 0=ej n (pR m o):=by
 unfold ft pR;split
 .rfl
 .exact BI n m o.toNat (by omega) none
theorem Am (m:dY)(i:Nat)(hi:i<54)(f:dk)(o:Int)(ho:-1<=o/\o<54):aZ (ej n m) i o=ej n (after m i f o):=by
 unfold aZ after;have:ft (ej n m) (i:Int) 1=ej n (upd m i (some f)):=by
  unfold ft;rw[if_neg (by omega)];exact BI n m i hi (some f)
 rw[this,qM _ o ho]
theorem yg (m:dY)(o:Int)(ho:-1<=o/\o<54):aZ (ej n m) (-1) o=ej n (pR m o):=by
 unfold aZ;rw[show ft (ej n m) (-1) 1=ej n m from rfl,qM _ o ho]
theorem fH {m:dY}{o:Int}{j:Nat}{f:dk}(h:pR m o j=some f):m j=some f/\(0<=o->o.toNat≠j):=by
 unfold pR at h;split at h
 .exact⟨h,by omega⟩
 .unfold upd at h
  split at h
  .cases h
  .rename_i hne
   exact⟨h,fun _ e=>hne e.symm⟩
theorem ql {m:dY}{o:Int}{j:Nat}(h:o=-1\/(0<=o/\o≠j)):pR m o j=m j:=by
 unfold pR;split
 .rfl
 .unfold upd
  rw[if_neg (by omega)]
theorem nj.rooted (h:nj L n m){m':dY}(hn:0<n)(hr:∀i f,m' i=some f->jX L (1+2*i)++jX L (2+2*i)=cO f.set f.path f.content)(hl:∀i f,m' i=some f->i<aN n)
  (hg:∀i f,m' i=some f->iS f.set f.path=true/\f.content.length<=96) (hi:∀i j f g,m' i=some f->m' j=some g->nameOf f=nameOf g->i=j):nj (bI L (0,ej n m')) n m' where
 len:=FV L n h.len 0 hn _ (iP _ _)
 lo:=h.lo
 root:=by
  have:=jx L n h.len 0 hn _ (iP n m') 0;rw[if_pos rfl] at this;exact this
 recs i f hm:=by
  have h1:=jx L n h.len 0 hn _ (iP n m') (1+2*i);have h2:=jx L n h.len 0 hn _ (iP n m') (2+2*i);rw[if_neg (by omega)] at h1 h2;show jX (bI L (((0:Nat):Int),ej n m')) _++jX (bI L (((0:Nat):Int),ej n m')) _=_;rw[h1,h2];exact hr i f hm
 lt:=hl
 good:=hg
 inj:=hi
theorem nj.dropped (h:nj L n m)(o:Int):nj (bI L (0,ej n (pR m o))) n (pR m o):=
 h.rooted (by have:=h.lo;omega) (fun i f hm=>h.recs i f (fH hm).1) (fun i f hm=>h.lt i f (fH hm).1) (fun i f hm=>h.good i f (fH hm).1)
  fun i j f g hf hg e=>h.inj i j f g (fH hf).1 (fH hg).1 e
theorem iu {m:dY}{i:Nat}{f:dk}{o:Int}{j:Nat}{g:dk}(h:after m i f o j=some g):(j=i/\g=f)\/(j≠i/\m j=some g/\(0<=o->o.toNat≠j)):=by
 unfold after at h;obtain⟨h1,h2⟩:=fH h;unfold upd at h1;split at h1
 .rename_i e
  exact .inl ⟨e,(Option.some.inj h1).symm⟩
 .rename_i e
  exact .inr ⟨e,h1,h2⟩
theorem nj.put (h:nj L n m){i:Nat}{f:dk}{o:Int}(hi:i<aN n)(hrec:jX L (1+2*i)++jX L (2+2*i)=cO f.set f.path f.content)
  (hg:iS f.set f.path=true/\f.content.length<=96) (ho:∀j g,m j=some g->nameOf g=nameOf f->o=j):nj (bI L (0,ej n (after m i f o))) n (after m i f o):=by
 refine h.rooted (by have:=h.lo;omega) (fun j g hm=>?_) (fun j g hm=>?_) (fun j g hm=>?_) fun j k g g' hj hk e=>?_
 .rcases iu hm with⟨rfl,rfl⟩|⟨_,h1,_⟩
  .exact hrec
  .exact h.recs j g h1
 .rcases iu hm with⟨rfl,rfl⟩|⟨_,h1,_⟩
  .exact hi
  .exact h.lt j g h1
 .rcases iu hm with⟨rfl,rfl⟩|⟨_,h1,_⟩
  .exact hg
  .exact h.good j g h1
 .rcases iu hj with⟨rfl,rfl⟩|⟨_,h1,h2⟩
  .rcases iu hk with⟨rfl,rfl⟩|⟨_,h3,h4⟩
   .rfl
   .have:=ho k g' h3 e.symm
    have:=h4 (by omega);omega
  .rcases iu hk with⟨rfl,rfl⟩|⟨_,h3,h4⟩
   .have:=ho j g h1 e
    have:=h2 (by omega);omega
   .exact h.inj j k g g' h1 h3 e
end
def half (r:List UInt8)(k:Nat):List UInt8:=(r.drop (k*64)).take 64
theorem CK (r:List UInt8)(h:r.length=128)(k:Nat)(hk:k<2):(half r k).length=64:=by
 unfold half;rw[List.length_take,List.length_drop];omega
theorem halves (r:List UInt8)(h:r.length=128):half r 0++half r 1=r:=by
 unfold half;simp only[Nat.zero_mul,List.drop_zero,Nat.one_mul];rw[List.take_of_length_le (l:=r.drop 64) (by rw[List.length_drop];omega),List.take_append_drop]
def D3 (L:List UInt8)(i:Nat)(r:List UInt8):List UInt8:=bI (bI L ((1+2*i:Nat),half r 0)) ((2+2*i:Nat),half r 1)
section
variable (L:List UInt8)(a k kp:Int)(n s:Nat)(p c:ByteArray)(i:Nat)(o:Int)(root r:List UInt8)
theorem Kv (hr:cO s p.data.toList c.data.toList=r)
  (hfi:dQ ⟨L,[],a,false,k,kp,false⟩ n=i) (hsl:cG ⟨L,[],a,false,k,kp,false⟩ s p (taken ⟨L,[],a,false,k,kp,false⟩ n)=o) (hroot:seenIn (D3 L i r) [] 0=root):
  (⟨L,[],a,false,k,kp,false⟩:DS).put n s p c=(⟨bI (D3 L i r) (0,aZ root i o),[],a+5,false,k,kp,false⟩,.int .i64 0):=by
 have e:bI (bI L ((1+2*i:Nat),List.take 64 r)) ((2+2*i:Nat),List.take 64 (List.drop 64 r))=D3 L i r:=by simp[D3,half]
 unfold DS.put;rw[hfi,hsl,hr,if_neg (by omega)];simp[DS.jI,DS.ng,DS.wr,DS.write,DS.bp,DS.iC,DS.flush,DS.mark,DS.jh,cK,jg,DS.read];rw[show 1+2*(i:Int)=((1+2*i:Nat):Int) by omega,show((1+2*i:Nat):Int)+1=((2+2*i:Nat):Int) by omega,e,hroot];simp;omega
theorem BV (x:DS)(hsl:cG x s p (taken x n)=-1):x.remove n s p=(x,.int .i64 5):=by
 unfold DS.remove;rw[if_pos hsl]
theorem BX (hsl:cG ⟨L,[],a,false,k,kp,false⟩ s p (taken ⟨L,[],a,false,k,kp,false⟩ n)=o)(ho:o≠-1)(hroot:seenIn L [] 0=root):
  (⟨L,[],a,false,k,kp,false⟩:DS).remove n s p=(⟨bI L (0,aZ root (-1) o),[],a+2,false,k,kp,false⟩,.int .i64 0):=by
 unfold DS.remove;rw[hsl,if_neg ho];simp[DS.write,DS.bp,DS.iC,DS.flush,DS.mark,DS.jh,cK,jg,DS.read,hroot];omega
end
end
section
open Go.RowKit Go.Lib
theorem aS.wV {w w':World}{S F:List Nat}{s d n:Nat}{x:DS}(h:aS w F s d n x)(f:aR S w w')(h1:s∉S)(h2:∀k∈S,k∉F):aS w' F s d n x:=⟨f.row h.row h1,h.disk.wV f h2,h.ne⟩
theorem Dp {P:Program}{ops:Array Oper}{Q:Exit->Act->World->Prop}{n m:Nat}{l:List Nat}{a:Act}{w:World}(i j k:Nat)(hr:Region.ready .any ops (marks n l)=[i,j,k])(hi:i<n)(hj:j<n)(hk:k<n)(h1:Step P ops Q n m l i a w)(h2:Step P ops Q n m l j a w)(h3:Step P ops Q n m l k a w):xK P ops Q n (m+1) l a w:=
 Fg [i,j,k] (by simp) hr (by simp[hi,hj,hk]) (by simp[h1,h2,h3])
theorem yw (s:ByteArray):(de s).size<=96:=by
 unfold de;split
 .rw[ByteArray.size_extract];omega
 .omega
def dS (k sd pt:Int)(ct:ByteArray):Array Value:=#[.int .i64 k,.int .i64 sd,.int .i64 pt,.string ct]
def DS.act (x:DS)(n:Nat)(k sd pt:Int)(ct:ByteArray):DS×Value:=
 if bC k 4=2 then x.fQ n (bC sd 2) (gO (bC pt 7)) else x.pY n (bC sd 2) (gO (bC pt 7)) (de ct)
end
section
open Go.RowKit Go.Lib Go.Sort
theorem C4 (c:ByteArray):(de c).data.toList.length<=96:=by
 unfold de;split
 .have:(c.extract 0 96).size<=96:=by rw[ByteArray.size_extract];omega
  simpa using this
 .have:c.size<=96:=by omega
  simpa using this
theorem Ea (k:Nat)(hk:k<7)(s:Nat)(hs:s<=2):iS s (mW k)=true:=by
 unfold iS;rw[if_pos (by omega)];exact(Ch k hk).1
theorem HV (k:Nat)(hk:k<7):mW k∈P7:=Ei.2 ⟨k,hk,rfl⟩
theorem CO (x:DS)(n:Nat)(h:x.waiting=[]):dQ x n=dR (jX x.aM 0) (aN n) (aN n) 0:=by
 unfold dQ;rw[sF x h]
section
variable {L:List UInt8}{n:Nat}{m:dY}
theorem owner (h:nj L n m)(s:Nat)(p:List UInt8):∃o:Int,(∀x:DS,x.aM=L->x.waiting=[]->cG x s (aF p) (taken x n)=o)/\-1<=o/\o<54/\(∀j g,m j=some g->nameOf g=(s,p)->o=j)/\(o≠-1->∃g,m o.toNat=some g/\nameOf g=(s,p)):=by
 by_cases hx:∃j g,m j=some g/\nameOf g=(s,p)
 .obtain⟨j,g,hg,e⟩:=hx
  have hlt:=h.lt j g hg;have:=oT n;have e':=e;unfold nameOf at e';simp only[Prod.mk.injEq] at e';refine⟨j,fun x hl hw=>?_,by omega,by omega,fun k g' hk ek=>?_,fun _=>⟨g,by simpa using hg,e⟩⟩
  .subst hl
   have:=BQ h hw hg;rw[e'.1,e'.2] at this;exact this
  .rw[h.inj k j g' g hk hg (ek.trans e.symm)]
 .refine⟨-1,fun x hl hw=>?_,by omega,by omega,fun j g hg e=>absurd ⟨j,g,hg,e⟩ hx,fun h=>absurd rfl h⟩
  subst hl;exact p7 h hw s p fun j g hg e=>hx ⟨j,g,hg,e⟩
end
theorem Hq (n:Nat)(h:16<=n):nj (eY n) n fun _=>none where
 len:=by unfold eY;rw[List.length_append,jp,List.length_replicate];omega
 lo:=h
 root:=by
  unfold eY jX;rw[Nat.mul_zero,List.drop_zero,List.take_append_of_le_length (by rw[jp];omega),List.take_of_length_le (by rw[jp];omega)];have:=DZ n (fun _=>none) 0 (by simp);rw[<-this];rfl
 recs:=fun i f hm=>by cases hm
 lt:=fun i f hm=>by cases hm
 good:=fun i f hm=>by cases hm
 inj:=fun i j f g hm=>by cases hm
end
section
open Go.RowKit Go.Lib
theorem aR.cell {S:List Nat}{w w':World}(h:aR S w w'){a:Addr}{v:Value}(hc:w.cell? a=some v)(ha:a.block∉S):w'.cell? a=some v:=by
 unfold World.cell? at hc⊢;cases hb:w.heap[a.block]? with
 |none=>rw[hb] at hc;cases hc
 |some o=>
  rw[h.block a.block (Array.getElem?_eq_some_iff.1 hb).1 ha,hb];rw[hb] at hc;exact hc
structure nm where
 kind:Int
 side:Int
 path:Int
 content:ByteArray
def wY (x:Int):Prop:=-9223372036854775808<=x/\x<=9223372036854775807
def nm.Ok (a:nm):Prop:=wY a.kind/\wY a.side/\wY a.path
def nm.cells (a:nm):Array Value:=dS a.kind a.side a.path a.content
def Nk (w:World)(ad:Option Addr)(l:List nm):Prop:=∀j,(hj:j<l.length)->(l[j]).Ok/\∃b off,ad=some ⟨b,off,none⟩/\w.rangeAt b (off+j*4) (l[j]).cells.toList
theorem lZ:(Tryz.prog.info? 24).map (·.size)=some 4:=by kernel_rfl
def DS.calm (L:List UInt8)(a:Int):DS:=⟨L,[],a,false,0,0,false⟩
theorem oh (L:List UInt8)(a:Int)(r:Nat)(h0:0<=a)(h1:a+r<=1000000000:=by omega):(DS.calm L a).Fit r:=⟨h0,h1,by show(0:Int)<=0;omega,by show(0:Int)<=_;omega⟩
def wZ:ByteArray:=⟨#[102,105,114,115,116]⟩
section
variable {P:Program}{ops:Array Oper}{Q:Exit->Act->World->Prop}{a:Act}{w:World}{rest:List Oper}{o:Oper}
theorem lL (hg:o.guard=none)(t:TypeId)(x y:Operand)(ho:o.op= .store t x y)(b:Nat)(hx:a.eval x= .pointer (some ⟨b,0,none⟩))
  (cells:Array Value) (hy:a.eval y= .agg cells) (hi:(P.info? t).map (·.size)=some cells.size) (h1:∀v∈cells.toList,v.oneCell'=true)
  (c:Array Value) (u:TypeId) (hr:Row w b c u) (hc:c.size=cells.size)
  (h:∀w1:World,aR [b] w w1->Row w1 b cells u->wpList P ops Q rest (a.put o.dst undef) w1):wpList P ops Q (o::rest) a w:=by
 refine bT hg t x y ho b 0 hx cells hy cells.size hi rfl h1 c u hr (by omega) fun w1 f1 r1=>h w1 f1 ?_
 rw[bO _ _ (by rw[hc,Array.length_toList]),Array.toArray_toList] at r1;exact r1
end
end
section
open Go.RowKit Go.Lib Go.Sort
open Go.Conc (base G)
def pr (w:World):Prop:=∃c t f,w.heap[0]? =some (.cells c t f)/\∀v∈c,∀r,¬Value.Has r v
theorem pr.blk {S:List Nat}{w w':World}(h:pr w)(f:eF S w w')(h0:0∉S):pr w':=by
 obtain⟨c,t,fz,h1,h2⟩:=h;exact⟨c,t,fz,(f.block 0 (Array.getElem?_eq_some_iff.1 h1).1 h0).trans h1,h2⟩
theorem bP.zero {F F':List Nat}{w:World}(g:bP F F' w)(hg:pr w)(h:0∉F):0∉F':=fun h0=>by
 obtain⟨c,t,fz,h1,h2⟩:=hg;have:=(Array.getElem?_eq_some_iff.1 h1).1;rcases g 0 h0 with q|q
 .exact h q
 .omega
theorem aS.ay {w:World}{F:List Nat}{s d n:Nat}{x:DS}(h:aS w F s d n x)(t:Go.Proofs.YtchcmhodnkgojaaGreat.dU)(k:Nat):aS (ay w t k) F s d n x:=by
 obtain⟨h1,⟨bl,vw,⟨a1,a2,a3,a4,a5,a6,a7,a8,a9,a10,a11,a12,a13⟩,hF⟩,h3⟩:=h;exact⟨h1,⟨bl,vw,⟨a1,a2,a3,a4,a5,a6,a7,a8,a9,a10,a11,a12,a13⟩,hF⟩,h3⟩
theorem bE.blk {w w':World}{S:List Nat}{d bl n:Nat}{vw:Value}{x:DS}(h:bE w d bl n vw x)(f:eF S w w')(h1:d∉S)(h2:bl∉S)(h3:∀k∈S,vw.ownBlock≠some k):bE w' d bl n vw x:=
 {h with row:=(f.block d h.row.lt h1).trans h.row,last:=(f.block bl h.last.lt h2).trans h.last,own:=World.ownsRow.agG h.own f fun g hg hS=>h3 g hS hg}
theorem aS.blk {w w':World}{F S:List Nat}{s d n:Nat}{x:DS}(h:aS w F s d n x)(f:eF S w w')(h1:s∉S)(h2:∀k∈S,k∉F):aS w' F s d n x:=by
 obtain⟨bl,vw,hd,rfl⟩:=h.disk;exact⟨(f.block s h.row.lt h1).trans h.row,⟨bl,vw,hd.blk f (fun e=>h2 _ e (by simp)) (fun e=>h2 _ e (by simp)) (fun k hk e=>h2 k hk (by simp[e])),rfl⟩,h.ne⟩
theorem aS.rd {w:World}{F:List Nat}{s d n:Nat}{x:DS}(h:aS w F s d n x)(hg:pr w)(hw:x.waiting=[]):∃bl,aI.fo d bl n x w:=by
 obtain⟨bl,vw,hd,rfl⟩:=h.disk;have:=hd.nil hw;subst this;exact⟨bl,⟨⟨_,hd.row⟩,⟨_,hd.last⟩,hg,hd.len,hd.lo,hd.hi,hw⟩⟩
def sa (x:DS)(n:Nat)(ps:List (List UInt8)):Prop:=ps.Pairwise (·<=·)/\ps.Nodup/\∀l,l∈ps↔aI.comb (gy x n 0 (aF l)) (gy x n 1 (aF l))≠none
theorem yN {ps:List (List UInt8)}(h:ps.Pairwise (·<=·))(hn:ps.Nodup):ps.Pairwise (·<·):=
 (h.and hn).imp fun {a b} hab=>by
  rcases List.le_iff_lt_or_eq.1 hab.1 with q|q
  .exact q
  .exact absurd q hab.2
theorem xW (fa fb:aI.iD){ps:List (List UInt8)}(h:ps.Pairwise (·<·)):(ij fa fb ps).Pairwise fun p q=>p.1<q.1:=by
 unfold ij;refine List.Pairwise.filterMap _ (fun a b hab p hp q hq=>?_) h;obtain⟨_,_,rfl⟩:=Option.map_eq_some_iff.1 hp;obtain⟨_,_,rfl⟩:=Option.map_eq_some_iff.1 hq;exact hab
def eD (x:DS)(n:Nat)(ps:List (List UInt8)):List (List UInt8×Nat):=ij (gy x n 0) (gy x n 1) ps
def lh (x:DS)(n:Nat)(ps:List (List UInt8)):List (List UInt8):=jk (gy x n 0) (gy x n 1) ps
theorem eT:(Tryz.prog.info? 58).map (·.size)=some 2:=by kernel_rfl
def fN:Value:= .agg #[.int .i64 0,.slice none 0 0]
theorem nq:(Tryz.prog.info? 58).map (·.zero)=some (some fN):=by kernel_rfl
theorem mB {fn:Func}{tp tq:Tmp}{ty:TypeId}(hf:fn.results=#[.cell tp ty,.tmp tq])(tmps:Array Value)(w:World)(b:Nat)(c:Array Value)(u:TypeId)(hp:tmps.getD tp undef= .pointer (some ⟨b,0,none⟩))
  (hr:Row w b c u) (hu:(Tryz.prog.underlying ty).map (fun d=>match d with|.struct _|.array _ _=>true|_=>false)=some true) (hi:(Tryz.prog.info? ty).map (·.size)=some c.size):(results fn tmps).run Tryz.prog w= .ok (.tuple #[.agg c,tmps.getD tq undef]) w:=by
 obtain⟨d,hu',hd'⟩:=Option.map_eq_some_iff.1 hu;have hp':tmps[tp]?.getD undef= .pointer (some ⟨b,0,none⟩):=by simpa using hp
 have hl:=run_loadVar_row w b u ty c (0,0) d hr hu' (by revert hd' hu';cases d<;>intro x y<;>first|rfl|cases y) hi;simp[results,hf,hp',asAddr,hl]
theorem acN {E:aj.Env}{f:FuncId}{k:List Item}{R:Act->World->Prop}{a:Act}{wL:World}{ops:Array Oper}{i:Nat}{rest:List Nat}{o:Oper}(t:TypeId)(x:Operand)(ho:ops[i]? =some o)(hop:o.op= .load t x)(sc:lF aj.PP S0 E0 true o=true)(hg:o.guard=none)
  (ha:(Tryz.prog.underlying t).map (fun d=>match d with|.struct _|.array _ _=>true|_=>false)=some false) (b:Addr) (hx:a.eval x= .pointer (some b)) (v:Value) (hc:wL.cell? b=some v)
  (h:aj.CI E f (.inRegion ops rest::k) R (a.put o.dst v) wL):aj.CI E f (.inRegion ops (i::rest)::k) R a wL:=by
 refine aI.Sq.mM (w1:=wL) v ho hg (fun t' d=>?_) h (sc:=sc);have hc':(ay wL t' d).cell? b=some v:=hc;have h1:aI.RT (kJ.load t (.pointer (some b))).sem (ay wL t' d) (.value v) (ay wL t' d) #[⟨.cell b,false,false⟩]:=by
  refine aI.RT.eG (x:=v) ?_ (.pure _);show aI.RT (do if<-isAgg t then Pure.pure (.agg (<-loadCells b (<-Go.sizeOf t))) else load b) _ _ _ _;refine(aI.gC ha).aP ?_;simp only[Bool.false_eq_true,if_false];exact aI.jZ hc'
 have:=h1.run;unfold execOp;rw[hop];show(do pure (.value (<-Instr.loadAt t (a.eval x))):Sem Next).run _ _=_;rw[hx];exact this
theorem Qx {E:aj.Env}{f:FuncId}{k:List Item}{R:Act->World->Prop}{a:Act}{wL:World}{ops:Array Oper}{l:List Nat}(m:Nat)(hl:l=List.range' m (ops.toList.drop m).length)(h0:∃fn,aj.PP.funcs[f]? =some fn)(AX:Aj aj.PP S0 E0 true (.inRegion ops l)=true)
  (I:World->Prop) (hb:∀w t d,I w->I (ay w t d)) (hI:I wL) (hwp:∀w,I w->w.heap.size=wL.heap.size->wpList aj.PP ops (aj.after E none f k R) (ops.toList.drop m) a w):aj.CI E f (.inRegion ops l::k) R a wL:=by
 refine aj.Qz none h0 AX (by simp) I hb hI fun w h1 h2=>?_
 rw[hl,wpOps_eq_wpList (ops.toList.drop m) m fun j=>by rw[List.getElem?_drop,Array.getElem?_toList]];exact hwp w h1 h2
structure AR (x:DS)(n:Nat):Prop where
 wait:x.waiting=[]
 fit:x.failed=false->x.Fit 105
 steps:∀ps,sa x n ps->(eD x n ps).length<=7/\oS (eD x n ps)/\(qw (x.begin n (eD x n ps)).2=0->(x.begin n (eD x n ps)).1.content n 3 ⟨#[]⟩=some (dc (eD x n ps)))
def ye (x:DS)(n:Nat):Int:=if x.failed then 3 else if x.pending n then 4 else 0
def zz (F:List Nat)(s d n:Nat)(x:DS)(wL:World)(v:Value)(w':World):Prop:=
 (ye x n≠0/\v= .tuple #[fN,.int .i64 (ye x n)]/\aS w' F s d n x/\eF [] wL w')\/
 (ye x n=0/\∃ps F',sa x n ps/\aS w' F' s d n (x.xg n (eD x n ps)).1/\bP F F' wL/\eF F wL w'/\
  ((∃cv,(x.xg n (eD x n ps)).2= .int .i64 0/\v= .tuple #[.agg #[.int .i64 (eD x n ps).length,cv],.int .i64 0]/\w'.ownsRow wL.heap.size 9 1 cv (lh x n ps).length (iG (lh x n ps))/\∀g,cv.ownBlock=some g->g∉F')\/
   (∃e:Int,e≠0/\(x.xg n (eD x n ps)).2= .int .i64 e/\v= .tuple #[fN,.int .i64 e])))
open aI aI.Sq in
theorem Gw {E:aj.Env}{wL:World}{F:List Nat}{s d n:Nat}{x:DS}(h:aS wL F s d n x)(hG:pr wL)(h0:0∉F)(hok:AR x n):
  aj.CC E 31 #[.pointer (some ⟨s,0,none⟩)] (zz F s d n x wL) wL:=by
 refine aj.l9 Tryz.func31 rfl ?_;refine aj.eI ?_;refine ta {tmps:=#[.pointer (some ⟨s,0,none⟩),undef,undef,undef,undef,undef,undef,undef,undef,undef,undef,undef,undef,undef,undef,undef,undef,undef,undef,undef,undef,undef,undef,undef,undef,undef,undef,undef,undef,undef,undef,undef,undef],defers:=[]} (by kernel_rfl) ?_
 refine aj.eZ none ⟨_,Tryz.func31⟩ (by kernel_rfl) (by simp) (fun w=>aS w F s d n x/\eF [] wL w) (fun w t k h=>⟨h.1.ay t k,h.2.tape t k⟩) ⟨h,eF.refl _ _⟩ fun w hI hsz=>?_
 obtain⟨hS,hB⟩:=hI;go_wp2_with (with_reducible first|refine aA rfl ?_);refine ax.go (bv rfl 58 rfl _ nq ?_);intro w1 b2 l2 f2 r2;have hS1:=hS.new f2;have hB1:=hB.trans f2.blk;have hb2:b2∉F:=fun hb=>by have:=hS.disk.lt b2 hb;omega
 have Wn:s≠b2:=by have:=hS.row.lt;omega
 have agh:wL.heap.size<=b2:=by omega
 clear hS hB f2;go_wp2_with fail;refine aj.eI (aj.eZ none ⟨_,Tryz.func31⟩ (by kernel_rfl) (by simp) (fun w=>aS w F s d n x/\eF [] wL w/\Row w b2 fN.cells 58) (fun w t k h=>⟨h.1.ay t k,h.2.1.tape t k,h.2.2⟩) ⟨hS1,hB1,r2⟩ fun w2 hI hsz2=>?_);obtain⟨hS2,hB2,r2'⟩:=hI;clear hS1 hB1 r2 hsz2;go_wp2_with fail;refine(lG F s d n x w2 hS2).mono ?_;rintro e w3 ⟨rfl,f3⟩
 have Yr:=hS2.new f3;have hB3:=hB2.trans f3.blk;have r3:Row w3 b2 fN.cells 58:=f3.row r2';have HE:Hid (ye x n=(if x.failed then 3 else if x.pending n then 4 else 0)):=rfl;obtain⟨e0,he0⟩:∃e0:Int,(if x.failed then 3 else if x.pending n then 4 else 0)=e0:=⟨_,rfl⟩
 rw[he0] at HE⊢;clear he0 hS2 hB2 f3 r2'
 by_cases Jq:e0=0
 .subst Jq
  go_wp2_with fail;have hG3:pr w3:=hG.blk hB3 (by simp);obtain⟨bl,hrd⟩:=Yr.rd hG3 hok.wait
  refine aj.eI (aj.dW (eU _ rfl (.inr rfl) rfl (mM (w1:=w3) (.pointer (some ⟨s,0,none⟩)) rfl rfl (fun t d=>by kernel_rfl) (mM (w1:=w3) (.pointer (some ⟨s,0,none⟩)) rfl rfl (fun t d=>by kernel_rfl) (acN _ _ rfl rfl (by kernel_rfl) rfl (by kernel_rfl) ⟨s,0,none⟩ rfl (.pointer (some ⟨d,0,none⟩)) Yr.cell ?_)))))
  refine kH (f2:=55) #[.tmp 18] #[.pointer (some ⟨d,0,none⟩)] (R2:=Ss x n w3) rfl rfl (by kernel_rfl) (fun b w=>by kernel_rfl) (by kernel_rfl) (QC hrd) fun v w4 hR afU=>?_
  obtain⟨ps,sv,cv,p1,p2,p3,rfl,hB4,ho1,ho2⟩:=hR;refine eU _ rfl (.inr rfl) rfl (mM (w1:=w4) sv rfl rfl (fun t d=>by kernel_rfl) (mM (w1:=w4) cv rfl rfl (fun t d=>by kernel_rfl) (eU _ rfl (.inl rfl) rfl (eU _ rfl (.inl rfl) rfl (aj.cF ?_)))));have hP:sa x n ps:=⟨p1,p2,p3⟩
  have hss:=hok.steps ps hP;have hst:(eD x n ps).Pairwise fun p q=>p.1<q.1:=xW _ _ (yN p1 p2)
  have We:w4.ownsRow w3.heap.size 168 2 sv (eD x n ps).length (cu (eD x n ps)):=ho1;have Ew:w4.ownsRow w3.heap.size 9 1 cv (lh x n ps).length (iG (lh x n ps)):=ho2;have hS4:aS w4 F s d n x:=Yr.blk hB4 (by simp) (by simp);have r4:Row w4 b2 fN.cells 58:=(hB4.block b2 r3.lt (by simp)).trans r3;have abP:=hB3.trans hB4
  have hL3:wL.heap.size<=w3.heap.size:=hB3.size;have hFl:=Yr.disk.lt;have hfit:x.Fit 105:=hok.fit (by
   have:=HE.out;unfold ye at this;cases hf:x.failed with
   |false=>rfl
   |true=>rw[hf] at this;simp at this)
  generalize abg:eD x n ps=ss at*;generalize hcs':lh x n ps=cs at*;clear ho1 ho2 p1 p2 p3 Yr hB3 r3 hG3 hrd hB4;obtain⟨ad,cap,hsv⟩:=cy We;obtain⟨xI,cap2,hcv⟩:=cy Ew;subst hsv hcv
  refine ta {tmps:=#[.pointer (some ⟨s,0,none⟩),undef,.pointer (some ⟨b2,0,none⟩),.int .i64 0,.int .i64 0,.slice ad ss.length cap,.slice xI cs.length cap2,undef,.pointer (some ⟨s,0,none⟩),.int .i64 0,.int .i64 0,.bool false,undef,undef,.tuple #[.slice ad ss.length cap,.slice xI cs.length cap2],.pointer (some ⟨s,0,none⟩),.pointer (some ⟨s,0,none⟩),.pointer (some ⟨s,0,none⟩),.pointer (some ⟨d,0,none⟩),.tuple #[.slice ad ss.length cap,.slice xI cs.length cap2],.slice ad ss.length cap,.slice xI cs.length cap2,undef,undef,undef,undef,undef,undef,undef,undef,undef,undef,undef],defers:=[]} (by kernel_rfl) ?_
  refine aj.eZ none ⟨_,Tryz.func31⟩ (by kernel_rfl) (by simp) (fun w=>aS w F s d n x/\eF [] wL w/\Row w b2 fN.cells 58/\w.ownsRow w3.heap.size 168 2 (.slice ad ss.length cap) ss.length (cu ss)/\w.ownsRow w3.heap.size 9 1 (.slice xI cs.length cap2) cs.length (iG cs)) (fun w t k h=>⟨h.1.ay t k,h.2.1.tape t k,h.2.2⟩) ⟨hS4,abP,r4,We,Ew⟩ fun w5 hI hsz5=>?_
  obtain⟨hS5,Ys,r5,Gb,Yq⟩:=hI;clear hS4 abP r4 We Ew afU hsz5;have apart:∀{v:Value} {e:TypeId} {m k:Nat} {l:List Value},w5.ownsRow w3.heap.size e m v k l->∀g,v.ownBlock=some g->g∉F:=fun ho g hg hF=>by
   have:=(ho.lt g hg).1;have:=hFl g hF;omega
  have HD:Hid (eD x n ps=ss/\lh x n ps=cs):=⟨abg,hcs'⟩
  clear abg hcs';obtain⟨e5,he5⟩:=Qr x n ss hfit;go_wp2_with fail;refine(Qp F s d n x _ _ ss w5 hS5 hfit (by rw[hok.wait];decide) Gb hss.1 hss.2.1 hst (apart Gb) hss.2.2).mono ?_;rintro e w6 ⟨rfl,⟨F',hS6,g6⟩,f6⟩;have r6:=f6.row r5 hb2;have hc6:=f6.owns Yq fun k hk h=>apart Yq k h hk
  have hcF:∀g,(Value.slice xI cs.length cap2).ownBlock=some g->g∉F':=fun g hg hF=>by
   rcases g6 g hF with q|q
   .exact apart Yq g hg q
   .have:=(Yq.lt g hg).2;omega
  have abK:b2∉F':=fun hF=>by
   rcases g6 b2 hF with q|q
   .exact hb2 q
   .have:=r5.lt;omega
  have hgr:bP F F' wL:=(bP.refl F wL).trans g6 Ys.size;have PT:eF F wL w6:=(Ys.mono).trans f6.blk (fun i hi=> .inl hi);have hcb:∀g,(Value.slice xI cs.length cap2).ownBlock=some g->g≠b2:=fun g hg e=>by
   subst e;rcases Yq.2 with⟨e1,_⟩|⟨g',cap',cur,e1,_,hg',_⟩
   .rw[e1] at hg;simp[Value.ownBlock] at hg
   .rw[e1] at hg
    have:g'=g:=by simpa [Value.ownBlock] using hg
    subst this;unfold Row at r5;rw[r5] at hg';cases hg'
  have HO:Hid ((x.xg n ss).2= .int .i64 e5):=he5;rw[he5];have HX:Hid (aS w6 F' s d n (x.xg n ss).1):=hS6;clear hss hst hS6 he5 hS5 Ys r5 Gb Yq f6 g6 apart
  by_cases h5:e5=0
  .subst h5
   go_wp2_with (with_reducible first|refine bJ 58 rfl ?_|refine ah 58 rfl ?_);refine ax.go (cN rfl (.agg #[.int .i64 ss.length,.slice xI cs.length cap2]) w6 (by kernel_rfl) ?_);go_wp2_with (with_reducible first|refine ah 58 rfl ?_)
   refine ax.go (lL rfl 58 _ _ rfl b2 rfl #[.int .i64 ss.length,.slice xI cs.length cap2] rfl eT (by simp[Value.oneCell']) _ _ r6 rfl ?_);intro w7 f7 r7;have hc7:=f7.owns hc6 (fun k hk h=>hcb k h (by simpa using hk));go_wp2_with fail
   refine⟨w7.tape,w7.drawn,.tuple #[.agg #[.int .i64 ss.length,.slice xI cs.length cap2],.int .i64 0],?_,.inr ⟨HE.out,ps,F',hP,?_,hgr,?_,.inl ⟨_,?_,?_,?_,hcF⟩⟩⟩
   .exact mB (tp:=2) (tq:=3) (ty:=58) rfl _ _ b2 _ _ rfl r7 (by kernel_rfl) eT
   .rw[HD.out.1]
    exact HX.out.wV f7 (by simpa using Wn) (by simpa using abK)
   .exact PT.trans f7.blk (by intro i hi;right;simp at hi;omega)
   .rw[HD.out.1];exact HO.out
   .rw[HD.out.1]
   .rw[HD.out.2];exact hc7.weak hL3
  .have h5':(e5==0)=false:=by simpa using h5
   go_wp2_with (with_reducible first|refine bJ 58 rfl ?_|refine ah 58 rfl ?_);refine ax.go (cN rfl fN w6 (by kernel_rfl) ?_);go_wp2_with (with_reducible first|refine ah 58 rfl ?_);refine ax.go (lL rfl 58 _ _ rfl b2 rfl fN.cells rfl eT (by decide) _ _ r6 rfl ?_);intro w7 f7 r7;go_wp2_with fail
   refine⟨w7.tape,w7.drawn,.tuple #[fN,.int .i64 e5],?_,.inr ⟨HE.out,ps,F',hP,?_,hgr,?_,.inr ⟨e5,h5,?_,rfl⟩⟩⟩
   .exact mB (tp:=2) (tq:=3) (ty:=58) rfl _ _ b2 _ _ rfl r7 (by kernel_rfl) eT
   .rw[HD.out.1]
    exact HX.out.wV f7 (by simpa using Wn) (by simpa using abK)
   .exact PT.trans f7.blk (by intro i hi;right;simp at hi;omega)
   .rw[HD.out.1];exact HO.out
 .have abB:(e0==0)=false:=by simpa using Jq
  go_wp2_with (with_reducible first|refine bJ 58 rfl ?_|refine ah 58 rfl ?_);refine ax.go (cN rfl fN w3 (by kernel_rfl) ?_);go_wp2_with (with_reducible first|refine ah 58 rfl ?_);refine ax.go (lL rfl 58 _ _ rfl b2 rfl fN.cells rfl eT (by decide) _ _ r3 rfl ?_);intro w4 f4 r4;go_wp2_with fail
  refine⟨w4.tape,w4.drawn,.tuple #[fN,.int .i64 e0],?_,.inl ⟨by rw[HE.out];exact Jq,by rw[HE.out],Yr.wV f4 ?_ ?_,?_⟩⟩
  .exact mB (tp:=2) (tq:=3) (ty:=58) rfl _ _ b2 _ _ rfl r4 (by kernel_rfl) eT
  .simpa using Wn
  .simpa using hb2
  .exact hB3.trans (f4.blk.mono (T:=[b2]) (by simp)) (by simpa using agh)
end
section
open Go.RowKit Go.Lib
abbrev bR:=Nat->List UInt8->Option (List UInt8)
def fj (H:bR)(s:Nat)(p:List UInt8)(r:Option (List UInt8)):bR:=fun s' p'=>if s'=s/\p'=p then r else H s' p'
def Has (L:List UInt8)(n:Nat)(H:bR):Prop:=∃m,nj L n m/\∀s p,holds m s p (H s p)
def pT (H:bR):Prop:=∀s p,H s p≠none->(s<=2/\p∈P7)\/(s=3/\p=[])
def eg (H:bR):Prop:=∀s p,H s p≠none->s<=2/\p∈P7
theorem wO {m:dY}{s:Nat}{p:List UInt8}{r:Option (List UInt8)}(h:holds m s p r){i:Nat}{f:dk}(hf:m i=some f)(e:nameOf f=(s,p)):r≠none:=fun hr=>by
 subst hr;exact h i f hf e
theorem pT.slots {L:List UInt8}{n:Nat}{H:bR}{m:dY}(h:pT H)(hm:∀s p,holds m s p (H s p))(i:Nat)(f:dk)(hf:m i=some f):(f.set<=2/\f.path∈P7)\/(f.set=3/\f.path=[]):=
 h f.set f.path (wO (hm f.set f.path) hf rfl)
theorem eg.slots {H:bR}{m:dY}(h:eg H)(hm:∀s p,holds m s p (H s p)):Seven m:=fun i f hf=>h f.set f.path (wO (hm f.set f.path) hf rfl)
theorem Rp {L:List UInt8}{n:Nat}{m:dY}(h:nj L n m)(h8:∀i f,m i=some f->(f.set<=2/\f.path∈P7)\/(f.set=3/\f.path=[])):(kF n m).length<=22:=by
 have h3:=qz ((kF n m).map nameOf) (((List.range 3).flatMap fun s=>P7.map fun p=>(s,p))++[(3,[])]) h.nodup fun a ha=>by
  obtain⟨f,hf,e⟩:=List.mem_map.1 ha;obtain⟨i,hi⟩:=h.mem.1 hf;rw[<-e,List.mem_append];rcases h8 i f hi with⟨q1,q2⟩|⟨q1,q2⟩
  .left
   rw[List.mem_flatMap];exact⟨f.set,List.mem_range.2 (by omega),List.mem_map.2 ⟨f.path,q2,rfl⟩⟩
  .right
   simp[nameOf,q1,q2]
 rw[List.length_map] at h3;have:(((List.range 3).flatMap fun s=>P7.map fun p=>(s,p))++[(3,([]:List UInt8))]).length=22:=by rfl
 omega
theorem UC {L:List UInt8}{n:Nat}{m:dY}(h:nj L n m)(h8:∀i f,m i=some f->(f.set<=2/\f.path∈P7)\/(f.set=3/\f.path=[]))(hn:22<aN n):∃i,i<aN n/\m i=none:=by
 by_cases hx:∃i,i<aN n/\m i=none
 .exact hx
 .exfalso
  have h1:(kF n m).length=aN n:=by
   have h2:∀l:List Nat,(∀i∈l,i<aN n)->(l.filterMap m).length=l.length:=by
    intro l
    induction l with
    |nil=>intro _;rfl
    |cons a l ih=>
     intro hl;have ha:=hl a List.mem_cons_self;cases hm:m a with
     |none=>exact absurd ⟨a,ha,hm⟩ hx
     |some f=>rw[List.filterMap_cons_some hm,List.length_cons,List.length_cons,ih fun i hi=>hl i (List.mem_cons_of_mem _ hi)]
   unfold kF;rw[h2 _ fun i hi=>List.mem_range.1 hi,List.length_range]
  have:=Rp h h8;omega
section
variable {L:List UInt8}{n:Nat}{H:bR}{x:DS}
theorem Has.content (h:Has x.aM n H)(hw:x.waiting=[])(s:Nat)(p:List UInt8):x.content n s (aF p)=H s p:=by
 obtain⟨m,hr,hm⟩:=h;exact BS hr hw (hm s p)
theorem uY (h:Has L n H)(h8:pT H)(hn:22<aN n)(s:Nat)(p c:List UInt8)(hs:iS s p=true)(hc:c.length<=96):
  ∃L',Has L' n (fj H s p (some c))/\∀a,(DS.calm L a).put n s (aF p) (aF c)=(DS.calm L' (a+5),.int .i64 0):=by
 obtain⟨m,hr,hm⟩:=h;have hln:=oT n;obtain⟨i,hi,hfi,hmi⟩:=Ko (x:=DS.fresh L) hr rfl (UC hr (h8.slots (L:=L) (n:=n) hm) hn);have hn2:=If n i hi;obtain⟨o,ho,ho0,ho1,hom,hox⟩:=owner hr s p;have hoi:o≠i:=by
  intro e;obtain⟨g,hg,_⟩:=hox (by omega);rw[e] at hg;simp only[Int.toNat_natCast] at hg;rw[hmi] at hg;cases hg
 let f:dk:=⟨s,p,c⟩
 have hfg:iS f.set f.path=true/\f.content.length<=96:=⟨hs,hc⟩
 have hpl:f.path.length<=8:=(wn hfg.1).1;generalize hrr:cO f.set f.path f.content=r;have hrl:r.length=128:=by rw[<-hrr];exact Pn _ _ _ hpl hc
 have h0:=CK r hrl 0 (by omega);have h1:=CK r hrl 1 (by omega);generalize hA:bI L ((1+2*i:Nat),half r 0)=A;have rA:nj A n m:=by rw[<-hA];exact hr.loose (by omega) (by omega) h0 (wW hmi (.inl rfl))
 generalize hB:bI A ((2+2*i:Nat),half r 1)=B;have rB:nj B n m:=by rw[<-hB];exact rA.loose (by omega) (by omega) h1 (wW hmi (.inr rfl))
 have RJ:D3 L i r=B:=by unfold D3;rw[hA,hB]
 have hroot:seenIn (D3 L i r) [] 0=ej n m:=by rw[RJ,<-rB.root];rfl
 have hnew:aZ (ej n m) i o=ej n (after m i f o):=Am m i (by omega) f o ⟨ho0,ho1⟩;have sA:∀j,jX A j=if j=1+2*i then half r 0 else jX L j:=fun j=>by rw[<-hA];exact jx L n hr.len _ (by omega) _ h0 j
 have sB:∀j,jX B j=if j=2+2*i then half r 1 else jX A j:=fun j=>by rw[<-hB];exact jx A n rA.len _ (by omega) _ h1 j
 have abi:jX B (1+2*i)++jX B (2+2*i)=cO f.set f.path f.content:=by
  rw[sB,sB,if_neg (by omega),if_pos rfl,sA,if_pos rfl,halves r hrl,hrr]
 have rC:=rB.put hi abi hfg fun j g hg e=>hom j g hg e
 refine⟨_,⟨_,rC,fun s' p'=>?_⟩,fun a=>?_⟩
 .unfold fj
  by_cases e:s'=s/\p'=p
  .rw[if_pos e]
   obtain⟨rfl,rfl⟩:=e;refine⟨i,?_⟩;unfold after;rw[ql (by omega)];unfold upd;rw[if_pos rfl]
  .rw[if_neg e]
   have hh:=hm s' p';cases hv:H s' p' with
   |none=>
    rw[hv] at hh;intro j g hg e2;rcases iu hg with⟨rfl,rfl⟩|⟨_,q,_⟩
    .unfold nameOf at e2
     simp only[Prod.mk.injEq] at e2;exact e ⟨e2.1.symm,e2.2.symm⟩
    .exact hh j g q e2
   |some v=>
    rw[hv] at hh;obtain⟨j,hj⟩:=hh;have hji:j≠i:=fun e2=>by subst e2;rw[hmi] at hj;cases hj
    refine⟨j,?_⟩;unfold after;rw[ql ?_]
    .unfold upd
     rw[if_neg hji];exact hj
    .by_cases hoj:o=-1
     .exact .inl hoj
     .right
      refine⟨by omega,fun e2=>?_⟩;obtain⟨g,hg,hgn⟩:=hox hoj;rw[e2] at hg;simp only[Int.toNat_natCast] at hg;rw[hj] at hg;cases hg;unfold nameOf at hgn;simp only[Prod.mk.injEq] at hgn;exact e ⟨hgn.1,hgn.2⟩
 .have henc:cO s (aF p).data.toList (aF c).data.toList=r:=hrr
  have hfx:dQ (DS.calm L a) n=i:=by
   rw[CO _ n rfl,<-hfi,CO (DS.fresh L) n rfl];rfl
  have:=Kv L a 0 0 n s (aF p) (aF c) i o (ej n m) r henc hfx (ho (DS.calm L a) rfl rfl) hroot;rw[RJ,hnew] at this;exact this
theorem qe (h:Has L n H)(s:Nat)(p:List UInt8)(hs:H s p≠none):
  ∃L',Has L' n (fj H s p none)/\∀a,(DS.calm L a).remove n s (aF p)=(DS.calm L' (a+2),.int .i64 0):=by
 obtain⟨m,hr,hm⟩:=h;obtain⟨o,ho,ho0,ho1,hom,hox⟩:=owner hr s p;have hne:o≠-1:=by
  have hh:=hm s p;cases hv:H s p with
  |none=>exact absurd hv hs
  |some v=>
   rw[hv] at hh;obtain⟨j,hj⟩:=hh;have:=hom j _ hj rfl;omega
 have rC:=hr.dropped o;refine⟨_,⟨_,rC,fun s' p'=>?_⟩,fun a=>?_⟩
 .unfold fj
  by_cases e:s'=s/\p'=p
  .rw[if_pos e]
   obtain⟨rfl,rfl⟩:=e;intro j g hg e2;obtain⟨q1,q2⟩:=fH hg;have:=hom j g q1 e2;have:=q2 (by omega);omega
  .rw[if_neg e]
   have hh:=hm s' p';cases hv:H s' p' with
   |none=>
    rw[hv] at hh;intro j g hg e2;exact hh j g (fH hg).1 e2
   |some v=>
    rw[hv] at hh;obtain⟨j,hj⟩:=hh;refine⟨j,?_⟩;rw[ql ?_]
    .exact hj
    .right
     refine⟨by omega,fun e2=>?_⟩;obtain⟨g,hg,hgn⟩:=hox hne;rw[e2] at hg;simp only[Int.toNat_natCast] at hg;rw[hj] at hg;cases hg;unfold nameOf at hgn;simp only[Prod.mk.injEq] at hgn;exact e ⟨hgn.1,hgn.2⟩
 .have hroot:seenIn L [] 0=ej n m:=by rw[<-hr.root];rfl
  have:=BX L a 0 0 n s (aF p) o (ej n m) (ho (DS.calm L a) rfl rfl) hne hroot;rw[yg m o ⟨ho0,ho1⟩] at this;exact this
theorem Hg (H:bR)(s:Nat)(p:List UInt8):fj H s p (H s p)=H:=by
 funext s' p'
 unfold fj;split
 .rename_i e;rw[e.1,e.2]
 .rfl
theorem pT.set {H:bR}(h:pT H){s:Nat}{p:List UInt8}(hs:(s<=2/\p∈P7)\/(s=3/\p=[]))(r:Option (List UInt8)):pT (fj H s p r):=fun s' p' hn=>by
 unfold fj at hn;split at hn
 .rename_i e;rw[e.1,e.2];exact hs
 .exact h s' p' hn
theorem eg.eight {H:bR}(h:eg H):pT H:=fun s p hn=> .inl (h s p hn)
end
theorem AT {s:Nat}{p:List UInt8}(hs:s<=2)(hp:p∈P7):iS s p=true:=by
 obtain⟨k,hk,rfl⟩:=Ei.1 hp;exact Ea k hk s hs
theorem QW {p:List UInt8}(hp:p∈P7):cE p=true:=by
 have h:=AT (s:=0) (by omega) hp;unfold iS at h;simpa using h
def kI (H:bR):List dg->bR
 |[]=>H
 |w::r=>kI (fj H w.set w.path w.becomes) r
def okW (H:bR):List dg->Prop
 |[]=>True
 |w::r=>(w.set<=2/\w.path∈P7/\(∀c,w.becomes=some c->c.length<=96)/\(w.becomes=none->H w.set w.path≠none))/\okW (fj H w.set w.path w.becomes) r
theorem xE (H:bR)(a b:List dg):kI H (a++b)=kI (kI H a) b:=by
 induction a generalizing H with
 |nil=>rfl
 |cons w r ih=>exact ih _
theorem FN (H:bR)(a b:List dg):okW H (a++b)↔okW H a/\okW (kI H a) b:=by
 induction a generalizing H with
 |nil=>simp[okW,kI]
 |cons w r ih=>
  constructor
  .rintro⟨x,y⟩
   exact⟨⟨x,((ih _).1 y).1⟩,((ih _).1 y).2⟩
  .rintro⟨⟨x,y⟩,z⟩
   exact⟨x,(ih _).2 ⟨y,z⟩⟩
theorem JE (x:DS):qw (x,Value.int .i64 0).2=0:=rfl
section
variable {n:Nat}
theorem Gf:∀(ws:List dg) {L:List UInt8} {H:bR},Has L n H->pT H->22<aN n->okW H ws->
  ∃L' k,Has L' n (kI H ws)/\pT (kI H ws)/\0<=k/\k<=5*(ws.length:Int)/\∀a,(DS.calm L a).fZ n ws=(DS.calm L' (a+k),.int .i64 0)
 |[],L,H,h,h8,_,_=>⟨L,0,h,h8,by omega,by simp,fun a=>by simp[DS.fZ]⟩
 |w::r,L,H,h,h8,hn,ho=>by
  obtain⟨⟨hs,hp,hc,hx⟩,ho⟩:=ho;have h8':=h8.set (.inl ⟨hs,hp⟩) w.becomes;obtain⟨L1,k1,hL1,hk0,hk1,hw1⟩:∃L1 k1,Has L1 n (fj H w.set w.path w.becomes)/\(0:Int)<=k1/\k1<=5/\∀a,(DS.calm L a).sX n w=(DS.calm L1 (a+k1),.int .i64 0):=by
   unfold DS.sX;cases hb:w.becomes with
   |none=>
    obtain⟨L1,q1,q2⟩:=qe h w.set w.path (hx hb);exact⟨L1,2,q1,by omega,by omega,q2⟩
   |some c=>
    obtain⟨L1,q1,q2⟩:=uY h h8 hn w.set w.path c (AT hs hp) (hc c hb);exact⟨L1,5,q1,by omega,by omega,q2⟩
  obtain⟨L2,k2,hL2,h82,hk2,hk3,hw2⟩:=Gf r hL1 h8' hn ho;refine⟨L2,k1+k2,hL2,h82,by omega,by rw[List.length_cons];omega,fun a=>?_⟩;show(if qw ((DS.calm L a).sX n w).2=0 then((DS.calm L a).sX n w).1.fZ n r else(DS.calm L a).sX n w)=_;rw[hw1 a,if_pos (JE _),hw2,show a+k1+k2=a+(k1+k2) by omega]
def gB (H:bR)(p:List UInt8×Nat):bR:=fun s q=>if q=p.1/\s<=2 then H p.2 p.1 else H s q
theorem Bj {x:DS}{K:bR}(p:List UInt8×Nat)(hp:p.1∈P7)(h2:p.2<=1)(hK:∀s:Nat,s<=2->x.content n s (aF p.1)=K s p.1):okW K (fq x n p)/\kI K (fq x n p)=gB K p:=by
 have c1:=hK (1-p.2) (by omega);have c2:=hK 2 (by omega);have cs:=hK p.2 (by omega);have hl:∀c,K p.2 p.1=some c->c.length<=96:=fun c hc=>rO (cs.trans hc)
 have one:∀(s:Nat) (M:bR),s<=2->s≠p.2->M s p.1=x.content n s (aF p.1)->M p.2 p.1=K p.2 p.1->okW M (dm x n p s)/\kI M (dm x n p s)=fj M s p.1 (K p.2 p.1):=by
  intro s M hs hne hM hMs;have hcs:=hK s hs;unfold dm;rw[cs];split
  .rename_i e
   refine⟨trivial,?_⟩;rw[<-e,<-hM,Hg];rfl
  .rename_i e
   refine⟨⟨⟨hs,hp,hl,fun hn=>?_⟩,trivial⟩,rfl⟩;rw[hM];intro q;exact e (q.trans hn.symm)
 obtain⟨o1,a1⟩:=one (1-p.2) K (by omega) (by omega) c1.symm rfl;obtain⟨o2,a2⟩:=one 2 (fj K (1-p.2) p.1 (K p.2 p.1)) (by omega) (by omega) (by
  unfold fj;rw[if_neg (by omega),c2]) (by
  unfold fj;rw[if_neg (by omega)])
 unfold fq;refine⟨(FN _ _ _).2 ⟨o1,by rw[a1];exact o2⟩,?_⟩;rw[xE,a1,a2]
 funext s q
 unfold gB fj
 by_cases hq:q=p.1
 .subst hq
  by_cases h0:s=2
  .subst h0;simp
  .by_cases h1:s=1-p.2
   .subst h1;simp[h0]
   .by_cases hs:s=p.2
    .subst hs;simp[h0,h1]
    .simp[h0,h1];intro;omega
 .simp[hq]
theorem qh (ss:List (List UInt8×Nat))(K:bR)(s:Nat)(q:List UInt8)(h:∀p∈ss,p.1≠q):ss.foldl gB K s q=K s q:=by
 induction ss generalizing K with
 |nil=>rfl
 |cons p r ih=>
  rw[List.foldl_cons,ih _ fun p' hp'=>h p' (by simp[hp'])];unfold gB;rw[if_neg];exact fun e=>h p (by simp) e.1.symm
theorem kC (ss:List (List UInt8×Nat))(K:bR)(s:Nat)(q:List UInt8)(h:2<s:=by omega):ss.foldl gB K s q=K s q:=by
 induction ss generalizing K with
 |nil=>rfl
 |cons p r ih=>
  rw[List.foldl_cons,ih];unfold gB;rw[if_neg (by omega)]
theorem CP (ss:List (List UInt8×Nat))(K K':bR)(h:∀s q,s<=2->K s q=K' s q)(h1:∀p∈ss,p.2<=1)(s:Nat)(q:List UInt8)(hs:s<=2):ss.foldl gB K s q=ss.foldl gB K' s q:=by
 induction ss generalizing K K' with
 |nil=>exact h s q hs
 |cons p r ih=>
  rw[List.foldl_cons,List.foldl_cons];refine ih _ _ (fun s q hs=>?_) fun p' hp'=>h1 p' (by simp[hp'])
  have:=h1 p (by simp);unfold gB;rw[h p.2 p.1 (by omega),h s q hs]
theorem LG (ss:List (List UInt8×Nat))(K:bR)(hs:ss.Pairwise fun p q=>p.1≠q.1)(h1:∀p∈ss,p.2<=1){p:List UInt8×Nat}(hp:p∈ss)(s:Nat)(h2:s<=2):ss.foldl gB K s p.1=K p.2 p.1:=by
 induction ss generalizing K with
 |nil=>simp at hp
 |cons a r ih=>
  rw[List.pairwise_cons] at hs;rw[List.foldl_cons];rcases List.mem_cons.1 hp with rfl|hp'
  .rw[qh r _ _ _ fun q hq e=>hs.1 q hq e.symm]
   unfold gB;rw[if_pos ⟨rfl,h2⟩]
  .rw[ih _ hs.2 (fun q hq=>h1 q (by simp[hq])) hp']
   unfold gB;rw[if_neg];exact fun e=>hs.1 p hp' e.1.symm
theorem Ff {x:DS}(ss:List (List UInt8×Nat))(K:bR)(hs:ss.Pairwise fun p q=>p.1≠q.1)(h1:∀p∈ss,p.1∈P7/\p.2<=1)(hK:∀p∈ss,∀s:Nat,s<=2->x.content n s (aF p.1)=K s p.1):
  okW K (bD x n ss)/\kI K (bD x n ss)=ss.foldl gB K:=by
 induction ss generalizing K with
 |nil=>exact⟨trivial,rfl⟩
 |cons p r ih=>
  rw[List.pairwise_cons] at hs;obtain⟨o1,a1⟩:=Bj (n:=n) (x:=x) (K:=K) p (h1 p (by simp)).1 (h1 p (by simp)).2 (hK p (by simp));have e:bD x n (p::r)=fq x n p++bD x n r:=rfl;obtain⟨o2,a2⟩:=ih (gB K p) hs.2 (fun q hq=>h1 q (by simp[hq])) fun q hq s hs'=>by
   rw[hK q (by simp[hq]) s hs'];unfold gB;rw[if_neg];exact fun e=>hs.1 q hq e.1.symm
  rw[e,FN,xE,a1,a2];exact⟨⟨o1,o2⟩,rfl⟩
theorem mK:∀(ws:List dg) (f:Int),(ws.length:Int)<f->kE ws f=true
 |[],_,_=>rfl
 |w::r,f,h=>by
  rw[List.length_cons] at h;unfold kE;split
  .exact mK r _ (by omega)
  .rw[if_neg (by omega)]
   split
   .exact mK r _ (by omega)
   .exact mK r _ (by omega)
structure jv (ss:List (List UInt8×Nat)):Prop where
 strict:ss.Pairwise fun p q=>p.1<q.1
 names:∀p∈ss,p.1∈P7/\p.2<=1
theorem jv.ne {ss:List (List UInt8×Nat)}(h:jv ss):ss.Pairwise fun p q=>p.1≠q.1:=h.strict.imp fun {a b} hab e=>by rw[e] at hab;exact absurd hab (List.lt_irrefl _)
theorem jv.ok {ss:List (List UInt8×Nat)}(h:jv ss):oS ss:=fun p hp=>⟨QW (h.names p hp).1,(h.names p hp).2⟩
theorem jv.len {ss:List (List UInt8×Nat)}(h:jv ss):ss.length<=7:=by
 have:=qz (ss.map (·.1)) P7 (List.Pairwise.map _ (fun _ _ h=>h) h.ne) fun a ha=>by
  obtain⟨p,hp,rfl⟩:=List.mem_map.1 ha;exact(h.names p hp).1
 rw[List.length_map] at this;exact Nat.le_trans this (Nat.le_of_eq (by rfl))
variable {L:List UInt8}{H:bR}
theorem xB (h:Has L n H)(h7:eg H)(hn:37<aN n){ss:List (List UInt8×Nat)}(hs:jv ss):
  ∃L',Has L' n (fj H 3 [] (some (dc ss)))/\∀a,(DS.calm L a).begin n ss=(DS.calm L' (a+5),.int .i64 0):=by
 have hl:=hs.len;have hej:(dc ss).length<=63:=by have:=rM ss fun p hpm=>qU (hs.ok p hpm).1;omega
 obtain⟨L',q1,q2⟩:=uY h h7.eight (by omega) 3 [] (dc ss) (by rfl) (by omega);refine⟨L',q1,fun a=>?_⟩;have hfit:pQ (DS.calm L a) n ss ((aN n:Int)-(taken (DS.calm L a) n).length-1)=true:=by
  have ht:(taken (DS.calm L a) n).length<=22:=by
   obtain⟨m,hr,hm⟩:=h;have h1:=sC (x:=DS.calm L a) hr rfl;have h2:=Rp hr (h7.eight.slots (L:=L) (n:=n) hm);rw[<-h1] at h2;unfold bh at h2
   rwa [List.length_map] at h2
  have hw:=iE (DS.calm L a) n ss;unfold pQ;rw[decide_eq_true (by omega),Bool.true_and];exact mK _ _ (by omega)
 unfold DS.begin;rw[hfit,if_neg (by simp)];exact q2 a
theorem Qq (h:Has L n H)(h7:eg H)(hn:37<aN n){ss:List (List UInt8×Nat)}(hs:jv ss)(hne:ss≠[]):
  ∃L' k,Has L' n (ss.foldl gB H)/\eg (ss.foldl gB H)/\(0:Int)<=k/\k<=80/\(∀a,(DS.calm L a).xg n ss=(DS.calm L' (a+k),.int .i64 0))/\
   ∀a,((DS.calm L a).begin n ss).1.content n 3 ⟨#[]⟩=some (dc ss):=by
 have hl:=hs.len;obtain⟨L1,q1,q2⟩:=xB h h7 hn hs;have h8:pT (fj H 3 [] (some (dc ss))):=h7.eight.set (.inr ⟨rfl,rfl⟩) _;have hset:∀s p,s<=2->fj H 3 [] (some (dc ss)) s p=H s p:=fun s p hs=>by unfold fj;rw[if_neg (by omega)]
 obtain⟨o1,a1⟩:=Ff (n:=n) (x:=DS.calm L1 0) ss (fj H 3 [] (some (dc ss))) hs.ne hs.names fun p hp s hs'=>Has.content (x:=DS.calm L1 0) q1 rfl s p.1
 have hcalm:∀a,bD (DS.calm L1 a) n ss=bD (DS.calm L1 0) n ss:=fun a=>by
  have hc:∀(s:Nat) p,(DS.calm L1 a).content n s (aF p)=(DS.calm L1 0).content n s (aF p):=fun s p=>(Has.content (x:=DS.calm L1 a) q1 rfl s p).trans (Has.content (x:=DS.calm L1 0) q1 rfl s p).symm
  have hw:fq (DS.calm L1 a) n=fq (DS.calm L1 0) n:=by
   funext p
   unfold fq dm;simp only[hc]
  unfold bD;rw[hw]
 obtain⟨L2,k2,r1,r2,r3,r4,r5⟩:=Gf _ q1 h8 (by omega) o1;rw[a1] at r1 r2;have hj:ss.foldl gB (fj H 3 [] (some (dc ss))) 3 []=some (dc ss):=by
  rw[kC _ _ _ _];unfold fj;rw[if_pos ⟨rfl,rfl⟩]
 obtain⟨L3,t1,t2⟩:=qe r1 3 [] (by rw[hj];simp);have hfin:fj (ss.foldl gB (fj H 3 [] (some (dc ss)))) 3 [] none=ss.foldl gB H:=by
  funext s p
  unfold fj
  by_cases e:s=3/\p=[]
  .rw[if_pos e,kC _ _ _ _]
   cases hv:H s p with
   |none=>rfl
   |some v=>have:=(h7 s p (by rw[hv];simp)).1;omega
  .rw[if_neg e]
   by_cases h2:s<=2
   .exact CP ss _ _ (fun s q hs=>by rw[if_neg (by omega)]) (fun p hp=>(hs.names p hp).2) s p h2
   .rw[kC _ _ _ _,kC _ _ _ _,if_neg e]
 rw[hfin] at t1;have hlw:=iE (DS.calm L1 0) n ss;refine⟨L3,5+k2+2,t1,?_,by omega,by omega,fun a=>?_,fun a=>?_⟩
 .intro s p hsp
  rw[<-hfin] at hsp;unfold fj at hsp;split at hsp
  .exact absurd rfl hsp
  .rename_i e
   rcases r2 s p hsp with q|q
   .exact q
   .exact absurd q e
 .unfold DS.xg
  rw[if_neg hne,q2 a,if_pos (JE _)];show DS.rK (DS.calm L1 (a+5)) n ss=_;unfold DS.rK;rw[hcalm,r5,if_pos (JE _)];show DS.remove (DS.calm L2 (a+5+k2)) n 3 ⟨#[]⟩=_;have:=t2 (a+5+k2);rw[show a+5+k2+2=a+(5+k2+2) by omega] at this;exact this
 .rw[q2 a]
  have:=Has.content (x:=DS.calm L1 (a+5)) q1 rfl 3 [];rw[show fj H 3 [] (some (dc ss)) 3 []=some (dc ss) by unfold fj;rw[if_pos ⟨rfl,rfl⟩]] at this;exact this
end
theorem tn {a b:List UInt8}(h:aF a=aF b):a=b:=by simpa [aF] using h
def Gk (set:Int):(ByteArray->Option ByteArray)->dk->ByteArray->Option ByteArray:=fun g f=>if(f.set:Int)=set then fun s=>if s=aF f.path then some (aF f.content) else g s else g
theorem qf (set:Int)(p:List UInt8):∀(fs:List dk) (g:ByteArray->Option ByteArray),(∀f∈fs,(f.set:Int)=set->f.path≠p)->fs.foldl (Gk set) g (aF p)=g (aF p)
 |[],_,_=>rfl
 |f::r,g,h=>by
  rw[List.foldl_cons,qf set p r _ fun f' hf'=>h f' (by simp[hf'])];unfold Gk;split
  .rename_i e
   exact if_neg fun q=>h f (by simp) e (tn q).symm
  .rfl
theorem CL (set:Nat):∀(fs:List dk) (g:ByteArray->Option ByteArray),(fs.map nameOf).Nodup->∀f∈fs,f.set=set->fs.foldl (Gk set) g (aF f.path)=some (aF f.content)
 |[],_,_,f,hf,_=>by simp at hf
 |a::r,g,hn,f,hf,hs=>by
  rw[List.map_cons,List.nodup_cons] at hn;rw[List.foldl_cons];rcases List.mem_cons.1 hf with rfl|hf
  .rw[qf set f.path r _ fun f' hf' e1 e2=>hn.1 (List.mem_map.2 ⟨f',hf',by unfold nameOf;rw[e2,hs,show f'.set=set by omega]⟩)]
   unfold Gk;rw[if_pos (by omega),if_pos rfl]
  .exact CL set r _ hn.2 f hf hs
section
variable {L:List UInt8}{n:Nat}{H:bR}{x:DS}
theorem Gn (h:Has x.aM n H)(hw:x.waiting=[])(s:Nat)(l:List UInt8):pP s (bh x n) (aF l)=(H s l).map aF:=by
 obtain⟨m,hr,hm⟩:=h;rw[sC hr hw];have hh:=hm s l;cases hv:H s l with
 |none=>
  rw[hv] at hh;refine qf _ l _ _ fun f hf e1 e2=>?_
  obtain⟨i,hi⟩:=hr.mem.1 hf;exact hh i f hi (by unfold nameOf;rw[e2,show f.set=s by omega])
 |some c=>
  rw[hv] at hh;obtain⟨i,hi⟩:=hh;exact CL s _ _ hr.nodup ⟨s,l,c⟩ (hr.mem.2 ⟨i,hi⟩) rfl
def EI (H:bR)(s:Nat)(l:List UInt8):Option (Bool×ByteArray):=if H s l=H 2 l then none else some (match H s l with|some c=>(true,aF c)|none=>(false,⟨#[]⟩))
theorem Cp {a b:Option (List UInt8)}:a.map aF=b.map aF↔a=b:=by
 constructor
 .intro h
  cases a<;>cases b<;>simp at h
  .rfl
  .rw[tn h]
 .rintro rfl;rfl
theorem u9 (h:Has x.aM n H)(hw:x.waiting=[])(s:Nat)(l:List UInt8):gy x n s (aF l)=EI H s l:=by
 unfold gy aI.jC EI;have h2:=Gn h hw 2 l;rw[show((2:Nat):Int)=2 from rfl] at h2;rw[Gn h hw s l,h2]
 by_cases e:H s l=H 2 l
 .rw[if_pos e,if_pos (Cp.2 e)]
 .rw[if_neg e,if_neg fun q=>e (Cp.1 q)]
  cases H s l<;>rfl
def xZ (H:bR)(l:List UInt8):Option Nat:=if H 0 l=H 2 l then some 1 else if H 1 l=H 2 l then some 0 else if H 0 l=H 1 l then some 0 else none
theorem NY (H:bR)(l:List UInt8):kd (EI H 0 l) (EI H 1 l)=xZ H l:=by
 unfold EI xZ
 by_cases e0:H 0 l=H 2 l
 .rw[if_pos e0,if_pos e0]
  cases (if H 1 l=H 2 l then none else some (match H 1 l with|some c=>(true,aF c)|none=>(false,⟨#[]⟩):Bool×ByteArray))<;>rfl
 .rw[if_neg e0,if_neg e0]
  by_cases e1:H 1 l=H 2 l
  .rw[if_pos e1,if_pos e1];rfl
  .rw[if_neg e1,if_neg e1]
   by_cases e:H 0 l=H 1 l
   .rw[if_pos e,<-e]
    exact if_pos rfl
   .rw[if_neg e]
    refine if_neg fun q=>e ?_
    cases h0:H 0 l<;>cases h1:H 1 l<;>rw[h0,h1] at q<;>simp at q;rw[tn q]
theorem NZ {l:List UInt8}{q:Nat}(h:xZ H l=some q):q<=1:=by
 unfold xZ at h;split at h
 .cases h;omega
 .split at h
  .cases h;omega
  .split at h
   .cases h;omega
   .cases h
theorem G3 {l:List UInt8}(h0:H 0 l=H 2 l)(_:H 1 l=H 2 l):xZ H l=some 1:=by unfold xZ;rw[if_pos h0]
def jP (H:bR):bR:=fun s p=>if s<=2 then(match xZ H p with|some q=>H q p|none=>H s p) else H s p
def gh (H:bR)(ps:List (List UInt8)):List (List UInt8×Nat):=ps.filterMap fun l=>(xZ H l).map fun s=>(l,s)
def xo (H:bR)(ps:List (List UInt8)):List (List UInt8):=ps.filter fun l=>(xZ H l).isNone
def jl (H:bR)(ps:List (List UInt8)):Prop:=ps.Pairwise (·<·)/\∀l,l∈ps↔(H 0 l≠H 2 l\/H 1 l≠H 2 l)
theorem sI (h:Has x.aM n H)(hw:x.waiting=[]){ps:List (List UInt8)}(hP:sa x n ps):jl H ps:=by
 obtain⟨h1,h2,h3⟩:=hP;refine⟨yN h1 h2,fun l=>?_⟩;rw[h3,Mv];have f0:=u9 h hw 0 l;have f1:=u9 h hw 1 l;rw[show((0:Nat):Int)=0 from rfl] at f0;rw[show((1:Nat):Int)=1 from rfl] at f1;rw[f0,f1];have one:∀s,EI H s l≠none↔H s l≠H 2 l:=fun s=>by
  unfold EI
  by_cases e:H s l=H 2 l
  .rw[if_pos e];simp[e]
  .rw[if_neg e];simp[e]
 rw[one,one]
theorem sm (h:Has x.aM n H)(hw:x.waiting=[])(ps:List (List UInt8)):eD x n ps=gh H ps/\lh x n ps=xo H ps:=by
 have f0:=fun l=>u9 h hw 0 l
 have f1:=fun l=>u9 h hw 1 l
 simp only[show((0:Nat):Int)=0 from rfl] at f0;simp only[show((1:Nat):Int)=1 from rfl] at f1;unfold eD lh ij jk gh xo;simp only[f0,f1,NY];exact⟨trivial,trivial⟩
theorem vv (h7:eg H){ps:List (List UInt8)}(hP:jl H ps):jv (gh H ps):=by
 refine⟨?_,fun p hp=>?_⟩
 .unfold gh
  refine List.Pairwise.filterMap _ (fun a b hab p hp q hq=>?_) hP.1;obtain⟨_,_,rfl⟩:=Option.map_eq_some_iff.1 hp;obtain⟨_,_,rfl⟩:=Option.map_eq_some_iff.1 hq;exact hab
 .unfold gh at hp
  obtain⟨l,hl,e⟩:=List.mem_filterMap.1 hp;obtain⟨q,hq,rfl⟩:=Option.map_eq_some_iff.1 e;refine⟨?_,NZ hq⟩;show l∈P7;have h1:=(hP.2 l).1 hl
  by_cases e2:H 2 l=none
  .rcases h1 with h1|h1
   .exact(h7 0 l fun q=>h1 (q.trans e2.symm)).2
   .exact(h7 1 l fun q=>h1 (q.trans e2.symm)).2
  .exact(h7 2 l e2).2
theorem vn (h7:eg H){ps:List (List UInt8)}(hP:jl H ps):(gh H ps).foldl gB H=jP H:=by
 have hok:=vv h7 hP
 funext s p
 unfold jP
 by_cases h2:s<=2
 .rw[if_pos h2]
  by_cases hp:p∈ps
  .cases hs:xZ H p with
   |some q=>
    have hm:(p,q)∈gh H ps:=List.mem_filterMap.2 ⟨p,hp,by rw[hs];rfl⟩;exact LG _ H hok.ne (fun a ha=>(hok.names a ha).2) hm s h2
   |none=>
    refine qh _ H s p fun a ha e=>?_
    obtain⟨l,hl,e1⟩:=List.mem_filterMap.1 ha;obtain⟨q,hq,rfl⟩:=Option.map_eq_some_iff.1 e1;have e:l=p:=e;rw[e,hs] at hq;cases hq
  .have hnp:=fun q=>hp ((hP.2 p).2 q)
   have e0:H 0 p=H 2 p:=Classical.byContradiction fun q=>hnp (.inl q)
   have e1:H 1 p=H 2 p:=Classical.byContradiction fun q=>hnp (.inr q)
   rw[G3 e0 e1];rw[qh _ H s p fun a ha e=>?_]
   .show H s p=H 1 p
    rcases(by omega:s=0\/s=1\/s=2) with rfl|rfl|rfl
    .rw[e0,e1]
    .rfl
    .rw[e1]
   .obtain⟨l,hl,e1⟩:=List.mem_filterMap.1 ha
    obtain⟨q,hq,rfl⟩:=Option.map_eq_some_iff.1 e1;exact hp (e▸hl)
 .rw[if_neg h2]
  exact kC _ _ _ _
theorem yB (h:Has L n H)(h7:eg H)(hn:37<aN n){ss:List (List UInt8×Nat)}(hs:jv ss)(a:Int):((DS.calm L a).begin n ss).1.content n 3 ⟨#[]⟩=some (dc ss):=by
 obtain⟨L1,q1,q2⟩:=xB h h7 hn hs;rw[q2 a];have:=Has.content (x:=DS.calm L1 (a+5)) q1 rfl 3 [];rw[show fj H 3 [] (some (dc ss)) 3 []=some (dc ss) by unfold fj;rw[if_pos ⟨rfl,rfl⟩]] at this;exact this
theorem NP (h:Has L n H)(h7:eg H)(hn:37<aN n)(a:Int)(h0:0<=a)(h1:a<=900000000):AR (DS.calm L a) n:=by
 refine⟨rfl,fun _=>oh L a 105 h0,fun ps hP=>?_⟩;have RP:=sI (x:=DS.calm L a) h rfl hP;rw[(sm (x:=DS.calm L a) h rfl ps).1];have hok:=vv h7 RP;exact⟨hok.len,hok.ok,fun _=>yB h h7 hn hok a⟩
theorem Cl (h:Has L n H)(h7:eg H)(a:Int):ye (DS.calm L a) n=0:=by
 obtain⟨m,hr,hm⟩:=h;have:=nU (x:=DS.calm L a) hr rfl (h7.slots hm);unfold ye;rw[this];rfl
theorem yM (h:Has L n H)(h7:eg H)(hn:37<aN n){ps:List (List UInt8)}(hP:jl H ps):
  ∃L' k,Has L' n (jP H)/\eg (jP H)/\(0:Int)<=k/\k<=80/\(∀a,(DS.calm L a).xg n (gh H ps)=(DS.calm L' (a+k),.int .i64 0))/\(gh H ps=[]->L'=L/\k=0):=by
 by_cases he:gh H ps=[]
 .have hf:=vn h7 hP
  rw[he] at hf;have hf:H=jP H:=hf;refine⟨L,0,hf▸h,hf▸h7,by omega,by omega,fun a=>?_,fun _=>⟨rfl,rfl⟩⟩;unfold DS.xg;rw[if_pos he,Int.add_zero]
 .obtain⟨L',k,q1,q2,q3,q4,q5,_⟩:=Qq h h7 hn (vv h7 hP) he
  rw[vn h7 hP] at q1 q2;exact⟨L',k,q1,q2,q3,q4,q5,fun e=>absurd e he⟩
end
theorem vp:∀{a b:List (List UInt8)},a.Pairwise (·<·)->b.Pairwise (·<·)->(∀x,x∈a↔x∈b)->a=b
 |[],[],_,_,_=>rfl
 |[],y::_,_,_,h=>absurd ((h y).2 (by simp)) (by simp)
 |x::_,[],_,_,h=>absurd ((h x).1 (by simp)) (by simp)
 |x::a,y::b,ha,hb,h=>by
  rw[List.pairwise_cons] at ha hb;have hxy:x=y:=by
   rcases List.mem_cons.1 ((h x).1 (by simp)) with e|hx
   .exact e
   .rcases List.mem_cons.1 ((h y).2 (by simp)) with e|hy
    .exact e.symm
    .exact absurd (List.lt_trans (ha.1 y hy) (hb.1 x hx)) (List.lt_irrefl _)
  subst hxy;rw[vp ha.2 hb.2 fun z=>?_];constructor
  .intro hz
   rcases List.mem_cons.1 ((h z).1 (by simp[hz])) with rfl|q
   .exact absurd (ha.1 z hz) (List.lt_irrefl _)
   .exact q
  .intro hz
   rcases List.mem_cons.1 ((h z).2 (by simp[hz])) with rfl|q
   .exact absurd (hb.1 z hz) (List.lt_irrefl _)
   .exact q
section
variable {H:bR}{l:List UInt8}{ps ps':List (List UInt8)}
theorem jl.uniq (h:jl H ps)(h':jl H ps'):ps=ps':=vp h.1 h'.1 fun x=>(h.2 x).trans (h'.2 x).symm
end
end
end
end Go.Proofs.YtchcmhodnkgojaaGreat
