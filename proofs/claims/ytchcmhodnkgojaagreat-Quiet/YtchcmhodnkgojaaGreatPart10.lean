/- On the way to the last text; put together and shortened by program. -/
import Derived.Test.YtchcmhodnkgojaaGreatPart9
import Derived.Handy
import Derived.Lib.AppendStr
import Derived.Sort.Walk0
import Derived.Laws.ResultCell
import Derived.BigQuiet
set_option linter.all false
set_option maxRecDepth 100000
set_option maxHeartbeats 8000000
namespace Go.Proofs.YtchcmhodnkgojaaGreat
noncomputable section
section
open Go.RowKit Go.Lib Go.Sort
structure eO (S:List Nat)(w w':World):Prop where
 os:w'.os=w.os
 size:w.heap.size<=w'.heap.size
 block:∀k,k<w.heap.size->k∉S->w'.heap[k]? =w.heap[k]?
theorem aO.blk {S:List Nat}{w w':World}(h:aO S w w'):eO S w w':=⟨h.os,h.size,h.block⟩
theorem eO.refl (S:List Nat)(w:World):eO S w w:=⟨rfl,Nat.le_refl _,fun _ _ _=>rfl⟩
theorem eO.tape {S:List Nat}{w w':World}(h:eO S w w')(t:Go.Proofs.YtchcmhodnkgojaaGreat.d7)(d:Nat):eO S w (ay w' t d):=⟨h.os,h.size,h.block⟩
theorem eO.trans {S T:List Nat}{w w' w'':World}(h:eO S w w')(h':eO T w' w'')(hs:∀i∈T,i∈S\/w.heap.size<=i:=by simp):eO S w w'':=
 ⟨h'.os.trans h.os,Nat.le_trans h.size h'.size,fun k hk hS=>(h'.block k (Nat.lt_of_lt_of_le hk h.size) fun x=>(hs k x).elim hS fun q=>by omega).trans (h.block k hk hS)⟩
theorem eO.mono {S T:List Nat}{w w':World}(h:eO S w w')(hs:∀i∈S,i∈T\/w.heap.size<=i:=by simp):eO T w w':=⟨h.os,h.size,fun k hk hT=>h.block k hk fun x=>(hs k x).elim hT fun q=>by omega⟩
namespace aH
namespace Sq
theorem tj {E:az.Env}{f:FuncId}{k:List Item}{R:Act->World->Prop}{a:Act}{wL:World}(a':Act)(e:a=a')(h:az.CI E f k R a' wL):az.CI E f k R a wL:=e▸h
def Hh (f:ByteArray->Option Value)(wL:World)(v:Value)(w':World):Prop:=∃ps:List (List UInt8),ps.Pairwise (·<=·)/\ps.Nodup/\(∀l,l∈ps↔f (aB l)≠none)/\eO [] wL w'/\
 ((v= .slice none 0 0/\ps=[])\/∃g cap,v= .slice (some ⟨g,0,none⟩) ps.length cap/\wL.heap.size<=g/\g<w'.heap.size/\Holds encStr w' g 0 ps.toArray)
theorem JN {E:az.Env}{wL:World}{bx:Nat}{f:ByteArray->Option Value}{es:Array MapEntry}(h:az.CC E 134 #[mK bx] (J8 f wL) wL)(hes:∀ks:List ByteArray,ks.Nodup->(∀s,s∈ks↔f s≠none)->ks.length<1000000):
  az.CC E 89 #[mK bx] (Hh f wL) wL:=by
 refine az.mz Tryz.func89 rfl ?_;refine az.eK (az.dZ (eZ _ rfl (.inl rfl) rfl (az.cG ?_)));refine az.eK (az.dZ (eZ _ rfl (.inr rfl) rfl ?_));refine kV (f2:=134) #[.tmp 4] #[mK bx] (R2:=J8 f wL) rfl rfl (by kernel_rfl) (fun b w=>by kernel_rfl) (by kernel_rfl) h fun v w1 hR hsz=>?_
 refine eZ _ rfl (.inl rfl) rfl (az.cG ?_);refine tj {tmps:=#[mK bx,undef,.slice none 0 0,v,mK bx,v,undef,undef,undef],defers:=[]} (by kernel_rfl) ?_;obtain⟨ks,hn,hmem,hv⟩:=hR;have hlen:=hes ks hn hmem;rcases hv with⟨rfl,rfl,t,d,rfl⟩|⟨cap,rfl,hle,t,d,rfl⟩
 .refine az.fo none ⟨_,Tryz.func89⟩ (by kernel_rfl) (by simp) (fun w=>eO [] wL w) (fun w t d h=>h.tape t d) ((eO.refl _ _).tape t d) fun w hI hs=>?_
  go_wp2_with fail;refine(Tryz.slices_Sort_string_none none 0 w).mono ?_;rintro e w6 ⟨rfl,rfl⟩;go_wp2_with fail;exact⟨w6.tape,w6.drawn,.slice none 0 0,by kernel_rfl,[],.nil,.nil,fun l=>by rw[<-hmem];simp,hI,.inl ⟨rfl,rfl⟩⟩
 .obtain⟨qs,hqs⟩:∃qs:List (List UInt8),qs=ks.map fun k=>k.data.toList:=⟨_,rfl⟩
  have hql:qs.length=ks.length:=by rw[hqs];simp
  have hqv:ks.map Value.string=qs.map encStr:=by
   rw[hqs,List.map_map];refine List.map_congr_left fun k _=>?_
   simp[encStr]
  have hqm:∀l,l∈qs↔f (aB l)≠none:=fun l=>by
   rw[hqs,List.mem_map,<-hmem];constructor
   .rintro⟨k,hk,rfl⟩
    simpa [aB] using hk
   .intro hl
    exact⟨aB l,hl,by simp[aB]⟩
  have hqn:qs.Nodup:=by
   rw[hqs];refine List.Pairwise.map _ (fun a b hab he=>hab ?_) hn;have:a.data=b.data:=Array.ext' he;cases a;cases b;simp_all
  have hlt:qs.length<4611686018427387904:=by omega
  rw[<-hql,hqv];clear hqv hql hlen hqs hmem hn;refine az.fo none ⟨_,Tryz.func89⟩ (by kernel_rfl) (by simp) (fun w=>eO [] wL w/\wL.heap.size<w.heap.size/\Holds encStr w wL.heap.size 0 qs.toArray) (fun w t d h=>⟨h.1.tape t d,h.2.1,h.2.2⟩) ⟨?_,?_,?_⟩ fun w hI hs=>?_
  .exact⟨rfl,by simp[ay],fun k hk _=>by show(wL.heap.push _)[k]? =_;rw[Array.getElem?_push_lt hk];exact(Array.getElem?_eq_getElem hk).symm⟩
  .show wL.heap.size<(wL.heap.push _).size
   simp
  .intro j hj
   have hj':j<qs.length:=by simpa using hj
   have hrow:(ay {wL with heap:=wL.heap.push (.cells (qs.map encStr++List.replicate (cap-qs.length) (Value.string ⟨#[]⟩)).toArray aH.jR (0,0))} t d).heap[wL.heap.size]? =some (.cells (qs.map encStr++List.replicate (cap-qs.length) (Value.string ⟨#[]⟩)).toArray aH.jR (0,0)):=by
    show(wL.heap.push _)[wL.heap.size]? =_;simp
   refine⟨?_,Lib.frozen_of_heap hrow _⟩;rw[Lib.cell_of_heap hrow,Nat.zero_add];rw[List.getElem?_toArray,List.getElem?_append_left (by simpa using hj'),getElem!_pos qs.toArray j hj];simp[hj']
  obtain⟨hB,hg,hH⟩:=hI;generalize hgg:wL.heap.size=g at*;go_wp2_with fail;refine(Tryz.slices_Sort_string g 0 cap qs w hH hg hlt).mono ?_;rintro e w6 ⟨rfl,m,os,OA⟩;have hsl:(qs.mergeSort fun x y=>decide (x<=y)).length=qs.length:=List.length_mergeSort _;have hH6:Holds encStr w6 g 0 (qs.mergeSort fun x y=>decide (x<=y)).toArray:=by
   rw[OA];exact holds_grow _ _ _ _ _ _ (by rw[size_putRow];exact hg) (holds_putRow _ _ _ _ _ _ (holds_ahead _ _ _ _ _ _ hH) (by simp))
  have f6:aO [g] w w6:=by
   rw[OA];exact(((pr w m).mono (T:=[g]) (by simp)).trans (mY encStr _ g 0 _) (fun i hi=> .inl hi)).trans (xq _ _)
  have B6:eO [] wL w6:=hB.trans f6.blk (by simp[hgg]);have hg6:g<w6.heap.size:=Nat.lt_of_lt_of_le hg f6.size;have hp:(qs.mergeSort fun x y=>decide (x<=y)).Pairwise (·<=·):=zm;have hn6:(qs.mergeSort fun x y=>decide (x<=y)).Nodup:=(List.mergeSort_perm _ _).nodup_iff.2 hqn;have hm6:∀l,l∈(qs.mergeSort fun x y=>decide (x<=y))↔f (aB l)≠none:=fun l=>by rw[List.mem_mergeSort];exact hqm l
  clear OA f6 hH hB hs;generalize (qs.mergeSort fun x y=>decide (x<=y))=rs at*;go_wp2_with fail;exact⟨w6.tape,w6.drawn,.slice (some ⟨g,0,none⟩) qs.length cap,by kernel_rfl,rs,hp,hn6,hm6,B6,.inr ⟨g,cap,by rw[hsl],by rw[hgg];exact Nat.le_refl _,hg6,hH6⟩⟩
end Sq
end aH
end
section
open Go.RowKit Go.Lib
def kz (a b:Option (Bool×ByteArray)):Option Nat:=match a,b with
 |none,_=>some 1
 |some _,none=>some 0
 |some x,some y=>if x=y then some 0 else none
section
variable {P:Program}{ops:Array Oper}{Q:Exit->Act->World->Prop}{a:Act}{w:World}{rest:List Oper}{o:Oper}
theorem F7 (hw:Region.wanted o (yielded ops a.tmps)=true)(v:Value)(w1:World)(hr:(execOp a.eval o).run P w= .ok (.value v) w1)(h:wpList P ops Q rest (a.put o.dst v) w1):wpList P ops Q (o::rest) a w:=by
 unfold wpList;rw[if_pos hw];refine .inl ?_;unfold Oper.wp;rw[hr];exact h
end
theorem Ih (xb yb:Bool)(xs ys:ByteArray):kz (some (xb,xs)) (some (yb,ys))=if(xb==yb&&xs==ys)=true then some 0 else none:=by
 have e:((xb==yb&&xs==ys)=true)↔(xb,xs)=(yb,ys):=by rw[Bool.and_eq_true,beq_iff_eq,Go.MapKept.bytes_beq,Prod.mk.injEq]
 show(if(xb,xs)=(yb,ys) then some 0 else none)=_
 by_cases h:(xb,xs)=(yb,ys)
 .rw[if_pos h,if_pos (e.2 h)]
 .rw[if_neg h,if_neg fun q=>h (e.1 q)]
theorem PC {w:World}(b1 b2:Bool)(s1 s2:ByteArray):aH.RT (kZ.bin .eql aH.TH (aH.hv b1 s1) (aH.hv b2 s2)).sem w (.value (.bool (b1==b2&&s1==s2))) w #[]:=by
 have hg:Tryz.prog.eqGuardType Tryz.prog.depth aH.TH=false:=by kernel_rfl
 refine aH.RT.aN (x:= .bool (b1==b2&&s1==s2)) (aH.RT.aN (x:=()) (w1:=w) ?_ ?_) (.pure _)
 .unfold eqGuard
  simp only[aH.hv];refine aH.fO.aN (aH.fO.aN ?_);rw[hg];exact .pure _
 .exact aH.RT.aN (aH.zt 9998 b1 b2 s1 s2) (.pure _)
section
variable {ops:Array Oper}{Q:Exit->Act->World->Prop}{a:Act}{w:World}{rest:List Oper}{o:Oper}
theorem ON (hw:Region.wanted o (yielded ops a.tmps)=true)(x y:Nat)(u:TypeId)(ho:o.op= .binOp .eql aH.TH (.tmp x) (.tmp y) u){b1 b2:Bool}{s1 s2:ByteArray}(hx:a.eval (.tmp x)=aH.hv b1 s1)(hy:a.eval (.tmp y)=aH.hv b2 s2)
  (h:wpList Tryz.prog ops Q rest (a.put o.dst (.bool (b1==b2&&s1==s2))) w):wpList Tryz.prog ops Q (o::rest) a w:=by
 refine F7 hw _ w ?_ h;have:=(PC (w:=w) b1 b2 s1 s2).run;unfold execOp;rw[ho];show(do pure (.value (<-(do eqGuard .eql aH.TH (.tmp x) (.tmp y) (a.eval (.tmp x)) (a.eval (.tmp y));binOp .eql aH.TH (a.eval (.tmp x)) (a.eval (.tmp y))))):Sem Next).run _ _=_;rw[hx,hy,oK _ _ _ _ rfl rfl];exact this
theorem BB (hw:Region.wanted o (yielded ops a.tmps)=true)(t:TypeId)(x:Operand)(ho:o.op= .load t x)(b off:Nat)(hx:a.eval x= .pointer (some ⟨b,off,none⟩)){cs:Array Value}{u:TypeId}{f:Nat×Nat}{n:Nat}(hr:w.heap[b]? =some (.cells cs u f))
  (ha:(Tryz.prog.underlying t).map (fun d=>match d with|.struct _|.array _ _=>true|_=>false)=some true) (hn:(Tryz.prog.info? t).map (·.size)=some n) (hle:off+n<=cs.size) (v:Value) (hv:Value.agg (cs.extract off (off+n))=v)
  (h:wpList Tryz.prog ops Q rest (a.put o.dst v) w):wpList Tryz.prog ops Q (o::rest) a w:=by
 obtain⟨ev,h1,_⟩:=aH.jL hr ha hn hle;rw[hv] at h1;refine F7 hw _ w ?_ h;have:=h1.run;unfold execOp;rw[ho];show(do pure (.value (<-Instr.loadAt t (a.eval x))):Sem Next).run _ _=_;rw[hx];exact this
end
theorem Ep (a b:Option (Bool×ByteArray))(w:World):
  Calls Tryz.prog 91 #[.agg (aH.bY a b)] w fun e w'=>e= .returned (.tuple #[.int .i64 ((kz a b).getD 0),.bool (kz a b).isSome])/\aO [] w w':=by
 go_enter Tryz.func91,Tryz.ntmps91;go_wp2_with (with_reducible first|refine bE rfl ?_);refine aj.go (fH rfl 164 _ rfl (.agg (aH.bY a b)) rfl ?_);intro w1 b1 l1 f1 r1;have c0:w1.cell? ⟨b1,0,none⟩=some (.bool a.isSome):=by rw[r1.cell];rfl
 have c1:w1.cell? ⟨b1,1,none⟩=some (.bool b.isSome):=by rw[r1.cell];rfl
 cases a with
 |none=>
  simp only[Option.isSome_none] at c0;go_wp2_with (with_reducible first|refine av 161 rfl ?_|refine dl 161 rfl ?_)
  go_ret2
  exact⟨rfl,f1⟩
 |some x=>
  simp only[Option.isSome_some] at c0;cases b with
  |none=>
   simp only[Option.isSome_none] at c1;go_wp2_with (with_reducible first|refine av 161 rfl ?_|refine dl 161 rfl ?_)
   go_ret2
   exact⟨rfl,f1⟩
  |some y=>
   simp only[Option.isSome_some] at c1;go_wp2_with (with_reducible first|refine av 161 rfl ?_|refine dl 161 rfl ?_);obtain⟨xb,xs⟩:=x;obtain⟨yb,ys⟩:=y;refine aj.go (BB rfl 161 _ rfl b1 2 rfl r1 (by kernel_rfl) (n:=2) (by kernel_rfl) (by simp[aH.bY,Value.cells]) (aH.hv xb xs) (by simp[aH.bY,Value.cells,aH.hv]) ?_)
   go_wp2_with (with_reducible first|refine av 161 rfl ?_|refine dl 161 rfl ?_);refine aj.go (BB rfl 161 _ rfl b1 4 rfl r1 (by kernel_rfl) (n:=2) (by kernel_rfl) (by simp[aH.bY,Value.cells]) (aH.hv yb ys) (by simp[aH.bY,Value.cells,aH.hv]) ?_);go_wp2_with (with_reducible first|refine av 161 rfl ?_|refine dl 161 rfl ?_)
   refine aj.go (ON rfl 15 18 _ rfl (b1:=xb) (b2:=yb) (s1:=xs) (s2:=ys) rfl rfl ?_);have hsrc:=Ih xb yb xs ys;cases heq:(xb==yb&&xs==ys) with
   |true=>
    have hs:Hid (kz (some (xb,xs)) (some (yb,ys))=some 0):=by show _=_;rw[hsrc,heq];rfl
    clear hsrc;go_wp2_with (with_reducible first|refine av 161 rfl ?_|refine dl 161 rfl ?_)
    go_ret2
    exact⟨by rw[hs.out];rfl,f1⟩
   |false=>
    have hs:Hid (kz (some (xb,xs)) (some (yb,ys))=none):=by show _=_;rw[hsrc,heq];rfl
    clear hsrc;go_wp2_with (with_reducible first|refine av 161 rfl ?_|refine dl 161 rfl ?_)
    go_ret2
    exact⟨by rw[hs.out];rfl,f1⟩
end
section
open Go.RowKit Go.Lib Go.Sort
open Go.Conc (base G stepG_value listed)
namespace aH
namespace Sq
abbrev S8:Nat:=90
def Ts (m:Nat)(wL:World)(v:Value)(w':World):Prop:=v=mK wL.heap.size/\∃t d,w'=ay {wL with heap:=wL.heap.push (.cells #[.map (some m)] Og (0,0))} t d
theorem ng {E:az.Env}{f:FuncId}{k:List Item}{R:Act->World->Prop}{a:Act}{wL w1:World}{ops:Array Oper}{i:Nat}{rest:List Nat}{o:Oper}(v:Value)(ho:ops[i]? =some o)(hg:o.guard=none)(hr:∀t d,(execOp a.eval o).run PP (ay wL t d)= .ok (.value v) (ay w1 t d))(h:az.CI E f (.inRegion ops rest::k) R (a.put o.dst v) w1)(sD:lU PP S0 E0 true o=true:=by kernel_rfl):az.CI E f (.inRegion ops (i::rest)::k) R a wL:=by
 refine az.Tc ho sD hg fun t d=>?_
 rw[hr];exact(az.nh t d).2 h
theorem DM {E:az.Env}{f:FuncId}{k:List Item}{R:Act->World->Prop}{a:Act}{wL:World}{ops:Array Oper}{i:Nat}{rest:List Nat}{o:Oper}(g j:Nat)(ho:ops[i]? =some o)(hg:o.guard=none)(hop:o.op= .makeFunc (.func g) #[] #[.tmp j])
  (h:az.CI E f (.inRegion ops rest::k) R (a.put o.dst (.func (.func g) #[] #[a.eval (.tmp j)])) wL):az.CI E f (.inRegion ops (i::rest)::k) R a wL:=fun CS π M tr hp ha hd hk=>by
 have hwd:∀c:Array Value,Region.wanted o (yielded ops c)=true:=fun c=>by simp[Region.wanted,hg]
 have hkb:(base f).kind≠.early:=by simp[base]
 have hv:VV (gB E.H wL) (a.eval (.tmp j)):=lC (x:= .tmp j) ha rfl;have hr:∀w es,(execOp (bg π a []).eval o).runT PP w es=(.ok (.value (.func (.func g) #[] #[(bg π a []).eval (.tmp j)])) w,es):=fun w es=>by
  unfold execOp;rw[hop];show(do pure (.value (<-Instr.makeFunc (.func g) ((#[]:Array Operand).map (bg π a []).eval) ((#[.tmp j]:Array Operand).map (bg π a []).eval))):Sem Next).runT PP w es=_;rw[show(#[]:Array Operand).map (bg π a []).eval=#[] by simp,show(#[.tmp j]:Array Operand).map (bg π a []).eval=#[(bg π a []).eval (.tmp j)] by simp];rfl
 have hl0:∀w,listed PP (base f).fn (bg π a []) o w=#[]:=fun w=>by
  unfold listed;rw[show(execOp (bg π a []).eval o).events PP w #[]=#[] from congrArg Prod.snd (hr w #[])];simp[seen]
 refine az.eA hp (fun w=>by rw[stepG_value ho (hwd _) hkb (by rw[<-Sem.runT_fst PP _ w #[],hr]),hl0]) fun M1 Hz hp1=>?_
 have e:(bg π a []).put o.dst (.func (.func g) #[] #[(bg π a []).eval (.tmp j)])=bg π (a.put o.dst (.func (.func g) #[] #[a.eval (.tmp j)])) []:=by
  have h1:=ry (π:=π) a o.dst (.func (.func g) #[] #[a.eval (.tmp j)]);have h2:Value.ren π (.func (.func g) #[] #[a.eval (.tmp j)])= .func (.func g) #[] #[(bg π a []).eval (.tmp j)]:=by
   have h3:(bg π a []).eval (.tmp j)=Value.ren π (a.eval (.tmp j)):=by
    show(a.tmps.map (Value.ren π)).getD j undef=_;rw[jO];rfl
   rw[h3];simp[ou]
  rw[<-h2];exact h1
 rw[e] at hp1;refine h CS π M1 Hz hp1 (ju ha fun r hr=>?_) ((put_defers _ _ _).trans hd) hk;cases hr with
 |first hx _=>simp at hx
 |FL hx hh=>
  simp at hx;subst hx;exact hv r hh
theorem RD {E:az.Env}{wL:World}(m:Nat):az.CC E S8 #[.map (some m)] (Ts m wL) wL:=by
 refine az.mz Tryz.func90 rfl ?_;refine az.eK (az.dZ (ng (w1:={wL with heap:=wL.heap.push (.cells #[.map (some m)] Og (0,0))}) (pb wL.heap.size) rfl rfl (fun t d=>by kernel_rfl) ?_));refine eZ _ rfl (.inl rfl) rfl (az.cG ?_);refine az.eK (az.dZ (DM S7 1 rfl rfl rfl ?_))
 refine eZ _ rfl (.inl rfl) rfl (az.cG (az.FE ?_));exact⟨mK wL.heap.size,by kernel_rfl,rfl,wL.tape,wL.drawn,rfl⟩
end Sq
end aH
def gU (x:DS)(n:Nat)(s:Int):aH.iK:=aH.jP (p8 s (aQ x n)) (p8 2 (aQ x n))
def ir (fa fb:aH.iK)(ps:List (List UInt8)):List (List UInt8×Nat):=ps.filterMap fun l=>(kz (fa (aB l)) (fb (aB l))).map fun s=>(l,s)
def jA (fa fb:aH.iK)(ps:List (List UInt8)):List (List UInt8):=ps.filter fun l=>(kz (fa (aB l)) (fb (aB l))).isNone
def cz (ss:List (List UInt8×Nat)):List Value:=ss.flatMap fun p=>[.string (aB p.1),.int .i64 p.2]
theorem G1 (set:Int)(fs:List cX)(s:ByteArray)(h:p8 set fs s≠none):∃f∈fs,s=aB f.path:=by
 have key:∀(fs:List cX) (g:ByteArray->Option ByteArray),fs.foldl (fun g f=>if(f.set:Int)=set then fun s=>if s=aB f.path then some (aB f.content) else g s else g) g s≠none->(∃f∈fs,s=aB f.path)\/g s≠none:=by
  intro fs
  induction fs with
  |nil=>intro g h;exact .inr h
  |cons f fs ih=>
   intro g h;rcases ih _ h with⟨x,hx,e⟩|h
   .exact .inl ⟨x,by simp[hx],e⟩
   .dsimp only at h
    by_cases hs:(f.set:Int)=set
    .rw[if_pos hs] at h
     by_cases he:s=aB f.path
     .exact .inl ⟨f,by simp,he⟩
     .rw[if_neg he] at h;exact .inr h
    .rw[if_neg hs] at h;exact .inr h
 rcases key fs _ h with h|h
 .exact h
 .exact absurd rfl h
theorem Rb {x:DS}{n:Nat}{s:ByteArray}(h:aH.comb (gU x n 0 s) (gU x n 1 s)≠none):∃f∈aQ x n,s=aB f.path:=by
 have one:∀set,gU x n set s≠none->∃f∈aQ x n,s=aB f.path:=fun set hs=>by
  unfold gU aH.jP at hs;split at hs
  .exact absurd rfl hs
  .rename_i hne
   by_cases h1:p8 set (aQ x n) s=none
   .exact G1 2 _ s fun q=>hne (h1.trans q.symm)
   .exact G1 set _ s h1
 by_cases h0:gU x n 0 s=none
 .by_cases h1:gU x n 1 s=none
  .rw[h0,h1] at h;exact absurd rfl h
  .exact one 1 h1
 .exact one 0 h0
theorem few {x:DS}{n:Nat}(ks:List ByteArray)(hn:ks.Nodup)(h:∀s∈ks,aH.comb (gU x n 0 s) (gU x n 1 s)≠none):ks.length<=54:=by
 have h54:(aQ x n).length<=54:=by unfold aQ;rw[List.length_map];exact iD x n
 have h1:(ks.map fun k=>k.data.toList).Nodup:=by
  refine List.Pairwise.map _ (fun a b hab he=>hab ?_) hn;have:a.data=b.data:=Array.ext' he;cases a;cases b;simp_all
 have h2:=j9 (ks.map fun k=>k.data.toList) ((aQ x n).map (·.path)) h1 fun a ha=>by
  obtain⟨k,hk,rfl⟩:=List.mem_map.1 ha;obtain⟨f,hf,e⟩:=Rb (h k hk);refine List.mem_map.2 ⟨f,hf,?_⟩;rw[e];simp[aB]
 simp at h2;omega
theorem aH.di.few {es:Array MapEntry}{c:Nat}{f:ByteArray->Option Value}(h:aH.di es c f):∃ks:List ByteArray,ks.Nodup/\ks.length=es.size/\∀s∈ks,f s≠none:=by
 refine⟨es.toList.map fun e=>match e.key with|.string s=>s|_=>⟨#[]⟩,?_,by simp,fun s hs=>?_⟩
 .have hp:=((Go.MapKept.stamped_iff es c).1 h.stamped).2.2
  refine(List.pairwise_map).2 (hp.imp_of_mem fun {a b} ha hb hab he=>?_);obtain⟨s,hs⟩:=aH.iF (h.keys a ha);obtain⟨s',hs'⟩:=aH.iF (h.keys b hb);rw[hs,hs'] at he hab;simp only at he;subst he
  simp_all
 .obtain⟨e,he,rfl⟩:=List.mem_map.1 hs
  obtain⟨s,hs⟩:=aH.iF (h.keys e he);rw[hs];rw[(h.has s e.val).2 ⟨e,he,hs,rfl⟩];simp
end
section
open Go.RowKit Go.Lib Go.Sort
open Go.Conc (base G)
theorem pA:Elem Tryz.prog 109 168 2 24:=⟨by kernel_rfl,by kernel_rfl,by omega⟩
theorem ND {a b:Option (Bool×ByteArray)}:aH.comb a b≠none↔(a≠none\/b≠none):=by
 unfold aH.comb;cases a<;>cases b<;>simp
theorem World.ownsRow.ahM {S:List Nat}{w w':World}{base:Nat}{e:TypeId}{size:Nat}{v:Value}{n:Nat}{xs:List Value}(h:w.ownsRow base e size v n xs)(f:eO S w w')(hS:∀g,v.ownBlock=some g->g∉S):w'.ownsRow base e size v n xs:=by
 refine⟨h.1,h.2.imp id fun⟨g,cap,cur,e1,e2,e3,e4⟩=>⟨g,cap,cur,e1,e2,?_,e4⟩⟩;rw[f.block g (Array.getElem?_eq_some_iff.1 e3).1 (hS g (by rw[e1];rfl))];exact e3
theorem BP (fa fb:aH.iK)(ps:List (List UInt8))(k:Nat)(hk:k<ps.length):ir fa fb (ps.take (k+1))=ir fa fb (ps.take k)++((kz (fa (aB ps[k])) (fb (aB ps[k]))).map fun s=>(ps[k],s)).toList:=by
 unfold ir;rw[List.take_succ_eq_append_getElem hk,List.filterMap_append]
 congr 1
 all_goals (cases h:kz (fa (aB ps[k])) (fb (aB ps[k]))<;>simp[h])
theorem DE (fa fb:aH.iK)(ps:List (List UInt8))(k:Nat)(hk:k<ps.length):jA fa fb (ps.take (k+1))=jA fa fb (ps.take k)++if(kz (fa (aB ps[k])) (fb (aB ps[k]))).isNone then [ps[k]] else []:=by
 unfold jA;rw[List.take_succ_eq_append_getElem hk,List.filter_append]
 congr 1
 all_goals (cases h:kz (fa (aB ps[k])) (fb (aB ps[k]))<;>simp[h])
theorem Ej (fa fb:aH.iK)(ps:List (List UInt8)):(ir fa fb ps).length<=ps.length:=List.length_filterMap_le _ _
theorem FA (fa fb:aH.iK)(ps:List (List UInt8)):(jA fa fb ps).length<=ps.length:=List.length_filter_le _ _
theorem qS (a b:List (List UInt8×Nat)):cz (a++b)=cz a++cz b:=by simp[cz]
section
variable {ops:Array Oper}{Q:Exit->Act->World->Prop}{a:Act}{w:World}{rest:List Oper}{o:Oper}
theorem tI {t:TypeId}{x y:Operand}{b:Bool}(_:o.op= .lookup t x y b)(h:aj (wpList Tryz.prog ops Q (o::rest) a w)):wpList Tryz.prog ops Q (o::rest) a w:=h
theorem Ht (hg:o.guard=none)(t kt vt:TypeId)(x y:Operand)(ho:o.op= .lookup t x y false)(ht:Tryz.prog.underlying t=some (.map kt vt))(hk:Tryz.prog.underlying kt=some .string){z:Value}(hz:(Tryz.prog.info? vt).bind (·.zero)=some z)
  {m c:Nat} {es:Array MapEntry} {f:ByteArray->Option Value} {s:ByteArray} (hx:a.eval x= .map (some m)) (hy:a.eval y= .string s) (hm:w.heap[m]? =some (.map es c)) (hf:aH.di es c f) (v:Value) (hv:(f s).getD z=v)
  (h:wpList Tryz.prog ops Q rest (a.put o.dst v) w):wpList Tryz.prog ops Q (o::rest) a w:=by
 refine cH hg v w ?_ h;have:=(aH.oX (t:=t) (s:=s) ht hk hz hm hf).run;rw[hv] at this;unfold execOp;rw[ho];show(do pure (.value (<-Instr.lookup t (a.eval x) (a.eval y) false)):Sem Next).run _ _=_;rw[hx,hy];exact this
end
theorem _root_.Go.World.ownsRow.weak {w:World}{base base':Nat}{e:TypeId}{size:Nat}{v:Value}{n:Nat}{xs:List Value}(h:w.ownsRow base e size v n xs)(hb:base'<=base):w.ownsRow base' e size v n xs:=
 ⟨h.1,h.2.imp id fun⟨g,cap,cur,e1,e2,e3⟩=>⟨g,cap,cur,e1,Nat.le_trans hb e2,e3⟩⟩
def Tt (x:DS)(n:Nat)(wL:World)(v:Value)(w':World):Prop:=∃(ps:List (List UInt8)) (sv cv:Value),ps.Pairwise (·<=·)/\ps.Nodup/\(∀l,l∈ps↔aH.comb (gU x n 0 (aB l)) (gU x n 1 (aB l))≠none)/\
 v= .tuple #[sv,cv]/\eO [] wL w'/\w'.ownsRow wL.heap.size 168 2 sv (ir (gU x n 0) (gU x n 1) ps).length (cz (ir (gU x n 0) (gU x n 1) ps))/\
 w'.ownsRow wL.heap.size 9 1 cv (jA (gU x n 0) (gU x n 1) ps).length (dj (jA (gU x n 0) (gU x n 1) ps))
open aH aH.Sq in
theorem RE {E:az.Env}{wL:World}{d bl n:Nat}{x:DS}(hd:aH.fB d bl n x wL):az.CC E 55 #[.pointer (some ⟨d,0,none⟩)] (Tt x n wL) wL:=by
 refine az.mz Tryz.func55 rfl ?_;refine az.eK (az.dZ (eZ _ rfl (.inl rfl) rfl (eZ _ rfl (.inl rfl) rfl (az.cG ?_))));refine az.eK (az.dZ (eZ _ rfl (.inl rfl) rfl (az.cG ?_)))
 refine az.eK (az.dZ (eZ _ rfl (.inl rfl) rfl (az.cG ?_)));refine az.eK (az.dZ (eZ _ rfl (.inr rfl) rfl ?_));refine kV (f2:=88) #[.tmp 11] #[.pointer (some ⟨d,0,none⟩)] (R2:=ad3 x n wL) rfl rfl (by kernel_rfl) (fun b w=>by kernel_rfl) (by kernel_rfl) (FJ hd) fun v w1 hR _=>?_
 obtain⟨es,c,rfl,⟨t1,d1,rfl⟩,hD⟩:=hR;refine(az.nh t1 d1).2 ?_;obtain⟨es',c',f,e0,hm,hf⟩:=hD;cases e0;have hfix:=DA (a:=gU x n 0) (b:=gU x n 1) (es:=es) (c:=c) ⟨es,c,f,rfl,hm,hf⟩;have hf':∀s,f s=comb (gU x n 0 s) (gU x n 1 s):=hf;obtain⟨w1,hw1⟩:∃w1,w1={wL with heap:=wL.heap.push (.map es c)}:=⟨_,rfl⟩
 rw[<-hw1];have hes:es.size<=54:=by
  obtain⟨ks,k1,k2,k3⟩:=hm.few;rw[<-k2];exact few (x:=x) (n:=n) ks k1 fun s hs=>by rw[<-hf'];exact k3 s hs
 have B1:eO [] wL w1:=by
  rw[hw1];exact⟨rfl,by simp,fun k hk _=>by show(wL.heap.push _)[k]? =_;rw[Array.getElem?_push_lt hk];exact(Array.getElem?_eq_getElem hk).symm⟩
 have hM1:w1.heap[wL.heap.size]? =some (.map es c):=by rw[hw1];simp
 have s1:w1.heap.size=wL.heap.size+1:=by rw[hw1];simp
 clear hw1;refine eZ _ rfl (.inl rfl) rfl (az.cG ?_);refine az.eK (az.eK (az.dZ (eZ _ rfl (.inr rfl) rfl ?_)));refine kV (f2:=S8) #[.tmp 13] #[.map (some wL.heap.size)] (R2:=Ts wL.heap.size w1) rfl rfl (by kernel_rfl) (fun b w=>by kernel_rfl) (by kernel_rfl) (RD _) fun v w2 hR _=>?_
 obtain⟨rfl,t2,d2,rfl⟩:=hR;refine(az.nh t2 d2).2 ?_;obtain⟨w2,hw2⟩:∃w2,w2={w1 with heap:=w1.heap.push (.cells #[.map (some wL.heap.size)] Og (0,0))}:=⟨_,rfl⟩
 rw[<-hw2];have B2:eO [] w1 w2:=by
  rw[hw2];exact⟨rfl,by simp,fun k hk _=>by show(w1.heap.push _)[k]? =_;rw[Array.getElem?_push_lt hk];exact(Array.getElem?_eq_getElem hk).symm⟩
 have hB2:w2.heap[w1.heap.size]? =some (.cells #[.map (some wL.heap.size)] Og (0,0)):=by rw[hw2];simp
 have s2:w2.heap.size=w1.heap.size+1:=by rw[hw2];simp
 clear hw2;have hM2:w2.heap[wL.heap.size]? =some (.map es c):=(B2.block _ (by omega) (by simp)).trans hM1;refine kV (f2:=89) #[.tmp 14] #[mK w1.heap.size] (R2:=Hh f w2) rfl rfl (by kernel_rfl) (fun b w=>by kernel_rfl) (by kernel_rfl)
  (JN (es:=es) (FK (YA hB2 hM2 hm hfix (by omega))) fun ks k1 k2=>Nat.lt_of_le_of_lt (few (x:=x) (n:=n) ks k1 fun s hs=>by rw[<-hf'];exact(k2 s).1 hs) (by omega)) fun v w3 hR _=>?_
 obtain⟨ps,hs,hn,hmem,B3,hv⟩:=hR;have Xm:w3.heap[wL.heap.size]? =some (.map es c):=(B3.block _ (by omega) (by simp)).trans hM2;have BL:eO [] wL w3:=(B1.trans B2).trans B3;obtain⟨ad,cap,rfl,hcell⟩:∃ad cap,v= .slice ad ps.length cap/\(0<ps.length->∃g,ad=some ⟨g,0,none⟩/\g<w3.heap.size/\Holds encStr w3 g 0 ps.toArray):=by
  rcases hv with⟨rfl,rfl⟩|⟨g,cap,rfl,_,h2,h3⟩
  .exact⟨none,0,rfl,fun h=>absurd h (by simp)⟩
  .exact⟨_,cap,rfl,fun _=>⟨g,rfl,h2,h3⟩⟩
 have hpl:ps.length<=54:=by
  have:=few (x:=x) (n:=n) (ps.map aB) (List.Pairwise.map _ (fun a b hab he=>hab (by simpa [aB] using he)) hn) fun s hs=>by
   obtain⟨l,hl,rfl⟩:=List.mem_map.1 hs;rw[<-hf'];exact(hmem l).1 hl
  simpa using this
 clear hv B1 B2 B3 hM1 hM2 hB2;refine ng (w1:=w3) (.int .i64 ps.length) rfl rfl (fun t d=>by kernel_rfl) ?_;refine eZ _ rfl (.inr rfl) rfl (az.cG ?_)
 refine tj {tmps:=#[.pointer (some ⟨d,0,none⟩),undef,.slice none 0 0,.slice none 0 0,.slice none 0 0,.slice none 0 0,.map (some wL.heap.size),undef,undef,undef,undef,.pointer (some ⟨d,0,none⟩),.map (some wL.heap.size),.map (some wL.heap.size),mK w1.heap.size,.slice ad ps.length cap,.int .i64 ps.length,.int .i64 0,undef,undef,undef,undef,undef,undef,undef,undef,undef,undef,undef,undef,undef,undef,undef,undef,undef,undef,undef,undef,undef,undef,undef,undef],defers:=[]} (by kernel_rfl) ?_
 generalize hmm:wL.heap.size=m at*;generalize w1.heap.size=qb at*;refine az.fo none ⟨_,Tryz.func55⟩ (by kernel_rfl) (by simp) (fun w=>eO [] wL w/\w.heap[m]? =some (.map es c)/\(0<ps.length->∃g,ad=some ⟨g,0,none⟩/\g<w.heap.size/\Holds encStr w g 0 ps.toArray)) (fun w t d h=>⟨h.1.tape t d,h.2.1,h.2.2⟩) ⟨BL,Xm,hcell⟩ fun w hI hsz=>?_
 obtain⟨hB,hM,hC⟩:=hI;clear BL Xm hcell hsz;go_wp2_with fail
 go_loopw [4,5,17] (fun u4 u5 u17 wr=>∃k:Nat,u17= .int .i64 k/\k<=ps.length/\aO [] w wr/\wr.ownsRow w.heap.size 168 2 u4 (ir (gU x n 0) (gU x n 1) (ps.take k)).length (cz (ir (gU x n 0) (gU x n 1) (ps.take k)))/\
  wr.ownsRow w.heap.size 9 1 u5 (jA (gU x n 0) (gU x n 1) (ps.take k)).length (dj (jA (gU x n 0) (gU x n 1) (ps.take k)))/\∀g,u4.ownBlock=some g->u5.ownBlock=some g->False) (fun _ _ u17 _=>ps.length-(intOf u17).toNat)
 case atStart=>exact⟨0,rfl,by omega,aO.refl _ _,World.ownsRow_nil _ _ _ _,World.ownsRow_nil _ _ _ _,fun g h=>by cases h⟩
 case round=>
  obtain⟨k,rfl,hk,fk,ho1,ho2,Jk⟩:=hrel
  by_cases hlt:k<ps.length
  .obtain⟨g,rfl,hg,hH⟩:=hC (by omega)
   have hc1:wr.cell? ⟨g,k,none⟩=some (.string (aB ps[k])):=by
    have h1:=(hH k (by simpa using hlt)).1;rw[getElem!_pos ps.toArray k (by simpa using hlt)] at h1;have h2:wr.heap[g]? =w.heap[g]? :=fk.block g hg (by simp);unfold World.cell? at h1⊢;simp only[Nat.zero_add] at h1;rw[h2];simpa [encStr,aB] using h1
   have hM':wr.heap[m]? =some (.map es c):=(fk.block m (Array.getElem?_eq_some_iff.1 hM).1 (by simp)).trans hM;have hs1:=BP (gU x n 0) (gU x n 1) ps k hlt;have hs2:=DE (gU x n 0) (gU x n 1) ps k hlt;have hl1:(ir (gU x n 0) (gU x n 1) (ps.take k)).length<=54:=by have:=Ej (gU x n 0) (gU x n 1) (ps.take k);rw[List.length_take] at this;omega
   have hl2:(jA (gU x n 0) (gU x n 1) (ps.take k)).length<=54:=by have:=FA (gU x n 0) (gU x n 1) (ps.take k);rw[List.length_take] at this;omega
   generalize ps[k]=p at*;have hfp:(f (aB p)).getD zF= .agg (aH.bY (gU x n 0 (aB p)) (gU x n 1 (aB p))):=by rw[hf',xM]
   go_wp2_with (with_reducible first|refine tI rfl ?_);refine aj.go (Ht rfl 153 9 164 _ _ rfl Ky Kz Kj rfl rfl hM' hm _ hfp ?_);clear hfp hM' hc1;have ZB:Hid (ir (gU x n 0) (gU x n 1) (ps.take (k+1))=ir (gU x n 0) (gU x n 1) (ps.take k)++((kz (gU x n 0 (aB p)) (gU x n 1 (aB p))).map fun s=>(p,s)).toList):=hs1
   have HS2:Hid (jA (gU x n 0) (gU x n 1) (ps.take (k+1))=jA (gU x n 0) (gU x n 1) (ps.take k)++if(kz (gU x n 0 (aB p)) (gU x n 1 (aB p))).isNone then [p] else []):=hs2;clear hs1 hs2;generalize gU x n 0 (aB p)=fa at ZB HS2⊢;generalize gU x n 1 (aB p)=fb at ZB HS2⊢;go_wp2_with (with_reducible first|refine tI rfl ?_);refine(Ep fa fb wr).mono ?_
   rintro e w4 ⟨rfl,f4⟩;have S2:=fk.trans f4;have QJ:=f4.owns ho1;have QI:=f4.owns ho2;cases hsrc:kz fa fb with
   |some sd=>
    rw[hsrc] at ZB HS2;simp only[Option.getD_some,Option.isSome_some];go_wp2_with (with_reducible first|refine bJ 168 rfl ?_|refine bV rfl ?_|refine bW rfl ?_);refine aj.go (cH rfl (.agg #[.string (aB p),.int .i64 sd]) w4 (by kernel_rfl) ?_);go_wp2_with (with_reducible first|refine bV rfl ?_|refine bW rfl ?_)
    refine aj.go (gh rfl 109 168 2 24 pA _ rfl (.agg #[.string (aB p),.int .i64 sd]) rfl rfl ?_);intro w8 b8 l8 f8 r8;go_wp2_with (with_reducible first|refine bV rfl ?_|refine bW rfl ?_);have xl:=f8.owns QJ;have E9:=f8.owns QI;have ML:=S2.trans f8;have hbase:w.heap.size<=w8.heap.size:=ML.size
    refine aj.go (iC rfl 109 168 2 24 pA _ _ rfl w.heap.size u4 _ _ rfl xl b8 1 1 [.string (aB p),.int .i64 sd] rfl _ _ r8 rfl rfl (by simp[Value.oneCell']) (by omega) (by omega) (by omega) hbase ?_);intro g' cap' w9 Jh f9 hg';have Rc:=ML.trans f9 (by intro j hj;right;simp at hj;exact(xl.lt j hj).1)
    have ag4:=f9.owns E9 (by intro q hq hq';simp at hq;exact Jk q hq hq');have Mr:∀q,g'=q->u5.ownBlock=some q->False:=fun q e hq=>by
     subst e;rcases hg' with h|h
     .exact Jk g' h hq
     .have:=(E9.lt g' hq).2;omega
    clear ho1 ho2 QJ QI xl E9 r8 f8 f9 l8 fk S2 ML f4 hbase Jk hg';go_wp2_with fail
    go_roundw
    case rel=>
     refine⟨k+1,by go_num,by omega,Rc,?_,?_,fun q h=>Mr q (by simpa [Value.ownBlock] using h)⟩
     .rw[ZB.out,qS]
      simpa [cz] using Jh
     .rw[HS2.out]
      simpa using ag4
    case measure=>simp[intOf];omega
   |none=>
    rw[hsrc] at ZB HS2;simp only[Option.getD_none,Option.isSome_none];go_wp2_with (with_reducible first|refine bJ 168 rfl ?_|refine bV rfl ?_|refine bW rfl ?_);refine aj.go (gh rfl 45 9 1 16 iH _ rfl (.string (aB p)) rfl rfl ?_);intro w8 b8 l8 f8 r8;go_wp2_with (with_reducible first|refine bV rfl ?_|refine bW rfl ?_)
    have xl:=f8.owns QJ;have E9:=f8.owns QI;have ML:=S2.trans f8;have hbase:w.heap.size<=w8.heap.size:=ML.size;refine aj.go (iC rfl 45 9 1 16 iH _ _ rfl w.heap.size u5 _ _ rfl E9 b8 1 1 [.string (aB p)] rfl _ _ r8 rfl rfl (by simp[Value.oneCell']) (by omega) (by omega) (by omega) hbase ?_);intro g' cap' w9 Jh f9 hg'
    have Rc:=ML.trans f9 (by intro j hj;right;simp at hj;exact(E9.lt j hj).1);have ag5:=f9.owns xl (by intro q hq hq';simp at hq;exact Jk q hq' hq);have Mr:∀q,u4.ownBlock=some q->g'=q->False:=fun q hq e=>by
     subst e;rcases hg' with h|h
     .exact Jk g' hq h
     .have:=(xl.lt g' hq).2;omega
    clear ho1 ho2 QJ QI xl E9 r8 f8 f9 l8 fk S2 ML f4 hbase Jk hg';go_wp2_with fail
    go_roundw
    case rel=>
     refine⟨k+1,by go_num,by omega,Rc,?_,?_,fun q h h'=>Mr q h (by simpa [Value.ownBlock] using h')⟩
     .rw[ZB.out]
      simpa using ag5
     .rw[HS2.out]
      simpa [dj,encStr,aB] using Jh
    case measure=>simp[intOf];omega
  .have hk2:k=ps.length:=by omega
   subst hk2;rw[List.take_of_length_le (Nat.le_refl _)] at ho1 ho2;have hbw:m<=w.heap.size:=by have:=hB.size;omega
   go_wp2_with fail;refine az.eK (az.dZ (eZ _ rfl (.inr rfl) rfl (eZ _ rfl (.inr rfl) rfl (eZ _ rfl (.inl rfl) rfl (eZ _ rfl (.inl rfl) rfl (az.cG (az.FE ?_)))))));refine⟨.tuple #[u4,u5],by kernel_rfl,ps,u4,u5,hs,hn,fun l=>by rw[<-hf'];exact hmem l,rfl,hB.trans fk.blk,?_,?_⟩
   .rw[hmm];exact ho1.weak hbw
   .rw[hmm];exact ho2.weak hbw
end
section
open Go.RowKit Go.Lib
theorem xf:∃i,Tryz.prog.info? 5=some i/\i.size=1/\i.bytes=1/\i.zero=some (.int .u8 0):=by
 have:=Jb;cases hi:Tryz.prog.info? 5 with
 |none=>simp[hi] at this
 |some i=>simp only[hi,Option.map_some,Option.some.injEq,Prod.mk.injEq] at this;exact⟨i,rfl,this⟩
def yg (b:Nat)(w w':World):Prop:=∀k o,w.heap[k]? =some o->k≠b->(∀c f,o≠.cells c 5 f)->w'.heap[k]? =some o
theorem yg.refl (b:Nat)(w:World):yg b w w:=fun _ _ h _ _=>h
theorem yg.trans {b:Nat}{w w' w'':World}(h:yg b w w')(h':yg b w' w''):yg b w w'':=fun k o h1 h2 h3=>h' k o (h k o h1 h2 h3) h2 h3
theorem yg.cell {b off:Nat}{w:World}(v:Value):yg b w (w.setCell ⟨b,off,none⟩ v):=fun k o h1 h2 _=>by rw[(Go.Conc.aside_setCell w ⟨b,off,none⟩ v).block k h2];exact h1
theorem yg.vo {b:Nat}{w w':World}(h:aO [] w w'):yg b w w':=fun k o h1 _ _=>by rw[h.block k (Array.getElem?_eq_some_iff.1 h1).1 (by simp)];exact h1
theorem yg.grown {b B n:Nat}{w w':World}{v:Value}{xs:List Value}(ho:w.ownsRow B 5 1 v n xs)(h:w.grownBy w' v.ownBlock):yg b w w':=fun k o h1 _ h3=>by
 rw[h.block k (Array.getElem?_eq_some_iff.1 h1).1 fun e=>?_]
 .exact h1
 .rcases ho.2 with⟨rfl,_⟩|⟨g,cap,cur,rfl,_,hg,_⟩
  .cases e
  .have:g=k:=by simpa [Value.ownBlock] using e.symm
   subst this;rw[hg] at h1;exact h3 _ _ (Option.some.inj h1).symm
theorem uq (B b:Nat)(bs:List Value)(w:World)(h:IsBuilder 146 5 B b bs w):
  Calls Tryz.prog 129 #[.pointer (some ⟨b,0,none⟩)] w fun e w'=>e= .returned (.tuple #[])/\BuilderAt 146 5 B b (.pointer (some ⟨b,0,none⟩)) bs w'/\Below B w w'/\yg b w w':=by
 rcases h with h|h
 .refine(uW b w h.cell0 h.shape h.frozen0).mono ?_
  rintro e w' ⟨rfl,rfl⟩;exact⟨rfl,h.used _,(Below.refl B w).setCell (p:=⟨b,0,none⟩) h.1 _,yg.cell _⟩
 .refine(xJ b w h.cell0).mono ?_
  rintro e w' ⟨rfl,rfl⟩;exact⟨rfl,h,Below.refl B _,yg.refl _ _⟩
theorem Jy:Elem Tryz.prog 85 5 1 1:=⟨sJ,by kernel_rfl,by omega⟩
theorem Hu (B b:Nat)(bs:List Value)(c:Int)(w:World)(h:IsBuilder 146 5 B b bs w)(hlen:bs.length+1<=1000000)(hBw:B<=w.heap.size):
  Calls Tryz.prog 179 #[.pointer (some ⟨b,0,none⟩),.int .u8 c] w fun e w'=>e= .returned .nilIface/\BuilderAt 146 5 B b (.pointer (some ⟨b,0,none⟩)) (bs++[.int .u8 c]) w'/\Below B w w'/\yg b w w':=by
 obtain⟨i0,hi,hz⟩:=xf;go_enter Tryz.func179,Tryz.ntmps179;go_wp2_with fail;refine(uq B b bs w h).mono ?_;rintro e w1 ⟨rfl,h1',hb1,ot1⟩;obtain⟨hB,v,hbk,hown,hne⟩:=h1';have c0:w1.cell? ⟨b,0,none⟩=some (.pointer (some ⟨b,0,none⟩)):=by rw[Lib.cell_of_heap hbk];rfl
 have c1:w1.cell? ⟨b,1,none⟩=some v:=by rw[Lib.cell_of_heap hbk];rfl
 have hlt:b<w1.heap.size:=(Array.getElem?_eq_some_iff.1 hbk).1;go_wp2_with (with_reducible first|refine bV rfl ?_|refine bW rfl ?_);refine aj.go (gh rfl 85 5 1 1 Jy _ rfl (.int .u8 c) rfl rfl ?_);intro w2 b2 l2 f2 r2;have hown2:=f2.owns hown
 have hbk2:w2.heap[b]? =some (.cells #[.pointer (some ⟨b,0,none⟩),v] 146 (0,0)):=by rw[f2.block b hlt (by simp)];exact hbk
 have hsz:=hb1.size;have hsz2:=f2.size;have hcell2:∀j u,[Value.int .u8 c][j]? =some u->w2.cell? ((⟨b2,0,none⟩:Addr).add j)=some u:=fun j u hj=>by
  rw[Addr.add_mid,r2.cell];simpa [Value.cells] using hj
 clear c0 c1;go_wp2_with (at_builtin;refine wpList_append_own _ rfl _ _ 85 rfl B 5 i0 (.int .u8 0) 1 1 sJ hi hz.2.2 hz.1 hz.2.1 rfl (by decide) _ _ _ rfl hown2 ⟨b2,0,none⟩ 1 1 [.int .u8 c] rfl rfl hcell2 (by simp[Value.oneCell']) ?c3 ?c4 ?c5 ?_)
 case c3=>unfold maxLen;omega
 case c4=>omega
 case c5=>omega
 intro v' w3 hown' hgrow _;have hb3:w3.heap[b]? =some (.cells #[.pointer (some ⟨b,0,none⟩),v] 146 (0,0)):=by
  rw[hgrow.block b (by omega) (fun e=>hne e.symm)];exact hbk2
 have d0:w3.cell? ⟨b,0,none⟩=some (.pointer (some ⟨b,0,none⟩)):=by rw[Lib.cell_of_heap hb3];rfl
 have d1:w3.cell? ⟨b,1,none⟩=some v:=by rw[Lib.cell_of_heap hb3];rfl
 have f1:w3.frozen? ⟨b,1,none⟩=false:=Lib.frozen_of_heap hb3 1;obtain⟨ao,n',cap,rfl⟩:∃ao n' cap,v'= .slice ao n' cap:=by
  rcases hown'.2 with⟨hv,_⟩|⟨g,cap,cur,hv,_⟩
  .exact⟨_,_,_,hv⟩
  .exact⟨_,_,_,hv⟩
 have hB2:Below B w w2:=⟨f2.os.trans hb1.os,f2.tape.trans hb1.tape,f2.output.trans hb1.output,by omega,fun k hk=>by rw[f2.block k (by have:=hb1.size;omega) (by simp)];exact hb1.block k hk⟩
 go_wp2_with fail;go_ret;refine⟨rfl,?_,?_,((ot1.trans (yg.vo f2)).trans (yg.grown hown2 hgrow)).trans (yg.cell _)⟩
 .exact Lib.BuilderAt.put (T:=146) (e:=5) hB hb3 (bs':=bs++[.int .u8 c]) (by simpa using hown') (by decide)
 .exact(hB2.grown hgrow (by omega) (fun k hk=>(hown.lt k hk).1)).setCell (p:=⟨b,1,none⟩) hB _
theorem Bx (B b:Nat)(bs:List Value)(s:ByteArray)(w:World)(h:IsBuilder 146 5 B b bs w)(hlen:bs.length+s.size<=1000000)(hBw:B<=w.heap.size):
  Calls Tryz.prog 153 #[.pointer (some ⟨b,0,none⟩),.string s] w fun e w'=>e= .returned (.tuple #[.int .i64 s.size,.nilIface])/\BuilderAt 146 5 B b (.pointer (some ⟨b,0,none⟩)) (bs++strCells s) w'/\Below B w w'/\yg b w w':=by
 obtain⟨i0,hi,hz⟩:=xf;go_enter Tryz.func153,Tryz.ntmps153;go_wp2_with fail;refine(uq B b bs w h).mono ?_;rintro e w1 ⟨rfl,h1',hb1,ot1⟩;obtain⟨hB,v,hbk,hown,hne⟩:=h1';have c0:w1.cell? ⟨b,0,none⟩=some (.pointer (some ⟨b,0,none⟩)):=by rw[Lib.cell_of_heap hbk];rfl
 have c1:w1.cell? ⟨b,1,none⟩=some v:=by rw[Lib.cell_of_heap hbk];rfl
 have hlt:b<w1.heap.size:=(Array.getElem?_eq_some_iff.1 hbk).1;have hsz:=hb1.size;go_wp2_with (at_builtin;refine Lib.wpList_append_own_string _ rfl _ _ 85 9 rfl B 5 i0 sJ Tryz.underlying9 hi hz.2.2 hz.1 hz.2.1 _ _ _ rfl hown s rfl ?c3 ?c4 ?c5 ?_)
 case c3=>unfold maxLen;omega
 case c4=>omega
 case c5=>omega
 intro v' w3 hown' hgrow _;have hb3:w3.heap[b]? =some (.cells #[.pointer (some ⟨b,0,none⟩),v] 146 (0,0)):=by
  rw[hgrow.block b (by omega) (fun e=>hne e.symm)];exact hbk
 have d0:w3.cell? ⟨b,0,none⟩=some (.pointer (some ⟨b,0,none⟩)):=by rw[Lib.cell_of_heap hb3];rfl
 have d1:w3.cell? ⟨b,1,none⟩=some v:=by rw[Lib.cell_of_heap hb3];rfl
 have f1:w3.frozen? ⟨b,1,none⟩=false:=Lib.frozen_of_heap hb3 1;obtain⟨ao,n',cap,rfl⟩:∃ao n' cap,v'= .slice ao n' cap:=by
  rcases hown'.2 with⟨hv,_⟩|⟨g,cap,cur,hv,_⟩
  .exact⟨_,_,_,hv⟩
  .exact⟨_,_,_,hv⟩
 clear c0 c1;go_wp2_with fail
 go_ret2
 refine⟨rfl,?_,?_,(ot1.trans (yg.grown hown hgrow)).trans (yg.cell _)⟩
 .exact Lib.BuilderAt.put (T:=146) (e:=5) hB hb3 (bs':=bs++strCells s) (by rw[List.length_append,strCells_length];exact hown') (by decide)
 .exact(hb1.grown hgrow (by omega) (fun k hk=>(hown.lt k hk).1)).setCell (p:=⟨b,1,none⟩) hB _
def de (ss:List (List UInt8×Nat)):List UInt8:=ss.flatMap fun p=>(if p.2=0 then 76 else 82)::p.1
theorem Dv (a b:List (List UInt8×Nat)):de (a++b)=de a++de b:=by simp[de]
theorem nQ (l:List (List UInt8×Nat))(k:Nat)(hk:k<l.length):((cz l).drop (k*2)).take 2=[.string (aB l[k].1),.int .i64 l[k].2]:=by
 have h:∀(l:List (List UInt8×Nat)) (k:Nat),(cz l).drop (k*2)=cz (l.drop k):=by
  intro l
  induction l with
  |nil=>intro k;simp[cz]
  |cons f r ih=>
   intro k;cases k with
   |zero=>simp
   |succ k=>
    have:=ih k;have e:cz (f::r)=[.string (aB f.1),.int .i64 f.2]++cz r:=rfl;rw[e,show(k+1)*2=2+k*2 by omega,<-List.drop_drop];simpa using this
 rw[h,List.drop_eq_getElem_cons hk];rfl
theorem row_step:(Tryz.prog.underlying 168).map TypeDesc.isRow=some true:=by kernel_rfl
theorem po:(Tryz.prog.info? 168).map (·.size)=some 2:=by kernel_rfl
theorem y5:(Tryz.prog.info? 168).map (·.zero)=some (some (.agg #[.string ⟨#[]⟩,.int .i64 0])):=by kernel_rfl
theorem vN (l:List UInt8):strCells (aB l)=byteCells l:=by
 unfold strCells aB byteCells;simp
theorem Da (base:Nat)(v:Value)(ss:List (List UInt8×Nat))(w:World)(hv:w.ownsRow base 168 2 v ss.length (cz ss))(hl:ss.length<=54)(hp:∀p∈ss,p.1.length<=8/\p.2<=1):
  Calls Tryz.prog 138 #[v] w fun e w'=>e= .returned (.string (aB (de ss)))/\aO [] w w':=by
 obtain⟨ad,cap,hv'⟩:=ce hv;subst hv';have hel:∀k,k<=ss.length->(de (ss.take k)).length<=9*k:=by
  intro k
  induction k with
  |zero=>intro _;simp[de]
  |succ k ih=>
   intro hk;rw[List.take_succ_eq_append_getElem (by omega),Dv,List.length_append];have h1:=ih (by omega);have h2:=(hp ss[k] (List.getElem_mem (by omega))).1;have h3:(de [ss[k]]).length=1+ss[k].1.length:=by simp[de];omega
   omega
 go_enter Tryz.func138,Tryz.ntmps138;go_wp2_with (with_reducible first|refine ax rfl ?_);refine aj.go (bm rfl 146 rfl _ z0 ?_);intro w1 b3 l3 f1 r3;have hB0:IsBuilder 146 5 w.heap.size b3 (byteCells (de (ss.take 0))) w1:=
  .inl ⟨l3,.slice none 0 0,r3,by simpa [byteCells,de] using World.ownsRow_nil _ _ _ _,by simp[Value.ownBlock]⟩
 go_wp2_with fail;clear r3
 go_loopw [8] (fun c wr=>∃k:Nat,c= .int .i64 k/\k<=ss.length/\aO [] w wr/\IsBuilder 146 5 w.heap.size b3 (byteCells (de (ss.take k))) wr) (fun c _=>ss.length-(intOf c).toNat)
 case atStart=>exact⟨0,rfl,by omega,f1,hB0⟩
 case round=>
  obtain⟨k,rfl,hk,fk,hb⟩:=hrel;clear f1 hB0
  by_cases hlt:k<ss.length
  .have hvk:=fk.owns hv
   obtain⟨g,cur,rfl,hg,hle,_,hcs,htk⟩:=eQ hvk;have hat:((cur.toList.drop (k*2)).take 2)=[.string (aB ss[k].1),.int .i64 ss[k].2]:=by
    rw[cy htk _ _,nQ ss k hlt]
   have hpk:=hp ss[k] (List.getElem_mem hlt);have hek:=hel k hk;have HX:Hid (de (ss.take (k+1))=de (ss.take k)++((if ss[k].2=0 then 76 else 82)::ss[k].1)):=by
    show _=_;rw[List.take_succ_eq_append_getElem hlt,Dv];simp[de]
   generalize ss[k]=p at*;obtain⟨p1,p2⟩:=p;simp only at hat hpk HX;generalize de (ss.take k)=pre at*;clear hcs htk hvk;go_wp2_with (with_reducible first|refine ax rfl ?_|refine av 168 rfl ?_|refine af 168 rfl ?_);refine aj.go (bU rfl 168 _ rfl g (k*2) rfl row_step 2 po _ _ hg _ hat rfl ?_);clear hat hg
   go_wp2_with (with_reducible first|refine ax rfl ?_|refine af 168 rfl ?_);refine aj.go (bm rfl 168 rfl _ y5 ?_);intro w4 b5 l5 f4 r5;go_wp2_with (with_reducible first|refine ax rfl ?_|refine af 168 rfl ?_);refine aj.go (bR rfl 168 _ _ rfl _ 0 rfl _ rfl 2 po ?_ ?_ _ _ r5 ?_ ?_)
   .rfl
   .simp[Value.oneCell']
   .decide
   intro w5 f5 q5;rw[bM _ _ (by rfl)] at q5;have nz:Row w5 b5 #[.string (aB p1),.int .i64 p2] 168:=q5;have mB:aO [] wr w5:=f4.trans f5 (by simpa using l5);have uT:=fk.trans mB;have hb5:=QD hb mB;have c0:w5.cell? ⟨b5,0,none⟩=some (.string (aB p1)):=by rw[nz.cell];rfl
   have hne:b5≠b3:=by
    have:b3<wr.heap.size:=by
     rcases hb with hb|hb<;>exact hb.lt
    omega
   have hlen1:(byteCells pre).length+1<=1000000:=by rw[ah];omega
   clear q5 r5 f4 f5 mB fk hb;have hs8:(aB p1).size<=8:=by simpa [aB,ByteArray.size] using hpk.1
   obtain⟨cb,hcb,HX2⟩:∃cb:UInt8,Hid (cb=if p2=0 then 76 else 82)/\Hid (de (ss.take (k+1))=pre++[cb]++p1):=⟨_,rfl,by show _=_;rw[HX.out];rcases(by omega:p2=0\/p2=1) with rfl|rfl<;>simp⟩
   clear HX;rcases(by omega:p2=0\/p2=1) with rfl|rfl
   all_goals
    have c1:=nz.cell 1;simp at c1;go_wp2_with fail;refine(Hu w.heap.size b3 _ _ w5 hb5 hlen1 uT.size).mono ?_;rintro e w6 ⟨rfl,hb6,bl6,ot6⟩;have uQ:=pq uT bl6;have acD:IsBuilder 146 5 w.heap.size b3 (byteCells (pre++[cb])) w6:=by
     rw[byteCells_append,hcb.out];exact .inr hb6
    have q6:Row w6 b5 _ 168:=ot6 b5 _ nz hne (by simp);have d0:w6.cell? ⟨b5,0,none⟩=some (.string (aB p1)):=by rw[q6.cell];rfl
    have GS:(byteCells (pre++[cb])).length+(aB p1).size<=1000000:=by rw[ah,List.length_append,List.length_singleton];omega
    clear hb6 bl6 ot6 hb5 nz q6 uT c0 c1 hlen1;go_wp2_with fail;refine(Bx w.heap.size b3 _ _ w6 acD GS uQ.size).mono ?_;rintro e w7 ⟨rfl,hb7,bl7,_⟩;have ye:=pq uQ bl7;have ahm:IsBuilder 146 5 w.heap.size b3 (byteCells (de (ss.take (k+1)))) w7:=by
     rw[HX2.out,byteCells_append,<-vN p1];exact .inr hb7
    clear hb7 bl7 acD uQ d0 GS;go_wp2_with fail
    go_roundw
    case rel=>exact⟨k+1,by go_num,by omega,ye,ahm⟩
    case measure=>simp[intOf];omega
  .obtain rfl:k=ss.length:=by omega
   rw[List.take_of_length_le (by omega)] at hb;go_wp2_with fail;refine(Tryz.Builder_String_any w.heap.size b3 (de ss) wr hb fk.size).mono ?_;rintro e w6 ⟨rfl,bl6⟩;have uQ:=pq fk bl6;go_wp2_with fail;go_ret;exact⟨rfl,uQ⟩
def hvD (o:Option (List UInt8)):Value:=aH.hv o.isSome (aB (o.getD []))
def hcells (o:Option (List UInt8)):Array Value:=#[.bool o.isSome,.string (aB (o.getD []))]
theorem ru:(Tryz.prog.underlying 161).map TypeDesc.isRow=some true:=by kernel_rfl
theorem jy:(Tryz.prog.info? 161).map (·.size)=some 2:=by kernel_rfl
theorem sF:(Tryz.prog.info? 161).map (·.zero)=some (some (.agg #[.bool false,.string ⟨#[]⟩])):=by kernel_rfl
theorem zI (d bl n:Nat)(vw:Value)(x:DS)(s:Int)(p:ByteArray)(w:World)(h:bD w d bl n vw x):
  Calls Tryz.prog 142 #[.pointer (some ⟨d,0,none⟩),.agg (dL s p)] w fun e w'=>e= .returned (hvD (x.content n s p))/\aO [] w w':=by
 go_enter Tryz.func142,Tryz.ntmps142;go_wp2_with (with_reducible first|refine bE rfl ?_|refine ax rfl ?_|refine av 103 rfl ?_);refine aj.go (fH rfl 103 _ rfl (.agg (dL s p)) rfl ?_);intro w1 b3 l3 f1 r3;have h1:=h.new f1;go_wp2_with (with_reducible first|refine ax rfl ?_|refine av 103 rfl ?_)
 refine aj.go (bm rfl 161 rfl _ sF ?_);intro w2 b4 l4 f2 r4;have h2:=h1.new f2;have r32:Row w2 b3 (dL s p) 103:=by unfold Row;rw[f2.block b3 (Array.getElem?_eq_some_iff.1 r3).1 (by simp)];exact r3
 go_wp2_with (with_reducible first|refine av 103 rfl ?_);refine aj.go (bU rfl 103 _ rfl b3 0 rfl gZ 2 eM _ _ r32 [.int .i64 s,.string p] rfl rfl ?_);go_wp2_with fail;refine(rW d bl n vw x s p w2 h2).mono ?_;rintro e w3 ⟨rfl,f3⟩
 have r43:Row w3 b4 #[.bool false,.string ⟨#[]⟩] 161:=by unfold Row;rw[f3.block b4 (Array.getElem?_eq_some_iff.1 r4).1 (by simp)];exact r4
 have Fm:=(f1.trans f2).trans f3;have hfz:w.heap.size<=b4:=Nat.le_trans f1.size l4;clear h1 h2 r3 r4 r32 f1 f2 f3;obtain⟨o,ho⟩:∃o,x.content n s p=o:=⟨_,rfl⟩
 have HC:Hid (x.content n s p=o):=ho;rw[ho];clear ho;go_wp2_with (with_reducible first|refine bJ 161 rfl ?_|refine af 161 rfl ?_);refine aj.go (cH rfl (.agg (hcells o)) w3 (by kernel_rfl) ?_);go_wp2_with (with_reducible first|refine af 161 rfl ?_);refine aj.go (bR rfl 161 _ _ rfl b4 0 rfl (hcells o) rfl 2 jy ?_ ?_ _ _ r43 ?_ ?_)
 .rfl
 .simp[hcells,Value.oneCell']
 .decide
 intro w4 f4 q4;rw[bM _ _ (by rfl)] at q4;have Lq:Row w4 b4 (hcells o) 161:=q4;have fw:=Fm.trans f4 (by simp;exact hfz);clear q4;go_wp2_with fail;exact lp rfl b4 rfl rfl _ _ Lq ru (by exact jy) ⟨by rw[HC.out];rfl,fw⟩
theorem yy (s:Nat)(hs:s<=1)(w:World):Calls Tryz.prog 143 #[.int .i64 s] w fun e w'=>e= .returned (.int .i64 (1-s:Nat))/\w'=w:=by
 rcases(by omega:s=0\/s=1) with rfl|rfl
 .go_enter Tryz.func143,Tryz.ntmps143
  go_wp2_with fail;go_ret;exact⟨rfl,rfl⟩
 .go_enter Tryz.func143,Tryz.ntmps143
  go_wp2_with fail;go_ret;exact⟨rfl,rfl⟩
structure dh where
 set:Nat
 path:List UInt8
 becomes:Option (List UInt8)
 replaces:Bool
def dh.vals (w:dh):List Value:=[.int .i64 w.set,.string (aB w.path),.bool w.becomes.isSome,.string (aB (w.becomes.getD [])),.bool w.replaces]
def jJ (ws:List dh):List Value:=ws.flatMap dh.vals
def dr (x:DS)(n:Nat)(p:List UInt8×Nat)(set:Nat):List dh:=if x.content n set (aB p.1)=x.content n p.2 (aB p.1) then [] else [⟨set,p.1,x.content n p.2 (aB p.1),(x.content n set (aB p.1)).isSome⟩]
def fD (x:DS)(n:Nat)(p:List UInt8×Nat):List dh:=dr x n p (1-p.2)++dr x n p 2
def bC (x:DS)(n:Nat)(ss:List (List UInt8×Nat)):List dh:=ss.flatMap (fD x n)
theorem yj (x:DS)(n:Nat)(ss:List (List UInt8×Nat))(k:Nat)(hk:k<ss.length):bC x n (ss.take (k+1))=bC x n (ss.take k)++fD x n ss[k]:=by
 unfold bC;rw[List.take_succ_eq_append_getElem hk,List.flatMap_append];simp
theorem nN (x:DS)(n:Nat)(p:List UInt8×Nat)(s:Nat):(dr x n p s).length<=1:=by unfold dr;split<;>simp
theorem iL (x:DS)(n:Nat)(ss:List (List UInt8×Nat)):(bC x n ss).length<=2*ss.length:=by
 induction ss with
 |nil=>simp[bC]
 |cons p ss ih=>
  have e:bC x n (p::ss)=fD x n p++bC x n ss:=rfl;have h1:=nN x n p (1-p.2);have h2:=nN x n p 2;rw[e,List.length_append,List.length_cons];unfold fD;rw[List.length_append];omega
theorem Ho (a b:List dh):jJ (a++b)=jJ a++jJ b:=by simp[jJ]
theorem xD:Elem Tryz.prog 173 176 5 56:=⟨by kernel_rfl,by kernel_rfl,by omega⟩
theorem Mh {a b:Option (List UInt8)}:(a.isSome==b.isSome&&aB (a.getD [])==aB (b.getD []))=true↔a=b:=by
 rw[Bool.and_eq_true,beq_iff_eq,Go.MapKept.bytes_beq];constructor
 .rintro⟨h1,h2⟩
  have h3:a.getD []=b.getD []:=by
   have:=congrArg (fun s:ByteArray=>s.data.toList) h2;simpa [aB] using this
  cases a<;>cases b<;>simp_all
 .rintro rfl
  exact⟨rfl,rfl⟩
section
variable {ops:Array Oper}{Q:Exit->Act->World->Prop}{a:Act}{w:World}{rest:List Oper}{o:Oper}
theorem qi {t:TypeId}{x y:Operand}(_:o.op= .index t x y)(h:aj (wpList Tryz.prog ops Q (o::rest) a w)):wpList Tryz.prog ops Q (o::rest) a w:=h
theorem OL (hg:o.guard=none)(x y:Nat)(u:TypeId)(ho:o.op= .binOp .neq aH.TH (.tmp x) (.tmp y) u){b1 b2:Bool}{s1 s2:ByteArray}(hx:a.eval (.tmp x)=aH.hv b1 s1)(hy:a.eval (.tmp y)=aH.hv b2 s2)
  (h:wpList Tryz.prog ops Q rest (a.put o.dst (.bool (!(b1==b2&&s1==s2)))) w):wpList Tryz.prog ops Q (o::rest) a w:=by
 refine cH hg _ w ?_ h;have:=(aH.Gs (w:=w) b1 b2 s1 s2).run;unfold execOp;rw[ho];show(do pure (.value (<-(do eqGuard .neq aH.TH (.tmp x) (.tmp y) (a.eval (.tmp x)) (a.eval (.tmp y));binOp .neq aH.TH (a.eval (.tmp x)) (a.eval (.tmp y))))):Sem Next).run _ _=_;rw[hx,hy,oK _ _ _ _ rfl rfl];exact this
end
theorem Row.aside {w w':World}{b base size n:Nat}{c:Array Value}{t e:TypeId}{v:Value}{xs:List Value}(r:Row w b c t)(ho:w.ownsRow base e size v n xs)(hne:t≠e)(f:aO v.ownBlock.toList w w'):Row w' b c t:=by
 unfold Row at r⊢;rw[f.block b (Array.getElem?_eq_some_iff.1 r).1 fun hb=>?_]
 .exact r
 .rcases ho.2 with⟨rfl,_⟩|⟨g,cap,cur,rfl,_,hg,_⟩
  .simp[Value.ownBlock] at hb
  .have:b=g:=by simpa [Value.ownBlock] using hb
   subst this;rw[r] at hg;cases hg;exact hne rfl
theorem Row.vo {w w':World}{b:Nat}{c:Array Value}{t:TypeId}(r:Row w b c t)(f:aO [] w w'):Row w' b c t:=by
 unfold Row at r⊢;rw[f.block b (Array.getElem?_eq_some_iff.1 r).1 (by simp)];exact r
theorem vE (d bl n:Nat)(vw:Value)(x:DS)(base:Nat)(v:Value)(ss:List (List UInt8×Nat))(w:World)(h:bD w d bl n vw x)(hv:w.ownsRow base 168 2 v ss.length (cz ss))(hl:ss.length<=54)(hp:∀p∈ss,p.2<=1):
  Calls Tryz.prog 95 #[.pointer (some ⟨d,0,none⟩),v] w fun e w'=>∃u,e= .returned u/\w'.ownsRow w.heap.size 176 5 u (bC x n ss).length (jJ (bC x n ss))/\aO [] w w':=by
 obtain⟨ad,cap,hv'⟩:=ce hv;subst hv';go_enter Tryz.func95,Tryz.ntmps95;go_wp2_with fail
 go_loopw [5,15] (fun u c wr=>∃k:Nat,c= .int .i64 k/\k<=ss.length/\aO [] w wr/\wr.ownsRow w.heap.size 176 5 u (bC x n (ss.take k)).length (jJ (bC x n (ss.take k)))) (fun _ c _=>ss.length-(intOf c).toNat)
 case atStart=>exact⟨0,rfl,by omega,aO.refl _ _,World.ownsRow_nil _ _ _ _⟩
 case round=>
  obtain⟨k,rfl,hk,fk,ho⟩:=hrel
  by_cases hlt:k<ss.length
  .have hvk:=fk.owns hv
   obtain⟨g,cur,rfl,hg,hle,_,hcs,htk⟩:=eQ hvk;have hat:((cur.toList.drop (k*2)).take 2)=[.string (aB ss[k].1),.int .i64 ss[k].2]:=by
    rw[cy htk _ _,nQ ss k hlt]
   have hpk:=hp ss[k] (List.getElem_mem hlt);have hlen:(bC x n (ss.take k)).length<=108:=by have:=iL x n (ss.take k);rw[List.length_take] at this;omega
   have HX:Hid (bC x n (ss.take (k+1))=bC x n (ss.take k)++fD x n ss[k]):=yj x n ss k hlt;generalize ss[k]=p at*;generalize bC x n (ss.take k)=pre at*;obtain⟨p1,sd⟩:=p;simp only at hat hpk;clear hcs htk hvk;go_wp2_with (with_reducible first|refine ax rfl ?_|refine av 168 rfl ?_|refine af 168 rfl ?_)
   refine aj.go (bU rfl 168 _ rfl g (k*2) rfl row_step 2 po _ _ hg _ hat rfl ?_);clear hat hg;go_wp2_with (with_reducible first|refine ax rfl ?_|refine af 168 rfl ?_);refine aj.go (bm rfl 168 rfl _ y5 ?_);intro w4 b7 l7 f4 r4;go_wp2_with (with_reducible first|refine ax rfl ?_|refine af 168 rfl ?_)
   refine aj.go (bR rfl 168 _ _ rfl _ 0 rfl _ rfl 2 po ?_ ?_ _ _ r4 ?_ ?_)
   .rfl
   .simp[Value.oneCell']
   .decide
   intro w5 f5 q5;rw[bM _ _ (by rfl)] at q5;have nz:Row w5 b7 #[.string (aB p1),.int .i64 sd] 168:=q5;have mB:aO [] wr w5:=f4.trans f5 (by simpa using l7);have uT:=fk.trans mB;have Bt:=mB.owns ho;have h5:=h.new uT;have c0:w5.cell? ⟨b7,0,none⟩=some (.string (aB p1)):=by rw[nz.cell];rfl
   have c1:w5.cell? ⟨b7,1,none⟩=some (.int .i64 sd):=by rw[nz.cell];rfl
   clear q5 r4 f4 f5 fk ho;go_wp2_with (with_reducible first|refine bJ 103 rfl ?_|refine ax rfl ?_);refine aj.go (cH rfl (.agg (dL sd (aB p1))) w5 (by kernel_rfl) ?_);go_wp2_with (with_reducible first|refine ax rfl ?_);refine(zI d bl n vw x sd (aB p1) w5 h5).mono ?_;rintro e w6 ⟨rfl,f6⟩;obtain⟨o,ho0⟩:∃o,x.content n sd (aB p1)=o:=⟨_,rfl⟩
   have HB:Hid (x.content n sd (aB p1)=o):=ho0;rw[ho0];clear ho0 h5 c0 c1;go_wp2_with (with_reducible first|refine ax rfl ?_);refine aj.go (bm rfl 161 rfl _ sF ?_);intro w7 b8 l8 f7 r7;go_wp2_with (with_reducible first|refine af 161 rfl ?_);refine aj.go (bR rfl 161 _ _ rfl b8 0 rfl (hcells o) rfl 2 jy ?_ ?_ _ _ r7 ?_ ?_)
   .rfl
   .simp[hcells,Value.oneCell']
   .decide
   intro w8 f8 q8;rw[bM _ _ (by rfl)] at q8;have q8':Row w8 b8 (hcells o) 161:=q8;have f68:aO [] w5 w8:=f6.trans (f7.trans f8 (by simpa using l8));have qL:=uT.trans f68;have q7:=nz.vo f68;have D9:=f68.owns Bt;have c1:w8.cell? ⟨b7,1,none⟩=some (.int .i64 sd):=by rw[q7.cell];rfl
   clear q8 r7 f6 f7 f8 f68 uT nz Bt;go_wp2_with fail;refine(yy sd hpk w8).mono ?_;rintro e w9 ⟨rfl,rfl⟩;go_wp2_with (with_reducible first|refine bJ 233 rfl ?_);refine aj.go (cH rfl (.agg #[.int .i64 (1-sd:Nat),.int .i64 2]) w9 (by kernel_rfl) ?_);go_wp2_with fail
   go_loopw [5,30] (fun u c wr2=>∃j:Nat,c= .int .i64 j/\j<=2/\aO [] w wr2/\Row wr2 b7 #[.string (aB p1),.int .i64 sd] 168/\Row wr2 b8 (hcells o) 161/\
    wr2.ownsRow w.heap.size 176 5 u (pre++([1-sd,2].take j).flatMap (dr x n (p1,sd))).length (jJ (pre++([1-sd,2].take j).flatMap (dr x n (p1,sd))))) (fun _ c _=>2-(intOf c).toNat)
   case atStart=>exact⟨0,rfl,by omega,qL,q7,q8',by simpa using D9⟩
   case round=>
    obtain⟨j,rfl,hj,fr,rb7,rb8,hor⟩:=hrel;clear c1 q7 q8' D9 qL
    by_cases hj2:j<2
    .have GS:(pre++([1-sd,2].take j).flatMap (dr x n (p1,sd))).length<=110:=by
      have h1:=nN x n (p1,sd) (1-sd);rw[List.length_append];rcases(by omega:j=0\/j=1) with rfl|rfl<;>simp<;>omega
     obtain⟨tw,jn,HT,HJ,HY⟩:∃tw jn:Nat,Hid (tw=if j=0 then 1-sd else 2)/\Hid (jn=j+1)/\Hid (([1-sd,2].take jn).flatMap (dr x n (p1,sd))=([1-sd,2].take j).flatMap (dr x n (p1,sd))++dr x n (p1,sd) tw):=⟨_,_,rfl,rfl,by show _=_;rcases(by omega:j=0\/j=1) with rfl|rfl<;>simp⟩
     obtain⟨agr,Ml⟩:∃l,l=pre++([1-sd,2].take j).flatMap (dr x n (p1,sd)):=⟨_,rfl⟩
     have HP2:Hid (agr=pre++([1-sd,2].take j).flatMap (dr x n (p1,sd))):=Ml;rw[<-Ml] at hor GS;clear Ml;rcases(by omega:j=0\/j=1) with rfl|rfl
     all_goals
      have c0:wr.cell? ⟨b7,0,none⟩=some (.string (aB p1)):=by rw[rb7.cell];rfl
      go_wp2_with (with_reducible first|refine qi rfl ?_);refine aj.go (cH rfl (.int .i64 (tw:Nat)) wr (by rw[HT.out];kernel_rfl) ?_);go_wp2_with (with_reducible first|refine bJ 103 rfl ?_|refine ax rfl ?_);refine aj.go (cH rfl (.agg (dL tw (aB p1))) wr (by kernel_rfl) ?_);go_wp2_with (with_reducible first|refine ax rfl ?_)
      refine aj.go (bm rfl 103 rfl Kl y6 ?_);intro v1 b11 m1 g1 s1;go_wp2_with (with_reducible first|refine af 103 rfl ?_);refine aj.go (bR rfl 103 _ _ rfl b11 0 rfl (dL tw (aB p1)) rfl 2 eM ?_ ?_ _ _ s1 ?_ ?_)
      .rfl
      .simp[dL,Value.oneCell']
      .decide
      intro v2 g2 s2;rw[bM _ _ (by rfl)] at s2;have s2':Row v2 b11 (dL tw (aB p1)) 103:=s2;have g12:aO [] wr v2:=g1.trans g2 (by simpa using m1);have fv2:=fr.trans g12;have h2:=h.new fv2;have aaP:=rb7.vo g12;have aaN:=rb8.vo g12;have ho2:=g12.owns hor;clear s1 s2 g1 g2 g12 fr rb7 rb8 hor c0
      go_wp2_with (with_reducible first|refine av 103 rfl ?_|refine ax rfl ?_);refine aj.go (bU rfl 103 _ rfl b11 0 rfl gZ 2 eM _ _ s2' [.int .i64 (tw:Nat),.string (aB p1)] rfl rfl ?_);go_wp2_with (with_reducible first|refine ax rfl ?_);refine(zI d bl n vw x tw (aB p1) v2 h2).mono ?_;rintro e v3 ⟨rfl,g3⟩
      obtain⟨o2,Fa⟩:∃o,x.content n tw (aB p1)=o:=⟨_,rfl⟩
      have HO2:Hid (x.content n tw (aB p1)=o2):=Fa;rw[Fa];clear Fa h2;go_wp2_with (with_reducible first|refine ax rfl ?_);refine aj.go (bm rfl 161 rfl _ sF ?_);intro v4 b12 m4 g4 s4;go_wp2_with (with_reducible first|refine af 161 rfl ?_);refine aj.go (bR rfl 161 _ _ rfl b12 0 rfl (hcells o2) rfl 2 jy ?_ ?_ _ _ s4 ?_ ?_)
      .rfl
      .simp[hcells,Value.oneCell']
      .decide
      intro v5 g5 s5;rw[bM _ _ (by rfl)] at s5;have s5':Row v5 b12 (hcells o2) 161:=s5;have Zr:aO [] v2 v5:=g3.trans (g4.trans g5 (by simpa using m4));have fv5:=fv2.trans Zr;have VB:=aaP.vo Zr;have Ln:=aaN.vo Zr;have Xb:=Zr.owns ho2;have s25:=s2'.vo Zr;have c12:v5.cell? ⟨b12,0,none⟩=some (.bool o2.isSome):=by rw[s5'.cell];rfl
      clear s4 s5 g3 g4 g5 Zr fv2 aaP aaN ho2 s2';go_wp2_with (with_reducible first|refine av 161 rfl ?_|refine dl 161 rfl ?_);refine aj.go (bU rfl 161 _ rfl b12 0 rfl ru 2 jy _ _ s5' [.bool o2.isSome,.string (aB (o2.getD []))] rfl rfl ?_);go_wp2_with (with_reducible first|refine av 161 rfl ?_|refine dl 161 rfl ?_)
      refine aj.go (bU rfl 161 _ rfl b8 0 rfl ru 2 jy _ _ Ln [.bool o.isSome,.string (aB (o.getD []))] rfl rfl ?_);go_wp2_with (with_reducible first|refine av 161 rfl ?_|refine dl 161 rfl ?_);refine aj.go (OL rfl 40 41 _ rfl (b1:=o2.isSome) (b2:=o.isSome) (s1:=aB (o2.getD [])) (s2:=aB (o.getD [])) rfl rfl ?_)
      by_cases heq:(o2.isSome==o.isSome&&aB (o2.getD [])==aB (o.getD []))=true
      .have HW:Hid (dr x n (p1,sd) tw=[]):=by
        show _=_;unfold dr;rw[if_pos (by rw[HO2.out,HB.out];exact Mh.1 heq)]
       rw[heq];clear heq;go_wp2_with fail
       go_roundw
       case rel=>exact⟨jn,by rw[HJ.out];rfl,by rw[HJ.out];omega,fv5,VB,Ln,by rw[HY.out,HW.out,List.append_nil,<-HP2.out];exact Xb⟩
       case measure=>simp[intOf]
      .have HW:Hid (dr x n (p1,sd) tw=[⟨tw,p1,o,o2.isSome⟩]):=by
        show _=_;unfold dr;rw[if_neg (by rw[HO2.out,HB.out];exact fun q=>heq (Mh.2 q)),HO2.out,HB.out]
       have heq':(o2.isSome==o.isSome&&aB (o2.getD [])==aB (o.getD []))=false:=by simpa using heq
       rw[heq'];clear heq heq';go_wp2_with (with_reducible first|refine av 161 rfl ?_|refine av 103 rfl ?_|refine bJ 176 rfl ?_);refine aj.go (bU rfl 103 _ rfl b11 0 rfl gZ 2 eM _ _ s25 [.int .i64 (tw:Nat),.string (aB p1)] rfl rfl ?_);go_wp2_with (with_reducible first|refine av 161 rfl ?_|refine bJ 176 rfl ?_)
       refine aj.go (bU rfl 161 _ rfl b8 0 rfl ru 2 jy _ _ Ln [.bool o.isSome,.string (aB (o.getD []))] rfl rfl ?_);go_wp2_with (with_reducible first|refine bJ 176 rfl ?_);refine aj.go (cH rfl (.agg (dh.vals ⟨tw,p1,o,o2.isSome⟩).toArray) v5 (by kernel_rfl) ?_);go_wp2_with (with_reducible first|refine bV rfl ?_|refine bW rfl ?_)
       refine aj.go (gh rfl 173 176 5 56 xD _ rfl (.agg (dh.vals ⟨tw,p1,o,o2.isSome⟩).toArray) rfl rfl ?_);intro v8 b9 m8 g8 s8;go_wp2_with (with_reducible first|refine bV rfl ?_|refine bW rfl ?_);have D9:=g8.owns Xb;have fv8:=fv5.trans g8;have aaO:=VB.vo g8;have aaM:=Ln.vo g8
       have hbase:w.heap.size<=v8.heap.size:=fv8.size;refine aj.go (iC rfl 173 176 5 56 xD _ _ rfl w.heap.size u5 _ _ rfl D9 b9 1 1 (dh.vals ⟨tw,p1,o,o2.isSome⟩) rfl _ _ s8 rfl rfl (by simp[dh.vals,Value.oneCell']) (by omega) (by omega) (by omega) hbase ?_);intro g' cap' v9 Jh g9 _;have fv9:=fv8.trans g9 (by intro j hj;right;simp at hj;exact(D9.lt j hj).1)
       have agf:=aaO.aside D9 (by decide) g9;have age:=aaM.aside D9 (by decide) g9;clear Xb D9 s8 g8 g9 m8 fv5 fv8 VB Ln aaO aaM hbase c12 s5' s25;go_wp2_with fail
       go_roundw
       case rel=>
        refine⟨jn,by rw[HJ.out];rfl,by rw[HJ.out];omega,fv9,agf,age,?_⟩;rw[HY.out,HW.out,<-List.append_assoc,<-HP2.out,Ho,List.length_append];simpa [jJ] using Jh
       case measure=>simp[intOf]
    .obtain rfl:j=2:=by omega
     have HZ:Hid (pre++([1-sd,2].take 2).flatMap (dr x n (p1,sd))=bC x n (ss.take (k+1))):=by
      show _=_;rw[HX.out];simp[fD]
     go_wp2_with fail
     go_roundw
     case rel=>exact⟨k+1,by go_num,by omega,fr,by rw[<-HZ.out];exact hor⟩
     case measure=>simp[intOf];omega
  .obtain rfl:k=ss.length:=by omega
   rw[List.take_of_length_le (by omega)] at ho;go_wp2_with fail;go_ret;exact⟨u5,rfl,ho,fk⟩
def kS:List dh->Int->Bool
 |[],_=>true
 |w::r,f=>if w.becomes=none then kS r (f+1) else if f=0 then false else if w.replaces=false then kS r (f-1) else kS r f
def p9 (x:DS)(n:Nat)(ss:List (List UInt8×Nat))(free:Int):Bool:=decide (0<=free)&&kS (bC x n ss) free
theorem Bw (l:List dh)(k:Nat)(hk:k<l.length):((jJ l).drop (k*5)).take 5=l[k].vals:=by
 have h:∀(l:List dh) (k:Nat),(jJ l).drop (k*5)=jJ (l.drop k):=by
  intro l
  induction l with
  |nil=>intro k;simp[jJ]
  |cons f r ih=>
   intro k;cases k with
   |zero=>simp
   |succ k=>
    have:=ih k;have e:jJ (f::r)=f.vals++jJ r:=rfl;rw[e,show(k+1)*5=5+k*5 by omega,<-List.drop_drop];have e2:(f.vals++jJ r).drop 5=jJ r:=by simp[dh.vals]
    rw[e2];simpa using this
 rw[h,List.drop_eq_getElem_cons hk];rfl
theorem EF:(Tryz.prog.underlying 176).map TypeDesc.isRow=some true:=by kernel_rfl
theorem rO:(Tryz.prog.info? 176).map (·.size)=some 5:=by kernel_rfl
def zJw:Value:= .agg #[.int .i64 0,.string ⟨#[]⟩,.bool false,.string ⟨#[]⟩,.bool false]
theorem FZ:(Tryz.prog.info? 176).map (·.zero)=some (some zJw):=by kernel_rfl
theorem MM (d bl n:Nat)(vw:Value)(x:DS)(base:Nat)(v:Value)(ss:List (List UInt8×Nat))(free:Int)(w:World)(h:bD w d bl n vw x)(hv:w.ownsRow base 168 2 v ss.length (cz ss))(hl:ss.length<=54)(hp:∀p∈ss,p.2<=1)(hf0:-1<=free)(hf:free<=1000):
  Calls Tryz.prog 136 #[.pointer (some ⟨d,0,none⟩),v,.int .i64 free] w fun e w'=>e= .returned (.bool (p9 x n ss free))/\aO [] w w':=by
 by_cases hneg:free<0
 .have HF:Hid (p9 x n ss free=false):=by show _=_;unfold p9;rw[decide_eq_false (by omega)];rfl
  obtain⟨ad,cap,hv'⟩:=ce hv;subst hv';go_enter Tryz.func136,Tryz.ntmps136;go_wp2_with fail;go_ret;exact⟨by rw[HF.out];rfl,aO.refl _ _⟩
 .have HF:Hid (p9 x n ss free=kS (bC x n ss) free):=by show _=_;unfold p9;rw[decide_eq_true (by omega)];rfl
  have hwl:(bC x n ss).length<=108:=by have:=iL x n ss;omega
  obtain⟨ad,cap,hv'⟩:=ce hv;subst hv';go_enter Tryz.func136,Tryz.ntmps136;go_wp2_with fail;refine(vE d bl n vw x base _ ss w h hv hl hp).mono ?_;rintro e w1 ⟨u,rfl,ho,f1⟩;generalize bC x n ss=ws at*;obtain⟨Oc,cap2,hu⟩:=ce ho;subst hu;clear hv hp;go_wp2_with fail
  go_loopw [2,15] (fun vf c wr=>∃(k:Nat) (f:Int),c= .int .i64 k/\k<=ws.length/\vf= .int .i64 f/\0<=f/\f<=1000+k/\aO [] w1 wr/\kS (ws.drop k) f=kS ws free) (fun _ c _=>ws.length-(intOf c).toNat)
  case atStart=>exact⟨0,free,rfl,by omega,rfl,by omega,by omega,aO.refl _ _,by simp⟩
  case round=>
   obtain⟨k,f,rfl,hk,rfl,hfn,hfu,fk,hfit⟩:=hrel
   by_cases hlt:k<ws.length
   .have hok:=fk.owns ho
    obtain⟨g,cur,rfl,hg,hle,_,hcs,htk⟩:=eQ hok;have hat:((cur.toList.drop (k*5)).take 5)=ws[k].vals:=by
     rw[cy htk _ _,Bw ws k hlt]
    have hd:kS (ws.drop k) f=if ws[k].becomes=none then kS (ws.drop (k+1)) (f+1) else if f=0 then false else if ws[k].replaces=false then kS (ws.drop (k+1)) (f-1) else kS (ws.drop (k+1)) f:=by
     rw[List.drop_eq_getElem_cons hlt];rfl
    rw[hd] at hfit;clear hd;generalize ws[k]=wd at*;obtain⟨st,pt,bc,rp⟩:=wd;simp only at hfit;clear hcs htk hok;go_wp2_with (with_reducible first|refine ax rfl ?_|refine av 176 rfl ?_|refine af 176 rfl ?_);refine aj.go (bU rfl 176 _ rfl g (k*5) rfl EF 5 rO _ _ hg _ hat rfl ?_);clear hat hg
    go_wp2_with (with_reducible first|refine ax rfl ?_|refine af 176 rfl ?_);refine aj.go (bm rfl 176 rfl _ FZ ?_);intro w4 b7 l7 f4 r4;go_wp2_with (with_reducible first|refine ax rfl ?_|refine af 176 rfl ?_);refine aj.go (bR rfl 176 _ _ rfl _ 0 rfl _ rfl 5 rO ?_ ?_ _ _ r4 ?_ ?_)
    .rfl
    .simp[dh.vals,Value.oneCell']
    .decide
    intro w5 f5 q5;rw[bM _ _ (by rfl)] at q5;have nz:Row w5 b7 (dh.vals ⟨st,pt,bc,rp⟩).toArray 176:=q5;have mB:=fk.trans (f4.trans f5 (by simpa using l7):aO [] wr w5);have c2:w5.cell? ⟨b7,2,none⟩=some (.bool bc.isSome):=by rw[nz.cell];rfl
    have c4:w5.cell? ⟨b7,4,none⟩=some (.bool rp):=by rw[nz.cell];rfl
    clear q5 nz r4 f4 f5 fk l7;cases bc with
    |none=>
     simp only[Option.isSome_none] at c2;rw[if_pos rfl] at hfit;go_wp2_with fail
     go_roundw
     case rel=>exact⟨k+1,f+1,by go_num,by omega,by go_num,by omega,by omega,mB,hfit⟩
     case measure=>simp[intOf];omega
    |some bb=>
     simp only[Option.isSome_some] at c2;rw[if_neg (by simp)] at hfit
     by_cases hz:f=0
     .subst hz
      rw[if_pos rfl] at hfit;have HZ:Hid (kS ws free=false):=hfit.symm;clear hfit;go_wp2_with fail;go_ret;exact⟨by rw[HF.out,HZ.out];rfl,f1.trans mB⟩
     .rw[if_neg hz] at hfit
      have hz':(f==0)=false:=by simpa using hz
      cases rp with
      |false=>
       rw[if_pos rfl] at hfit;go_wp2_with fail
       go_roundw
       case rel=>exact⟨k+1,f-1,by go_num,by omega,by go_num,by omega,by omega,mB,hfit⟩
       case measure=>simp[intOf];omega
      |true=>
       rw[if_neg (by simp)] at hfit;go_wp2_with fail
       go_roundw
       case rel=>exact⟨k+1,f,by go_num,by omega,rfl,by omega,by omega,mB,hfit⟩
       case measure=>simp[intOf];omega
   .obtain rfl:k=ws.length:=by omega
    rw[List.drop_length] at hfit;have HZ:Hid (kS ws free=true):=hfit.symm;clear hfit;go_wp2_with fail;go_ret;exact⟨by rw[HF.out,HZ.out];rfl,f1.trans fk⟩
def DS.th (x:DS)(n:Nat)(w:dh):DS×Value:=match w.becomes with
 |none=>x.remove n w.set (aB w.path)
 |some c=>x.put n w.set (aB w.path) (aB c)
theorem Ny (F:List Nat)(d n:Nat)(x:DS)(wd:dh)(w:World)(h:bN w F d n x)(hx:x.Fit 5)(iJ:x.waiting.length<55)(hs:wd.set<256)(hp:wd.path.length<256)(hc:∀c,wd.becomes=some c->c.length<256):
  Calls Tryz.prog 96 #[.agg wd.vals.toArray,.pointer (some ⟨d,0,none⟩)] w fun e w'=>e= .returned (x.th n wd).2/\∃F',bN w' F' d n (x.th n wd).1/\aO F w w'/\ci F F' w:=by
 obtain⟨st,pt,bc,rp⟩:=wd;simp only at hs hp hc;have hps:(aB pt).size<256:=by simpa [aB,ByteArray.size] using hp
 go_enter Tryz.func96,Tryz.ntmps96;go_wp2_with (with_reducible first|refine bE rfl ?_);refine aj.go (fH rfl 176 _ rfl (.agg (dh.vals ⟨st,pt,bc,rp⟩).toArray) rfl ?_);intro w1 b2 l1 f1 r1;have h1:=h.new f1;have r1':Row w1 b2 (dh.vals ⟨st,pt,bc,rp⟩).toArray 176:=r1;have c2:w1.cell? ⟨b2,2,none⟩=some (.bool bc.isSome):=by rw[r1'.cell];rfl
 have c3:w1.cell? ⟨b2,3,none⟩=some (.string (aB (bc.getD []))):=by rw[r1'.cell];rfl
 clear r1;cases bc with
 |none=>
  simp only[Option.isSome_none] at c2;have HD:Hid (x.th n ⟨st,pt,none,rp⟩=x.remove n st (aB pt)):=rfl;go_wp2_with (with_reducible first|refine av 103 rfl ?_);refine aj.go (bU rfl 103 _ rfl b2 0 rfl gZ 2 eM _ _ r1' [.int .i64 st,.string (aB pt)] rfl rfl ?_);clear c2 c3 r1';go_wp2_with fail
  refine(oy F d n x st (aB pt) w1 h1 ⟨hx.j7,by have:=hx.j6;omega,hx.j5,hx.j4⟩ (by omega)).mono ?_;rintro e w2 ⟨rfl,F',h2,f2,g2⟩;obtain⟨r,hr⟩:∃r,x.remove n st (aB pt)=r:=⟨_,rfl⟩
  rw[hr] at h2⊢;have HD2:Hid (x.th n ⟨st,pt,none,rp⟩=r):=HD.out.trans hr;clear hr HD;obtain⟨r1,r2⟩:=r;go_wp2_with fail;go_ret;rw[HD2.out];exact⟨rfl,F',h2,(f1.mono).trans f2 (fun j hj=> .inl hj),(ci.refl F w).trans g2 f1.size⟩
 |some c=>
  simp only[Option.isSome_some] at c2;have hcs:(aB c).size<256:=by simpa [aB,ByteArray.size] using hc c rfl
  have HD:Hid (x.th n ⟨st,pt,some c,rp⟩=x.put n st (aB pt) (aB c)):=rfl;have c3':w1.cell? ⟨b2,3,none⟩=some (.string (aB c)):=c3;clear c3;go_wp2_with (with_reducible first|refine av 103 rfl ?_|refine bJ 107 rfl ?_);refine aj.go (bU rfl 103 _ rfl b2 0 rfl gZ 2 eM _ _ r1' [.int .i64 st,.string (aB pt)] rfl rfl ?_)
  go_wp2_with (with_reducible first|refine bJ 107 rfl ?_);refine aj.go (cH rfl (.agg #[.int .i64 st,.string (aB pt),.string (aB c)]) w1 (by kernel_rfl) ?_);clear c2 c3' r1';go_wp2_with fail;refine(wH F d n x st (aB pt) (aB c) w1 h1 hx iJ hs hps hcs).mono ?_;rintro e w2 ⟨rfl,F',h2,f2,g2⟩;obtain⟨r,hr⟩:∃r,x.put n st (aB pt) (aB c)=r:=⟨_,rfl⟩
  rw[hr] at h2⊢;have HD2:Hid (x.th n ⟨st,pt,some c,rp⟩=r):=HD.out.trans hr;clear hr HD;obtain⟨r1,r2⟩:=r;go_wp2_with fail;go_ret;rw[HD2.out];exact⟨rfl,F',h2,(f1.mono).trans f2 (fun j hj=> .inl hj),(ci.refl F w).trans g2 f1.size⟩
theorem Ae (l:List (List UInt8×Nat))(k:Nat)(hk:k<l.length):(cz l)[k*2]? =some (.string (aB l[k].1)):=by
 have h:=nQ l k hk;have h1:(((cz l).drop (k*2)).take 2)[0]? =some (.string (aB l[k].1)):=by rw[h];rfl
 rw[List.getElem?_take_of_lt (by omega),List.getElem?_drop] at h1;simpa using h1
theorem aO.Td {w w':World}{b off:Nat}{v:Value}(f:aO [] w w')(h:w.cell? ⟨b,off,none⟩=some v)(_:True):w'.cell? ⟨b,off,none⟩=some v:=by
 have hb:b<w.heap.size:=by
  unfold World.cell? at h;cases hh:w.heap[b]? with
  |none=>simp[hh] at h
  |some o=>exact(Array.getElem?_eq_some_iff.1 hh).1
 unfold World.cell? at h⊢;rw[f.block b hb (by simp)];exact h
theorem De (base:Nat)(v:Value)(ss:List (List UInt8×Nat))(w:World)(hv:w.ownsRow base 168 2 v ss.length (cz ss))(h0:0<ss.length)(hl:ss.length<=54)(hs:ss.Pairwise fun p q=>p.1<q.1):
  Calls Tryz.prog 141 #[v] w fun e w'=>e= .returned (.bool true)/\aO [] w w':=by
 obtain⟨ad,cap,hv'⟩:=ce hv;subst hv';obtain⟨g,cur,rfl,hg,hle,_,hcs,htk⟩:=eQ hv;have hcell:∀k (hk:k<ss.length),cur[k*2]? =some (.string (aB ss[k].1)):=fun k hk=>by
  have h1:=Ae ss k hk;rw[<-htk,List.getElem?_take_of_lt (by omega)] at h1;simpa using h1
 go_enter Tryz.func141,Tryz.ntmps141;go_wp2_with fail
 go_loopw [7] (fun c wr=>∃k:Nat,c= .int .i64 k/\k+1<=ss.length/\aO [] w wr) (fun c _=>ss.length-(intOf c).toNat)
 case atStart=>exact⟨0,rfl,by omega,aO.refl _ _⟩
 case round=>
  obtain⟨k,rfl,hk,fk⟩:=hrel
  by_cases hlt:k+1<ss.length
  .have hgr:=fk.row (b:=g) hg (by simp)
   have c1:wr.cell? ⟨g,k*2,none⟩=some (.string (aB (ss[k]'(by omega)).1)):=by rw[hgr.cell];exact hcell k (by omega)
   have c2:wr.cell? ⟨g,(k+1)*2,none⟩=some (.string (aB (ss[k+1]'hlt).1)):=by rw[hgr.cell];exact hcell (k+1) hlt
   have hlt2:(ss[k]'(by omega)).1<(ss[k+1]'hlt).1:=(List.pairwise_iff_getElem.1 hs) k (k+1) (by omega) hlt (by omega);generalize (ss[k]'(by omega)).1=p1 at*;generalize (ss[k+1]'hlt).1=p2 at*;go_wp2_with fail;have fin:∀(Z:List (Nat×Value)),True:=fun _=>trivial
   refine qG (by kernel_rfl) (by kernel_rfl) ?_;refine cN rfl (some 10) rfl (.slice (some ⟨g,0,none⟩) ss.length cap) (fun w' hw'=>by go_simp) ?_;simp only[Act.put,aX,aY,aW];refine cN rfl (some 11) rfl (.int .i64 k) (fun w' hw'=>by go_simp) ?_;simp only[Act.put,aX,aY,aW]
   refine cN rfl (some 12) rfl (.pointer (some ⟨g,k*2,none⟩)) (fun w' hw'=>by go_simp;intro hh;omega) ?_;simp only[Act.put,aX,aY,aW];refine cN rfl (some 13) rfl (.pointer (some ⟨g,k*2,none⟩)) (fun w' hw'=>by go_simp) ?_;simp only[Act.put,aX,aY,aW];refine cN rfl (some 14) rfl (.string (aB p1)) (fun w' hw'=>by have cc:=hw'.Td c1 (by simp);go_simp) ?_
   simp only[Act.put,aX,aY,aW];refine cN rfl (some 15) rfl (.slice (some ⟨g,0,none⟩) ss.length cap) (fun w' hw'=>by go_simp) ?_;simp only[Act.put,aX,aY,aW];refine cN rfl (some 16) rfl (.int .i64 k) (fun w' hw'=>by go_simp) ?_;simp only[Act.put,aX,aY,aW];refine cN rfl (some 17) rfl (.int .i64 (k+1:Nat)) (fun w' hw'=>by go_simp;rw[IntKind.wrap_i64];omega) ?_
   simp only[Act.put,aX,aY,aW];refine cN rfl (some 18) rfl (.pointer (some ⟨g,(k+1)*2,none⟩)) (fun w' hw'=>by go_simp;intro hh;have:=hh (by omega);omega) ?_;simp only[Act.put,aX,aY,aW];refine cN rfl (some 19) rfl (.pointer (some ⟨g,(k+1)*2,none⟩)) (fun w' hw'=>by go_simp) ?_;simp only[Act.put,aX,aY,aW]
   refine cN rfl (some 20) rfl (.string (aB p2)) (fun w' hw'=>by have cc:=hw'.Td c2 (by simp);go_simp) ?_;simp only[Act.put,aX,aY,aW];refine cN rfl (some 21) rfl (.bool false) (fun w' hw'=>by go_simp;rw[bytesLess_eq,Lib.toList_data,Lib.toList_data];exact decide_eq_true (by simpa [aB] using hlt2)) ?_;simp only[Act.put,aX,aY,aW];intro w2 f2
   have fk2:=fk.trans f2;go_wp2_with fail
   go_roundw
   case rel=>exact⟨k+1,by go_num,by omega,fk2⟩
   case measure=>simp[intOf];omega
  .go_wp2_with fail
   go_ret;exact⟨rfl,fk⟩
def chJ (s:Nat):UInt8:=if s=0 then 76 else 82
theorem tg (p:List UInt8×Nat)(r:List (List UInt8×Nat)):de (p::r)=chJ p.2::(p.1++de r):=rfl
theorem rP (chars:List UInt8):∀(p r:List UInt8),(∀b∈p,chars.contains b=false)->indexAny (p++r) chars=if indexAny r chars=-1 then -1 else indexAny r chars+p.length
 |[],r,_=>by
  by_cases h:indexAny r chars=-1<;>simp[h]
 |b::p,r,h=>by
  have h1:=h b (by simp);have ih:=rP chars p r fun x hx=>h x (by simp[hx])
  have hg:=indexAny_ge chars r;show(if chars.contains b then 0 else if indexAny (p++r) chars==-1 then -1 else indexAny (p++r) chars+1)=_;rw[h1,ih]
  by_cases he:indexAny r chars=-1
  .simp[he]
  .simp only[he,if_false,Bool.false_eq_true]
   rw[if_neg (by simp;omega)];simp;omega
theorem EZ {b:UInt8}(h:hU b=true):([76,82]:List UInt8).contains b=false:=by
 unfold hU at h;rw[Bool.and_eq_true] at h;have h1:97<=b.toNat:=by simpa using h.1
 simp only[List.contains_cons,List.contains_nil,Bool.or_false,Bool.or_eq_false_iff,beq_eq_false_iff_ne];constructor<;>(intro e;subst e;revert h1;decide)
theorem AZ {p:List UInt8}(hp:cF p=true)(r:List (List UInt8×Nat)):indexAny (p++de r) [76,82]=if r=[] then -1 else(p.length:Int):=by
 unfold cF at hp;simp only[Bool.and_eq_true,List.all_eq_true] at hp;rw[rP _ p _ fun b hb=>EZ (hp.2 b hb)];cases r with
 |nil=>rfl
 |cons q r=>
  have:indexAny (de (q::r)) [76,82]=0:=by
   rw[tg];show(if([76,82]:List UInt8).contains (chJ q.2) then 0 else _)=_;rw[if_pos (by unfold chJ;split<;>decide)]
  rw[this];simp
theorem JY {ss:List (List UInt8×Nat)}(h:∀p∈ss,cF p.1=true):∀b∈de ss,b.toNat<128:=by
 intro b hb;unfold de at hb;rw[List.mem_flatMap] at hb;obtain⟨p,hp,hb⟩:=hb;rcases List.mem_cons.1 hb with rfl|hb
 .split<;>decide
 .have:=h p hp
  unfold cF at this;simp only[Bool.and_eq_true,List.all_eq_true] at this;have:=this.2 b hb;unfold hU at this;rw[Bool.and_eq_true] at this;have:b.toNat<=122:=by simpa using this.2
  omega
theorem nj (l:List UInt8)(a b:Nat):(aB l).extract a b=aB ((l.take b).drop a):=by
 have h:((aB l).extract a b).data=(l.toArray).extract a b:=by simp[aB,ByteArray.data_extract]
 have h2:(l.toArray).extract a b=((l.take b).drop a).toArray:=by simp[List.extract_eq_drop_take,List.drop_take]
 have:((aB l).extract a b).data=(aB ((l.take b).drop a)).data:=h.trans h2;cases hx:(aB l).extract a b;rw[hx] at this;simp only at this;rw[this]
theorem fI {P:Program}{ops:Array Oper}{Q:Exit->Act->World->Prop}{a:Act}{w:World}{rest:List Oper}{o:Oper}{t:TypeId}{x:Operand}{l h m:Option Operand}(_:o.op= .slice t x l h m)(k:aj (wpList P ops Q (o::rest) a w)):wpList P ops Q (o::rest) a w:=k
theorem sf:∀(l:List (List UInt8×Nat)),(∀p∈l,p.1.length<=8)->(de l).length<=9*l.length
 |[],_=>by simp[de]
 |p::l,h=>by
  have h1:=h p (by simp);have h2:=sf l fun q hq=>h q (by simp[hq])
  rw[tg,List.length_cons,List.length_append,List.length_cons];omega
theorem rD {p:List UInt8}(h:cF p=true):p.length<=8:=by
 unfold cF at h;simp only[Bool.and_eq_true] at h;simpa using h.1.2
theorem DB (c:UInt8)(p R:List UInt8):(aB (c::(p++R))).extract (1+(p.length:Int)).toNat (aB (c::(p++R))).size=aB R:=by
 rw[nj,gz,List.take_of_length_le (Nat.le_refl _),show(1+(p.length:Int)).toNat=p.length+1 by omega];simp
theorem zU (c:UInt8)(p:List UInt8):(aB (c::p)).extract (1+(p.length:Int)).toNat (aB (c::p)).size=aB (de []):=by
 have:=DB c p [];rw[List.append_nil] at this;exact this
theorem KC {P:Program}{ops:Array Oper}{Q:Exit->Act->World->Prop}{a:Act}{w:World}{rest:List Oper}{o:Oper}{as':Array Operand}{ts:Array TypeId}(_:o.op= .call {callee:= .builtin .len,args:=as',argTypes:=ts})(k:aj (wpList P ops Q (o::rest) a w)):wpList P ops Q (o::rest) a w:=k
theorem Db (ss:List (List UInt8×Nat))(w:World)(h0:0<ss.length)(hl:ss.length<=54)(hp:∀p∈ss,cF p.1=true/\p.2<=1)(hs:ss.Pairwise fun p q=>p.1<q.1):
  Calls Tryz.prog 94 #[.string (aB (de ss))] w fun e w'=>∃u,e= .returned (.tuple #[u,.bool true])/\w'.ownsRow w.heap.size 168 2 u ss.length (cz ss)/\aO [] w w':=by
 go_enter Tryz.func94,Tryz.ntmps94;go_wp2_with fail
 go_loopw [4,5] (fun u t wr=>∃k:Nat,t= .string (aB (de (ss.drop k)))/\k<=ss.length/\aO [] w wr/\wr.ownsRow w.heap.size 168 2 u k (cz (ss.take k))) (fun _ t _=>match t with|.string s=>s.size|_=>0)
 case atStart=>exact⟨0,rfl,by omega,aO.refl _ _,World.ownsRow_nil _ _ _ _⟩
 case round=>
  obtain⟨k,rfl,hk,fk,ho⟩:=hrel
  by_cases hlt:k<ss.length
  .have hd:ss.drop k=ss[k]::ss.drop (k+1):=List.drop_eq_getElem_cons hlt
   have hpk:=hp ss[k] (List.getElem_mem hlt);have htk:ss.take (k+1)=ss.take k++[ss[k]]:=List.take_succ_eq_append_getElem hlt;have HR:Hid (ss.take (k+1)=ss.take k++[ss[k]]):=htk;have hasc:∀b∈de (ss.drop k),b.toNat<128:=JY fun p hp'=>(hp p (List.mem_of_mem_drop hp')).1
   have hlen:(de (ss.drop k)).length<=1000:=by
    have h1:=sf (ss.drop k) fun p hp'=>rD (hp p (List.mem_of_mem_drop hp')).1
    have h2:(ss.drop k).length<=54:=by rw[List.length_drop];omega
    omega
   rw[hd,tg] at hasc hlen⊢;have HD:Hid (ss.drop k=ss[k]::ss.drop (k+1)):=hd;clear hd htk;generalize ss[k]=p at*;obtain⟨p1,sd⟩:=p;simp only at hpk hasc hlen⊢;have hsc:∃(c:UInt8) (sv:Int),Hid (c=chJ sd)/\Hid (sv=sd)/\Hid (Lib.indexByte [76,82] c=sv):=⟨chJ sd,sd,rfl,rfl,by show _=_;rcases(by omega:sd=0\/sd=1) with rfl|rfl<;>decide⟩
   obtain⟨c,sv,hc,hsv,acn⟩:=hsc;rcases(by omega:sd=0\/sd=1) with rfl|rfl
   all_goals
    obtain⟨r,hdr⟩:∃r,ss.drop (k+1)=r:=⟨_,rfl⟩
    rw[hdr] at HD hasc hlen⊢;go_wp2_with (with_reducible first|refine dl 9 rfl ?_|refine qi rfl ?_|refine fI rfl ?_);refine aj.go (cH rfl (.bool true) wr (by go_simp;simp[aB]) ?_);go_wp2_with (with_reducible first|refine dl 9 rfl ?_|refine qi rfl ?_|refine fI rfl ?_)
    refine aj.go (cH rfl (.int .u8 c.toNat) wr (by rw[hc.out];kernel_rfl) ?_);go_wp2_with (with_reducible first|refine dl 9 rfl ?_|refine fI rfl ?_);refine(Tryz.strings_IndexByte ⟨#[76,82]⟩ c.toNat wr).mono ?_;rintro e w1 ⟨rfl,rfl⟩;rw[show Lib.indexByte (⟨#[76,82]⟩:ByteArray).data.toList (c.toNat:Int).toNat.toUInt8=sv by simpa using acn.out,hsv.out];clear acn
    go_wp2_with (with_reducible first|refine dl 9 rfl ?_|refine fI rfl ?_);refine aj.go (cH rfl (.string (aB (p1++de r))) w1 (by go_simp;rw[if_pos (by rw[gz];simp;omega),nj,gz,List.take_of_length_le (Nat.le_refl _)];rfl) ?_);go_wp2_with (with_reducible first|refine dl 9 rfl ?_|refine fI rfl ?_);have hia:=AZ hpk.1 r
    refine(Tryz.strings_IndexAny_laid (aB (p1++de r)) ⟨#[76,82]⟩ w1 (by rw[gz];simp at hlen⊢;omega) (by decide) (fun j b hj=>hasc b (by
     have:b∈p1++de r:=List.mem_of_getElem? (by simpa [aB] using hj);exact List.mem_cons_of_mem _ this)) (fun j b hj=>by
     have:b∈([76,82]:List UInt8):=List.mem_of_getElem? hj;simp at this;rcases this with rfl|rfl<;>decide)).mono ?_
    rintro e w2 ⟨rfl,bl2⟩;have f2:aO [] w1 w2:=pq (aO.refl _ _) bl2;have acr:Lib.indexAny (aB (p1++de r)).data.toList (⟨#[76,82]⟩:ByteArray).data.toList=if r=[] then -1 else(p1.length:Int):=by simpa [aB] using hia
    rw[acr];clear hia acr bl2 hasc;have hp8:p1.length<=8:=by
     have:=hpk.1;unfold cF at this;simp only[Bool.and_eq_true] at this;simpa using this.1.2
    have hlk:k<=54:=by omega
    have HDR:Hid (ss.drop (k+1)=r):=hdr;clear hdr;have hps:(aB p1).size<=9223372036854775807:=by rw[gz];omega
    by_cases hr:r=[]
    all_goals
     first
      |(
        rw[if_pos hr];have e0:p1++de r=p1:=by rw[hr];simp[de]
        rw[e0];clear e0)
      |(
        rw[if_neg hr];go_wp2_with (with_reducible first|refine fI rfl ?_);refine aj.go (cH rfl (.string (aB p1)) w2 (by go_simp;rw[if_pos (by rw[gz];simp),nj];simp) ?_))
     go_wp2_with (with_reducible first|refine bV rfl ?_|refine bW rfl ?_);refine(mU (aB p1) w2 hps).mono ?_;rintro e w3 ⟨rfl,f3⟩;have hpt:cF (aB p1).data.toList=true:=by simpa [aB] using hpk.1
     rw[hpt];clear hpt;have S3:=(fk.trans f2).trans f3;have ho3:=f3.owns (f2.owns ho (by simp));clear ho f2 f3;go_wp2_with (with_reducible first|refine bJ 168 rfl ?_|refine bV rfl ?_|refine bW rfl ?_);refine aj.go (cH rfl (.agg #[.string (aB p1),.int .i64 sv]) w3 (by rw[hsv.out];kernel_rfl) ?_)
     go_wp2_with (with_reducible first|refine bV rfl ?_|refine bW rfl ?_);refine aj.go (gh rfl 109 168 2 24 pA _ rfl (.agg #[.string (aB p1),.int .i64 sv]) rfl rfl ?_);intro w8 b8 l8 f8 r8;go_wp2_with (with_reducible first|refine bV rfl ?_|refine bW rfl ?_);have xl:=f8.owns ho3;have ML:=S3.trans f8
     have hbase:w.heap.size<=w8.heap.size:=ML.size;refine aj.go (iC rfl 109 168 2 24 pA _ _ rfl w.heap.size u4 _ _ rfl xl b8 1 1 [.string (aB p1),.int .i64 sv] rfl _ _ r8 rfl rfl (by simp[Value.oneCell']) (by omega) (by omega) (by omega) hbase ?_);intro g' cap' w9 Jh f9 _;have Rc:=ML.trans f9 (by intro j hj;right;simp at hj;exact(xl.lt j hj).1)
     have ag3:w9.ownsRow w.heap.size 168 2 (.slice (some ⟨g',0,none⟩) (k+1) cap') (k+1) (cz (ss.take (k+1))):=by
      rw[HR.out,qS];rw[hsv.out] at Jh;exact Jh
     clear ho3 xl Jh r8 f8 f9 l8 fk S3 ML hbase;go_wp2_with (with_reducible first|refine KC rfl ?_|refine fI rfl ?_);refine aj.go (cH rfl (.int .i64 p1.length) w9 (by kernel_rfl) ?_);have hw1:wrap64 (1+(p1.length:Int))=1+p1.length:=IntWalk.wrap64_in _ (by omega);go_wp2_with (with_reducible first|refine fI rfl ?_)
     refine aj.go (cH rfl (.string (aB (de r))) w9 (by go_simp;rw[if_pos (by rw[gz];simp;omega)];first|rw[DB]|rw[zU]|rw[zU,hr]) ?_);go_wp2_with fail
     go_roundw
     case rel=>exact⟨k+1,by simp only[HDR.out,hr],by omega,Rc,ag3⟩
     case measure=>simp[gz,hr];omega
  .obtain rfl:k=ss.length:=by omega
   rw[List.drop_length];rw[List.take_of_length_le (by omega)] at ho;have e0:aB (de [])=⟨#[]⟩:=rfl;rw[e0];obtain⟨ad4,cap4,hu4⟩:=ce ho;subst hu4;go_wp2_with fail;refine(De w.heap.size _ ss wr ho h0 hl hs).mono ?_;rintro e w2 ⟨rfl,f2⟩;go_wp2_with fail
   go_ret2
   exact⟨_,rfl,f2.owns ho,fk.trans f2⟩
theorem MG (d bl n:Nat)(vw:Value)(x:DS)(w:World)(h:bD w d bl n vw x):
  Calls Tryz.prog 137 #[.pointer (some ⟨d,0,none⟩)] w fun e w'=>e= .returned (.int .i64 ((aK n:Int)-(taken x n).length))/\aO [] w w':=by
 have hn:aK n<=54:=by unfold aK;omega
 have ht:=iD x n;go_enter Tryz.func137,Tryz.ntmps137;go_wp2_with fail;refine(od d bl n vw x w h).mono ?_;rintro e w1 ⟨rfl,rfl⟩;go_wp2_with fail;refine(lO n h.lo h.hi w1).mono ?_;rintro e w2 ⟨rfl,rfl⟩;go_wp2_with fail;refine(nP d bl n vw x w2 h).mono ?_;rintro e w3 ⟨v,rfl,ho,f3⟩;obtain⟨ad,cap,hv⟩:=ce ho;subst hv
 obtain⟨tl,htl⟩:∃tl,(taken x n).length=tl:=⟨_,rfl⟩
 obtain⟨ns,hns⟩:∃ns,aK n=ns:=⟨_,rfl⟩
 have H1:Hid ((taken x n).length=tl):=htl;have H2:Hid (aK n=ns):=hns;rw[htl] at ht ho⊢;rw[hns] at hn⊢;clear htl hns;have hw1:wrap64 ((ns:Int)-tl)=ns-tl:=IntWalk.wrap64_in _ (by omega);go_wp2_with fail;go_ret;exact⟨by rw[H1.out,H2.out];rfl,f3⟩
def pj (ss:List (List UInt8×Nat)):Prop:=∀p∈ss,cF p.1=true/\p.2<=1
def DS.begin (x:DS)(n:Nat)(ss:List (List UInt8×Nat)):DS×Value:=
 if p9 x n ss ((aK n:Int)-(taken x n).length-1)=false then(x,.int .i64 7) else x.put n 3 ⟨#[]⟩ (aB (de ss))
theorem FR (F:List Nat)(d n:Nat)(x:DS)(base:Nat)(v:Value)(ss:List (List UInt8×Nat))(w:World)(h:bN w F d n x)(hx:x.Fit 5)(iJ:x.waiting.length<55)(hv:w.ownsRow base 168 2 v ss.length (cz ss))(hl:ss.length<=7)(hp:pj ss)(hF:∀g,v.ownBlock=some g->g∉F):
  Calls Tryz.prog 92 #[.pointer (some ⟨d,0,none⟩),v] w fun e w'=>e= .returned (x.begin n ss).2/\∃F',bN w' F' d n (x.begin n ss).1/\aO F w w'/\ci F F' w:=by
 have hn:aK n<=54:=by unfold aK;omega
 have ht:=iD x n;obtain⟨bl,vw,hd,hFe⟩:=id h;have hp8:∀p∈ss,p.1.length<=8/\p.2<=1:=fun p hpm=>⟨rD (hp p hpm).1,(hp p hpm).2⟩
 have hej:(de ss).length<=63:=by have:=sf ss fun p hpm=>(hp8 p hpm).1;omega
 obtain⟨ad,cap,hv'⟩:=ce hv;subst hv';have HB:Hid (x.begin n ss=if p9 x n ss ((aK n:Int)-(taken x n).length-1)=false then(x,.int .i64 7) else x.put n 3 ⟨#[]⟩ (aB (de ss))):=rfl;go_enter Tryz.func92,Tryz.ntmps92;go_wp2_with fail;refine(MG d bl n vw x w hd).mono ?_;rintro e w1 ⟨rfl,f1⟩;have hd1:=hd.new f1;have h1:=h.new f1;have hv1:=f1.owns hv
 have htl:(taken x n).length<=aK n:=nO (x.read 0) (aK n);generalize (taken x n).length=tl at*;generalize aK n=ns at*;have hw1:wrap64 ((ns:Int)-tl-1)=ns-tl-1:=IntWalk.wrap64_in _ (by omega);go_wp2_with fail;refine(MM d bl n vw x base _ ss (ns-tl-1) w1 hd1 hv1 (by omega) (fun p hpm=>(hp p hpm).2) (by omega) (by omega)).mono ?_;rintro e w2 ⟨rfl,f2⟩
 have h2:=h1.new f2;have hv2:=f2.owns hv1;have fw:=f1.trans f2;have fF:aO F w w2:=fw.mono;clear hd hd1 h1 hv1 f1 f2;cases hfit:p9 x n ss (ns-tl-1) with
 |false=>
  have HB2:Hid (x.begin n ss=(x,.int .i64 7)):=by show _=_;rw[HB.out,hfit];rfl
  clear HB hfit;go_wp2_with fail;go_ret;rw[HB2.out];exact⟨rfl,F,h2,fF,ci.refl _ _⟩
 |true=>
  have HB2:Hid (x.begin n ss=x.put n 3 ⟨#[]⟩ (aB (de ss))):=by show _=_;rw[HB.out,hfit];rfl
  clear HB hfit;go_wp2_with fail;refine(ik w2).mono ?_;rintro e w3 ⟨rfl,f3⟩;have h3:=h2.new f3;have hv3:=f3.owns hv2;have Fm:=fw.trans f3;clear h2 hv2 f3 fw fF;go_wp2_with fail;refine(Da base _ ss w3 hv3 (by omega) hp8).mono ?_;rintro e w4 ⟨rfl,f4⟩;have h4:=h3.new f4;have Ea:=Fm.trans f4;clear h3 hv3 f4 Fm
  go_wp2_with (with_reducible first|refine bJ 107 rfl ?_);refine aj.go (cH rfl (.agg #[.int .i64 (3:Nat),.string ⟨#[]⟩,.string (aB (de ss))]) w4 (by kernel_rfl) ?_);go_wp2_with fail;refine(wH F d n x 3 ⟨#[]⟩ (aB (de ss)) w4 h4 hx iJ (by omega) (by decide) (by rw[gz];omega)).mono ?_;rintro e w5 ⟨rfl,F',h5,f5,g5⟩
  obtain⟨r,hr⟩:∃r,x.put n 3 ⟨#[]⟩ (aB (de ss))=r:=⟨_,rfl⟩
  rw[hr] at h5⊢;have HB3:Hid (x.begin n ss=r):=HB2.out.trans hr;clear hr HB2;obtain⟨r1,r2⟩:=r;go_wp2_with fail;go_ret;rw[HB3.out];exact⟨rfl,F',h5,(Ea.mono).trans f5 (fun j hj=> .inl hj),(ci.refl F w).trans g5 Ea.size⟩
def qN:Value->Int
 |.int _ e=>e
 |_=>0
theorem DS.Fit.weak {x:DS}{m k:Nat}(h:x.Fit (m+k)):x.Fit m:=⟨h.j7,by have:=h.j6;omega,h.j5,h.j4⟩
theorem zD {x:DS}{t o:Int}{m:Nat}(hx:x.Fit (m+2))(h:x.jw t o=true):(x.mark t o).Fit m/\(x.mark t o).waiting=[]:=by
 unfold DS.jw at h;rw[Bool.and_eq_true] at h;unfold DS.mark;rw[if_pos h.1];refine⟨DS.zO (DS.jl (r:=m+1) hx h.1) h.2,?_⟩;unfold DS.flush;rw[if_pos h.2]
theorem CM {x:DS}{n s m:Nat}{p c:ByteArray}(hx:x.Fit (m+5)):∃e:Int,(x.put n s p c).2= .int .i64 e/\(e=0->(x.put n s p c).1.Fit m/\(x.put n s p c).1.waiting=[]):=by
 unfold DS.put;split
 .exact⟨7,rfl,fun h=>by cases h⟩
 .split
  .rename_i h1 h2
   refine⟨_,rfl,fun h=>?_⟩;have h3:=(DS.Bz (m:=m+2) hx h2).1;split at h
   .exact zD h3 (by assumption)
   .cases h
  .exact⟨3,rfl,fun h=>by cases h⟩
theorem CE {x:DS}{n s m:Nat}{p:ByteArray}(hx:x.Fit (m+5)):∃e:Int,(x.remove n s p).2= .int .i64 e/\(e=0->(x.remove n s p).1.Fit m/\(x.remove n s p).1.waiting=[]):=by
 unfold DS.remove;split
 .exact⟨5,rfl,fun h=>by cases h⟩
 .refine⟨_,rfl,fun h=>?_⟩
  have h3:x.Fit (m+3+2):=hx;split at h
  .have:=zD h3 (by assumption)
   exact⟨this.1.weak (k:=3),this.2⟩
  .cases h
theorem Nz {x:DS}{n m:Nat}{w:dh}(hx:x.Fit (m+5)):∃e:Int,(x.th n w).2= .int .i64 e/\(e=0->(x.th n w).1.Fit m/\(x.th n w).1.waiting=[]):=by
 unfold DS.th;cases w.becomes with
 |none=>exact CE hx
 |some c=>exact CM hx
def DS.gC (x:DS)(n:Nat):List dh->DS×Value
 |[]=>(x,.int .i64 0)
 |w::r=>if qN (x.th n w).2=0 then(x.th n w).1.gC n r else x.th n w
def DS.sc (x:DS)(n:Nat)(ss:List (List UInt8×Nat)):DS×Value:=
 if qN (x.gC n (bC x n ss)).2=0 then(x.gC n (bC x n ss)).1.remove n 3 ⟨#[]⟩ else x.gC n (bC x n ss)
theorem sj {x:DS}{n:Nat}{s:Int}{p:ByteArray}{c:List UInt8}(h:x.content n s p=some c):c.length<=96:=by
 unfold DS.content at h;split at h
 .rw[<-Option.some.inj h]
  unfold bT;rw[List.length_take];omega
 .cases h
theorem Hp {x:DS}{n:Nat}{ss:List (List UInt8×Nat)}(hp:pj ss):∀w∈bC x n ss,w.set<256/\w.path.length<256/\∀c,w.becomes=some c->c.length<256:=by
 intro w hw;unfold bC at hw;obtain⟨p,hp',hw⟩:=List.mem_flatMap.1 hw;have hpp:=hp p hp';have one:∀set,set<=2->w∈dr x n p set->w.set<256/\w.path.length<256/\∀c,w.becomes=some c->c.length<256:=fun set hs hm=>by
  unfold dr at hm;split at hm
  .simp at hm
  .simp only[List.mem_singleton] at hm
   subst hm;exact⟨by show set<256;omega,by have:=rD hpp.1;show p.1.length<256;omega,fun c hc=>by have:=sj hc;omega⟩
 unfold fD at hw;rcases List.mem_append.1 hw with hw|hw
 .exact one _ (by omega) hw
 .exact one _ (by omega) hw
theorem bN.apart {w:World}{F:List Nat}{d n:Nat}{x:DS}(h:bN w F d n x){b:Nat}{c:Array Value}{t:TypeId}(r:Row w b c t)(h1:t≠134)(h2:t≠148)(h3:t≠240):b∉F:=by
 obtain⟨bl,vw,hd,rfl⟩:=h;unfold Row at r;intro hb;rcases List.mem_cons.1 hb with rfl|hb
 .have:=hd.row
  unfold Row at this;rw[r] at this;cases this;exact h1 rfl
 rcases List.mem_cons.1 hb with rfl|hb
 .have:=hd.last
  unfold Row at this;rw[r] at this;cases this;exact h2 rfl
 .rcases hd.own.2 with⟨e,_⟩|⟨g,cap,cur,e,_,hg,_⟩
  .rw[e] at hb;simp[Value.ownBlock] at hb
  .rw[e] at hb
   have:b=g:=by simpa [Value.ownBlock] using hb
   subst this;rw[r] at hg;cases hg;exact h3 rfl
theorem Iq9 {w:World}{F:List Nat}{d n base size k:Nat}{x:DS}{v:Value}{e:TypeId}{xs:List Value}(h:bN w F d n x)(ho:w.ownsRow base e size v k xs)(h1:e≠134)(h2:e≠148)(h3:e≠240):∀j∈F,v.ownBlock≠some j:=fun j hj hv=>by
 rcases ho.2 with⟨rfl,_⟩|⟨g,cap,cur,rfl,_,hg,_⟩
 .cases hv
 .have:g=j:=by simpa [Value.ownBlock] using hv
  subst this;exact h.apart (c:=cur) (t:=e) hg h1 h2 h3 hj
theorem Nn (F:List Nat)(d n:Nat)(x:DS)(ss:List (List UInt8×Nat))(w:World)(h:bN w F d n x)(hx:x.Fit 100)(iJ:x.waiting.length<55)(hj:x.content n 3 ⟨#[]⟩=some (de ss))(h0:0<ss.length)(hl:ss.length<=7)(hp:pj ss)(hs:ss.Pairwise fun p q=>p.1<q.1):
  Calls Tryz.prog 58 #[.pointer (some ⟨d,0,none⟩)] w fun e w'=>e= .returned (x.sc n ss).2/\∃F',bN w' F' d n (x.sc n ss).1/\aO F w w'/\ci F F' w:=by
 obtain⟨bl,vw,hd,hFe⟩:=id h;go_enter Tryz.func58,Tryz.ntmps58;go_wp2_with fail;refine(ik w).mono ?_;rintro e w1 ⟨rfl,f1⟩;have hd1:=hd.new f1;go_wp2_with fail;refine(rW d bl n vw x 3 ⟨#[]⟩ w1 hd1).mono ?_;rintro e w2 ⟨rfl,f2⟩;have hd2:=hd1.new f2;have fw2:=f1.trans f2;rw[hj];simp only[Option.getD_some,Option.isSome_some];go_wp2_with fail
 refine(Db ss w2 h0 (by omega) hp hs).mono ?_;rintro e w3 ⟨u,rfl,ho3,f3⟩;have hd3:=hd2.new f3;have Fm:=fw2.trans f3;go_wp2_with fail;refine(vE d bl n vw x _ u ss w3 hd3 ho3 (by omega) fun p hpm=>(hp p hpm).2).mono ?_;rintro e w4 ⟨v,rfl,ho4,f4⟩;have Ea:=Fm.trans f4;have h4:=h.new Ea
 have hwl:(bC x n ss).length<=14:=by have:=iL x n ss;omega
 have hwo:=Hp (x:=x) (n:=n) hp;have HE:Hid (x.sc n ss=if qN (x.gC n (bC x n ss)).2=0 then(x.gC n (bC x n ss)).1.remove n 3 ⟨#[]⟩ else x.gC n (bC x n ss)):=rfl;generalize bC x n ss=ws at*;clear hd hd1 hd2 hd3 f1 f2 f3 f4 fw2 Fm ho3;obtain⟨ad,cap,hv⟩:=ce ho4;subst hv;go_wp2_with fail
 go_loopw [25] (fun c wr=>∃(k:Nat) (y:DS) (G:List Nat),c= .int .i64 k/\k<=ws.length/\bN wr G d n y/\y.Fit (5*(14-k)+5)/\y.waiting.length<55/\y.gC n (ws.drop k)=x.gC n ws/\aO F w4 wr/\ci F G w4/\wr.ownsRow w3.heap.size 176 5 (Value.slice ad ws.length cap) ws.length (jJ ws)) (fun c _=>ws.length-(intOf c).toNat)
 case atStart=>exact⟨0,x,F,rfl,by omega,h4,DS.Fit.weak (k:=25) hx,iJ,by simp,aO.refl _ _,ci.refl _ _,ho4⟩
 case round=>
  obtain⟨k,y,G,rfl,hk,hy,Ke,hyw,hdo,fk,gk,hok⟩:=hrel
  by_cases hlt:k<ws.length
  .have hGa:=Iq9 hy hok (by decide) (by decide) (by decide)
   obtain⟨g,cur,ahp,hg,hle,_,hcs,htk⟩:=eQ hok;have hat:((cur.toList.drop (k*5)).take 5)=ws[k].vals:=by
    rw[cy htk _ _,Bw ws k hlt]
   have hd:y.gC n (ws.drop k)=if qN (y.th n ws[k]).2=0 then(y.th n ws[k]).1.gC n (ws.drop (k+1)) else y.th n ws[k]:=by
    rw[List.drop_eq_getElem_cons hlt];rfl
   rw[hd] at hdo;obtain⟨m,hm⟩:∃m,5*(14-k)+5=m+5:=⟨_,rfl⟩
   have hm2:m=5*(14-(k+1))+5:=by omega
   rw[hm] at Ke;obtain⟨e,he,hgood⟩:=Nz (n:=n) (w:=ws[k]) Ke;have hwk:=hwo ws[k] (List.getElem_mem hlt);clear hd hcs htk;generalize ws[k]=wd at*;subst ahp;go_wp2_with (with_reducible first|refine ax rfl ?_|refine av 176 rfl ?_|refine af 176 rfl ?_);refine aj.go (bU rfl 176 _ rfl g (k*5) rfl EF 5 rO _ _ hg _ hat rfl ?_);clear hat hg
   go_wp2_with (with_reducible first|refine ax rfl ?_|refine af 176 rfl ?_);refine aj.go (bm rfl 176 rfl _ FZ ?_);intro w5 b7 l7 f5 r5;go_wp2_with (with_reducible first|refine ax rfl ?_|refine av 176 rfl ?_|refine af 176 rfl ?_);refine aj.go (bR rfl 176 _ _ rfl _ 0 rfl _ rfl 5 rO ?_ ?_ _ _ r5 ?_ ?_)
   .rfl
   .simp[dh.vals,Value.oneCell']
   .decide
   intro w6 f6 q6;rw[bM _ _ (by rfl)] at q6;have VI:Row w6 b7 wd.vals.toArray 176:=q6;have G3:aO [] wr w6:=f5.trans f6 (by simpa using l7);have hy6:=hy.new G3;have ag2:=G3.owns hok;clear q6 r5 f5 f6 hok hy;go_wp2_with (with_reducible first|refine ax rfl ?_|refine av 176 rfl ?_)
   refine aj.go (bU rfl 176 _ rfl b7 0 rfl EF 5 rO _ _ VI wd.vals (by rfl) rfl ?_);clear VI;go_wp2_with fail;refine(Ny G d n y wd w6 hy6 ⟨Ke.j7,by have:=Ke.j6;omega,Ke.j5,Ke.j4⟩ hyw hwk.1 hwk.2.1 hwk.2.2).mono ?_;rintro e w7 ⟨rfl,G',h7,f7,g7⟩
   have fk7:aO F w4 w7:=fk.trans ((G3.mono).trans f7 (fun j hj=> .inl hj):aO G wr w7) (fun j hj=>gk j hj);have gk7:ci F G' w4:=gk.trans (ci.trans (ci.refl G wr) g7 G3.size) fk.size;have ag1:=f7.owns ag2 hGa;rw[he] at hdo⊢;have HD:Hid (x.gC n ws=if qN (.int .i64 e)=0 then(y.th n wd).1.gC n (ws.drop (k+1)) else y.th n wd):=hdo.symm
   have HP:Hid (y.th n wd=((y.th n wd).1,.int .i64 e)):=Prod.ext rfl he;clear hdo he;generalize (y.th n wd).1=z at*
   by_cases Kf:e=0
   .subst Kf
    obtain⟨hzf,hzw⟩:=hgood rfl;have HD2:Hid (x.gC n ws=z.gC n (ws.drop (k+1))):=HD.out;clear hgood HD HP;go_wp2_with fail
    go_roundw
    case rel=>exact⟨k+1,z,G',by go_num,by omega,h7,hm2▸hzf,by rw[hzw];decide,HD2.out.symm,fk7,gk7,ag1⟩
    case measure=>simp[intOf];omega
   .have acu:(e==0)=false:=by simpa using Kf
    have HD2:Hid (x.sc n ss=(z,.int .i64 e)):=by
     have h1:x.gC n ws=(z,.int .i64 e):=by rw[HD.out,if_neg (by simpa [qN] using Kf),HP.out]
     show _=_;rw[HE.out,h1,if_neg (by simpa [qN] using Kf)]
    clear hgood HD HP HE;go_wp2_with fail;go_ret;rw[HD2.out];exact⟨rfl,G',h7,(Ea.mono).trans fk7 (fun j hj=> .inl hj),(ci.refl F w).trans gk7 Ea.size⟩
  .obtain rfl:k=ws.length:=by omega
   rw[List.drop_length] at hdo;have HD2:Hid (x.sc n ss=y.remove n 3 ⟨#[]⟩):=by
    have h1:x.gC n ws=(y,.int .i64 0):=hdo.symm;show _=_;rw[HE.out,h1];rfl
   clear hdo HE hok;go_wp2_with fail;refine(ik wr).mono ?_;rintro e w5 ⟨rfl,f5⟩;have h5:=hy.new f5;go_wp2_with fail;refine(oy G d n y 3 ⟨#[]⟩ w5 h5 ⟨Ke.j7,by have:=Ke.j6;omega,Ke.j5,Ke.j4⟩ (by omega)).mono ?_;rintro e w6 ⟨rfl,G',h6,f6,g6⟩;obtain⟨r,hr⟩:∃r,y.remove n 3 ⟨#[]⟩=r:=⟨_,rfl⟩
   rw[hr] at h6⊢;have HD3:Hid (x.sc n ss=r):=HD2.out.trans hr;clear hr HD2;obtain⟨r1,r2⟩:=r;go_wp2_with fail;go_ret;rw[HD3.out];have G3:aO F w4 w6:=fk.trans ((f5.mono).trans f6 (fun j hj=> .inl hj):aO G wr w6) (fun j hj=>gk j hj);have gk6:ci F G' w4:=gk.trans (ci.trans (ci.refl G wr) g6 f5.size) fk.size
   exact⟨rfl,G',h6,(Ea.mono).trans G3 (fun j hj=> .inl hj),(ci.refl F w).trans gk6 Ea.size⟩
theorem PN (x:DS)(n s:Nat)(p c:ByteArray):∃e:Int,(x.put n s p c).2= .int .i64 e:=by
 unfold DS.put;split
 .exact⟨_,rfl⟩
 .split<;>exact⟨_,rfl⟩
theorem wq (x:DS)(n s:Nat)(p:ByteArray):∃e:Int,(x.remove n s p).2= .int .i64 e:=by
 unfold DS.remove;split<;>exact⟨_,rfl⟩
theorem zQ (n:Nat):∀(ws:List dh) (x:DS),∃e:Int,(x.gC n ws).2= .int .i64 e
 |[],_=>⟨0,rfl⟩
 |w::r,x=>by
  unfold DS.gC;split
  .exact zQ n r _
  .unfold DS.th
   cases w.becomes with
   |none=>exact wq ..
   |some c=>exact PN ..
theorem Nq (x:DS)(n:Nat)(ss:List (List UInt8×Nat)):∃e:Int,(x.sc n ss).2= .int .i64 e:=by
 unfold DS.sc;split
 .exact wq ..
 .exact zQ ..
theorem xX {x:DS}{n m:Nat}{ss:List (List UInt8×Nat)}(hx:x.Fit (m+5)):∃e:Int,(x.begin n ss).2= .int .i64 e/\(e=0->(x.begin n ss).1.Fit m/\(x.begin n ss).1.waiting=[]):=by
 unfold DS.begin;split
 .exact⟨7,rfl,fun h=>by cases h⟩
 .exact CM hx
def DS.xE (x:DS)(n:Nat)(ss:List (List UInt8×Nat)):DS×Value:=
 if ss=[] then(x,.int .i64 0) else if qN (x.begin n ss).2=0 then(x.begin n ss).1.sc n ss else x.begin n ss
theorem Rr (x:DS)(n:Nat)(ss:List (List UInt8×Nat))(hx:x.Fit 105):∃e:Int,(x.xE n ss).2= .int .i64 e:=by
 unfold DS.xE;split
 .exact⟨0,rfl⟩
 .split
  .exact Nq ..
  .exact(xX (m:=100) hx).imp fun e h=>h.1
theorem aP.moved {w w':World}{F F':List Nat}{s d n:Nat}{x x':DS}(h:aP w F s d n x)(hd:bN w' F' d n x')(f:aO F w w')(g:ci F F' w):aP w' F' s d n x':=
 ⟨f.row h.row h.ne,hd,fun hF=>(g s hF).elim h.ne (fun hh=>by have:=h.row.lt;omega)⟩
theorem Rp (F:List Nat)(s d n:Nat)(x:DS)(base:Nat)(v:Value)(ss:List (List UInt8×Nat))(w:World)(h:aP w F s d n x)(hx:x.Fit 105)(iJ:x.waiting.length<55)(hv:w.ownsRow base 168 2 v ss.length (cz ss))(hl:ss.length<=7)(hp:pj ss)(hs:ss.Pairwise fun p q=>p.1<q.1)
  (hF:∀g,v.ownBlock=some g->g∉F) (hB:qN (x.begin n ss).2=0->(x.begin n ss).1.content n 3 ⟨#[]⟩=some (de ss)):
  Calls Tryz.prog 56 #[.pointer (some ⟨s,0,none⟩),v] w fun e w'=>e= .returned (x.xE n ss).2/\(∃F',aP w' F' s d n (x.xE n ss).1/\ci F F' w)/\aO F w w':=by
 have c0:=h.cell;obtain⟨ad,cap,hv'⟩:=ce hv;subst hv';have HD:Hid (x.xE n ss=if ss=[] then(x,.int .i64 0) else if qN (x.begin n ss).2=0 then(x.begin n ss).1.sc n ss else x.begin n ss):=rfl;go_enter Tryz.func56,Tryz.ntmps56
 by_cases h0:ss.length=0
 .have HD2:Hid (x.xE n ss=(x,.int .i64 0)):=HD.out.trans (if_pos (List.length_eq_zero_iff.1 h0))
  rw[h0];clear HD hv hs hp hB hl h0;go_wp2_with fail;go_ret;rw[HD2.out];exact⟨rfl,⟨F,h,ci.refl _ _⟩,aO.refl _ _⟩
 .have hne:ss≠[]:=fun e=>h0 (by rw[e];rfl)
  have h0':0<ss.length:=by omega
  have hlb:((ss.length:Int)==0)=false:=by simp;omega
  obtain⟨e1,he1,hgood⟩:=xX (m:=100) (n:=n) (ss:=ss) hx;go_wp2_with fail;refine(FR F d n x base _ ss w h.disk ⟨hx.j7,by have:=hx.j6;omega,hx.j5,hx.j4⟩ iJ hv hl hp hF).mono ?_;rintro e w1 ⟨rfl,F1,h1,f1,g1⟩;have hs1:=h.moved h1 f1 g1;have c1:=hs1.cell;rw[he1] at hB HD⊢;have HB:Hid (x.begin n ss=((x.begin n ss).1,.int .i64 e1)):=Prod.ext rfl he1;clear he1 c0 h0
  generalize (x.begin n ss).1=y at*
  by_cases Kf:e1=0
  .subst Kf
   obtain⟨Ke,hyw⟩:=hgood rfl;have HD2:Hid (x.xE n ss=y.sc n ss):=HD.out.trans (if_neg hne);have hjy:=hB rfl;clear HD HB hB hgood hlb;go_wp2_with fail;refine(Nn F1 d n y ss w1 h1 Ke (by rw[hyw];decide) hjy h0' hl hp hs).mono ?_;rintro e w2 ⟨rfl,F2,h2,f2,g2⟩;obtain⟨r,hr⟩:∃r,y.sc n ss=r:=⟨_,rfl⟩
   rw[hr] at h2⊢;have HD3:Hid (x.xE n ss=r):=HD2.out.trans hr;clear hr HD2;obtain⟨r1,r2⟩:=r;go_wp2_with fail;go_ret;rw[HD3.out];exact⟨rfl,⟨F2,hs1.moved h2 f2 g2,g1.trans g2 f1.size⟩,f1.trans f2 (fun j hj=>g1 j hj)⟩
  .have acu:(e1==0)=false:=by simpa using Kf
   have HD2:Hid (x.xE n ss=(y,.int .i64 e1)):=HD.out.trans ((if_neg hne).trans ((if_neg (by simpa [qN] using Kf)).trans HB.out));clear HD HB hB hgood hlb;go_wp2_with fail;go_ret;rw[HD2.out];exact⟨rfl,⟨F1,hs1,g1⟩,f1⟩
def du (l:List (List UInt8)):Array Value:=(l.map fun b=>Value.string (aB b)).toArray
theorem dm (l:List (List UInt8)):(du l).size=l.length:=by simp[du]
theorem nT (l:List (List UInt8))(i:Nat)(h:i<l.length):(du l)[i]? =some (.string (aB l[i])):=by simp[du,h]
theorem jQ (b:List UInt8):(aB b).toList=b:=by rw[ByteArray.toList_eq];rfl
theorem KO (l:List (List UInt8))(i:Nat):(du l).extract i (i+7)=du ((l.drop i).take 7):=by
 apply Array.toList_inj.1
 rw[Array.toList_extract];simp[du,List.extract,List.map_take,List.map_drop]
section
variable {P:Program}(w:World)
theorem sa (d:Nat){e:TypeId}(he:P.plainKey e=true)(hu:P.underlying e=some .string)(xs ys:List (List UInt8)):∀is:List Nat,(∀i∈is,i<xs.length/\i<ys.length)->
  (Op.eqItems (d+1) e 1 (du xs) (du ys) is).run P w= .ok (is.all fun i=>xs[i]? ==ys[i]?) w
 |[],_=>by simp[Op.eqItems]
 |i::is,h=>by
  have hi:=h i (by simp);have ih:=sa d he hu xs ys is fun j hj=>h j (by simp[hj])
  have px:=run_part_plain (P:=P) (w:=w) he (xs:=du xs) (off:=i*1) (v:= .string (aB xs[i])) (by rw[Nat.mul_one];exact nT xs i hi.1);have py:=run_part_plain (P:=P) (w:=w) he (xs:=du ys) (off:=i*1) (v:= .string (aB ys[i])) (by rw[Nat.mul_one];exact nT ys i hi.2);have e1:((aB xs[i]).toList==(aB ys[i]).toList)=(xs[i]? ==ys[i]?):=by
   rw[jQ,jQ,List.getElem?_eq_getElem hi.1,List.getElem?_eq_getElem hi.2];rfl
  simp only[Op.eqItems,Sem.run_bind,px,py,run_equalIn_string w d e _ _ hu,Result.andThen_ok,e1,List.all_cons];cases hc:(xs[i]? ==ys[i]?)
  .simp
  .simpa using ih
theorem FU (xs ys:List (List UInt8))(n:Nat)(hx:xs.length=n)(hy:ys.length=n):((List.range n).all fun i=>xs[i]? ==ys[i]?)=(xs==ys):=by
 rw[Bool.eq_iff_iff];simp only[List.all_eq_true,List.mem_range,beq_iff_eq];constructor
 .intro h
  apply List.ext_getElem?
  intro i;rcases Nat.lt_or_ge i n with hi|hi
  .exact h i hi
  .rw[List.getElem?_eq_none (by omega),List.getElem?_eq_none (by omega)]
 .rintro rfl i _;rfl
theorem Nm (d:Nat){t e:TypeId}(ht:P.underlying t=some (.array 7 e))(i:TypeInfo)(hi:P.info? e=some i)(hc:P.cellsOf e=1)(he:P.plainKey e=true)(hu:P.underlying e=some .string)(xs ys:List (List UInt8))(hx:xs.length=7)(hy:ys.length=7):
  (Op.equalIn (d+2) t (.agg (du xs)) (.agg (du ys))).run P w= .ok (xs==ys) w:=by
 rw[run_equalIn_array w (d+1) _ _ ht hi,hc,sa w d he hu xs ys _ (by intro j hj;rw[List.mem_range] at hj;omega),FU xs ys 7 hx hy]
theorem sb (d:Nat){t e:TypeId}(ht:P.underlying t=some (.array 7 e))(i7:TypeInfo)(Zg:P.info? t=some i7)(hc7:P.cellsOf t=7)(i:TypeInfo)(hi:P.info? e=some i)(hc:P.cellsOf e=1)(he:P.plainKey e=true)(hu:P.underlying e=some .string)
  (xs ys:List (List UInt8)):∀is:List Nat,(∀i∈is,i*7+7<=xs.length/\i*7+7<=ys.length)->
  (Op.eqItems (d+2) t 7 (du xs) (du ys) is).run P w= .ok (is.all fun i=>(xs.drop (i*7)).take 7==(ys.drop (i*7)).take 7) w
 |[],_=>by simp[Op.eqItems]
 |j::is,h=>by
  have hj:=h j (by simp);have ih:=sb d ht i7 Zg hc7 i hi hc he hu xs ys is fun j hj=>h j (by simp[hj])
  have pt:∀zs:List (List UInt8),(part t (du zs) (j*7)).run P w= .ok (.agg (du ((zs.drop (j*7)).take 7))) w:=fun zs=>by
   rw[<-KO];simp[part,isAgg,run_underlying ht,run_sizeOf w Zg,hc7]
  have e1:=Nm (P:=P) w d ht i hi hc he hu ((xs.drop (j*7)).take 7) ((ys.drop (j*7)).take 7) (by rw[List.length_take,List.length_drop];omega) (by rw[List.length_take,List.length_drop];omega);simp only[Op.eqItems,Sem.run_bind,pt,e1,Result.andThen_ok,List.all_cons];cases hc:((xs.drop (j*7)).take 7==(ys.drop (j*7)).take 7)
  .simp
  .simpa using ih
theorem Lf (xs ys:List (List UInt8))(hx:xs.length=21)(hy:ys.length=21):((List.range 3).all fun i=>(xs.drop (i*7)).take 7==(ys.drop (i*7)).take 7)=(xs==ys):=by
 rw[Bool.eq_iff_iff];simp only[List.all_eq_true,List.mem_range,beq_iff_eq];constructor
 .intro h
  apply List.ext_getElem?
  intro k;rcases Nat.lt_or_ge k 21 with hk|hk
  .have h1:=congrArg (·[k%7]?) (h (k/7) (by omega))
   simp only[List.getElem?_take,List.getElem?_drop] at h1;rw[if_pos (Nat.mod_lt _ (by omega)),if_pos (Nat.mod_lt _ (by omega))] at h1;rw[show k/7*7+k%7=k by omega] at h1;exact h1
  .rw[List.getElem?_eq_none (by omega),List.getElem?_eq_none (by omega)]
 .rintro rfl i _;rfl
end
theorem AI:Tryz.prog.plainKey 9=true:=by kernel_rfl
theorem su:Tryz.prog.cellsOf 9=1:=by kernel_rfl
theorem xP:Tryz.prog.cellsOf 30=7:=by kernel_rfl
theorem ua:(Tryz.prog.info? 9).map (·.size)=some 1:=by kernel_rfl
theorem Ja:(Tryz.prog.info? 30).map (·.size)=some 7:=by kernel_rfl
theorem zL:(Tryz.prog.info? 31).map (·.size)=some 21:=by kernel_rfl
theorem mW:(Tryz.prog.info? 33).map (·.size)=some 21:=by kernel_rfl
theorem Cw:(Tryz.prog.underlying 31).map TypeDesc.isRow=some true:=by kernel_rfl
theorem o6:(Tryz.prog.underlying 33).map TypeDesc.isRow=some true:=by kernel_rfl
theorem Kx:Tryz.prog.underlying 30=some (.array 7 9):=by kernel_rfl
theorem Kw:Tryz.prog.underlying 31=some (.array 3 30):=by kernel_rfl
theorem Fg (op:BinOp)(x y:Operand)(a b:Array Value)(w:World):(eqGuard op 31 x y (.agg a) (.agg b)).run Tryz.prog w= .ok () w:=by
 cases op<;>kernel_rfl
theorem zn {n:Nat}{t:TypeId}(h:(Tryz.prog.info? t).map (·.size)=some n):∃i,Tryz.prog.info? t=some i:=by
 cases hi:Tryz.prog.info? t with
 |none=>simp[hi] at h
 |some i=>exact⟨i,rfl⟩
theorem Nk (xs ys:List (List UInt8))(hx:xs.length=21)(hy:ys.length=21)(w:World):(binOp .eql 31 (.agg (du xs)) (.agg (du ys))).run Tryz.prog w= .ok (.bool (xs==ys)) w:=by
 obtain⟨i,hi⟩:=zn ua;obtain⟨i7,Zg⟩:=zn Ja;rw[run_eql_struct,run_equalIn_array w 9999 _ _ Kw Zg,xP,sb w 9997 Kx i7 Zg xP i hi su AI Tryz.underlying9 xs ys _ (by intro j hj;rw[List.mem_range] at hj;omega),Lf xs ys hx hy];rfl
theorem KW (xs ys:List (List UInt8))(hx:xs.length=21)(hy:ys.length=21)(w:World):
  Calls Tryz.prog 25 #[.agg (du xs),.agg (du ys)] w fun e w'=>e= .returned (.bool (xs==ys))/\aO [] w w':=by
 go_enter Tryz.func25,Tryz.ntmps25;go_wp2_with (with_reducible first|refine bE rfl ?_|refine av 31 rfl ?_|refine dl 31 rfl ?_);refine aj.go (fH rfl 33 _ rfl (.agg (du xs)) rfl ?_);intro w1 b1 l1 f1 r1;go_wp2_with (with_reducible first|refine bE rfl ?_|refine av 31 rfl ?_|refine dl 31 rfl ?_)
 refine aj.go (fH rfl 33 _ rfl (.agg (du ys)) rfl ?_);intro w2 b2 l2 f2 r2;have q1:Row w2 b1 (du xs) 33:=f2.row r1;have q2:Row w2 b2 (du ys) 33:=r2;have fw:=f1.trans f2;clear r1 r2 f1 f2;have hxl:((du xs).toList.drop 0).take 21=(du xs).toList:=by rw[List.drop_zero];exact List.take_of_length_le (by rw[Array.length_toList,dm];omega)
 have hyl:((du ys).toList.drop 0).take 21=(du ys).toList:=by rw[List.drop_zero];exact List.take_of_length_le (by rw[Array.length_toList,dm];omega)
 go_wp2_with (with_reducible first|refine av 31 rfl ?_|refine dl 31 rfl ?_);refine aj.go (bU rfl 31 _ rfl b1 0 rfl Cw 21 zL _ _ q1 _ hxl (by rw[Array.length_toList,dm];exact hx) ?_);go_wp2_with (with_reducible first|refine av 31 rfl ?_|refine dl 31 rfl ?_)
 refine aj.go (bU rfl 31 _ rfl b2 0 rfl Cw 21 zL _ _ q2 _ hyl (by rw[Array.length_toList,dm];exact hy) ?_);go_wp2_with (with_reducible first|refine dl 31 rfl ?_);refine aj.go (cH rfl (.bool (xs==ys)) w2 (A8 .eql 31 31 _ _ rfl (.agg (du xs)) (.agg (du ys)) rfl rfl _ (Fg _ _ _ _ _ _) (Nk xs ys hx hy w2)) ?_);go_wp2_with fail;go_ret
 exact⟨rfl,fw⟩
end
section
open Go.RowKit Go.Lib Go.Sort
section
variable {L:List UInt8}{n:Nat}{m:dO}
theorem nr.loose (h:nr L n m){j:Nat}{b:List UInt8}(hj:j<n)(h0:j≠0)(hb:b.length=64)(hf:∀i f,m i=some f->j≠1+2*i/\j≠2+2*i):nr (bI L ((j:Int),b)) n m where
 len:=GJ L n h.len j hj b hb
 lo:=h.lo
 root:=by rw[jK L n h.len j hj b hb,if_neg (by omega),h.root]
 recs i f hm:=by
  have h1:=hf i f hm;rw[jK L n h.len j hj b hb,jK L n h.len j hj b hb,if_neg (by omega),if_neg (by omega),h.recs i f hm]
 lt:=h.lt
 good:=h.good
 inj:=h.inj
theorem xu {i:Nat}(hi:m i=none){j:Nat}(hj:j=1+2*i\/j=2+2*i):∀k f,m k=some f->j≠1+2*k/\j≠2+2*k:=by
 intro k f hk;have:k≠i:=fun e=>by subst e;rw[hi] at hk;cases hk
 omega
def qa (m:dO)(o:Int):dO:=if o=-1 then m else upd m o.toNat none
def after (m:dO)(i:Nat)(f:cX)(o:Int):dO:=qa (upd m i (some f)) o
theorem ri (m:dO)(o:Int)(ho:-1<=o/\o<54):fE (eu n m) o 0=eu n (qa m o):=by
 unfold fE qa;split
 .rfl
 .exact Cq n m o.toNat (by omega) none
theorem AR (m:dO)(i:Nat)(hi:i<54)(f:cX)(o:Int)(ho:-1<=o/\o<54):aZ (eu n m) i o=eu n (after m i f o):=by
 unfold aZ after;have:fE (eu n m) (i:Int) 1=eu n (upd m i (some f)):=by
  unfold fE;rw[if_neg (by omega)];exact Cq n m i hi (some f)
 rw[this,ri _ o ho]
theorem yD (m:dO)(o:Int)(ho:-1<=o/\o<54):aZ (eu n m) (-1) o=eu n (qa m o):=by
 unfold aZ;rw[show fE (eu n m) (-1) 1=eu n m from rfl,ri _ o ho]
theorem fR {m:dO}{o:Int}{j:Nat}{f:cX}(h:qa m o j=some f):m j=some f/\(0<=o->o.toNat≠j):=by
 unfold qa at h;split at h
 .exact⟨h,by omega⟩
 .unfold upd at h
  split at h
  .cases h
  .rename_i hne
   exact⟨h,fun _ e=>hne e.symm⟩
theorem qC {m:dO}{o:Int}{j:Nat}(h:o=-1\/(0<=o/\o≠j)):qa m o j=m j:=by
 unfold qa;split
 .rfl
 .unfold upd
  rw[if_neg (by omega)]
theorem nr.rooted (h:nr L n m){m':dO}(hn:0<n)(hr:∀i f,m' i=some f->kb L (1+2*i)++kb L (2+2*i)=cO f.set f.path f.content)(hl:∀i f,m' i=some f->i<aK n)
  (hg:∀i f,m' i=some f->iY f.set f.path=true/\f.content.length<=96) (hi:∀i j f g,m' i=some f->m' j=some g->nameOf f=nameOf g->i=j):nr (bI L (0,eu n m')) n m' where
 len:=GJ L n h.len 0 hn _ (iV _ _)
 lo:=h.lo
 root:=by
  have:=jK L n h.len 0 hn _ (iV n m') 0;rw[if_pos rfl] at this;exact this
 recs i f hm:=by
  have h1:=jK L n h.len 0 hn _ (iV n m') (1+2*i);have h2:=jK L n h.len 0 hn _ (iV n m') (2+2*i);rw[if_neg (by omega)] at h1 h2;show kb (bI L (((0:Nat):Int),eu n m')) _++kb (bI L (((0:Nat):Int),eu n m')) _=_;rw[h1,h2];exact hr i f hm
 lt:=hl
 good:=hg
 inj:=hi
theorem nr.dropped (h:nr L n m)(o:Int):nr (bI L (0,eu n (qa m o))) n (qa m o):=
 h.rooted (by have:=h.lo;omega) (fun i f hm=>h.recs i f (fR hm).1) (fun i f hm=>h.lt i f (fR hm).1) (fun i f hm=>h.good i f (fR hm).1)
  fun i j f g hf hg e=>h.inj i j f g (fR hf).1 (fR hg).1 e
theorem iA {m:dO}{i:Nat}{f:cX}{o:Int}{j:Nat}{g:cX}(h:after m i f o j=some g):(j=i/\g=f)\/(j≠i/\m j=some g/\(0<=o->o.toNat≠j)):=by
 unfold after at h;obtain⟨h1,h2⟩:=fR h;unfold upd at h1;split at h1
 .rename_i e
  exact .inl ⟨e,(Option.some.inj h1).symm⟩
 .rename_i e
  exact .inr ⟨e,h1,h2⟩
theorem nr.put (h:nr L n m){i:Nat}{f:cX}{o:Int}(hi:i<aK n)(hrec:kb L (1+2*i)++kb L (2+2*i)=cO f.set f.path f.content)
  (hg:iY f.set f.path=true/\f.content.length<=96) (ho:∀j g,m j=some g->nameOf g=nameOf f->o=j):nr (bI L (0,eu n (after m i f o))) n (after m i f o):=by
 refine h.rooted (by have:=h.lo;omega) (fun j g hm=>?_) (fun j g hm=>?_) (fun j g hm=>?_) fun j k g g' hj hk e=>?_
 .rcases iA hm with⟨rfl,rfl⟩|⟨_,h1,_⟩
  .exact hrec
  .exact h.recs j g h1
 .rcases iA hm with⟨rfl,rfl⟩|⟨_,h1,_⟩
  .exact hi
  .exact h.lt j g h1
 .rcases iA hm with⟨rfl,rfl⟩|⟨_,h1,_⟩
  .exact hg
  .exact h.good j g h1
 .rcases iA hj with⟨rfl,rfl⟩|⟨_,h1,h2⟩
  .rcases iA hk with⟨rfl,rfl⟩|⟨_,h3,h4⟩
   .rfl
   .have:=ho k g' h3 e.symm
    have:=h4 (by omega);omega
  .rcases iA hk with⟨rfl,rfl⟩|⟨_,h3,h4⟩
   .have:=ho j g h1 e
    have:=h2 (by omega);omega
   .exact h.inj j k g g' h1 h3 e
end
def half (r:List UInt8)(k:Nat):List UInt8:=(r.drop (k*64)).take 64
theorem Dk (r:List UInt8)(h:r.length=128)(k:Nat)(hk:k<2):(half r k).length=64:=by
 unfold half;rw[List.length_take,List.length_drop];omega
theorem halves (r:List UInt8)(h:r.length=128):half r 0++half r 1=r:=by
 unfold half;simp only[Nat.zero_mul,List.drop_zero,Nat.one_mul];rw[List.take_of_length_le (l:=r.drop 64) (by rw[List.length_drop];omega),List.take_append_drop]
def EJ (L:List UInt8)(i:Nat)(r:List UInt8):List UInt8:=bI (bI L ((1+2*i:Nat),half r 0)) ((2+2*i:Nat),half r 1)
section
variable (L:List UInt8)(a k kp:Int)(n s:Nat)(p c:ByteArray)(i:Nat)(o:Int)(root r:List UInt8)
theorem Lu (hr:cO s p.data.toList c.data.toList=r)
  (hfi:dU ⟨L,[],a,false,k,kp,false⟩ n=i) (hsl:cI ⟨L,[],a,false,k,kp,false⟩ s p (taken ⟨L,[],a,false,k,kp,false⟩ n)=o) (hroot:seenIn (EJ L i r) [] 0=root):
  (⟨L,[],a,false,k,kp,false⟩:DS).put n s p c=(⟨bI (EJ L i r) (0,aZ root i o),[],a+5,false,k,kp,false⟩,.int .i64 0):=by
 have e:bI (bI L ((1+2*i:Nat),List.take 64 r)) ((2+2*i:Nat),List.take 64 (List.drop 64 r))=EJ L i r:=by simp[EJ,half]
 unfold DS.put;rw[hfi,hsl,hr,if_neg (by omega)];simp[DS.jU,DS.nG,DS.wr,DS.write,DS.bn,DS.jk,DS.flush,DS.mark,DS.jw,cM,jv,DS.read];rw[show 1+2*(i:Int)=((1+2*i:Nat):Int) by omega,show((1+2*i:Nat):Int)+1=((2+2*i:Nat):Int) by omega,e,hroot];simp;omega
theorem CD (x:DS)(hsl:cI x s p (taken x n)=-1):x.remove n s p=(x,.int .i64 5):=by
 unfold DS.remove;rw[if_pos hsl]
theorem CF (hsl:cI ⟨L,[],a,false,k,kp,false⟩ s p (taken ⟨L,[],a,false,k,kp,false⟩ n)=o)(ho:o≠-1)(hroot:seenIn L [] 0=root):
  (⟨L,[],a,false,k,kp,false⟩:DS).remove n s p=(⟨bI L (0,aZ root (-1) o),[],a+2,false,k,kp,false⟩,.int .i64 0):=by
 unfold DS.remove;rw[hsl,if_neg ho];simp[DS.write,DS.bn,DS.jk,DS.flush,DS.mark,DS.jw,cM,jv,DS.read,hroot];omega
end
end
section
open Go.RowKit Go.Lib
def cellOf (r:Option (List UInt8)):List UInt8:=match r with
 |none=>[]
 |some c=>43::c
def DS.at (x:DS)(n q:Nat):Option (List UInt8):=x.content n ((q/7:Nat):Int) (dN (q%7))
def mg (c:Nat->Option (List UInt8))(q:Nat):List (List UInt8):=(List.range 21).map fun i=>if i<q then cellOf (c i) else []
def DS.state (x:DS)(n:Nat):List (List UInt8):=mg (x.at n) 21
theorem ft (c:Nat->Option (List UInt8))(q:Nat):(mg c q).length=21:=by simp[mg]
theorem Ig (c:Nat->Option (List UInt8))(q:Nat)(h:c q=none):mg c (q+1)=mg c q:=by
 unfold mg
 apply List.map_congr_left
 intro i _
 by_cases h1:i<q
 .rw[if_pos h1,if_pos (by omega)]
 .by_cases h2:i=q
  .subst h2
   rw[if_pos (by omega),if_neg h1,h];rfl
  .rw[if_neg h1,if_neg (by omega)]
theorem If (c:Nat->Option (List UInt8))(q:Nat)(t:List UInt8)(h:c q=some t):du (mg c (q+1))=(du (mg c q)).setIfInBounds q (.string (aB (43::t))):=by
 apply Array.ext_getElem?
 intro i;rw[Array.getElem?_setIfInBounds,dm,ft]
 by_cases h1:i<21
 .rw[nT _ i (by rw[ft];exact h1),nT _ i (by rw[ft];exact h1)]
  by_cases h2:q=i
  .subst h2
   rw[if_pos rfl,if_pos h1];simp[mg,h,cellOf]
  .rw[if_neg h2]
   by_cases h3:i<q
   .simp[mg,h3,show i<q+1 by omega]
   .simp[mg,h3,show ¬i<q+1 by omega]
 .rw[Array.getElem?_eq_none (by rw[dm,ft];omega),Array.getElem?_eq_none (by rw[dm,ft];omega)]
  by_cases h2:q=i
  .rw[if_pos h2,if_neg (by omega)]
  .rw[if_neg h2]
def vD:Value:= .agg (du (List.replicate 21 []))
theorem mC:(Tryz.prog.info? 33).map (·.zero)=some (some vD):=by kernel_rfl
def i9 (x:DS)(n s p:Nat):Nat:=((List.range p).filter fun k=>(x.content n s (dN k)).isSome).length
theorem Bb (x:DS)(n s p:Nat):i9 x n s (p+1)=i9 x n s p+if(x.content n s (dN p)).isSome then 1 else 0:=by
 unfold i9;rw[List.range_succ,List.filter_append,List.length_append];cases h:(x.content n s (dN p)).isSome<;>simp[h]
theorem Fz (x:DS)(n s p:Nat):i9 x n s p<=p:=by
 unfold i9;exact Nat.le_trans (List.length_filter_le _ _) (by simp)
theorem CT (c n:Nat)(h:c<n):br c n=c:=by
 unfold br;rw[if_neg (by omega),Int.emod_eq_of_lt (by omega) (by omega)];rfl
theorem DC {x:DS}{n:Nat}{s:Int}{p:ByteArray}{t:List UInt8}(h:x.content n s p=some t):(aB t).size<=96:=by
 unfold DS.content at h;split at h
 .cases h
  exact wv _
 .cases h
theorem aP.vo {w w':World}{S F:List Nat}{s d n:Nat}{x:DS}(h:aP w F s d n x)(f:aO S w w')(h1:s∉S)(h2:∀k∈S,k∉F):aP w' F s d n x:=⟨f.row h.row h1,h.disk.vo f h2,h.ne⟩
theorem Lz (t:List UInt8):(⟨#[43]⟩:ByteArray)++aB t=aB (43::t):=by
 apply ByteArray.ext
 rw[ByteArray.data_append];simp[aB]
section
variable {P:Program}{ops:Array Oper}{Q:Exit->Act->World->Prop}{a:Act}{w:World}{rest:List Oper}{o:Oper}
theorem Hs (hg:o.guard=none)(t:TypeId)(x y:Operand)(ho:o.op= .store t x y)(b off:Nat)(hx:a.eval x= .pointer (some ⟨b,off,none⟩))
  (v:ByteArray) (hy:a.eval y= .string v) (hi:(P.info? t).map (·.size)=some 1)
  (c:Array Value) (u:TypeId) (hr:Row w b c u) (hfit:off<c.size)
  (h:∀w1:World,aO [b] w w1->Row w1 b (c.setIfInBounds off (.string v)) u->wpList P ops Q rest (a.put o.dst undef) w1):wpList P ops Q (o::rest) a w:=by
 refine uZ hg (w.setCell ⟨b,off,none⟩ (.string v)) ?_ (h _ (aO.setCell _ _ _ _) (hr.setCell _ _));have hc:=hr.cell off;have hf:=hr.thaw off;have hs:c[off]? =some c[off]:=by simp[hfit]
 rw[hs] at hc;have hst:(store ((⟨b,off,none⟩:Addr).add 0) (.string v)).run P w= .ok () (w.setCell ⟨b,off,none⟩ (.string v)):=by
  rw[Addr.add_mid,Nat.add_zero,run_store P w _ _ _ rfl,hc];simp[hf]
 cases hq:P.info? t with
 |none=>simp[hq] at hi
 |some i=>
  have h1:i.size=1:=by simpa [hq] using hi
  simp[execOp,ho,hx,hy,Instr.storeAt,Instr.sureAddr,storeVar,sizeOf,typeInfo,hq,h1,Value.cells,storeCells,hst]
theorem Li {fn:Func}{R:Ending->World->Prop}{tp tq:Tmp}{ty:TypeId}(hf:fn.results=#[.cell tp ty,.tmp tq])(b:Nat)(hp:a.tmps.getD tp undef= .pointer (some ⟨b,0,none⟩))(hd:a.defers=[])
  (c:Array Value) (u:TypeId) (hr:Row w b c u) (hu:(P.underlying ty).map TypeDesc.isRow=some true) (hi:(P.info? ty).map (·.size)=some c.size) (v:Value) (hv:a.tmps.getD tq undef=v) (h:R (.returned (.tuple #[.agg c,v])) w):bodyPost P fn R .ret a w:=by
 obtain⟨d,hu',hd'⟩:=Option.map_eq_some_iff.1 hu;have hl:=run_loadVar_row (P:=P) w b u ty c (0,0) d hr hu' (by revert hd' hu';cases d<;>intro x y<;>first|rfl|cases y) hi;refine bodyPost_ret ?_ hd h;rw[results_cell_tmp hf,hp,hv];simp[asAddr,hl]
end
theorem KV (F:List Nat)(s d n:Nat)(x:DS)(w:World)(h:aP w F s d n x)(hf:x.failed=false)(hw:x.waiting=[])(hcnt:∀side,side<3->(bL (aQ x n) side).length=i9 x n side 7):
  Calls Tryz.prog 15 #[.pointer (some ⟨s,0,none⟩)] w fun e w'=>e= .returned (.tuple #[.agg (du (x.state n)),.bool true])/\aO [] w w':=by
 go_enter Tryz.func15,Tryz.ntmps15;go_wp2_with (with_reducible first|refine ax rfl ?_);refine aj.go (bm rfl 33 rfl vD mC ?_);intro w1 b2 l2 f1 r2;go_wp2_with (with_reducible first|refine ax rfl ?_);refine aj.go (bm rfl 33 rfl vD mC ?_);intro w2 b4 l4 f2 r4;have q2:Row w2 b2 (du (List.replicate 21 [])) 33:=f2.row r2
 have q4:Row w2 b4 (du (mg (x.at n) 0)) 33:=r4;have hne:b2≠b4:=by have:=r2.lt;omega
 have fw:=f1.trans f2;have h2:=h.new fw;have hb4:w.heap.size<=b4:=by have:=f1.size;omega
 have acE:s≠b4/\b4∉F:=⟨by have:=h.row.lt;omega,fun hF=>by have:=h.disk.lt b4 hF;omega⟩
 clear r2 r4 f1 f2 h l4;go_wp2_with fail
 go_loopw [5] (fun i wr=>∃k:Nat,i= .int .i64 k/\k<=3/\aO [] w wr/\Row wr b2 (du (List.replicate 21 [])) 33/\Row wr b4 (du (mg (x.at n) (7*k))) 33/\aP wr F s d n x) (fun i _=>3-(intOf i).toNat)
 case atStart=>exact⟨0,rfl,by omega,fw,q2,q4,h2⟩
 case round=>
  obtain⟨k,rfl,hk,fk,k2,k4,hst⟩:=hrel;clear fw q2 q4 h2
  by_cases hlt:k<3
  .go_wp2_with fail
   refine(L7 F s d n x k wr hst (by omega)).mono ?_;rintro e w3 ⟨⟨ad,cap,rfl⟩,f3⟩;have ab8:=hst.new f3;have S3:=fk.trans f3;have k23:=f3.row k2;have k43:=f3.row k4;have hcn:=hcnt k hlt;rw[hf];generalize hLN:(bL (aQ x n) k).length=ln at hcn⊢;have HCN:Hid (i9 x n k 7=ln):=hcn.symm;clear hLN f3 fk k2 k4 hst hcn hcnt
   simp only[Bool.false_eq_true,if_false];go_wp2_with fail;rw[show decide ((k:Int)<3)=true from decide_eq_true (by omega)]
   go_loopw [8,9] (fun c i w1=>∃p:Nat,i= .int .i64 p/\p<=7/\c= .int .i64 (i9 x n k p)/\aO [] w w1/\Row w1 b2 (du (List.replicate 21 [])) 33/\Row w1 b4 (du (mg (x.at n) (7*k+p))) 33/\aP w1 F s d n x) (fun _ i _=>7-(intOf i).toNat)
   case atStart=>exact⟨0,rfl,by omega,rfl,S3,k23,k43,ab8⟩
   case round=>
    obtain⟨p,rfl,hp,rfl,fp,p2,p4,hsp⟩:=hrel;clear S3 k23 k43 ab8
    by_cases hlt2:p<7
    .have hcs:=Bb x n k p
     have hcl:=Fz x n k p;have hpo:=wN p hlt2;have hpk:br p 7=p:=CT p 7 hlt2;have hat:x.at n (7*k+p)=x.content n k (dN p):=by
      unfold DS.at
      rw[show(7*k+p)/7=k by omega,show(7*k+p)%7=p by omega]
     have hget:x.get n k (dN p)=match x.content n k (dN p) with|none=>((.string ⟨#[]⟩,5):Value×Int)|some c=>(.string (aB c),0):=by
      unfold DS.get;rw[hf];rfl
     have HCS:Hid (i9 x n k (p+1)=i9 x n k p+if(x.content n k (dN p)).isSome then 1 else 0):=hcs;generalize i9 x n k p=cn at hcl HCS;clear hcs;go_wp2_with fail;refine(dy p wr (by omega) (by omega)).mono ?_;rintro e w4 ⟨rfl,rfl⟩;rw[hpk];go_wp2_with fail;refine(GY F s d n x k (dN p) w4 hsp (by omega) hpo.1 (by omega)).mono ?_;rintro e w5 ⟨rfl,f5⟩;have hs5:=hsp.new f5
     have fp5:=fp.trans f5;have p25:=f5.row p2;have p45:=f5.row p4;rw[hget];clear hget f5 fp p2 p4 hsp hpk;cases hc:x.content n k (dN p) with
     |none=>
      rw[hc] at hat HCS;have e1:=Ig (x.at n) (7*k+p) hat;rw[<-e1] at p45;go_wp2_with fail
      go_roundw
      case rel=>exact⟨p+1,by go_num,by omega,by rw[HCS.out];rfl,fp5,p25,p45,hs5⟩
      case measure=>simp[intOf];omega
     |some t=>
      rw[hc] at hat HCS;have HE:Hid (du (mg (x.at n) (7*k+p+1))=(du (mg (x.at n) (7*k+p))).setIfInBounds (7*k+p) (.string (aB (43::t)))):=If (x.at n) (7*k+p) t hat;have hpl:=Lz t;have hsz:(aB t).size<=96:=DC hc;go_wp2_with (with_reducible first|refine af 9 rfl ?_)
      refine aj.go (Hs rfl 9 _ _ rfl b4 (k*7+p) rfl (aB (43::t)) rfl ua _ _ p45 (by rw[dm,ft];omega) ?_);intro w6 f6 q6;have fp6:=fp5.trans f6 (by simpa using hb4);have p26:=f6.row p25 (by simpa using hne);rw[show k*7+p=7*k+p by omega,<-HE.out] at q6;have hs6:aP w6 F s d n x:=hs5.vo f6 (by simpa using acE.1) (by simpa using acE.2)
      clear p25 p45 fp5 hs5 f6 hpl hsz;go_wp2_with fail
      go_roundw
      case rel=>exact⟨p+1,by go_num,by omega,by rw[HCS.out];rfl,fp6,p26,q6,hs6⟩
      case measure=>simp[intOf];omega
    .obtain rfl:p=7:=by omega
     rw[HCN.out];go_wp2_with fail
     go_roundw
     case rel=>exact⟨k+1,by go_num,by omega,fp,p2,by rw[show 7*(k+1)=7*k+7 by omega];exact p4,hsp⟩
     case measure=>simp[intOf];omega
  .obtain rfl:k=3:=by omega
   go_wp2_with (with_reducible first|refine av 33 rfl ?_|refine af 33 rfl ?_);have ahb:((du (mg (x.at n) (7*3))).toList.drop 0).take 21=(du (mg (x.at n) (7*3))).toList:=by rw[List.drop_zero];exact List.take_of_length_le (by rw[Array.length_toList,dm,ft];omega)
   refine aj.go (bU rfl 33 _ rfl b4 0 rfl o6 21 mW _ _ k4 _ ahb (by rw[Array.length_toList,dm,ft]) ?_);go_wp2_with (with_reducible first|refine af 33 rfl ?_);refine aj.go (bR rfl 33 _ _ rfl _ 0 rfl _ rfl 21 mW ?_ ?_ _ _ k2 ?_ ?_)
   .rw[List.size_toArray,Array.length_toList,dm,ft]
   .simp[du,Value.oneCell']
   .rw[dm];decide
   intro w6 f6 q6;rw[bM _ _ (by simp only[Array.length_toList,dm,ft,List.length_replicate])] at q6;simp only[Array.toArray_toList] at q6;have G3:=fk.trans f6 (by simpa using l2);clear k2 k4 hst f6;go_wp2_with fail;exact Li rfl b2 rfl rfl _ _ q6 o6 (by rw[dm,ft];exact mW) _ rfl ⟨rfl,G3⟩
theorem D6 {P:Program}{ops:Array Oper}{Q:Exit->Act->World->Prop}{n m:Nat}{l:List Nat}{a:Act}{w:World}(i j k:Nat)(hr:Region.ready .any ops (marks n l)=[i,j,k])(hi:i<n)(hj:j<n)(hk:k<n)(h1:Step P ops Q n m l i a w)(h2:Step P ops Q n m l j a w)(h3:Step P ops Q n m l k a w):x8 P ops Q n (m+1) l a w:=
 FV [i,j,k] (by simp) hr (by simp[hi,hj,hk]) (by simp[h1,h2,h3])
theorem yP (s:ByteArray):(dg s).size<=96:=by
 unfold dg;split
 .rw[ByteArray.size_extract];omega
 .omega
def eE (k sd pt:Int)(ct:ByteArray):Array Value:=#[.int .i64 k,.int .i64 sd,.int .i64 pt,.string ct]
def DS.act (x:DS)(n:Nat)(k sd pt:Int)(ct:ByteArray):DS×Value:=
 if br k 4=2 then x.gj n (br sd 2) (dN (br pt 7)) else x.ql n (br sd 2) (dN (br pt 7)) (dg ct)
end
section
open Go.RowKit Go.Lib Go.Sort
theorem DD (c:ByteArray):(dg c).data.toList.length<=96:=by
 unfold dg;split
 .have:(c.extract 0 96).size<=96:=by rw[ByteArray.size_extract];omega
  simpa using this
 .have:c.size<=96:=by omega
  simpa using this
theorem EP (k:Nat)(hk:k<7)(s:Nat)(hs:s<=2):iY s (cB k)=true:=by
 unfold iY;rw[if_pos (by omega)];exact(wN k hk).1
theorem IN (k:Nat)(hk:k<7):cB k∈P7:=wV.2 ⟨k,hk,rfl⟩
theorem Dm (x:DS)(n:Nat)(h:x.waiting=[]):dU x n=dV (kb x.aS 0) (aK n) (aK n) 0:=by
 unfold dU;rw[sS x h]
section
variable {L:List UInt8}{n:Nat}{m:dO}
theorem owner (h:nr L n m)(s:Nat)(p:List UInt8):∃o:Int,(∀x:DS,x.aS=L->x.waiting=[]->cI x s (aB p) (taken x n)=o)/\-1<=o/\o<54/\(∀j g,m j=some g->nameOf g=(s,p)->o=j)/\(o≠-1->∃g,m o.toNat=some g/\nameOf g=(s,p)):=by
 by_cases hx:∃j g,m j=some g/\nameOf g=(s,p)
 .obtain⟨j,g,hg,e⟩:=hx
  have hlt:=h.lt j g hg;have:=pk n;have e':=e;unfold nameOf at e';simp only[Prod.mk.injEq] at e';refine⟨j,fun x hl hw=>?_,by omega,by omega,fun k g' hk ek=>?_,fun _=>⟨g,by simpa using hg,e⟩⟩
  .subst hl
   have:=Cy h hw hg;rw[e'.1,e'.2] at this;exact this
  .rw[h.inj k j g' g hk hg (ek.trans e.symm)]
 .refine⟨-1,fun x hl hw=>?_,by omega,by omega,fun j g hg e=>absurd ⟨j,g,hg,e⟩ hx,fun h=>absurd rfl h⟩
  subst hl;exact qr h hw s p fun j g hg e=>hx ⟨j,g,hg,e⟩
end
theorem ID (n:Nat)(h:16<=n):nr (fl n) n fun _=>none where
 len:=by unfold fl;rw[List.length_append,jE,List.length_replicate];omega
 lo:=h
 root:=by
  unfold fl kb;rw[Nat.mul_zero,List.drop_zero,List.take_append_of_le_length (by rw[jE];omega),List.take_of_length_le (by rw[jE];omega)];have:=EI n (fun _=>none) 0 (by simp);rw[<-this];rfl
 recs:=fun i f hm=>by cases hm
 lt:=fun i f hm=>by cases hm
 good:=fun i f hm=>by cases hm
 inj:=fun i j f g hm=>by cases hm
end
section
open Go.RowKit Go.Lib
theorem aO.cell {S:List Nat}{w w':World}(h:aO S w w'){a:Addr}{v:Value}(hc:w.cell? a=some v)(ha:a.block∉S):w'.cell? a=some v:=by
 unfold World.cell? at hc⊢;cases hb:w.heap[a.block]? with
 |none=>rw[hb] at hc;cases hc
 |some o=>
  rw[h.block a.block (Array.getElem?_eq_some_iff.1 hb).1 ha,hb];rw[hb] at hc;exact hc
structure pK where
 kind:Int
 side:Int
 path:Int
 content:ByteArray
def xx (x:Int):Prop:=-9223372036854775808<=x/\x<=9223372036854775807
def pK.Ok (a:pK):Prop:=xx a.kind/\xx a.side/\xx a.path
def pK.cells (a:pK):Array Value:=eE a.kind a.side a.path a.content
def Oq (w:World)(ad:Option Addr)(l:List pK):Prop:=∀j,(hj:j<l.length)->(l[j]).Ok/\∃b off,ad=some ⟨b,off,none⟩/\w.rangeAt b (off+j*4) (l[j]).cells.toList
theorem Dd:(Tryz.prog.info? 24).map (·.size)=some 4:=by kernel_rfl
def DS.calm (L:List UInt8)(a:Int):DS:=⟨L,[],a,false,0,0,false⟩
theorem xy (L:List UInt8)(a:Int)(r:Nat)(h0:0<=a)(h1:a+r<=1000000000):(DS.calm L a).Fit r:=⟨h0,h1,by show(0:Int)<=0;omega,by show(0:Int)<=_;omega⟩
def xz:ByteArray:=⟨#[102,105,114,115,116]⟩
section
variable {P:Program}{ops:Array Oper}{Q:Exit->Act->World->Prop}{a:Act}{w:World}{rest:List Oper}{o:Oper}
theorem Kp (hg:o.guard=none)(t:TypeId)(x:Operand)(ho:o.op= .load t x)(b off:Nat)(hx:a.eval x= .pointer (some ⟨b,off,none⟩))
  (hu:(P.underlying t).map TypeDesc.isRow=some true) (vs:Array Value) (hi:(P.info? t).map (·.size)=some vs.size) (hr:w.rangeAt b off vs.toList)
  (h:wpList P ops Q rest (a.put o.dst (.agg vs)) w):wpList P ops Q (o::rest) a w:=by
 obtain⟨d,hu',hd⟩:=Option.map_eq_some_iff.1 hu;exact wpList_load_mid hg t x ho b off hx vs.toList d hr hu' hd (by rw[hi,Array.length_toList]) h
end
theorem Row.range {w:World}{b:Nat}{c:Array Value}{t:TypeId}(h:Row w b c t):w.rangeAt b 0 c.toList:=fun j v hj=>by
 rw[Nat.zero_add,h.cell,<-Array.getElem?_toList];exact hj
section
variable {P:Program}{ops:Array Oper}{Q:Exit->Act->World->Prop}{a:Act}{w:World}{rest:List Oper}{o:Oper}
theorem BA (hg:o.guard=none)(t:TypeId)(x:Operand)(ho:o.op= .load t x)(b:Nat)(hx:a.eval x= .pointer (some ⟨b,0,none⟩))
  (hu:(P.underlying t).map TypeDesc.isRow=some true) (c:Array Value) (u:TypeId) (hr:Row w b c u) (hi:(P.info? t).map (·.size)=some c.size)
  (h:wpList P ops Q rest (a.put o.dst (.agg c)) w):wpList P ops Q (o::rest) a w:=
 Kp hg t x ho b 0 hx hu c hi hr.range h
theorem fY (hg:o.guard=none)(t:TypeId)(x y:Operand)(ho:o.op= .store t x y)(b:Nat)(hx:a.eval x= .pointer (some ⟨b,0,none⟩))
  (cells:Array Value) (hy:a.eval y= .agg cells) (hi:(P.info? t).map (·.size)=some cells.size) (h1:∀v∈cells.toList,v.oneCell'=true)
  (c:Array Value) (u:TypeId) (hr:Row w b c u) (hc:c.size=cells.size)
  (h:∀w1:World,aO [b] w w1->Row w1 b cells u->wpList P ops Q rest (a.put o.dst undef) w1):wpList P ops Q (o::rest) a w:=by
 refine bR hg t x y ho b 0 hx cells hy cells.size hi rfl h1 c u hr (by omega) fun w1 f1 r1=>h w1 f1 ?_
 rw[bM _ _ (by rw[hc,Array.length_toList]),Array.toArray_toList] at r1;exact r1
end
theorem BX (l:List (List UInt8)):∀v∈(du l).toList,v.oneCell'=true:=by simp[du,Value.oneCell']
theorem KU (F:List Nat)(s d n:Nat)(x:DS)(m:dO)(w:World)(h:aP w F s d n x)(hf:x.failed=false)(hw:x.waiting=[])(hr:nr x.aS n m)(h7:Seven m):
  Calls Tryz.prog 15 #[.pointer (some ⟨s,0,none⟩)] w fun e w'=>e= .returned (.tuple #[.agg (du (x.state n)),.bool true])/\aO [] w w':=
 KV F s d n x w h hf hw fun side _=>Ex hr hw h7 side
end
section
open Go.RowKit Go.Lib Go.Sort
open Go.Conc (base G)
def pJ (w:World):Prop:=∃c t f,w.heap[0]? =some (.cells c t f)/\∀v∈c,∀r,¬Value.Has r v
theorem pJ.blk {S:List Nat}{w w':World}(h:pJ w)(f:eO S w w')(h0:0∉S):pJ w':=by
 obtain⟨c,t,fz,h1,h2⟩:=h;exact⟨c,t,fz,(f.block 0 (Array.getElem?_eq_some_iff.1 h1).1 h0).trans h1,h2⟩
theorem ci.zero {F F':List Nat}{w:World}(g:ci F F' w)(hg:pJ w)(h:0∉F):0∉F':=fun h0=>by
 obtain⟨c,t,fz,h1,h2⟩:=hg;have:=(Array.getElem?_eq_some_iff.1 h1).1;rcases g 0 h0 with q|q
 .exact h q
 .omega
theorem aP.ay {w:World}{F:List Nat}{s d n:Nat}{x:DS}(h:aP w F s d n x)(t:Go.Proofs.YtchcmhodnkgojaaGreat.d7)(k:Nat):aP (ay w t k) F s d n x:=by
 obtain⟨h1,⟨bl,vw,⟨a1,a2,a3,a4,a5,a6,a7,a8,a9,a10,a11,a12,a13⟩,hF⟩,h3⟩:=h;exact⟨h1,⟨bl,vw,⟨a1,a2,a3,a4,a5,a6,a7,a8,a9,a10,a11,a12,a13⟩,hF⟩,h3⟩
theorem bD.blk {w w':World}{S:List Nat}{d bl n:Nat}{vw:Value}{x:DS}(h:bD w d bl n vw x)(f:eO S w w')(h1:d∉S)(h2:bl∉S)(h3:∀k∈S,vw.ownBlock≠some k):bD w' d bl n vw x:=
 {h with row:=(f.block d h.row.lt h1).trans h.row,last:=(f.block bl h.last.lt h2).trans h.last,own:=World.ownsRow.ahM h.own f fun g hg hS=>h3 g hS hg}
theorem aP.blk {w w':World}{F S:List Nat}{s d n:Nat}{x:DS}(h:aP w F s d n x)(f:eO S w w')(h1:s∉S)(h2:∀k∈S,k∉F):aP w' F s d n x:=by
 obtain⟨bl,vw,hd,rfl⟩:=h.disk;exact⟨(f.block s h.row.lt h1).trans h.row,⟨bl,vw,hd.blk f (fun e=>h2 _ e (by simp)) (fun e=>h2 _ e (by simp)) (fun k hk e=>h2 k hk (by simp[e])),rfl⟩,h.ne⟩
theorem aP.rd {w:World}{F:List Nat}{s d n:Nat}{x:DS}(h:aP w F s d n x)(hg:pJ w)(hw:x.waiting=[]):∃bl,aH.fB d bl n x w:=by
 obtain⟨bl,vw,hd,rfl⟩:=h.disk;have:=hd.nil hw;subst this;exact⟨bl,⟨⟨_,hd.row⟩,⟨_,hd.last⟩,hg,hd.len,hd.lo,hd.hi,hw⟩⟩
def sC (x:DS)(n:Nat)(ps:List (List UInt8)):Prop:=ps.Pairwise (·<=·)/\ps.Nodup/\∀l,l∈ps↔aH.comb (gU x n 0 (aB l)) (gU x n 1 (aB l))≠none
theorem ze {ps:List (List UInt8)}(h:ps.Pairwise (·<=·))(hn:ps.Nodup):ps.Pairwise (·<·):=
 (h.and hn).imp fun {a b} hab=>by
  rcases List.le_iff_lt_or_eq.1 hab.1 with q|q
  .exact q
  .exact absurd q hab.2
theorem ym (fa fb:aH.iK){ps:List (List UInt8)}(h:ps.Pairwise (·<·)):(ir fa fb ps).Pairwise fun p q=>p.1<q.1:=by
 unfold ir;refine List.Pairwise.filterMap _ (fun a b hab p hp q hq=>?_) h;obtain⟨_,_,rfl⟩:=Option.map_eq_some_iff.1 hp;obtain⟨_,_,rfl⟩:=Option.map_eq_some_iff.1 hq;exact hab
def eG (x:DS)(n:Nat)(ps:List (List UInt8)):List (List UInt8×Nat):=ir (gU x n 0) (gU x n 1) ps
def lD (x:DS)(n:Nat)(ps:List (List UInt8)):List (List UInt8):=jA (gU x n 0) (gU x n 1) ps
theorem ew:(Tryz.prog.info? 58).map (·.size)=some 2:=by kernel_rfl
def fX:Value:= .agg #[.int .i64 0,.slice none 0 0]
theorem jI:(Tryz.prog.info? 58).map (·.zero)=some (some fX):=by kernel_rfl
theorem mP {fn:Func}{tp tq:Tmp}{ty:TypeId}(hf:fn.results=#[.cell tp ty,.tmp tq])(tmps:Array Value)(w:World)(b:Nat)(c:Array Value)(u:TypeId)(hp:tmps.getD tp undef= .pointer (some ⟨b,0,none⟩))
  (hr:Row w b c u) (hu:(Tryz.prog.underlying ty).map (fun d=>match d with|.struct _|.array _ _=>true|_=>false)=some true) (hi:(Tryz.prog.info? ty).map (·.size)=some c.size):(results fn tmps).run Tryz.prog w= .ok (.tuple #[.agg c,tmps.getD tq undef]) w:=by
 obtain⟨d,hu',hd'⟩:=Option.map_eq_some_iff.1 hu;have hp':tmps[tp]?.getD undef= .pointer (some ⟨b,0,none⟩):=by simpa using hp
 have hl:=run_loadVar_row w b u ty c (0,0) d hr hu' (by revert hd' hu';cases d<;>intro x y<;>first|rfl|cases y) hi;simp[results,hf,hp',asAddr,hl]
theorem adI {E:az.Env}{f:FuncId}{k:List Item}{R:Act->World->Prop}{a:Act}{wL:World}{ops:Array Oper}{i:Nat}{rest:List Nat}{o:Oper}(t:TypeId)(x:Operand)(ho:ops[i]? =some o)(hop:o.op= .load t x)(sD:lU az.PP S0 E0 true o=true)(hg:o.guard=none)
  (ha:(Tryz.prog.underlying t).map (fun d=>match d with|.struct _|.array _ _=>true|_=>false)=some false) (b:Addr) (hx:a.eval x= .pointer (some b)) (v:Value) (hc:wL.cell? b=some v)
  (h:az.CI E f (.inRegion ops rest::k) R (a.put o.dst v) wL):az.CI E f (.inRegion ops (i::rest)::k) R a wL:=by
 refine aH.Sq.ng (w1:=wL) v ho hg (fun t' d=>?_) h (sD:=sD);have hc':(ay wL t' d).cell? b=some v:=hc;have h1:aH.RT (kZ.load t (.pointer (some b))).sem (ay wL t' d) (.value v) (ay wL t' d) #[⟨.cell b,false,false⟩]:=by
  refine aH.RT.eI (x:=v) ?_ (.pure _);show aH.RT (do if<-isAgg t then Pure.pure (.agg (<-loadCells b (<-Go.sizeOf t))) else load b) _ _ _ _;refine(aH.gX ha).aN ?_;simp only[Bool.false_eq_true,if_false];exact aH.kf hc'
 have:=h1.run;unfold execOp;rw[hop];show(do pure (.value (<-Instr.loadAt t (a.eval x))):Sem Next).run _ _=_;rw[hx];exact this
theorem Rx {E:az.Env}{f:FuncId}{k:List Item}{R:Act->World->Prop}{a:Act}{wL:World}{ops:Array Oper}{l:List Nat}(m:Nat)(hl:l=List.range' m (ops.toList.drop m).length)(h0:∃fn,az.PP.funcs[f]? =some fn)(Br:AO az.PP S0 E0 true (.inRegion ops l)=true)
  (I:World->Prop) (hb:∀w t d,I w->I (ay w t d)) (hI:I wL) (hwp:∀w,I w->w.heap.size=wL.heap.size->wpList az.PP ops (az.after E none f k R) (ops.toList.drop m) a w):az.CI E f (.inRegion ops l::k) R a wL:=by
 refine az.Rz none h0 Br (by simp) I hb hI fun w h1 h2=>?_
 rw[hl,wpOps_eq_wpList (ops.toList.drop m) m fun j=>by rw[List.getElem?_drop,Array.getElem?_toList]];exact hwp w h1 h2
structure Bl (x:DS)(n:Nat):Prop where
 wait:x.waiting=[]
 fit:x.failed=false->x.Fit 105
 steps:∀ps,sC x n ps->(eG x n ps).length<=7/\pj (eG x n ps)/\(qN (x.begin n (eG x n ps)).2=0->(x.begin n (eG x n ps)).1.content n 3 ⟨#[]⟩=some (de (eG x n ps)))
def yB (x:DS)(n:Nat):Int:=if x.failed then 3 else if x.pending n then 4 else 0
def uz (F:List Nat)(s d n:Nat)(x:DS)(wL:World)(v:Value)(w':World):Prop:=
 (yB x n≠0/\v= .tuple #[fX,.int .i64 (yB x n)]/\aP w' F s d n x/\eO [] wL w')\/
 (yB x n=0/\∃ps F',sC x n ps/\aP w' F' s d n (x.xE n (eG x n ps)).1/\ci F F' wL/\eO F wL w'/\
  ((∃cv,(x.xE n (eG x n ps)).2= .int .i64 0/\v= .tuple #[.agg #[.int .i64 (eG x n ps).length,cv],.int .i64 0]/\w'.ownsRow wL.heap.size 9 1 cv (lD x n ps).length (dj (lD x n ps))/\∀g,cv.ownBlock=some g->g∉F')\/
   (∃e:Int,e≠0/\(x.xE n (eG x n ps)).2= .int .i64 e/\v= .tuple #[fX,.int .i64 e])))
open aH aH.Sq in
theorem vv {E:az.Env}{wL:World}{F:List Nat}{s d n:Nat}{x:DS}(h:aP wL F s d n x)(hG:pJ wL)(h0:0∉F)(hok:Bl x n):
  az.CC E 31 #[.pointer (some ⟨s,0,none⟩)] (uz F s d n x wL) wL:=by
 refine az.mz Tryz.func31 rfl ?_;refine az.eK ?_;refine tj {tmps:=#[.pointer (some ⟨s,0,none⟩),undef,undef,undef,undef,undef,undef,undef,undef,undef,undef,undef,undef,undef,undef,undef,undef,undef,undef,undef,undef,undef,undef,undef,undef,undef,undef,undef,undef,undef,undef,undef,undef],defers:=[]} (by kernel_rfl) ?_
 refine az.fo none ⟨_,Tryz.func31⟩ (by kernel_rfl) (by simp) (fun w=>aP w F s d n x/\eO [] wL w) (fun w t k h=>⟨h.1.ay t k,h.2.tape t k⟩) ⟨h,eO.refl _ _⟩ fun w hI hsz=>?_
 obtain⟨hS,hB⟩:=hI;go_wp2_with (with_reducible first|refine ax rfl ?_);refine aj.go (bm rfl 58 rfl _ jI ?_);intro w1 b2 l2 f2 r2;have hS1:=hS.new f2;have hB1:=hB.trans f2.blk;have hb2:b2∉F:=fun hb=>by have:=hS.disk.lt b2 hb;omega
 have Xi:s≠b2:=by have:=hS.row.lt;omega
 have ahn:wL.heap.size<=b2:=by omega
 clear hS hB f2;go_wp2_with fail;refine az.eK (az.fo none ⟨_,Tryz.func31⟩ (by kernel_rfl) (by simp) (fun w=>aP w F s d n x/\eO [] wL w/\Row w b2 fX.cells 58) (fun w t k h=>⟨h.1.ay t k,h.2.1.tape t k,h.2.2⟩) ⟨hS1,hB1,r2⟩ fun w2 hI hsz2=>?_);obtain⟨hS2,hB2,r2'⟩:=hI;clear hS1 hB1 r2 hsz2;go_wp2_with fail;refine(lV F s d n x w2 hS2).mono ?_;rintro e w3 ⟨rfl,f3⟩
 have Zj:=hS2.new f3;have hB3:=hB2.trans f3.blk;have r3:Row w3 b2 fX.cells 58:=f3.row r2';have HE:Hid (yB x n=(if x.failed then 3 else if x.pending n then 4 else 0)):=rfl;obtain⟨e0,he0⟩:∃e0:Int,(if x.failed then 3 else if x.pending n then 4 else 0)=e0:=⟨_,rfl⟩
 rw[he0] at HE⊢;clear he0 hS2 hB2 f3 r2'
 by_cases Kf:e0=0
 .subst Kf
  go_wp2_with fail;have hG3:pJ w3:=hG.blk hB3 (by simp);obtain⟨bl,hrd⟩:=Zj.rd hG3 hok.wait
  refine az.eK (az.dZ (eZ _ rfl (.inr rfl) rfl (ng (w1:=w3) (.pointer (some ⟨s,0,none⟩)) rfl rfl (fun t d=>by kernel_rfl) (ng (w1:=w3) (.pointer (some ⟨s,0,none⟩)) rfl rfl (fun t d=>by kernel_rfl) (adI _ _ rfl rfl (by kernel_rfl) rfl (by kernel_rfl) ⟨s,0,none⟩ rfl (.pointer (some ⟨d,0,none⟩)) Zj.cell ?_)))))
  refine kV (f2:=55) #[.tmp 18] #[.pointer (some ⟨d,0,none⟩)] (R2:=Tt x n w3) rfl rfl (by kernel_rfl) (fun b w=>by kernel_rfl) (by kernel_rfl) (RE hrd) fun v w4 hR agX=>?_
  obtain⟨ps,sv,cv,p1,p2,p3,rfl,hB4,ho1,ho2⟩:=hR;refine eZ _ rfl (.inr rfl) rfl (ng (w1:=w4) sv rfl rfl (fun t d=>by kernel_rfl) (ng (w1:=w4) cv rfl rfl (fun t d=>by kernel_rfl) (eZ _ rfl (.inl rfl) rfl (eZ _ rfl (.inl rfl) rfl (az.cG ?_)))));have hP:sC x n ps:=⟨p1,p2,p3⟩
  have hss:=hok.steps ps hP;have hst:(eG x n ps).Pairwise fun p q=>p.1<q.1:=ym _ _ (ze p1 p2)
  have Xc:w4.ownsRow w3.heap.size 168 2 sv (eG x n ps).length (cz (eG x n ps)):=ho1;have Fa:w4.ownsRow w3.heap.size 9 1 cv (lD x n ps).length (dj (lD x n ps)):=ho2;have hS4:aP w4 F s d n x:=Zj.blk hB4 (by simp) (by simp);have r4:Row w4 b2 fX.cells 58:=(hB4.block b2 r3.lt (by simp)).trans r3;have acL:=hB3.trans hB4
  have hL3:wL.heap.size<=w3.heap.size:=hB3.size;have hFl:=Zj.disk.lt;have hfit:x.Fit 105:=hok.fit (by
   have:=HE.out;unfold yB at this;cases hf:x.failed with
   |false=>rfl
   |true=>rw[hf] at this;simp at this)
  generalize ab9:eG x n ps=ss at*;generalize hcs':lD x n ps=cs at*;clear ho1 ho2 p1 p2 p3 Zj hB3 r3 hG3 hrd hB4;obtain⟨ad,cap,hsv⟩:=ce Xc;obtain⟨Oc,cap2,hcv⟩:=ce Fa;subst hsv hcv
  refine tj {tmps:=#[.pointer (some ⟨s,0,none⟩),undef,.pointer (some ⟨b2,0,none⟩),.int .i64 0,.int .i64 0,.slice ad ss.length cap,.slice Oc cs.length cap2,undef,.pointer (some ⟨s,0,none⟩),.int .i64 0,.int .i64 0,.bool false,undef,undef,.tuple #[.slice ad ss.length cap,.slice Oc cs.length cap2],.pointer (some ⟨s,0,none⟩),.pointer (some ⟨s,0,none⟩),.pointer (some ⟨s,0,none⟩),.pointer (some ⟨d,0,none⟩),.tuple #[.slice ad ss.length cap,.slice Oc cs.length cap2],.slice ad ss.length cap,.slice Oc cs.length cap2,undef,undef,undef,undef,undef,undef,undef,undef,undef,undef,undef],defers:=[]} (by kernel_rfl) ?_
  refine az.fo none ⟨_,Tryz.func31⟩ (by kernel_rfl) (by simp) (fun w=>aP w F s d n x/\eO [] wL w/\Row w b2 fX.cells 58/\w.ownsRow w3.heap.size 168 2 (.slice ad ss.length cap) ss.length (cz ss)/\w.ownsRow w3.heap.size 9 1 (.slice Oc cs.length cap2) cs.length (dj cs)) (fun w t k h=>⟨h.1.ay t k,h.2.1.tape t k,h.2.2⟩) ⟨hS4,acL,r4,Xc,Fa⟩ fun w5 hI hsz5=>?_
  obtain⟨hS5,Zk,r5,Bt,Zi⟩:=hI;clear hS4 acL r4 Xc Fa agX hsz5;have apart:∀{v:Value} {e:TypeId} {m k:Nat} {l:List Value},w5.ownsRow w3.heap.size e m v k l->∀g,v.ownBlock=some g->g∉F:=fun ho g hg hF=>by
   have:=(ho.lt g hg).1;have:=hFl g hF;omega
  have HD:Hid (eG x n ps=ss/\lD x n ps=cs):=⟨ab9,hcs'⟩
  clear ab9 hcs';obtain⟨e5,he5⟩:=Rr x n ss hfit;go_wp2_with fail;refine(Rp F s d n x _ _ ss w5 hS5 hfit (by rw[hok.wait];decide) Bt hss.1 hss.2.1 hst (apart Bt) hss.2.2).mono ?_;rintro e w6 ⟨rfl,⟨F',hS6,g6⟩,f6⟩;have r6:=f6.row r5 hb2;have hc6:=f6.owns Zi fun k hk h=>apart Zi k h hk
  have hcF:∀g,(Value.slice Oc cs.length cap2).ownBlock=some g->g∉F':=fun g hg hF=>by
   rcases g6 g hF with q|q
   .exact apart Zi g hg q
   .have:=(Zi.lt g hg).2;omega
  have acF:b2∉F':=fun hF=>by
   rcases g6 b2 hF with q|q
   .exact hb2 q
   .have:=r5.lt;omega
  have hgr:ci F F' wL:=(ci.refl F wL).trans g6 Zk.size;have hB6:eO F wL w6:=(Zk.mono).trans f6.blk (fun i hi=> .inl hi);have hcb:∀g,(Value.slice Oc cs.length cap2).ownBlock=some g->g≠b2:=fun g hg e=>by
   subst e;rcases Zi.2 with⟨e1,_⟩|⟨g',cap',cur,e1,_,hg',_⟩
   .rw[e1] at hg;simp[Value.ownBlock] at hg
   .rw[e1] at hg
    have:g'=g:=by simpa [Value.ownBlock] using hg
    subst this;unfold Row at r5;rw[r5] at hg';cases hg'
  have HO:Hid ((x.xE n ss).2= .int .i64 e5):=he5;rw[he5];have HX:Hid (aP w6 F' s d n (x.xE n ss).1):=hS6;clear hss hst hS6 he5 hS5 Zk r5 Bt Zi f6 g6 apart
  by_cases h5:e5=0
  .subst h5
   go_wp2_with (with_reducible first|refine bJ 58 rfl ?_|refine af 58 rfl ?_);refine aj.go (cH rfl (.agg #[.int .i64 ss.length,.slice Oc cs.length cap2]) w6 (by kernel_rfl) ?_);go_wp2_with (with_reducible first|refine af 58 rfl ?_)
   refine aj.go (fY rfl 58 _ _ rfl b2 rfl #[.int .i64 ss.length,.slice Oc cs.length cap2] rfl ew (by simp[Value.oneCell']) _ _ r6 rfl ?_);intro w7 f7 r7;have hc7:=f7.owns hc6 (fun k hk h=>hcb k h (by simpa using hk));go_wp2_with fail
   refine⟨w7.tape,w7.drawn,.tuple #[.agg #[.int .i64 ss.length,.slice Oc cs.length cap2],.int .i64 0],?_,.inr ⟨HE.out,ps,F',hP,?_,hgr,?_,.inl ⟨_,?_,?_,?_,hcF⟩⟩⟩
   .exact mP (tp:=2) (tq:=3) (ty:=58) rfl _ _ b2 _ _ rfl r7 (by kernel_rfl) ew
   .rw[HD.out.1]
    exact HX.out.vo f7 (by simpa using Xi) (by simpa using acF)
   .exact hB6.trans f7.blk (by intro i hi;right;simp at hi;omega)
   .rw[HD.out.1];exact HO.out
   .rw[HD.out.1]
   .rw[HD.out.2];exact hc7.weak hL3
  .have h5':(e5==0)=false:=by simpa using h5
   go_wp2_with (with_reducible first|refine bJ 58 rfl ?_|refine af 58 rfl ?_);refine aj.go (cH rfl fX w6 (by kernel_rfl) ?_);go_wp2_with (with_reducible first|refine af 58 rfl ?_);refine aj.go (fY rfl 58 _ _ rfl b2 rfl fX.cells rfl ew (by decide) _ _ r6 rfl ?_);intro w7 f7 r7;go_wp2_with fail
   refine⟨w7.tape,w7.drawn,.tuple #[fX,.int .i64 e5],?_,.inr ⟨HE.out,ps,F',hP,?_,hgr,?_,.inr ⟨e5,h5,?_,rfl⟩⟩⟩
   .exact mP (tp:=2) (tq:=3) (ty:=58) rfl _ _ b2 _ _ rfl r7 (by kernel_rfl) ew
   .rw[HD.out.1]
    exact HX.out.vo f7 (by simpa using Xi) (by simpa using acF)
   .exact hB6.trans f7.blk (by intro i hi;right;simp at hi;omega)
   .rw[HD.out.1];exact HO.out
 .have acu:(e0==0)=false:=by simpa using Kf
  go_wp2_with (with_reducible first|refine bJ 58 rfl ?_|refine af 58 rfl ?_);refine aj.go (cH rfl fX w3 (by kernel_rfl) ?_);go_wp2_with (with_reducible first|refine af 58 rfl ?_);refine aj.go (fY rfl 58 _ _ rfl b2 rfl fX.cells rfl ew (by decide) _ _ r3 rfl ?_);intro w4 f4 r4;go_wp2_with fail
  refine⟨w4.tape,w4.drawn,.tuple #[fX,.int .i64 e0],?_,.inl ⟨by rw[HE.out];exact Kf,by rw[HE.out],Zj.vo f4 ?_ ?_,?_⟩⟩
  .exact mP (tp:=2) (tq:=3) (ty:=58) rfl _ _ b2 _ _ rfl r4 (by kernel_rfl) ew
  .simpa using Xi
  .simpa using hb2
  .exact hB3.trans (f4.blk.mono (T:=[b2]) (by simp)) (by simpa using ahn)
end
section
open Go.RowKit Go.Lib
abbrev bP:=Nat->List UInt8->Option (List UInt8)
def fy (H:bP)(s:Nat)(p:List UInt8)(r:Option (List UInt8)):bP:=fun s' p'=>if s'=s/\p'=p then r else H s' p'
def Has (L:List UInt8)(n:Nat)(H:bP):Prop:=∃m,nr L n m/\∀s p,holds m s p (H s p)
def qf (H:bP):Prop:=∀s p,H s p≠none->(s<=2/\p∈P7)\/(s=3/\p=[])
def dW (H:bP):Prop:=∀s p,H s p≠none->s<=2/\p∈P7
theorem xj {m:dO}{s:Nat}{p:List UInt8}{r:Option (List UInt8)}(h:holds m s p r){i:Nat}{f:cX}(hf:m i=some f)(e:nameOf f=(s,p)):r≠none:=fun hr=>by
 subst hr;exact h i f hf e
theorem qf.slots {L:List UInt8}{n:Nat}{H:bP}{m:dO}(h:qf H)(hm:∀s p,holds m s p (H s p))(i:Nat)(f:cX)(hf:m i=some f):(f.set<=2/\f.path∈P7)\/(f.set=3/\f.path=[]):=
 h f.set f.path (xj (hm f.set f.path) hf rfl)
theorem dW.slots {H:bP}{m:dO}(h:dW H)(hm:∀s p,holds m s p (H s p)):Seven m:=fun i f hf=>h f.set f.path (xj (hm f.set f.path) hf rfl)
theorem SA {L:List UInt8}{n:Nat}{m:dO}(h:nr L n m)(h8:∀i f,m i=some f->(f.set<=2/\f.path∈P7)\/(f.set=3/\f.path=[])):(iZ n m).length<=22:=by
 have h3:=j9 ((iZ n m).map nameOf) (((List.range 3).flatMap fun s=>P7.map fun p=>(s,p))++[(3,[])]) h.nodup fun a ha=>by
  obtain⟨f,hf,e⟩:=List.mem_map.1 ha;obtain⟨i,hi⟩:=h.mem.1 hf;rw[<-e,List.mem_append];rcases h8 i f hi with⟨q1,q2⟩|⟨q1,q2⟩
  .left
   rw[List.mem_flatMap];exact⟨f.set,List.mem_range.2 (by omega),List.mem_map.2 ⟨f.path,q2,rfl⟩⟩
  .right
   simp[nameOf,q1,q2]
 rw[List.length_map] at h3;have:(((List.range 3).flatMap fun s=>P7.map fun p=>(s,p))++[(3,([]:List UInt8))]).length=22:=by rfl
 omega
theorem Vw {L:List UInt8}{n:Nat}{m:dO}(h:nr L n m)(h8:∀i f,m i=some f->(f.set<=2/\f.path∈P7)\/(f.set=3/\f.path=[]))(hn:22<aK n):∃i,i<aK n/\m i=none:=by
 by_cases hx:∃i,i<aK n/\m i=none
 .exact hx
 .exfalso
  have h1:(iZ n m).length=aK n:=by
   have h2:∀l:List Nat,(∀i∈l,i<aK n)->(l.filterMap m).length=l.length:=by
    intro l
    induction l with
    |nil=>intro _;rfl
    |cons a l ih=>
     intro hl;have ha:=hl a List.mem_cons_self;cases hm:m a with
     |none=>exact absurd ⟨a,ha,hm⟩ hx
     |some f=>rw[List.filterMap_cons_some hm,List.length_cons,List.length_cons,ih fun i hi=>hl i (List.mem_cons_of_mem _ hi)]
   unfold iZ;rw[h2 _ fun i hi=>List.mem_range.1 hi,List.length_range]
  have:=SA h h8;omega
section
variable {L:List UInt8}{n:Nat}{H:bP}{x:DS}
theorem Has.content (h:Has x.aS n H)(hw:x.waiting=[])(s:Nat)(p:List UInt8):x.content n s (aB p)=H s p:=by
 obtain⟨m,hr,hm⟩:=h;exact tR hr hw (hm s p)
theorem vl (h:Has L n H)(h8:qf H)(hn:22<aK n)(s:Nat)(p c:List UInt8)(hs:iY s p=true)(hc:c.length<=96):
  ∃L',Has L' n (fy H s p (some c))/\∀a,(DS.calm L a).put n s (aB p) (aB c)=(DS.calm L' (a+5),.int .i64 0):=by
 obtain⟨m,hr,hm⟩:=h;have hln:=pk n;obtain⟨i,hi,hfi,hmi⟩:=Lj (x:=DS.fresh L) hr rfl (Vw hr (h8.slots (L:=L) (n:=n) hm) hn);have hn2:=IU n i hi;obtain⟨o,ho,ho0,ho1,hom,hox⟩:=owner hr s p;have hoi:o≠i:=by
  intro e;obtain⟨g,hg,_⟩:=hox (by omega);rw[e] at hg;simp only[Int.toNat_natCast] at hg;rw[hmi] at hg;cases hg
 let f:cX:=⟨s,p,c⟩
 have hfg:iY f.set f.path=true/\f.content.length<=96:=⟨hs,hc⟩
 have hpl:f.path.length<=8:=(wT hfg.1).1;generalize hrr:cO f.set f.path f.content=r;have hrl:r.length=128:=by rw[<-hrr];exact Qq _ _ _ hpl hc
 have h0:=Dk r hrl 0 (by omega);have h1:=Dk r hrl 1 (by omega);generalize hA:bI L ((1+2*i:Nat),half r 0)=A;have rA:nr A n m:=by rw[<-hA];exact hr.loose (by omega) (by omega) h0 (xu hmi (.inl rfl))
 generalize hB:bI A ((2+2*i:Nat),half r 1)=B;have rB:nr B n m:=by rw[<-hB];exact rA.loose (by omega) (by omega) h1 (xu hmi (.inr rfl))
 have SS:EJ L i r=B:=by unfold EJ;rw[hA,hB]
 have hroot:seenIn (EJ L i r) [] 0=eu n m:=by rw[SS,<-rB.root];rfl
 have hnew:aZ (eu n m) i o=eu n (after m i f o):=AR m i (by omega) f o ⟨ho0,ho1⟩;have sA:∀j,kb A j=if j=1+2*i then half r 0 else kb L j:=fun j=>by rw[<-hA];exact jK L n hr.len _ (by omega) _ h0 j
 have sB:∀j,kb B j=if j=2+2*i then half r 1 else kb A j:=fun j=>by rw[<-hB];exact jK A n rA.len _ (by omega) _ h1 j
 have acb:kb B (1+2*i)++kb B (2+2*i)=cO f.set f.path f.content:=by
  rw[sB,sB,if_neg (by omega),if_pos rfl,sA,if_pos rfl,halves r hrl,hrr]
 have rC:=rB.put hi acb hfg fun j g hg e=>hom j g hg e
 refine⟨_,⟨_,rC,fun s' p'=>?_⟩,fun a=>?_⟩
 .unfold fy
  by_cases e:s'=s/\p'=p
  .rw[if_pos e]
   obtain⟨rfl,rfl⟩:=e;refine⟨i,?_⟩;unfold after;rw[qC (by omega)];unfold upd;rw[if_pos rfl]
  .rw[if_neg e]
   have hh:=hm s' p';cases hv:H s' p' with
   |none=>
    rw[hv] at hh;intro j g hg e2;rcases iA hg with⟨rfl,rfl⟩|⟨_,q,_⟩
    .unfold nameOf at e2
     simp only[Prod.mk.injEq] at e2;exact e ⟨e2.1.symm,e2.2.symm⟩
    .exact hh j g q e2
   |some v=>
    rw[hv] at hh;obtain⟨j,hj⟩:=hh;have hji:j≠i:=fun e2=>by subst e2;rw[hmi] at hj;cases hj
    refine⟨j,?_⟩;unfold after;rw[qC ?_]
    .unfold upd
     rw[if_neg hji];exact hj
    .by_cases hoj:o=-1
     .exact .inl hoj
     .right
      refine⟨by omega,fun e2=>?_⟩;obtain⟨g,hg,hgn⟩:=hox hoj;rw[e2] at hg;simp only[Int.toNat_natCast] at hg;rw[hj] at hg;cases hg;unfold nameOf at hgn;simp only[Prod.mk.injEq] at hgn;exact e ⟨hgn.1,hgn.2⟩
 .have henc:cO s (aB p).data.toList (aB c).data.toList=r:=hrr
  have hfx:dU (DS.calm L a) n=i:=by
   rw[Dm _ n rfl,<-hfi,Dm (DS.fresh L) n rfl];rfl
  have:=Lu L a 0 0 n s (aB p) (aB c) i o (eu n m) r henc hfx (ho (DS.calm L a) rfl rfl) hroot;rw[SS,hnew] at this;exact this
theorem qw (h:Has L n H)(s:Nat)(p:List UInt8)(hs:H s p≠none):
  ∃L',Has L' n (fy H s p none)/\∀a,(DS.calm L a).remove n s (aB p)=(DS.calm L' (a+2),.int .i64 0):=by
 obtain⟨m,hr,hm⟩:=h;obtain⟨o,ho,ho0,ho1,hom,hox⟩:=owner hr s p;have hne:o≠-1:=by
  have hh:=hm s p;cases hv:H s p with
  |none=>exact absurd hv hs
  |some v=>
   rw[hv] at hh;obtain⟨j,hj⟩:=hh;have:=hom j _ hj rfl;omega
 have rC:=hr.dropped o;refine⟨_,⟨_,rC,fun s' p'=>?_⟩,fun a=>?_⟩
 .unfold fy
  by_cases e:s'=s/\p'=p
  .rw[if_pos e]
   obtain⟨rfl,rfl⟩:=e;intro j g hg e2;obtain⟨q1,q2⟩:=fR hg;have:=hom j g q1 e2;have:=q2 (by omega);omega
  .rw[if_neg e]
   have hh:=hm s' p';cases hv:H s' p' with
   |none=>
    rw[hv] at hh;intro j g hg e2;exact hh j g (fR hg).1 e2
   |some v=>
    rw[hv] at hh;obtain⟨j,hj⟩:=hh;refine⟨j,?_⟩;rw[qC ?_]
    .exact hj
    .right
     refine⟨by omega,fun e2=>?_⟩;obtain⟨g,hg,hgn⟩:=hox hne;rw[e2] at hg;simp only[Int.toNat_natCast] at hg;rw[hj] at hg;cases hg;unfold nameOf at hgn;simp only[Prod.mk.injEq] at hgn;exact e ⟨hgn.1,hgn.2⟩
 .have hroot:seenIn L [] 0=eu n m:=by rw[<-hr.root];rfl
  have:=CF L a 0 0 n s (aB p) o (eu n m) (ho (DS.calm L a) rfl rfl) hne hroot;rw[yD m o ⟨ho0,ho1⟩] at this;exact this
theorem Iw (H:bP)(s:Nat)(p:List UInt8):fy H s p (H s p)=H:=by
 funext s' p'
 unfold fy;split
 .rename_i e;rw[e.1,e.2]
 .rfl
theorem qf.set {H:bP}(h:qf H){s:Nat}{p:List UInt8}(hs:(s<=2/\p∈P7)\/(s=3/\p=[]))(r:Option (List UInt8)):qf (fy H s p r):=fun s' p' hn=>by
 unfold fy at hn;split at hn
 .rename_i e;rw[e.1,e.2];exact hs
 .exact h s' p' hn
theorem dW.eight {H:bP}(h:dW H):qf H:=fun s p hn=> .inl (h s p hn)
end
theorem Bn {s:Nat}{p:List UInt8}(hs:s<=2)(hp:p∈P7):iY s p=true:=by
 obtain⟨k,hk,rfl⟩:=wV.1 hp;exact EP k hk s hs
theorem R5 {p:List UInt8}(hp:p∈P7):cF p=true:=by
 have h:=Bn (s:=0) (by omega) hp;unfold iY at h;simpa using h
def kY (H:bP):List dh->bP
 |[]=>H
 |w::r=>kY (fy H w.set w.path w.becomes) r
def okW (H:bP):List dh->Prop
 |[]=>True
 |w::r=>(w.set<=2/\w.path∈P7/\(∀c,w.becomes=some c->c.length<=96)/\(w.becomes=none->H w.set w.path≠none))/\okW (fy H w.set w.path w.becomes) r
theorem x4 (H:bP)(a b:List dh):kY H (a++b)=kY (kY H a) b:=by
 induction a generalizing H with
 |nil=>rfl
 |cons w r ih=>exact ih _
theorem Gy (H:bP)(a b:List dh):okW H (a++b)↔okW H a/\okW (kY H a) b:=by
 induction a generalizing H with
 |nil=>simp[okW,kY]
 |cons w r ih=>
  constructor
  .rintro⟨x,y⟩
   exact⟨⟨x,((ih _).1 y).1⟩,((ih _).1 y).2⟩
  .rintro⟨⟨x,y⟩,z⟩
   exact⟨x,(ih _).2 ⟨y,z⟩⟩
theorem Ku (x:DS):qN (x,Value.int .i64 0).2=0:=rfl
section
variable {n:Nat}
theorem GV:∀(ws:List dh) {L:List UInt8} {H:bP},Has L n H->qf H->22<aK n->okW H ws->
  ∃L' k,Has L' n (kY H ws)/\qf (kY H ws)/\0<=k/\k<=5*(ws.length:Int)/\∀a,(DS.calm L a).gC n ws=(DS.calm L' (a+k),.int .i64 0)
 |[],L,H,h,h8,_,_=>⟨L,0,h,h8,by omega,by simp,fun a=>by simp[DS.gC]⟩
 |w::r,L,H,h,h8,hn,ho=>by
  obtain⟨⟨hs,hp,hc,hx⟩,ho⟩:=ho;have h8':=h8.set (.inl ⟨hs,hp⟩) w.becomes;obtain⟨L1,k1,hL1,hk0,hk1,hw1⟩:∃L1 k1,Has L1 n (fy H w.set w.path w.becomes)/\(0:Int)<=k1/\k1<=5/\∀a,(DS.calm L a).th n w=(DS.calm L1 (a+k1),.int .i64 0):=by
   unfold DS.th;cases hb:w.becomes with
   |none=>
    obtain⟨L1,q1,q2⟩:=qw h w.set w.path (hx hb);exact⟨L1,2,q1,by omega,by omega,q2⟩
   |some c=>
    obtain⟨L1,q1,q2⟩:=vl h h8 hn w.set w.path c (Bn hs hp) (hc c hb);exact⟨L1,5,q1,by omega,by omega,q2⟩
  obtain⟨L2,k2,hL2,h82,hk2,hk3,hw2⟩:=GV r hL1 h8' hn ho;refine⟨L2,k1+k2,hL2,h82,by omega,by rw[List.length_cons];omega,fun a=>?_⟩;show(if qN ((DS.calm L a).th n w).2=0 then((DS.calm L a).th n w).1.gC n r else(DS.calm L a).th n w)=_;rw[hw1 a,if_pos (Ku _),hw2,show a+k1+k2=a+(k1+k2) by omega]
def gW (H:bP)(p:List UInt8×Nat):bP:=fun s q=>if q=p.1/\s<=2 then H p.2 p.1 else H s q
theorem BQ {x:DS}{K:bP}(p:List UInt8×Nat)(hp:p.1∈P7)(h2:p.2<=1)(hK:∀s:Nat,s<=2->x.content n s (aB p.1)=K s p.1):okW K (fD x n p)/\kY K (fD x n p)=gW K p:=by
 have c1:=hK (1-p.2) (by omega);have c2:=hK 2 (by omega);have cs:=hK p.2 (by omega);have hl:∀c,K p.2 p.1=some c->c.length<=96:=fun c hc=>sj (cs.trans hc)
 have one:∀(s:Nat) (M:bP),s<=2->s≠p.2->M s p.1=x.content n s (aB p.1)->M p.2 p.1=K p.2 p.1->okW M (dr x n p s)/\kY M (dr x n p s)=fy M s p.1 (K p.2 p.1):=by
  intro s M hs hne hM hMs;have hcs:=hK s hs;unfold dr;rw[cs];split
  .rename_i e
   refine⟨trivial,?_⟩;rw[<-e,<-hM,Iw];rfl
  .rename_i e
   refine⟨⟨⟨hs,hp,hl,fun hn=>?_⟩,trivial⟩,rfl⟩;rw[hM];intro q;exact e (q.trans hn.symm)
 obtain⟨o1,a1⟩:=one (1-p.2) K (by omega) (by omega) c1.symm rfl;obtain⟨o2,a2⟩:=one 2 (fy K (1-p.2) p.1 (K p.2 p.1)) (by omega) (by omega) (by
  unfold fy;rw[if_neg (by omega),c2]) (by
  unfold fy;rw[if_neg (by omega)])
 unfold fD;refine⟨(Gy _ _ _).2 ⟨o1,by rw[a1];exact o2⟩,?_⟩;rw[x4,a1,a2]
 funext s q
 unfold gW fy
 by_cases hq:q=p.1
 .subst hq
  by_cases h0:s=2
  .subst h0;simp
  .by_cases h1:s=1-p.2
   .subst h1;simp[h0]
   .by_cases hs:s=p.2
    .subst hs;simp[h0,h1]
    .simp[h0,h1];intro;omega
 .simp[hq]
theorem qy (ss:List (List UInt8×Nat))(K:bP)(s:Nat)(q:List UInt8)(h:∀p∈ss,p.1≠q):ss.foldl gW K s q=K s q:=by
 induction ss generalizing K with
 |nil=>rfl
 |cons p r ih=>
  rw[List.foldl_cons,ih _ fun p' hp'=>h p' (by simp[hp'])];unfold gW;rw[if_neg];exact fun e=>h p (by simp) e.1.symm
theorem kQ (ss:List (List UInt8×Nat))(K:bP)(s:Nat)(q:List UInt8)(h:2<s:=by omega):ss.foldl gW K s q=K s q:=by
 induction ss generalizing K with
 |nil=>rfl
 |cons p r ih=>
  rw[List.foldl_cons,ih];unfold gW;rw[if_neg (by omega)]
theorem Dn (ss:List (List UInt8×Nat))(K K':bP)(h:∀s q,s<=2->K s q=K' s q)(h1:∀p∈ss,p.2<=1)(s:Nat)(q:List UInt8)(hs:s<=2):ss.foldl gW K s q=ss.foldl gW K' s q:=by
 induction ss generalizing K K' with
 |nil=>exact h s q hs
 |cons p r ih=>
  rw[List.foldl_cons,List.foldl_cons];refine ih _ _ (fun s q hs=>?_) fun p' hp'=>h1 p' (by simp[hp'])
  have:=h1 p (by simp);unfold gW;rw[h p.2 p.1 (by omega),h s q hs]
theorem MI (ss:List (List UInt8×Nat))(K:bP)(hs:ss.Pairwise fun p q=>p.1≠q.1)(h1:∀p∈ss,p.2<=1){p:List UInt8×Nat}(hp:p∈ss)(s:Nat)(h2:s<=2):ss.foldl gW K s p.1=K p.2 p.1:=by
 induction ss generalizing K with
 |nil=>simp at hp
 |cons a r ih=>
  rw[List.pairwise_cons] at hs;rw[List.foldl_cons];rcases List.mem_cons.1 hp with rfl|hp'
  .rw[qy r _ _ _ fun q hq e=>hs.1 q hq e.symm]
   unfold gW;rw[if_pos ⟨rfl,h2⟩]
  .rw[ih _ hs.2 (fun q hq=>h1 q (by simp[hq])) hp']
   unfold gW;rw[if_neg];exact fun e=>hs.1 p hp' e.1.symm
theorem FT {x:DS}(ss:List (List UInt8×Nat))(K:bP)(hs:ss.Pairwise fun p q=>p.1≠q.1)(h1:∀p∈ss,p.1∈P7/\p.2<=1)(hK:∀p∈ss,∀s:Nat,s<=2->x.content n s (aB p.1)=K s p.1):
  okW K (bC x n ss)/\kY K (bC x n ss)=ss.foldl gW K:=by
 induction ss generalizing K with
 |nil=>exact⟨trivial,rfl⟩
 |cons p r ih=>
  rw[List.pairwise_cons] at hs;obtain⟨o1,a1⟩:=BQ (n:=n) (x:=x) (K:=K) p (h1 p (by simp)).1 (h1 p (by simp)).2 (hK p (by simp));have e:bC x n (p::r)=fD x n p++bC x n r:=rfl;obtain⟨o2,a2⟩:=ih (gW K p) hs.2 (fun q hq=>h1 q (by simp[hq])) fun q hq s hs'=>by
   rw[hK q (by simp[hq]) s hs'];unfold gW;rw[if_neg];exact fun e=>hs.1 q hq e.1.symm
  rw[e,Gy,x4,a1,a2];exact⟨⟨o1,o2⟩,rfl⟩
theorem m6:∀(ws:List dh) (f:Int),(ws.length:Int)<f->kS ws f=true
 |[],_,_=>rfl
 |w::r,f,h=>by
  rw[List.length_cons] at h;unfold kS;split
  .exact m6 r _ (by omega)
  .rw[if_neg (by omega)]
   split
   .exact m6 r _ (by omega)
   .exact m6 r _ (by omega)
structure jH (ss:List (List UInt8×Nat)):Prop where
 strict:ss.Pairwise fun p q=>p.1<q.1
 names:∀p∈ss,p.1∈P7/\p.2<=1
theorem jH.ne {ss:List (List UInt8×Nat)}(h:jH ss):ss.Pairwise fun p q=>p.1≠q.1:=h.strict.imp fun {a b} hab e=>by rw[e] at hab;exact absurd hab (List.lt_irrefl _)
theorem jH.ok {ss:List (List UInt8×Nat)}(h:jH ss):pj ss:=fun p hp=>⟨R5 (h.names p hp).1,(h.names p hp).2⟩
theorem jH.len {ss:List (List UInt8×Nat)}(h:jH ss):ss.length<=7:=by
 have:=j9 (ss.map (·.1)) P7 (List.Pairwise.map _ (fun _ _ h=>h) h.ne) fun a ha=>by
  obtain⟨p,hp,rfl⟩:=List.mem_map.1 ha;exact(h.names p hp).1
 rw[List.length_map] at this;exact Nat.le_trans this (Nat.le_of_eq (by rfl))
variable {L:List UInt8}{H:bP}
theorem xY (h:Has L n H)(h7:dW H)(hn:37<aK n){ss:List (List UInt8×Nat)}(hs:jH ss):
  ∃L',Has L' n (fy H 3 [] (some (de ss)))/\∀a,(DS.calm L a).begin n ss=(DS.calm L' (a+5),.int .i64 0):=by
 have hl:=hs.len;have hej:(de ss).length<=63:=by have:=sf ss fun p hpm=>rD (hs.ok p hpm).1;omega
 obtain⟨L',q1,q2⟩:=vl h h7.eight (by omega) 3 [] (de ss) (by rfl) (by omega);refine⟨L',q1,fun a=>?_⟩;have hfit:p9 (DS.calm L a) n ss ((aK n:Int)-(taken (DS.calm L a) n).length-1)=true:=by
  have ht:(taken (DS.calm L a) n).length<=22:=by
   obtain⟨m,hr,hm⟩:=h;have h1:=ph (x:=DS.calm L a) hr rfl;have h2:=SA hr (h7.eight.slots (L:=L) (n:=n) hm);rw[<-h1] at h2;unfold aQ at h2
   rwa [List.length_map] at h2
  have hw:=iL (DS.calm L a) n ss;unfold p9;rw[decide_eq_true (by omega),Bool.true_and];exact m6 _ _ (by omega)
 unfold DS.begin;rw[hfit,if_neg (by simp)];exact q2 a
theorem Rq (h:Has L n H)(h7:dW H)(hn:37<aK n){ss:List (List UInt8×Nat)}(hs:jH ss)(hne:ss≠[]):
  ∃L' k,Has L' n (ss.foldl gW H)/\dW (ss.foldl gW H)/\(0:Int)<=k/\k<=80/\(∀a,(DS.calm L a).xE n ss=(DS.calm L' (a+k),.int .i64 0))/\
   ∀a,((DS.calm L a).begin n ss).1.content n 3 ⟨#[]⟩=some (de ss):=by
 have hl:=hs.len;obtain⟨L1,q1,q2⟩:=xY h h7 hn hs;have h8:qf (fy H 3 [] (some (de ss))):=h7.eight.set (.inr ⟨rfl,rfl⟩) _;have hset:∀s p,s<=2->fy H 3 [] (some (de ss)) s p=H s p:=fun s p hs=>by unfold fy;rw[if_neg (by omega)]
 obtain⟨o1,a1⟩:=FT (n:=n) (x:=DS.calm L1 0) ss (fy H 3 [] (some (de ss))) hs.ne hs.names fun p hp s hs'=>Has.content (x:=DS.calm L1 0) q1 rfl s p.1
 have hcalm:∀a,bC (DS.calm L1 a) n ss=bC (DS.calm L1 0) n ss:=fun a=>by
  have hc:∀(s:Nat) p,(DS.calm L1 a).content n s (aB p)=(DS.calm L1 0).content n s (aB p):=fun s p=>(Has.content (x:=DS.calm L1 a) q1 rfl s p).trans (Has.content (x:=DS.calm L1 0) q1 rfl s p).symm
  have hw:fD (DS.calm L1 a) n=fD (DS.calm L1 0) n:=by
   funext p
   unfold fD dr;simp only[hc]
  unfold bC;rw[hw]
 obtain⟨L2,k2,r1,r2,r3,r4,r5⟩:=GV _ q1 h8 (by omega) o1;rw[a1] at r1 r2;have hj:ss.foldl gW (fy H 3 [] (some (de ss))) 3 []=some (de ss):=by
  rw[kQ _ _ _ _];unfold fy;rw[if_pos ⟨rfl,rfl⟩]
 obtain⟨L3,t1,t2⟩:=qw r1 3 [] (by rw[hj];simp);have hfin:fy (ss.foldl gW (fy H 3 [] (some (de ss)))) 3 [] none=ss.foldl gW H:=by
  funext s p
  unfold fy
  by_cases e:s=3/\p=[]
  .rw[if_pos e,kQ _ _ _ _]
   cases hv:H s p with
   |none=>rfl
   |some v=>have:=(h7 s p (by rw[hv];simp)).1;omega
  .rw[if_neg e]
   by_cases h2:s<=2
   .exact Dn ss _ _ (fun s q hs=>by rw[if_neg (by omega)]) (fun p hp=>(hs.names p hp).2) s p h2
   .rw[kQ _ _ _ _,kQ _ _ _ _,if_neg e]
 rw[hfin] at t1;have hlw:=iL (DS.calm L1 0) n ss;refine⟨L3,5+k2+2,t1,?_,by omega,by omega,fun a=>?_,fun a=>?_⟩
 .intro s p hsp
  rw[<-hfin] at hsp;unfold fy at hsp;split at hsp
  .exact absurd rfl hsp
  .rename_i e
   rcases r2 s p hsp with q|q
   .exact q
   .exact absurd q e
 .unfold DS.xE
  rw[if_neg hne,q2 a,if_pos (Ku _)];show DS.sc (DS.calm L1 (a+5)) n ss=_;unfold DS.sc;rw[hcalm,r5,if_pos (Ku _)];show DS.remove (DS.calm L2 (a+5+k2)) n 3 ⟨#[]⟩=_;have:=t2 (a+5+k2);rw[show a+5+k2+2=a+(5+k2+2) by omega] at this;exact this
 .rw[q2 a]
  have:=Has.content (x:=DS.calm L1 (a+5)) q1 rfl 3 [];rw[show fy H 3 [] (some (de ss)) 3 []=some (de ss) by unfold fy;rw[if_pos ⟨rfl,rfl⟩]] at this;exact this
end
theorem tA {a b:List UInt8}(h:aB a=aB b):a=b:=by simpa [aB] using h
def G0 (set:Int):(ByteArray->Option ByteArray)->cX->ByteArray->Option ByteArray:=fun g f=>if(f.set:Int)=set then fun s=>if s=aB f.path then some (aB f.content) else g s else g
theorem qx (set:Int)(p:List UInt8):∀(fs:List cX) (g:ByteArray->Option ByteArray),(∀f∈fs,(f.set:Int)=set->f.path≠p)->fs.foldl (G0 set) g (aB p)=g (aB p)
 |[],_,_=>rfl
 |f::r,g,h=>by
  rw[List.foldl_cons,qx set p r _ fun f' hf'=>h f' (by simp[hf'])];unfold G0;split
  .rename_i e
   exact if_neg fun q=>h f (by simp) e (tA q).symm
  .rfl
theorem Dl (set:Nat):∀(fs:List cX) (g:ByteArray->Option ByteArray),(fs.map nameOf).Nodup->∀f∈fs,f.set=set->fs.foldl (G0 set) g (aB f.path)=some (aB f.content)
 |[],_,_,f,hf,_=>by simp at hf
 |a::r,g,hn,f,hf,hs=>by
  rw[List.map_cons,List.nodup_cons] at hn;rw[List.foldl_cons];rcases List.mem_cons.1 hf with rfl|hf
  .rw[qx set f.path r _ fun f' hf' e1 e2=>hn.1 (List.mem_map.2 ⟨f',hf',by unfold nameOf;rw[e2,hs,show f'.set=set by omega]⟩)]
   unfold G0;rw[if_pos (by omega),if_pos rfl]
  .exact Dl set r _ hn.2 f hf hs
section
variable {L:List UInt8}{n:Nat}{H:bP}{x:DS}
theorem G2 (h:Has x.aS n H)(hw:x.waiting=[])(s:Nat)(l:List UInt8):p8 s (aQ x n) (aB l)=(H s l).map aB:=by
 obtain⟨m,hr,hm⟩:=h;rw[ph hr hw];have hh:=hm s l;cases hv:H s l with
 |none=>
  rw[hv] at hh;refine qx _ l _ _ fun f hf e1 e2=>?_
  obtain⟨i,hi⟩:=hr.mem.1 hf;exact hh i f hi (by unfold nameOf;rw[e2,show f.set=s by omega])
 |some c=>
  rw[hv] at hh;obtain⟨i,hi⟩:=hh;exact Dl s _ _ hr.nodup ⟨s,l,c⟩ (hr.mem.2 ⟨i,hi⟩) rfl
def Fp (H:bP)(s:Nat)(l:List UInt8):Option (Bool×ByteArray):=if H s l=H 2 l then none else some (match H s l with|some c=>(true,aB c)|none=>(false,⟨#[]⟩))
theorem C0 {a b:Option (List UInt8)}:a.map aB=b.map aB↔a=b:=by
 constructor
 .intro h
  cases a<;>cases b<;>simp at h
  .rfl
  .rw[tA h]
 .rintro rfl;rfl
theorem vp (h:Has x.aS n H)(hw:x.waiting=[])(s:Nat)(l:List UInt8):gU x n s (aB l)=Fp H s l:=by
 unfold gU aH.jP Fp;have h2:=G2 h hw 2 l;rw[show((2:Nat):Int)=2 from rfl] at h2;rw[G2 h hw s l,h2]
 by_cases e:H s l=H 2 l
 .rw[if_pos e,if_pos (C0.2 e)]
 .rw[if_neg e,if_neg fun q=>e (C0.1 q)]
  cases H s l<;>rfl
def je (H:bP)(l:List UInt8):Option Nat:=if H 0 l=H 2 l then some 1 else if H 1 l=H 2 l then some 0 else if H 0 l=H 1 l then some 0 else none
theorem O7 (H:bP)(l:List UInt8):kz (Fp H 0 l) (Fp H 1 l)=je H l:=by
 unfold Fp je
 by_cases e0:H 0 l=H 2 l
 .rw[if_pos e0,if_pos e0]
  cases (if H 1 l=H 2 l then none else some (match H 1 l with|some c=>(true,aB c)|none=>(false,⟨#[]⟩):Bool×ByteArray))<;>rfl
 .rw[if_neg e0,if_neg e0]
  by_cases e1:H 1 l=H 2 l
  .rw[if_pos e1,if_pos e1];rfl
  .rw[if_neg e1,if_neg e1]
   by_cases e:H 0 l=H 1 l
   .rw[if_pos e,<-e]
    exact if_pos rfl
   .rw[if_neg e]
    refine if_neg fun q=>e ?_
    cases h0:H 0 l<;>cases h1:H 1 l<;>rw[h0,h1] at q<;>simp at q;rw[tA q]
theorem Gd {l:List UInt8}{q:Nat}(h:je H l=some q):q<=1:=by
 unfold je at h;split at h
 .cases h;omega
 .split at h
  .cases h;omega
  .split at h
   .cases h;omega
   .cases h
theorem Ii {l:List UInt8}(h0:H 0 l=H 2 l)(_:H 1 l=H 2 l):je H l=some 1:=by unfold je;rw[if_pos h0]
def bu (H:bP):bP:=fun s p=>if s<=2 then(match je H p with|some q=>H q p|none=>H s p) else H s p
def fg (H:bP)(ps:List (List UInt8)):List (List UInt8×Nat):=ps.filterMap fun l=>(je H l).map fun s=>(l,s)
def d9 (H:bP)(ps:List (List UInt8)):List (List UInt8):=ps.filter fun l=>(je H l).isNone
def fq (H:bP)(ps:List (List UInt8)):Prop:=ps.Pairwise (·<·)/\∀l,l∈ps↔(H 0 l≠H 2 l\/H 1 l≠H 2 l)
theorem sU (h:Has x.aS n H)(hw:x.waiting=[]){ps:List (List UInt8)}(hP:sC x n ps):fq H ps:=by
 obtain⟨h1,h2,h3⟩:=hP;refine⟨ze h1 h2,fun l=>?_⟩;rw[h3,ND];have f0:=vp h hw 0 l;have f1:=vp h hw 1 l;rw[show((0:Nat):Int)=0 from rfl] at f0;rw[show((1:Nat):Int)=1 from rfl] at f1;rw[f0,f1];have one:∀s,Fp H s l≠none↔H s l≠H 2 l:=fun s=>by
  unfold Fp
  by_cases e:H s l=H 2 l
  .rw[if_pos e];simp[e]
  .rw[if_neg e];simp[e]
 rw[one,one]
theorem sL (h:Has x.aS n H)(hw:x.waiting=[])(ps:List (List UInt8)):eG x n ps=fg H ps/\lD x n ps=d9 H ps:=by
 have f0:=fun l=>vp h hw 0 l
 have f1:=fun l=>vp h hw 1 l
 simp only[show((0:Nat):Int)=0 from rfl] at f0;simp only[show((1:Nat):Int)=1 from rfl] at f1;unfold eG lD ir jA fg d9;simp only[f0,f1,O7];exact⟨trivial,trivial⟩
theorem vQ (h7:dW H){ps:List (List UInt8)}(hP:fq H ps):jH (fg H ps):=by
 refine⟨?_,fun p hp=>?_⟩
 .unfold fg
  refine List.Pairwise.filterMap _ (fun a b hab p hp q hq=>?_) hP.1;obtain⟨_,_,rfl⟩:=Option.map_eq_some_iff.1 hp;obtain⟨_,_,rfl⟩:=Option.map_eq_some_iff.1 hq;exact hab
 .unfold fg at hp
  obtain⟨l,hl,e⟩:=List.mem_filterMap.1 hp;obtain⟨q,hq,rfl⟩:=Option.map_eq_some_iff.1 e;refine⟨?_,Gd hq⟩;show l∈P7;have h1:=(hP.2 l).1 hl
  by_cases e2:H 2 l=none
  .rcases h1 with h1|h1
   .exact(h7 0 l fun q=>h1 (q.trans e2.symm)).2
   .exact(h7 1 l fun q=>h1 (q.trans e2.symm)).2
  .exact(h7 2 l e2).2
theorem vL (h7:dW H){ps:List (List UInt8)}(hP:fq H ps):(fg H ps).foldl gW H=bu H:=by
 have hok:=vQ h7 hP
 funext s p
 unfold bu
 by_cases h2:s<=2
 .rw[if_pos h2]
  by_cases hp:p∈ps
  .cases hs:je H p with
   |some q=>
    have hm:(p,q)∈fg H ps:=List.mem_filterMap.2 ⟨p,hp,by rw[hs];rfl⟩;exact MI _ H hok.ne (fun a ha=>(hok.names a ha).2) hm s h2
   |none=>
    refine qy _ H s p fun a ha e=>?_
    obtain⟨l,hl,e1⟩:=List.mem_filterMap.1 ha;obtain⟨q,hq,rfl⟩:=Option.map_eq_some_iff.1 e1;have e:l=p:=e;rw[e,hs] at hq;cases hq
  .have hnp:=fun q=>hp ((hP.2 p).2 q)
   have e0:H 0 p=H 2 p:=Classical.byContradiction fun q=>hnp (.inl q)
   have e1:H 1 p=H 2 p:=Classical.byContradiction fun q=>hnp (.inr q)
   rw[Ii e0 e1];rw[qy _ H s p fun a ha e=>?_]
   .show H s p=H 1 p
    rcases(by omega:s=0\/s=1\/s=2) with rfl|rfl|rfl
    .rw[e0,e1]
    .rfl
    .rw[e1]
   .obtain⟨l,hl,e1⟩:=List.mem_filterMap.1 ha
    obtain⟨q,hq,rfl⟩:=Option.map_eq_some_iff.1 e1;exact hp (e▸hl)
 .rw[if_neg h2]
  exact kQ _ _ _ _
theorem yU (h:Has L n H)(h7:dW H)(hn:37<aK n){ss:List (List UInt8×Nat)}(hs:jH ss)(a:Int):((DS.calm L a).begin n ss).1.content n 3 ⟨#[]⟩=some (de ss):=by
 obtain⟨L1,q1,q2⟩:=xY h h7 hn hs;rw[q2 a];have:=Has.content (x:=DS.calm L1 (a+5)) q1 rfl 3 [];rw[show fy H 3 [] (some (de ss)) 3 []=some (de ss) by unfold fy;rw[if_pos ⟨rfl,rfl⟩]] at this;exact this
theorem OW (h:Has L n H)(h7:dW H)(hn:37<aK n)(a:Int)(h0:0<=a)(h1:a<=900000000):Bl (DS.calm L a) n:=by
 refine⟨rfl,fun _=>xy L a 105 h0 (by omega),fun ps hP=>?_⟩;have SW:=sU (x:=DS.calm L a) h rfl hP;rw[(sL (x:=DS.calm L a) h rfl ps).1];have hok:=vQ h7 SW;exact⟨hok.len,hok.ok,fun _=>yU h h7 hn hok a⟩
theorem CX (h:Has L n H)(h7:dW H)(a:Int):yB (DS.calm L a) n=0:=by
 obtain⟨m,hr,hm⟩:=h;have:=lq (x:=DS.calm L a) hr rfl (h7.slots hm);unfold yB;rw[this];rfl
theorem zd (h:Has L n H)(h7:dW H)(hn:37<aK n){ps:List (List UInt8)}(hP:fq H ps):
  ∃L' k,Has L' n (bu H)/\dW (bu H)/\(0:Int)<=k/\k<=80/\(∀a,(DS.calm L a).xE n (fg H ps)=(DS.calm L' (a+k),.int .i64 0))/\(fg H ps=[]->L'=L/\k=0):=by
 by_cases he:fg H ps=[]
 .have hf:=vL h7 hP
  rw[he] at hf;have hf:H=bu H:=hf;refine⟨L,0,hf▸h,hf▸h7,by omega,by omega,fun a=>?_,fun _=>⟨rfl,rfl⟩⟩;unfold DS.xE;rw[if_pos he,Int.add_zero]
 .obtain⟨L',k,q1,q2,q3,q4,q5,_⟩:=Rq h h7 hn (vQ h7 hP) he
  rw[vL h7 hP] at q1 q2;exact⟨L',k,q1,q2,q3,q4,q5,fun e=>absurd e he⟩
end
theorem qh:∀{a b:List (List UInt8)},a.Pairwise (·<·)->b.Pairwise (·<·)->(∀x,x∈a↔x∈b)->a=b
 |[],[],_,_,_=>rfl
 |[],y::_,_,_,h=>absurd ((h y).2 (by simp)) (by simp)
 |x::_,[],_,_,h=>absurd ((h x).1 (by simp)) (by simp)
 |x::a,y::b,ha,hb,h=>by
  rw[List.pairwise_cons] at ha hb;have hxy:x=y:=by
   rcases List.mem_cons.1 ((h x).1 (by simp)) with e|hx
   .exact e
   .rcases List.mem_cons.1 ((h y).2 (by simp)) with e|hy
    .exact e.symm
    .exact absurd (List.lt_trans (ha.1 y hy) (hb.1 x hx)) (List.lt_irrefl _)
  subst hxy;rw[qh ha.2 hb.2 fun z=>?_];constructor
  .intro hz
   rcases List.mem_cons.1 ((h z).1 (by simp[hz])) with rfl|q
   .exact absurd (ha.1 z hz) (List.lt_irrefl _)
   .exact q
  .intro hz
   rcases List.mem_cons.1 ((h z).2 (by simp[hz])) with rfl|q
   .exact absurd (hb.1 z hz) (List.lt_irrefl _)
   .exact q
section
variable {H:bP}{l:List UInt8}{ps ps':List (List UInt8)}
theorem fq.uniq (h:fq H ps)(h':fq H ps'):ps=ps':=qh h.1 h'.1 fun x=>(h.2 x).trans (h'.2 x).symm
theorem eL {q:Nat}(h:je H l=some q)(s:Nat)(hs:s<=2):bu H s l=H q l:=by
 unfold bu;rw[if_pos hs,h]
theorem fv (h:je H l=none)(s:Nat)(hs:s<=2):bu H s l=H s l:=by
 unfold bu;rw[if_pos hs,h]
theorem ky:je H l=none↔H 0 l≠H 2 l/\H 1 l≠H 2 l/\H 0 l≠H 1 l:=by
 unfold je
 by_cases h0:H 0 l=H 2 l
 .simp[h0]
 .by_cases h1:H 1 l=H 2 l
  .simp[h0,h1]
  .by_cases h2:H 0 l=H 1 l
   .simp[h0,h1,h2]
   .simp[h0,h1,h2]
theorem qJ:je (bu H) l=none↔je H l=none:=by
 cases h:je H l with
 |none=>
  rw[ky,fv h 0 (by omega),fv h 1 (by omega),fv h 2 (by omega),<-ky,h]
 |some q=>
  rw[ky,eL h 0 (by omega),eL h 1 (by omega),eL h 2 (by omega)];simp
theorem yV:(bu H 0 l≠bu H 2 l\/bu H 1 l≠bu H 2 l)↔je H l=none:=by
 cases h:je H l with
 |none=>
  rw[fv h 0 (by omega),fv h 1 (by omega),fv h 2 (by omega)];have:=ky.1 h;simp[this.1]
 |some q=>
  rw[eL h 0 (by omega),eL h 1 (by omega),eL h 2 (by omega)];simp
theorem BO (H:bP):bu (bu H)=bu H:=by
 funext s p
 by_cases hs:s<=2
 .cases h:je (bu H) p with
  |none=>rw[fv h s hs]
  |some q=>
   rw[eL h s hs];cases h':je H p with
   |none=>rw[qJ.2 h'] at h;cases h
   |some q'=>rw[eL h' s hs,eL h' q (by have:=Gd h;omega)]
 .unfold bu
  rw[if_neg hs]
theorem clash:(bu H 0 l≠bu H 1 l\/bu H 0 l≠bu H 2 l)↔je H l=none:=by
 cases h:je H l with
 |none=>
  rw[fv h 0 (by omega),fv h 1 (by omega),fv h 2 (by omega)];have:=ky.1 h;simp[this.1]
 |some q=>
  rw[eL h 0 (by omega),eL h 1 (by omega),eL h 2 (by omega)];simp
theorem pD (h:fq H ps):l∈d9 H ps↔je H l=none:=by
 unfold d9;rw[List.mem_filter,Option.isNone_iff_eq_none,h.2];exact⟨fun q=>q.2,fun q=>⟨.inl (ky.1 q).1,q⟩⟩
theorem m9 (h:fq H ps):(d9 H ps).Pairwise (·<·):=h.1.filter _
theorem Eg (h:fq H ps)(h':fq (bu H) ps'):fg (bu H) ps'=[]/\d9 (bu H) ps'=d9 H ps:=by
 have hall:∀l∈ps',je (bu H) l=none:=fun l hl=>qJ.2 (yV.1 ((h'.2 l).1 hl))
 refine⟨?_,qh (m9 h') (m9 h) fun x=>by rw[pD h',pD h,qJ]⟩;unfold fg;rw[List.filterMap_eq_nil_iff];intro l hl;rw[hall l hl];rfl
theorem FC (h7:dW H)(h:fq H ps):((List.range 7).filter fun k=>decide (je H (cB k)=none)).length=(d9 H ps).length:=by
 generalize hks:((List.range 7).filter fun k=>decide (je H (cB k)=none))=ks;have hmem:∀k,k∈ks↔k<7/\je H (cB k)=none:=fun k=>by rw[<-hks,List.mem_filter,List.mem_range,decide_eq_true_eq]
 have hnd:ks.Nodup:=by rw[<-hks];exact List.nodup_range.filter _
 have hmap:(ks.map cB).Nodup:=by
  rw[List.Nodup,List.pairwise_map];exact hnd.imp_of_mem fun {a b} ha hb hab e=>hab (zy a ((hmem a).1 ha).1 b ((hmem b).1 hb).1 e)
 have hcn:(d9 H ps).Nodup:=(m9 h).imp fun {a b} hab e=>by rw[e] at hab;exact absurd hab (List.lt_irrefl _)
 have h1:=j9 (ks.map cB) (d9 H ps) hmap fun a ha=>by
  obtain⟨k,hk,rfl⟩:=List.mem_map.1 ha;exact(pD h).2 ((hmem k).1 hk).2
 have h2:=j9 (d9 H ps) (ks.map cB) hcn fun a ha=>by
  have hs:=(pD h).1 ha;have hne:=(ky.1 hs).1;have hp:a∈P7:=by
   by_cases e:H 2 a=none
   .exact(h7 0 a fun q=>hne (q.trans e.symm)).2
   .exact(h7 2 a e).2
  obtain⟨k,hk,rfl⟩:=wV.1 hp;exact List.mem_map.2 ⟨k,(hmem k).2 ⟨hk,hs⟩,rfl⟩
 rw[List.length_map] at h1 h2;omega
theorem DG (h7:dW H)(h:fq H ps):((List.range 7).filter fun k=>decide (bu H 0 (cB k)≠bu H 1 (cB k)\/bu H 0 (cB k)≠bu H 2 (cB k))).length=(d9 H ps).length:=by
 rw[<-FC h7 h]
 congr 1
 exact List.filter_congr fun k _=>by simp only[clash]
def ja (H:bP)(k:Nat):Nat:=((List.range k).filter fun k=>decide (bu H 0 (cB k)≠bu H 1 (cB k)\/bu H 0 (cB k)≠bu H 2 (cB k))).length
theorem DH (H:bP)(k:Nat):ja H (k+1)=ja H k+if(bu H 0 (cB k)≠bu H 1 (cB k)\/bu H 0 (cB k)≠bu H 2 (cB k)) then 1 else 0:=by
 unfold ja;rw[List.range_succ,List.filter_append,List.length_append]
 by_cases h:(bu H 0 (cB k)≠bu H 1 (cB k)\/bu H 0 (cB k)≠bu H 2 (cB k))<;>simp[h]
theorem zV (H:bP)(k:Nat):ja H k<=k:=Nat.le_trans (List.length_filter_le _ _) (by simp)
end
end
end
end Go.Proofs.YtchcmhodnkgojaaGreat
