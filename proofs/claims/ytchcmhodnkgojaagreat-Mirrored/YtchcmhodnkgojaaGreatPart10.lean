/- On the way to the last text; put together and shortened by program. -/
import Derived.Test.YtchcmhodnkgojaaGreatPart9
import Derived.Handy
import Derived.Lib.AppendStr
import Derived.Sort.Walk0
import Derived.Laws.ResultCell
import Derived.BigQuiet
set_option linter.all false
set_option maxRecDepth 100000
set_option maxHeartbeats 8000000
namespace Go.Proofs.YtchcmhodnkgojaaGreat
noncomputable section
section
open Go.RowKit Go.Lib Go.Sort
structure dl (S:List Nat)(w w':World):Prop where
 os:w'.os=w.os
 size:w.heap.size<=w'.heap.size
 block:∀k,k<w.heap.size->k∉S->w'.heap[k]? =w.heap[k]?
theorem aO.blk {S:List Nat}{w w':World}(h:aO S w w'):dl S w w':=⟨h.os,h.size,h.block⟩
theorem dl.refl (S:List Nat)(w:World):dl S w w:=⟨rfl,Nat.le_refl _,λ_ _ _=>rfl⟩
theorem dl.tape {S:List Nat}{w w':World}(h:dl S w w')(t:Go.Proofs.YtchcmhodnkgojaaGreat.dX)(d:Nat):dl S w (ax w' t d):=⟨h.os,h.size,h.block⟩
theorem dl.trans {S T:List Nat}{w w' w'':World}(h:dl S w w')(h':dl T w' w'')(hs:∀i∈T,i∈S\/w.heap.size<=i:=by simp):dl S w w'':=
 ⟨h'.os.trans h.os,Nat.le_trans h.size h'.size,λk hk hS=>(h'.block k (Nat.lt_of_lt_of_le hk h.size) λx=>(hs k x).elim hS λq=>by omega).trans (h.block k hk hS)⟩
theorem dl.mono {S T:List Nat}{w w':World}(h:dl S w w')(hs:∀i∈S,i∈T\/w.heap.size<=i:=by simp):dl T w w':=⟨h.os,h.size,λk hk hT=>h.block k hk λx=>(hs k x).elim hT λq=>by omega⟩
namespace aF
namespace Sq
theorem o6 {E:ah.Env}{f:FuncId}{k:List Item}{R:Act->World->Prop}{a:Act}{wL:World}(a':Act)(e:a=a')(h:ah.CI E f k R a' wL):ah.CI E f k R a wL:=e▸h
def Hw (f:ByteArray->Option Value)(wL:World)(v:Value)(w':World):Prop:=∃ps:List (List UInt8),ps.Pairwise (·<=·)/\ps.Nodup/\(∀l,l∈ps↔f (aB l)≠none)/\dl [] wL w'/\
 ((v= .slice none 0 0/\ps=[])\/∃g cap,v= .slice (some ⟨g,0,none⟩) ps.length cap/\wL.heap.size<=g/\g<w'.heap.size/\Holds encStr w' g 0 ps.toArray)
theorem Kc {E:ah.Env}{wL:World}{bx:Nat}{f:ByteArray->Option Value}{es:Array MapEntry}(h:ah.CC E 134 #[mV bx] (Ks f wL) wL)(hes:∀ks:List ByteArray,ks.Nodup->(∀s,s∈ks↔f s≠none)->ks.length<1000000):
  ah.CC E 89 #[mV bx] (Hw f wL) wL:=by
 refine ah.k9 Tryz.func89 rfl ?_;refine ah.cQ (ah.dz (ej _ rfl (.inl rfl) rfl (ah.co ?_)));refine ah.cQ (ah.dz (ej _ rfl (.inr rfl) rfl ?_));refine jb (f2:=134) #[.tmp 4] #[mV bx] (R2:=Ks f wL) rfl rfl (by kernel_rfl) (λb w=>by kernel_rfl) (by kernel_rfl) h λv w1 hR hsz=>?_
 refine ej _ rfl (.inl rfl) rfl (ah.co ?_);refine o6 {tmps:=#[mV bx,undef,.slice none 0 0,v,mV bx,v,undef,undef,undef],defers:=[]} (by kernel_rfl) ?_;obtain⟨ks,hn,hmem,hv⟩:=hR;have hlen:=hes ks hn hmem;rcases hv with⟨rfl,rfl,t,d,rfl⟩|⟨cap,rfl,hle,t,d,rfl⟩
 .refine ah.cU none ⟨_,Tryz.func89⟩ (by kernel_rfl) (by simp) (λw=>dl [] wL w) (λw t d h=>h.tape t d) ((dl.refl _ _).tape t d) λw hI hs=>?_
  go_wp2_with fail;refine(Tryz.slices_Sort_string_none none 0 w).mono ?_;rintro e w6 ⟨rfl,rfl⟩;go_wp2_with fail;exact⟨w6.tape,w6.drawn,.slice none 0 0,by kernel_rfl,[],.nil,.nil,λl=>by rw[<-hmem];simp,hI,.inl ⟨rfl,rfl⟩⟩
 .obtain⟨qs,hqs⟩:∃qs:List (List UInt8),qs=ks.map λk=>k.data.toList:=⟨_,rfl⟩
  have hql:qs.length=ks.length:=by rw[hqs];simp
  have hqv:ks.map Value.string=qs.map encStr:=by
   rw[hqs,List.map_map];refine List.map_congr_left λk _=>?_
   simp[encStr]
  have hqm:∀l,l∈qs↔f (aB l)≠none:=λl=>by
   rw[hqs,List.mem_map,<-hmem];constructor
   .rintro⟨k,hk,rfl⟩
    simpa [aB] using hk
   .intro hl
    exact⟨aB l,hl,by simp[aB]⟩
  have hqn:qs.Nodup:=by
   rw[hqs];refine List.Pairwise.map _ (λa b hab he=>hab ?_) hn;have:a.data=b.data:=Array.ext' he;cases a;cases b;simp_all
  have hlt:qs.length<4611686018427387904:=by omega
  rw[<-hql,hqv];clear hqv hql hlen hqs hmem hn;refine ah.cU none ⟨_,Tryz.func89⟩ (by kernel_rfl) (by simp) (λw=>dl [] wL w/\wL.heap.size<w.heap.size/\Holds encStr w wL.heap.size 0 qs.toArray) (λw t d h=>⟨h.1.tape t d,h.2.1,h.2.2⟩) ⟨?_,?_,?_⟩ λw hI hs=>?_
  .exact⟨rfl,by simp[ax],λk hk _=>by show(wL.heap.push _)[k]? =_;rw[Array.getElem?_push_lt hk];exact(Array.getElem?_eq_getElem hk).symm⟩
  .show wL.heap.size<(wL.heap.push _).size
   simp
  .intro j hj
   have hj':j<qs.length:=by simpa using hj
   have hrow:(ax {wL with heap:=wL.heap.push (.cells (qs.map encStr++List.replicate (cap-qs.length) (Value.string ⟨#[]⟩)).toArray aF.jT (0,0))} t d).heap[wL.heap.size]? =some (.cells (qs.map encStr++List.replicate (cap-qs.length) (Value.string ⟨#[]⟩)).toArray aF.jT (0,0)):=by
    show(wL.heap.push _)[wL.heap.size]? =_;simp
   refine⟨?_,Lib.frozen_of_heap hrow _⟩;rw[Lib.cell_of_heap hrow,Nat.zero_add];rw[List.getElem?_toArray,List.getElem?_append_left (by simpa using hj'),getElem!_pos qs.toArray j hj];simp[hj']
  obtain⟨hB,hg,hH⟩:=hI;generalize hgg:wL.heap.size=g at*;go_wp2_with fail;refine(Tryz.slices_Sort_string g 0 cap qs w hH hg hlt).mono ?_;rintro e w6 ⟨rfl,m,os,OR⟩;have hsl:(qs.mergeSort λx y=>decide (x<=y)).length=qs.length:=List.length_mergeSort _;have hH6:Holds encStr w6 g 0 (qs.mergeSort λx y=>decide (x<=y)).toArray:=by
   rw[OR];exact holds_grow _ _ _ _ _ _ (by rw[size_putRow];exact hg) (holds_putRow _ _ _ _ _ _ (holds_ahead _ _ _ _ _ _ hH) (by simp))
  have f6:aO [g] w w6:=by
   rw[OR];exact(((pI w m).mono (T:=[g]) (by simp)).trans (nm encStr _ g 0 _) (λi hi=> .inl hi)).trans (xK _ _)
  have B6:dl [] wL w6:=hB.trans f6.blk (by simp[hgg]);have hg6:g<w6.heap.size:=Nat.lt_of_lt_of_le hg f6.size;have hp:(qs.mergeSort λx y=>decide (x<=y)).Pairwise (·<=·):=zB;have hn6:(qs.mergeSort λx y=>decide (x<=y)).Nodup:=(List.mergeSort_perm _ _).nodup_iff.2 hqn;have hm6:∀l,l∈(qs.mergeSort λx y=>decide (x<=y))↔f (aB l)≠none:=λl=>by rw[List.mem_mergeSort];exact hqm l
  clear OR f6 hH hB hs;generalize (qs.mergeSort λx y=>decide (x<=y))=rs at*;go_wp2_with fail;exact⟨w6.tape,w6.drawn,.slice (some ⟨g,0,none⟩) qs.length cap,by kernel_rfl,rs,hp,hn6,hm6,B6,.inr ⟨g,cap,by rw[hsl],by rw[hgg];exact Nat.le_refl _,hg6,hH6⟩⟩
end Sq
end aF
end
section
open Go.RowKit Go.Lib
def kJ (a b:Option (Bool×ByteArray)):Option Nat:=match a,b with
 |none,_=>some 1
 |some _,none=>some 0
 |some x,some y=>if x=y then some 0 else none
section
variable {P:Program}{ops:Array Oper}{Q:Exit->Act->World->Prop}{a:Act}{w:World}{rest:List Oper}{o:Oper}
theorem Gi (hw:Region.wanted o (yielded ops a.tmps)=true)(v:Value)(w1:World)(hr:(execOp a.eval o).run P w= .ok (.value v) w1)(h:wpList P ops Q rest (a.put o.dst v) w1):wpList P ops Q (o::rest) a w:=by
 unfold wpList;rw[if_pos hw];refine .inl ?_;unfold Oper.wp;rw[hr];exact h
end
theorem Iv (xb yb:Bool)(xs ys:ByteArray):kJ (some (xb,xs)) (some (yb,ys))=if(xb==yb&&xs==ys)=true then some 0 else none:=by
 have e:((xb==yb&&xs==ys)=true)↔(xb,xs)=(yb,ys):=by rw[Bool.and_eq_true,beq_iff_eq,Go.MapKept.bytes_beq,Prod.mk.injEq]
 show(if(xb,xs)=(yb,ys) then some 0 else none)=_
 by_cases h:(xb,xs)=(yb,ys)
 .rw[if_pos h,if_pos (e.2 h)]
 .rw[if_neg h,if_neg λq=>h (e.1 q)]
theorem PW {w:World}(b1 b2:Bool)(s1 s2:ByteArray):aF.RT (kd.bin .eql aF.TH (aF.hv b1 s1) (aF.hv b2 s2)).sem w (.value (.bool (b1==b2&&s1==s2))) w #[]:=by
 have hg:Tryz.prog.eqGuardType Tryz.prog.depth aF.TH=false:=by kernel_rfl
 refine aF.RT.aN (x:= .bool (b1==b2&&s1==s2)) (aF.RT.aN (x:=()) (w1:=w) ?_ ?_) (.pure _)
 .unfold eqGuard
  simp only[aF.hv];refine aF.fL.aN (aF.fL.aN ?_);rw[hg];exact .pure _
 .exact aF.RT.aN (aF.zG 9998 b1 b2 s1 s2) (.pure _)
section
variable {ops:Array Oper}{Q:Exit->Act->World->Prop}{a:Act}{w:World}{rest:List Oper}{o:Oper}
theorem O6 (hw:Region.wanted o (yielded ops a.tmps)=true)(x y:Nat)(u:TypeId)(ho:o.op= .binOp .eql aF.TH (.tmp x) (.tmp y) u){b1 b2:Bool}{s1 s2:ByteArray}(hx:a.eval (.tmp x)=aF.hv b1 s1)(hy:a.eval (.tmp y)=aF.hv b2 s2)
  (h:wpList Tryz.prog ops Q rest (a.put o.dst (.bool (b1==b2&&s1==s2))) w):wpList Tryz.prog ops Q (o::rest) a w:=by
 refine Gi hw _ w ?_ h;have:=(PW (w:=w) b1 b2 s1 s2).run;unfold execOp;rw[ho];show(do pure (.value (<-(do eqGuard .eql aF.TH (.tmp x) (.tmp y) (a.eval (.tmp x)) (a.eval (.tmp y));binOp .eql aF.TH (a.eval (.tmp x)) (a.eval (.tmp y))))):Sem Next).run _ _=_;rw[hx,hy,oU _ _ _ _ rfl rfl];exact this
theorem BE (hw:Region.wanted o (yielded ops a.tmps)=true)(t:TypeId)(x:Operand)(ho:o.op= .load t x)(b off:Nat)(hx:a.eval x= .pointer (some ⟨b,off,none⟩)){cs:Array Value}{u:TypeId}{f:Nat×Nat}{n:Nat}(hr:w.heap[b]? =some (.cells cs u f))
  (ha:(Tryz.prog.underlying t).map (λd=>match d with|.struct _|.array _ _=>true|_=>false)=some true) (hn:(Tryz.prog.info? t).map (·.size)=some n) (hle:off+n<=cs.size) (v:Value) (hv:Value.agg (cs.extract off (off+n))=v)
  (h:wpList Tryz.prog ops Q rest (a.put o.dst v) w):wpList Tryz.prog ops Q (o::rest) a w:=by
 obtain⟨ev,h1,_⟩:=aF.jM hr ha hn hle;rw[hv] at h1;refine Gi hw _ w ?_ h;have:=h1.run;unfold execOp;rw[ho];show(do pure (.value (<-Instr.loadAt t (a.eval x))):Sem Next).run _ _=_;rw[hx];exact this
end
theorem Ev (a b:Option (Bool×ByteArray))(w:World):
  Calls Tryz.prog 91 #[.agg (aF.bR a b)] w λe w'=>e= .returned (.tuple #[.int .i64 ((kJ a b).getD 0),.bool (kJ a b).isSome])/\aO [] w w':=by
 go_enter Tryz.func91,Tryz.ntmps91;go_wp2_with (with_reducible first|refine bG rfl ?_);refine al.go (ij rfl 164 _ rfl (.agg (aF.bR a b)) rfl ?_);intro w1 b1 l1 f1 r1;have c0:w1.cell? ⟨b1,0,none⟩=some (.bool a.isSome):=by rw[r1.cell];rfl
 have c1:w1.cell? ⟨b1,1,none⟩=some (.bool b.isSome):=by rw[r1.cell];rfl
 cases a with
 |none=>
  simp only[Option.isSome_none] at c0;go_wp2_with (with_reducible first|refine ay 161 rfl ?_|refine cF 161 rfl ?_)
  go_ret2
  exact⟨rfl,f1⟩
 |some x=>
  simp only[Option.isSome_some] at c0;cases b with
  |none=>
   simp only[Option.isSome_none] at c1;go_wp2_with (with_reducible first|refine ay 161 rfl ?_|refine cF 161 rfl ?_)
   go_ret2
   exact⟨rfl,f1⟩
  |some y=>
   simp only[Option.isSome_some] at c1;go_wp2_with (with_reducible first|refine ay 161 rfl ?_|refine cF 161 rfl ?_);obtain⟨xb,xs⟩:=x;obtain⟨yb,ys⟩:=y;refine al.go (BE rfl 161 _ rfl b1 2 rfl r1 (by kernel_rfl) (n:=2) (by kernel_rfl) (by simp[aF.bR,Value.cells]) (aF.hv xb xs) (by simp[aF.bR,Value.cells,aF.hv]) ?_)
   go_wp2_with (with_reducible first|refine ay 161 rfl ?_|refine cF 161 rfl ?_);refine al.go (BE rfl 161 _ rfl b1 4 rfl r1 (by kernel_rfl) (n:=2) (by kernel_rfl) (by simp[aF.bR,Value.cells]) (aF.hv yb ys) (by simp[aF.bR,Value.cells,aF.hv]) ?_);go_wp2_with (with_reducible first|refine ay 161 rfl ?_|refine cF 161 rfl ?_)
   refine al.go (O6 rfl 15 18 _ rfl (b1:=xb) (b2:=yb) (s1:=xs) (s2:=ys) rfl rfl ?_);have hsrc:=Iv xb yb xs ys;cases heq:(xb==yb&&xs==ys) with
   |true=>
    have hs:Hid (kJ (some (xb,xs)) (some (yb,ys))=some 0):=by show _=_;rw[hsrc,heq];rfl
    clear hsrc;go_wp2_with (with_reducible first|refine ay 161 rfl ?_|refine cF 161 rfl ?_)
    go_ret2
    exact⟨by rw[hs.out];rfl,f1⟩
   |false=>
    have hs:Hid (kJ (some (xb,xs)) (some (yb,ys))=none):=by show _=_;rw[hsrc,heq];rfl
    clear hsrc;go_wp2_with (with_reducible first|refine ay 161 rfl ?_|refine cF 161 rfl ?_)
    go_ret2
    exact⟨by rw[hs.out];rfl,f1⟩
end
section
open Go.RowKit Go.Lib Go.Sort
open Go.Conc (base G stepG_value listed)
namespace aF
namespace Sq
abbrev Ty:Nat:=90
def TS (m:Nat)(wL:World)(v:Value)(w':World):Prop:=v=mV wL.heap.size/\∃t d,w'=ax {wL with heap:=wL.heap.push (.cells #[.map (some m)] OA (0,0))} t d
theorem jA {E:ah.Env}{f:FuncId}{k:List Item}{R:Act->World->Prop}{a:Act}{wL w1:World}{ops:Array Oper}{i:Nat}{rest:List Nat}{o:Oper}(v:Value)(ho:ops[i]? =some o)(hg:o.guard=none)(hr:∀t d,(execOp a.eval o).run PP (ax wL t d)= .ok (.value v) (ax w1 t d))(h:ah.CI E f (.inRegion ops rest::k) R (a.put o.dst v) w1)(qk:jZ PP S0 E0 true o=true:=by kernel_rfl):ah.CI E f (.inRegion ops (i::rest)::k) R a wL:=by
 refine ah.TD ho qk hg λt d=>?_
 rw[hr];exact(ah.nr t d).2 h
theorem DN {E:ah.Env}{f:FuncId}{k:List Item}{R:Act->World->Prop}{a:Act}{wL:World}{ops:Array Oper}{i:Nat}{rest:List Nat}{o:Oper}(g j:Nat)(ho:ops[i]? =some o)(hg:o.guard=none)(hop:o.op= .makeFunc (.func g) #[] #[.tmp j])
  (h:ah.CI E f (.inRegion ops rest::k) R (a.put o.dst (.func (.func g) #[] #[a.eval (.tmp j)])) wL):ah.CI E f (.inRegion ops (i::rest)::k) R a wL:=λCS π M tr hp ha hd hk=>by
 have hwd:∀c:Array Value,Region.wanted o (yielded ops c)=true:=λc=>by simp[Region.wanted,hg]
 have hkb:(base f).kind≠.early:=by simp[base]
 have hv:VV (gp E.H wL) (a.eval (.tmp j)):=lI (x:= .tmp j) ha rfl;have hr:∀w es,(execOp (aY π a []).eval o).runT PP w es=(.ok (.value (.func (.func g) #[] #[(aY π a []).eval (.tmp j)])) w,es):=λw es=>by
  unfold execOp;rw[hop];show(do pure (.value (<-Instr.makeFunc (.func g) ((#[]:Array Operand).map (aY π a []).eval) ((#[.tmp j]:Array Operand).map (aY π a []).eval))):Sem Next).runT PP w es=_;rw[show(#[]:Array Operand).map (aY π a []).eval=#[] by simp,show(#[.tmp j]:Array Operand).map (aY π a []).eval=#[(aY π a []).eval (.tmp j)] by simp];rfl
 have hl0:∀w,listed PP (base f).fn (aY π a []) o w=#[]:=λw=>by
  unfold listed;rw[show(execOp (aY π a []).eval o).events PP w #[]=#[] from congrArg Prod.snd (hr w #[])];simp[seen]
 refine ah.eu hp (λw=>by rw[stepG_value ho (hwd _) hkb (by rw[<-Sem.runT_fst PP _ w #[],hr]),hl0]) λM1 Il hp1=>?_
 have e:(aY π a []).put o.dst (.func (.func g) #[] #[(aY π a []).eval (.tmp j)])=aY π (a.put o.dst (.func (.func g) #[] #[a.eval (.tmp j)])) []:=by
  have h1:=rQ (π:=π) a o.dst (.func (.func g) #[] #[a.eval (.tmp j)]);have h2:Value.ren π (.func (.func g) #[] #[a.eval (.tmp j)])= .func (.func g) #[] #[(aY π a []).eval (.tmp j)]:=by
   have h3:(aY π a []).eval (.tmp j)=Value.ren π (a.eval (.tmp j)):=by
    show(a.tmps.map (Value.ren π)).getD j undef=_;rw[jQ];rfl
   rw[h3];simp[oG]
  rw[<-h2];exact h1
 rw[e] at hp1;refine h CS π M1 Il hp1 (jt ha λr hr=>?_) ((put_defers _ _ _).trans hd) hk;cases hr with
 |first hx _=>simp at hx
 |FQ hx hh=>
  simp at hx;subst hx;exact hv r hh
theorem R5 {E:ah.Env}{wL:World}(m:Nat):ah.CC E Ty #[.map (some m)] (TS m wL) wL:=by
 refine ah.k9 Tryz.func90 rfl ?_;refine ah.cQ (ah.dz (jA (w1:={wL with heap:=wL.heap.push (.cells #[.map (some m)] OA (0,0))}) (pb wL.heap.size) rfl rfl (λt d=>by kernel_rfl) ?_));refine ej _ rfl (.inl rfl) rfl (ah.co ?_);refine ah.cQ (ah.dz (DN Tx 1 rfl rfl rfl ?_))
 refine ej _ rfl (.inl rfl) rfl (ah.co (ah.FK ?_));exact⟨mV wL.heap.size,by kernel_rfl,rfl,wL.tape,wL.drawn,rfl⟩
end Sq
end aF
def gC (x:DS)(n:Nat)(s:Int):aF.iJ:=aF.jR (qm s (aP x n)) (qm 2 (aP x n))
def ik (fa fb:aF.iJ)(ps:List (List UInt8)):List (List UInt8×Nat):=ps.filterMap λl=>(kJ (fa (aB l)) (fb (aB l))).map λs=>(l,s)
def jz (fa fb:aF.iJ)(ps:List (List UInt8)):List (List UInt8):=ps.filter λl=>(kJ (fa (aB l)) (fb (aB l))).isNone
def cq (ss:List (List UInt8×Nat)):List Value:=ss.flatMap λp=>[.string (aB p.1),.int .i64 p.2]
theorem Hb (set:Int)(fs:List cV)(s:ByteArray)(h:qm set fs s≠none):∃f∈fs,s=aB f.path:=by
 have key:∀(fs:List cV) (g:ByteArray->Option ByteArray),fs.foldl (λg f=>if(f.set:Int)=set then λs=>if s=aB f.path then some (aB f.content) else g s else g) g s≠none->(∃f∈fs,s=aB f.path)\/g s≠none:=by
  intro fs
  induction fs with
  |nil=>intro g h;exact .inr h
  |cons f fs ih=>
   intro g h;rcases ih _ h with⟨x,hx,e⟩|h
   .exact .inl ⟨x,by simp[hx],e⟩
   .dsimp only at h
    by_cases hs:(f.set:Int)=set
    .rw[if_pos hs] at h
     by_cases he:s=aB f.path
     .exact .inl ⟨f,by simp,he⟩
     .rw[if_neg he] at h;exact .inr h
    .rw[if_neg hs] at h;exact .inr h
 rcases key fs _ h with h|h
 .exact h
 .exact absurd rfl h
theorem Rx {x:DS}{n:Nat}{s:ByteArray}(h:aF.comb (gC x n 0 s) (gC x n 1 s)≠none):∃f∈aP x n,s=aB f.path:=by
 have one:∀set,gC x n set s≠none->∃f∈aP x n,s=aB f.path:=λset hs=>by
  unfold gC aF.jR at hs;split at hs
  .exact absurd rfl hs
  .rename_i hne
   by_cases h1:qm set (aP x n) s=none
   .exact Hb 2 _ s λq=>hne (h1.trans q.symm)
   .exact Hb set _ s h1
 by_cases h0:gC x n 0 s=none
 .by_cases h1:gC x n 1 s=none
  .rw[h0,h1] at h;exact absurd rfl h
  .exact one 1 h1
 .exact one 0 h0
theorem few {x:DS}{n:Nat}(ks:List ByteArray)(hn:ks.Nodup)(h:∀s∈ks,aF.comb (gC x n 0 s) (gC x n 1 s)≠none):ks.length<=54:=by
 have h54:(aP x n).length<=54:=by unfold aP;rw[List.length_map];exact iA x n
 have h1:(ks.map λk=>k.data.toList).Nodup:=by
  refine List.Pairwise.map _ (λa b hab he=>hab ?_) hn;have:a.data=b.data:=Array.ext' he;cases a;cases b;simp_all
 have h2:=mP (ks.map λk=>k.data.toList) ((aP x n).map (·.path)) h1 λa ha=>by
  obtain⟨k,hk,rfl⟩:=List.mem_map.1 ha;obtain⟨f,hf,e⟩:=Rx (h k hk);refine List.mem_map.2 ⟨f,hf,?_⟩;rw[e];simp[aB]
 simp at h2;omega
theorem aF.di.few {es:Array MapEntry}{c:Nat}{f:ByteArray->Option Value}(h:aF.di es c f):∃ks:List ByteArray,ks.Nodup/\ks.length=es.size/\∀s∈ks,f s≠none:=by
 refine⟨es.toList.map λe=>match e.key with|.string s=>s|_=>⟨#[]⟩,?_,by simp,λs hs=>?_⟩
 .have hp:=((Go.MapKept.stamped_iff es c).1 h.stamped).2.2
  refine(List.pairwise_map).2 (hp.imp_of_mem fun {a b} ha hb hab he=>?_);obtain⟨s,hs⟩:=aF.iE (h.keys a ha);obtain⟨s',hs'⟩:=aF.iE (h.keys b hb);rw[hs,hs'] at he hab;simp only at he;subst he
  simp_all
 .obtain⟨e,he,rfl⟩:=List.mem_map.1 hs
  obtain⟨s,hs⟩:=aF.iE (h.keys e he);rw[hs];rw[(h.has s e.val).2 ⟨e,he,hs,rfl⟩];simp
end
section
open Go.RowKit Go.Lib Go.Sort
open Go.Conc (base G)
theorem pL:Elem Tryz.prog 109 168 2 24:=⟨by kernel_rfl,by kernel_rfl,by omega⟩
theorem NV {a b:Option (Bool×ByteArray)}:aF.comb a b≠none↔(a≠none\/b≠none):=by
 unfold aF.comb;cases a<;>cases b<;>simp
theorem World.ownsRow.ahU {S:List Nat}{w w':World}{base:Nat}{e:TypeId}{size:Nat}{v:Value}{n:Nat}{xs:List Value}(h:w.ownsRow base e size v n xs)(f:dl S w w')(hS:∀g,v.ownBlock=some g->g∉S):w'.ownsRow base e size v n xs:=by
 refine⟨h.1,h.2.imp id λ⟨g,cap,cur,e1,e2,e3,e4⟩=>⟨g,cap,cur,e1,e2,?_,e4⟩⟩;rw[f.block g (Array.getElem?_eq_some_iff.1 e3).1 (hS g (by rw[e1];rfl))];exact e3
theorem BR (fa fb:aF.iJ)(ps:List (List UInt8))(k:Nat)(hk:k<ps.length):ik fa fb (ps.take (k+1))=ik fa fb (ps.take k)++((kJ (fa (aB ps[k])) (fb (aB ps[k]))).map λs=>(ps[k],s)).toList:=by
 unfold ik;rw[List.take_succ_eq_append_getElem hk,List.filterMap_append]
 congr 1
 all_goals (cases h:kJ (fa (aB ps[k])) (fb (aB ps[k]))<;>simp[h])
theorem DI (fa fb:aF.iJ)(ps:List (List UInt8))(k:Nat)(hk:k<ps.length):jz fa fb (ps.take (k+1))=jz fa fb (ps.take k)++if(kJ (fa (aB ps[k])) (fb (aB ps[k]))).isNone then [ps[k]] else []:=by
 unfold jz;rw[List.take_succ_eq_append_getElem hk,List.filter_append]
 congr 1
 all_goals (cases h:kJ (fa (aB ps[k])) (fb (aB ps[k]))<;>simp[h])
theorem Eo (fa fb:aF.iJ)(ps:List (List UInt8)):(ik fa fb ps).length<=ps.length:=List.length_filterMap_le _ _
theorem FI (fa fb:aF.iJ)(ps:List (List UInt8)):(jz fa fb ps).length<=ps.length:=List.length_filter_le _ _
theorem rq (a b:List (List UInt8×Nat)):cq (a++b)=cq a++cq b:=by simp[cq]
section
variable {ops:Array Oper}{Q:Exit->Act->World->Prop}{a:Act}{w:World}{rest:List Oper}{o:Oper}
theorem ua {t:TypeId}{x y:Operand}{b:Bool}(_:o.op= .lookup t x y b)(h:al (wpList Tryz.prog ops Q (o::rest) a w)):wpList Tryz.prog ops Q (o::rest) a w:=h
theorem If (hg:o.guard=none)(t kt vt:TypeId)(x y:Operand)(ho:o.op= .lookup t x y false)(ht:Tryz.prog.underlying t=some (.map kt vt))(hk:Tryz.prog.underlying kt=some .string){z:Value}(hz:(Tryz.prog.info? vt).bind (·.zero)=some z)
  {m c:Nat} {es:Array MapEntry} {f:ByteArray->Option Value} {s:ByteArray} (hx:a.eval x= .map (some m)) (hy:a.eval y= .string s) (hm:w.heap[m]? =some (.map es c)) (hf:aF.di es c f) (v:Value) (hv:(f s).getD z=v)
  (h:wpList Tryz.prog ops Q rest (a.put o.dst v) w):wpList Tryz.prog ops Q (o::rest) a w:=by
 refine cx hg v w ?_ h;have:=(aF.pq (t:=t) (s:=s) ht hk hz hm hf).run;rw[hv] at this;unfold execOp;rw[ho];show(do pure (.value (<-Instr.lookup t (a.eval x) (a.eval y) false)):Sem Next).run _ _=_;rw[hx,hy];exact this
end
theorem _root_.Go.World.ownsRow.weak {w:World}{base base':Nat}{e:TypeId}{size:Nat}{v:Value}{n:Nat}{xs:List Value}(h:w.ownsRow base e size v n xs)(hb:base'<=base):w.ownsRow base' e size v n xs:=
 ⟨h.1,h.2.imp id λ⟨g,cap,cur,e1,e2,e3⟩=>⟨g,cap,cur,e1,Nat.le_trans hb e2,e3⟩⟩
def TT (x:DS)(n:Nat)(wL:World)(v:Value)(w':World):Prop:=∃(ps:List (List UInt8)) (sv cv:Value),ps.Pairwise (·<=·)/\ps.Nodup/\(∀l,l∈ps↔aF.comb (gC x n 0 (aB l)) (gC x n 1 (aB l))≠none)/\
 v= .tuple #[sv,cv]/\dl [] wL w'/\w'.ownsRow wL.heap.size 168 2 sv (ik (gC x n 0) (gC x n 1) ps).length (cq (ik (gC x n 0) (gC x n 1) ps))/\
 w'.ownsRow wL.heap.size 9 1 cv (jz (gC x n 0) (gC x n 1) ps).length (eZ (jz (gC x n 0) (gC x n 1) ps))
open aF aF.Sq in
theorem R6 {E:ah.Env}{wL:World}{d bl n:Nat}{x:DS}(hd:aF.fx d bl n x wL):ah.CC E 55 #[.pointer (some ⟨d,0,none⟩)] (TT x n wL) wL:=by
 refine ah.k9 Tryz.func55 rfl ?_;refine ah.cQ (ah.dz (ej _ rfl (.inl rfl) rfl (ej _ rfl (.inl rfl) rfl (ah.co ?_))));refine ah.cQ (ah.dz (ej _ rfl (.inl rfl) rfl (ah.co ?_)))
 refine ah.cQ (ah.dz (ej _ rfl (.inl rfl) rfl (ah.co ?_)));refine ah.cQ (ah.dz (ej _ rfl (.inr rfl) rfl ?_));refine jb (f2:=88) #[.tmp 11] #[.pointer (some ⟨d,0,none⟩)] (R2:=aei x n wL) rfl rfl (by kernel_rfl) (λb w=>by kernel_rfl) (by kernel_rfl) (FO hd) λv w1 hR _=>?_
 obtain⟨es,c,rfl,⟨t1,d1,rfl⟩,hD⟩:=hR;refine(ah.nr t1 d1).2 ?_;obtain⟨es',c',f,e0,hm,hf⟩:=hD;cases e0;have hfix:=DD (a:=gC x n 0) (b:=gC x n 1) (es:=es) (c:=c) ⟨es,c,f,rfl,hm,hf⟩;have hf':∀s,f s=comb (gC x n 0 s) (gC x n 1 s):=hf;obtain⟨w1,hw1⟩:∃w1,w1={wL with heap:=wL.heap.push (.map es c)}:=⟨_,rfl⟩
 rw[<-hw1];have hes:es.size<=54:=by
  obtain⟨ks,k1,k2,k3⟩:=hm.few;rw[<-k2];exact few (x:=x) (n:=n) ks k1 λs hs=>by rw[<-hf'];exact k3 s hs
 have B1:dl [] wL w1:=by
  rw[hw1];exact⟨rfl,by simp,λk hk _=>by show(wL.heap.push _)[k]? =_;rw[Array.getElem?_push_lt hk];exact(Array.getElem?_eq_getElem hk).symm⟩
 have hM1:w1.heap[wL.heap.size]? =some (.map es c):=by rw[hw1];simp
 have s1:w1.heap.size=wL.heap.size+1:=by rw[hw1];simp
 clear hw1;refine ej _ rfl (.inl rfl) rfl (ah.co ?_);refine ah.cQ (ah.cQ (ah.dz (ej _ rfl (.inr rfl) rfl ?_)));refine jb (f2:=Ty) #[.tmp 13] #[.map (some wL.heap.size)] (R2:=TS wL.heap.size w1) rfl rfl (by kernel_rfl) (λb w=>by kernel_rfl) (by kernel_rfl) (R5 _) λv w2 hR _=>?_
 obtain⟨rfl,t2,d2,rfl⟩:=hR;refine(ah.nr t2 d2).2 ?_;obtain⟨w2,hw2⟩:∃w2,w2={w1 with heap:=w1.heap.push (.cells #[.map (some wL.heap.size)] OA (0,0))}:=⟨_,rfl⟩
 rw[<-hw2];have B2:dl [] w1 w2:=by
  rw[hw2];exact⟨rfl,by simp,λk hk _=>by show(w1.heap.push _)[k]? =_;rw[Array.getElem?_push_lt hk];exact(Array.getElem?_eq_getElem hk).symm⟩
 have hB2:w2.heap[w1.heap.size]? =some (.cells #[.map (some wL.heap.size)] OA (0,0)):=by rw[hw2];simp
 have s2:w2.heap.size=w1.heap.size+1:=by rw[hw2];simp
 clear hw2;have hM2:w2.heap[wL.heap.size]? =some (.map es c):=(B2.block _ (by omega) (by simp)).trans hM1;refine jb (f2:=89) #[.tmp 14] #[mV w1.heap.size] (R2:=Hw f w2) rfl rfl (by kernel_rfl) (λb w=>by kernel_rfl) (by kernel_rfl)
  (Kc (es:=es) (FP (YV hB2 hM2 hm hfix (by omega))) λks k1 k2=>Nat.lt_of_le_of_lt (few (x:=x) (n:=n) ks k1 λs hs=>by rw[<-hf'];exact(k2 s).1 hs) (by omega)) λv w3 hR _=>?_
 obtain⟨ps,hs,hn,hmem,B3,hv⟩:=hR;have XE:w3.heap[wL.heap.size]? =some (.map es c):=(B3.block _ (by omega) (by simp)).trans hM2;have BL:dl [] wL w3:=(B1.trans B2).trans B3;obtain⟨ad,cap,rfl,hcell⟩:∃ad cap,v= .slice ad ps.length cap/\(0<ps.length->∃g,ad=some ⟨g,0,none⟩/\g<w3.heap.size/\Holds encStr w3 g 0 ps.toArray):=by
  rcases hv with⟨rfl,rfl⟩|⟨g,cap,rfl,_,h2,h3⟩
  .exact⟨none,0,rfl,λh=>absurd h (by simp)⟩
  .exact⟨_,cap,rfl,λ_=>⟨g,rfl,h2,h3⟩⟩
 have hpl:ps.length<=54:=by
  have:=few (x:=x) (n:=n) (ps.map aB) (List.Pairwise.map _ (λa b hab he=>hab (by simpa [aB] using he)) hn) λs hs=>by
   obtain⟨l,hl,rfl⟩:=List.mem_map.1 hs;rw[<-hf'];exact(hmem l).1 hl
  simpa using this
 clear hv B1 B2 B3 hM1 hM2 hB2;refine jA (w1:=w3) (.int .i64 ps.length) rfl rfl (λt d=>by kernel_rfl) ?_;refine ej _ rfl (.inr rfl) rfl (ah.co ?_)
 refine o6 {tmps:=#[.pointer (some ⟨d,0,none⟩),undef,.slice none 0 0,.slice none 0 0,.slice none 0 0,.slice none 0 0,.map (some wL.heap.size),undef,undef,undef,undef,.pointer (some ⟨d,0,none⟩),.map (some wL.heap.size),.map (some wL.heap.size),mV w1.heap.size,.slice ad ps.length cap,.int .i64 ps.length,.int .i64 0,undef,undef,undef,undef,undef,undef,undef,undef,undef,undef,undef,undef,undef,undef,undef,undef,undef,undef,undef,undef,undef,undef,undef,undef],defers:=[]} (by kernel_rfl) ?_
 generalize hmm:wL.heap.size=m at*;generalize w1.heap.size=qb at*;refine ah.cU none ⟨_,Tryz.func55⟩ (by kernel_rfl) (by simp) (λw=>dl [] wL w/\w.heap[m]? =some (.map es c)/\(0<ps.length->∃g,ad=some ⟨g,0,none⟩/\g<w.heap.size/\Holds encStr w g 0 ps.toArray)) (λw t d h=>⟨h.1.tape t d,h.2.1,h.2.2⟩) ⟨BL,XE,hcell⟩ λw hI hsz=>?_
 obtain⟨hB,hM,hC⟩:=hI;clear BL XE hcell hsz;go_wp2_with fail
 go_loopw [4,5,17] (λu4 u5 u17 wr=>∃k:Nat,u17= .int .i64 k/\k<=ps.length/\aO [] w wr/\wr.ownsRow w.heap.size 168 2 u4 (ik (gC x n 0) (gC x n 1) (ps.take k)).length (cq (ik (gC x n 0) (gC x n 1) (ps.take k)))/\
  wr.ownsRow w.heap.size 9 1 u5 (jz (gC x n 0) (gC x n 1) (ps.take k)).length (eZ (jz (gC x n 0) (gC x n 1) (ps.take k)))/\∀g,u4.ownBlock=some g->u5.ownBlock=some g->False) (λ_ _ u17 _=>ps.length-(intOf u17).toNat)
 case atStart=>exact⟨0,rfl,by omega,aO.refl _ _,World.ownsRow_nil _ _ _ _,World.ownsRow_nil _ _ _ _,λg h=>by cases h⟩
 case round=>
  obtain⟨k,rfl,hk,fk,ho1,ho2,JF⟩:=hrel
  by_cases hlt:k<ps.length
  .obtain⟨g,rfl,hg,hH⟩:=hC (by omega)
   have hc1:wr.cell? ⟨g,k,none⟩=some (.string (aB ps[k])):=by
    have h1:=(hH k (by simpa using hlt)).1;rw[getElem!_pos ps.toArray k (by simpa using hlt)] at h1;have h2:wr.heap[g]? =w.heap[g]? :=fk.block g hg (by simp);unfold World.cell? at h1⊢;simp only[Nat.zero_add] at h1;rw[h2];simpa [encStr,aB] using h1
   have hM':wr.heap[m]? =some (.map es c):=(fk.block m (Array.getElem?_eq_some_iff.1 hM).1 (by simp)).trans hM;have hs1:=BR (gC x n 0) (gC x n 1) ps k hlt;have hs2:=DI (gC x n 0) (gC x n 1) ps k hlt;have hl1:(ik (gC x n 0) (gC x n 1) (ps.take k)).length<=54:=by have:=Eo (gC x n 0) (gC x n 1) (ps.take k);rw[List.length_take] at this;omega
   have hl2:(jz (gC x n 0) (gC x n 1) (ps.take k)).length<=54:=by have:=FI (gC x n 0) (gC x n 1) (ps.take k);rw[List.length_take] at this;omega
   generalize ps[k]=p at*;have hfp:(f (aB p)).getD zF= .agg (aF.bR (gC x n 0 (aB p)) (gC x n 1 (aB p))):=by rw[hf',x7]
   go_wp2_with (with_reducible first|refine ua rfl ?_);refine al.go (If rfl 153 9 164 _ _ rfl KT KU KE rfl rfl hM' hm _ hfp ?_);clear hfp hM' hc1;have ZS:Hid (ik (gC x n 0) (gC x n 1) (ps.take (k+1))=ik (gC x n 0) (gC x n 1) (ps.take k)++((kJ (gC x n 0 (aB p)) (gC x n 1 (aB p))).map λs=>(p,s)).toList):=hs1
   have HS2:Hid (jz (gC x n 0) (gC x n 1) (ps.take (k+1))=jz (gC x n 0) (gC x n 1) (ps.take k)++if(kJ (gC x n 0 (aB p)) (gC x n 1 (aB p))).isNone then [p] else []):=hs2;clear hs1 hs2;generalize gC x n 0 (aB p)=fa at ZS HS2⊢;generalize gC x n 1 (aB p)=fb at ZS HS2⊢;go_wp2_with (with_reducible first|refine ua rfl ?_);refine(Ev fa fb wr).mono ?_
   rintro e w4 ⟨rfl,f4⟩;have Ts:=fk.trans f4;have Q3:=f4.owns ho1;have Q0:=f4.owns ho2;cases hsrc:kJ fa fb with
   |some sd=>
    rw[hsrc] at ZS HS2;simp only[Option.getD_some,Option.isSome_some];go_wp2_with (with_reducible first|refine bC 168 rfl ?_|refine bO rfl ?_|refine bP rfl ?_);refine al.go (cx rfl (.agg #[.string (aB p),.int .i64 sd]) w4 (by kernel_rfl) ?_);go_wp2_with (with_reducible first|refine bO rfl ?_|refine bP rfl ?_)
    refine al.go (fU rfl 109 168 2 24 pL _ rfl (.agg #[.string (aB p),.int .i64 sd]) rfl rfl ?_);intro w8 b8 l8 f8 r8;go_wp2_with (with_reducible first|refine bO rfl ?_|refine bP rfl ?_);have xF:=f8.owns Q3;have Fh:=f8.owns Q0;have Nd:=Ts.trans f8;have hbase:w.heap.size<=w8.heap.size:=Nd.size
    refine al.go (iz rfl 109 168 2 24 pL _ _ rfl w.heap.size u4 _ _ rfl xF b8 1 1 [.string (aB p),.int .i64 sd] rfl _ _ r8 rfl rfl (by simp[Value.oneCell']) (by omega) (by omega) (by omega) hbase ?_);intro g' cap' w9 JB f9 hg';have Ry:=Nd.trans f9 (by intro j hj;right;simp at hj;exact(xF.lt j hj).1)
    have ahf:=f9.owns Fh (by intro q hq hq';simp at hq;exact JF q hq hq');have MP:∀q,g'=q->u5.ownBlock=some q->False:=λq e hq=>by
     subst e;rcases hg' with h|h
     .exact JF g' h hq
     .have:=(Fh.lt g' hq).2;omega
    clear ho1 ho2 Q3 Q0 xF Fh r8 f8 f9 l8 fk Ts Nd f4 hbase JF hg';go_wp2_with fail
    go_roundw
    case rel=>
     refine⟨k+1,by go_num,by omega,Ry,?_,?_,λq h=>MP q (by simpa [Value.ownBlock] using h)⟩
     .rw[ZS.out,rq]
      simpa [cq] using JB
     .rw[HS2.out]
      simpa using ahf
    case measure=>simp[intOf];omega
   |none=>
    rw[hsrc] at ZS HS2;simp only[Option.getD_none,Option.isSome_none];go_wp2_with (with_reducible first|refine bC 168 rfl ?_|refine bO rfl ?_|refine bP rfl ?_);refine al.go (fU rfl 45 9 1 16 iG _ rfl (.string (aB p)) rfl rfl ?_);intro w8 b8 l8 f8 r8;go_wp2_with (with_reducible first|refine bO rfl ?_|refine bP rfl ?_)
    have xF:=f8.owns Q3;have Fh:=f8.owns Q0;have Nd:=Ts.trans f8;have hbase:w.heap.size<=w8.heap.size:=Nd.size;refine al.go (iz rfl 45 9 1 16 iG _ _ rfl w.heap.size u5 _ _ rfl Fh b8 1 1 [.string (aB p)] rfl _ _ r8 rfl rfl (by simp[Value.oneCell']) (by omega) (by omega) (by omega) hbase ?_);intro g' cap' w9 JB f9 hg'
    have Ry:=Nd.trans f9 (by intro j hj;right;simp at hj;exact(Fh.lt j hj).1);have ahg:=f9.owns xF (by intro q hq hq';simp at hq;exact JF q hq' hq);have MP:∀q,u4.ownBlock=some q->g'=q->False:=λq hq e=>by
     subst e;rcases hg' with h|h
     .exact JF g' hq h
     .have:=(xF.lt g' hq).2;omega
    clear ho1 ho2 Q3 Q0 xF Fh r8 f8 f9 l8 fk Ts Nd f4 hbase JF hg';go_wp2_with fail
    go_roundw
    case rel=>
     refine⟨k+1,by go_num,by omega,Ry,?_,?_,λq h h'=>MP q h (by simpa [Value.ownBlock] using h')⟩
     .rw[ZS.out]
      simpa using ahg
     .rw[HS2.out]
      simpa [eZ,encStr,aB] using JB
    case measure=>simp[intOf];omega
  .have hk2:k=ps.length:=by omega
   subst hk2;rw[List.take_of_length_le (Nat.le_refl _)] at ho1 ho2;have hbw:m<=w.heap.size:=by have:=hB.size;omega
   go_wp2_with fail;refine ah.cQ (ah.dz (ej _ rfl (.inr rfl) rfl (ej _ rfl (.inr rfl) rfl (ej _ rfl (.inl rfl) rfl (ej _ rfl (.inl rfl) rfl (ah.co (ah.FK ?_)))))));refine⟨.tuple #[u4,u5],by kernel_rfl,ps,u4,u5,hs,hn,λl=>by rw[<-hf'];exact hmem l,rfl,hB.trans fk.blk,?_,?_⟩
   .rw[hmm];exact ho1.weak hbw
   .rw[hmm];exact ho2.weak hbw
end
section
open Go.RowKit Go.Lib
theorem xA:∃i,Tryz.prog.info? 5=some i/\i.size=1/\i.bytes=1/\i.zero=some (.int .u8 0):=by
 have:=Jv;cases hi:Tryz.prog.info? 5 with
 |none=>simp[hi] at this
 |some i=>simp only[hi,Option.map_some,Option.some.injEq,Prod.mk.injEq] at this;exact⟨i,rfl,this⟩
def yD (b:Nat)(w w':World):Prop:=∀k o,w.heap[k]? =some o->k≠b->(∀c f,o≠.cells c 5 f)->w'.heap[k]? =some o
theorem yD.refl (b:Nat)(w:World):yD b w w:=λ_ _ h _ _=>h
theorem yD.trans {b:Nat}{w w' w'':World}(h:yD b w w')(h':yD b w' w''):yD b w w'':=λk o h1 h2 h3=>h' k o (h k o h1 h2 h3) h2 h3
theorem yD.cell {b off:Nat}{w:World}(v:Value):yD b w (w.setCell ⟨b,off,none⟩ v):=λk o h1 h2 _=>by rw[(Go.Conc.aside_setCell w ⟨b,off,none⟩ v).block k h2];exact h1
theorem yD.vO {b:Nat}{w w':World}(h:aO [] w w'):yD b w w':=λk o h1 _ _=>by rw[h.block k (Array.getElem?_eq_some_iff.1 h1).1 (by simp)];exact h1
theorem yD.grown {b B n:Nat}{w w':World}{v:Value}{xs:List Value}(ho:w.ownsRow B 5 1 v n xs)(h:w.grownBy w' v.ownBlock):yD b w w':=λk o h1 _ h3=>by
 rw[h.block k (Array.getElem?_eq_some_iff.1 h1).1 λe=>?_]
 .exact h1
 .rcases ho.2 with⟨rfl,_⟩|⟨g,cap,cur,rfl,_,hg,_⟩
  .cases e
  .have:g=k:=by simpa [Value.ownBlock] using e.symm
   subst this;rw[hg] at h1;exact h3 _ _ (Option.some.inj h1).symm
theorem uP (B b:Nat)(bs:List Value)(w:World)(h:IsBuilder 146 5 B b bs w):
  Calls Tryz.prog 129 #[.pointer (some ⟨b,0,none⟩)] w λe w'=>e= .returned (.tuple #[])/\BuilderAt 146 5 B b (.pointer (some ⟨b,0,none⟩)) bs w'/\Below B w w'/\yD b w w':=by
 rcases h with h|h
 .refine(vr b w h.cell0 h.shape h.frozen0).mono ?_
  rintro e w' ⟨rfl,rfl⟩;exact⟨rfl,h.used _,(Below.refl B w).setCell (p:=⟨b,0,none⟩) h.1 _,yD.cell _⟩
 .refine(x4 b w h.cell0).mono ?_
  rintro e w' ⟨rfl,rfl⟩;exact⟨rfl,h,Below.refl B _,yD.refl _ _⟩
theorem JS:Elem Tryz.prog 85 5 1 1:=⟨ta,by kernel_rfl,by omega⟩
theorem Ig (B b:Nat)(bs:List Value)(c:Int)(w:World)(h:IsBuilder 146 5 B b bs w)(hlen:bs.length+1<=1000000)(hBw:B<=w.heap.size):
  Calls Tryz.prog 179 #[.pointer (some ⟨b,0,none⟩),.int .u8 c] w λe w'=>e= .returned .nilIface/\BuilderAt 146 5 B b (.pointer (some ⟨b,0,none⟩)) (bs++[.int .u8 c]) w'/\Below B w w'/\yD b w w':=by
 obtain⟨i0,hi,hz⟩:=xA;go_enter Tryz.func179,Tryz.ntmps179;go_wp2_with fail;refine(uP B b bs w h).mono ?_;rintro e w1 ⟨rfl,h1',hb1,ot1⟩;obtain⟨hB,v,hbk,hown,hne⟩:=h1';have c0:w1.cell? ⟨b,0,none⟩=some (.pointer (some ⟨b,0,none⟩)):=by rw[Lib.cell_of_heap hbk];rfl
 have c1:w1.cell? ⟨b,1,none⟩=some v:=by rw[Lib.cell_of_heap hbk];rfl
 have hlt:b<w1.heap.size:=(Array.getElem?_eq_some_iff.1 hbk).1;go_wp2_with (with_reducible first|refine bO rfl ?_|refine bP rfl ?_);refine al.go (fU rfl 85 5 1 1 JS _ rfl (.int .u8 c) rfl rfl ?_);intro w2 b2 l2 f2 r2;have hown2:=f2.owns hown
 have hbk2:w2.heap[b]? =some (.cells #[.pointer (some ⟨b,0,none⟩),v] 146 (0,0)):=by rw[f2.block b hlt (by simp)];exact hbk
 have hsz:=hb1.size;have hsz2:=f2.size;have hcell2:∀j u,[Value.int .u8 c][j]? =some u->w2.cell? ((⟨b2,0,none⟩:Addr).add j)=some u:=λj u hj=>by
  rw[Addr.add_mid,r2.cell];simpa [Value.cells] using hj
 clear c0 c1;go_wp2_with (at_builtin;refine wpList_append_own _ rfl _ _ 85 rfl B 5 i0 (.int .u8 0) 1 1 ta hi hz.2.2 hz.1 hz.2.1 rfl (by decide) _ _ _ rfl hown2 ⟨b2,0,none⟩ 1 1 [.int .u8 c] rfl rfl hcell2 (by simp[Value.oneCell']) ?c3 ?c4 ?c5 ?_)
 case c3=>unfold maxLen;omega
 case c4=>omega
 case c5=>omega
 intro v' w3 hown' hgrow _;have hb3:w3.heap[b]? =some (.cells #[.pointer (some ⟨b,0,none⟩),v] 146 (0,0)):=by
  rw[hgrow.block b (by omega) (λe=>hne e.symm)];exact hbk2
 have d0:w3.cell? ⟨b,0,none⟩=some (.pointer (some ⟨b,0,none⟩)):=by rw[Lib.cell_of_heap hb3];rfl
 have d1:w3.cell? ⟨b,1,none⟩=some v:=by rw[Lib.cell_of_heap hb3];rfl
 have f1:w3.frozen? ⟨b,1,none⟩=false:=Lib.frozen_of_heap hb3 1;obtain⟨ao,n',cap,rfl⟩:∃ao n' cap,v'= .slice ao n' cap:=by
  rcases hown'.2 with⟨hv,_⟩|⟨g,cap,cur,hv,_⟩
  .exact⟨_,_,_,hv⟩
  .exact⟨_,_,_,hv⟩
 have hB2:Below B w w2:=⟨f2.os.trans hb1.os,f2.tape.trans hb1.tape,f2.output.trans hb1.output,by omega,λk hk=>by rw[f2.block k (by have:=hb1.size;omega) (by simp)];exact hb1.block k hk⟩
 go_wp2_with fail;go_ret;refine⟨rfl,?_,?_,((ot1.trans (yD.vO f2)).trans (yD.grown hown2 hgrow)).trans (yD.cell _)⟩
 .exact Lib.BuilderAt.put (T:=146) (e:=5) hB hb3 (bs':=bs++[.int .u8 c]) (by simpa using hown') (by decide)
 .exact(hB2.grown hgrow (by omega) (λk hk=>(hown.lt k hk).1)).setCell (p:=⟨b,1,none⟩) hB _
theorem BB (B b:Nat)(bs:List Value)(s:ByteArray)(w:World)(h:IsBuilder 146 5 B b bs w)(hlen:bs.length+s.size<=1000000)(hBw:B<=w.heap.size):
  Calls Tryz.prog 153 #[.pointer (some ⟨b,0,none⟩),.string s] w λe w'=>e= .returned (.tuple #[.int .i64 s.size,.nilIface])/\BuilderAt 146 5 B b (.pointer (some ⟨b,0,none⟩)) (bs++strCells s) w'/\Below B w w'/\yD b w w':=by
 obtain⟨i0,hi,hz⟩:=xA;go_enter Tryz.func153,Tryz.ntmps153;go_wp2_with fail;refine(uP B b bs w h).mono ?_;rintro e w1 ⟨rfl,h1',hb1,ot1⟩;obtain⟨hB,v,hbk,hown,hne⟩:=h1';have c0:w1.cell? ⟨b,0,none⟩=some (.pointer (some ⟨b,0,none⟩)):=by rw[Lib.cell_of_heap hbk];rfl
 have c1:w1.cell? ⟨b,1,none⟩=some v:=by rw[Lib.cell_of_heap hbk];rfl
 have hlt:b<w1.heap.size:=(Array.getElem?_eq_some_iff.1 hbk).1;have hsz:=hb1.size;go_wp2_with (at_builtin;refine Lib.wpList_append_own_string _ rfl _ _ 85 9 rfl B 5 i0 ta Tryz.underlying9 hi hz.2.2 hz.1 hz.2.1 _ _ _ rfl hown s rfl ?c3 ?c4 ?c5 ?_)
 case c3=>unfold maxLen;omega
 case c4=>omega
 case c5=>omega
 intro v' w3 hown' hgrow _;have hb3:w3.heap[b]? =some (.cells #[.pointer (some ⟨b,0,none⟩),v] 146 (0,0)):=by
  rw[hgrow.block b (by omega) (λe=>hne e.symm)];exact hbk
 have d0:w3.cell? ⟨b,0,none⟩=some (.pointer (some ⟨b,0,none⟩)):=by rw[Lib.cell_of_heap hb3];rfl
 have d1:w3.cell? ⟨b,1,none⟩=some v:=by rw[Lib.cell_of_heap hb3];rfl
 have f1:w3.frozen? ⟨b,1,none⟩=false:=Lib.frozen_of_heap hb3 1;obtain⟨ao,n',cap,rfl⟩:∃ao n' cap,v'= .slice ao n' cap:=by
  rcases hown'.2 with⟨hv,_⟩|⟨g,cap,cur,hv,_⟩
  .exact⟨_,_,_,hv⟩
  .exact⟨_,_,_,hv⟩
 clear c0 c1;go_wp2_with fail
 go_ret2
 refine⟨rfl,?_,?_,(ot1.trans (yD.grown hown hgrow)).trans (yD.cell _)⟩
 .exact Lib.BuilderAt.put (T:=146) (e:=5) hB hb3 (bs':=bs++strCells s) (by rw[List.length_append,strCells_length];exact hown') (by decide)
 .exact(hb1.grown hgrow (by omega) (λk hk=>(hown.lt k hk).1)).setCell (p:=⟨b,1,none⟩) hB _
def de (ss:List (List UInt8×Nat)):List UInt8:=ss.flatMap λp=>(if p.2=0 then 76 else 82)::p.1
theorem Dy (a b:List (List UInt8×Nat)):de (a++b)=de a++de b:=by simp[de]
theorem nZ (l:List (List UInt8×Nat))(k:Nat)(hk:k<l.length):((cq l).drop (k*2)).take 2=[.string (aB l[k].1),.int .i64 l[k].2]:=by
 have h:∀(l:List (List UInt8×Nat)) (k:Nat),(cq l).drop (k*2)=cq (l.drop k):=by
  intro l
  induction l with
  |nil=>intro k;simp[cq]
  |cons f r ih=>
   intro k;cases k with
   |zero=>simp
   |succ k=>
    have:=ih k;have e:cq (f::r)=[.string (aB f.1),.int .i64 f.2]++cq r:=rfl;rw[e,show(k+1)*2=2+k*2 by omega,<-List.drop_drop];simpa using this
 rw[h,List.drop_eq_getElem_cons hk];rfl
theorem row_step:(Tryz.prog.underlying 168).map TypeDesc.isRow=some true:=by kernel_rfl
theorem pF:(Tryz.prog.info? 168).map (·.size)=some 2:=by kernel_rfl
theorem zp:(Tryz.prog.info? 168).map (·.zero)=some (some (.agg #[.string ⟨#[]⟩,.int .i64 0])):=by kernel_rfl
theorem wi (l:List UInt8):strCells (aB l)=byteCells l:=by
 unfold strCells aB byteCells;simp
theorem Df (base:Nat)(v:Value)(ss:List (List UInt8×Nat))(w:World)(hv:w.ownsRow base 168 2 v ss.length (cq ss))(hl:ss.length<=54)(hp:∀p∈ss,p.1.length<=8/\p.2<=1):
  Calls Tryz.prog 138 #[v] w λe w'=>e= .returned (.string (aB (de ss)))/\aO [] w w':=by
 obtain⟨ad,cap,hv'⟩:=bQ hv;subst hv';have hel:∀k,k<=ss.length->(de (ss.take k)).length<=9*k:=by
  intro k
  induction k with
  |zero=>intro _;simp[de]
  |succ k ih=>
   intro hk;rw[List.take_succ_eq_append_getElem (by omega),Dy,List.length_append];have h1:=ih (by omega);have h2:=(hp ss[k] (List.getElem_mem (by omega))).1;have h3:(de [ss[k]]).length=1+ss[k].1.length:=by simp[de];omega
   omega
 go_enter Tryz.func138,Tryz.ntmps138;go_wp2_with (with_reducible first|refine az rfl ?_);refine al.go (bi rfl 146 rfl _ Ac ?_);intro w1 b3 l3 f1 r3;have hB0:IsBuilder 146 5 w.heap.size b3 (byteCells (de (ss.take 0))) w1:=
  .inl ⟨l3,.slice none 0 0,r3,by simpa [byteCells,de] using World.ownsRow_nil _ _ _ _,by simp[Value.ownBlock]⟩
 go_wp2_with fail;clear r3
 go_loopw [8] (λc wr=>∃k:Nat,c= .int .i64 k/\k<=ss.length/\aO [] w wr/\IsBuilder 146 5 w.heap.size b3 (byteCells (de (ss.take k))) wr) (λc _=>ss.length-(intOf c).toNat)
 case atStart=>exact⟨0,rfl,by omega,f1,hB0⟩
 case round=>
  obtain⟨k,rfl,hk,fk,hb⟩:=hrel;clear f1 hB0
  by_cases hlt:k<ss.length
  .have hvk:=fk.owns hv
   obtain⟨g,cur,rfl,hg,hle,_,hcs,htk⟩:=eU hvk;have hat:((cur.toList.drop (k*2)).take 2)=[.string (aB ss[k].1),.int .i64 ss[k].2]:=by
    rw[ck htk _ _,nZ ss k hlt]
   have hpk:=hp ss[k] (List.getElem_mem hlt);have hek:=hel k hk;have HX:Hid (de (ss.take (k+1))=de (ss.take k)++((if ss[k].2=0 then 76 else 82)::ss[k].1)):=by
    show _=_;rw[List.take_succ_eq_append_getElem hlt,Dy];simp[de]
   generalize ss[k]=p at*;obtain⟨p1,p2⟩:=p;simp only at hat hpk HX;generalize de (ss.take k)=pre at*;clear hcs htk hvk;go_wp2_with (with_reducible first|refine az rfl ?_|refine ay 168 rfl ?_|refine af 168 rfl ?_);refine al.go (bU rfl 168 _ rfl g (k*2) rfl row_step 2 pF _ _ hg _ hat rfl ?_);clear hat hg
   go_wp2_with (with_reducible first|refine az rfl ?_|refine af 168 rfl ?_);refine al.go (bi rfl 168 rfl _ zp ?_);intro w4 b5 l5 f4 r5;go_wp2_with (with_reducible first|refine az rfl ?_|refine af 168 rfl ?_);refine al.go (bK rfl 168 _ _ rfl _ 0 rfl _ rfl 2 pF ?_ ?_ _ _ r5 ?_ ?_)
   .rfl
   .simp[Value.oneCell']
   .decide
   intro w5 f5 q5;rw[bH _ _ (by rfl)] at q5;have nF:Row w5 b5 #[.string (aB p1),.int .i64 p2] 168:=q5;have mL:aO [] wr w5:=f4.trans f5 (by simpa using l5);have vp:=fk.trans mL;have hb5:=QV hb mL;have c0:w5.cell? ⟨b5,0,none⟩=some (.string (aB p1)):=by rw[nF.cell];rfl
   have hne:b5≠b3:=by
    have:b3<wr.heap.size:=by
     rcases hb with hb|hb<;>exact hb.lt
    omega
   have hlen1:(byteCells pre).length+1<=1000000:=by rw[ai];omega
   clear q5 r5 f4 f5 mL fk hb;have hs8:(aB p1).size<=8:=by simpa [aB,ByteArray.size] using hpk.1
   obtain⟨cb,hcb,HX2⟩:∃cb:UInt8,Hid (cb=if p2=0 then 76 else 82)/\Hid (de (ss.take (k+1))=pre++[cb]++p1):=⟨_,rfl,by show _=_;rw[HX.out];rcases(by omega:p2=0\/p2=1) with rfl|rfl<;>simp⟩
   clear HX;rcases(by omega:p2=0\/p2=1) with rfl|rfl
   all_goals
    have c1:=nF.cell 1;simp at c1;go_wp2_with fail;refine(Ig w.heap.size b3 _ _ w5 hb5 hlen1 vp.size).mono ?_;rintro e w6 ⟨rfl,hb6,bl6,ot6⟩;have vo:=pH vp bl6;have acU:IsBuilder 146 5 w.heap.size b3 (byteCells (pre++[cb])) w6:=by
     rw[byteCells_append,hcb.out];exact .inr hb6
    have q6:Row w6 b5 _ 168:=ot6 b5 _ nF hne (by simp);have d0:w6.cell? ⟨b5,0,none⟩=some (.string (aB p1)):=by rw[q6.cell];rfl
    have G0:(byteCells (pre++[cb])).length+(aB p1).size<=1000000:=by rw[ai,List.length_append,List.length_singleton];omega
    clear hb6 bl6 ot6 hb5 nF q6 vp c0 c1 hlen1;go_wp2_with fail;refine(BB w.heap.size b3 _ _ w6 acU G0 vo.size).mono ?_;rintro e w7 ⟨rfl,hb7,bl7,_⟩;have yB:=pH vo bl7;have ahw:IsBuilder 146 5 w.heap.size b3 (byteCells (de (ss.take (k+1)))) w7:=by
     rw[HX2.out,byteCells_append,<-wi p1];exact .inr hb7
    clear hb7 bl7 acU vo d0 G0;go_wp2_with fail
    go_roundw
    case rel=>exact⟨k+1,by go_num,by omega,yB,ahw⟩
    case measure=>simp[intOf];omega
  .obtain rfl:k=ss.length:=by omega
   rw[List.take_of_length_le (by omega)] at hb;go_wp2_with fail;refine(Tryz.Builder_String_any w.heap.size b3 (de ss) wr hb fk.size).mono ?_;rintro e w6 ⟨rfl,bl6⟩;have vo:=pH fk bl6;go_wp2_with fail;go_ret;exact⟨rfl,vo⟩
def hvD (o:Option (List UInt8)):Value:=aF.hv o.isSome (aB (o.getD []))
def hcells (o:Option (List UInt8)):Array Value:=#[.bool o.isSome,.string (aB (o.getD []))]
theorem rO:(Tryz.prog.underlying 161).map TypeDesc.isRow=some true:=by kernel_rfl
theorem jx:(Tryz.prog.info? 161).map (·.size)=some 2:=by kernel_rfl
theorem sY:(Tryz.prog.info? 161).map (·.zero)=some (some (.agg #[.bool false,.string ⟨#[]⟩])):=by kernel_rfl
theorem zV (d bl n:Nat)(vw:Value)(x:DS)(s:Int)(p:ByteArray)(w:World)(h:bv w d bl n vw x):
  Calls Tryz.prog 142 #[.pointer (some ⟨d,0,none⟩),.agg (dL s p)] w λe w'=>e= .returned (hvD (x.content n s p))/\aO [] w w':=by
 go_enter Tryz.func142,Tryz.ntmps142;go_wp2_with (with_reducible first|refine bG rfl ?_|refine az rfl ?_|refine ay 103 rfl ?_);refine al.go (ij rfl 103 _ rfl (.agg (dL s p)) rfl ?_);intro w1 b3 l3 f1 r3;have h1:=h.new f1;go_wp2_with (with_reducible first|refine az rfl ?_|refine ay 103 rfl ?_)
 refine al.go (bi rfl 161 rfl _ sY ?_);intro w2 b4 l4 f2 r4;have h2:=h1.new f2;have r32:Row w2 b3 (dL s p) 103:=by unfold Row;rw[f2.block b3 (Array.getElem?_eq_some_iff.1 r3).1 (by simp)];exact r3
 go_wp2_with (with_reducible first|refine ay 103 rfl ?_);refine al.go (bU rfl 103 _ rfl b3 0 rfl gP 2 eJ _ _ r32 [.int .i64 s,.string p] rfl rfl ?_);go_wp2_with fail;refine(sw d bl n vw x s p w2 h2).mono ?_;rintro e w3 ⟨rfl,f3⟩
 have r43:Row w3 b4 #[.bool false,.string ⟨#[]⟩] 161:=by unfold Row;rw[f3.block b4 (Array.getElem?_eq_some_iff.1 r4).1 (by simp)];exact r4
 have Ft:=(f1.trans f2).trans f3;have hfz:w.heap.size<=b4:=Nat.le_trans f1.size l4;clear h1 h2 r3 r4 r32 f1 f2 f3;obtain⟨o,ho⟩:∃o,x.content n s p=o:=⟨_,rfl⟩
 have HC:Hid (x.content n s p=o):=ho;rw[ho];clear ho;go_wp2_with (with_reducible first|refine bC 161 rfl ?_|refine af 161 rfl ?_);refine al.go (cx rfl (.agg (hcells o)) w3 (by kernel_rfl) ?_);go_wp2_with (with_reducible first|refine af 161 rfl ?_);refine al.go (bK rfl 161 _ _ rfl b4 0 rfl (hcells o) rfl 2 jx ?_ ?_ _ _ r43 ?_ ?_)
 .rfl
 .simp[hcells,Value.oneCell']
 .decide
 intro w4 f4 q4;rw[bH _ _ (by rfl)] at q4;have LK:Row w4 b4 (hcells o) 161:=q4;have fw:=Ft.trans f4 (by simp;exact hfz);clear q4;go_wp2_with fail;exact lA rfl b4 rfl rfl _ _ LK rO (by exact jx) ⟨by rw[HC.out];rfl,fw⟩
theorem yR (s:Nat)(hs:s<=1)(w:World):Calls Tryz.prog 143 #[.int .i64 s] w λe w'=>e= .returned (.int .i64 (1-s:Nat))/\w'=w:=by
 rcases(by omega:s=0\/s=1) with rfl|rfl
 .go_enter Tryz.func143,Tryz.ntmps143
  go_wp2_with fail;go_ret;exact⟨rfl,rfl⟩
 .go_enter Tryz.func143,Tryz.ntmps143
  go_wp2_with fail;go_ret;exact⟨rfl,rfl⟩
structure dh where
 set:Nat
 path:List UInt8
 becomes:Option (List UInt8)
 replaces:Bool
def dh.vals (w:dh):List Value:=[.int .i64 w.set,.string (aB w.path),.bool w.becomes.isSome,.string (aB (w.becomes.getD [])),.bool w.replaces]
def jJ (ws:List dh):List Value:=ws.flatMap dh.vals
def dm (x:DS)(n:Nat)(p:List UInt8×Nat)(set:Nat):List dh:=if x.content n set (aB p.1)=x.content n p.2 (aB p.1) then [] else [⟨set,p.1,x.content n p.2 (aB p.1),(x.content n set (aB p.1)).isSome⟩]
def fA (x:DS)(n:Nat)(p:List UInt8×Nat):List dh:=dm x n p (1-p.2)++dm x n p 2
def bq (x:DS)(n:Nat)(ss:List (List UInt8×Nat)):List dh:=ss.flatMap (fA x n)
theorem yF (x:DS)(n:Nat)(ss:List (List UInt8×Nat))(k:Nat)(hk:k<ss.length):bq x n (ss.take (k+1))=bq x n (ss.take k)++fA x n ss[k]:=by
 unfold bq;rw[List.take_succ_eq_append_getElem hk,List.flatMap_append];simp
theorem nV (x:DS)(n:Nat)(p:List UInt8×Nat)(s:Nat):(dm x n p s).length<=1:=by unfold dm;split<;>simp
theorem iK (x:DS)(n:Nat)(ss:List (List UInt8×Nat)):(bq x n ss).length<=2*ss.length:=by
 induction ss with
 |nil=>simp[bq]
 |cons p ss ih=>
  have e:bq x n (p::ss)=fA x n p++bq x n ss:=rfl;have h1:=nV x n p (1-p.2);have h2:=nV x n p 2;rw[e,List.length_append,List.length_cons];unfold fA;rw[List.length_append];omega
theorem Ia (a b:List dh):jJ (a++b)=jJ a++jJ b:=by simp[jJ]
theorem xU:Elem Tryz.prog 173 176 5 56:=⟨by kernel_rfl,by kernel_rfl,by omega⟩
theorem ME {a b:Option (List UInt8)}:(a.isSome==b.isSome&&aB (a.getD [])==aB (b.getD []))=true↔a=b:=by
 rw[Bool.and_eq_true,beq_iff_eq,Go.MapKept.bytes_beq];constructor
 .rintro⟨h1,h2⟩
  have h3:a.getD []=b.getD []:=by
   have:=congrArg (λs:ByteArray=>s.data.toList) h2;simpa [aB] using this
  cases a<;>cases b<;>simp_all
 .rintro rfl
  exact⟨rfl,rfl⟩
section
variable {ops:Array Oper}{Q:Exit->Act->World->Prop}{a:Act}{w:World}{rest:List Oper}{o:Oper}
theorem qu {t:TypeId}{x y:Operand}(_:o.op= .index t x y)(h:al (wpList Tryz.prog ops Q (o::rest) a w)):wpList Tryz.prog ops Q (o::rest) a w:=h
theorem O5 (hg:o.guard=none)(x y:Nat)(u:TypeId)(ho:o.op= .binOp .neq aF.TH (.tmp x) (.tmp y) u){b1 b2:Bool}{s1 s2:ByteArray}(hx:a.eval (.tmp x)=aF.hv b1 s1)(hy:a.eval (.tmp y)=aF.hv b2 s2)
  (h:wpList Tryz.prog ops Q rest (a.put o.dst (.bool (!(b1==b2&&s1==s2)))) w):wpList Tryz.prog ops Q (o::rest) a w:=by
 refine cx hg _ w ?_ h;have:=(aF.GA (w:=w) b1 b2 s1 s2).run;unfold execOp;rw[ho];show(do pure (.value (<-(do eqGuard .neq aF.TH (.tmp x) (.tmp y) (a.eval (.tmp x)) (a.eval (.tmp y));binOp .neq aF.TH (a.eval (.tmp x)) (a.eval (.tmp y))))):Sem Next).run _ _=_;rw[hx,hy,oU _ _ _ _ rfl rfl];exact this
end
theorem Row.aside {w w':World}{b base size n:Nat}{c:Array Value}{t e:TypeId}{v:Value}{xs:List Value}(r:Row w b c t)(ho:w.ownsRow base e size v n xs)(hne:t≠e)(f:aO v.ownBlock.toList w w'):Row w' b c t:=by
 unfold Row at r⊢;rw[f.block b (Array.getElem?_eq_some_iff.1 r).1 λhb=>?_]
 .exact r
 .rcases ho.2 with⟨rfl,_⟩|⟨g,cap,cur,rfl,_,hg,_⟩
  .simp[Value.ownBlock] at hb
  .have:b=g:=by simpa [Value.ownBlock] using hb
   subst this;rw[r] at hg;cases hg;exact hne rfl
theorem Row.vO {w w':World}{b:Nat}{c:Array Value}{t:TypeId}(r:Row w b c t)(f:aO [] w w'):Row w' b c t:=by
 unfold Row at r⊢;rw[f.block b (Array.getElem?_eq_some_iff.1 r).1 (by simp)];exact r
theorem vU (d bl n:Nat)(vw:Value)(x:DS)(base:Nat)(v:Value)(ss:List (List UInt8×Nat))(w:World)(h:bv w d bl n vw x)(hv:w.ownsRow base 168 2 v ss.length (cq ss))(hl:ss.length<=54)(hp:∀p∈ss,p.2<=1):
  Calls Tryz.prog 95 #[.pointer (some ⟨d,0,none⟩),v] w λe w'=>∃u,e= .returned u/\w'.ownsRow w.heap.size 176 5 u (bq x n ss).length (jJ (bq x n ss))/\aO [] w w':=by
 obtain⟨ad,cap,hv'⟩:=bQ hv;subst hv';go_enter Tryz.func95,Tryz.ntmps95;go_wp2_with fail
 go_loopw [5,15] (λu c wr=>∃k:Nat,c= .int .i64 k/\k<=ss.length/\aO [] w wr/\wr.ownsRow w.heap.size 176 5 u (bq x n (ss.take k)).length (jJ (bq x n (ss.take k)))) (λ_ c _=>ss.length-(intOf c).toNat)
 case atStart=>exact⟨0,rfl,by omega,aO.refl _ _,World.ownsRow_nil _ _ _ _⟩
 case round=>
  obtain⟨k,rfl,hk,fk,ho⟩:=hrel
  by_cases hlt:k<ss.length
  .have hvk:=fk.owns hv
   obtain⟨g,cur,rfl,hg,hle,_,hcs,htk⟩:=eU hvk;have hat:((cur.toList.drop (k*2)).take 2)=[.string (aB ss[k].1),.int .i64 ss[k].2]:=by
    rw[ck htk _ _,nZ ss k hlt]
   have hpk:=hp ss[k] (List.getElem_mem hlt);have hlen:(bq x n (ss.take k)).length<=108:=by have:=iK x n (ss.take k);rw[List.length_take] at this;omega
   have HX:Hid (bq x n (ss.take (k+1))=bq x n (ss.take k)++fA x n ss[k]):=yF x n ss k hlt;generalize ss[k]=p at*;generalize bq x n (ss.take k)=pre at*;obtain⟨p1,sd⟩:=p;simp only at hat hpk;clear hcs htk hvk;go_wp2_with (with_reducible first|refine az rfl ?_|refine ay 168 rfl ?_|refine af 168 rfl ?_)
   refine al.go (bU rfl 168 _ rfl g (k*2) rfl row_step 2 pF _ _ hg _ hat rfl ?_);clear hat hg;go_wp2_with (with_reducible first|refine az rfl ?_|refine af 168 rfl ?_);refine al.go (bi rfl 168 rfl _ zp ?_);intro w4 b7 l7 f4 r4;go_wp2_with (with_reducible first|refine az rfl ?_|refine af 168 rfl ?_)
   refine al.go (bK rfl 168 _ _ rfl _ 0 rfl _ rfl 2 pF ?_ ?_ _ _ r4 ?_ ?_)
   .rfl
   .simp[Value.oneCell']
   .decide
   intro w5 f5 q5;rw[bH _ _ (by rfl)] at q5;have nF:Row w5 b7 #[.string (aB p1),.int .i64 sd] 168:=q5;have mL:aO [] wr w5:=f4.trans f5 (by simpa using l7);have vp:=fk.trans mL;have Bx:=mL.owns ho;have h5:=h.new vp;have c0:w5.cell? ⟨b7,0,none⟩=some (.string (aB p1)):=by rw[nF.cell];rfl
   have c1:w5.cell? ⟨b7,1,none⟩=some (.int .i64 sd):=by rw[nF.cell];rfl
   clear q5 r4 f4 f5 fk ho;go_wp2_with (with_reducible first|refine bC 103 rfl ?_|refine az rfl ?_);refine al.go (cx rfl (.agg (dL sd (aB p1))) w5 (by kernel_rfl) ?_);go_wp2_with (with_reducible first|refine az rfl ?_);refine(zV d bl n vw x sd (aB p1) w5 h5).mono ?_;rintro e w6 ⟨rfl,f6⟩;obtain⟨o,ho0⟩:∃o,x.content n sd (aB p1)=o:=⟨_,rfl⟩
   have HB:Hid (x.content n sd (aB p1)=o):=ho0;rw[ho0];clear ho0 h5 c0 c1;go_wp2_with (with_reducible first|refine az rfl ?_);refine al.go (bi rfl 161 rfl _ sY ?_);intro w7 b8 l8 f7 r7;go_wp2_with (with_reducible first|refine af 161 rfl ?_);refine al.go (bK rfl 161 _ _ rfl b8 0 rfl (hcells o) rfl 2 jx ?_ ?_ _ _ r7 ?_ ?_)
   .rfl
   .simp[hcells,Value.oneCell']
   .decide
   intro w8 f8 q8;rw[bH _ _ (by rfl)] at q8;have q8':Row w8 b8 (hcells o) 161:=q8;have f68:aO [] w5 w8:=f6.trans (f7.trans f8 (by simpa using l8));have qY:=vp.trans f68;have q7:=nF.vO f68;have Ee:=f68.owns Bx;have c1:w8.cell? ⟨b7,1,none⟩=some (.int .i64 sd):=by rw[q7.cell];rfl
   clear q8 r7 f6 f7 f8 f68 vp nF Bx;go_wp2_with fail;refine(yR sd hpk w8).mono ?_;rintro e w9 ⟨rfl,rfl⟩;go_wp2_with (with_reducible first|refine bC 233 rfl ?_);refine al.go (cx rfl (.agg #[.int .i64 (1-sd:Nat),.int .i64 2]) w9 (by kernel_rfl) ?_);go_wp2_with fail
   go_loopw [5,30] (λu c wr2=>∃j:Nat,c= .int .i64 j/\j<=2/\aO [] w wr2/\Row wr2 b7 #[.string (aB p1),.int .i64 sd] 168/\Row wr2 b8 (hcells o) 161/\
    wr2.ownsRow w.heap.size 176 5 u (pre++([1-sd,2].take j).flatMap (dm x n (p1,sd))).length (jJ (pre++([1-sd,2].take j).flatMap (dm x n (p1,sd))))) (λ_ c _=>2-(intOf c).toNat)
   case atStart=>exact⟨0,rfl,by omega,qY,q7,q8',by simpa using Ee⟩
   case round=>
    obtain⟨j,rfl,hj,fr,rb7,rb8,hor⟩:=hrel;clear c1 q7 q8' Ee qY
    by_cases hj2:j<2
    .have G0:(pre++([1-sd,2].take j).flatMap (dm x n (p1,sd))).length<=110:=by
      have h1:=nV x n (p1,sd) (1-sd);rw[List.length_append];rcases(by omega:j=0\/j=1) with rfl|rfl<;>simp<;>omega
     obtain⟨tw,jn,HT,HJ,HY⟩:∃tw jn:Nat,Hid (tw=if j=0 then 1-sd else 2)/\Hid (jn=j+1)/\Hid (([1-sd,2].take jn).flatMap (dm x n (p1,sd))=([1-sd,2].take j).flatMap (dm x n (p1,sd))++dm x n (p1,sd) tw):=⟨_,_,rfl,rfl,by show _=_;rcases(by omega:j=0\/j=1) with rfl|rfl<;>simp⟩
     obtain⟨agB,MI⟩:∃l,l=pre++([1-sd,2].take j).flatMap (dm x n (p1,sd)):=⟨_,rfl⟩
     have HP2:Hid (agB=pre++([1-sd,2].take j).flatMap (dm x n (p1,sd))):=MI;rw[<-MI] at hor G0;clear MI;rcases(by omega:j=0\/j=1) with rfl|rfl
     all_goals
      have c0:wr.cell? ⟨b7,0,none⟩=some (.string (aB p1)):=by rw[rb7.cell];rfl
      go_wp2_with (with_reducible first|refine qu rfl ?_);refine al.go (cx rfl (.int .i64 (tw:Nat)) wr (by rw[HT.out];kernel_rfl) ?_);go_wp2_with (with_reducible first|refine bC 103 rfl ?_|refine az rfl ?_);refine al.go (cx rfl (.agg (dL tw (aB p1))) wr (by kernel_rfl) ?_);go_wp2_with (with_reducible first|refine az rfl ?_)
      refine al.go (bi rfl 103 rfl KG zq ?_);intro v1 b11 m1 g1 s1;go_wp2_with (with_reducible first|refine af 103 rfl ?_);refine al.go (bK rfl 103 _ _ rfl b11 0 rfl (dL tw (aB p1)) rfl 2 eJ ?_ ?_ _ _ s1 ?_ ?_)
      .rfl
      .simp[dL,Value.oneCell']
      .decide
      intro v2 g2 s2;rw[bH _ _ (by rfl)] at s2;have s2':Row v2 b11 (dL tw (aB p1)) 103:=s2;have g12:aO [] wr v2:=g1.trans g2 (by simpa using m1);have fv2:=fr.trans g12;have h2:=h.new fv2;have aa6:=rb7.vO g12;have aa4:=rb8.vO g12;have ho2:=g12.owns hor;clear s1 s2 g1 g2 g12 fr rb7 rb8 hor c0
      go_wp2_with (with_reducible first|refine ay 103 rfl ?_|refine az rfl ?_);refine al.go (bU rfl 103 _ rfl b11 0 rfl gP 2 eJ _ _ s2' [.int .i64 (tw:Nat),.string (aB p1)] rfl rfl ?_);go_wp2_with (with_reducible first|refine az rfl ?_);refine(zV d bl n vw x tw (aB p1) v2 h2).mono ?_;rintro e v3 ⟨rfl,g3⟩
      obtain⟨o2,Fi⟩:∃o,x.content n tw (aB p1)=o:=⟨_,rfl⟩
      have HO2:Hid (x.content n tw (aB p1)=o2):=Fi;rw[Fi];clear Fi h2;go_wp2_with (with_reducible first|refine az rfl ?_);refine al.go (bi rfl 161 rfl _ sY ?_);intro v4 b12 m4 g4 s4;go_wp2_with (with_reducible first|refine af 161 rfl ?_);refine al.go (bK rfl 161 _ _ rfl b12 0 rfl (hcells o2) rfl 2 jx ?_ ?_ _ _ s4 ?_ ?_)
      .rfl
      .simp[hcells,Value.oneCell']
      .decide
      intro v5 g5 s5;rw[bH _ _ (by rfl)] at s5;have s5':Row v5 b12 (hcells o2) 161:=s5;have ZI:aO [] v2 v5:=g3.trans (g4.trans g5 (by simpa using m4));have fv5:=fv2.trans ZI;have VX:=aa6.vO ZI;have LI:=aa4.vO ZI;have Xs:=ZI.owns ho2;have s25:=s2'.vO ZI;have c12:v5.cell? ⟨b12,0,none⟩=some (.bool o2.isSome):=by rw[s5'.cell];rfl
      clear s4 s5 g3 g4 g5 ZI fv2 aa6 aa4 ho2 s2';go_wp2_with (with_reducible first|refine ay 161 rfl ?_|refine cF 161 rfl ?_);refine al.go (bU rfl 161 _ rfl b12 0 rfl rO 2 jx _ _ s5' [.bool o2.isSome,.string (aB (o2.getD []))] rfl rfl ?_);go_wp2_with (with_reducible first|refine ay 161 rfl ?_|refine cF 161 rfl ?_)
      refine al.go (bU rfl 161 _ rfl b8 0 rfl rO 2 jx _ _ LI [.bool o.isSome,.string (aB (o.getD []))] rfl rfl ?_);go_wp2_with (with_reducible first|refine ay 161 rfl ?_|refine cF 161 rfl ?_);refine al.go (O5 rfl 40 41 _ rfl (b1:=o2.isSome) (b2:=o.isSome) (s1:=aB (o2.getD [])) (s2:=aB (o.getD [])) rfl rfl ?_)
      by_cases heq:(o2.isSome==o.isSome&&aB (o2.getD [])==aB (o.getD []))=true
      .have HW:Hid (dm x n (p1,sd) tw=[]):=by
        show _=_;unfold dm;rw[if_pos (by rw[HO2.out,HB.out];exact ME.1 heq)]
       rw[heq];clear heq;go_wp2_with fail
       go_roundw
       case rel=>exact⟨jn,by rw[HJ.out];rfl,by rw[HJ.out];omega,fv5,VX,LI,by rw[HY.out,HW.out,List.append_nil,<-HP2.out];exact Xs⟩
       case measure=>simp[intOf]
      .have HW:Hid (dm x n (p1,sd) tw=[⟨tw,p1,o,o2.isSome⟩]):=by
        show _=_;unfold dm;rw[if_neg (by rw[HO2.out,HB.out];exactλq=>heq (ME.2 q)),HO2.out,HB.out]
       have heq':(o2.isSome==o.isSome&&aB (o2.getD [])==aB (o.getD []))=false:=by simpa using heq
       rw[heq'];clear heq heq';go_wp2_with (with_reducible first|refine ay 161 rfl ?_|refine ay 103 rfl ?_|refine bC 176 rfl ?_);refine al.go (bU rfl 103 _ rfl b11 0 rfl gP 2 eJ _ _ s25 [.int .i64 (tw:Nat),.string (aB p1)] rfl rfl ?_);go_wp2_with (with_reducible first|refine ay 161 rfl ?_|refine bC 176 rfl ?_)
       refine al.go (bU rfl 161 _ rfl b8 0 rfl rO 2 jx _ _ LI [.bool o.isSome,.string (aB (o.getD []))] rfl rfl ?_);go_wp2_with (with_reducible first|refine bC 176 rfl ?_);refine al.go (cx rfl (.agg (dh.vals ⟨tw,p1,o,o2.isSome⟩).toArray) v5 (by kernel_rfl) ?_);go_wp2_with (with_reducible first|refine bO rfl ?_|refine bP rfl ?_)
       refine al.go (fU rfl 173 176 5 56 xU _ rfl (.agg (dh.vals ⟨tw,p1,o,o2.isSome⟩).toArray) rfl rfl ?_);intro v8 b9 m8 g8 s8;go_wp2_with (with_reducible first|refine bO rfl ?_|refine bP rfl ?_);have Ee:=g8.owns Xs;have fv8:=fv5.trans g8;have aa5:=VX.vO g8;have aa3:=LI.vO g8
       have hbase:w.heap.size<=v8.heap.size:=fv8.size;refine al.go (iz rfl 173 176 5 56 xU _ _ rfl w.heap.size u5 _ _ rfl Ee b9 1 1 (dh.vals ⟨tw,p1,o,o2.isSome⟩) rfl _ _ s8 rfl rfl (by simp[dh.vals,Value.oneCell']) (by omega) (by omega) (by omega) hbase ?_);intro g' cap' v9 JB g9 _;have fv9:=fv8.trans g9 (by intro j hj;right;simp at hj;exact(Ee.lt j hj).1)
       have agr:=aa5.aside Ee (by decide) g9;have agq:=aa3.aside Ee (by decide) g9;clear Xs Ee s8 g8 g9 m8 fv5 fv8 VX LI aa5 aa3 hbase c12 s5' s25;go_wp2_with fail
       go_roundw
       case rel=>
        refine⟨jn,by rw[HJ.out];rfl,by rw[HJ.out];omega,fv9,agr,agq,?_⟩;rw[HY.out,HW.out,<-List.append_assoc,<-HP2.out,Ia,List.length_append];simpa [jJ] using JB
       case measure=>simp[intOf]
    .obtain rfl:j=2:=by omega
     have HZ:Hid (pre++([1-sd,2].take 2).flatMap (dm x n (p1,sd))=bq x n (ss.take (k+1))):=by
      show _=_;rw[HX.out];simp[fA]
     go_wp2_with fail
     go_roundw
     case rel=>exact⟨k+1,by go_num,by omega,fr,by rw[<-HZ.out];exact hor⟩
     case measure=>simp[intOf];omega
  .obtain rfl:k=ss.length:=by omega
   rw[List.take_of_length_le (by omega)] at ho;go_wp2_with fail;go_ret;exact⟨u5,rfl,ho,fk⟩
def k7:List dh->Int->Bool
 |[],_=>true
 |w::r,f=>if w.becomes=none then k7 r (f+1) else if f=0 then false else if w.replaces=false then k7 r (f-1) else k7 r f
def qn (x:DS)(n:Nat)(ss:List (List UInt8×Nat))(free:Int):Bool:=decide (0<=free)&&k7 (bq x n ss) free
theorem BA (l:List dh)(k:Nat)(hk:k<l.length):((jJ l).drop (k*5)).take 5=l[k].vals:=by
 have h:∀(l:List dh) (k:Nat),(jJ l).drop (k*5)=jJ (l.drop k):=by
  intro l
  induction l with
  |nil=>intro k;simp[jJ]
  |cons f r ih=>
   intro k;cases k with
   |zero=>simp
   |succ k=>
    have:=ih k;have e:jJ (f::r)=f.vals++jJ r:=rfl;rw[e,show(k+1)*5=5+k*5 by omega,<-List.drop_drop];have e2:(f.vals++jJ r).drop 5=jJ r:=by simp[dh.vals]
    rw[e2];simpa using this
 rw[h,List.drop_eq_getElem_cons hk];rfl
theorem EJ:(Tryz.prog.underlying 176).map TypeDesc.isRow=some true:=by kernel_rfl
theorem se:(Tryz.prog.info? 176).map (·.size)=some 5:=by kernel_rfl
def zJw:Value:= .agg #[.int .i64 0,.string ⟨#[]⟩,.bool false,.string ⟨#[]⟩,.bool false]
theorem Ge:(Tryz.prog.info? 176).map (·.zero)=some (some zJw):=by kernel_rfl
theorem Nf (d bl n:Nat)(vw:Value)(x:DS)(base:Nat)(v:Value)(ss:List (List UInt8×Nat))(free:Int)(w:World)(h:bv w d bl n vw x)(hv:w.ownsRow base 168 2 v ss.length (cq ss))(hl:ss.length<=54)(hp:∀p∈ss,p.2<=1)(hf0:-1<=free)(hf:free<=1000):
  Calls Tryz.prog 136 #[.pointer (some ⟨d,0,none⟩),v,.int .i64 free] w λe w'=>e= .returned (.bool (qn x n ss free))/\aO [] w w':=by
 by_cases hneg:free<0
 .have HF:Hid (qn x n ss free=false):=by show _=_;unfold qn;rw[decide_eq_false (by omega)];rfl
  obtain⟨ad,cap,hv'⟩:=bQ hv;subst hv';go_enter Tryz.func136,Tryz.ntmps136;go_wp2_with fail;go_ret;exact⟨by rw[HF.out];rfl,aO.refl _ _⟩
 .have HF:Hid (qn x n ss free=k7 (bq x n ss) free):=by show _=_;unfold qn;rw[decide_eq_true (by omega)];rfl
  have hwl:(bq x n ss).length<=108:=by have:=iK x n ss;omega
  obtain⟨ad,cap,hv'⟩:=bQ hv;subst hv';go_enter Tryz.func136,Tryz.ntmps136;go_wp2_with fail;refine(vU d bl n vw x base _ ss w h hv hl hp).mono ?_;rintro e w1 ⟨u,rfl,ho,f1⟩;generalize bq x n ss=ws at*;obtain⟨Oy,cap2,hu⟩:=bQ ho;subst hu;clear hv hp;go_wp2_with fail
  go_loopw [2,15] (λvf c wr=>∃(k:Nat) (f:Int),c= .int .i64 k/\k<=ws.length/\vf= .int .i64 f/\0<=f/\f<=1000+k/\aO [] w1 wr/\k7 (ws.drop k) f=k7 ws free) (λ_ c _=>ws.length-(intOf c).toNat)
  case atStart=>exact⟨0,free,rfl,by omega,rfl,by omega,by omega,aO.refl _ _,by simp⟩
  case round=>
   obtain⟨k,f,rfl,hk,rfl,hfn,hfu,fk,hfit⟩:=hrel
   by_cases hlt:k<ws.length
   .have hok:=fk.owns ho
    obtain⟨g,cur,rfl,hg,hle,_,hcs,htk⟩:=eU hok;have hat:((cur.toList.drop (k*5)).take 5)=ws[k].vals:=by
     rw[ck htk _ _,BA ws k hlt]
    have hd:k7 (ws.drop k) f=if ws[k].becomes=none then k7 (ws.drop (k+1)) (f+1) else if f=0 then false else if ws[k].replaces=false then k7 (ws.drop (k+1)) (f-1) else k7 (ws.drop (k+1)) f:=by
     rw[List.drop_eq_getElem_cons hlt];rfl
    rw[hd] at hfit;clear hd;generalize ws[k]=wd at*;obtain⟨st,pt,bc,rp⟩:=wd;simp only at hfit;clear hcs htk hok;go_wp2_with (with_reducible first|refine az rfl ?_|refine ay 176 rfl ?_|refine af 176 rfl ?_);refine al.go (bU rfl 176 _ rfl g (k*5) rfl EJ 5 se _ _ hg _ hat rfl ?_);clear hat hg
    go_wp2_with (with_reducible first|refine az rfl ?_|refine af 176 rfl ?_);refine al.go (bi rfl 176 rfl _ Ge ?_);intro w4 b7 l7 f4 r4;go_wp2_with (with_reducible first|refine az rfl ?_|refine af 176 rfl ?_);refine al.go (bK rfl 176 _ _ rfl _ 0 rfl _ rfl 5 se ?_ ?_ _ _ r4 ?_ ?_)
    .rfl
    .simp[dh.vals,Value.oneCell']
    .decide
    intro w5 f5 q5;rw[bH _ _ (by rfl)] at q5;have nF:Row w5 b7 (dh.vals ⟨st,pt,bc,rp⟩).toArray 176:=q5;have mL:=fk.trans (f4.trans f5 (by simpa using l7):aO [] wr w5);have c2:w5.cell? ⟨b7,2,none⟩=some (.bool bc.isSome):=by rw[nF.cell];rfl
    have c4:w5.cell? ⟨b7,4,none⟩=some (.bool rp):=by rw[nF.cell];rfl
    clear q5 nF r4 f4 f5 fk l7;cases bc with
    |none=>
     simp only[Option.isSome_none] at c2;rw[if_pos rfl] at hfit;go_wp2_with fail
     go_roundw
     case rel=>exact⟨k+1,f+1,by go_num,by omega,by go_num,by omega,by omega,mL,hfit⟩
     case measure=>simp[intOf];omega
    |some bb=>
     simp only[Option.isSome_some] at c2;rw[if_neg (by simp)] at hfit
     by_cases hz:f=0
     .subst hz
      rw[if_pos rfl] at hfit;have HZ:Hid (k7 ws free=false):=hfit.symm;clear hfit;go_wp2_with fail;go_ret;exact⟨by rw[HF.out,HZ.out];rfl,f1.trans mL⟩
     .rw[if_neg hz] at hfit
      have hz':(f==0)=false:=by simpa using hz
      cases rp with
      |false=>
       rw[if_pos rfl] at hfit;go_wp2_with fail
       go_roundw
       case rel=>exact⟨k+1,f-1,by go_num,by omega,by go_num,by omega,by omega,mL,hfit⟩
       case measure=>simp[intOf];omega
      |true=>
       rw[if_neg (by simp)] at hfit;go_wp2_with fail
       go_roundw
       case rel=>exact⟨k+1,f,by go_num,by omega,rfl,by omega,by omega,mL,hfit⟩
       case measure=>simp[intOf];omega
   .obtain rfl:k=ws.length:=by omega
    rw[List.drop_length] at hfit;have HZ:Hid (k7 ws free=true):=hfit.symm;clear hfit;go_wp2_with fail;go_ret;exact⟨by rw[HF.out,HZ.out];rfl,f1.trans fk⟩
def DS.tP (x:DS)(n:Nat)(w:dh):DS×Value:=match w.becomes with
 |none=>x.remove n w.set (aB w.path)
 |some c=>x.put n w.set (aB w.path) (aB c)
theorem NQ (F:List Nat)(d n:Nat)(x:DS)(wd:dh)(w:World)(h:bI w F d n x)(hx:x.Fit 5)(iI:x.waiting.length<55)(hs:wd.set<256)(hp:wd.path.length<256)(hc:∀c,wd.becomes=some c->c.length<256):
  Calls Tryz.prog 96 #[.agg wd.vals.toArray,.pointer (some ⟨d,0,none⟩)] w λe w'=>e= .returned (x.tP n wd).2/\∃F',bI w' F' d n (x.tP n wd).1/\aO F w w'/\bL F F' w:=by
 obtain⟨st,pt,bc,rp⟩:=wd;simp only at hs hp hc;have hps:(aB pt).size<256:=by simpa [aB,ByteArray.size] using hp
 go_enter Tryz.func96,Tryz.ntmps96;go_wp2_with (with_reducible first|refine bG rfl ?_);refine al.go (ij rfl 176 _ rfl (.agg (dh.vals ⟨st,pt,bc,rp⟩).toArray) rfl ?_);intro w1 b2 l1 f1 r1;have h1:=h.new f1;have r1':Row w1 b2 (dh.vals ⟨st,pt,bc,rp⟩).toArray 176:=r1;have c2:w1.cell? ⟨b2,2,none⟩=some (.bool bc.isSome):=by rw[r1'.cell];rfl
 have c3:w1.cell? ⟨b2,3,none⟩=some (.string (aB (bc.getD []))):=by rw[r1'.cell];rfl
 clear r1;cases bc with
 |none=>
  simp only[Option.isSome_none] at c2;have HD:Hid (x.tP n ⟨st,pt,none,rp⟩=x.remove n st (aB pt)):=rfl;go_wp2_with (with_reducible first|refine ay 103 rfl ?_);refine al.go (bU rfl 103 _ rfl b2 0 rfl gP 2 eJ _ _ r1' [.int .i64 st,.string (aB pt)] rfl rfl ?_);clear c2 c3 r1';go_wp2_with fail
  refine(oH F d n x st (aB pt) w1 h1 ⟨hx.kb,by have:=hx.ka;omega,hx.j9,hx.j8⟩ (by omega)).mono ?_;rintro e w2 ⟨rfl,F',h2,f2,g2⟩;obtain⟨r,hr⟩:∃r,x.remove n st (aB pt)=r:=⟨_,rfl⟩
  rw[hr] at h2⊢;have HD2:Hid (x.tP n ⟨st,pt,none,rp⟩=r):=HD.out.trans hr;clear hr HD;obtain⟨r1,r2⟩:=r;go_wp2_with fail;go_ret;rw[HD2.out];exact⟨rfl,F',h2,(f1.mono).trans f2 (λj hj=> .inl hj),(bL.refl F w).trans g2 f1.size⟩
 |some c=>
  simp only[Option.isSome_some] at c2;have hcs:(aB c).size<256:=by simpa [aB,ByteArray.size] using hc c rfl
  have HD:Hid (x.tP n ⟨st,pt,some c,rp⟩=x.put n st (aB pt) (aB c)):=rfl;have c3':w1.cell? ⟨b2,3,none⟩=some (.string (aB c)):=c3;clear c3;go_wp2_with (with_reducible first|refine ay 103 rfl ?_|refine bC 107 rfl ?_);refine al.go (bU rfl 103 _ rfl b2 0 rfl gP 2 eJ _ _ r1' [.int .i64 st,.string (aB pt)] rfl rfl ?_)
  go_wp2_with (with_reducible first|refine bC 107 rfl ?_);refine al.go (cx rfl (.agg #[.int .i64 st,.string (aB pt),.string (aB c)]) w1 (by kernel_rfl) ?_);clear c2 c3' r1';go_wp2_with fail;refine(xa F d n x st (aB pt) (aB c) w1 h1 hx iI hs hps hcs).mono ?_;rintro e w2 ⟨rfl,F',h2,f2,g2⟩;obtain⟨r,hr⟩:∃r,x.put n st (aB pt) (aB c)=r:=⟨_,rfl⟩
  rw[hr] at h2⊢;have HD2:Hid (x.tP n ⟨st,pt,some c,rp⟩=r):=HD.out.trans hr;clear hr HD;obtain⟨r1,r2⟩:=r;go_wp2_with fail;go_ret;rw[HD2.out];exact⟨rfl,F',h2,(f1.mono).trans f2 (λj hj=> .inl hj),(bL.refl F w).trans g2 f1.size⟩
theorem An (l:List (List UInt8×Nat))(k:Nat)(hk:k<l.length):(cq l)[k*2]? =some (.string (aB l[k].1)):=by
 have h:=nZ l k hk;have h1:(((cq l).drop (k*2)).take 2)[0]? =some (.string (aB l[k].1)):=by rw[h];rfl
 rw[List.getElem?_take_of_lt (by omega),List.getElem?_drop] at h1;simpa using h1
theorem aO.TE {w w':World}{b off:Nat}{v:Value}(f:aO [] w w')(h:w.cell? ⟨b,off,none⟩=some v)(_:True):w'.cell? ⟨b,off,none⟩=some v:=by
 have hb:b<w.heap.size:=by
  unfold World.cell? at h;cases hh:w.heap[b]? with
  |none=>simp[hh] at h
  |some o=>exact(Array.getElem?_eq_some_iff.1 hh).1
 unfold World.cell? at h⊢;rw[f.block b hb (by simp)];exact h
theorem Di (base:Nat)(v:Value)(ss:List (List UInt8×Nat))(w:World)(hv:w.ownsRow base 168 2 v ss.length (cq ss))(h0:0<ss.length)(hl:ss.length<=54)(hs:ss.Pairwise λp q=>p.1<q.1):
  Calls Tryz.prog 141 #[v] w λe w'=>e= .returned (.bool true)/\aO [] w w':=by
 obtain⟨ad,cap,hv'⟩:=bQ hv;subst hv';obtain⟨g,cur,rfl,hg,hle,_,hcs,htk⟩:=eU hv;have hcell:∀k (hk:k<ss.length),cur[k*2]? =some (.string (aB ss[k].1)):=λk hk=>by
  have h1:=An ss k hk;rw[<-htk,List.getElem?_take_of_lt (by omega)] at h1;simpa using h1
 go_enter Tryz.func141,Tryz.ntmps141;go_wp2_with fail
 go_loopw [7] (λc wr=>∃k:Nat,c= .int .i64 k/\k+1<=ss.length/\aO [] w wr) (λc _=>ss.length-(intOf c).toNat)
 case atStart=>exact⟨0,rfl,by omega,aO.refl _ _⟩
 case round=>
  obtain⟨k,rfl,hk,fk⟩:=hrel
  by_cases hlt:k+1<ss.length
  .have hgr:=fk.row (b:=g) hg (by simp)
   have c1:wr.cell? ⟨g,k*2,none⟩=some (.string (aB (ss[k]'(by omega)).1)):=by rw[hgr.cell];exact hcell k (by omega)
   have c2:wr.cell? ⟨g,(k+1)*2,none⟩=some (.string (aB (ss[k+1]'hlt).1)):=by rw[hgr.cell];exact hcell (k+1) hlt
   have hlt2:(ss[k]'(by omega)).1<(ss[k+1]'hlt).1:=(List.pairwise_iff_getElem.1 hs) k (k+1) (by omega) hlt (by omega);generalize (ss[k]'(by omega)).1=p1 at*;generalize (ss[k+1]'hlt).1=p2 at*;go_wp2_with fail;have fin:∀(Z:List (Nat×Value)),True:=λ_=>trivial
   refine qT (by kernel_rfl) (by kernel_rfl) ?_;refine cJ rfl (some 10) rfl (.slice (some ⟨g,0,none⟩) ss.length cap) (λw' hw'=>by go_simp) ?_;simp only[Act.put,bZ,b6,bY];refine cJ rfl (some 11) rfl (.int .i64 k) (λw' hw'=>by go_simp) ?_;simp only[Act.put,bZ,b6,bY]
   refine cJ rfl (some 12) rfl (.pointer (some ⟨g,k*2,none⟩)) (λw' hw'=>by go_simp;intro hh;omega) ?_;simp only[Act.put,bZ,b6,bY];refine cJ rfl (some 13) rfl (.pointer (some ⟨g,k*2,none⟩)) (λw' hw'=>by go_simp) ?_;simp only[Act.put,bZ,b6,bY];refine cJ rfl (some 14) rfl (.string (aB p1)) (λw' hw'=>by have cc:=hw'.TE c1 (by simp);go_simp) ?_
   simp only[Act.put,bZ,b6,bY];refine cJ rfl (some 15) rfl (.slice (some ⟨g,0,none⟩) ss.length cap) (λw' hw'=>by go_simp) ?_;simp only[Act.put,bZ,b6,bY];refine cJ rfl (some 16) rfl (.int .i64 k) (λw' hw'=>by go_simp) ?_;simp only[Act.put,bZ,b6,bY];refine cJ rfl (some 17) rfl (.int .i64 (k+1:Nat)) (λw' hw'=>by go_simp;rw[IntKind.wrap_i64];omega) ?_
   simp only[Act.put,bZ,b6,bY];refine cJ rfl (some 18) rfl (.pointer (some ⟨g,(k+1)*2,none⟩)) (λw' hw'=>by go_simp;intro hh;have:=hh (by omega);omega) ?_;simp only[Act.put,bZ,b6,bY];refine cJ rfl (some 19) rfl (.pointer (some ⟨g,(k+1)*2,none⟩)) (λw' hw'=>by go_simp) ?_;simp only[Act.put,bZ,b6,bY]
   refine cJ rfl (some 20) rfl (.string (aB p2)) (λw' hw'=>by have cc:=hw'.TE c2 (by simp);go_simp) ?_;simp only[Act.put,bZ,b6,bY];refine cJ rfl (some 21) rfl (.bool false) (λw' hw'=>by go_simp;rw[bytesLess_eq,Lib.toList_data,Lib.toList_data];exact decide_eq_true (by simpa [aB] using hlt2)) ?_;simp only[Act.put,bZ,b6,bY];intro w2 f2
   have fk2:=fk.trans f2;go_wp2_with fail
   go_roundw
   case rel=>exact⟨k+1,by go_num,by omega,fk2⟩
   case measure=>simp[intOf];omega
  .go_wp2_with fail
   go_ret;exact⟨rfl,fk⟩
def chJ (s:Nat):UInt8:=if s=0 then 76 else 82
theorem tO (p:List UInt8×Nat)(r:List (List UInt8×Nat)):de (p::r)=chJ p.2::(p.1++de r):=rfl
theorem sf (chars:List UInt8):∀(p r:List UInt8),(∀b∈p,chars.contains b=false)->indexAny (p++r) chars=if indexAny r chars=-1 then -1 else indexAny r chars+p.length
 |[],r,_=>by
  by_cases h:indexAny r chars=-1<;>simp[h]
 |b::p,r,h=>by
  have h1:=h b (by simp);have ih:=sf chars p r λx hx=>h x (by simp[hx])
  have hg:=indexAny_ge chars r;show(if chars.contains b then 0 else if indexAny (p++r) chars==-1 then -1 else indexAny (p++r) chars+1)=_;rw[h1,ih]
  by_cases he:indexAny r chars=-1
  .simp[he]
  .simp only[he,if_false,Bool.false_eq_true]
   rw[if_neg (by simp;omega)];simp;omega
theorem E5 {b:UInt8}(h:gS b=true):([76,82]:List UInt8).contains b=false:=by
 unfold gS at h;rw[Bool.and_eq_true] at h;have h1:97<=b.toNat:=by simpa using h.1
 simp only[List.contains_cons,List.contains_nil,Bool.or_false,Bool.or_eq_false_iff,beq_eq_false_iff_ne];constructor<;>(intro e;subst e;revert h1;decide)
theorem A4 {p:List UInt8}(hp:cC p=true)(r:List (List UInt8×Nat)):indexAny (p++de r) [76,82]=if r=[] then -1 else(p.length:Int):=by
 unfold cC at hp;simp only[Bool.and_eq_true,List.all_eq_true] at hp;rw[sf _ p _ λb hb=>E5 (hp.2 b hb)];cases r with
 |nil=>rfl
 |cons q r=>
  have:indexAny (de (q::r)) [76,82]=0:=by
   rw[tO];show(if([76,82]:List UInt8).contains (chJ q.2) then 0 else _)=_;rw[if_pos (by unfold chJ;split<;>decide)]
  rw[this];simp
theorem Ko {ss:List (List UInt8×Nat)}(h:∀p∈ss,cC p.1=true):∀b∈de ss,b.toNat<128:=by
 intro b hb;unfold de at hb;rw[List.mem_flatMap] at hb;obtain⟨p,hp,hb⟩:=hb;rcases List.mem_cons.1 hb with rfl|hb
 .split<;>decide
 .have:=h p hp
  unfold cC at this;simp only[Bool.and_eq_true,List.all_eq_true] at this;have:=this.2 b hb;unfold gS at this;rw[Bool.and_eq_true] at this;have:b.toNat<=122:=by simpa using this.2
  omega
theorem ny (l:List UInt8)(a b:Nat):(aB l).extract a b=aB ((l.take b).drop a):=by
 have h:((aB l).extract a b).data=(l.toArray).extract a b:=by simp[aB,ByteArray.data_extract]
 have h2:(l.toArray).extract a b=((l.take b).drop a).toArray:=by simp[List.extract_eq_drop_take,List.drop_take]
 have:((aB l).extract a b).data=(aB ((l.take b).drop a)).data:=h.trans h2;cases hx:(aB l).extract a b;rw[hx] at this;simp only at this;rw[this]
theorem fD {P:Program}{ops:Array Oper}{Q:Exit->Act->World->Prop}{a:Act}{w:World}{rest:List Oper}{o:Oper}{t:TypeId}{x:Operand}{l h m:Option Operand}(_:o.op= .slice t x l h m)(k:al (wpList P ops Q (o::rest) a w)):wpList P ops Q (o::rest) a w:=k
theorem sI:∀(l:List (List UInt8×Nat)),(∀p∈l,p.1.length<=8)->(de l).length<=9*l.length
 |[],_=>by simp[de]
 |p::l,h=>by
  have h1:=h p (by simp);have h2:=sI l λq hq=>h q (by simp[hq])
  rw[tO,List.length_cons,List.length_append,List.length_cons];omega
theorem rS {p:List UInt8}(h:cC p=true):p.length<=8:=by
 unfold cC at h;simp only[Bool.and_eq_true] at h;simpa using h.1.2
theorem DE (c:UInt8)(p R:List UInt8):(aB (c::(p++R))).extract (1+(p.length:Int)).toNat (aB (c::(p++R))).size=aB R:=by
 rw[ny,gn,List.take_of_length_le (Nat.le_refl _),show(1+(p.length:Int)).toNat=p.length+1 by omega];simp
theorem z9 (c:UInt8)(p:List UInt8):(aB (c::p)).extract (1+(p.length:Int)).toNat (aB (c::p)).size=aB (de []):=by
 have:=DE c p [];rw[List.append_nil] at this;exact this
theorem KX {P:Program}{ops:Array Oper}{Q:Exit->Act->World->Prop}{a:Act}{w:World}{rest:List Oper}{o:Oper}{as':Array Operand}{ts:Array TypeId}(_:o.op= .call {callee:= .builtin .len,args:=as',argTypes:=ts})(k:al (wpList P ops Q (o::rest) a w)):wpList P ops Q (o::rest) a w:=k
theorem Dg (ss:List (List UInt8×Nat))(w:World)(h0:0<ss.length)(hl:ss.length<=54)(hp:∀p∈ss,cC p.1=true/\p.2<=1)(hs:ss.Pairwise λp q=>p.1<q.1):
  Calls Tryz.prog 94 #[.string (aB (de ss))] w λe w'=>∃u,e= .returned (.tuple #[u,.bool true])/\w'.ownsRow w.heap.size 168 2 u ss.length (cq ss)/\aO [] w w':=by
 go_enter Tryz.func94,Tryz.ntmps94;go_wp2_with fail
 go_loopw [4,5] (λu t wr=>∃k:Nat,t= .string (aB (de (ss.drop k)))/\k<=ss.length/\aO [] w wr/\wr.ownsRow w.heap.size 168 2 u k (cq (ss.take k))) (λ_ t _=>match t with|.string s=>s.size|_=>0)
 case atStart=>exact⟨0,rfl,by omega,aO.refl _ _,World.ownsRow_nil _ _ _ _⟩
 case round=>
  obtain⟨k,rfl,hk,fk,ho⟩:=hrel
  by_cases hlt:k<ss.length
  .have hd:ss.drop k=ss[k]::ss.drop (k+1):=List.drop_eq_getElem_cons hlt
   have hpk:=hp ss[k] (List.getElem_mem hlt);have htk:ss.take (k+1)=ss.take k++[ss[k]]:=List.take_succ_eq_append_getElem hlt;have HR:Hid (ss.take (k+1)=ss.take k++[ss[k]]):=htk;have hasc:∀b∈de (ss.drop k),b.toNat<128:=Ko λp hp'=>(hp p (List.mem_of_mem_drop hp')).1
   have hlen:(de (ss.drop k)).length<=1000:=by
    have h1:=sI (ss.drop k) λp hp'=>rS (hp p (List.mem_of_mem_drop hp')).1
    have h2:(ss.drop k).length<=54:=by rw[List.length_drop];omega
    omega
   rw[hd,tO] at hasc hlen⊢;have HD:Hid (ss.drop k=ss[k]::ss.drop (k+1)):=hd;clear hd htk;generalize ss[k]=p at*;obtain⟨p1,sd⟩:=p;simp only at hpk hasc hlen⊢;have hsc:∃(c:UInt8) (sv:Int),Hid (c=chJ sd)/\Hid (sv=sd)/\Hid (Lib.indexByte [76,82] c=sv):=⟨chJ sd,sd,rfl,rfl,by show _=_;rcases(by omega:sd=0\/sd=1) with rfl|rfl<;>decide⟩
   obtain⟨c,sv,hc,hsv,acG⟩:=hsc;rcases(by omega:sd=0\/sd=1) with rfl|rfl
   all_goals
    obtain⟨r,hdr⟩:∃r,ss.drop (k+1)=r:=⟨_,rfl⟩
    rw[hdr] at HD hasc hlen⊢;go_wp2_with (with_reducible first|refine cF 9 rfl ?_|refine qu rfl ?_|refine fD rfl ?_);refine al.go (cx rfl (.bool true) wr (by go_simp;simp[aB]) ?_);go_wp2_with (with_reducible first|refine cF 9 rfl ?_|refine qu rfl ?_|refine fD rfl ?_)
    refine al.go (cx rfl (.int .u8 c.toNat) wr (by rw[hc.out];kernel_rfl) ?_);go_wp2_with (with_reducible first|refine cF 9 rfl ?_|refine fD rfl ?_);refine(Tryz.strings_IndexByte ⟨#[76,82]⟩ c.toNat wr).mono ?_;rintro e w1 ⟨rfl,rfl⟩;rw[show Lib.indexByte (⟨#[76,82]⟩:ByteArray).data.toList (c.toNat:Int).toNat.toUInt8=sv by simpa using acG.out,hsv.out];clear acG
    go_wp2_with (with_reducible first|refine cF 9 rfl ?_|refine fD rfl ?_);refine al.go (cx rfl (.string (aB (p1++de r))) w1 (by go_simp;rw[if_pos (by rw[gn];simp;omega),ny,gn,List.take_of_length_le (Nat.le_refl _)];rfl) ?_);go_wp2_with (with_reducible first|refine cF 9 rfl ?_|refine fD rfl ?_);have hia:=A4 hpk.1 r
    refine(Tryz.strings_IndexAny_laid (aB (p1++de r)) ⟨#[76,82]⟩ w1 (by rw[gn];simp at hlen⊢;omega) (by decide) (λj b hj=>hasc b (by
     have:b∈p1++de r:=List.mem_of_getElem? (by simpa [aB] using hj);exact List.mem_cons_of_mem _ this)) (λj b hj=>by
     have:b∈([76,82]:List UInt8):=List.mem_of_getElem? hj;simp at this;rcases this with rfl|rfl<;>decide)).mono ?_
    rintro e w2 ⟨rfl,bl2⟩;have f2:aO [] w1 w2:=pH (aO.refl _ _) bl2;have acK:Lib.indexAny (aB (p1++de r)).data.toList (⟨#[76,82]⟩:ByteArray).data.toList=if r=[] then -1 else(p1.length:Int):=by simpa [aB] using hia
    rw[acK];clear hia acK bl2 hasc;have hp8:p1.length<=8:=by
     have:=hpk.1;unfold cC at this;simp only[Bool.and_eq_true] at this;simpa using this.1.2
    have hlk:k<=54:=by omega
    have HDR:Hid (ss.drop (k+1)=r):=hdr;clear hdr;have hps:(aB p1).size<=9223372036854775807:=by rw[gn];omega
    by_cases hr:r=[]
    all_goals
     first
      |(
        rw[if_pos hr];have e0:p1++de r=p1:=by rw[hr];simp[de]
        rw[e0];clear e0)
      |(
        rw[if_neg hr];go_wp2_with (with_reducible first|refine fD rfl ?_);refine al.go (cx rfl (.string (aB p1)) w2 (by go_simp;rw[if_pos (by rw[gn];simp),ny];simp) ?_))
     go_wp2_with (with_reducible first|refine bO rfl ?_|refine bP rfl ?_);refine(nh (aB p1) w2 hps).mono ?_;rintro e w3 ⟨rfl,f3⟩;have hpt:cC (aB p1).data.toList=true:=by simpa [aB] using hpk.1
     rw[hpt];clear hpt;have Tt:=(fk.trans f2).trans f3;have ho3:=f3.owns (f2.owns ho (by simp));clear ho f2 f3;go_wp2_with (with_reducible first|refine bC 168 rfl ?_|refine bO rfl ?_|refine bP rfl ?_);refine al.go (cx rfl (.agg #[.string (aB p1),.int .i64 sv]) w3 (by rw[hsv.out];kernel_rfl) ?_)
     go_wp2_with (with_reducible first|refine bO rfl ?_|refine bP rfl ?_);refine al.go (fU rfl 109 168 2 24 pL _ rfl (.agg #[.string (aB p1),.int .i64 sv]) rfl rfl ?_);intro w8 b8 l8 f8 r8;go_wp2_with (with_reducible first|refine bO rfl ?_|refine bP rfl ?_);have xF:=f8.owns ho3;have Nd:=Tt.trans f8
     have hbase:w.heap.size<=w8.heap.size:=Nd.size;refine al.go (iz rfl 109 168 2 24 pL _ _ rfl w.heap.size u4 _ _ rfl xF b8 1 1 [.string (aB p1),.int .i64 sv] rfl _ _ r8 rfl rfl (by simp[Value.oneCell']) (by omega) (by omega) (by omega) hbase ?_);intro g' cap' w9 JB f9 _;have Ry:=Nd.trans f9 (by intro j hj;right;simp at hj;exact(xF.lt j hj).1)
     have ahe:w9.ownsRow w.heap.size 168 2 (.slice (some ⟨g',0,none⟩) (k+1) cap') (k+1) (cq (ss.take (k+1))):=by
      rw[HR.out,rq];rw[hsv.out] at JB;exact JB
     clear ho3 xF JB r8 f8 f9 l8 fk Tt Nd hbase;go_wp2_with (with_reducible first|refine KX rfl ?_|refine fD rfl ?_);refine al.go (cx rfl (.int .i64 p1.length) w9 (by kernel_rfl) ?_);have hw1:wrap64 (1+(p1.length:Int))=1+p1.length:=IntWalk.wrap64_in _ (by omega);go_wp2_with (with_reducible first|refine fD rfl ?_)
     refine al.go (cx rfl (.string (aB (de r))) w9 (by go_simp;rw[if_pos (by rw[gn];simp;omega)];first|rw[DE]|rw[z9]|rw[z9,hr]) ?_);go_wp2_with fail
     go_roundw
     case rel=>exact⟨k+1,by simp only[HDR.out,hr],by omega,Ry,ahe⟩
     case measure=>simp[gn,hr];omega
  .obtain rfl:k=ss.length:=by omega
   rw[List.drop_length];rw[List.take_of_length_le (by omega)] at ho;have e0:aB (de [])=⟨#[]⟩:=rfl;rw[e0];obtain⟨ad4,cap4,hu4⟩:=bQ ho;subst hu4;go_wp2_with fail;refine(Di w.heap.size _ ss wr ho h0 hl hs).mono ?_;rintro e w2 ⟨rfl,f2⟩;go_wp2_with fail
   go_ret2
   exact⟨_,rfl,f2.owns ho,fk.trans f2⟩
theorem M0 (d bl n:Nat)(vw:Value)(x:DS)(w:World)(h:bv w d bl n vw x):
  Calls Tryz.prog 137 #[.pointer (some ⟨d,0,none⟩)] w λe w'=>e= .returned (.int .i64 ((aK n:Int)-(taken x n).length))/\aO [] w w':=by
 have hn:aK n<=54:=by unfold aK;omega
 have ht:=iA x n;go_enter Tryz.func137,Tryz.ntmps137;go_wp2_with fail;refine(ou d bl n vw x w h).mono ?_;rintro e w1 ⟨rfl,rfl⟩;go_wp2_with fail;refine(lU n h.lo h.hi w1).mono ?_;rintro e w2 ⟨rfl,rfl⟩;go_wp2_with fail;refine(nX d bl n vw x w2 h).mono ?_;rintro e w3 ⟨v,rfl,ho,f3⟩;obtain⟨ad,cap,hv⟩:=bQ ho;subst hv
 obtain⟨tl,htl⟩:∃tl,(taken x n).length=tl:=⟨_,rfl⟩
 obtain⟨ns,hns⟩:∃ns,aK n=ns:=⟨_,rfl⟩
 have H1:Hid ((taken x n).length=tl):=htl;have H2:Hid (aK n=ns):=hns;rw[htl] at ht ho⊢;rw[hns] at hn⊢;clear htl hns;have hw1:wrap64 ((ns:Int)-tl)=ns-tl:=IntWalk.wrap64_in _ (by omega);go_wp2_with fail;go_ret;exact⟨by rw[H1.out,H2.out];rfl,f3⟩
def pC (ss:List (List UInt8×Nat)):Prop:=∀p∈ss,cC p.1=true/\p.2<=1
def DS.begin (x:DS)(n:Nat)(ss:List (List UInt8×Nat)):DS×Value:=
 if qn x n ss ((aK n:Int)-(taken x n).length-1)=false then(x,.int .i64 7) else x.put n 3 ⟨#[]⟩ (aB (de ss))
theorem FX (F:List Nat)(d n:Nat)(x:DS)(base:Nat)(v:Value)(ss:List (List UInt8×Nat))(w:World)(h:bI w F d n x)(hx:x.Fit 5)(iI:x.waiting.length<55)(hv:w.ownsRow base 168 2 v ss.length (cq ss))(hl:ss.length<=7)(hp:pC ss)(hF:∀g,v.ownBlock=some g->g∉F):
  Calls Tryz.prog 92 #[.pointer (some ⟨d,0,none⟩),v] w λe w'=>e= .returned (x.begin n ss).2/\∃F',bI w' F' d n (x.begin n ss).1/\aO F w w'/\bL F F' w:=by
 have hn:aK n<=54:=by unfold aK;omega
 have ht:=iA x n;obtain⟨bl,vw,hd,hFe⟩:=id h;have hp8:∀p∈ss,p.1.length<=8/\p.2<=1:=λp hpm=>⟨rS (hp p hpm).1,(hp p hpm).2⟩
 have hej:(de ss).length<=63:=by have:=sI ss λp hpm=>(hp8 p hpm).1;omega
 obtain⟨ad,cap,hv'⟩:=bQ hv;subst hv';have HB:Hid (x.begin n ss=if qn x n ss ((aK n:Int)-(taken x n).length-1)=false then(x,.int .i64 7) else x.put n 3 ⟨#[]⟩ (aB (de ss))):=rfl;go_enter Tryz.func92,Tryz.ntmps92;go_wp2_with fail;refine(M0 d bl n vw x w hd).mono ?_;rintro e w1 ⟨rfl,f1⟩;have hd1:=hd.new f1;have h1:=h.new f1;have hv1:=f1.owns hv
 have htl:(taken x n).length<=aK n:=nW (x.read 0) (aK n);generalize (taken x n).length=tl at*;generalize aK n=ns at*;have hw1:wrap64 ((ns:Int)-tl-1)=ns-tl-1:=IntWalk.wrap64_in _ (by omega);go_wp2_with fail;refine(Nf d bl n vw x base _ ss (ns-tl-1) w1 hd1 hv1 (by omega) (λp hpm=>(hp p hpm).2) (by omega) (by omega)).mono ?_;rintro e w2 ⟨rfl,f2⟩
 have h2:=h1.new f2;have hv2:=f2.owns hv1;have fw:=f1.trans f2;have fF:aO F w w2:=fw.mono;clear hd hd1 h1 hv1 f1 f2;cases hfit:qn x n ss (ns-tl-1) with
 |false=>
  have HB2:Hid (x.begin n ss=(x,.int .i64 7)):=by show _=_;rw[HB.out,hfit];rfl
  clear HB hfit;go_wp2_with fail;go_ret;rw[HB2.out];exact⟨rfl,F,h2,fF,bL.refl _ _⟩
 |true=>
  have HB2:Hid (x.begin n ss=x.put n 3 ⟨#[]⟩ (aB (de ss))):=by show _=_;rw[HB.out,hfit];rfl
  clear HB hfit;go_wp2_with fail;refine(ib w2).mono ?_;rintro e w3 ⟨rfl,f3⟩;have h3:=h2.new f3;have hv3:=f3.owns hv2;have Ft:=fw.trans f3;clear h2 hv2 f3 fw fF;go_wp2_with fail;refine(Df base _ ss w3 hv3 (by omega) hp8).mono ?_;rintro e w4 ⟨rfl,f4⟩;have h4:=h3.new f4;have Ef:=Ft.trans f4;clear h3 hv3 f4 Ft
  go_wp2_with (with_reducible first|refine bC 107 rfl ?_);refine al.go (cx rfl (.agg #[.int .i64 (3:Nat),.string ⟨#[]⟩,.string (aB (de ss))]) w4 (by kernel_rfl) ?_);go_wp2_with fail;refine(xa F d n x 3 ⟨#[]⟩ (aB (de ss)) w4 h4 hx iI (by omega) (by decide) (by rw[gn];omega)).mono ?_;rintro e w5 ⟨rfl,F',h5,f5,g5⟩
  obtain⟨r,hr⟩:∃r,x.put n 3 ⟨#[]⟩ (aB (de ss))=r:=⟨_,rfl⟩
  rw[hr] at h5⊢;have HB3:Hid (x.begin n ss=r):=HB2.out.trans hr;clear hr HB2;obtain⟨r1,r2⟩:=r;go_wp2_with fail;go_ret;rw[HB3.out];exact⟨rfl,F',h5,(Ef.mono).trans f5 (λj hj=> .inl hj),(bL.refl F w).trans g5 Ef.size⟩
def rg:Value->Int
 |.int _ e=>e
 |_=>0
theorem DS.Fit.weak {x:DS}{m k:Nat}(h:x.Fit (m+k)):x.Fit m:=⟨h.kb,by have:=h.ka;omega,h.j9,h.j8⟩
theorem zR {x:DS}{t o:Int}{m:Nat}(hx:x.Fit (m+2))(h:x.jv t o=true):(x.mark t o).Fit m/\(x.mark t o).waiting=[]:=by
 unfold DS.jv at h;rw[Bool.and_eq_true] at h;unfold DS.mark;rw[if_pos h.1];refine⟨DS.z0 (DS.ji (r:=m+1) hx h.1) h.2,?_⟩;unfold DS.flush;rw[if_pos h.2]
theorem CO {x:DS}{n s m:Nat}{p c:ByteArray}(hx:x.Fit (m+5)):∃e:Int,(x.put n s p c).2= .int .i64 e/\(e=0->(x.put n s p c).1.Fit m/\(x.put n s p c).1.waiting=[]):=by
 unfold DS.put;split
 .exact⟨7,rfl,λh=>by cases h⟩
 .split
  .rename_i h1 h2
   refine⟨_,rfl,λh=>?_⟩;have h3:=(DS.BD (m:=m+2) hx h2).1;split at h
   .exact zR h3 (by assumption)
   .cases h
  .exact⟨3,rfl,λh=>by cases h⟩
theorem CH {x:DS}{n s m:Nat}{p:ByteArray}(hx:x.Fit (m+5)):∃e:Int,(x.remove n s p).2= .int .i64 e/\(e=0->(x.remove n s p).1.Fit m/\(x.remove n s p).1.waiting=[]):=by
 unfold DS.remove;split
 .exact⟨5,rfl,λh=>by cases h⟩
 .refine⟨_,rfl,λh=>?_⟩
  have h3:x.Fit (m+3+2):=hx;split at h
  .have:=zR h3 (by assumption)
   exact⟨this.1.weak (k:=3),this.2⟩
  .cases h
theorem NR {x:DS}{n m:Nat}{w:dh}(hx:x.Fit (m+5)):∃e:Int,(x.tP n w).2= .int .i64 e/\(e=0->(x.tP n w).1.Fit m/\(x.tP n w).1.waiting=[]):=by
 unfold DS.tP;cases w.becomes with
 |none=>exact CH hx
 |some c=>exact CO hx
def DS.gq (x:DS)(n:Nat):List dh->DS×Value
 |[]=>(x,.int .i64 0)
 |w::r=>if rg (x.tP n w).2=0 then(x.tP n w).1.gq n r else x.tP n w
def DS.sF (x:DS)(n:Nat)(ss:List (List UInt8×Nat)):DS×Value:=
 if rg (x.gq n (bq x n ss)).2=0 then(x.gq n (bq x n ss)).1.remove n 3 ⟨#[]⟩ else x.gq n (bq x n ss)
theorem sK {x:DS}{n:Nat}{s:Int}{p:ByteArray}{c:List UInt8}(h:x.content n s p=some c):c.length<=96:=by
 unfold DS.content at h;split at h
 .rw[<-Option.some.inj h]
  unfold bN;rw[List.length_take];omega
 .cases h
theorem Ib {x:DS}{n:Nat}{ss:List (List UInt8×Nat)}(hp:pC ss):∀w∈bq x n ss,w.set<256/\w.path.length<256/\∀c,w.becomes=some c->c.length<256:=by
 intro w hw;unfold bq at hw;obtain⟨p,hp',hw⟩:=List.mem_flatMap.1 hw;have hpp:=hp p hp';have one:∀set,set<=2->w∈dm x n p set->w.set<256/\w.path.length<256/\∀c,w.becomes=some c->c.length<256:=λset hs hm=>by
  unfold dm at hm;split at hm
  .simp at hm
  .simp only[List.mem_singleton] at hm
   subst hm;exact⟨by show set<256;omega,by have:=rS hpp.1;show p.1.length<256;omega,λc hc=>by have:=sK hc;omega⟩
 unfold fA at hw;rcases List.mem_append.1 hw with hw|hw
 .exact one _ (by omega) hw
 .exact one _ (by omega) hw
theorem bI.apart {w:World}{F:List Nat}{d n:Nat}{x:DS}(h:bI w F d n x){b:Nat}{c:Array Value}{t:TypeId}(r:Row w b c t)(h1:t≠134)(h2:t≠148)(h3:t≠240):b∉F:=by
 obtain⟨bl,vw,hd,rfl⟩:=h;unfold Row at r;intro hb;rcases List.mem_cons.1 hb with rfl|hb
 .have:=hd.row
  unfold Row at this;rw[r] at this;cases this;exact h1 rfl
 rcases List.mem_cons.1 hb with rfl|hb
 .have:=hd.last
  unfold Row at this;rw[r] at this;cases this;exact h2 rfl
 .rcases hd.own.2 with⟨e,_⟩|⟨g,cap,cur,e,_,hg,_⟩
  .rw[e] at hb;simp[Value.ownBlock] at hb
  .rw[e] at hb
   have:b=g:=by simpa [Value.ownBlock] using hb
   subst this;rw[r] at hg;cases hg;exact h3 rfl
theorem I5 {w:World}{F:List Nat}{d n base size k:Nat}{x:DS}{v:Value}{e:TypeId}{xs:List Value}(h:bI w F d n x)(ho:w.ownsRow base e size v k xs)(h1:e≠134)(h2:e≠148)(h3:e≠240):∀j∈F,v.ownBlock≠some j:=λj hj hv=>by
 rcases ho.2 with⟨rfl,_⟩|⟨g,cap,cur,rfl,_,hg,_⟩
 .cases hv
 .have:g=j:=by simpa [Value.ownBlock] using hv
  subst this;exact h.apart (c:=cur) (t:=e) hg h1 h2 h3 hj
theorem NH (F:List Nat)(d n:Nat)(x:DS)(ss:List (List UInt8×Nat))(w:World)(h:bI w F d n x)(hx:x.Fit 100)(iI:x.waiting.length<55)(hj:x.content n 3 ⟨#[]⟩=some (de ss))(h0:0<ss.length)(hl:ss.length<=7)(hp:pC ss)(hs:ss.Pairwise λp q=>p.1<q.1):
  Calls Tryz.prog 58 #[.pointer (some ⟨d,0,none⟩)] w λe w'=>e= .returned (x.sF n ss).2/\∃F',bI w' F' d n (x.sF n ss).1/\aO F w w'/\bL F F' w:=by
 obtain⟨bl,vw,hd,hFe⟩:=id h;go_enter Tryz.func58,Tryz.ntmps58;go_wp2_with fail;refine(ib w).mono ?_;rintro e w1 ⟨rfl,f1⟩;have hd1:=hd.new f1;go_wp2_with fail;refine(sw d bl n vw x 3 ⟨#[]⟩ w1 hd1).mono ?_;rintro e w2 ⟨rfl,f2⟩;have hd2:=hd1.new f2;have fw2:=f1.trans f2;rw[hj];simp only[Option.getD_some,Option.isSome_some];go_wp2_with fail
 refine(Dg ss w2 h0 (by omega) hp hs).mono ?_;rintro e w3 ⟨u,rfl,ho3,f3⟩;have hd3:=hd2.new f3;have Ft:=fw2.trans f3;go_wp2_with fail;refine(vU d bl n vw x _ u ss w3 hd3 ho3 (by omega) λp hpm=>(hp p hpm).2).mono ?_;rintro e w4 ⟨v,rfl,ho4,f4⟩;have Ef:=Ft.trans f4;have h4:=h.new Ef
 have hwl:(bq x n ss).length<=14:=by have:=iK x n ss;omega
 have hwo:=Ib (x:=x) (n:=n) hp;have HE:Hid (x.sF n ss=if rg (x.gq n (bq x n ss)).2=0 then(x.gq n (bq x n ss)).1.remove n 3 ⟨#[]⟩ else x.gq n (bq x n ss)):=rfl;generalize bq x n ss=ws at*;clear hd hd1 hd2 hd3 f1 f2 f3 f4 fw2 Ft ho3;obtain⟨ad,cap,hv⟩:=bQ ho4;subst hv;go_wp2_with fail
 go_loopw [25] (λc wr=>∃(k:Nat) (y:DS) (G:List Nat),c= .int .i64 k/\k<=ws.length/\bI wr G d n y/\y.Fit (5*(14-k)+5)/\y.waiting.length<55/\y.gq n (ws.drop k)=x.gq n ws/\aO F w4 wr/\bL F G w4/\wr.ownsRow w3.heap.size 176 5 (Value.slice ad ws.length cap) ws.length (jJ ws)) (λc _=>ws.length-(intOf c).toNat)
 case atStart=>exact⟨0,x,F,rfl,by omega,h4,DS.Fit.weak (k:=25) hx,iI,by simp,aO.refl _ _,bL.refl _ _,ho4⟩
 case round=>
  obtain⟨k,y,G,rfl,hk,hy,Ky,hyw,hdo,fk,gk,hok⟩:=hrel
  by_cases hlt:k<ws.length
  .have hGa:=I5 hy hok (by decide) (by decide) (by decide)
   obtain⟨g,cur,ahz,hg,hle,_,hcs,htk⟩:=eU hok;have hat:((cur.toList.drop (k*5)).take 5)=ws[k].vals:=by
    rw[ck htk _ _,BA ws k hlt]
   have hd:y.gq n (ws.drop k)=if rg (y.tP n ws[k]).2=0 then(y.tP n ws[k]).1.gq n (ws.drop (k+1)) else y.tP n ws[k]:=by
    rw[List.drop_eq_getElem_cons hlt];rfl
   rw[hd] at hdo;obtain⟨m,hm⟩:∃m,5*(14-k)+5=m+5:=⟨_,rfl⟩
   have hm2:m=5*(14-(k+1))+5:=by omega
   rw[hm] at Ky;obtain⟨e,he,hgood⟩:=NR (n:=n) (w:=ws[k]) Ky;have hwk:=hwo ws[k] (List.getElem_mem hlt);clear hd hcs htk;generalize ws[k]=wd at*;subst ahz;go_wp2_with (with_reducible first|refine az rfl ?_|refine ay 176 rfl ?_|refine af 176 rfl ?_);refine al.go (bU rfl 176 _ rfl g (k*5) rfl EJ 5 se _ _ hg _ hat rfl ?_);clear hat hg
   go_wp2_with (with_reducible first|refine az rfl ?_|refine af 176 rfl ?_);refine al.go (bi rfl 176 rfl _ Ge ?_);intro w5 b7 l7 f5 r5;go_wp2_with (with_reducible first|refine az rfl ?_|refine ay 176 rfl ?_|refine af 176 rfl ?_);refine al.go (bK rfl 176 _ _ rfl _ 0 rfl _ rfl 5 se ?_ ?_ _ _ r5 ?_ ?_)
   .rfl
   .simp[dh.vals,Value.oneCell']
   .decide
   intro w6 f6 q6;rw[bH _ _ (by rfl)] at q6;have V3:Row w6 b7 wd.vals.toArray 176:=q6;have Hd:aO [] wr w6:=f5.trans f6 (by simpa using l7);have hy6:=hy.new Hd;have ahd:=Hd.owns hok;clear q6 r5 f5 f6 hok hy;go_wp2_with (with_reducible first|refine az rfl ?_|refine ay 176 rfl ?_)
   refine al.go (bU rfl 176 _ rfl b7 0 rfl EJ 5 se _ _ V3 wd.vals (by rfl) rfl ?_);clear V3;go_wp2_with fail;refine(NQ G d n y wd w6 hy6 ⟨Ky.kb,by have:=Ky.ka;omega,Ky.j9,Ky.j8⟩ hyw hwk.1 hwk.2.1 hwk.2.2).mono ?_;rintro e w7 ⟨rfl,G',h7,f7,g7⟩
   have fk7:aO F w4 w7:=fk.trans ((Hd.mono).trans f7 (λj hj=> .inl hj):aO G wr w7) (λj hj=>gk j hj);have gk7:bL F G' w4:=gk.trans (bL.trans (bL.refl G wr) g7 Hd.size) fk.size;have ahc:=f7.owns ahd hGa;rw[he] at hdo⊢;have HD:Hid (x.gq n ws=if rg (.int .i64 e)=0 then(y.tP n wd).1.gq n (ws.drop (k+1)) else y.tP n wd):=hdo.symm
   have HP:Hid (y.tP n wd=((y.tP n wd).1,.int .i64 e)):=Prod.ext rfl he;clear hdo he;generalize (y.tP n wd).1=z at*
   by_cases Kz:e=0
   .subst Kz
    obtain⟨hzf,hzw⟩:=hgood rfl;have HD2:Hid (x.gq n ws=z.gq n (ws.drop (k+1))):=HD.out;clear hgood HD HP;go_wp2_with fail
    go_roundw
    case rel=>exact⟨k+1,z,G',by go_num,by omega,h7,hm2▸hzf,by rw[hzw];decide,HD2.out.symm,fk7,gk7,ahc⟩
    case measure=>simp[intOf];omega
   .have acL:(e==0)=false:=by simpa using Kz
    have HD2:Hid (x.sF n ss=(z,.int .i64 e)):=by
     have h1:x.gq n ws=(z,.int .i64 e):=by rw[HD.out,if_neg (by simpa [rg] using Kz),HP.out]
     show _=_;rw[HE.out,h1,if_neg (by simpa [rg] using Kz)]
    clear hgood HD HP HE;go_wp2_with fail;go_ret;rw[HD2.out];exact⟨rfl,G',h7,(Ef.mono).trans fk7 (λj hj=> .inl hj),(bL.refl F w).trans gk7 Ef.size⟩
  .obtain rfl:k=ws.length:=by omega
   rw[List.drop_length] at hdo;have HD2:Hid (x.sF n ss=y.remove n 3 ⟨#[]⟩):=by
    have h1:x.gq n ws=(y,.int .i64 0):=hdo.symm;show _=_;rw[HE.out,h1];rfl
   clear hdo HE hok;go_wp2_with fail;refine(ib wr).mono ?_;rintro e w5 ⟨rfl,f5⟩;have h5:=hy.new f5;go_wp2_with fail;refine(oH G d n y 3 ⟨#[]⟩ w5 h5 ⟨Ky.kb,by have:=Ky.ka;omega,Ky.j9,Ky.j8⟩ (by omega)).mono ?_;rintro e w6 ⟨rfl,G',h6,f6,g6⟩;obtain⟨r,hr⟩:∃r,y.remove n 3 ⟨#[]⟩=r:=⟨_,rfl⟩
   rw[hr] at h6⊢;have HD3:Hid (x.sF n ss=r):=HD2.out.trans hr;clear hr HD2;obtain⟨r1,r2⟩:=r;go_wp2_with fail;go_ret;rw[HD3.out];have Hd:aO F w4 w6:=fk.trans ((f5.mono).trans f6 (λj hj=> .inl hj):aO G wr w6) (λj hj=>gk j hj);have gk6:bL F G' w4:=gk.trans (bL.trans (bL.refl G wr) g6 f5.size) fk.size
   exact⟨rfl,G',h6,(Ef.mono).trans Hd (λj hj=> .inl hj),(bL.refl F w).trans gk6 Ef.size⟩
theorem Qa (x:DS)(n s:Nat)(p c:ByteArray):∃e:Int,(x.put n s p c).2= .int .i64 e:=by
 unfold DS.put;split
 .exact⟨_,rfl⟩
 .split<;>exact⟨_,rfl⟩
theorem wT (x:DS)(n s:Nat)(p:ByteArray):∃e:Int,(x.remove n s p).2= .int .i64 e:=by
 unfold DS.remove;split<;>exact⟨_,rfl⟩
theorem z5 (n:Nat):∀(ws:List dh) (x:DS),∃e:Int,(x.gq n ws).2= .int .i64 e
 |[],_=>⟨0,rfl⟩
 |w::r,x=>by
  unfold DS.gq;split
  .exact z5 n r _
  .unfold DS.tP
   cases w.becomes with
   |none=>exact wT ..
   |some c=>exact Qa ..
theorem NK (x:DS)(n:Nat)(ss:List (List UInt8×Nat)):∃e:Int,(x.sF n ss).2= .int .i64 e:=by
 unfold DS.sF;split
 .exact wT ..
 .exact z5 ..
theorem ym {x:DS}{n m:Nat}{ss:List (List UInt8×Nat)}(hx:x.Fit (m+5)):∃e:Int,(x.begin n ss).2= .int .i64 e/\(e=0->(x.begin n ss).1.Fit m/\(x.begin n ss).1.waiting=[]):=by
 unfold DS.begin;split
 .exact⟨7,rfl,λh=>by cases h⟩
 .exact CO hx
def DS.xV (x:DS)(n:Nat)(ss:List (List UInt8×Nat)):DS×Value:=
 if ss=[] then(x,.int .i64 0) else if rg (x.begin n ss).2=0 then(x.begin n ss).1.sF n ss else x.begin n ss
theorem RP (x:DS)(n:Nat)(ss:List (List UInt8×Nat))(hx:x.Fit 105):∃e:Int,(x.xV n ss).2= .int .i64 e:=by
 unfold DS.xV;split
 .exact⟨0,rfl⟩
 .split
  .exact NK ..
  .exact(ym (m:=100) hx).imp λe h=>h.1
theorem aQ.moved {w w':World}{F F':List Nat}{s d n:Nat}{x x':DS}(h:aQ w F s d n x)(hd:bI w' F' d n x')(f:aO F w w')(g:bL F F' w):aQ w' F' s d n x':=
 ⟨f.row h.row h.ne,hd,λhF=>(g s hF).elim h.ne (λhh=>by have:=h.row.lt;omega)⟩
theorem RL (F:List Nat)(s d n:Nat)(x:DS)(base:Nat)(v:Value)(ss:List (List UInt8×Nat))(w:World)(h:aQ w F s d n x)(hx:x.Fit 105)(iI:x.waiting.length<55)(hv:w.ownsRow base 168 2 v ss.length (cq ss))(hl:ss.length<=7)(hp:pC ss)(hs:ss.Pairwise λp q=>p.1<q.1)
  (hF:∀g,v.ownBlock=some g->g∉F) (hB:rg (x.begin n ss).2=0->(x.begin n ss).1.content n 3 ⟨#[]⟩=some (de ss)):
  Calls Tryz.prog 56 #[.pointer (some ⟨s,0,none⟩),v] w λe w'=>e= .returned (x.xV n ss).2/\(∃F',aQ w' F' s d n (x.xV n ss).1/\bL F F' w)/\aO F w w':=by
 have c0:=h.cell;obtain⟨ad,cap,hv'⟩:=bQ hv;subst hv';have HD:Hid (x.xV n ss=if ss=[] then(x,.int .i64 0) else if rg (x.begin n ss).2=0 then(x.begin n ss).1.sF n ss else x.begin n ss):=rfl;go_enter Tryz.func56,Tryz.ntmps56
 by_cases h0:ss.length=0
 .have HD2:Hid (x.xV n ss=(x,.int .i64 0)):=HD.out.trans (if_pos (List.length_eq_zero_iff.1 h0))
  rw[h0];clear HD hv hs hp hB hl h0;go_wp2_with fail;go_ret;rw[HD2.out];exact⟨rfl,⟨F,h,bL.refl _ _⟩,aO.refl _ _⟩
 .have hne:ss≠[]:=λe=>h0 (by rw[e];rfl)
  have h0':0<ss.length:=by omega
  have hlb:((ss.length:Int)==0)=false:=by simp;omega
  obtain⟨e1,he1,hgood⟩:=ym (m:=100) (n:=n) (ss:=ss) hx;go_wp2_with fail;refine(FX F d n x base _ ss w h.disk ⟨hx.kb,by have:=hx.ka;omega,hx.j9,hx.j8⟩ iI hv hl hp hF).mono ?_;rintro e w1 ⟨rfl,F1,h1,f1,g1⟩;have hs1:=h.moved h1 f1 g1;have c1:=hs1.cell;rw[he1] at hB HD⊢;have HB:Hid (x.begin n ss=((x.begin n ss).1,.int .i64 e1)):=Prod.ext rfl he1;clear he1 c0 h0
  generalize (x.begin n ss).1=y at*
  by_cases Kz:e1=0
  .subst Kz
   obtain⟨Ky,hyw⟩:=hgood rfl;have HD2:Hid (x.xV n ss=y.sF n ss):=HD.out.trans (if_neg hne);have hjy:=hB rfl;clear HD HB hB hgood hlb;go_wp2_with fail;refine(NH F1 d n y ss w1 h1 Ky (by rw[hyw];decide) hjy h0' hl hp hs).mono ?_;rintro e w2 ⟨rfl,F2,h2,f2,g2⟩;obtain⟨r,hr⟩:∃r,y.sF n ss=r:=⟨_,rfl⟩
   rw[hr] at h2⊢;have HD3:Hid (x.xV n ss=r):=HD2.out.trans hr;clear hr HD2;obtain⟨r1,r2⟩:=r;go_wp2_with fail;go_ret;rw[HD3.out];exact⟨rfl,⟨F2,hs1.moved h2 f2 g2,g1.trans g2 f1.size⟩,f1.trans f2 (λj hj=>g1 j hj)⟩
  .have acL:(e1==0)=false:=by simpa using Kz
   have HD2:Hid (x.xV n ss=(y,.int .i64 e1)):=HD.out.trans ((if_neg hne).trans ((if_neg (by simpa [rg] using Kz)).trans HB.out));clear HD HB hB hgood hlb;go_wp2_with fail;go_ret;rw[HD2.out];exact⟨rfl,⟨F1,hs1,g1⟩,f1⟩
def eH (l:List (List UInt8)):Array Value:=(l.map λb=>Value.string (aB b)).toArray
theorem cL (l:List (List UInt8)):(eH l).size=l.length:=by simp[eH]
theorem mr (l:List (List UInt8))(i:Nat)(h:i<l.length):(eH l)[i]? =some (.string (aB l[i])):=by simp[eH,h]
theorem lL (b:List UInt8):(aB b).toList=b:=by rw[ByteArray.toList_eq];rfl
section
variable {P:Program}(w:World)
theorem sD (d:Nat){e:TypeId}(he:P.plainKey e=true)(hu:P.underlying e=some .string)(xs ys:List (List UInt8)):∀is:List Nat,(∀i∈is,i<xs.length/\i<ys.length)->
  (Op.eqItems (d+1) e 1 (eH xs) (eH ys) is).run P w= .ok (is.all λi=>xs[i]? ==ys[i]?) w
 |[],_=>by simp[Op.eqItems]
 |i::is,h=>by
  have hi:=h i (by simp);have ih:=sD d he hu xs ys is λj hj=>h j (by simp[hj])
  have px:=run_part_plain (P:=P) (w:=w) he (xs:=eH xs) (off:=i*1) (v:= .string (aB xs[i])) (by rw[Nat.mul_one];exact mr xs i hi.1);have py:=run_part_plain (P:=P) (w:=w) he (xs:=eH ys) (off:=i*1) (v:= .string (aB ys[i])) (by rw[Nat.mul_one];exact mr ys i hi.2);have e1:((aB xs[i]).toList==(aB ys[i]).toList)=(xs[i]? ==ys[i]?):=by
   rw[lL,lL,List.getElem?_eq_getElem hi.1,List.getElem?_eq_getElem hi.2];rfl
  simp only[Op.eqItems,Sem.run_bind,px,py,run_equalIn_string w d e _ _ hu,Result.andThen_ok,e1,List.all_cons];cases hc:(xs[i]? ==ys[i]?)
  .simp
  .simpa using ih
theorem F0 (xs ys:List (List UInt8))(n:Nat)(hx:xs.length=n)(hy:ys.length=n):((List.range n).all λi=>xs[i]? ==ys[i]?)=(xs==ys):=by
 rw[Bool.eq_iff_iff];simp only[List.all_eq_true,List.mem_range,beq_iff_eq];constructor
 .intro h
  apply List.ext_getElem?
  intro i;rcases Nat.lt_or_ge i n with hi|hi
  .exact h i hi
  .rw[List.getElem?_eq_none (by omega),List.getElem?_eq_none (by omega)]
 .rintro rfl i _;rfl
theorem NG (d:Nat){t e:TypeId}(ht:P.underlying t=some (.array 7 e))(i:TypeInfo)(hi:P.info? e=some i)(hc:P.cellsOf e=1)(he:P.plainKey e=true)(hu:P.underlying e=some .string)(xs ys:List (List UInt8))(hx:xs.length=7)(hy:ys.length=7):
  (Op.equalIn (d+2) t (.agg (eH xs)) (.agg (eH ys))).run P w= .ok (xs==ys) w:=by
 rw[run_equalIn_array w (d+1) _ _ ht hi,hc,sD w d he hu xs ys _ (by intro j hj;rw[List.mem_range] at hj;omega),F0 xs ys 7 hx hy]
end
theorem AM:Tryz.prog.plainKey 9=true:=by kernel_rfl
theorem sO:Tryz.prog.cellsOf 9=1:=by kernel_rfl
theorem uC:(Tryz.prog.info? 9).map (·.size)=some 1:=by kernel_rfl
theorem kE:(Tryz.prog.info? 30).map (·.size)=some 7:=by kernel_rfl
theorem ni:(Tryz.prog.info? 33).map (·.size)=some 21:=by kernel_rfl
theorem zH:(Tryz.prog.underlying 33).map TypeDesc.isRow=some true:=by kernel_rfl
theorem KR:Tryz.prog.underlying 30=some (.array 7 9):=by kernel_rfl
theorem Ix {n:Nat}{t:TypeId}(h:(Tryz.prog.info? t).map (·.size)=some n):∃i,Tryz.prog.info? t=some i:=by
 cases hi:Tryz.prog.info? t with
 |none=>simp[hi] at h
 |some i=>exact⟨i,rfl⟩
end
section
open Go.RowKit Go.Lib Go.Sort
section
variable {L:List UInt8}{n:Nat}{m:dO}
theorem nC.loose (h:nC L n m){j:Nat}{b:List UInt8}(hj:j<n)(h0:j≠0)(hb:b.length=64)(hf:∀i f,m i=some f->j≠1+2*i/\j≠2+2*i):nC (bB L ((j:Int),b)) n m where
 len:=GR L n h.len j hj b hb
 lo:=h.lo
 root:=by rw[jL L n h.len j hj b hb,if_neg (by omega),h.root]
 recs i f hm:=by
  have h1:=hf i f hm;rw[jL L n h.len j hj b hb,jL L n h.len j hj b hb,if_neg (by omega),if_neg (by omega),h.recs i f hm]
 lt:=h.lt
 good:=h.good
 inj:=h.inj
theorem xL {i:Nat}(hi:m i=none){j:Nat}(hj:j=1+2*i\/j=2+2*i):∀k f,m k=some f->j≠1+2*k/\j≠2+2*k:=by
 intro k f hk;have:k≠i:=λe=>by subst e;rw[hi] at hk;cases hk
 omega
def qo (m:dO)(o:Int):dO:=if o=-1 then m else upd m o.toNat none
def after (m:dO)(i:Nat)(f:cV)(o:Int):dO:=qo (upd m i (some f)) o
theorem rK (m:dO)(o:Int)(ho:-1<=o/\o<54):fB (ei n m) o 0=ei n (qo m o):=by
 unfold fB qo;split
 .rfl
 .exact Cu n m o.toNat (by omega) none
theorem AW (m:dO)(i:Nat)(hi:i<54)(f:cV)(o:Int)(ho:-1<=o/\o<54):aX (ei n m) i o=ei n (after m i f o):=by
 unfold aX after;have:fB (ei n m) (i:Int) 1=ei n (upd m i (some f)):=by
  unfold fB;rw[if_neg (by omega)];exact Cu n m i hi (some f)
 rw[this,rK _ o ho]
theorem yW (m:dO)(o:Int)(ho:-1<=o/\o<54):aX (ei n m) (-1) o=ei n (qo m o):=by
 unfold aX;rw[show fB (ei n m) (-1) 1=ei n m from rfl,rK _ o ho]
theorem fO {m:dO}{o:Int}{j:Nat}{f:cV}(h:qo m o j=some f):m j=some f/\(0<=o->o.toNat≠j):=by
 unfold qo at h;split at h
 .exact⟨h,by omega⟩
 .unfold upd at h
  split at h
  .cases h
  .rename_i hne
   exact⟨h,λ_ e=>hne e.symm⟩
theorem qQ {m:dO}{o:Int}{j:Nat}(h:o=-1\/(0<=o/\o≠j)):qo m o j=m j:=by
 unfold qo;split
 .rfl
 .unfold upd
  rw[if_neg (by omega)]
theorem nC.rooted (h:nC L n m){m':dO}(hn:0<n)(hr:∀i f,m' i=some f->kj L (1+2*i)++kj L (2+2*i)=cK f.set f.path f.content)(hl:∀i f,m' i=some f->i<aK n)
  (hg:∀i f,m' i=some f->iY f.set f.path=true/\f.content.length<=96) (hi:∀i j f g,m' i=some f->m' j=some g->nameOf f=nameOf g->i=j):nC (bB L (0,ei n m')) n m' where
 len:=GR L n h.len 0 hn _ (iV _ _)
 lo:=h.lo
 root:=by
  have:=jL L n h.len 0 hn _ (iV n m') 0;rw[if_pos rfl] at this;exact this
 recs i f hm:=by
  have h1:=jL L n h.len 0 hn _ (iV n m') (1+2*i);have h2:=jL L n h.len 0 hn _ (iV n m') (2+2*i);rw[if_neg (by omega)] at h1 h2;show kj (bB L (((0:Nat):Int),ei n m')) _++kj (bB L (((0:Nat):Int),ei n m')) _=_;rw[h1,h2];exact hr i f hm
 lt:=hl
 good:=hg
 inj:=hi
theorem nC.dropped (h:nC L n m)(o:Int):nC (bB L (0,ei n (qo m o))) n (qo m o):=
 h.rooted (by have:=h.lo;omega) (λi f hm=>h.recs i f (fO hm).1) (λi f hm=>h.lt i f (fO hm).1) (λi f hm=>h.good i f (fO hm).1)
  λi j f g hf hg e=>h.inj i j f g (fO hf).1 (fO hg).1 e
theorem iv {m:dO}{i:Nat}{f:cV}{o:Int}{j:Nat}{g:cV}(h:after m i f o j=some g):(j=i/\g=f)\/(j≠i/\m j=some g/\(0<=o->o.toNat≠j)):=by
 unfold after at h;obtain⟨h1,h2⟩:=fO h;unfold upd at h1;split at h1
 .rename_i e
  exact .inl ⟨e,(Option.some.inj h1).symm⟩
 .rename_i e
  exact .inr ⟨e,h1,h2⟩
theorem nC.put (h:nC L n m){i:Nat}{f:cV}{o:Int}(hi:i<aK n)(hrec:kj L (1+2*i)++kj L (2+2*i)=cK f.set f.path f.content)
  (hg:iY f.set f.path=true/\f.content.length<=96) (ho:∀j g,m j=some g->nameOf g=nameOf f->o=j):nC (bB L (0,ei n (after m i f o))) n (after m i f o):=by
 refine h.rooted (by have:=h.lo;omega) (λj g hm=>?_) (λj g hm=>?_) (λj g hm=>?_) λj k g g' hj hk e=>?_
 .rcases iv hm with⟨rfl,rfl⟩|⟨_,h1,_⟩
  .exact hrec
  .exact h.recs j g h1
 .rcases iv hm with⟨rfl,rfl⟩|⟨_,h1,_⟩
  .exact hi
  .exact h.lt j g h1
 .rcases iv hm with⟨rfl,rfl⟩|⟨_,h1,_⟩
  .exact hg
  .exact h.good j g h1
 .rcases iv hj with⟨rfl,rfl⟩|⟨_,h1,h2⟩
  .rcases iv hk with⟨rfl,rfl⟩|⟨_,h3,h4⟩
   .rfl
   .have:=ho k g' h3 e.symm
    have:=h4 (by omega);omega
  .rcases iv hk with⟨rfl,rfl⟩|⟨_,h3,h4⟩
   .have:=ho j g h1 e
    have:=h2 (by omega);omega
   .exact h.inj j k g g' h1 h3 e
end
def half (r:List UInt8)(k:Nat):List UInt8:=(r.drop (k*64)).take 64
theorem Dn (r:List UInt8)(h:r.length=128)(k:Nat)(hk:k<2):(half r k).length=64:=by
 unfold half;rw[List.length_take,List.length_drop];omega
theorem halves (r:List UInt8)(h:r.length=128):half r 0++half r 1=r:=by
 unfold half;simp only[Nat.zero_mul,List.drop_zero,Nat.one_mul];rw[List.take_of_length_le (l:=r.drop 64) (by rw[List.length_drop];omega),List.take_append_drop]
def EN (L:List UInt8)(i:Nat)(r:List UInt8):List UInt8:=bB (bB L ((1+2*i:Nat),half r 0)) ((2+2*i:Nat),half r 1)
section
variable (L:List UInt8)(a k kp:Int)(n s:Nat)(p c:ByteArray)(i:Nat)(o:Int)(root r:List UInt8)
theorem LN (hr:cK s p.data.toList c.data.toList=r)
  (hfi:dV ⟨L,[],a,false,k,kp,false⟩ n=i) (hsl:cD ⟨L,[],a,false,k,kp,false⟩ s p (taken ⟨L,[],a,false,k,kp,false⟩ n)=o) (hroot:seenIn (EN L i r) [] 0=root):
  (⟨L,[],a,false,k,kp,false⟩:DS).put n s p c=(⟨bB (EN L i r) (0,aX root i o),[],a+5,false,k,kp,false⟩,.int .i64 0):=by
 have e:bB (bB L ((1+2*i:Nat),List.take 64 r)) ((2+2*i:Nat),List.take 64 (List.drop 64 r))=EN L i r:=by simp[EN,half]
 unfold DS.put;rw[hfi,hsl,hr,if_neg (by omega)];simp[DS.jW,DS.nP,DS.wr,DS.write,DS.bj,DS.jc,DS.flush,DS.mark,DS.jv,cI,ju,DS.read];rw[show 1+2*(i:Int)=((1+2*i:Nat):Int) by omega,show((1+2*i:Nat):Int)+1=((2+2*i:Nat):Int) by omega,e,hroot];simp;omega
theorem CG (x:DS)(hsl:cD x s p (taken x n)=-1):x.remove n s p=(x,.int .i64 5):=by
 unfold DS.remove;rw[if_pos hsl]
theorem CJ (hsl:cD ⟨L,[],a,false,k,kp,false⟩ s p (taken ⟨L,[],a,false,k,kp,false⟩ n)=o)(ho:o≠-1)(hroot:seenIn L [] 0=root):
  (⟨L,[],a,false,k,kp,false⟩:DS).remove n s p=(⟨bB L (0,aX root (-1) o),[],a+2,false,k,kp,false⟩,.int .i64 0):=by
 unfold DS.remove;rw[hsl,if_neg ho];simp[DS.write,DS.bj,DS.jc,DS.flush,DS.mark,DS.jv,cI,ju,DS.read,hroot];omega
end
end
section
open Go.RowKit Go.Lib
def cellOf (r:Option (List UInt8)):List UInt8:=match r with
 |none=>[]
 |some c=>43::c
def DS.at (x:DS)(n q:Nat):Option (List UInt8):=x.content n ((q/7:Nat):Int) (dN (q%7))
def mq (c:Nat->Option (List UInt8))(q:Nat):List (List UInt8):=(List.range 21).map λi=>if i<q then cellOf (c i) else []
def DS.state (x:DS)(n:Nat):List (List UInt8):=mq (x.at n) 21
theorem fo (c:Nat->Option (List UInt8))(q:Nat):(mq c q).length=21:=by simp[mq]
theorem Iu (c:Nat->Option (List UInt8))(q:Nat)(h:c q=none):mq c (q+1)=mq c q:=by
 unfold mq
 apply List.map_congr_left
 intro i _
 by_cases h1:i<q
 .rw[if_pos h1,if_pos (by omega)]
 .by_cases h2:i=q
  .subst h2
   rw[if_pos (by omega),if_neg h1,h];rfl
  .rw[if_neg h1,if_neg (by omega)]
theorem It (c:Nat->Option (List UInt8))(q:Nat)(t:List UInt8)(h:c q=some t):eH (mq c (q+1))=(eH (mq c q)).setIfInBounds q (.string (aB (43::t))):=by
 apply Array.ext_getElem?
 intro i;rw[Array.getElem?_setIfInBounds,cL,fo]
 by_cases h1:i<21
 .rw[mr _ i (by rw[fo];exact h1),mr _ i (by rw[fo];exact h1)]
  by_cases h2:q=i
  .subst h2
   rw[if_pos rfl,if_pos h1];simp[mq,h,cellOf]
  .rw[if_neg h2]
   by_cases h3:i<q
   .simp[mq,h3,show i<q+1 by omega]
   .simp[mq,h3,show ¬i<q+1 by omega]
 .rw[Array.getElem?_eq_none (by rw[cL,fo];omega),Array.getElem?_eq_none (by rw[cL,fo];omega)]
  by_cases h2:q=i
  .rw[if_pos h2,if_neg (by omega)]
  .rw[if_neg h2]
def Eh:Value:= .agg (eH (List.replicate 21 []))
theorem mM:(Tryz.prog.info? 33).map (·.zero)=some (some Eh):=by kernel_rfl
def i7 (x:DS)(n s p:Nat):Nat:=((List.range p).filter λk=>(x.content n s (dN k)).isSome).length
theorem Bg (x:DS)(n s p:Nat):i7 x n s (p+1)=i7 x n s p+if(x.content n s (dN p)).isSome then 1 else 0:=by
 unfold i7;rw[List.range_succ,List.filter_append,List.length_append];cases h:(x.content n s (dN p)).isSome<;>simp[h]
theorem FH (x:DS)(n s p:Nat):i7 x n s p<=p:=by
 unfold i7;exact Nat.le_trans (List.length_filter_le _ _) (by simp)
theorem CV (c n:Nat)(h:c<n):ba c n=c:=by
 unfold ba;rw[if_neg (by omega),Int.emod_eq_of_lt (by omega) (by omega)];rfl
theorem DF {x:DS}{n:Nat}{s:Int}{p:ByteArray}{t:List UInt8}(h:x.content n s p=some t):(aB t).size<=96:=by
 unfold DS.content at h;split at h
 .cases h
  exact wV _
 .cases h
theorem aQ.vO {w w':World}{S F:List Nat}{s d n:Nat}{x:DS}(h:aQ w F s d n x)(f:aO S w w')(h1:s∉S)(h2:∀k∈S,k∉F):aQ w' F s d n x:=⟨f.row h.row h1,h.disk.vO f h2,h.ne⟩
theorem LU (t:List UInt8):(⟨#[43]⟩:ByteArray)++aB t=aB (43::t):=by
 apply ByteArray.ext
 rw[ByteArray.data_append];simp[aB]
section
variable {P:Program}{ops:Array Oper}{Q:Exit->Act->World->Prop}{a:Act}{w:World}{rest:List Oper}{o:Oper}
theorem Ie (hg:o.guard=none)(t:TypeId)(x y:Operand)(ho:o.op= .store t x y)(b off:Nat)(hx:a.eval x= .pointer (some ⟨b,off,none⟩))
  (v:ByteArray) (hy:a.eval y= .string v) (hi:(P.info? t).map (·.size)=some 1)
  (c:Array Value) (u:TypeId) (hr:Row w b c u) (hfit:off<c.size)
  (h:∀w1:World,aO [b] w w1->Row w1 b (c.setIfInBounds off (.string v)) u->wpList P ops Q rest (a.put o.dst undef) w1):wpList P ops Q (o::rest) a w:=by
 refine vA hg (w.setCell ⟨b,off,none⟩ (.string v)) ?_ (h _ (aO.setCell _ _ _ _) (hr.setCell _ _));have hc:=hr.cell off;have hf:=hr.thaw off;have hs:c[off]? =some c[off]:=by simp[hfit]
 rw[hs] at hc;have hst:(store ((⟨b,off,none⟩:Addr).add 0) (.string v)).run P w= .ok () (w.setCell ⟨b,off,none⟩ (.string v)):=by
  rw[Addr.add_mid,Nat.add_zero,run_store P w _ _ _ rfl,hc];simp[hf]
 cases hq:P.info? t with
 |none=>simp[hq] at hi
 |some i=>
  have h1:i.size=1:=by simpa [hq] using hi
  simp[execOp,ho,hx,hy,Instr.storeAt,Instr.sureAddr,storeVar,sizeOf,typeInfo,hq,h1,Value.cells,storeCells,hst]
theorem LF {fn:Func}{R:Ending->World->Prop}{tp tq:Tmp}{ty:TypeId}(hf:fn.results=#[.cell tp ty,.tmp tq])(b:Nat)(hp:a.tmps.getD tp undef= .pointer (some ⟨b,0,none⟩))(hd:a.defers=[])
  (c:Array Value) (u:TypeId) (hr:Row w b c u) (hu:(P.underlying ty).map TypeDesc.isRow=some true) (hi:(P.info? ty).map (·.size)=some c.size) (v:Value) (hv:a.tmps.getD tq undef=v) (h:R (.returned (.tuple #[.agg c,v])) w):bodyPost P fn R .ret a w:=by
 obtain⟨d,hu',hd'⟩:=Option.map_eq_some_iff.1 hu;have hl:=run_loadVar_row (P:=P) w b u ty c (0,0) d hr hu' (by revert hd' hu';cases d<;>intro x y<;>first|rfl|cases y) hi;refine bodyPost_ret ?_ hd h;rw[results_cell_tmp hf,hp,hv];simp[asAddr,hl]
end
theorem Lh (F:List Nat)(s d n:Nat)(x:DS)(w:World)(h:aQ w F s d n x)(hf:x.failed=false)(hw:x.waiting=[])(hcnt:∀side,side<3->(bF (aP x n) side).length=i7 x n side 7):
  Calls Tryz.prog 15 #[.pointer (some ⟨s,0,none⟩)] w λe w'=>e= .returned (.tuple #[.agg (eH (x.state n)),.bool true])/\aO [] w w':=by
 go_enter Tryz.func15,Tryz.ntmps15;go_wp2_with (with_reducible first|refine az rfl ?_);refine al.go (bi rfl 33 rfl Eh mM ?_);intro w1 b2 l2 f1 r2;go_wp2_with (with_reducible first|refine az rfl ?_);refine al.go (bi rfl 33 rfl Eh mM ?_);intro w2 b4 l4 f2 r4;have q2:Row w2 b2 (eH (List.replicate 21 [])) 33:=f2.row r2
 have q4:Row w2 b4 (eH (mq (x.at n) 0)) 33:=r4;have hne:b2≠b4:=by have:=r2.lt;omega
 have fw:=f1.trans f2;have h2:=h.new fw;have hb4:w.heap.size<=b4:=by have:=f1.size;omega
 have acV:s≠b4/\b4∉F:=⟨by have:=h.row.lt;omega,λhF=>by have:=h.disk.lt b4 hF;omega⟩
 clear r2 r4 f1 f2 h l4;go_wp2_with fail
 go_loopw [5] (λi wr=>∃k:Nat,i= .int .i64 k/\k<=3/\aO [] w wr/\Row wr b2 (eH (List.replicate 21 [])) 33/\Row wr b4 (eH (mq (x.at n) (7*k))) 33/\aQ wr F s d n x) (λi _=>3-(intOf i).toNat)
 case atStart=>exact⟨0,rfl,by omega,fw,q2,q4,h2⟩
 case round=>
  obtain⟨k,rfl,hk,fk,k2,k4,hst⟩:=hrel;clear fw q2 q4 h2
  by_cases hlt:k<3
  .go_wp2_with fail
   refine(Mq F s d n x k wr hst (by omega)).mono ?_;rintro e w3 ⟨⟨ad,cap,rfl⟩,f3⟩;have acq:=hst.new f3;have Tt:=fk.trans f3;have k23:=f3.row k2;have k43:=f3.row k4;have hcn:=hcnt k hlt;rw[hf];generalize hLN:(bF (aP x n) k).length=ln at hcn⊢;have HCN:Hid (i7 x n k 7=ln):=hcn.symm;clear hLN f3 fk k2 k4 hst hcn hcnt
   simp only[Bool.false_eq_true,if_false];go_wp2_with fail;rw[show decide ((k:Int)<3)=true from decide_eq_true (by omega)]
   go_loopw [8,9] (λc i w1=>∃p:Nat,i= .int .i64 p/\p<=7/\c= .int .i64 (i7 x n k p)/\aO [] w w1/\Row w1 b2 (eH (List.replicate 21 [])) 33/\Row w1 b4 (eH (mq (x.at n) (7*k+p))) 33/\aQ w1 F s d n x) (λ_ i _=>7-(intOf i).toNat)
   case atStart=>exact⟨0,rfl,by omega,rfl,Tt,k23,k43,acq⟩
   case round=>
    obtain⟨p,rfl,hp,rfl,fp,p2,p4,hsp⟩:=hrel;clear Tt k23 k43 acq
    by_cases hlt2:p<7
    .have hcs:=Bg x n k p
     have hcl:=FH x n k p;have hpo:=xh p hlt2;have hpk:ba p 7=p:=CV p 7 hlt2;have hat:x.at n (7*k+p)=x.content n k (dN p):=by
      unfold DS.at
      rw[show(7*k+p)/7=k by omega,show(7*k+p)%7=p by omega]
     have hget:x.get n k (dN p)=match x.content n k (dN p) with|none=>((.string ⟨#[]⟩,5):Value×Int)|some c=>(.string (aB c),0):=by
      unfold DS.get;rw[hf];rfl
     have HCS:Hid (i7 x n k (p+1)=i7 x n k p+if(x.content n k (dN p)).isSome then 1 else 0):=hcs;generalize i7 x n k p=cn at hcl HCS;clear hcs;go_wp2_with fail;refine(xg p wr (by omega) (by omega)).mono ?_;rintro e w4 ⟨rfl,rfl⟩;rw[hpk];go_wp2_with fail;refine(A9 F s d n x k (dN p) w4 hsp (by omega) hpo.1 (by omega)).mono ?_;rintro e w5 ⟨rfl,f5⟩;have hs5:=hsp.new f5
     have fp5:=fp.trans f5;have p25:=f5.row p2;have p45:=f5.row p4;rw[hget];clear hget f5 fp p2 p4 hsp hpk;cases hc:x.content n k (dN p) with
     |none=>
      rw[hc] at hat HCS;have e1:=Iu (x.at n) (7*k+p) hat;rw[<-e1] at p45;go_wp2_with fail
      go_roundw
      case rel=>exact⟨p+1,by go_num,by omega,by rw[HCS.out];rfl,fp5,p25,p45,hs5⟩
      case measure=>simp[intOf];omega
     |some t=>
      rw[hc] at hat HCS;have HE:Hid (eH (mq (x.at n) (7*k+p+1))=(eH (mq (x.at n) (7*k+p))).setIfInBounds (7*k+p) (.string (aB (43::t)))):=It (x.at n) (7*k+p) t hat;have hpl:=LU t;have hsz:(aB t).size<=96:=DF hc;go_wp2_with (with_reducible first|refine af 9 rfl ?_)
      refine al.go (Ie rfl 9 _ _ rfl b4 (k*7+p) rfl (aB (43::t)) rfl uC _ _ p45 (by rw[cL,fo];omega) ?_);intro w6 f6 q6;have fp6:=fp5.trans f6 (by simpa using hb4);have p26:=f6.row p25 (by simpa using hne);rw[show k*7+p=7*k+p by omega,<-HE.out] at q6;have hs6:aQ w6 F s d n x:=hs5.vO f6 (by simpa using acV.1) (by simpa using acV.2)
      clear p25 p45 fp5 hs5 f6 hpl hsz;go_wp2_with fail
      go_roundw
      case rel=>exact⟨p+1,by go_num,by omega,by rw[HCS.out];rfl,fp6,p26,q6,hs6⟩
      case measure=>simp[intOf];omega
    .obtain rfl:p=7:=by omega
     rw[HCN.out];go_wp2_with fail
     go_roundw
     case rel=>exact⟨k+1,by go_num,by omega,fp,p2,by rw[show 7*(k+1)=7*k+7 by omega];exact p4,hsp⟩
     case measure=>simp[intOf];omega
  .obtain rfl:k=3:=by omega
   go_wp2_with (with_reducible first|refine ay 33 rfl ?_|refine af 33 rfl ?_);have ahm:((eH (mq (x.at n) (7*3))).toList.drop 0).take 21=(eH (mq (x.at n) (7*3))).toList:=by rw[List.drop_zero];exact List.take_of_length_le (by rw[Array.length_toList,cL,fo];omega)
   refine al.go (bU rfl 33 _ rfl b4 0 rfl zH 21 ni _ _ k4 _ ahm (by rw[Array.length_toList,cL,fo]) ?_);go_wp2_with (with_reducible first|refine af 33 rfl ?_);refine al.go (bK rfl 33 _ _ rfl _ 0 rfl _ rfl 21 ni ?_ ?_ _ _ k2 ?_ ?_)
   .rw[List.size_toArray,Array.length_toList,cL,fo]
   .simp[eH,Value.oneCell']
   .rw[cL];decide
   intro w6 f6 q6;rw[bH _ _ (by simp only[Array.length_toList,cL,fo,List.length_replicate])] at q6;simp only[Array.toArray_toList] at q6;have Hd:=fk.trans f6 (by simpa using l2);clear k2 k4 hst f6;go_wp2_with fail;exact LF rfl b2 rfl rfl _ _ q6 zH (by rw[cL,fo];exact ni) _ rfl ⟨rfl,Hd⟩
theorem D8 {P:Program}{ops:Array Oper}{Q:Exit->Act->World->Prop}{n m:Nat}{l:List Nat}{a:Act}{w:World}(i j k:Nat)(hr:Region.ready .any ops (marks n l)=[i,j,k])(hi:i<n)(hj:j<n)(hk:k<n)(h1:Step P ops Q n m l i a w)(h2:Step P ops Q n m l j a w)(h3:Step P ops Q n m l k a w):yw P ops Q n (m+1) l a w:=
 F4 [i,j,k] (by simp) hr (by simp[hi,hj,hk]) (by simp[h1,h2,h3])
theorem ze (s:ByteArray):(dg s).size<=96:=by
 unfold dg;split
 .rw[ByteArray.size_extract];omega
 .omega
def dy (k sd pt:Int)(ct:ByteArray):Array Value:=#[.int .i64 k,.int .i64 sd,.int .i64 pt,.string ct]
def DS.act (x:DS)(n:Nat)(k sd pt:Int)(ct:ByteArray):DS×Value:=
 if ba k 4=2 then x.fV n (ba sd 2) (dN (ba pt 7)) else x.pR n (ba sd 2) (dN (ba pt 7)) (dg ct)
end
section
open Go.RowKit Go.Lib Go.Sort
theorem DH (c:ByteArray):(dg c).data.toList.length<=96:=by
 unfold dg;split
 .have:(c.extract 0 96).size<=96:=by rw[ByteArray.size_extract];omega
  simpa using this
 .have:c.size<=96:=by omega
  simpa using this
theorem EU (k:Nat)(hk:k<7)(s:Nat)(hs:s<=2):iY s (fC k)=true:=by
 unfold iY;rw[if_pos (by omega)];exact(xh k hk).1
theorem I3 (k:Nat)(hk:k<7):fC k∈P7:=AV.2 ⟨k,hk,rfl⟩
theorem Dq (x:DS)(n:Nat)(h:x.waiting=[]):dV x n=dW (kj x.aR 0) (aK n) (aK n) 0:=by
 unfold dV;rw[tA x h]
section
variable {L:List UInt8}{n:Nat}{m:dO}
theorem owner (h:nC L n m)(s:Nat)(p:List UInt8):∃o:Int,(∀x:DS,x.aR=L->x.waiting=[]->cD x s (aB p) (taken x n)=o)/\-1<=o/\o<54/\(∀j g,m j=some g->nameOf g=(s,p)->o=j)/\(o≠-1->∃g,m o.toNat=some g/\nameOf g=(s,p)):=by
 by_cases hx:∃j g,m j=some g/\nameOf g=(s,p)
 .obtain⟨j,g,hg,e⟩:=hx
  have hlt:=h.lt j g hg;have:=pD n;have e':=e;unfold nameOf at e';simp only[Prod.mk.injEq] at e';refine⟨j,λx hl hw=>?_,by omega,by omega,λk g' hk ek=>?_,λ_=>⟨g,by simpa using hg,e⟩⟩
  .subst hl
   have:=CB h hw hg;rw[e'.1,e'.2] at this;exact this
  .rw[h.inj k j g' g hk hg (ek.trans e.symm)]
 .refine⟨-1,λx hl hw=>?_,by omega,by omega,λj g hg e=>absurd ⟨j,g,hg,e⟩ hx,λh=>absurd rfl h⟩
  subst hl;exact qC h hw s p λj g hg e=>hx ⟨j,g,hg,e⟩
end
theorem IT (n:Nat)(h:16<=n):nC (ez n) n λ_=>none where
 len:=by unfold ez;rw[List.length_append,jE,List.length_replicate];omega
 lo:=h
 root:=by
  unfold ez kj;rw[Nat.mul_zero,List.drop_zero,List.take_append_of_le_length (by rw[jE];omega),List.take_of_length_le (by rw[jE];omega)];have:=EM n (λ_=>none) 0 (by simp);rw[<-this];rfl
 recs:=λi f hm=>by cases hm
 lt:=λi f hm=>by cases hm
 good:=λi f hm=>by cases hm
 inj:=λi j f g hm=>by cases hm
end
section
open Go.RowKit Go.Lib
theorem aO.cell {S:List Nat}{w w':World}(h:aO S w w'){a:Addr}{v:Value}(hc:w.cell? a=some v)(ha:a.block∉S):w'.cell? a=some v:=by
 unfold World.cell? at hc⊢;cases hb:w.heap[a.block]? with
 |none=>rw[hb] at hc;cases hc
 |some o=>
  rw[h.block a.block (Array.getElem?_eq_some_iff.1 hb).1 ha,hb];rw[hb] at hc;exact hc
structure fj where
 kind:Int
 side:Int
 path:Int
 content:ByteArray
def xN (x:Int):Prop:=-9223372036854775808<=x/\x<=9223372036854775807
def fj.Ok (a:fj):Prop:=xN a.kind/\xN a.side/\xN a.path
def fj.cells (a:fj):Array Value:=dy a.kind a.side a.path a.content
def qX (w:World)(ad:Option Addr)(l:List fj):Prop:=∀j,(hj:j<l.length)->(l[j]).Ok/\∃b off,ad=some ⟨b,off,none⟩/\w.rangeAt b (off+j*4) (l[j]).cells.toList
theorem mJ:(Tryz.prog.info? 24).map (·.size)=some 4:=by kernel_rfl
theorem PZ:(Tryz.prog.underlying 24).map TypeDesc.isRow=some true:=by kernel_rfl
def O2:Value:= .agg (dy 0 0 0 ⟨#[]⟩)
theorem Ju:(Tryz.prog.info? 3).map (·.size)=some 1:=by kernel_rfl
def DS.calm (L:List UInt8)(a:Int):DS:=⟨L,[],a,false,0,0,false⟩
theorem oR (L:List UInt8)(a:Int)(r:Nat)(h0:0<=a)(h1:a+r<=1000000000:=by omega):(DS.calm L a).Fit r:=⟨h0,h1,by show(0:Int)<=0;omega,by show(0:Int)<=_;omega⟩
def mg:ByteArray:=⟨#[102,105,114,115,116]⟩
section
variable {P:Program}{ops:Array Oper}{Q:Exit->Act->World->Prop}{a:Act}{w:World}{rest:List Oper}{o:Oper}
theorem mm (hg:o.guard=none)(t:TypeId)(x:Operand)(ho:o.op= .load t x)(b off:Nat)(hx:a.eval x= .pointer (some ⟨b,off,none⟩))
  (hu:(P.underlying t).map TypeDesc.isRow=some true) (vs:Array Value) (hi:(P.info? t).map (·.size)=some vs.size) (hr:w.rangeAt b off vs.toList)
  (h:wpList P ops Q rest (a.put o.dst (.agg vs)) w):wpList P ops Q (o::rest) a w:=by
 obtain⟨d,hu',hd⟩:=Option.map_eq_some_iff.1 hu;exact wpList_load_mid hg t x ho b off hx vs.toList d hr hu' hd (by rw[hi,Array.length_toList]) h
end
section
variable {P:Program}{ops:Array Oper}{Q:Exit->Act->World->Prop}{a:Act}{w:World}{rest:List Oper}{o:Oper}
theorem ft (hg:o.guard=none)(t:TypeId)(x y:Operand)(ho:o.op= .store t x y)(b:Nat)(hx:a.eval x= .pointer (some ⟨b,0,none⟩))
  (cells:Array Value) (hy:a.eval y= .agg cells) (hi:(P.info? t).map (·.size)=some cells.size) (h1:∀v∈cells.toList,v.oneCell'=true)
  (c:Array Value) (u:TypeId) (hr:Row w b c u) (hc:c.size=cells.size)
  (h:∀w1:World,aO [b] w w1->Row w1 b cells u->wpList P ops Q rest (a.put o.dst undef) w1):wpList P ops Q (o::rest) a w:=by
 refine bK hg t x y ho b 0 hx cells hy cells.size hi rfl h1 c u hr (by omega) λw1 f1 r1=>h w1 f1 ?_
 rw[bH _ _ (by rw[hc,Array.length_toList]),Array.toArray_toList] at r1;exact r1
end
theorem B0 (l:List (List UInt8)):∀v∈(eH l).toList,v.oneCell'=true:=by simp[eH,Value.oneCell']
theorem Sp (a:fj):∀v∈a.cells.toList,v.oneCell'=true:=by simp[fj.cells,dy,Value.oneCell']
theorem Lg (F:List Nat)(s d n:Nat)(x:DS)(m:dO)(w:World)(h:aQ w F s d n x)(hf:x.failed=false)(hw:x.waiting=[])(hr:nC x.aR n m)(h7:Seven m):
  Calls Tryz.prog 15 #[.pointer (some ⟨s,0,none⟩)] w λe w'=>e= .returned (.tuple #[.agg (eH (x.state n)),.bool true])/\aO [] w w':=
 Lh F s d n x w h hf hw λside _=>EC hr hw h7 side
end
section
open Go.RowKit Go.Lib Go.Sort
open Go.Conc (base G)
def pk (w:World):Prop:=∃c t f,w.heap[0]? =some (.cells c t f)/\∀v∈c,∀r,¬Value.Has r v
theorem pk.blk {S:List Nat}{w w':World}(h:pk w)(f:dl S w w')(h0:0∉S):pk w':=by
 obtain⟨c,t,fz,h1,h2⟩:=h;exact⟨c,t,fz,(f.block 0 (Array.getElem?_eq_some_iff.1 h1).1 h0).trans h1,h2⟩
theorem bL.zero {F F':List Nat}{w:World}(g:bL F F' w)(hg:pk w)(h:0∉F):0∉F':=λh0=>by
 obtain⟨c,t,fz,h1,h2⟩:=hg;have:=(Array.getElem?_eq_some_iff.1 h1).1;rcases g 0 h0 with q|q
 .exact h q
 .omega
theorem aQ.ax {w:World}{F:List Nat}{s d n:Nat}{x:DS}(h:aQ w F s d n x)(t:Go.Proofs.YtchcmhodnkgojaaGreat.dX)(k:Nat):aQ (ax w t k) F s d n x:=by
 obtain⟨h1,⟨bl,vw,⟨a1,a2,a3,a4,a5,a6,a7,a8,a9,a10,a11,a12,a13⟩,hF⟩,h3⟩:=h;exact⟨h1,⟨bl,vw,⟨a1,a2,a3,a4,a5,a6,a7,a8,a9,a10,a11,a12,a13⟩,hF⟩,h3⟩
theorem bv.blk {w w':World}{S:List Nat}{d bl n:Nat}{vw:Value}{x:DS}(h:bv w d bl n vw x)(f:dl S w w')(h1:d∉S)(h2:bl∉S)(h3:∀k∈S,vw.ownBlock≠some k):bv w' d bl n vw x:=
 {h with row:=(f.block d h.row.lt h1).trans h.row,last:=(f.block bl h.last.lt h2).trans h.last,own:=World.ownsRow.ahU h.own f λg hg hS=>h3 g hS hg}
theorem aQ.blk {w w':World}{F S:List Nat}{s d n:Nat}{x:DS}(h:aQ w F s d n x)(f:dl S w w')(h1:s∉S)(h2:∀k∈S,k∉F):aQ w' F s d n x:=by
 obtain⟨bl,vw,hd,rfl⟩:=h.disk;exact⟨(f.block s h.row.lt h1).trans h.row,⟨bl,vw,hd.blk f (λe=>h2 _ e (by simp)) (λe=>h2 _ e (by simp)) (λk hk e=>h2 k hk (by simp[e])),rfl⟩,h.ne⟩
theorem aQ.rd {w:World}{F:List Nat}{s d n:Nat}{x:DS}(h:aQ w F s d n x)(hg:pk w)(hw:x.waiting=[]):∃bl,aF.fx d bl n x w:=by
 obtain⟨bl,vw,hd,rfl⟩:=h.disk;have:=hd.nil hw;subst this;exact⟨bl,⟨⟨_,hd.row⟩,⟨_,hd.last⟩,hg,hd.len,hd.lo,hd.hi,hw⟩⟩
def sW (x:DS)(n:Nat)(ps:List (List UInt8)):Prop:=ps.Pairwise (·<=·)/\ps.Nodup/\∀l,l∈ps↔aF.comb (gC x n 0 (aB l)) (gC x n 1 (aB l))≠none
theorem zx {ps:List (List UInt8)}(h:ps.Pairwise (·<=·))(hn:ps.Nodup):ps.Pairwise (·<·):=
 (h.and hn).imp fun {a b} hab=>by
  rcases List.le_iff_lt_or_eq.1 hab.1 with q|q
  .exact q
  .exact absurd q hab.2
theorem yH (fa fb:aF.iJ){ps:List (List UInt8)}(h:ps.Pairwise (·<·)):(ik fa fb ps).Pairwise λp q=>p.1<q.1:=by
 unfold ik;refine List.Pairwise.filterMap _ (λa b hab p hp q hq=>?_) h;obtain⟨_,_,rfl⟩:=Option.map_eq_some_iff.1 hp;obtain⟨_,_,rfl⟩:=Option.map_eq_some_iff.1 hq;exact hab
def eF (x:DS)(n:Nat)(ps:List (List UInt8)):List (List UInt8×Nat):=ik (gC x n 0) (gC x n 1) ps
def lJ (x:DS)(n:Nat)(ps:List (List UInt8)):List (List UInt8):=jz (gC x n 0) (gC x n 1) ps
theorem dU:(Tryz.prog.info? 58).map (·.size)=some 2:=by kernel_rfl
def fT:Value:= .agg #[.int .i64 0,.slice none 0 0]
theorem iy:(Tryz.prog.info? 58).map (·.zero)=some (some fT):=by kernel_rfl
theorem m6 {fn:Func}{tp tq:Tmp}{ty:TypeId}(hf:fn.results=#[.cell tp ty,.tmp tq])(tmps:Array Value)(w:World)(b:Nat)(c:Array Value)(u:TypeId)(hp:tmps.getD tp undef= .pointer (some ⟨b,0,none⟩))
  (hr:Row w b c u) (hu:(Tryz.prog.underlying ty).map (λd=>match d with|.struct _|.array _ _=>true|_=>false)=some true) (hi:(Tryz.prog.info? ty).map (·.size)=some c.size):(results fn tmps).run Tryz.prog w= .ok (.tuple #[.agg c,tmps.getD tq undef]) w:=by
 obtain⟨d,hu',hd'⟩:=Option.map_eq_some_iff.1 hu;have hp':tmps[tp]?.getD undef= .pointer (some ⟨b,0,none⟩):=by simpa using hp
 have hl:=run_loadVar_row w b u ty c (0,0) d hr hu' (by revert hd' hu';cases d<;>intro x y<;>first|rfl|cases y) hi;simp[results,hf,hp',asAddr,hl]
theorem adZ {E:ah.Env}{f:FuncId}{k:List Item}{R:Act->World->Prop}{a:Act}{wL:World}{ops:Array Oper}{i:Nat}{rest:List Nat}{o:Oper}(t:TypeId)(x:Operand)(ho:ops[i]? =some o)(hop:o.op= .load t x)(qk:jZ ah.PP S0 E0 true o=true)(hg:o.guard=none)
  (ha:(Tryz.prog.underlying t).map (λd=>match d with|.struct _|.array _ _=>true|_=>false)=some false) (b:Addr) (hx:a.eval x= .pointer (some b)) (v:Value) (hc:wL.cell? b=some v)
  (h:ah.CI E f (.inRegion ops rest::k) R (a.put o.dst v) wL):ah.CI E f (.inRegion ops (i::rest)::k) R a wL:=by
 refine aF.Sq.jA (w1:=wL) v ho hg (λt' d=>?_) h (qk:=qk);have hc':(ax wL t' d).cell? b=some v:=hc;have h1:aF.RT (kd.load t (.pointer (some b))).sem (ax wL t' d) (.value v) (ax wL t' d) #[⟨.cell b,false,false⟩]:=by
  refine aF.RT.eD (x:=v) ?_ (.pure _);show aF.RT (do if<-isAgg t then Pure.pure (.agg (<-loadCells b (<-Go.sizeOf t))) else load b) _ _ _ _;refine(aF.fM ha).aN ?_;simp only[Bool.false_eq_true,if_false];exact aF.jD hc'
 have:=h1.run;unfold execOp;rw[hop];show(do pure (.value (<-Instr.loadAt t (a.eval x))):Sem Next).run _ _=_;rw[hx];exact this
theorem Hl {E:ah.Env}{f:FuncId}{k:List Item}{R:Act->World->Prop}{a:Act}{wL:World}{ops:Array Oper}{l:List Nat}(m:Nat)(hl:l=List.range' m (ops.toList.drop m).length)(h0:∃fn,ah.PP.funcs[f]? =some fn)(Bv:AS ah.PP S0 E0 true (.inRegion ops l)=true)
  (I:World->Prop) (hb:∀w t d,I w->I (ax w t d)) (hI:I wL) (hwp:∀w,I w->w.heap.size=wL.heap.size->wpList ah.PP ops (ah.after E none f k R) (ops.toList.drop m) a w):ah.CI E f (.inRegion ops l::k) R a wL:=by
 refine ah.RZ none h0 Bv (by simp) I hb hI λw h1 h2=>?_
 rw[hl,wpOps_eq_wpList (ops.toList.drop m) m λj=>by rw[List.getElem?_drop,Array.getElem?_toList]];exact hwp w h1 h2
structure Bp (x:DS)(n:Nat):Prop where
 wait:x.waiting=[]
 fit:x.failed=false->x.Fit 105
 steps:∀ps,sW x n ps->(eF x n ps).length<=7/\pC (eF x n ps)/\(rg (x.begin n (eF x n ps)).2=0->(x.begin n (eF x n ps)).1.content n 3 ⟨#[]⟩=some (de (eF x n ps)))
def yU (x:DS)(n:Nat):Int:=if x.failed then 3 else if x.pending n then 4 else 0
def sV (F:List Nat)(s d n:Nat)(x:DS)(wL:World)(v:Value)(w':World):Prop:=
 (yU x n≠0/\v= .tuple #[fT,.int .i64 (yU x n)]/\aQ w' F s d n x/\dl [] wL w')\/
 (yU x n=0/\∃ps F',sW x n ps/\aQ w' F' s d n (x.xV n (eF x n ps)).1/\bL F F' wL/\dl F wL w'/\
  ((∃cv,(x.xV n (eF x n ps)).2= .int .i64 0/\v= .tuple #[.agg #[.int .i64 (eF x n ps).length,cv],.int .i64 0]/\w'.ownsRow wL.heap.size 9 1 cv (lJ x n ps).length (eZ (lJ x n ps))/\∀g,cv.ownBlock=some g->g∉F')\/
   (∃e:Int,e≠0/\(x.xV n (eF x n ps)).2= .int .i64 e/\v= .tuple #[fT,.int .i64 e])))
open aF aF.Sq in
theorem sP {E:ah.Env}{wL:World}{F:List Nat}{s d n:Nat}{x:DS}(h:aQ wL F s d n x)(hG:pk wL)(h0:0∉F)(hok:Bp x n):
  ah.CC E 31 #[.pointer (some ⟨s,0,none⟩)] (sV F s d n x wL) wL:=by
 refine ah.k9 Tryz.func31 rfl ?_;refine ah.cQ ?_;refine o6 {tmps:=#[.pointer (some ⟨s,0,none⟩),undef,undef,undef,undef,undef,undef,undef,undef,undef,undef,undef,undef,undef,undef,undef,undef,undef,undef,undef,undef,undef,undef,undef,undef,undef,undef,undef,undef,undef,undef,undef,undef],defers:=[]} (by kernel_rfl) ?_
 refine ah.cU none ⟨_,Tryz.func31⟩ (by kernel_rfl) (by simp) (λw=>aQ w F s d n x/\dl [] wL w) (λw t k h=>⟨h.1.ax t k,h.2.tape t k⟩) ⟨h,dl.refl _ _⟩ λw hI hsz=>?_
 obtain⟨hS,hB⟩:=hI;go_wp2_with (with_reducible first|refine az rfl ?_);refine al.go (bi rfl 58 rfl _ iy ?_);intro w1 b2 l2 f2 r2;have hS1:=hS.new f2;have hB1:=hB.trans f2.blk;have hb2:b2∉F:=λhb=>by have:=hS.disk.lt b2 hb;omega
 have XB:s≠b2:=by have:=hS.row.lt;omega
 have ahx:wL.heap.size<=b2:=by omega
 clear hS hB f2;go_wp2_with fail;refine ah.cQ (ah.cU none ⟨_,Tryz.func31⟩ (by kernel_rfl) (by simp) (λw=>aQ w F s d n x/\dl [] wL w/\Row w b2 fT.cells 58) (λw t k h=>⟨h.1.ax t k,h.2.1.tape t k,h.2.2⟩) ⟨hS1,hB1,r2⟩ λw2 hI hsz2=>?_);obtain⟨hS2,hB2,r2'⟩:=hI;clear hS1 hB1 r2 hsz2;go_wp2_with fail;refine(ma F s d n x w2 hS2).mono ?_;rintro e w3 ⟨rfl,f3⟩
 have ZB:=hS2.new f3;have hB3:=hB2.trans f3.blk;have r3:Row w3 b2 fT.cells 58:=f3.row r2';have HE:Hid (yU x n=(if x.failed then 3 else if x.pending n then 4 else 0)):=rfl;obtain⟨e0,he0⟩:∃e0:Int,(if x.failed then 3 else if x.pending n then 4 else 0)=e0:=⟨_,rfl⟩
 rw[he0] at HE⊢;clear he0 hS2 hB2 f3 r2'
 by_cases Kz:e0=0
 .subst Kz
  go_wp2_with fail;have hG3:pk w3:=hG.blk hB3 (by simp);obtain⟨bl,hrd⟩:=ZB.rd hG3 hok.wait
  refine ah.cQ (ah.dz (ej _ rfl (.inr rfl) rfl (jA (w1:=w3) (.pointer (some ⟨s,0,none⟩)) rfl rfl (λt d=>by kernel_rfl) (jA (w1:=w3) (.pointer (some ⟨s,0,none⟩)) rfl rfl (λt d=>by kernel_rfl) (adZ _ _ rfl rfl (by kernel_rfl) rfl (by kernel_rfl) ⟨s,0,none⟩ rfl (.pointer (some ⟨d,0,none⟩)) ZB.cell ?_)))))
  refine jb (f2:=55) #[.tmp 18] #[.pointer (some ⟨d,0,none⟩)] (R2:=TT x n w3) rfl rfl (by kernel_rfl) (λb w=>by kernel_rfl) (by kernel_rfl) (R6 hrd) λv w4 hR ag8=>?_
  obtain⟨ps,sv,cv,p1,p2,p3,rfl,hB4,ho1,ho2⟩:=hR;refine ej _ rfl (.inr rfl) rfl (jA (w1:=w4) sv rfl rfl (λt d=>by kernel_rfl) (jA (w1:=w4) cv rfl rfl (λt d=>by kernel_rfl) (ej _ rfl (.inl rfl) rfl (ej _ rfl (.inl rfl) rfl (ah.co ?_)))));have hP:sW x n ps:=⟨p1,p2,p3⟩
  have hss:=hok.steps ps hP;have hst:(eF x n ps).Pairwise λp q=>p.1<q.1:=yH _ _ (zx p1 p2)
  have Xt:w4.ownsRow w3.heap.size 168 2 sv (eF x n ps).length (cq (eF x n ps)):=ho1;have Fi:w4.ownsRow w3.heap.size 9 1 cv (lJ x n ps).length (eZ (lJ x n ps)):=ho2;have hS4:aQ w4 F s d n x:=ZB.blk hB4 (by simp) (by simp);have r4:Row w4 b2 fT.cells 58:=(hB4.block b2 r3.lt (by simp)).trans r3;have ac1:=hB3.trans hB4
  have hL3:wL.heap.size<=w3.heap.size:=hB3.size;have hFl:=ZB.disk.lt;have hfit:x.Fit 105:=hok.fit (by
   have:=HE.out;unfold yU at this;cases hf:x.failed with
   |false=>rfl
   |true=>rw[hf] at this;simp at this)
  generalize acr:eF x n ps=ss at*;generalize hcs':lJ x n ps=cs at*;clear ho1 ho2 p1 p2 p3 ZB hB3 r3 hG3 hrd hB4;obtain⟨ad,cap,hsv⟩:=bQ Xt;obtain⟨Oy,cap2,hcv⟩:=bQ Fi;subst hsv hcv
  refine o6 {tmps:=#[.pointer (some ⟨s,0,none⟩),undef,.pointer (some ⟨b2,0,none⟩),.int .i64 0,.int .i64 0,.slice ad ss.length cap,.slice Oy cs.length cap2,undef,.pointer (some ⟨s,0,none⟩),.int .i64 0,.int .i64 0,.bool false,undef,undef,.tuple #[.slice ad ss.length cap,.slice Oy cs.length cap2],.pointer (some ⟨s,0,none⟩),.pointer (some ⟨s,0,none⟩),.pointer (some ⟨s,0,none⟩),.pointer (some ⟨d,0,none⟩),.tuple #[.slice ad ss.length cap,.slice Oy cs.length cap2],.slice ad ss.length cap,.slice Oy cs.length cap2,undef,undef,undef,undef,undef,undef,undef,undef,undef,undef,undef],defers:=[]} (by kernel_rfl) ?_
  refine ah.cU none ⟨_,Tryz.func31⟩ (by kernel_rfl) (by simp) (λw=>aQ w F s d n x/\dl [] wL w/\Row w b2 fT.cells 58/\w.ownsRow w3.heap.size 168 2 (.slice ad ss.length cap) ss.length (cq ss)/\w.ownsRow w3.heap.size 9 1 (.slice Oy cs.length cap2) cs.length (eZ cs)) (λw t k h=>⟨h.1.ax t k,h.2.1.tape t k,h.2.2⟩) ⟨hS4,ac1,r4,Xt,Fi⟩ λw5 hI hsz5=>?_
  obtain⟨hS5,Rc,r5,Bx,ZA⟩:=hI;clear hS4 ac1 r4 Xt Fi ag8 hsz5;have apart:∀{v:Value} {e:TypeId} {m k:Nat} {l:List Value},w5.ownsRow w3.heap.size e m v k l->∀g,v.ownBlock=some g->g∉F:=λho g hg hF=>by
   have:=(ho.lt g hg).1;have:=hFl g hF;omega
  have HD:Hid (eF x n ps=ss/\lJ x n ps=cs):=⟨acr,hcs'⟩
  clear acr hcs';obtain⟨e5,he5⟩:=RP x n ss hfit;go_wp2_with fail;refine(RL F s d n x _ _ ss w5 hS5 hfit (by rw[hok.wait];decide) Bx hss.1 hss.2.1 hst (apart Bx) hss.2.2).mono ?_;rintro e w6 ⟨rfl,⟨F',hS6,g6⟩,f6⟩;have r6:=f6.row r5 hb2;have hc6:=f6.owns ZA λk hk h=>apart ZA k h hk
  have hcF:∀g,(Value.slice Oy cs.length cap2).ownBlock=some g->g∉F':=λg hg hF=>by
   rcases g6 g hF with q|q
   .exact apart ZA g hg q
   .have:=(ZA.lt g hg).2;omega
  have acW:b2∉F':=λhF=>by
   rcases g6 b2 hF with q|q
   .exact hb2 q
   .have:=r5.lt;omega
  have hgr:bL F F' wL:=(bL.refl F wL).trans g6 Rc.size;have hB6:dl F wL w6:=(Rc.mono).trans f6.blk (λi hi=> .inl hi);have hcb:∀g,(Value.slice Oy cs.length cap2).ownBlock=some g->g≠b2:=λg hg e=>by
   subst e;rcases ZA.2 with⟨e1,_⟩|⟨g',cap',cur,e1,_,hg',_⟩
   .rw[e1] at hg;simp[Value.ownBlock] at hg
   .rw[e1] at hg
    have:g'=g:=by simpa [Value.ownBlock] using hg
    subst this;unfold Row at r5;rw[r5] at hg';cases hg'
  have HO:Hid ((x.xV n ss).2= .int .i64 e5):=he5;rw[he5];have HX:Hid (aQ w6 F' s d n (x.xV n ss).1):=hS6;clear hss hst hS6 he5 hS5 Rc r5 Bx ZA f6 g6 apart
  by_cases h5:e5=0
  .subst h5
   go_wp2_with (with_reducible first|refine bC 58 rfl ?_|refine af 58 rfl ?_);refine al.go (cx rfl (.agg #[.int .i64 ss.length,.slice Oy cs.length cap2]) w6 (by kernel_rfl) ?_);go_wp2_with (with_reducible first|refine af 58 rfl ?_)
   refine al.go (ft rfl 58 _ _ rfl b2 rfl #[.int .i64 ss.length,.slice Oy cs.length cap2] rfl dU (by simp[Value.oneCell']) _ _ r6 rfl ?_);intro w7 f7 r7;have hc7:=f7.owns hc6 (λk hk h=>hcb k h (by simpa using hk));go_wp2_with fail
   refine⟨w7.tape,w7.drawn,.tuple #[.agg #[.int .i64 ss.length,.slice Oy cs.length cap2],.int .i64 0],?_,.inr ⟨HE.out,ps,F',hP,?_,hgr,?_,.inl ⟨_,?_,?_,?_,hcF⟩⟩⟩
   .exact m6 (tp:=2) (tq:=3) (ty:=58) rfl _ _ b2 _ _ rfl r7 (by kernel_rfl) dU
   .rw[HD.out.1]
    exact HX.out.vO f7 (by simpa using XB) (by simpa using acW)
   .exact hB6.trans f7.blk (by intro i hi;right;simp at hi;omega)
   .rw[HD.out.1];exact HO.out
   .rw[HD.out.1]
   .rw[HD.out.2];exact hc7.weak hL3
  .have h5':(e5==0)=false:=by simpa using h5
   go_wp2_with (with_reducible first|refine bC 58 rfl ?_|refine af 58 rfl ?_);refine al.go (cx rfl fT w6 (by kernel_rfl) ?_);go_wp2_with (with_reducible first|refine af 58 rfl ?_);refine al.go (ft rfl 58 _ _ rfl b2 rfl fT.cells rfl dU (by decide) _ _ r6 rfl ?_);intro w7 f7 r7;go_wp2_with fail
   refine⟨w7.tape,w7.drawn,.tuple #[fT,.int .i64 e5],?_,.inr ⟨HE.out,ps,F',hP,?_,hgr,?_,.inr ⟨e5,h5,?_,rfl⟩⟩⟩
   .exact m6 (tp:=2) (tq:=3) (ty:=58) rfl _ _ b2 _ _ rfl r7 (by kernel_rfl) dU
   .rw[HD.out.1]
    exact HX.out.vO f7 (by simpa using XB) (by simpa using acW)
   .exact hB6.trans f7.blk (by intro i hi;right;simp at hi;omega)
   .rw[HD.out.1];exact HO.out
 .have acL:(e0==0)=false:=by simpa using Kz
  go_wp2_with (with_reducible first|refine bC 58 rfl ?_|refine af 58 rfl ?_);refine al.go (cx rfl fT w3 (by kernel_rfl) ?_);go_wp2_with (with_reducible first|refine af 58 rfl ?_);refine al.go (ft rfl 58 _ _ rfl b2 rfl fT.cells rfl dU (by decide) _ _ r3 rfl ?_);intro w4 f4 r4;go_wp2_with fail
  refine⟨w4.tape,w4.drawn,.tuple #[fT,.int .i64 e0],?_,.inl ⟨by rw[HE.out];exact Kz,by rw[HE.out],ZB.vO f4 ?_ ?_,?_⟩⟩
  .exact m6 (tp:=2) (tq:=3) (ty:=58) rfl _ _ b2 _ _ rfl r4 (by kernel_rfl) dU
  .simpa using XB
  .simpa using hb2
  .exact hB3.trans (f4.blk.mono (T:=[b2]) (by simp)) (by simpa using ahx)
end
section
open Go.RowKit Go.Lib
abbrev bE:=Nat->List UInt8->Option (List UInt8)
def eS (H:bE)(s:Nat)(p:List UInt8)(r:Option (List UInt8)):bE:=λs' p'=>if s'=s/\p'=p then r else H s' p'
def Has (L:List UInt8)(n:Nat)(H:bE):Prop:=∃m,nC L n m/\∀s p,holds m s p (H s p)
def qr (H:bE):Prop:=∀s p,H s p≠none->(s<=2/\p∈P7)\/(s=3/\p=[])
def ee (H:bE):Prop:=∀s p,H s p≠none->s<=2/\p∈P7
theorem xD {m:dO}{s:Nat}{p:List UInt8}{r:Option (List UInt8)}(h:holds m s p r){i:Nat}{f:cV}(hf:m i=some f)(e:nameOf f=(s,p)):r≠none:=λhr=>by
 subst hr;exact h i f hf e
theorem qr.slots {L:List UInt8}{n:Nat}{H:bE}{m:dO}(h:qr H)(hm:∀s p,holds m s p (H s p))(i:Nat)(f:cV)(hf:m i=some f):(f.set<=2/\f.path∈P7)\/(f.set=3/\f.path=[]):=
 h f.set f.path (xD (hm f.set f.path) hf rfl)
theorem ee.slots {H:bE}{m:dO}(h:ee H)(hm:∀s p,holds m s p (H s p)):Seven m:=λi f hf=>h f.set f.path (xD (hm f.set f.path) hf rfl)
theorem ST {L:List UInt8}{n:Nat}{m:dO}(h:nC L n m)(h8:∀i f,m i=some f->(f.set<=2/\f.path∈P7)\/(f.set=3/\f.path=[])):(iZ n m).length<=22:=by
 have h3:=mP ((iZ n m).map nameOf) (((List.range 3).flatMap λs=>P7.map λp=>(s,p))++[(3,[])]) h.nodup λa ha=>by
  obtain⟨f,hf,e⟩:=List.mem_map.1 ha;obtain⟨i,hi⟩:=h.mem.1 hf;rw[<-e,List.mem_append];rcases h8 i f hi with⟨q1,q2⟩|⟨q1,q2⟩
  .left
   rw[List.mem_flatMap];exact⟨f.set,List.mem_range.2 (by omega),List.mem_map.2 ⟨f.path,q2,rfl⟩⟩
  .right
   simp[nameOf,q1,q2]
 rw[List.length_map] at h3;have:(((List.range 3).flatMap λs=>P7.map λp=>(s,p))++[(3,([]:List UInt8))]).length=22:=by rfl
 omega
theorem VS {L:List UInt8}{n:Nat}{m:dO}(h:nC L n m)(h8:∀i f,m i=some f->(f.set<=2/\f.path∈P7)\/(f.set=3/\f.path=[]))(hn:22<aK n):∃i,i<aK n/\m i=none:=by
 by_cases hx:∃i,i<aK n/\m i=none
 .exact hx
 .exfalso
  have h1:(iZ n m).length=aK n:=by
   have h2:∀l:List Nat,(∀i∈l,i<aK n)->(l.filterMap m).length=l.length:=by
    intro l
    induction l with
    |nil=>intro _;rfl
    |cons a l ih=>
     intro hl;have ha:=hl a List.mem_cons_self;cases hm:m a with
     |none=>exact absurd ⟨a,ha,hm⟩ hx
     |some f=>rw[List.filterMap_cons_some hm,List.length_cons,List.length_cons,ih λi hi=>hl i (List.mem_cons_of_mem _ hi)]
   unfold iZ;rw[h2 _ λi hi=>List.mem_range.1 hi,List.length_range]
  have:=ST h h8;omega
section
variable {L:List UInt8}{n:Nat}{H:bE}{x:DS}
theorem Has.content (h:Has x.aR n H)(hw:x.waiting=[])(s:Nat)(p:List UInt8):x.content n s (aB p)=H s p:=by
 obtain⟨m,hr,hm⟩:=h;exact uo hr hw (hm s p)
theorem sn (h:Has L n H)(h8:qr H)(hn:22<aK n)(s:Nat)(p c:List UInt8)(hs:iY s p=true)(hc:c.length<=96):
  ∃L',Has L' n (eS H s p (some c))/\∀a,(DS.calm L a).put n s (aB p) (aB c)=(DS.calm L' (a+5),.int .i64 0):=by
 obtain⟨m,hr,hm⟩:=h;have hln:=pD n;obtain⟨i,hi,hfi,hmi⟩:=LG (x:=DS.fresh L) hr rfl (VS hr (h8.slots (L:=L) (n:=n) hm) hn);have hn2:=Ja n i hi;obtain⟨o,ho,ho0,ho1,hom,hox⟩:=owner hr s p;have hoi:o≠i:=by
  intro e;obtain⟨g,hg,_⟩:=hox (by omega);rw[e] at hg;simp only[Int.toNat_natCast] at hg;rw[hmi] at hg;cases hg
 let f:cV:=⟨s,p,c⟩
 have hfg:iY f.set f.path=true/\f.content.length<=96:=⟨hs,hc⟩
 have hpl:f.path.length<=8:=(xn hfg.1).1;generalize hrr:cK f.set f.path f.content=r;have hrl:r.length=128:=by rw[<-hrr];exact QI _ _ _ hpl hc
 have h0:=Dn r hrl 0 (by omega);have h1:=Dn r hrl 1 (by omega);generalize hA:bB L ((1+2*i:Nat),half r 0)=A;have rA:nC A n m:=by rw[<-hA];exact hr.loose (by omega) (by omega) h0 (xL hmi (.inl rfl))
 generalize hB:bB A ((2+2*i:Nat),half r 1)=B;have rB:nC B n m:=by rw[<-hB];exact rA.loose (by omega) (by omega) h1 (xL hmi (.inr rfl))
 have Te:EN L i r=B:=by unfold EN;rw[hA,hB]
 have hroot:seenIn (EN L i r) [] 0=ei n m:=by rw[Te,<-rB.root];rfl
 have hnew:aX (ei n m) i o=ei n (after m i f o):=AW m i (by omega) f o ⟨ho0,ho1⟩;have sA:∀j,kj A j=if j=1+2*i then half r 0 else kj L j:=λj=>by rw[<-hA];exact jL L n hr.len _ (by omega) _ h0 j
 have sB:∀j,kj B j=if j=2+2*i then half r 1 else kj A j:=λj=>by rw[<-hB];exact jL A n rA.len _ (by omega) _ h1 j
 have acu:kj B (1+2*i)++kj B (2+2*i)=cK f.set f.path f.content:=by
  rw[sB,sB,if_neg (by omega),if_pos rfl,sA,if_pos rfl,halves r hrl,hrr]
 have rC:=rB.put hi acu hfg λj g hg e=>hom j g hg e
 refine⟨_,⟨_,rC,λs' p'=>?_⟩,λa=>?_⟩
 .unfold eS
  by_cases e:s'=s/\p'=p
  .rw[if_pos e]
   obtain⟨rfl,rfl⟩:=e;refine⟨i,?_⟩;unfold after;rw[qQ (by omega)];unfold upd;rw[if_pos rfl]
  .rw[if_neg e]
   have hh:=hm s' p';cases hv:H s' p' with
   |none=>
    rw[hv] at hh;intro j g hg e2;rcases iv hg with⟨rfl,rfl⟩|⟨_,q,_⟩
    .unfold nameOf at e2
     simp only[Prod.mk.injEq] at e2;exact e ⟨e2.1.symm,e2.2.symm⟩
    .exact hh j g q e2
   |some v=>
    rw[hv] at hh;obtain⟨j,hj⟩:=hh;have hji:j≠i:=λe2=>by subst e2;rw[hmi] at hj;cases hj
    refine⟨j,?_⟩;unfold after;rw[qQ ?_]
    .unfold upd
     rw[if_neg hji];exact hj
    .by_cases hoj:o=-1
     .exact .inl hoj
     .right
      refine⟨by omega,λe2=>?_⟩;obtain⟨g,hg,hgn⟩:=hox hoj;rw[e2] at hg;simp only[Int.toNat_natCast] at hg;rw[hj] at hg;cases hg;unfold nameOf at hgn;simp only[Prod.mk.injEq] at hgn;exact e ⟨hgn.1,hgn.2⟩
 .have henc:cK s (aB p).data.toList (aB c).data.toList=r:=hrr
  have hfx:dV (DS.calm L a) n=i:=by
   rw[Dq _ n rfl,<-hfi,Dq (DS.fresh L) n rfl];rfl
  have:=LN L a 0 0 n s (aB p) (aB c) i o (ei n m) r henc hfx (ho (DS.calm L a) rfl rfl) hroot;rw[Te,hnew] at this;exact this
theorem qJ (h:Has L n H)(s:Nat)(p:List UInt8)(hs:H s p≠none):
  ∃L',Has L' n (eS H s p none)/\∀a,(DS.calm L a).remove n s (aB p)=(DS.calm L' (a+2),.int .i64 0):=by
 obtain⟨m,hr,hm⟩:=h;obtain⟨o,ho,ho0,ho1,hom,hox⟩:=owner hr s p;have hne:o≠-1:=by
  have hh:=hm s p;cases hv:H s p with
  |none=>exact absurd hv hs
  |some v=>
   rw[hv] at hh;obtain⟨j,hj⟩:=hh;have:=hom j _ hj rfl;omega
 have rC:=hr.dropped o;refine⟨_,⟨_,rC,λs' p'=>?_⟩,λa=>?_⟩
 .unfold eS
  by_cases e:s'=s/\p'=p
  .rw[if_pos e]
   obtain⟨rfl,rfl⟩:=e;intro j g hg e2;obtain⟨q1,q2⟩:=fO hg;have:=hom j g q1 e2;have:=q2 (by omega);omega
  .rw[if_neg e]
   have hh:=hm s' p';cases hv:H s' p' with
   |none=>
    rw[hv] at hh;intro j g hg e2;exact hh j g (fO hg).1 e2
   |some v=>
    rw[hv] at hh;obtain⟨j,hj⟩:=hh;refine⟨j,?_⟩;rw[qQ ?_]
    .exact hj
    .right
     refine⟨by omega,λe2=>?_⟩;obtain⟨g,hg,hgn⟩:=hox hne;rw[e2] at hg;simp only[Int.toNat_natCast] at hg;rw[hj] at hg;cases hg;unfold nameOf at hgn;simp only[Prod.mk.injEq] at hgn;exact e ⟨hgn.1,hgn.2⟩
 .have hroot:seenIn L [] 0=ei n m:=by rw[<-hr.root];rfl
  have:=CJ L a 0 0 n s (aB p) o (ei n m) (ho (DS.calm L a) rfl rfl) hne hroot;rw[yW m o ⟨ho0,ho1⟩] at this;exact this
theorem IM (H:bE)(s:Nat)(p:List UInt8):eS H s p (H s p)=H:=by
 funext s' p'
 unfold eS;split
 .rename_i e;rw[e.1,e.2]
 .rfl
theorem qr.set {H:bE}(h:qr H){s:Nat}{p:List UInt8}(hs:(s<=2/\p∈P7)\/(s=3/\p=[]))(r:Option (List UInt8)):qr (eS H s p r):=λs' p' hn=>by
 unfold eS at hn;split at hn
 .rename_i e;rw[e.1,e.2];exact hs
 .exact h s' p' hn
theorem ee.eight {H:bE}(h:ee H):qr H:=λs p hn=> .inl (h s p hn)
end
theorem Br {s:Nat}{p:List UInt8}(hs:s<=2)(hp:p∈P7):iY s p=true:=by
 obtain⟨k,hk,rfl⟩:=AV.1 hp;exact EU k hk s hs
theorem Sr {p:List UInt8}(hp:p∈P7):cC p=true:=by
 have h:=Br (s:=0) (by omega) hp;unfold iY at h;simpa using h
def lh (H:bE):List dh->bE
 |[]=>H
 |w::r=>lh (eS H w.set w.path w.becomes) r
def okW (H:bE):List dh->Prop
 |[]=>True
 |w::r=>(w.set<=2/\w.path∈P7/\(∀c,w.becomes=some c->c.length<=96)/\(w.becomes=none->H w.set w.path≠none))/\okW (eS H w.set w.path w.becomes) r
theorem yq (H:bE)(a b:List dh):lh H (a++b)=lh (lh H a) b:=by
 induction a generalizing H with
 |nil=>rfl
 |cons w r ih=>exact ih _
theorem GH (H:bE)(a b:List dh):okW H (a++b)↔okW H a/\okW (lh H a) b:=by
 induction a generalizing H with
 |nil=>simp[okW,lh]
 |cons w r ih=>
  constructor
  .rintro⟨x,y⟩
   exact⟨⟨x,((ih _).1 y).1⟩,((ih _).1 y).2⟩
  .rintro⟨⟨x,y⟩,z⟩
   exact⟨x,(ih _).2 ⟨y,z⟩⟩
theorem KP (x:DS):rg (x,Value.int .i64 0).2=0:=rfl
section
variable {n:Nat}
theorem G4:∀(ws:List dh) {L:List UInt8} {H:bE},Has L n H->qr H->22<aK n->okW H ws->
  ∃L' k,Has L' n (lh H ws)/\qr (lh H ws)/\0<=k/\k<=5*(ws.length:Int)/\∀a,(DS.calm L a).gq n ws=(DS.calm L' (a+k),.int .i64 0)
 |[],L,H,h,h8,_,_=>⟨L,0,h,h8,by omega,by simp,λa=>by simp[DS.gq]⟩
 |w::r,L,H,h,h8,hn,ho=>by
  obtain⟨⟨hs,hp,hc,hx⟩,ho⟩:=ho;have h8':=h8.set (.inl ⟨hs,hp⟩) w.becomes;obtain⟨L1,k1,hL1,hk0,hk1,hw1⟩:∃L1 k1,Has L1 n (eS H w.set w.path w.becomes)/\(0:Int)<=k1/\k1<=5/\∀a,(DS.calm L a).tP n w=(DS.calm L1 (a+k1),.int .i64 0):=by
   unfold DS.tP;cases hb:w.becomes with
   |none=>
    obtain⟨L1,q1,q2⟩:=qJ h w.set w.path (hx hb);exact⟨L1,2,q1,by omega,by omega,q2⟩
   |some c=>
    obtain⟨L1,q1,q2⟩:=sn h h8 hn w.set w.path c (Br hs hp) (hc c hb);exact⟨L1,5,q1,by omega,by omega,q2⟩
  obtain⟨L2,k2,hL2,h82,hk2,hk3,hw2⟩:=G4 r hL1 h8' hn ho;refine⟨L2,k1+k2,hL2,h82,by omega,by rw[List.length_cons];omega,λa=>?_⟩;show(if rg ((DS.calm L a).tP n w).2=0 then((DS.calm L a).tP n w).1.gq n r else(DS.calm L a).tP n w)=_;rw[hw1 a,if_pos (KP _),hw2,show a+k1+k2=a+(k1+k2) by omega]
def gO (H:bE)(p:List UInt8×Nat):bE:=λs q=>if q=p.1/\s<=2 then H p.2 p.1 else H s q
theorem BS {x:DS}{K:bE}(p:List UInt8×Nat)(hp:p.1∈P7)(h2:p.2<=1)(hK:∀s:Nat,s<=2->x.content n s (aB p.1)=K s p.1):okW K (fA x n p)/\lh K (fA x n p)=gO K p:=by
 have c1:=hK (1-p.2) (by omega);have c2:=hK 2 (by omega);have cs:=hK p.2 (by omega);have hl:∀c,K p.2 p.1=some c->c.length<=96:=λc hc=>sK (cs.trans hc)
 have one:∀(s:Nat) (M:bE),s<=2->s≠p.2->M s p.1=x.content n s (aB p.1)->M p.2 p.1=K p.2 p.1->okW M (dm x n p s)/\lh M (dm x n p s)=eS M s p.1 (K p.2 p.1):=by
  intro s M hs hne hM hMs;have hcs:=hK s hs;unfold dm;rw[cs];split
  .rename_i e
   refine⟨trivial,?_⟩;rw[<-e,<-hM,IM];rfl
  .rename_i e
   refine⟨⟨⟨hs,hp,hl,λhn=>?_⟩,trivial⟩,rfl⟩;rw[hM];intro q;exact e (q.trans hn.symm)
 obtain⟨o1,a1⟩:=one (1-p.2) K (by omega) (by omega) c1.symm rfl;obtain⟨o2,a2⟩:=one 2 (eS K (1-p.2) p.1 (K p.2 p.1)) (by omega) (by omega) (by
  unfold eS;rw[if_neg (by omega),c2]) (by
  unfold eS;rw[if_neg (by omega)])
 unfold fA;refine⟨(GH _ _ _).2 ⟨o1,by rw[a1];exact o2⟩,?_⟩;rw[yq,a1,a2]
 funext s q
 unfold gO eS
 by_cases hq:q=p.1
 .subst hq
  by_cases h0:s=2
  .subst h0;simp
  .by_cases h1:s=1-p.2
   .subst h1;simp[h0]
   .by_cases hs:s=p.2
    .subst hs;simp[h0,h1]
    .simp[h0,h1];intro;omega
 .simp[hq]
theorem qM (ss:List (List UInt8×Nat))(K:bE)(s:Nat)(q:List UInt8)(h:∀p∈ss,p.1≠q):ss.foldl gO K s q=K s q:=by
 induction ss generalizing K with
 |nil=>rfl
 |cons p r ih=>
  rw[List.foldl_cons,ih _ λp' hp'=>h p' (by simp[hp'])];unfold gO;rw[if_neg];exactλe=>h p (by simp) e.1.symm
theorem kZ (ss:List (List UInt8×Nat))(K:bE)(s:Nat)(q:List UInt8)(h:2<s:=by omega):ss.foldl gO K s q=K s q:=by
 induction ss generalizing K with
 |nil=>rfl
 |cons p r ih=>
  rw[List.foldl_cons,ih];unfold gO;rw[if_neg (by omega)]
theorem Dr (ss:List (List UInt8×Nat))(K K':bE)(h:∀s q,s<=2->K s q=K' s q)(h1:∀p∈ss,p.2<=1)(s:Nat)(q:List UInt8)(hs:s<=2):ss.foldl gO K s q=ss.foldl gO K' s q:=by
 induction ss generalizing K K' with
 |nil=>exact h s q hs
 |cons p r ih=>
  rw[List.foldl_cons,List.foldl_cons];refine ih _ _ (λs q hs=>?_) λp' hp'=>h1 p' (by simp[hp'])
  have:=h1 p (by simp);unfold gO;rw[h p.2 p.1 (by omega),h s q hs]
theorem Na (ss:List (List UInt8×Nat))(K:bE)(hs:ss.Pairwise λp q=>p.1≠q.1)(h1:∀p∈ss,p.2<=1){p:List UInt8×Nat}(hp:p∈ss)(s:Nat)(h2:s<=2):ss.foldl gO K s p.1=K p.2 p.1:=by
 induction ss generalizing K with
 |nil=>simp at hp
 |cons a r ih=>
  rw[List.pairwise_cons] at hs;rw[List.foldl_cons];rcases List.mem_cons.1 hp with rfl|hp'
  .rw[qM r _ _ _ λq hq e=>hs.1 q hq e.symm]
   unfold gO;rw[if_pos ⟨rfl,h2⟩]
  .rw[ih _ hs.2 (λq hq=>h1 q (by simp[hq])) hp']
   unfold gO;rw[if_neg];exactλe=>hs.1 p hp' e.1.symm
theorem FZ {x:DS}(ss:List (List UInt8×Nat))(K:bE)(hs:ss.Pairwise λp q=>p.1≠q.1)(h1:∀p∈ss,p.1∈P7/\p.2<=1)(hK:∀p∈ss,∀s:Nat,s<=2->x.content n s (aB p.1)=K s p.1):
  okW K (bq x n ss)/\lh K (bq x n ss)=ss.foldl gO K:=by
 induction ss generalizing K with
 |nil=>exact⟨trivial,rfl⟩
 |cons p r ih=>
  rw[List.pairwise_cons] at hs;obtain⟨o1,a1⟩:=BS (n:=n) (x:=x) (K:=K) p (h1 p (by simp)).1 (h1 p (by simp)).2 (hK p (by simp));have e:bq x n (p::r)=fA x n p++bq x n r:=rfl;obtain⟨o2,a2⟩:=ih (gO K p) hs.2 (λq hq=>h1 q (by simp[hq])) λq hq s hs'=>by
   rw[hK q (by simp[hq]) s hs'];unfold gO;rw[if_neg];exactλe=>hs.1 q hq e.1.symm
  rw[e,GH,yq,a1,a2];exact⟨⟨o1,o2⟩,rfl⟩
theorem np:∀(ws:List dh) (f:Int),(ws.length:Int)<f->k7 ws f=true
 |[],_,_=>rfl
 |w::r,f,h=>by
  rw[List.length_cons] at h;unfold k7;split
  .exact np r _ (by omega)
  .rw[if_neg (by omega)]
   split
   .exact np r _ (by omega)
   .exact np r _ (by omega)
structure jI (ss:List (List UInt8×Nat)):Prop where
 strict:ss.Pairwise λp q=>p.1<q.1
 names:∀p∈ss,p.1∈P7/\p.2<=1
theorem jI.ne {ss:List (List UInt8×Nat)}(h:jI ss):ss.Pairwise λp q=>p.1≠q.1:=h.strict.imp fun {a b} hab e=>by rw[e] at hab;exact absurd hab (List.lt_irrefl _)
theorem jI.ok {ss:List (List UInt8×Nat)}(h:jI ss):pC ss:=λp hp=>⟨Sr (h.names p hp).1,(h.names p hp).2⟩
theorem jI.len {ss:List (List UInt8×Nat)}(h:jI ss):ss.length<=7:=by
 have:=mP (ss.map (·.1)) P7 (List.Pairwise.map _ (λ_ _ h=>h) h.ne) λa ha=>by
  obtain⟨p,hp,rfl⟩:=List.mem_map.1 ha;exact(h.names p hp).1
 rw[List.length_map] at this;exact Nat.le_trans this (Nat.le_of_eq (by rfl))
variable {L:List UInt8}{H:bE}
theorem yn (h:Has L n H)(h7:ee H)(hn:37<aK n){ss:List (List UInt8×Nat)}(hs:jI ss):
  ∃L',Has L' n (eS H 3 [] (some (de ss)))/\∀a,(DS.calm L a).begin n ss=(DS.calm L' (a+5),.int .i64 0):=by
 have hl:=hs.len;have hej:(de ss).length<=63:=by have:=sI ss λp hpm=>rS (hs.ok p hpm).1;omega
 obtain⟨L',q1,q2⟩:=sn h h7.eight (by omega) 3 [] (de ss) (by rfl) (by omega);refine⟨L',q1,λa=>?_⟩;have hfit:qn (DS.calm L a) n ss ((aK n:Int)-(taken (DS.calm L a) n).length-1)=true:=by
  have ht:(taken (DS.calm L a) n).length<=22:=by
   obtain⟨m,hr,hm⟩:=h;have h1:=pA (x:=DS.calm L a) hr rfl;have h2:=ST hr (h7.eight.slots (L:=L) (n:=n) hm);rw[<-h1] at h2;unfold aP at h2
   rwa [List.length_map] at h2
  have hw:=iK (DS.calm L a) n ss;unfold qn;rw[decide_eq_true (by omega),Bool.true_and];exact np _ _ (by omega)
 unfold DS.begin;rw[hfit,if_neg (by simp)];exact q2 a
theorem RM (h:Has L n H)(h7:ee H)(hn:37<aK n){ss:List (List UInt8×Nat)}(hs:jI ss)(hne:ss≠[]):
  ∃L' k,Has L' n (ss.foldl gO H)/\ee (ss.foldl gO H)/\(0:Int)<=k/\k<=80/\(∀a,(DS.calm L a).xV n ss=(DS.calm L' (a+k),.int .i64 0))/\
   ∀a,((DS.calm L a).begin n ss).1.content n 3 ⟨#[]⟩=some (de ss):=by
 have hl:=hs.len;obtain⟨L1,q1,q2⟩:=yn h h7 hn hs;have h8:qr (eS H 3 [] (some (de ss))):=h7.eight.set (.inr ⟨rfl,rfl⟩) _;have hset:∀s p,s<=2->eS H 3 [] (some (de ss)) s p=H s p:=λs p hs=>by unfold eS;rw[if_neg (by omega)]
 obtain⟨o1,a1⟩:=FZ (n:=n) (x:=DS.calm L1 0) ss (eS H 3 [] (some (de ss))) hs.ne hs.names λp hp s hs'=>Has.content (x:=DS.calm L1 0) q1 rfl s p.1
 have hcalm:∀a,bq (DS.calm L1 a) n ss=bq (DS.calm L1 0) n ss:=λa=>by
  have hc:∀(s:Nat) p,(DS.calm L1 a).content n s (aB p)=(DS.calm L1 0).content n s (aB p):=λs p=>(Has.content (x:=DS.calm L1 a) q1 rfl s p).trans (Has.content (x:=DS.calm L1 0) q1 rfl s p).symm
  have hw:fA (DS.calm L1 a) n=fA (DS.calm L1 0) n:=by
   funext p
   unfold fA dm;simp only[hc]
  unfold bq;rw[hw]
 obtain⟨L2,k2,r1,r2,r3,r4,r5⟩:=G4 _ q1 h8 (by omega) o1;rw[a1] at r1 r2;have hj:ss.foldl gO (eS H 3 [] (some (de ss))) 3 []=some (de ss):=by
  rw[kZ _ _ _ _];unfold eS;rw[if_pos ⟨rfl,rfl⟩]
 obtain⟨L3,t1,t2⟩:=qJ r1 3 [] (by rw[hj];simp);have hfin:eS (ss.foldl gO (eS H 3 [] (some (de ss)))) 3 [] none=ss.foldl gO H:=by
  funext s p
  unfold eS
  by_cases e:s=3/\p=[]
  .rw[if_pos e,kZ _ _ _ _]
   cases hv:H s p with
   |none=>rfl
   |some v=>have:=(h7 s p (by rw[hv];simp)).1;omega
  .rw[if_neg e]
   by_cases h2:s<=2
   .exact Dr ss _ _ (λs q hs=>by rw[if_neg (by omega)]) (λp hp=>(hs.names p hp).2) s p h2
   .rw[kZ _ _ _ _,kZ _ _ _ _,if_neg e]
 rw[hfin] at t1;have hlw:=iK (DS.calm L1 0) n ss;refine⟨L3,5+k2+2,t1,?_,by omega,by omega,λa=>?_,λa=>?_⟩
 .intro s p hsp
  rw[<-hfin] at hsp;unfold eS at hsp;split at hsp
  .exact absurd rfl hsp
  .rename_i e
   rcases r2 s p hsp with q|q
   .exact q
   .exact absurd q e
 .unfold DS.xV
  rw[if_neg hne,q2 a,if_pos (KP _)];show DS.sF (DS.calm L1 (a+5)) n ss=_;unfold DS.sF;rw[hcalm,r5,if_pos (KP _)];show DS.remove (DS.calm L2 (a+5+k2)) n 3 ⟨#[]⟩=_;have:=t2 (a+5+k2);rw[show a+5+k2+2=a+(5+k2+2) by omega] at this;exact this
 .rw[q2 a]
  have:=Has.content (x:=DS.calm L1 (a+5)) q1 rfl 3 [];rw[show eS H 3 [] (some (de ss)) 3 []=some (de ss) by unfold eS;rw[if_pos ⟨rfl,rfl⟩]] at this;exact this
end
theorem tX {a b:List UInt8}(h:aB a=aB b):a=b:=by simpa [aB] using h
def Ha (set:Int):(ByteArray->Option ByteArray)->cV->ByteArray->Option ByteArray:=λg f=>if(f.set:Int)=set then λs=>if s=aB f.path then some (aB f.content) else g s else g
theorem qL (set:Int)(p:List UInt8):∀(fs:List cV) (g:ByteArray->Option ByteArray),(∀f∈fs,(f.set:Int)=set->f.path≠p)->fs.foldl (Ha set) g (aB p)=g (aB p)
 |[],_,_=>rfl
 |f::r,g,h=>by
  rw[List.foldl_cons,qL set p r _ λf' hf'=>h f' (by simp[hf'])];unfold Ha;split
  .rename_i e
   exact if_neg λq=>h f (by simp) e (tX q).symm
  .rfl
theorem Dp (set:Nat):∀(fs:List cV) (g:ByteArray->Option ByteArray),(fs.map nameOf).Nodup->∀f∈fs,f.set=set->fs.foldl (Ha set) g (aB f.path)=some (aB f.content)
 |[],_,_,f,hf,_=>by simp at hf
 |a::r,g,hn,f,hf,hs=>by
  rw[List.map_cons,List.nodup_cons] at hn;rw[List.foldl_cons];rcases List.mem_cons.1 hf with rfl|hf
  .rw[qL set f.path r _ λf' hf' e1 e2=>hn.1 (List.mem_map.2 ⟨f',hf',by unfold nameOf;rw[e2,hs,show f'.set=set by omega]⟩)]
   unfold Ha;rw[if_pos (by omega),if_pos rfl]
  .exact Dp set r _ hn.2 f hf hs
section
variable {L:List UInt8}{n:Nat}{H:bE}{x:DS}
theorem Hc (h:Has x.aR n H)(hw:x.waiting=[])(s:Nat)(l:List UInt8):qm s (aP x n) (aB l)=(H s l).map aB:=by
 obtain⟨m,hr,hm⟩:=h;rw[pA hr hw];have hh:=hm s l;cases hv:H s l with
 |none=>
  rw[hv] at hh;refine qL _ l _ _ λf hf e1 e2=>?_
  obtain⟨i,hi⟩:=hr.mem.1 hf;exact hh i f hi (by unfold nameOf;rw[e2,show f.set=s by omega])
 |some c=>
  rw[hv] at hh;obtain⟨i,hi⟩:=hh;exact Dp s _ _ hr.nodup ⟨s,l,c⟩ (hr.mem.2 ⟨i,hi⟩) rfl
def Fv (H:bE)(s:Nat)(l:List UInt8):Option (Bool×ByteArray):=if H s l=H 2 l then none else some (match H s l with|some c=>(true,aB c)|none=>(false,⟨#[]⟩))
theorem C3 {a b:Option (List UInt8)}:a.map aB=b.map aB↔a=b:=by
 constructor
 .intro h
  cases a<;>cases b<;>simp at h
  .rfl
  .rw[tX h]
 .rintro rfl;rfl
theorem vP (h:Has x.aR n H)(hw:x.waiting=[])(s:Nat)(l:List UInt8):gC x n s (aB l)=Fv H s l:=by
 unfold gC aF.jR Fv;have h2:=Hc h hw 2 l;rw[show((2:Nat):Int)=2 from rfl] at h2;rw[Hc h hw s l,h2]
 by_cases e:H s l=H 2 l
 .rw[if_pos e,if_pos (C3.2 e)]
 .rw[if_neg e,if_neg λq=>e (C3.1 q)]
  cases H s l<;>rfl
def jK (H:bE)(l:List UInt8):Option Nat:=if H 0 l=H 2 l then some 1 else if H 1 l=H 2 l then some 0 else if H 0 l=H 1 l then some 0 else none
theorem Pq (H:bE)(l:List UInt8):kJ (Fv H 0 l) (Fv H 1 l)=jK H l:=by
 unfold Fv jK
 by_cases e0:H 0 l=H 2 l
 .rw[if_pos e0,if_pos e0]
  cases (if H 1 l=H 2 l then none else some (match H 1 l with|some c=>(true,aB c)|none=>(false,⟨#[]⟩):Bool×ByteArray))<;>rfl
 .rw[if_neg e0,if_neg e0]
  by_cases e1:H 1 l=H 2 l
  .rw[if_pos e1,if_pos e1];rfl
  .rw[if_neg e1,if_neg e1]
   by_cases e:H 0 l=H 1 l
   .rw[if_pos e,<-e]
    exact if_pos rfl
   .rw[if_neg e]
    refine if_neg λq=>e ?_
    cases h0:H 0 l<;>cases h1:H 1 l<;>rw[h0,h1] at q<;>simp at q;rw[tX q]
theorem Ps {l:List UInt8}{q:Nat}(h:jK H l=some q):q<=1:=by
 unfold jK at h;split at h
 .cases h;omega
 .split at h
  .cases h;omega
  .split at h
   .cases h;omega
   .cases h
theorem Iw {l:List UInt8}(h0:H 0 l=H 2 l)(_:H 1 l=H 2 l):jK H l=some 1:=by unfold jK;rw[if_pos h0]
def cz (H:bE):bE:=λs p=>if s<=2 then(match jK H p with|some q=>H q p|none=>H s p) else H s p
def ep (H:bE)(ps:List (List UInt8)):List (List UInt8×Nat):=ps.filterMap λl=>(jK H l).map λs=>(l,s)
def jy (H:bE)(ps:List (List UInt8)):List (List UInt8):=ps.filter λl=>(jK H l).isNone
def iw (H:bE)(ps:List (List UInt8)):Prop:=ps.Pairwise (·<·)/\∀l,l∈ps↔(H 0 l≠H 2 l\/H 1 l≠H 2 l)
theorem tB (h:Has x.aR n H)(hw:x.waiting=[]){ps:List (List UInt8)}(hP:sW x n ps):iw H ps:=by
 obtain⟨h1,h2,h3⟩:=hP;refine⟨zx h1 h2,λl=>?_⟩;rw[h3,NV];have f0:=vP h hw 0 l;have f1:=vP h hw 1 l;rw[show((0:Nat):Int)=0 from rfl] at f0;rw[show((1:Nat):Int)=1 from rfl] at f1;rw[f0,f1];have one:∀s,Fv H s l≠none↔H s l≠H 2 l:=λs=>by
  unfold Fv
  by_cases e:H s l=H 2 l
  .rw[if_pos e];simp[e]
  .rw[if_neg e];simp[e]
 rw[one,one]
theorem tf (h:Has x.aR n H)(hw:x.waiting=[])(ps:List (List UInt8)):eF x n ps=ep H ps/\lJ x n ps=jy H ps:=by
 have f0:=λl=>vP h hw 0 l
 have f1:=λl=>vP h hw 1 l
 simp only[show((0:Nat):Int)=0 from rfl] at f0;simp only[show((1:Nat):Int)=1 from rfl] at f1;unfold eF lJ ik jz ep jy;simp only[f0,f1,Pq];exact⟨trivial,trivial⟩
theorem wn (h7:ee H){ps:List (List UInt8)}(hP:iw H ps):jI (ep H ps):=by
 refine⟨?_,λp hp=>?_⟩
 .unfold ep
  refine List.Pairwise.filterMap _ (λa b hab p hp q hq=>?_) hP.1;obtain⟨_,_,rfl⟩:=Option.map_eq_some_iff.1 hp;obtain⟨_,_,rfl⟩:=Option.map_eq_some_iff.1 hq;exact hab
 .unfold ep at hp
  obtain⟨l,hl,e⟩:=List.mem_filterMap.1 hp;obtain⟨q,hq,rfl⟩:=Option.map_eq_some_iff.1 e;refine⟨?_,Ps hq⟩;show l∈P7;have h1:=(hP.2 l).1 hl
  by_cases e2:H 2 l=none
  .rcases h1 with h1|h1
   .exact(h7 0 l λq=>h1 (q.trans e2.symm)).2
   .exact(h7 1 l λq=>h1 (q.trans e2.symm)).2
  .exact(h7 2 l e2).2
theorem v6 (h7:ee H){ps:List (List UInt8)}(hP:iw H ps):(ep H ps).foldl gO H=cz H:=by
 have hok:=wn h7 hP
 funext s p
 unfold cz
 by_cases h2:s<=2
 .rw[if_pos h2]
  by_cases hp:p∈ps
  .cases hs:jK H p with
   |some q=>
    have hm:(p,q)∈ep H ps:=List.mem_filterMap.2 ⟨p,hp,by rw[hs];rfl⟩;exact Na _ H hok.ne (λa ha=>(hok.names a ha).2) hm s h2
   |none=>
    refine qM _ H s p λa ha e=>?_
    obtain⟨l,hl,e1⟩:=List.mem_filterMap.1 ha;obtain⟨q,hq,rfl⟩:=Option.map_eq_some_iff.1 e1;have e:l=p:=e;rw[e,hs] at hq;cases hq
  .have hnp:=λq=>hp ((hP.2 p).2 q)
   have e0:H 0 p=H 2 p:=Classical.byContradiction λq=>hnp (.inl q)
   have e1:H 1 p=H 2 p:=Classical.byContradiction λq=>hnp (.inr q)
   rw[Iw e0 e1];rw[qM _ H s p λa ha e=>?_]
   .show H s p=H 1 p
    rcases(by omega:s=0\/s=1\/s=2) with rfl|rfl|rfl
    .rw[e0,e1]
    .rfl
    .rw[e1]
   .obtain⟨l,hl,e1⟩:=List.mem_filterMap.1 ha
    obtain⟨q,hq,rfl⟩:=Option.map_eq_some_iff.1 e1;exact hp (e▸hl)
 .rw[if_neg h2]
  exact kZ _ _ _ _
theorem zk (h:Has L n H)(h7:ee H)(hn:37<aK n){ss:List (List UInt8×Nat)}(hs:jI ss)(a:Int):((DS.calm L a).begin n ss).1.content n 3 ⟨#[]⟩=some (de ss):=by
 obtain⟨L1,q1,q2⟩:=yn h h7 hn hs;rw[q2 a];have:=Has.content (x:=DS.calm L1 (a+5)) q1 rfl 3 [];rw[show eS H 3 [] (some (de ss)) 3 []=some (de ss) by unfold eS;rw[if_pos ⟨rfl,rfl⟩]] at this;exact this
theorem Pg (h:Has L n H)(h7:ee H)(hn:37<aK n)(a:Int)(h0:0<=a)(h1:a<=900000000):Bp (DS.calm L a) n:=by
 refine⟨rfl,λ_=>oR L a 105 h0,λps hP=>?_⟩;have Tn:=tB (x:=DS.calm L a) h rfl hP;rw[(tf (x:=DS.calm L a) h rfl ps).1];have hok:=wn h7 Tn;exact⟨hok.len,hok.ok,λ_=>zk h h7 hn hok a⟩
theorem C0 (h:Has L n H)(h7:ee H)(a:Int):yU (DS.calm L a) n=0:=by
 obtain⟨m,hr,hm⟩:=h;have:=oD (x:=DS.calm L a) hr rfl (h7.slots hm);unfold yU;rw[this];rfl
theorem zw (h:Has L n H)(h7:ee H)(hn:37<aK n){ps:List (List UInt8)}(hP:iw H ps):
  ∃L' k,Has L' n (cz H)/\ee (cz H)/\(0:Int)<=k/\k<=80/\(∀a,(DS.calm L a).xV n (ep H ps)=(DS.calm L' (a+k),.int .i64 0))/\(ep H ps=[]->L'=L/\k=0):=by
 by_cases he:ep H ps=[]
 .have hf:=v6 h7 hP
  rw[he] at hf;have hf:H=cz H:=hf;refine⟨L,0,hf▸h,hf▸h7,by omega,by omega,λa=>?_,λ_=>⟨rfl,rfl⟩⟩;unfold DS.xV;rw[if_pos he,Int.add_zero]
 .obtain⟨L',k,q1,q2,q3,q4,q5,_⟩:=RM h h7 hn (wn h7 hP) he
  rw[v6 h7 hP] at q1 q2;exact⟨L',k,q1,q2,q3,q4,q5,λe=>absurd e he⟩
end
theorem wh:∀{a b:List (List UInt8)},a.Pairwise (·<·)->b.Pairwise (·<·)->(∀x,x∈a↔x∈b)->a=b
 |[],[],_,_,_=>rfl
 |[],y::_,_,_,h=>absurd ((h y).2 (by simp)) (by simp)
 |x::_,[],_,_,h=>absurd ((h x).1 (by simp)) (by simp)
 |x::a,y::b,ha,hb,h=>by
  rw[List.pairwise_cons] at ha hb;have hxy:x=y:=by
   rcases List.mem_cons.1 ((h x).1 (by simp)) with e|hx
   .exact e
   .rcases List.mem_cons.1 ((h y).2 (by simp)) with e|hy
    .exact e.symm
    .exact absurd (List.lt_trans (ha.1 y hy) (hb.1 x hx)) (List.lt_irrefl _)
  subst hxy;rw[wh ha.2 hb.2 λz=>?_];constructor
  .intro hz
   rcases List.mem_cons.1 ((h z).1 (by simp[hz])) with rfl|q
   .exact absurd (ha.1 z hz) (List.lt_irrefl _)
   .exact q
  .intro hz
   rcases List.mem_cons.1 ((h z).2 (by simp[hz])) with rfl|q
   .exact absurd (hb.1 z hz) (List.lt_irrefl _)
   .exact q
section
variable {H:bE}{l:List UInt8}{ps ps':List (List UInt8)}
theorem iw.uniq (h:iw H ps)(h':iw H ps'):ps=ps':=wh h.1 h'.1 λx=>(h.2 x).trans (h'.2 x).symm
theorem kx {q:Nat}(h:jK H l=some q)(s:Nat)(hs:s<=2):cz H s l=H q l:=by
 unfold cz;rw[if_pos hs,h]
theorem ky (h:jK H l=none)(s:Nat)(hs:s<=2):cz H s l=H s l:=by
 unfold cz;rw[if_pos hs,h]
theorem B4:jK H l=none↔H 0 l≠H 2 l/\H 1 l≠H 2 l/\H 0 l≠H 1 l:=by
 unfold jK
 by_cases h0:H 0 l=H 2 l
 .simp[h0]
 .by_cases h1:H 1 l=H 2 l
  .simp[h0,h1]
  .by_cases h2:H 0 l=H 1 l
   .simp[h0,h1,h2]
   .simp[h0,h1,h2]
end
end
end
end Go.Proofs.YtchcmhodnkgojaaGreat
