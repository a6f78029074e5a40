/- Holding: a disk made of bytes. -/
import Derived.Test.YtchcmhodnkgojaaGreatPutRemove
import Derived.Laws.MakeOwn
set_option linter.all false
namespace Go.Proofs.YtchcmhodnkgojaaGreat
open Go.RowKit Go.Lib

/-! ### A drawn region, in any order -/
def marks (n : Nat) (l : List Nat) : Array Bool := ((List.range n).map fun j => l.contains j).toArray
theorem marks_set (n k : Nat) (l : List Nat) (h : k < n) : (marks n l).setIfInBounds k true = marks n (k :: l) := by
  apply Array.ext_getElem?
  intro i
  simp only [marks, Array.getElem?_setIfInBounds, List.size_toArray, List.length_map, List.length_range, List.getElem?_toArray, List.getElem?_map]
  by_cases hi : k = i
  · subst hi; simp [h]
  · simp only [hi, if_false]
    by_cases hn : i < n
    · simp [List.getElem?_range hn, Ne.symm hi]
    · rw [List.getElem?_eq_none (by simp; omega)]; rfl

def AtL (P : Program) (ops : Array Oper) (Q : Exit → Act → World → Prop) (n m : Nat) (l : List Nat) (a : Act) (w : World) : Prop := wpAny P .any ops Q m (marks n l) a w
section
variable {P : Program} {ops : Array Oper} {Q : Exit → Act → World → Prop}
theorem al_begin {n : Nat} {a : Act} {w : World} (h : AtL P ops Q n n [] a w) : At P ops Q n 0 a w := by
  unfold At
  have e : upto n 0 = marks n [] := by simp [upto, marks]
  rw [e]
  exact h
theorem al_pure {n m : Nat} {l : List Nat} (k : Nat) {oi : Oper} {v : Value} {a : Act} {w : World} (hk : k < n) (dst : Option Tmp) (hi : ops[k]? = some oi) (hd : oi.dst = dst)
    (hs : Region.noSelect ops = true) (hf : Region.free .any ops (marks n l) k = true) (hr : (Region.ready .any ops (marks n l)).contains k = true)
    (hQ : ∀ c a w, Q (.panic c) (a.put oi.dst v) w → Q (.panic c) a w) (hg : oi.guard = none) (hy : ∀ w, (execOp a.eval oi).run P w = .ok (.value v) w)
    (h : AtL P ops Q n m (k :: l) (a.put dst v) w) : AtL P ops Q n (m + 1) l a w :=
  any_pure hi hs hf hr hQ hg hy (by rw [marks_set n k l hk, hd]; exact h)
theorem al_val {n m : Nat} {l : List Nat} (k : Nat) {oi : Oper} {a : Act} {w : World} (hk : k < n) (dst : Option Tmp) (hi : ops[k]? = some oi) (hd : oi.dst = dst) (hr : Region.ready .any ops (marks n l) = [k]) (hg : oi.guard = none)
    (v : Value) (w1 : World) (hrun : (execOp a.eval oi).run P w = .ok (.value v) w1) (h : AtL P ops Q n m (k :: l) (a.put dst v) w1) : AtL P ops Q n (m + 1) l a w :=
  any_val hr hi hg v w1 hrun (by rw [marks_set n k l hk, hd]; exact h)
theorem al_done {n m : Nat} {l : List Nat} {a : Act} {w : World} (hr : Region.ready .any ops (marks n l) = []) (h : Q .normal a w) : AtL P ops Q n m l a w := wpAny_done hr h _
end

/-! ### Zeros -/
theorem made_rep (v : Value) (c m : Nat) (hc : 0 < c) : madeCells (List.replicate c v).toArray m = (List.replicate m v).toArray := by
  apply Array.ext_getElem?
  intro i
  have hz : ∀ j, j < c → ((List.replicate c v).toArray)[j]! = v := fun j hj => by
    rw [getElem!_pos _ j (by simpa using hj)]; simp
  by_cases h : i < m
  · simp only [madeCells, Array.getElem?_map, Array.getElem?_range, h, if_true, Option.map_some, List.size_toArray, List.length_replicate, List.getElem?_toArray, List.getElem?_replicate]
    rw [hz _ (Nat.mod_lt _ hc)]
  · simp [madeCells, h]
theorem made_zero (m : Nat) : madeCells zBlock.cells m = (byteCells (List.replicate m 0)).toArray := by
  have e : zBlock.cells = (List.replicate 64 (Value.int .u8 ((0 : UInt8).toNat))).toArray := by
    show (byteCells (List.replicate 64 0)).toArray = _
    unfold byteCells
    rw [List.map_replicate]
  rw [e, made_rep _ _ _ (by decide)]
  unfold byteCells
  rw [List.map_replicate]

/-- A disk on which these bytes last, and nothing else is. -/
def DS.fresh (l : List UInt8) : DS := ⟨l, [], 0, false, 0, 0, false⟩
/-- The first k sectors laid, the others zero. -/
def laid (l : List UInt8) (n k : Nat) : List UInt8 := l.take (k * 64) ++ List.replicate ((n - k) * 64) 0
theorem length_laid (l : List UInt8) (n k : Nat) (hl : l.length = 64 * n) (hk : k ≤ n) : (laid l n k).length = 64 * n := by
  simp [laid]; omega
theorem splice_laid (l : List UInt8) (n k : Nat) (hl : l.length = 64 * n) (hk : k < n) : splice (laid l n k) (k * 64) ((l.drop (k * 64)).take 64) = laid l n (k + 1) := by
  unfold splice laid
  have h1 : (l.take (k * 64)).length = k * 64 := by rw [List.length_take]; omega
  have h2 : ((l.drop (k * 64)).take 64).length = 64 := by rw [List.length_take, List.length_drop]; omega
  rw [List.take_append_of_le_length (by omega), List.take_of_length_le (Nat.le_of_eq h1), h2, List.drop_append, List.drop_of_length_le (show (l.take (k * 64)).length ≤ k * 64 + 64 by omega), h1, List.drop_replicate, show (k + 1) * 64 = k * 64 + 64 by omega, List.take_add]
  simp only [List.nil_append, List.append_assoc]
  rw [show (n - k) * 64 - (k * 64 + 64 - k * 64) = (n - (k + 1)) * 64 by omega]

theorem info_block2 : (Tryz.prog.info? 148).map (fun i => (i.size, i.bytes, i.zero)) = some (64, 64, some zBlock) := by kernel_rfl
theorem built_disk (bl n : Nat) : Tryz.prog.built 134 [(0, .slice (some ⟨bl, 0, none⟩) n n)] = some (dcells bl n (.slice none 0 0) (DS.fresh [])) := by kernel_rfl
theorem und_blocks_slice : Tryz.prog.underlying 129 = some (.slice 148) := by kernel_rfl


theorem stop_build {P : Program} {ops : Array Oper} {Q : Exit → Act → World → Prop} {a : Act} {w : World} {rest : List Oper} {o : Oper} (t : TypeId) {ps : Array (Nat × Operand)} (_ : o.op = .build t ps) (h : Stopped (wpList P ops Q (o :: rest) a w)) : wpList P ops Q (o :: rest) a w := h
theorem stop_make {P : Program} {ops : Array Oper} {Q : Exit → Act → World → Prop} {a : Act} {w : World} {rest : List Oper} {o : Oper} (t : TypeId) {x y : Operand} (_ : o.op = .makeSlice t x y) (h : Stopped (wpList P ops Q (o :: rest) a w)) : wpList P ops Q (o :: rest) a w := h
theorem wl_make {P : Program} {ops : Array Oper} {Q : Exit → Act → World → Prop} {a : Act} {w : World} {rest : List Oper} {o : Oper} (hg : o.guard = none) (t e : TypeId) (x y : Operand) (ho : o.op = .makeSlice t x y) (ht : P.underlying t = some (.slice e)) (sz by_ : Nat) (z : Value)
    (hi : (P.info? e).map (fun i => (i.size, i.bytes, i.zero)) = some (sz, by_, some z)) (n : Nat) (hx : a.eval x = .int .i64 n) (hy : a.eval y = .int .i64 n) (hb : by_ * n ≤ 281474976710656) (hn : n ≤ 9223372036854775807)
    (h : ∀ (w1 : World) (b : Nat), w.heap.size ≤ b → Frm [] w w1 → Row w1 b (madeCells z.cells (n * sz)) e → wpList P ops Q rest (a.put o.dst (.slice (some ⟨b, 0, none⟩) n n)) w1) : wpList P ops Q (o :: rest) a w := by
  refine wl_val hg _ (w.alloc (.cells (madeCells z.cells (n * sz)) e)) ?_ (h _ _ (Nat.le_refl _) (Frm.alloc _ _ _) (Row.new _ _ _))
  cases hi' : P.info? e with
  | none => simp [hi'] at hi
  | some i =>
    simp only [hi', Option.map_some, Option.some.injEq, Prod.mk.injEq] at hi
    obtain ⟨h1, h2, h3⟩ := hi
    subst h1; subst h2
    have := run_make (P := P) w t e i z ht hi' h3 .i64 .i64 n n (by omega) (Int.le_refl _) (by rw [← Int.natCast_mul]; omega) (by omega)
    simp only [Int.toNat_natCast] at this
    simp [execOp, ho, hx, hy, this]

set_option maxRecDepth 100000 in
set_option maxHeartbeats 1000000 in
theorem holding_any (s : ByteArray) (n : Nat) (w : World) (hs : s.size = 64 * n) (h16 : 16 ≤ n) (h400 : n ≤ 400) :
    Calls Tryz.prog 104 #[.string s] w fun e w' => ∃ d F, e = .returned (.pointer (some ⟨d, 0, none⟩)) ∧ DiskOwn w' F d n (DS.fresh s.data.toList) ∧ Frm [] w w' ∧ Grew [] F w := by
  have hsl : Hid (s.data.toList.length = 64 * n) := by show _ = _; rw [Array.length_toList]; exact hs
  have hq : (s.size : Int).tdiv 64 = n := by rw [hs]; push_cast; exact Int.mul_tdiv_cancel_left _ (by decide)
  go_enter Tryz.func104, Tryz.ntmps104
  go_wp2_with (with_reducible first | refine stop_make 129 rfl ?_)
  refine Stopped.go (wl_make rfl 129 148 _ _ rfl und_blocks_slice 64 64 zBlock info_block2 n rfl rfl (by omega) (by omega) ?_)
  intro w1 bl l1 f1 r1
  rw [made_zero] at r1
  have HL0 : Hid (laid s.data.toList n 0 = List.replicate (n * 64) 0) := by show _ = _; simp [laid]
  rw [← HL0.out] at r1
  go_wp2_with (with_reducible first | refine stop_make 129 rfl ?_ | refine stop_build 134 rfl ?_ | refine stop_box rfl ?_)
  refine Stopped.go (wl_val rfl (.agg (dcells bl n (.slice none 0 0) (DS.fresh []))) w1 (ex_build _ _ rfl _ (built_disk bl n)) ?_)
  go_wp2_with (with_reducible first | refine stop_box rfl ?_)
  refine Stopped.go (wl_box rfl 134 _ rfl (.agg (dcells bl n (.slice none 0 0) (DS.fresh []))) rfl ?_)
  intro w2 d l2 f2 r2
  have q2 : Row w2 d (dcells bl n (.slice none 0 0) (DS.fresh [])) 134 := r2
  have q1 := f2.row r1 (by simp)
  have fw := f1.trans f2 (by simp)
  have hdb : d ≠ bl := by have := r1.lt; omega
  have ldw : w.heap.size ≤ d := by have := f1.size; omega
  clear r1 r2 f1 f2 l2
  have c0 := (dcell q2).1
  go_wp2_with fail
  clear c0
  go_loopw [16] (fun c wr => ∃ k : Nat, c = .int .i64 k ∧ k ≤ n ∧ Frm [] w wr ∧ Row wr d (dcells bl n (.slice none 0 0) (DS.fresh [])) 134 ∧ Row wr bl (byteCells (laid s.data.toList n k)).toArray 148) (fun c _ => n - (intOf c).toNat)
  case atStart => exact ⟨0, rfl, by omega, fw, q2, q1⟩
  case round =>
    obtain ⟨k, rfl, hk, fk, qd, qb⟩ := hrel
    clear q1 q2 fw
    by_cases hlt : k < n
    · go_wp2_with fail
      refine at_begin 12 (by kernel_rfl) rfl ?_
      have fd : Frm [] wr wr.drew := Frm.drew _ _
      have q5 := fd.row qd (by simp)
      have q8 := fd.row qb (by simp)
      have fk := fk.trans fd (by simp)
      generalize wr.drew = w5 at q5 q8 fk
      clear qd qb fd
      refine al_begin ?_
      refine al_pure 0 (by omega) (some 19) rfl rfl (by kernel_rfl) (by kernel_rfl) (by kernel_rfl) (fun _ _ _ h => h) rfl (v := .pointer (some ⟨d, 0, none⟩)) (fun _ => rfl) ?_
      refine al_pure 1 (by omega) (some 20) rfl rfl (by kernel_rfl) (by kernel_rfl) (by kernel_rfl) (fun _ _ _ h => h) rfl (v := .pointer (some ⟨d, 0, none⟩)) (fun _ => by go_simp) ?_
      refine al_pure 2 (by omega) (some 21) rfl rfl (by kernel_rfl) (by kernel_rfl) (by kernel_rfl) (fun _ _ _ h => h) rfl (v := .pointer (some ⟨d, 0, none⟩)) (fun _ => by go_simp) ?_
      refine al_pure 4 (by omega) (some 23) rfl rfl (by kernel_rfl) (by kernel_rfl) (by kernel_rfl) (fun _ _ _ h => h) rfl (v := .int .i64 k) (fun _ => rfl) ?_
      refine al_pure 7 (by omega) (some 26) rfl rfl (by kernel_rfl) (by kernel_rfl) (by kernel_rfl) (fun _ _ _ h => h) rfl (v := .string s) (fun _ => rfl) ?_
      refine al_pure 8 (by omega) (some 27) rfl rfl (by kernel_rfl) (by kernel_rfl) (by kernel_rfl) (fun _ _ _ h => h) rfl (v := .int .i64 k) (fun _ => rfl) ?_
      simp only [Act.put, List.setIfInBounds_toArray, List.set_cons_succ, List.set_cons_zero]
      refine al_pure 9 (by omega) (some 28) rfl rfl (by kernel_rfl) (by kernel_rfl) (by kernel_rfl) (fun _ _ _ h => h) rfl (v := .int .i64 (k * 64)) (fun _ => by go_simp; exact IntWalk.i64_in _ (by omega)) ?_
      simp only [Act.put, List.setIfInBounds_toArray, List.set_cons_succ, List.set_cons_zero]
      refine al_pure 10 (by omega) (some 29) rfl rfl (by kernel_rfl) (by kernel_rfl) (by kernel_rfl) (fun _ _ _ h => h) rfl (v := .string (s.extract (k * 64) s.size)) (fun _ => ?_) ?_
      · have e : ((k : Int) * 64).toNat = k * 64 := by omega
        go_simp
        intro h
        exact absurd (h (by omega)) (by omega)
      simp only [Act.put, List.setIfInBounds_toArray, List.set_cons_succ, List.set_cons_zero]
      have c0 := (dcell q5).1
      refine al_val 3 (by omega) (some 22) rfl rfl (by kernel_rfl) rfl (.slice (some ⟨bl, 0, none⟩) n n) w5 (by go_simp) ?_
      clear c0
      refine al_pure 5 (by omega) (some 24) rfl rfl (by kernel_rfl) (by kernel_rfl) (by kernel_rfl) (fun _ _ _ h => h) rfl (v := .pointer (some ⟨bl, k * 64, none⟩)) (fun _ => by go_simp) ?_
      refine al_pure 6 (by omega) (some 25) rfl rfl (by kernel_rfl) (by kernel_rfl) (by kernel_rfl) (fun _ _ _ h => h) rfl (v := .slice (some ⟨bl, k * 64, none⟩) 64 64) (fun _ => by go_simp) ?_
      simp only [Act.put, List.setIfInBounds_toArray, List.set_cons_succ, List.set_cons_zero]
      have hll := length_laid s.data.toList n k hsl.out hk
      refine al_val 11 (by omega) (some 30) rfl rfl (by kernel_rfl) rfl _ _ (ex_copy_str _ _ _ _ 5 rfl Tryz.underlying85 (by kernel_rfl) bl (k * 64) 64 64 rfl (s.extract (k * 64) s.size) rfl _ _ q8 ?_) ?_
      · simp only [List.size_toArray, length_byteCells, hll]
        have : Nat.min (s.extract (k * 64) s.size).size 64 ≤ 64 := Nat.min_le_right _ _
        omega
      have e64 : (s.extract (k * 64) s.size).data.toList.take 64 = (s.data.toList.drop (k * 64)).take 64 := by
        have hsz : s.data.toList.length = s.size := by rw [Array.length_toList]; rfl
        rw [ByteArray.data_extract, Array.toList_extract, List.extract_eq_take_drop, List.take_take, ← hsz, ← List.length_drop]
        rw [List.take_eq_take_iff]
        omega
      rw [e64, over_splice, splice_laid _ _ _ hsl.out hlt]
      refine al_done (by kernel_rfl) ?_
      have q8' := q8.setRow (byteCells (laid s.data.toList n (k + 1))).toArray
      have f3 : Frm [bl] w5 (w5.setRow bl (byteCells (laid s.data.toList n (k + 1))).toArray) := Frm.setRow _ _ _ _ (by simp)
      have q5' := f3.row q5 (by simpa using hdb)
      have fk3 : Frm [] w (w5.setRow bl (byteCells (laid s.data.toList n (k + 1))).toArray) := fk.trans f3 (by simp; exact l1)
      generalize w5.setRow bl (byteCells (laid s.data.toList n (k + 1))).toArray = w6 at q8' q5' fk3
      clear q8 q5 fk f3 e64 hll
      simp only [Act.put, List.setIfInBounds_toArray, List.set_cons_succ, List.set_cons_zero]
      go_wp2_with fail
      go_roundw
      case rel => exact ⟨k + 1, by go_num, by omega, fk3, q5', q8'⟩
      case measure => simp [intOf]; omega
    · obtain rfl : k = n := by omega
      go_wp2_with fail
      go_ret
      have el : laid s.data.toList k k = s.data.toList := by
        unfold laid
        rw [List.take_of_length_le (by rw [hsl.out]; omega)]
        simp
      rw [el] at qb
      refine ⟨d, [d, bl], rfl, ⟨bl, .slice none 0 0, { row := qd, last := qb, len := hsl.out, own := World.ownsRow_nil _ _ _ _, len64 := by simp [DS.fresh], within := by simp [DS.fresh], lo := h16, hi := h400, few := by simp [DS.fresh], ne := hdb, ne1 := by simp [Value.ownBlock], ne2 := by simp [Value.ownBlock] }, by simp [Value.ownBlock]⟩, fk, fun i hi => ?_⟩
      simp only [List.mem_cons, List.not_mem_nil, or_false] at hi
      rcases hi with rfl | rfl
      · exact .inr ldw
      · exact .inr l1

end Go.Proofs.YtchcmhodnkgojaaGreat
