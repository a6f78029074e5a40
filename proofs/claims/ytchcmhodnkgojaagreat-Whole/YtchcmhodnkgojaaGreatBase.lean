/- General laws for the walks: rows of cells in memory, what a step leaves as it was, and the operations that make or turn memory, each against a world that is a letter. No statement of the seat is proved here. -/
import Derived.Test.YtchcmhodnkgojaaGreatRows
import Derived.WalkKit
import Derived.WalkSpells
import Derived.WalkLawsBesides
import Derived.Deep.MidRow
import Derived.Laws.CopyOwn
import Derived.Laws.Rows
set_option linter.all false
namespace Go.Proofs.YtchcmhodnkgojaaGreat
open Go.RowKit

theorem ret_int {k : IntKind} {a b : Int} (h : a = b) : Ending.returned (.int k a) = .returned (.int k b) := by rw [h]
theorem ret_bool {a b : Bool} (h : a = b) : Ending.returned (.bool a) = .returned (.bool b) := by rw [h]

/-- A goal at which the walk stands still. -/
def Stopped (p : Prop) : Prop := p
theorem Stopped.go {p : Prop} (h : p) : Stopped p := h

/-- Block b holds the cells c; none of them is frozen. -/
def Row (w : World) (b : Nat) (c : Array Value) (t : TypeId) : Prop := w.heap[b]? = some (.cells c t (0, 0))

/-- What was there is as it was, but for the blocks in S. -/
structure Frm (S : List Nat) (w w' : World) : Prop where
  os : w'.os = w.os
  tape : w'.tape = w.tape
  output : w'.output = w.output
  size : w.heap.size ≤ w'.heap.size
  block : ∀ k, k < w.heap.size → k ∉ S → w'.heap[k]? = w.heap[k]?

theorem Frm.refl (S : List Nat) (w : World) : Frm S w w := ⟨rfl, rfl, rfl, Nat.le_refl _, fun _ _ _ => rfl⟩
theorem Frm.mono {S T : List Nat} {w w' : World} (h : Frm S w w') (hs : ∀ k ∈ S, k ∈ T ∨ w.heap.size ≤ k) : Frm T w w' :=
  ⟨h.os, h.tape, h.output, h.size, fun k hk hT => h.block k hk fun hS => (hs k hS).elim hT (by omega)⟩
theorem Frm.trans {S T : List Nat} {a b c : World} (h : Frm S a b) (k : Frm T b c) (hT : ∀ i ∈ T, i ∈ S ∨ a.heap.size ≤ i) : Frm S a c :=
  ⟨k.os.trans h.os, k.tape.trans h.tape, k.output.trans h.output, Nat.le_trans h.size k.size,
   fun i hi hS => (k.block i (Nat.lt_of_lt_of_le hi h.size) fun x => (hT i x).elim hS (by omega)).trans (h.block i hi hS)⟩
theorem Frm.alloc (S : List Nat) (w : World) (o : Obj) : Frm S w (w.alloc o) := ⟨rfl, rfl, rfl, by simp, fun k hk _ => Below.heap_alloc w o k hk⟩
theorem Frm.drew (S : List Nat) (w : World) : Frm S w w.drew := ⟨rfl, rfl, rfl, Nat.le_refl _, fun _ _ _ => rfl⟩
theorem Frm.drewN (S : List Nat) (w : World) (n : Nat) : Frm S w (w.drewN n) := by
  refine ⟨?_, ?_, ?_, ?_, ?_⟩ <;> simp [World.drewN]
theorem Frm.setRow (S : List Nat) (w : World) (b : Nat) (c : Array Value) (hb : b ∈ S) : Frm S w (w.setRow b c) :=
  ⟨rfl, rfl, rfl, by simp, fun k _ hk => setRow_other w b k c fun e => hk (e ▸ hb)⟩
theorem Frm.setCell (S : List Nat) (w : World) (a : Addr) (v : Value) (hb : a.block ∈ S) : Frm S w (w.setCell a v) :=
  ⟨rfl, rfl, rfl, by simp, fun k _ hk => heap_setCell_other w a k v fun e => hk (e ▸ hb)⟩
theorem Frm.row {S : List Nat} {w w' : World} (h : Frm S w w') {b : Nat} {c : Array Value} {t : TypeId} (hr : Row w b c t) (hb : b ∉ S) : Row w' b c t := by
  unfold Row at *
  rw [h.block b (Array.getElem?_eq_some_iff.1 hr).1 hb]
  exact hr
theorem Frm.below {w w' : World} (h : Frm [] w w') : Below w.heap.size w w' := ⟨h.os, h.tape, h.output, h.size, fun k hk => h.block k hk (by simp)⟩
theorem Frm.of_below {w w' : World} (h : Below w.heap.size w w') : Frm [] w w' := ⟨h.os, h.tape, h.output, h.size, fun k hk _ => h.block k hk⟩

theorem Frm.owns {S : List Nat} {w w' : World} (h : Frm S w w') {base : Nat} {e : TypeId} {size : Nat} {v : Value} {n : Nat} {xs : List Value} (ho : w.ownsRow base e size v n xs) (hb : ∀ k ∈ S, v.ownBlock ≠ some k) :
    w'.ownsRow base e size v n xs := by
  refine ⟨ho.1, ?_⟩
  rcases ho.2 with hn | ⟨g, cap, cur, rfl, hb', hg, r⟩
  · exact .inl hn
  · exact .inr ⟨g, cap, cur, rfl, hb', by rw [h.block g (Array.getElem?_eq_some_iff.1 hg).1 fun hs => hb g hs rfl]; exact hg, r⟩

theorem Frm.grown {w w' : World} {row : Option Nat} (h : w.grownBy w' row) : Frm row.toList w w' :=
  ⟨h.os, h.tape, h.output, h.size, fun k hk hn => h.block k hk fun e => hn (by simp [← e])⟩

theorem Row.lt {w : World} {b : Nat} {c : Array Value} {t : TypeId} (h : Row w b c t) : b < w.heap.size := (Array.getElem?_eq_some_iff.1 h).1
theorem Row.cell {w : World} {b : Nat} {c : Array Value} {t : TypeId} (h : Row w b c t) (j : Nat) : w.cell? ⟨b, j, none⟩ = c[j]? := cell_of_row w b j c t (0, 0) h
theorem Row.thaw {w : World} {b : Nat} {c : Array Value} {t : TypeId} (h : Row w b c t) (j : Nat) : w.frozen? ⟨b, j, none⟩ = false := frozen_of_row w b j c t h
theorem Row.new (w : World) (c : Array Value) (t : TypeId) : Row (w.alloc (.cells c t)) w.heap.size c t := heap_alloc_new w _
theorem Row.setCell {w : World} {b : Nat} {c : Array Value} {t : TypeId} (h : Row w b c t) (i : Nat) (v : Value) : Row (w.setCell ⟨b, i, none⟩ v) b (c.setIfInBounds i v) t :=
  heap_setCell_same w b i c t v h
theorem Row.setRow {w : World} {b : Nat} {c : Array Value} {t : TypeId} (h : Row w b c t) (d : Array Value) : Row (w.setRow b d) b d t := setRow_heap w b c d t (0, 0) h
theorem Row.drew {w : World} {b : Nat} {c : Array Value} {t : TypeId} (h : Row w b c t) : Row w.drew b c t := h

/-- The cells with vs written over those from o on. -/
def over (c : Array Value) (o : Nat) (vs : List Value) : Array Value := (c.toList.take o ++ vs ++ c.toList.drop (o + vs.length)).toArray
theorem size_over (c : Array Value) (o : Nat) (vs : List Value) (h : o + vs.length ≤ c.size) : (over c o vs).size = c.size := by
  simp [over]; omega

theorem over_all (c : Array Value) (vs : List Value) (h : c.size = vs.length) : over c 0 vs = vs.toArray := by
  simp [over, ← h]

theorem drop_take_of_take {α : Type} {l xs : List α} {m : Nat} (h : l.take m = xs) (i j : Nat) (hk : i + j ≤ m) : (l.drop i).take j = (xs.drop i).take j := by
  subst h
  rw [List.drop_take, List.take_take]
  congr 1
  omega

/-- A slice of one's own, whether it is nil or not. -/
theorem own_slice {w : World} {base : Nat} {e : TypeId} {size : Nat} {v : Value} {n : Nat} {xs : List Value} (h : w.ownsRow base e size v n xs) : ∃ ad cap, v = .slice ad n cap := by
  rcases h.2 with ⟨rfl, rfl⟩ | ⟨g, cap, _, rfl, _⟩
  · exact ⟨_, _, rfl⟩
  · exact ⟨_, _, rfl⟩
theorem own_some {w : World} {base : Nat} {e : TypeId} {size : Nat} {ad : Option Addr} {cap n : Nat} {xs : List Value} (h : w.ownsRow base e size (.slice ad n cap) n xs) (hn : 0 < n) :
    ∃ g cur, ad = some ⟨g, 0, none⟩ ∧ Row w g cur e ∧ n ≤ cap ∧ cap ≤ maxLen ∧ cur.size = cap * size ∧ cur.toList.take (n * size) = xs := by
  rcases h.2 with ⟨hv, rfl⟩ | ⟨g, cap', cur, hv, _, hg, r⟩
  · omega
  · simp only [Value.slice.injEq] at hv
    obtain ⟨rfl, _, rfl⟩ := hv
    exact ⟨g, cur, rfl, hg, r⟩

section
variable {P : Program} {ops : Array Oper} {Q : Exit → Act → World → Prop} {a : Act} {w : World} {rest : List Oper} {o : Oper}

theorem stop_alloc {t : TypeId} (_ : o.op = .alloc t) (h : Stopped (wpList P ops Q (o :: rest) a w)) : wpList P ops Q (o :: rest) a w := h
theorem stop_box {t : TypeId} {x : Operand} (_ : o.op = .box t x) (h : Stopped (wpList P ops Q (o :: rest) a w)) : wpList P ops Q (o :: rest) a w := h
theorem stop_load (t : TypeId) {x : Operand} (_ : o.op = .load t x) (h : Stopped (wpList P ops Q (o :: rest) a w)) : wpList P ops Q (o :: rest) a w := h
theorem stop_store (t : TypeId) {x y : Operand} (_ : o.op = .store t x y) (h : Stopped (wpList P ops Q (o :: rest) a w)) : wpList P ops Q (o :: rest) a w := h

theorem stop_field {t : TypeId} {x : Operand} {f : Nat} (_ : o.op = .field t x f) (h : Stopped (wpList P ops Q (o :: rest) a w)) : wpList P ops Q (o :: rest) a w := h
theorem stop_bin (t : TypeId) {bo : BinOp} {u : TypeId} {x y : Operand} (_ : o.op = .binOp bo t x y u) (h : Stopped (wpList P ops Q (o :: rest) a w)) : wpList P ops Q (o :: rest) a w := h
theorem stop_convert {t u : TypeId} {x : Operand} (_ : o.op = .convert t u x) (h : Stopped (wpList P ops Q (o :: rest) a w)) : wpList P ops Q (o :: rest) a w := h
/-- A step whose run is known: a value. -/
theorem wl_val (hg : o.guard = none) (v : Value) (w1 : World) (hr : (execOp a.eval o).run P w = .ok (.value v) w1) (h : wpList P ops Q rest (a.put o.dst v) w1) : wpList P ops Q (o :: rest) a w :=
  wpList_plain hg fun K hK => by
    unfold Oper.wp
    rw [hr]
    exact hK _ _ h
theorem wl_skip (hg : o.guard = none) (w1 : World) (hr : (execOp a.eval o).run P w = .ok .skip w1) (h : wpList P ops Q rest (a.put o.dst undef) w1) : wpList P ops Q (o :: rest) a w :=
  wpList_plain hg fun K hK => by
    unfold Oper.wp
    rw [hr]
    exact hK _ _ h

/-- A new variable: its zero value, in a new block. -/
theorem wl_alloc (hg : o.guard = none) (t : TypeId) (ho : o.op = .alloc t) (z : Value) (hz : (P.info? t).map (·.zero) = some (some z))
    (h : ∀ (w1 : World) (b : Nat), w.heap.size ≤ b → Frm [] w w1 → Row w1 b z.cells t → wpList P ops Q rest (a.put o.dst (.pointer (some ⟨b, 0, none⟩))) w1) : wpList P ops Q (o :: rest) a w := by
  refine wl_val hg _ (w.alloc (.cells z.cells t)) ?_ (h _ _ (Nat.le_refl _) (Frm.alloc _ _ _) (Row.new _ _ _))
  cases hi : P.info? t with
  | none => simp [hi] at hz
  | some i =>
    have hz' : i.zero = some z := by simpa [hi] using hz
    simp [execOp, ho, Instr.alloc, zeroValue, typeInfo, hi, hz', newVar, newRow, Sem.run_bind]

/-- A value laid into a new block. -/
theorem wl_box (hg : o.guard = none) (t : TypeId) (x : Operand) (ho : o.op = .box t x) (v : Value) (hx : a.eval x = v)
    (h : ∀ (w1 : World) (b : Nat), w.heap.size ≤ b → Frm [] w w1 → Row w1 b v.cells t → wpList P ops Q rest (a.put o.dst (.pointer (some ⟨b, 0, none⟩))) w1) : wpList P ops Q (o :: rest) a w := by
  refine wl_val hg _ (w.alloc (.cells v.cells t)) ?_ (h _ _ (Nat.le_refl _) (Frm.alloc _ _ _) (Row.new _ _ _))
  simp [execOp, ho, hx, Instr.box, newVar, newRow]

/-- A whole array or struct out of a row. -/
theorem wl_load (hg : o.guard = none) (t : TypeId) (x : Operand) (ho : o.op = .load t x) (b off : Nat) (hx : a.eval x = .pointer (some ⟨b, off, none⟩))
    (hu : (P.underlying t).map TypeDesc.isRow = some true) (n : Nat) (hi : (P.info? t).map (·.size) = some n)
    (c : Array Value) (u : TypeId) (hr : Row w b c u) (vs : List Value) (hv : (c.toList.drop off).take n = vs) (hl : vs.length = n)
    (h : wpList P ops Q rest (a.put o.dst (.agg vs.toArray)) w) : wpList P ops Q (o :: rest) a w := by
  obtain ⟨d, hu', hd⟩ := Option.map_eq_some_iff.1 hu
  refine wpList_load_mid hg t x ho b off hx vs d (fun j v hj => ?_) hu' hd (by rw [hi, hl]) h
  rw [hr.cell]
  subst hv
  rw [List.getElem?_take] at hj
  split at hj
  · simpa [List.getElem?_drop] using hj
  · cases hj

theorem run_storeAt_row (t : TypeId) (b off : Nat) (cells : Array Value) (n : Nat) (hi : (P.info? t).map (·.size) = some n) (hn : cells.size = n) (h1 : ∀ v ∈ cells.toList, v.oneCell' = true)
    (c : Array Value) (u : TypeId) (hr : Row w b c u) (hfit : off + n ≤ c.size) :
    (Instr.storeAt t (.pointer (some ⟨b, off, none⟩)) (.agg cells)).run P w = .ok () (w.setRow b (over c off cells.toList)) := by
  subst hn
  have := run_storeCells_at P b off u cells.toList 0 c w hr (by simpa using hfit) h1
  cases hq : P.info? t with
  | none => simp [hq] at hi
  | some i =>
    have hs : i.size = cells.size := by simpa [hq] using hi
    simp only [Nat.add_zero] at this
    simp [Instr.storeAt, Instr.sureAddr, storeVar, sizeOf, typeInfo, hq, Value.cells, hs, this, over, Sem.run_bind]

/-- A whole array or struct into a row. -/
theorem wl_store (hg : o.guard = none) (t : TypeId) (x y : Operand) (ho : o.op = .store t x y) (b off : Nat) (hx : a.eval x = .pointer (some ⟨b, off, none⟩))
    (cells : Array Value) (hy : a.eval y = .agg cells) (n : Nat) (hi : (P.info? t).map (·.size) = some n) (hn : cells.size = n) (h1 : ∀ v ∈ cells.toList, v.oneCell' = true)
    (c : Array Value) (u : TypeId) (hr : Row w b c u) (hfit : off + n ≤ c.size)
    (h : ∀ w1 : World, Frm [b] w w1 → Row w1 b (over c off cells.toList) u → wpList P ops Q rest (a.put o.dst undef) w1) : wpList P ops Q (o :: rest) a w := by
  refine wl_skip hg (w.setRow b (over c off cells.toList)) ?_ (h _ (Frm.setRow _ _ _ _ (by simp)) (hr.setRow _))
  have := run_storeAt_row (P := P) t b off cells n hi hn h1 c u hr hfit
  simp [execOp, ho, hx, hy, this]
/-- The end of a function whose one result lies in a variable of its own. -/
theorem ret_row {fn : Func} {R : Ending → World → Prop} {tp : Tmp} {ty : TypeId} (hf : fn.results = #[.cell tp ty]) (b : Nat) (hp : a.tmps.getD tp undef = .pointer (some ⟨b, 0, none⟩)) (hd : a.defers = [])
    (c : Array Value) (u : TypeId) (hr : Row w b c u) (hu : (P.underlying ty).map TypeDesc.isRow = some true) (hi : (P.info? ty).map (·.size) = some c.size) (h : R (.returned (.agg c)) w) : bodyPost P fn R .ret a w := by
  obtain ⟨d, hu', hd'⟩ := Option.map_eq_some_iff.1 hu
  exact bodyPost_ret (results_cell_row hf a.tmps w b u c (0, 0) d hp hr hu' (by revert hd' hu'; cases d <;> intro x y <;> first | rfl | cases y) hi) hd h
end

end Go.Proofs.YtchcmhodnkgojaaGreat
