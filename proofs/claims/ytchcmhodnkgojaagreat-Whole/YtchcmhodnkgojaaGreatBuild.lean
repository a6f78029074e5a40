/- Structs and slices built in place: 'Instr.fill' as one splice a part. -/
import Derived.Test.YtchcmhodnkgojaaGreatBase
import Derived.Deep.AppendLies
import Derived.Lib.UnsafeStr
set_option linter.all false
namespace Go.Proofs.YtchcmhodnkgojaaGreat
open Go.RowKit

theorem over_over (c : Array Value) (o : Nat) (v : Value) (r : List Value) (h : o + r.length + 1 ≤ c.size) : over (c.setIfInBounds o v) (o + 1) r = over c o (v :: r) := by
  unfold over
  congr 1
  have := list_seg_step c.toList o v r (by simpa [Nat.add_assoc] using h)
  simp only [Array.toList_setIfInBounds]
  rw [this]
  simp

theorem fold_over : ∀ (l : List Value) (k off : Nat) (cells : Array Value), off + k + l.length ≤ cells.size →
    (l.zipIdx k).foldl (fun cs (x : Value × Nat) => cs.setIfInBounds (off + x.2) x.1) cells = over cells (off + k) l
  | [], k, off, cells, _ => by simp [over]
  | v :: r, k, off, cells, h => by
    simp only [List.zipIdx_cons, List.foldl_cons]
    simp only [List.length_cons] at h
    rw [fold_over r (k + 1) off _ (by simp; omega), ← Nat.add_assoc, over_over _ _ _ _ (by omega)]

theorem fill_step (place : Nat → Option (Nat × Nat)) (cells : Array Value) (i : Nat) (v : Value) (rest : List (Nat × Value)) (off size : Nat) (hp : place i = some (off, size)) (hs : v.cells.size = size) (hf : off + size ≤ cells.size) :
    Instr.fill place cells ((i, v) :: rest) = Instr.fill place (over cells off v.cells.toList) rest := by
  subst hs
  have hz : v.cells.zipIdx.foldl (fun cs (x : Value × Nat) => cs.setIfInBounds (off + x.2) x.1) cells = over cells off v.cells.toList := by
    rw [← Array.foldl_toList, Array.toList_zipIdx]
    exact fold_over v.cells.toList 0 off cells (by simpa using hf)
  simp only [Instr.fill, hp]
  rw [if_neg (by simp; omega)]
  exact congrArg (fun c => Instr.fill place c rest) hz

section
variable {P : Program} {w : World} {o : Oper} {ρ : Operand → Value}
theorem ex_build (t : TypeId) (ps : Array (Nat × Operand)) (ho : o.op = .build t ps) (cells : Array Value) (hb : P.built t (ps.toList.map fun x => (x.1, ρ x.2)) = some cells) : (execOp ρ o).run P w = .ok (.value (.agg cells)) w := by
  have := run_build (P := P) w t (ps.map fun x => (x.1, ρ x.2)) cells (by simpa using hb)
  simp only [execOp, ho, Sem.run_bind]
  rw [this]
  rfl
theorem ex_load (t : TypeId) (x : Operand) (ho : o.op = .load t x) (b off : Nat) (hx : ρ x = .pointer (some ⟨b, off, none⟩)) (hu : (P.underlying t).map TypeDesc.isRow = some true) (n : Nat) (hi : (P.info? t).map (·.size) = some n)
    (c : Array Value) (u : TypeId) (hr : Row w b c u) (vs : List Value) (hv : (c.toList.drop off).take n = vs) (hl : vs.length = n) : (execOp ρ o).run P w = .ok (.value (.agg vs.toArray)) w := by
  obtain ⟨d, hu', hd⟩ := Option.map_eq_some_iff.1 hu
  have := run_loadAt_mid (P := P) w b off t vs d (fun j v hj => by
    rw [hr.cell]
    subst hv
    rw [List.getElem?_take] at hj
    split at hj
    · simpa [List.getElem?_drop] using hj
    · cases hj) hu' hd (by rw [hi, hl])
  simp only [execOp, ho, hx, Sem.run_bind]
  rw [this]
  rfl
/-- A slice of one element, written out. -/
theorem ex_slice1 (t e : TypeId) (x : Operand) (ho : o.op = .buildSlice t 1 #[(0, x)]) (hu : P.underlying t = some (.slice e)) (i : TypeInfo) (z v : Value) (hi : P.info? e = some i) (hz : i.zero = some z) (h0 : 0 < i.size) (h24 : i.size ≤ 1000)
    (hx : ρ x = v) (hv : v.cells.size = i.size) : (execOp ρ o).run P w = .ok (.value (.slice (some ⟨w.heap.size, 0, none⟩) 1 1)) (w.alloc (.cells v.cells e)) := by
  have hf : Instr.fill (fun j => some (j * i.size, i.size)) ((Array.range (1 * i.size)).map (z.cells[· % z.cells.size]!)) [(0, v)] = some v.cells := by
    rw [fill_step _ _ 0 v [] 0 i.size (by simp) hv (by simp)]
    simp only [Instr.fill]
    rw [over_all _ _ (by simp [hv])]
  have h1 : ¬ i.size > 2 ^ 24 := by omega
  have h2 : ¬ i.size = 0 := by omega
  have h3 : zeroValue e = (do match (← typeInfo e).zero with | some v => pure v | none => unsupported (.resourceLimit "a value of more than 2^22 cells")) := rfl
  simp only [Nat.one_mul] at hf
  simp [execOp, ho, hx, Instr.buildSlice, run_underlying hu, sizeOf, typeInfo, hi, h1, h2, zeroValue, hz, hf, newRow]

theorem ex_copy (d s : Operand) (dT sT elem : TypeId) (ho : o.op = .call { callee := .builtin .copy, args := #[d, s], argTypes := #[dT, sT] }) (hu : P.underlying dT = some (.slice elem)) (hs : (P.info? elem).map (·.size) = some 1)
    (g off dLen dCap : Nat) (hd : ρ d = .slice (some ⟨g, off, none⟩) dLen dCap) (b o2 sLen sCap : Nat) (hx : ρ s = .slice (some ⟨b, o2, none⟩) sLen sCap) (cur : Array Value) (t : TypeId) (hg : Row w g cur t)
    (cur2 : Array Value) (u : TypeId) (hb : Row w b cur2 u) (cs : List Value) (hc : (cur2.toList.drop o2).take (Nat.min sLen dLen) = cs) (hn : cs.length = Nat.min sLen dLen) (hfit : off + cs.length ≤ cur.size) (h1 : ∀ v ∈ cs, v.oneCell' = true) :
    (execOp ρ o).run P w = .ok (.value (goInt cs.length)) (w.setRow g (over cur off cs)) := by
  have := run_copy_row (P := P) w dT sT o.type elem g off dLen dCap ⟨b, o2, none⟩ sLen sCap cur t cs hu hs hg hn (fun j v hv => by
    rw [Addr.add_mid, hb.cell]
    subst hc
    rw [List.getElem?_take] at hv
    split at hv
    · simpa [List.getElem?_drop] using hv
    · cases hv) hfit h1
  simp only [execOp, ho, resolve, invoke, builtin, Sem.run_bind, Sem.run_pure, Result.andThen_ok, List.map_toArray, List.map_cons, List.map_nil, hd, hx, this]
  rfl
theorem ex_copy_str (d s : Operand) (dT sT elem : TypeId) (ho : o.op = .call { callee := .builtin .copy, args := #[d, s], argTypes := #[dT, sT] }) (hu : P.underlying dT = some (.slice elem)) (hs : (P.info? elem).map (·.size) = some 1)
    (g off dLen dCap : Nat) (hd : ρ d = .slice (some ⟨g, off, none⟩) dLen dCap) (str : ByteArray) (hx : ρ s = .string str) (cur : Array Value) (t : TypeId) (hg : Row w g cur t)
    (hfit : off + Nat.min str.size dLen ≤ cur.size) :
    (execOp ρ o).run P w = .ok (.value (goInt (Nat.min str.size dLen))) (w.setRow g (over cur off (Lib.byteCells (str.data.toList.take dLen)))) := by
  have hsz : str.data.toList.length = str.size := by rw [Array.length_toList]; rfl
  have hl : (Lib.byteCells (str.data.toList.take dLen)).length = Nat.min str.size dLen := by
    simp only [Lib.byteCells, List.length_map, List.length_take, hsz]
    exact Nat.min_comm _ _
  have h1 : ∀ v ∈ Lib.byteCells (str.data.toList.take dLen), v.oneCell' = true := by
    intro v hv
    simp only [Lib.byteCells, List.mem_map] at hv
    obtain ⟨b, _, rfl⟩ := hv
    rfl
  have hst := run_storeCells_at P g off t (Lib.byteCells (str.data.toList.take dLen)) 0 cur w hg (by rw [hl]; simpa using hfit) h1
  have e : Lib.byteCells (str.data.toList.take dLen) = (str.data.toList.map fun b => Value.int .u8 b.toNat).take (Nat.min str.size dLen) := by
    have : str.data.toList.take (Nat.min str.size dLen) = str.data.toList.take dLen := by
      rw [← hsz, show Nat.min str.data.toList.length dLen = min dLen str.data.toList.length from Nat.min_comm _ _, ← List.take_take, List.take_of_length_le (Nat.le_refl _)]
    rw [← List.map_take, this]
    rfl
  rw [e] at hst ⊢
  have : (Builtin.copy_ #[dT, sT] o.type #[.slice (some ⟨g, off, none⟩) dLen dCap, .string str]).run P w = .ok (goInt (Nat.min str.size dLen)) (w.setRow g (over cur off ((str.data.toList.map fun b => Value.int .u8 b.toNat).take (Nat.min str.size dLen)))) := by
    cases hq : P.info? elem with
    | none => simp [hq] at hs
    | some i =>
      simp only [Nat.add_zero] at hst
      simp [Builtin.copy_, run_underlying hu, Builtin.lenOf, Builtin.firstCells, sizeOf, typeInfo, hq, hst, over]
  simp only [execOp, ho, resolve, invoke, builtin, Sem.run_bind, Sem.run_pure, Result.andThen_ok, List.map_toArray, List.map_cons, List.map_nil, hd, hx, this]

/-- A slice of an array behind a pointer, from k on. -/
theorem ex_slice_from (t e : TypeId) (n : Nat) (x l : Operand) (ho : o.op = .slice t x (some l) none none) (hu : P.underlying t = some (.array n e)) (hs : (P.info? e).map (·.size) = some 1)
    (b off : Nat) (hx : ρ x = .pointer (some ⟨b, off, none⟩)) (k : Int) (hl : ρ l = .int .i64 k) (h0 : 0 ≤ k) (hk : k < n) (q r : Nat) (e1 : off + k.toNat = q) (e2 : n - k.toNat = r) : (execOp ρ o).run P w = .ok (.value (.slice (some ⟨b, q, none⟩) r r)) w := by
  subst e1; subst e2
  cases hq : P.info? e with
  | none => simp [hq] at hs
  | some i =>
    have hi : i.size = 1 := by simpa [hq] using hs
    have h2 : k ≤ n := by omega
    have h3 : ¬ n = k.toNat := by omega
    simp [execOp, ho, hx, hl, Instr.sliceAt, run_underlying hu, Instr.sureAddr, Instr.sliceBounds, Instr.sliceBound, asIntOf, h0, h2, h3, sizeOf, typeInfo, hq, hi, Addr.add_mid]
theorem ex_slice_fromto (t e : TypeId) (n : Nat) (x l m : Operand) (ho : o.op = .slice t x (some l) (some m) none) (hu : P.underlying t = some (.array n e)) (hs : (P.info? e).map (·.size) = some 1)
    (b off : Nat) (hx : ρ x = .pointer (some ⟨b, off, none⟩)) (k j : Int) (hl : ρ l = .int .i64 k) (hm : ρ m = .int .i64 j) (h0 : 0 ≤ k) (hk : k < n) (hkj : k ≤ j) (hj : j ≤ n) (q r c : Nat) (e1 : off + k.toNat = q) (e2 : j.toNat - k.toNat = r) (e3 : n - k.toNat = c) :
    (execOp ρ o).run P w = .ok (.value (.slice (some ⟨b, q, none⟩) r c)) w := by
  subst e1; subst e2; subst e3
  cases hq : P.info? e with
  | none => simp [hq] at hs
  | some i =>
    have hi : i.size = 1 := by simpa [hq] using hs
    have h1 : 0 ≤ j := by omega
    have h2 : k ≤ (j.toNat : Int) := by omega
    have h3 : ¬ n = k.toNat := by omega
    have h4 : k ≤ max j 0 := by omega
    simp [execOp, ho, hx, hl, hm, Instr.sliceAt, run_underlying hu, Instr.sureAddr, Instr.sliceBounds, Instr.sliceBound, asIntOf, h0, h1, hj, h4, h3, sizeOf, typeInfo, hq, hi, Addr.add_mid]

/-- What append asks of a slice's type. -/
structure Elem (P : Program) (t e : TypeId) (size bytes : Nat) : Prop where
  slice : P.underlying t = some (.slice e)
  info : (P.info? e).map (fun i => (i.size, i.bytes, i.zero.map (·.cells.size))) = some (size, bytes, some size)
  pos : 0 < size
theorem Elem.open {t e : TypeId} {size bytes : Nat} (E : Elem P t e size bytes) : ∃ i z, P.info? e = some i ∧ i.zero = some z ∧ i.size = size ∧ i.bytes = bytes ∧ z.cells.size = size := by
  have h := E.info
  cases hq : P.info? e with
  | none => rw [hq] at h; cases h
  | some i =>
    rw [hq] at h
    simp only [Option.map_some, Option.some.injEq, Prod.mk.injEq] at h
    obtain ⟨h1, h2, h3⟩ := h
    cases hz : i.zero with
    | none => rw [hz] at h3; cases h3
    | some z => rw [hz] at h3; exact ⟨i, z, rfl, hz, h1, h2, by simpa using h3⟩
end

section
variable {P : Program} {ops : Array Oper} {Q : Exit → Act → World → Prop} {a : Act} {w : World} {rest : List Oper} {o : Oper}
theorem stop_append {s x : Operand} {t u : TypeId} (_ : o.op = .call { callee := .builtin .append, args := #[s, x], argTypes := #[t, u] }) (h : Stopped (wpList P ops Q (o :: rest) a w)) : wpList P ops Q (o :: rest) a w := h
theorem stop_slice1 {t : TypeId} {n : Nat} {ps : Array (Nat × Operand)} (_ : o.op = .buildSlice t n ps) (h : Stopped (wpList P ops Q (o :: rest) a w)) : wpList P ops Q (o :: rest) a w := h

theorem wl_slice1 (hg : o.guard = none) (t e : TypeId) (size bytes : Nat) (E : Elem P t e size bytes) (x : Operand) (ho : o.op = .buildSlice t 1 #[(0, x)]) (h24 : size ≤ 1000) (v : Value) (hx : a.eval x = v) (hv : v.cells.size = size)
    (h : ∀ (w1 : World) (b : Nat), w.heap.size ≤ b → Frm [] w w1 → Row w1 b v.cells e → wpList P ops Q rest (a.put o.dst (.slice (some ⟨b, 0, none⟩) 1 1)) w1) : wpList P ops Q (o :: rest) a w := by
  obtain ⟨i, z, hi, hz, hs, hb, hzs⟩ := E.open
  have h0 := E.pos
  exact wl_val hg _ _ (ex_slice1 t e x ho E.slice i z v hi hz (by omega) (by omega) hx (by omega)) (h _ _ (Nat.le_refl _) (Frm.alloc _ _ _) (Row.new _ _ _))

theorem wp_append {K : Act → World → Prop} (t e : TypeId) (size bytes : Nat) (E : Elem P t e size bytes) (s x : Operand)
    (ho : o.op = .call { callee := .builtin .append, args := #[s, x], argTypes := #[t, t] }) (base : Nat) (v : Value) (n : Nat) (xs : List Value) (hs : a.eval s = v) (hown : w.ownsRow base e size v n xs)
    (b m c : Nat) (news : List Value) (hx : a.eval x = .slice (some ⟨b, 0, none⟩) m c) (cur : Array Value) (u : TypeId) (hr : Row w b cur u) (hn : cur.toList.take (m * size) = news) (hl : news.length = m * size) (h1 : ∀ v ∈ news, v.oneCell' = true) (hm : 0 < m)
    (hsmall : n + m ≤ 1048576) (hbytes : bytes ≤ 1048576) (hbase : base ≤ w.heap.size)
    (h : ∀ g cap w', w'.ownsRow base e size (.slice (some ⟨g, 0, none⟩) (n + m) cap) (n + m) (xs ++ news) → Frm v.ownBlock.toList w w' → (v.ownBlock = some g ∨ w.heap.size ≤ g) → K (a.put o.dst (.slice (some ⟨g, 0, none⟩) (n + m) cap)) w') : o.wp P a w K Q := by
  obtain ⟨i, z, hi, hz, hsz, hb, hzs⟩ := E.open
  refine wp_append_lies w s x t ho base e i z size bytes E.slice hi hz hsz hb hzs E.pos v n xs hs hown ⟨b, 0, none⟩ m c news hx hl (fun j u hu => ?_) h1 hm (by simp [maxLen]; omega) ?_ hbase w.heap.size rfl (fun g cap w' o1 o2 o3 _ => h g cap w' o1 (Frm.grown o2) (o3.imp id (by omega)))
  · rw [Addr.add_mid, hr.cell]
    subst hn
    rw [List.getElem?_take] at hu
    split at hu
    · simpa using hu
    · cases hu
  · exact Nat.le_trans (Nat.mul_le_mul hsmall hbytes) (by decide)
theorem wl_append (hg : o.guard = none) (t e : TypeId) (size bytes : Nat) (E : Elem P t e size bytes) (s x : Operand)
    (ho : o.op = .call { callee := .builtin .append, args := #[s, x], argTypes := #[t, t] }) (base : Nat) (v : Value) (n : Nat) (xs : List Value) (hs : a.eval s = v) (hown : w.ownsRow base e size v n xs)
    (b m c : Nat) (news : List Value) (hx : a.eval x = .slice (some ⟨b, 0, none⟩) m c) (cur : Array Value) (u : TypeId) (hr : Row w b cur u) (hn : cur.toList.take (m * size) = news) (hl : news.length = m * size) (h1 : ∀ v ∈ news, v.oneCell' = true) (hm : 0 < m)
    (hsmall : n + m ≤ 1048576) (hbytes : bytes ≤ 1048576) (hbase : base ≤ w.heap.size)
    (h : ∀ g cap w', w'.ownsRow base e size (.slice (some ⟨g, 0, none⟩) (n + m) cap) (n + m) (xs ++ news) → Frm v.ownBlock.toList w w' → (v.ownBlock = some g ∨ w.heap.size ≤ g) → wpList P ops Q rest (a.put o.dst (.slice (some ⟨g, 0, none⟩) (n + m) cap)) w') : wpList P ops Q (o :: rest) a w :=
  wpList_plain hg fun _ hK => wp_append t e size bytes E s x ho base v n xs hs hown b m c news hx cur u hr hn hl h1 hm hsmall hbytes hbase fun g cap w' o1 o2 o3 => hK _ _ (h g cap w' o1 o2 o3)
end

end Go.Proofs.YtchcmhodnkgojaaGreat
