/- Arrays of bytes against each other. -/
import Derived.Test.YtchcmhodnkgojaaGreatRoot
import Derived.DeepKeys
set_option linter.all false
namespace Go.Proofs.YtchcmhodnkgojaaGreat
open Go.RowKit Go.Lib

section
variable {P : Program} (w : World)
theorem run_equalIn_u8 (d : Nat) {e : TypeId} (hu : P.underlying e = some (.int .u8)) (a b : Int) : (Op.equalIn (d + 1) e (.int .u8 a) (.int .u8 b)).run P w = .ok (a == b) w := by
  simp [Op.equalIn, run_underlying hu]
theorem eqItems_bytes (d : Nat) {e : TypeId} (he : P.plainKey e = true) (hu : P.underlying e = some (.int .u8)) (xs ys : List UInt8) : ∀ is : List Nat, (∀ i ∈ is, i < xs.length ∧ i < ys.length) →
    (Op.eqItems (d + 1) e 1 (byteCells xs).toArray (byteCells ys).toArray is).run P w = .ok (is.all fun i => xs[i]? == ys[i]?) w
  | [], _ => by simp [Op.eqItems]
  | i :: is, h => by
    have hi := h i (by simp)
    have ih := eqItems_bytes d he hu xs ys is fun j hj => h j (by simp [hj])
    have px := run_part_plain (P := P) (w := w) he (xs := (byteCells xs).toArray) (off := i * 1) (v := .int .u8 (xs[i].toNat)) (by simp [byteCells, hi.1])
    have py := run_part_plain (P := P) (w := w) he (xs := (byteCells ys).toArray) (off := i * 1) (v := .int .u8 (ys[i].toNat)) (by simp [byteCells, hi.2])
    have e1 : ((xs[i].toNat : Int) == (ys[i].toNat : Int)) = (xs[i]? == ys[i]?) := by
      rw [Bool.eq_iff_iff]; simp only [beq_iff_eq, List.getElem?_eq_getElem hi.1, List.getElem?_eq_getElem hi.2, Option.some.injEq, ← UInt8.toNat_inj]; exact Int.ofNat_inj
    simp only [Op.eqItems, Sem.run_bind, px, py, run_equalIn_u8 w d hu, Result.andThen_ok, e1, List.all_cons]
    cases hc : (xs[i]? == ys[i]?)
    · simp
    · simpa using ih
theorem all_range (xs ys : List UInt8) (n : Nat) (hx : xs.length = n) (hy : ys.length = n) : ((List.range n).all fun i => xs[i]? == ys[i]?) = (xs == ys) := by
  rw [Bool.eq_iff_iff]
  simp only [List.all_eq_true, List.mem_range, beq_iff_eq]
  constructor
  · intro h
    apply List.ext_getElem?
    intro i
    rcases Nat.lt_or_ge i n with hi | hi
    · exact h i hi
    · rw [List.getElem?_eq_none (by omega), List.getElem?_eq_none (by omega)]
  · rintro rfl i _; rfl
theorem eqIn_bytes (d : Nat) {t e : TypeId} (n : Nat) (ht : P.underlying t = some (.array n e)) (i : TypeInfo) (hi : P.info? e = some i) (hc : P.cellsOf e = 1) (he : P.plainKey e = true) (hu : P.underlying e = some (.int .u8)) (xs ys : List UInt8) (hx : xs.length = n) (hy : ys.length = n) :
    (Op.equalIn (d + 2) t (.agg (byteCells xs).toArray) (.agg (byteCells ys).toArray)).run P w = .ok (xs == ys) w := by
  rw [run_equalIn_array w (d + 1) _ _ ht hi, hc, eqItems_bytes w d he hu xs ys _ (by intro j hj; rw [List.mem_range] at hj; omega), all_range xs ys n hx hy]
end

theorem plain_byte : Tryz.prog.plainKey 5 = true := by kernel_rfl
theorem cells_byte : Tryz.prog.cellsOf 5 = 1 := by kernel_rfl
theorem guard_bytes (op : BinOp) (x y : Operand) (a b : Array Value) (w : World) : (eqGuard op 148 x y (.agg a) (.agg b)).run Tryz.prog w = .ok () w := by
  cases op <;> kernel_rfl
theorem guard_record (op : BinOp) (x y : Operand) (a b : Array Value) (w : World) : (eqGuard op 138 x y (.agg a) (.agg b)).run Tryz.prog w = .ok () w := by
  cases op <;> kernel_rfl
theorem some_byte : ∃ i, Tryz.prog.info? 5 = some i := by
  have := info_byte
  cases hi : Tryz.prog.info? 5 with
  | none => simp [hi] at this
  | some i => exact ⟨i, rfl⟩
theorem eql_block (xs ys : List UInt8) (hx : xs.length = 64) (hy : ys.length = 64) (w : World) : (binOp .eql 148 (.agg (byteCells xs).toArray) (.agg (byteCells ys).toArray)).run Tryz.prog w = .ok (.bool (xs == ys)) w := by
  obtain ⟨i, hi⟩ := some_byte
  rw [run_eql_struct, eqIn_bytes w 9998 64 und_blocks i hi cells_byte plain_byte Tryz.underlying5 xs ys hx hy]
  rfl
theorem neq_record (xs ys : List UInt8) (hx : xs.length = 128) (hy : ys.length = 128) (w : World) : (binOp .neq 138 (.agg (byteCells xs).toArray) (.agg (byteCells ys).toArray)).run Tryz.prog w = .ok (.bool (!(xs == ys))) w := by
  obtain ⟨i, hi⟩ := some_byte
  rw [run_neq_struct, eqIn_bytes w 9998 128 Tryz.underlying138 i hi cells_byte plain_byte Tryz.underlying5 xs ys hx hy]
  rfl

end Go.Proofs.YtchcmhodnkgojaaGreat
