/- same of the statements: two rows of rows of strings against each other. -/
import Derived.Test.YtchcmhodnkgojaaGreatKeep1
set_option linter.all false
namespace Go.Proofs.YtchcmhodnkgojaaGreat
open Go.RowKit Go.Lib

/-- Strings, as cells. -/
def sstr (l : List (List UInt8)) : Array Value := (l.map fun b => Value.string (bstr b)).toArray
theorem sstr_size (l : List (List UInt8)) : (sstr l).size = l.length := by simp [sstr]
theorem sstr_get (l : List (List UInt8)) (i : Nat) (h : i < l.length) : (sstr l)[i]? = some (.string (bstr l[i])) := by simp [sstr, h]
theorem bstr_toList (b : List UInt8) : (bstr b).toList = b := by rw [ByteArray.toList_eq]; rfl
theorem sstr_row (l : List (List UInt8)) (i : Nat) : (sstr l).extract i (i + 7) = sstr ((l.drop i).take 7) := by
  apply Array.toList_inj.1
  rw [Array.toList_extract]
  simp [sstr, List.extract, List.map_take, List.map_drop]

section
variable {P : Program} (w : World)
theorem eqItems_strs (d : Nat) {e : TypeId} (he : P.plainKey e = true) (hu : P.underlying e = some .string) (xs ys : List (List UInt8)) : ∀ is : List Nat, (∀ i ∈ is, i < xs.length ∧ i < ys.length) →
    (Op.eqItems (d + 1) e 1 (sstr xs) (sstr ys) is).run P w = .ok (is.all fun i => xs[i]? == ys[i]?) w
  | [], _ => by simp [Op.eqItems]
  | i :: is, h => by
    have hi := h i (by simp)
    have ih := eqItems_strs d he hu xs ys is fun j hj => h j (by simp [hj])
    have px := run_part_plain (P := P) (w := w) he (xs := sstr xs) (off := i * 1) (v := .string (bstr xs[i])) (by rw [Nat.mul_one]; exact sstr_get xs i hi.1)
    have py := run_part_plain (P := P) (w := w) he (xs := sstr ys) (off := i * 1) (v := .string (bstr ys[i])) (by rw [Nat.mul_one]; exact sstr_get ys i hi.2)
    have e1 : ((bstr xs[i]).toList == (bstr ys[i]).toList) = (xs[i]? == ys[i]?) := by
      rw [bstr_toList, bstr_toList, List.getElem?_eq_getElem hi.1, List.getElem?_eq_getElem hi.2]; rfl
    simp only [Op.eqItems, Sem.run_bind, px, py, run_equalIn_string w d e _ _ hu, Result.andThen_ok, e1, List.all_cons]
    cases hc : (xs[i]? == ys[i]?)
    · simp
    · simpa using ih
theorem all_rangeS (xs ys : List (List UInt8)) (n : Nat) (hx : xs.length = n) (hy : ys.length = n) : ((List.range n).all fun i => xs[i]? == ys[i]?) = (xs == ys) := by
  rw [Bool.eq_iff_iff]
  simp only [List.all_eq_true, List.mem_range, beq_iff_eq]
  constructor
  · intro h
    apply List.ext_getElem?
    intro i
    rcases Nat.lt_or_ge i n with hi | hi
    · exact h i hi
    · rw [List.getElem?_eq_none (by omega), List.getElem?_eq_none (by omega)]
  · rintro rfl i _; rfl
theorem eqIn_row (d : Nat) {t e : TypeId} (ht : P.underlying t = some (.array 7 e)) (i : TypeInfo) (hi : P.info? e = some i) (hc : P.cellsOf e = 1) (he : P.plainKey e = true) (hu : P.underlying e = some .string) (xs ys : List (List UInt8)) (hx : xs.length = 7) (hy : ys.length = 7) :
    (Op.equalIn (d + 2) t (.agg (sstr xs)) (.agg (sstr ys))).run P w = .ok (xs == ys) w := by
  rw [run_equalIn_array w (d + 1) _ _ ht hi, hc, eqItems_strs w d he hu xs ys _ (by intro j hj; rw [List.mem_range] at hj; omega), all_rangeS xs ys 7 hx hy]
theorem eqItems_rows (d : Nat) {t e : TypeId} (ht : P.underlying t = some (.array 7 e)) (i7 : TypeInfo) (hi7 : P.info? t = some i7) (hc7 : P.cellsOf t = 7) (i : TypeInfo) (hi : P.info? e = some i) (hc : P.cellsOf e = 1) (he : P.plainKey e = true) (hu : P.underlying e = some .string)
    (xs ys : List (List UInt8)) : ∀ is : List Nat, (∀ i ∈ is, i * 7 + 7 ≤ xs.length ∧ i * 7 + 7 ≤ ys.length) →
    (Op.eqItems (d + 2) t 7 (sstr xs) (sstr ys) is).run P w = .ok (is.all fun i => (xs.drop (i * 7)).take 7 == (ys.drop (i * 7)).take 7) w
  | [], _ => by simp [Op.eqItems]
  | j :: is, h => by
    have hj := h j (by simp)
    have ih := eqItems_rows d ht i7 hi7 hc7 i hi hc he hu xs ys is fun j hj => h j (by simp [hj])
    have pt : ∀ zs : List (List UInt8), (part t (sstr zs) (j * 7)).run P w = .ok (.agg (sstr ((zs.drop (j * 7)).take 7))) w := fun zs => by
      rw [← sstr_row]
      simp [part, isAgg, run_underlying ht, run_sizeOf w hi7, hc7]
    have e1 := eqIn_row (P := P) w d ht i hi hc he hu ((xs.drop (j * 7)).take 7) ((ys.drop (j * 7)).take 7) (by rw [List.length_take, List.length_drop]; omega) (by rw [List.length_take, List.length_drop]; omega)
    simp only [Op.eqItems, Sem.run_bind, pt, e1, Result.andThen_ok, List.all_cons]
    cases hc : ((xs.drop (j * 7)).take 7 == (ys.drop (j * 7)).take 7)
    · simp
    · simpa using ih
theorem rows_all (xs ys : List (List UInt8)) (hx : xs.length = 21) (hy : ys.length = 21) : ((List.range 3).all fun i => (xs.drop (i * 7)).take 7 == (ys.drop (i * 7)).take 7) = (xs == ys) := by
  rw [Bool.eq_iff_iff]
  simp only [List.all_eq_true, List.mem_range, beq_iff_eq]
  constructor
  · intro h
    apply List.ext_getElem?
    intro k
    rcases Nat.lt_or_ge k 21 with hk | hk
    · have h1 := congrArg (·[k % 7]?) (h (k / 7) (by omega))
      simp only [List.getElem?_take, List.getElem?_drop] at h1
      rw [if_pos (Nat.mod_lt _ (by omega)), if_pos (Nat.mod_lt _ (by omega))] at h1
      rw [show k / 7 * 7 + k % 7 = k by omega] at h1
      exact h1
    · rw [List.getElem?_eq_none (by omega), List.getElem?_eq_none (by omega)]
  · rintro rfl i _; rfl
end

theorem plain_string : Tryz.prog.plainKey 9 = true := by kernel_rfl
theorem cells_string : Tryz.prog.cellsOf 9 = 1 := by kernel_rfl
theorem cells_row7 : Tryz.prog.cellsOf 30 = 7 := by kernel_rfl
theorem info_string : (Tryz.prog.info? 9).map (·.size) = some 1 := by kernel_rfl
theorem info_row7 : (Tryz.prog.info? 30).map (·.size) = some 7 := by kernel_rfl
theorem info_rows : (Tryz.prog.info? 31).map (·.size) = some 21 := by kernel_rfl
theorem info_state : (Tryz.prog.info? 33).map (·.size) = some 21 := by kernel_rfl
theorem row_rows : (Tryz.prog.underlying 31).map TypeDesc.isRow = some true := by kernel_rfl
theorem row_state : (Tryz.prog.underlying 33).map TypeDesc.isRow = some true := by kernel_rfl
theorem und_row7 : Tryz.prog.underlying 30 = some (.array 7 9) := by kernel_rfl
theorem und_rows : Tryz.prog.underlying 31 = some (.array 3 30) := by kernel_rfl
theorem guard_rows (op : BinOp) (x y : Operand) (a b : Array Value) (w : World) : (eqGuard op 31 x y (.agg a) (.agg b)).run Tryz.prog w = .ok () w := by
  cases op <;> kernel_rfl
theorem some_info {n : Nat} {t : TypeId} (h : (Tryz.prog.info? t).map (·.size) = some n) : ∃ i, Tryz.prog.info? t = some i := by
  cases hi : Tryz.prog.info? t with
  | none => simp [hi] at h
  | some i => exact ⟨i, rfl⟩
theorem eql_rows (xs ys : List (List UInt8)) (hx : xs.length = 21) (hy : ys.length = 21) (w : World) : (binOp .eql 31 (.agg (sstr xs)) (.agg (sstr ys))).run Tryz.prog w = .ok (.bool (xs == ys)) w := by
  obtain ⟨i, hi⟩ := some_info info_string
  obtain ⟨i7, hi7⟩ := some_info info_row7
  rw [run_eql_struct, run_equalIn_array w 9999 _ _ und_rows hi7, cells_row7, eqItems_rows w 9997 und_row7 i7 hi7 cells_row7 i hi cells_string plain_string Tryz.underlying9 xs ys _ (by intro j hj; rw [List.mem_range] at hj; omega), rows_all xs ys hx hy]
  rfl

set_option maxRecDepth 100000 in
set_option maxHeartbeats 1000000 in
theorem same_any (xs ys : List (List UInt8)) (hx : xs.length = 21) (hy : ys.length = 21) (w : World) :
    Calls Tryz.prog 25 #[.agg (sstr xs), .agg (sstr ys)] w fun e w' => e = .returned (.bool (xs == ys)) ∧ Frm [] w w' := by
  go_enter Tryz.func25, Tryz.ntmps25
  go_wp2_with (with_reducible first | refine stop_box rfl ?_ | refine stop_load 31 rfl ?_ | refine stop_bin 31 rfl ?_)
  refine Stopped.go (wl_box rfl 33 _ rfl (.agg (sstr xs)) rfl ?_)
  intro w1 b1 l1 f1 r1
  go_wp2_with (with_reducible first | refine stop_box rfl ?_ | refine stop_load 31 rfl ?_ | refine stop_bin 31 rfl ?_)
  refine Stopped.go (wl_box rfl 33 _ rfl (.agg (sstr ys)) rfl ?_)
  intro w2 b2 l2 f2 r2
  have q1 : Row w2 b1 (sstr xs) 33 := f2.row r1 (by simp)
  have q2 : Row w2 b2 (sstr ys) 33 := r2
  have fw := f1.trans f2 (by simp)
  clear r1 r2 f1 f2
  have hxl : ((sstr xs).toList.drop 0).take 21 = (sstr xs).toList := by rw [List.drop_zero]; exact List.take_of_length_le (by rw [Array.length_toList, sstr_size]; omega)
  have hyl : ((sstr ys).toList.drop 0).take 21 = (sstr ys).toList := by rw [List.drop_zero]; exact List.take_of_length_le (by rw [Array.length_toList, sstr_size]; omega)
  go_wp2_with (with_reducible first | refine stop_load 31 rfl ?_ | refine stop_bin 31 rfl ?_)
  refine Stopped.go (wl_load rfl 31 _ rfl b1 0 rfl row_rows 21 info_rows _ _ q1 _ hxl (by rw [Array.length_toList, sstr_size]; exact hx) ?_)
  go_wp2_with (with_reducible first | refine stop_load 31 rfl ?_ | refine stop_bin 31 rfl ?_)
  refine Stopped.go (wl_load rfl 31 _ rfl b2 0 rfl row_rows 21 info_rows _ _ q2 _ hyl (by rw [Array.length_toList, sstr_size]; exact hy) ?_)
  go_wp2_with (with_reducible first | refine stop_bin 31 rfl ?_)
  refine Stopped.go (wl_val rfl (.bool (xs == ys)) w2 (ex_bin .eql 31 31 _ _ rfl (.agg (sstr xs)) (.agg (sstr ys)) rfl rfl _ (guard_rows _ _ _ _ _ _) (eql_rows xs ys hx hy w2)) ?_)
  go_wp2_with fail
  go_ret
  exact ⟨rfl, fw⟩

end Go.Proofs.YtchcmhodnkgojaaGreat
