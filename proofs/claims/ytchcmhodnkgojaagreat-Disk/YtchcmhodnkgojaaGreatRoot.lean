/- emptyRoot and Empty: the bytes of a disk that holds no file. -/
import Derived.Test.YtchcmhodnkgojaaGreatBytes
set_option linter.all false
namespace Go.Proofs.YtchcmhodnkgojaaGreat
open Go.RowKit Go.Lib

theorem stop_copy {P : Program} {ops : Array Oper} {Q : Exit → Act → World → Prop} {a : Act} {w : World} {rest : List Oper} {o : Oper} {xs : Array Operand} {ts : Array TypeId} (_ : o.op = .call { callee := .builtin .copy, args := xs, argTypes := ts }) (h : Stopped (wpList P ops Q (o :: rest) a w)) : wpList P ops Q (o :: rest) a w := h

def magicL : List UInt8 := [99, 111, 110, 99, 111, 114, 100, 49]
/-- The root of a disk of n sectors that holds no file. -/
def rootL (n : Nat) : List UInt8 := magicL ++ [UInt8.ofNat (n / 256), UInt8.ofNat n] ++ List.replicate 54 0
theorem length_rootL (n : Nat) : (rootL n).length = 64 := by simp [rootL, magicL]

theorem root_cells (n : Nat) (hn : n ≤ 400) : ((byteCells (splice (List.replicate 64 0) 0 magicL)).toArray.setIfInBounds 8 (.int .u8 ((n : Int) / 256))).setIfInBounds 9 (.int .u8 ((n : Int) % 256)) = (byteCells (rootL n)).toArray := by
  have e1 : ((n : Int) / 256) = ((UInt8.ofNat (n / 256)).toNat : Nat) := by
    rw [UInt8.toNat_ofNat']; omega
  have e2 : ((n : Int) % 256) = ((UInt8.ofNat n).toNat : Nat) := by
    rw [UInt8.toNat_ofNat']; omega
  rw [e1, e2]
  rfl

set_option maxRecDepth 100000 in
set_option maxHeartbeats 1000000 in
theorem emptyRoot_any (n : Nat) (w : World) (hn : n ≤ 400) :
    Calls Tryz.prog 112 #[.int .i64 n] w fun e w' => e = .returned (.agg (byteCells (rootL n)).toArray) ∧ Frm [] w w' := by
  go_enter Tryz.func112, Tryz.ntmps112
  go_wp2_with (with_reducible first | refine stop_alloc rfl ?_ | refine stop_copy rfl ?_ | refine stop_load 148 rfl ?_ | refine stop_store 148 rfl ?_ | refine stop_store 5 rfl ?_)
  refine Stopped.go (wl_alloc rfl 148 rfl zBlock zero_block ?_)
  intro w1 b2 l2 f1 r2
  go_wp2_with (with_reducible first | refine stop_alloc rfl ?_ | refine stop_copy rfl ?_ | refine stop_load 148 rfl ?_ | refine stop_store 148 rfl ?_ | refine stop_store 5 rfl ?_)
  refine Stopped.go (wl_alloc rfl 148 rfl zBlock zero_block ?_)
  intro w2 b3 l3 f2 r3
  have q2 := f2.row r2 (by simp)
  have fw := f1.trans f2 (by simp)
  have n23 : b2 ≠ b3 := by have := r2.lt; omega
  have h3 : w.heap.size ≤ b3 := by have := f1.size; omega
  have r3' : Row w2 b3 (byteCells (List.replicate 64 0)).toArray 148 := r3
  clear r2 r3 f1 f2 l3
  go_wp2_with (with_reducible first | refine stop_alloc rfl ?_ | refine stop_copy rfl ?_ | refine stop_load 148 rfl ?_ | refine stop_store 148 rfl ?_ | refine stop_store 5 rfl ?_)
  refine Stopped.go (wl_val rfl _ _ (ex_copy_str _ _ _ _ 5 rfl Tryz.underlying85 (by kernel_rfl) b3 0 64 64 rfl ⟨#[99, 111, 110, 99, 111, 114, 100, 49]⟩ rfl _ _ r3' (by simp only [List.size_toArray, length_byteCells, List.length_replicate]; decide)) ?_)
  rw [show ((⟨#[99, 111, 110, 99, 111, 114, 100, 49]⟩ : ByteArray).data.toList.take 64) = magicL from rfl, over_splice]
  have q3 := r3'.setRow (byteCells (splice (List.replicate 64 0) 0 magicL)).toArray
  have f3 : Frm [b3] w2 (w2.setRow b3 (byteCells (splice (List.replicate 64 0) 0 magicL)).toArray) := Frm.setRow _ _ _ _ (by simp)
  have q2' := f3.row q2 (by simpa using n23)
  have fw3 := fw.trans f3 (by simpa using h3)
  generalize w2.setRow b3 (byteCells (splice (List.replicate 64 0) 0 magicL)).toArray = w3 at q3 q2' fw3
  clear q2 r3' f3 fw
  go_wp2_with (with_reducible first | refine stop_alloc rfl ?_ | refine stop_copy rfl ?_ | refine stop_load 148 rfl ?_ | refine stop_store 148 rfl ?_ | refine stop_store 5 rfl ?_)
  refine Stopped.go (wl_store1 rfl 5 _ _ rfl b3 8 rfl .u8 _ rfl (by kernel_rfl) _ _ q3 (by simp only [List.size_toArray, length_byteCells]; rw [length_splice _ _ _ (by decide)]; decide) ?_)
  intro w4 f4 q4
  have q2a := f4.row q2' (by simpa using n23)
  have fw4 := fw3.trans f4 (by simpa using h3)
  clear q3 q2' fw3 f4
  go_wp2_with (with_reducible first | refine stop_alloc rfl ?_ | refine stop_copy rfl ?_ | refine stop_load 148 rfl ?_ | refine stop_store 148 rfl ?_ | refine stop_store 5 rfl ?_)
  refine Stopped.go (wl_store1 rfl 5 _ _ rfl b3 9 rfl .u8 _ rfl (by kernel_rfl) _ _ q4 (by simp only [Array.size_setIfInBounds, List.size_toArray, length_byteCells]; rw [length_splice _ _ _ (by decide)]; decide) ?_)
  intro w5 f5 q5
  have q2b := f5.row q2a (by simpa using n23)
  have fw5 := fw4.trans f5 (by simpa using h3)
  clear q4 q2a fw4 f5
  rw [root_cells n hn] at q5
  have hl := length_rootL n
  generalize hR : rootL n = R at *
  have HR : Hid (rootL n = R) := hR
  clear hR
  go_wp2_with (with_reducible first | refine stop_alloc rfl ?_ | refine stop_copy rfl ?_ | refine stop_load 148 rfl ?_ | refine stop_store 148 rfl ?_ | refine stop_store 5 rfl ?_)
  refine Stopped.go (wl_load rfl 148 _ rfl b3 0 rfl row_block 64 info_block _ _ q5 (byteCells R) (by simp only [List.drop_zero]; exact List.take_of_length_le (by rw [length_byteCells]; omega)) (by rw [length_byteCells]; exact hl) ?_)
  go_wp2_with (with_reducible first | refine stop_alloc rfl ?_ | refine stop_copy rfl ?_ | refine stop_load 148 rfl ?_ | refine stop_store 148 rfl ?_ | refine stop_store 5 rfl ?_)
  refine Stopped.go (wl_store rfl 148 _ _ rfl _ 0 rfl _ rfl 64 info_block ?_ ?_ _ _ q2b ?_ ?_)
  · simp only [List.size_toArray, length_byteCells]; exact hl
  · exact byteCells_one _
  · decide
  intro w6 f6 q6
  rw [over_all _ _ (by rw [length_byteCells, hl]; rfl)] at q6
  have fw6 := fw5.trans f6 (by simp; exact l2)
  have q6' : Row w6 b2 (byteCells R).toArray 148 := q6
  clear q6
  go_wp2_with fail
  exact ret_row rfl b2 rfl rfl _ _ q6' row_block (by rw [info_block]; simp [length_byteCells, hl]) ⟨by rw [HR.out], fw6⟩

/-- The bytes of a disk of n sectors that holds no file. -/
def emptyL (n : Nat) : List UInt8 := rootL n ++ List.replicate ((n - 1) * 64) 0
theorem repeat_zero : ∀ m, repeatL [(0 : UInt8)] m = List.replicate m 0
  | 0 => rfl
  | m + 1 => by rw [repeatL, repeat_zero m, List.replicate_succ]; rfl

set_option maxRecDepth 100000 in
set_option maxHeartbeats 1000000 in
theorem empty_any (n : Nat) (w : World) (h1 : 1 ≤ n) (hn : n ≤ 400) :
    Calls Tryz.prog 77 #[.int .i64 n] w fun e w' => e = .returned (.string ⟨(emptyL n).toArray⟩) ∧ Frm [] w w' := by
  go_enter Tryz.func77, Tryz.ntmps77
  go_wp2_with fail
  refine (emptyRoot_any n w hn).mono ?_
  rintro e w1 ⟨rfl, f1⟩
  have hl := length_rootL n
  have HE : Hid (emptyL n = rootL n ++ List.replicate ((n - 1) * 64) 0) := rfl
  generalize rootL n = R at *
  go_wp2_with (with_reducible first | refine stop_alloc rfl ?_ | refine stop_store 148 rfl ?_)
  refine Stopped.go (wl_alloc rfl 148 rfl zBlock zero_block ?_)
  intro w2 b3 l3 f2 r3
  go_wp2_with (with_reducible first | refine stop_alloc rfl ?_ | refine stop_store 148 rfl ?_)
  refine Stopped.go (wl_store rfl 148 _ _ rfl _ 0 rfl _ rfl 64 info_block ?_ ?_ _ _ r3 ?_ ?_)
  · simp only [List.size_toArray, length_byteCells]; exact hl
  · exact byteCells_one _
  · decide
  intro w3 f3 q3
  rw [over_all _ _ (by rw [length_byteCells, hl]; rfl)] at q3
  have q3' : Row w3 b3 (byteCells R).toArray 148 := q3
  have fw3 := (f1.trans f2 (by simp)).trans f3 (by simp; have := f1.size; omega)
  clear q3 r3 f1 f2 f3 l3
  go_wp2_with fail
  refine calm_begin (by kernel_rfl) (by kernel_rfl) ?_
  simp only [Act.put]
  refine calm_val rfl (some 6) rfl (.slice (some ⟨b3, 0, none⟩) 64 64) (fun _ _ => by go_simp) ?_
  simp only [Act.put, List.setIfInBounds_toArray, List.set_cons_succ, List.set_cons_zero]
  refine calm_val rfl (some 7) rfl (.string (bstr R)) (fun w' hw' => ex_bytes 85 9 5 _ rfl Tryz.underlying85 Tryz.underlying5 Tryz.underlying9 b3 0 64 64 rfl R _ (hw'.row q3' (by simp)) R (by simp only [List.drop_zero]; exact List.take_of_length_le (by omega)) hl) ?_
  simp only [Act.put, List.setIfInBounds_toArray, List.set_cons_succ, List.set_cons_zero]
  refine calm_val rfl (some 8) rfl (.int .i64 n) (fun _ _ => rfl) ?_
  simp only [Act.put, List.setIfInBounds_toArray, List.set_cons_succ, List.set_cons_zero]
  refine calm_val rfl (some 9) rfl (.int .i64 (n - 1 : Nat)) (fun _ _ => by have e : ((n - 1 : Nat) : Int) = (n : Int) - 1 := by omega
                                                                            rw [e]; go_simp; exact IntWalk.i64_in _ (by omega)) ?_
  simp only [Act.put, List.setIfInBounds_toArray, List.set_cons_succ, List.set_cons_zero]
  refine calm_val rfl (some 10) rfl (.int .i64 ((n - 1) * 64 : Nat)) (fun _ _ => by have e : (((n - 1) * 64 : Nat) : Int) = ((n - 1 : Nat) : Int) * 64 := by omega
                                                                                    rw [e]; go_simp; exact IntWalk.i64_in _ (by omega)) ?_
  simp only [Act.put, List.setIfInBounds_toArray, List.set_cons_succ, List.set_cons_zero]
  refine calm_call rfl (some 11) rfl 113 #[.string ⟨#[0]⟩, .int .i64 ((n - 1) * 64 : Nat)] (.string ⟨(repeatL [0] ((n - 1) * 64)).toArray⟩) (fun _ _ => by go_simp) (fun w' hw' => ?_) ?_
  · refine (Tryz.strings_Repeat ⟨#[0]⟩ ((n - 1) * 64) w' (by omega) (by show 1 * ((n - 1) * 64) ≤ _; omega)).mono ?_
    rintro e w'' ⟨rfl, f⟩
    exact ⟨rfl, hw'.trans (Frm.of_below f) (by simp)⟩
  simp only [Act.put, List.setIfInBounds_toArray, List.set_cons_succ, List.set_cons_zero]
  refine calm_val rfl (some 12) rfl (.string ⟨(emptyL n).toArray⟩) (fun w' _ => ?_) ?_
  · refine ex_bin _ _ _ _ _ rfl (.string (bstr R)) (.string ⟨(repeatL [0] ((n - 1) * 64)).toArray⟩) rfl rfl _ rfl ?_
    have e : (⟨(emptyL n).toArray⟩ : ByteArray) = bstr R ++ ⟨(repeatL [0] ((n - 1) * 64)).toArray⟩ := by
      rw [HE.out, repeat_zero]
      apply ByteArray.ext
      simp [bstr, ByteArray.data_append]
    rw [e]
    refine run_string_add_sum (P := Tryz.prog) w' (bstr R) ⟨(repeatL [0] ((n - 1) * 64)).toArray⟩ ?_
    rw [repeat_zero]
    show R.toArray.size + (List.replicate ((n - 1) * 64) (0 : UInt8)).toArray.size ≤ _
    simp only [List.size_toArray, List.length_replicate]
    omega
  simp only [Act.put, List.setIfInBounds_toArray, List.set_cons_succ, List.set_cons_zero]
  refine calm_val rfl (some 2) rfl (.string ⟨(emptyL n).toArray⟩) (fun _ _ => rfl) ?_
  simp only [Act.put, List.setIfInBounds_toArray, List.set_cons_succ, List.set_cons_zero]
  intro w5 f5
  have fw5 := fw3.trans f5 (by simp)
  go_wp2_with fail
  go_ret
  exact ⟨rfl, fw5⟩

end Go.Proofs.YtchcmhodnkgojaaGreat
