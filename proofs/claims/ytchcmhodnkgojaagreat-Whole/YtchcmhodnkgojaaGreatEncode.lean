/- encode: a file as a record. -/
import Derived.Test.YtchcmhodnkgojaaGreatFree
set_option linter.all false
namespace Go.Proofs.YtchcmhodnkgojaaGreat
open Go.RowKit Go.Lib

def splice (l : List UInt8) (o : Nat) (v : List UInt8) : List UInt8 := l.take o ++ v ++ l.drop (o + v.length)
theorem over_splice (l : List UInt8) (o : Nat) (v : List UInt8) : over (byteCells l).toArray o (byteCells v) = (byteCells (splice l o v)).toArray := by
  simp [over, splice, byteCells_append, byteCells_take, byteCells_drop, length_byteCells]
theorem length_splice (l : List UInt8) (o : Nat) (v : List UInt8) (h : o + v.length ≤ l.length) : (splice l o v).length = l.length := by
  simp [splice]; omega
/-- The three numbers at a record's head. -/
def encHead (s p c : Nat) : List UInt8 := (((List.replicate 128 (0 : UInt8)).set 0 (UInt8.ofNat s)).set 1 (UInt8.ofNat p)).set 2 (UInt8.ofNat c)
def encRec (s : Nat) (p c : List UInt8) : List UInt8 := splice (splice (encHead s p.length c.length) 3 (p.take 8)) 11 (c.take 117)
theorem length_encHead (s p c : Nat) : (encHead s p c).length = 128 := by simp [encHead]
theorem length_encRec (s : Nat) (p c : List UInt8) : (encRec s p c).length = 128 := by
  unfold encRec
  rw [length_splice _ _ _ (by rw [length_splice _ _ _ (by rw [length_encHead, List.length_take]; omega), length_encHead, List.length_take]; omega), length_splice _ _ _ (by rw [length_encHead, List.length_take]; omega), length_encHead]
theorem head_cells (s p c : Nat) (hs : s < 256) (hp : p < 256) (hc : c < 256) : (((byteCells (List.replicate 128 0)).toArray.setIfInBounds 0 (.int .u8 s)).setIfInBounds 1 (.int .u8 p)).setIfInBounds 2 (.int .u8 c) = (byteCells (encHead s p c)).toArray := by
  unfold encHead
  rw [byteCells_set, byteCells_set, byteCells_set]
  simp [hs, hp, hc, Nat.mod_eq_of_lt]

set_option maxRecDepth 100000 in
set_option maxHeartbeats 1000000 in
theorem encode_any (s : Nat) (p c : ByteArray) (w : World) (hs : s < 256) (hp : p.size < 256) (hc : c.size < 256) :
    Calls Tryz.prog 110 #[.agg #[.int .i64 s, .string p, .string c]] w fun e w' => e = .returned (.agg (byteCells (encRec s p.data.toList c.data.toList)).toArray) ∧ Frm [] w w' := by
  have hpl : Hid (p.data.toList.length = p.size) := by show _ = _; rw [Array.length_toList]; rfl
  have hcl : Hid (c.data.toList.length = c.size) := by show _ = _; rw [Array.length_toList]; rfl
  go_enter Tryz.func110, Tryz.ntmps110
  go_wp2_with (with_reducible first | refine stop_box rfl ?_ | refine stop_alloc rfl ?_ | refine stop_load 138 rfl ?_ | refine stop_store 138 rfl ?_ | refine stop_store 5 rfl ?_)
  refine Stopped.go (wl_box rfl 107 _ rfl (.agg #[.int .i64 s, .string p, .string c]) rfl ?_)
  intro w1 b1 l1 f1 r1
  go_wp2_with (with_reducible first | refine stop_box rfl ?_ | refine stop_alloc rfl ?_ | refine stop_load 138 rfl ?_ | refine stop_store 138 rfl ?_ | refine stop_store 5 rfl ?_)
  refine Stopped.go (wl_alloc rfl 138 rfl zRecord zero_record ?_)
  intro w2 b2 l2 f2 r2
  go_wp2_with (with_reducible first | refine stop_box rfl ?_ | refine stop_alloc rfl ?_ | refine stop_load 138 rfl ?_ | refine stop_store 138 rfl ?_ | refine stop_store 5 rfl ?_)
  refine Stopped.go (wl_alloc rfl 138 rfl zRecord zero_record ?_)
  intro w3 b3 l3 f3 r3
  have q1 : Row w3 b1 #[.int .i64 s, .string p, .string c] 107 := f3.row (f2.row r1 (by simp)) (by simp)
  have q2 := f3.row r2 (by simp)
  have f13 := (f1.trans f2 (by simp)).trans f3 (by simp)
  have hb2 : w.heap.size ≤ b2 := by have := f1.size; omega
  have hb3 : w.heap.size ≤ b3 := by have := f1.size; have := f2.size; omega
  have n12 : b1 ≠ b2 := by have := r1.lt; omega
  have n13 : b1 ≠ b3 := by have := r1.lt; have := f2.size; omega
  have n23 : b2 ≠ b3 := by have := r2.lt; omega
  have r3' : Row w3 b3 (byteCells (List.replicate 128 0)).toArray 138 := r3
  clear r1 r2 r3 f1 f2 f3 l1 l2 l3
  have c0 : w3.cell? ⟨b1, 0, none⟩ = some (.int .i64 s) := by rw [q1.cell]; rfl
  go_wp2_with (with_reducible first | refine stop_box rfl ?_ | refine stop_alloc rfl ?_ | refine stop_load 138 rfl ?_ | refine stop_store 138 rfl ?_ | refine stop_store 5 rfl ?_)
  refine Stopped.go (wl_store1 rfl 5 _ _ rfl b3 0 rfl .u8 s rfl (by kernel_rfl) _ _ r3' (by simp only [List.size_toArray, length_byteCells, List.length_replicate]; omega) ?_)
  intro w4 f4 r4
  have q1a := f4.row q1 (by simpa using n13)
  have q2a := f4.row q2 (by simpa using n23)
  have c1 : w4.cell? ⟨b1, 1, none⟩ = some (.string p) := by rw [q1a.cell]; rfl
  clear c0
  go_wp2_with (with_reducible first | refine stop_box rfl ?_ | refine stop_alloc rfl ?_ | refine stop_load 138 rfl ?_ | refine stop_store 138 rfl ?_ | refine stop_store 5 rfl ?_)
  refine Stopped.go (wl_store1 rfl 5 _ _ rfl b3 1 rfl .u8 p.size rfl (by kernel_rfl) _ _ r4 (by simp only [Array.size_setIfInBounds, List.size_toArray, length_byteCells, List.length_replicate]; omega) ?_)
  intro w5 f5 r5
  have q1b := f5.row q1a (by simpa using n13)
  have q2b := f5.row q2a (by simpa using n23)
  have c2 : w5.cell? ⟨b1, 2, none⟩ = some (.string c) := by rw [q1b.cell]; rfl
  clear c1
  go_wp2_with (with_reducible first | refine stop_box rfl ?_ | refine stop_alloc rfl ?_ | refine stop_load 138 rfl ?_ | refine stop_store 138 rfl ?_ | refine stop_store 5 rfl ?_)
  refine Stopped.go (wl_store1 rfl 5 _ _ rfl b3 2 rfl .u8 c.size rfl (by kernel_rfl) _ _ r5 (by simp only [Array.size_setIfInBounds, List.size_toArray, length_byteCells, List.length_replicate]; omega) ?_)
  intro w6 f6 r6
  have q1c := f6.row q1b (by simpa using n13)
  have q2c := f6.row q2b (by simpa using n23)
  rw [head_cells s p.size c.size hs hp hc] at r6
  have fw : Frm [] w w6 := ((f13.trans f4 (by simpa using hb3)).trans f5 (by simpa using hb3)).trans f6 (by simpa using hb3)
  clear c2 f4 f5 f6 r4 r5 q1a q1b q2a q2b q1 q2 r3' f13
  go_wp2_with (with_reducible first | refine stop_box rfl ?_ | refine stop_alloc rfl ?_ | refine stop_load 138 rfl ?_ | refine stop_store 138 rfl ?_ | refine stop_store 5 rfl ?_)
  -- the path
  refine at_begin 5 (by kernel_rfl) rfl ?_
  have fd : Frm [] w6 w6.drew := Frm.drew _ _
  have q1 := fd.row q1c (by simp)
  have q2 := fd.row q2c (by simp)
  have q3 := fd.row r6 (by simp)
  have fw7 := fw.trans fd (by simp)
  generalize w6.drew = w7 at q1 q2 q3 fw7
  clear q1c q2c r6 fw fd
  have hC : Lets (fun w' : World => Row w' b1 #[.int .i64 s, .string p, .string c] 107) := ⟨fun w o h => (Frm.alloc [] w o).row h (by simp), fun w h => h⟩
  refine at_pure 0 (by omega) (some 20) rfl rfl (by kernel_rfl) (by kernel_rfl) (by kernel_rfl) (fun _ _ _ h => h) rfl (v := .slice (some ⟨b3, 3, none⟩) 8 125) (fun _ => ex_slice_fromto 138 5 128 _ _ _ rfl Tryz.underlying138 (by kernel_rfl) b3 0 rfl 3 11 rfl rfl (by omega) (by omega) (by omega) (by omega) _ _ _ (by omega) (by omega) (by omega)) ?_
  refine at_pure 1 (by omega) (some 21) rfl rfl (by kernel_rfl) (by kernel_rfl) (by kernel_rfl) (fun _ _ _ h => h) rfl (v := .pointer (some ⟨b1, 0, none⟩)) (fun _ => by go_simp) ?_
  simp only [Act.put, List.setIfInBounds_toArray, List.set_cons_succ, List.set_cons_zero]
  refine at_pure 2 (by omega) (some 22) rfl rfl (by kernel_rfl) (by kernel_rfl) (by kernel_rfl) (fun _ _ _ h => h) rfl (v := .pointer (some ⟨b1, 1, none⟩)) (fun _ => by go_simp) ?_
  refine at_tame 3 _ hC q1 (by omega) (some 23) rfl rfl (by kernel_rfl) (by kernel_rfl) (by kernel_rfl) (fun _ _ _ h => h) rfl (by kernel_rfl) (v := .string p) (fun w' hw' => by have := hw'.cell 1; go_simp) ?_
  simp only [Act.put, List.setIfInBounds_toArray, List.set_cons_succ, List.set_cons_zero]
  refine at_val 4 (by omega) (some 24) rfl rfl (by kernel_rfl) rfl _ _ (ex_copy_str _ _ _ _ 5 rfl Tryz.underlying85 (by kernel_rfl) b3 3 8 125 rfl p rfl _ _ q3 ?_) ?_
  · simp only [List.size_toArray, length_byteCells, length_encHead]; have : Nat.min p.size 8 ≤ 8 := Nat.min_le_right _ _; omega
  rw [over_splice]
  refine at_done (by kernel_rfl) ?_
  have q3' := q3.setRow (byteCells (splice (encHead s p.size c.size) 3 (p.data.toList.take 8))).toArray
  have f8 : Frm [b3] w7 (w7.setRow b3 (byteCells (splice (encHead s p.size c.size) 3 (p.data.toList.take 8))).toArray) := Frm.setRow _ _ _ _ (by simp)
  have q1' := f8.row q1 (by simpa using n13)
  have q2' := f8.row q2 (by simpa using n23)
  have fw8 : Frm [] w _ := fw7.trans f8 (by simpa using hb3)
  generalize w7.setRow b3 (byteCells (splice (encHead s p.size c.size) 3 (p.data.toList.take 8))).toArray = w8 at q1' q2' q3' fw8
  clear q1 q2 q3 f8 fw7
  simp only [Act.put, List.setIfInBounds_toArray, List.set_cons_succ, List.set_cons_zero]
  go_wp2_with (with_reducible first | refine stop_box rfl ?_ | refine stop_alloc rfl ?_ | refine stop_load 138 rfl ?_ | refine stop_store 138 rfl ?_ | refine stop_store 5 rfl ?_)
  -- the content
  refine at_begin 4 (by kernel_rfl) rfl ?_
  have fd : Frm [] w8 w8.drew := Frm.drew _ _
  have q1 := fd.row q1' (by simp)
  have q2 := fd.row q2' (by simp)
  have q3 := fd.row q3' (by simp)
  have fw9 := fw8.trans fd (by simp)
  generalize w8.drew = w9 at q1 q2 q3 fw9
  clear q1' q2' q3' fw8 fd
  refine at_pure 0 (by omega) (some 25) rfl rfl (by kernel_rfl) (by kernel_rfl) (by kernel_rfl) (fun _ _ _ h => h) rfl (v := .slice (some ⟨b3, 11, none⟩) 117 117) (fun _ => ex_slice_from 138 5 128 _ _ rfl Tryz.underlying138 (by kernel_rfl) b3 0 rfl 11 rfl (by omega) (by omega) _ _ (by omega) (by omega)) ?_
  refine at_pure 1 (by omega) (some 26) rfl rfl (by kernel_rfl) (by kernel_rfl) (by kernel_rfl) (fun _ _ _ h => h) rfl (v := .pointer (some ⟨b1, 2, none⟩)) (fun _ => by go_simp) ?_
  refine at_tame 2 _ hC q1 (by omega) (some 27) rfl rfl (by kernel_rfl) (by kernel_rfl) (by kernel_rfl) (fun _ _ _ h => h) rfl (by kernel_rfl) (v := .string c) (fun w' hw' => by have := hw'.cell 2; go_simp) ?_
  simp only [Act.put, List.setIfInBounds_toArray, List.set_cons_succ, List.set_cons_zero]
  have hsp : (splice (encHead s p.size c.size) 3 (p.data.toList.take 8)).length = 128 := by rw [length_splice _ _ _ (by rw [length_encHead, List.length_take]; omega), length_encHead]
  refine at_val 3 (by omega) (some 28) rfl rfl (by kernel_rfl) rfl _ _ (ex_copy_str _ _ _ _ 5 rfl Tryz.underlying85 (by kernel_rfl) b3 11 117 117 rfl c rfl _ _ q3 ?_) ?_
  · simp only [List.size_toArray, length_byteCells, hsp]; have : Nat.min c.size 117 ≤ 117 := Nat.min_le_right _ _; omega
  rw [over_splice]
  refine at_done (by kernel_rfl) ?_
  have er : splice (splice (encHead s p.size c.size) 3 (p.data.toList.take 8)) 11 (c.data.toList.take 117) = encRec s p.data.toList c.data.toList := by unfold encRec; rw [hpl.out, hcl.out]
  rw [er]
  have q3' := q3.setRow (byteCells (encRec s p.data.toList c.data.toList)).toArray
  have f10 : Frm [b3] w9 (w9.setRow b3 (byteCells (encRec s p.data.toList c.data.toList)).toArray) := Frm.setRow _ _ _ _ (by simp)
  have q2' := f10.row q2 (by simpa using n23)
  have fw10 : Frm [] w _ := fw9.trans f10 (by simpa using hb3)
  generalize w9.setRow b3 (byteCells (encRec s p.data.toList c.data.toList)).toArray = w10 at q2' q3' fw10
  have h128 : Hid ((encRec s p.data.toList c.data.toList).length = 128) := length_encRec _ _ _
  clear q1 q2 q3 f10 fw9 er hsp hC
  simp only [Act.put, List.setIfInBounds_toArray, List.set_cons_succ, List.set_cons_zero]
  go_wp2_with (with_reducible first | refine stop_box rfl ?_ | refine stop_alloc rfl ?_ | refine stop_load 138 rfl ?_ | refine stop_store 138 rfl ?_ | refine stop_store 5 rfl ?_)
  refine Stopped.go (wl_load rfl 138 _ rfl b3 0 rfl row_record 128 info_record _ _ q3' (byteCells (encRec s p.data.toList c.data.toList)) ?_ ?_ ?_)
  · simp only [List.drop_zero]; exact List.take_of_length_le (by rw [length_byteCells]; exact Nat.le_of_eq h128.out)
  · rw [length_byteCells]; exact h128.out
  go_wp2_with (with_reducible first | refine stop_box rfl ?_ | refine stop_alloc rfl ?_ | refine stop_load 138 rfl ?_ | refine stop_store 138 rfl ?_ | refine stop_store 5 rfl ?_)
  refine Stopped.go (wl_store rfl 138 _ _ rfl _ 0 rfl _ rfl 128 info_record ?_ ?_ _ _ q2' ?_ ?_)
  · simp only [List.size_toArray, length_byteCells]; exact h128.out
  · exact byteCells_one _
  · decide
  intro w11 f11 q11
  rw [over_all _ _ (by simp only [length_byteCells]; rw [h128.out]; rfl)] at q11
  have fw11 : Frm [] w w11 := fw10.trans f11 (by simpa using hb2)
  go_wp2_with (with_reducible first | refine stop_box rfl ?_ | refine stop_alloc rfl ?_ | refine stop_load 138 rfl ?_ | refine stop_store 138 rfl ?_ | refine stop_store 5 rfl ?_)
  exact ret_row rfl b2 rfl rfl _ _ q11 row_record (by simp only [List.size_toArray, length_byteCells]; rw [h128.out]; exact info_record) ⟨rfl, fw11⟩

end Go.Proofs.YtchcmhodnkgojaaGreat
