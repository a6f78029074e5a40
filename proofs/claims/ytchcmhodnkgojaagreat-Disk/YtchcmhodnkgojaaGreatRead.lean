/- Disk.Read. -/
import Derived.Test.YtchcmhodnkgojaaGreatDisk
set_option linter.all false
namespace Go.Proofs.YtchcmhodnkgojaaGreat
open Go.RowKit Go.Lib

theorem info_block : (Tryz.prog.info? 148).map (·.size) = some 64 := by kernel_rfl
theorem info_write : (Tryz.prog.info? 240).map (·.size) = some 65 := by kernel_rfl
def zBlock : Value := .agg (byteCells (List.replicate 64 0)).toArray
def zWrite : Value := .agg (wcells (0, List.replicate 64 0)).toArray
theorem zero_block : (Tryz.prog.info? 148).map (·.zero) = some (some zBlock) := by kernel_rfl
theorem zero_write : (Tryz.prog.info? 240).map (·.zero) = some (some zWrite) := by kernel_rfl
theorem row_write : (Tryz.prog.underlying 240).map TypeDesc.isRow = some true := by kernel_rfl
theorem row_block : (Tryz.prog.underlying 148).map TypeDesc.isRow = some true := by kernel_rfl

set_option maxHeartbeats 400000 in
theorem read_any (d bl n : Nat) (vw : Value) (x : DS) (s : Int) (w : World) (h : DiskIn w d bl n vw x) (hs : 0 ≤ s) (hn : s < n) :
    Calls Tryz.prog 114 #[.pointer (some ⟨d, 0, none⟩), .int .i64 s] w fun e w' => e = .returned (.agg (byteCells (x.read s)).toArray) ∧ Frm [] w w' := by
  have dlt := h.row.lt
  have llt := h.last.lt
  obtain ⟨ad, cap, hvw⟩ := own_slice h.own
  have hfit : 64 * s.toNat + 64 ≤ x.lasting.length := by rw [h.len]; omega
  subst hvw
  go_enter Tryz.func114, Tryz.ntmps114
  go_wp2_with (with_reducible first | refine stop_alloc rfl ?_ | refine stop_load 148 rfl ?_ | refine stop_load 240 rfl ?_ | refine stop_store 148 rfl ?_ | refine stop_store 240 rfl ?_)
  refine Stopped.go (wl_alloc rfl 148 rfl zBlock zero_block ?_)
  intro w1 b4 l4 f1 r4
  have h1 := h.new f1 (by simp)
  obtain ⟨c0, c1, -⟩ := dcell h1.row
  go_wp2_with (with_reducible first | refine stop_alloc rfl ?_ | refine stop_load 148 rfl ?_ | refine stop_load 240 rfl ?_ | refine stop_store 148 rfl ?_ | refine stop_store 240 rfl ?_)
  refine Stopped.go (wl_load rfl 148 _ rfl bl (s.toNat * 64) rfl row_block 64 info_block _ _ h1.last (byteCells (seenIn x.lasting [] s)) ?_ ?_ ?_)
  · simp [seenIn, byteCells_drop, byteCells_take, Nat.mul_comm]
  · rw [length_byteCells]; exact length_seenIn _ _ hfit _ (by simp)
  go_wp2_with (with_reducible first | refine stop_alloc rfl ?_ | refine stop_load 148 rfl ?_ | refine stop_load 240 rfl ?_ | refine stop_store 148 rfl ?_ | refine stop_store 240 rfl ?_)
  refine Stopped.go (wl_alloc rfl 148 rfl zBlock zero_block ?_)
  intro w2 b5 l5 f2 r5
  go_wp2_with (with_reducible first | refine stop_alloc rfl ?_ | refine stop_load 148 rfl ?_ | refine stop_load 240 rfl ?_ | refine stop_store 148 rfl ?_ | refine stop_store 240 rfl ?_)
  refine Stopped.go (wl_store rfl 148 _ _ rfl _ 0 rfl _ rfl 64 info_block ?_ ?_ _ _ r5 ?_ ?_)
  · simp only [List.size_toArray, length_byteCells]; exact length_seenIn _ _ hfit _ (by simp)
  · exact byteCells_one _
  · decide
  intro w3 f3 r5
  have r4' := f3.row (f2.row r4 (by simp)) (by have := r4.lt; simp; omega)
  have f13 : Frm [] w w3 := (f1.trans f2 (by simp)).trans f3 (by simp; have := f1.size; omega)
  rw [over_all _ _ (by rw [length_byteCells, length_seenIn _ _ hfit _ (by simp)]; rfl)] at r5
  have h3 := h.new f13 (by simp)
  clear c0 c1 h1
  obtain ⟨c0, c1, -⟩ := dcell h3.row
  go_wp2_with (with_reducible first | refine stop_alloc rfl ?_ | refine stop_load 148 rfl ?_ | refine stop_load 240 rfl ?_ | refine stop_store 148 rfl ?_ | refine stop_store 240 rfl ?_)
  have hne : b4 ≠ b5 := by have := r4.lt; omega
  have l4' : w.heap.size ≤ b5 := by have := f1.size; omega
  go_loopw [20] (fun i wr => ∃ k : Nat, i = .int .i64 k ∧ k ≤ x.waiting.length ∧ Frm [] w wr ∧ Row wr b4 zBlock.cells 148 ∧
    Row wr b5 (byteCells (seenIn x.lasting (x.waiting.take k) s)).toArray 148) (fun i _ => x.waiting.length - (intOf i).toNat)
  case atStart => exact ⟨0, rfl, by omega, f13, r4', r5⟩
  case round =>
    obtain ⟨k, rfl, hk, fk, q4, q5⟩ := hrel
    clear c0 c1 h3 f13 r4'
    have hw := h.new fk (by simp)
    have hfew := h.few
    by_cases hlt : k < x.waiting.length
    · obtain ⟨g, cur, rfl, hg, hle, _, hcs, htk⟩ := own_some hw.own (by omega)
      have h64 := h.len64 _ (List.getElem_mem hlt)
      have hat : ((cur.toList.drop (k * 65)).take 65) = wcells x.waiting[k] := by
        rw [drop_take_of_take htk _ _ (by omega), wscells_at x.waiting h.len64 k hlt]
      clear hcs htk
      go_wp2_with (with_reducible first | refine stop_alloc rfl ?_ | refine stop_load 148 rfl ?_ | refine stop_load 240 rfl ?_ | refine stop_store 148 rfl ?_ | refine stop_store 240 rfl ?_)
      refine Stopped.go (wl_load rfl 240 _ rfl g (k * 65) rfl row_write 65 info_write _ _ hg _ hat (length_wcells _ h64) ?_)
      clear hat
      go_wp2_with (with_reducible first | refine stop_alloc rfl ?_ | refine stop_load 148 rfl ?_ | refine stop_load 240 rfl ?_ | refine stop_store 148 rfl ?_ | refine stop_store 240 rfl ?_)
      refine Stopped.go (wl_alloc rfl 240 rfl zWrite zero_write ?_)
      intro w4 b7 l7 f4 r7
      go_wp2_with (with_reducible first | refine stop_alloc rfl ?_ | refine stop_load 148 rfl ?_ | refine stop_load 240 rfl ?_ | refine stop_store 148 rfl ?_ | refine stop_store 240 rfl ?_)
      refine Stopped.go (wl_store rfl 240 _ _ rfl _ 0 rfl _ rfl 65 info_write ?_ ?_ _ _ r7 ?_ ?_)
      · simp only [List.size_toArray]; exact length_wcells _ h64
      · intro v hv; simp only [wcells, List.mem_cons] at hv; rcases hv with rfl | hv; rfl; exact byteCells_one _ v hv
      · decide
      intro w5 f5 r7'
      rw [over_all _ _ (by rw [length_wcells _ h64]; rfl)] at r7'
      clear r7
      have l7' : wr.heap.size ≤ b7 := l7
      have fk5 : Frm [] wr w5 := f4.trans f5 (by simpa using l7)
      have q4' := fk5.row q4 (by simp)
      have q5' := fk5.row q5 (by simp)
      have fw := fk.trans fk5 (by simp)
      have c0 : w5.cell? ⟨b7, 0, none⟩ = some (.int .i64 x.waiting[k].1) := by rw [r7'.cell]; rfl
      clear q4 q5 fk hw f4 f5 l7
      have l47 : b4 < w5.heap.size := q4'.lt
      by_cases he : x.waiting[k].1 = s
      · have hb : (x.waiting[k].1 == s) = true := by simp [he]
        have HE : Hid (x.waiting[k].1 = s) := he
        clear he
        go_wp2_with (with_reducible first | refine stop_alloc rfl ?_ | refine stop_load 148 rfl ?_ | refine stop_load 240 rfl ?_ | refine stop_store 148 rfl ?_ | refine stop_store 240 rfl ?_)
        refine Stopped.go (wl_load rfl 148 _ rfl b7 1 rfl row_block 64 info_block _ _ r7' (byteCells x.waiting[k].2) ?_ (by rw [length_byteCells, h64]) ?_)
        · simp [wcells]; rw [List.take_of_length_le]; rw [length_byteCells, h64]; omega
        go_wp2_with (with_reducible first | refine stop_alloc rfl ?_ | refine stop_load 148 rfl ?_ | refine stop_load 240 rfl ?_ | refine stop_store 148 rfl ?_ | refine stop_store 240 rfl ?_)
        refine Stopped.go (wl_store rfl 148 _ _ rfl _ 0 rfl _ rfl 64 info_block ?_ ?_ _ _ q5' ?_ ?_)
        · simp only [List.size_toArray, length_byteCells, h64]
        · exact byteCells_one _
        · simp only [List.size_toArray, length_byteCells]; rw [length_seenIn _ _ hfit _ (fun p hp => h.len64 p (List.mem_of_mem_take hp))]; omega
        intro w6 f6 q6
        rw [over_all _ _ (by simp only [List.size_toArray, length_byteCells]; rw [length_seenIn _ _ hfit _ (fun p hp => h.len64 p (List.mem_of_mem_take hp)), h64])] at q6
        have q4'' := f6.row q4' (by simp; exact hne)
        have fw6 : Frm [] w w6 := fw.trans f6 (by simp; omega)
        go_wp2_with (with_reducible first | refine stop_alloc rfl ?_ | refine stop_load 148 rfl ?_ | refine stop_load 240 rfl ?_ | refine stop_store 148 rfl ?_ | refine stop_store 240 rfl ?_)
        go_roundw
        case rel =>
          refine ⟨k + 1, by go_num, by omega, fw6, q4'', ?_⟩
          rw [seenIn_snoc _ _ _ _ hlt, if_pos HE.out]
          exact q6
        case measure => simp [intOf]; omega
      · have hb : (x.waiting[k].1 == s) = false := by simp [he]
        have HE : Hid (¬ x.waiting[k].1 = s) := he
        clear he
        go_wp2_with (with_reducible first | refine stop_alloc rfl ?_ | refine stop_load 148 rfl ?_ | refine stop_load 240 rfl ?_ | refine stop_store 148 rfl ?_ | refine stop_store 240 rfl ?_)
        go_roundw
        case rel =>
          refine ⟨k + 1, by go_num, by omega, fw, q4', ?_⟩
          rw [seenIn_snoc _ _ _ _ hlt, if_neg HE.out]
          exact q5'
        case measure => simp [intOf]; omega
    · have hk' : k = x.waiting.length := by omega
      have HK : Hid (k = x.waiting.length) := hk'
      clear hk'
      go_wp2_with (with_reducible first | refine stop_alloc rfl ?_ | refine stop_load 148 rfl ?_ | refine stop_load 240 rfl ?_ | refine stop_store 148 rfl ?_ | refine stop_store 240 rfl ?_)
      refine Stopped.go (wl_load rfl 148 _ rfl b5 0 rfl row_block 64 info_block _ _ q5 (byteCells (x.read s)) ?_ ?_ ?_)
      · simp only [List.drop_zero]
        rw [HK.out, List.take_of_length_le (Nat.le_refl _), List.take_of_length_le (by rw [length_byteCells, length_seenIn _ _ hfit _ h.len64]; omega)]
        rfl
      · rw [length_byteCells]; exact length_seenIn _ _ hfit _ h.len64
      go_wp2_with (with_reducible first | refine stop_alloc rfl ?_ | refine stop_load 148 rfl ?_ | refine stop_load 240 rfl ?_ | refine stop_store 148 rfl ?_ | refine stop_store 240 rfl ?_)
      refine Stopped.go (wl_store rfl 148 _ _ rfl _ 0 rfl _ rfl 64 info_block ?_ ?_ _ _ q4 ?_ ?_)
      · simp only [List.size_toArray, length_byteCells]; exact length_seenIn _ _ hfit _ h.len64
      · exact byteCells_one _
      · decide
      intro w6 f6 q6
      rw [over_all _ _ (by simp only [length_byteCells]; rw [show (x.read s).length = 64 from length_seenIn _ _ hfit _ h.len64]; rfl)] at q6
      have fw6 : Frm [] w w6 := fk.trans f6 (by simp; omega)
      go_wp2_with (with_reducible first | refine stop_alloc rfl ?_ | refine stop_load 148 rfl ?_ | refine stop_load 240 rfl ?_ | refine stop_store 148 rfl ?_ | refine stop_store 240 rfl ?_)
      exact ret_row rfl b4 rfl rfl _ _ q6 row_block (by simp only [List.size_toArray, length_byteCells]; rw [show (x.read s).length = 64 from length_seenIn _ _ hfit _ h.len64]; exact info_block) ⟨rfl, fw6⟩

end Go.Proofs.YtchcmhodnkgojaaGreat
