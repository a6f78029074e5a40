/- Records: a file as a slot holds it. -/
import Derived.Test.YtchcmhodnkgojaaGreatSlots
import Derived.Test.YtchcmhodnkgojaaGreatBuild
import Derived.Test.YtchcmhodnkgojaaGreatDrawn
set_option linter.all false
namespace Go.Proofs.YtchcmhodnkgojaaGreat
open Go.RowKit Go.Lib

theorem info_record : (Tryz.prog.info? 138).map (·.size) = some 128 := by kernel_rfl
theorem row_record : (Tryz.prog.underlying 138).map TypeDesc.isRow = some true := by kernel_rfl
def zRecord : Value := .agg (byteCells (List.replicate 128 0)).toArray
theorem zero_record : (Tryz.prog.info? 138).map (·.zero) = some (some zRecord) := by kernel_rfl

/-- Sector number j. -/
def DS.sec (x : DS) (j : Nat) : List UInt8 := x.read j
theorem sec_any (d bl n : Nat) (vw : Value) (x : DS) (j : Nat) (s : Int) (hs : s = j) (w : World) (h : DiskIn w d bl n vw x) (hn : j < n) :
    Calls Tryz.prog 114 #[.pointer (some ⟨d, 0, none⟩), .int .i64 s] w fun e w' => e = .returned (.agg (byteCells (x.sec j)).toArray) ∧ Frm [] w w' := by
  subst hs
  exact read_any d bl n vw x j w h (by omega) (by omega)
theorem length_sec {w : World} {d bl n : Nat} {vw : Value} {x : DS} (h : DiskIn w d bl n vw x) (j : Nat) (hn : j < n) : (x.sec j).length = 64 := length_seenIn _ _ (by rw [h.len]; omega) _ h.len64

/-- What a slot holds. -/
def recOf (x : DS) (i : Nat) : List UInt8 := x.sec (1 + 2 * i) ++ x.sec (2 + 2 * i)
/-- The first k of a slot's two sectors, zeros behind them. -/
def recTo (x : DS) (i : Nat) : Nat → List UInt8
  | 0 => List.replicate 128 0
  | 1 => x.sec (1 + 2 * i) ++ List.replicate 64 0
  | _ => recOf x i
theorem over_recTo (x : DS) (i k : Nat) (hk : k < 2) (h1 : (x.sec (1 + 2 * i)).length = 64) (h2 : (x.sec (2 + 2 * i)).length = 64) : over (byteCells (recTo x i k)).toArray (k * 64) (byteCells (x.sec (1 + 2 * i + k))) = (byteCells (recTo x i (k + 1))).toArray := by
  have e : 1 + 2 * i + 1 = 2 + 2 * i := by omega
  rcases (by omega : k = 0 ∨ k = 1) with rfl | rfl
  · simp [over, recTo, byteCells, h1]
  · simp [over, recTo, recOf, byteCells, h1, h2, e]
theorem length_recTo (x : DS) (i k : Nat) (h1 : (x.sec (1 + 2 * i)).length = 64) (h2 : (x.sec (2 + 2 * i)).length = 64) : (recTo x i k).length = 128 := by
  unfold recTo
  split <;> simp [recOf, h1, h2]

set_option maxRecDepth 100000 in
set_option maxHeartbeats 1000000 in
theorem readRecord_any (d bl n : Nat) (vw : Value) (x : DS) (i : Nat) (w : World) (h : DiskIn w d bl n vw x) (hi : i < nslots n) :
    Calls Tryz.prog 82 #[.pointer (some ⟨d, 0, none⟩), .int .i64 i] w fun e w' => e = .returned (.agg (byteCells (recOf x i)).toArray) ∧ Frm [] w w' := by
  have hlo := h.lo
  have hhi := h.hi
  have hin : 2 * i + 2 < n := by unfold nslots at hi; omega
  have hi54 : i < 54 := by unfold nslots at hi; omega
  have hl1 : ∀ j : Nat, j < n → Hid ((x.sec j).length = 64) := fun j hj => length_sec h j hj
  go_enter Tryz.func82, Tryz.ntmps82
  go_wp2_with (with_reducible first | refine stop_alloc rfl ?_)
  refine Stopped.go (wl_alloc rfl 138 rfl zRecord zero_record ?_)
  intro w1 b4 l4 f1 r4
  go_wp2_with (with_reducible first | refine stop_alloc rfl ?_)
  refine Stopped.go (wl_alloc rfl 138 rfl zRecord zero_record ?_)
  intro w2 b5 l5 f2 r5
  have r4' := f2.row r4 (by simp)
  have f12 := f1.trans f2 (by simp)
  have l4w : w.heap.size ≤ b4 := l4
  have l5w : w.heap.size ≤ b5 := by have := f1.size; omega
  have hne : b4 ≠ b5 := by have := r4.lt; omega
  clear f1 f2 r4 l5
  go_wp2_with fail
  go_loopw [8] (fun c wr => ∃ k : Nat, c = .int .i64 k ∧ k ≤ 2 ∧ Frm [] w wr ∧ Row wr b4 zRecord.cells 138 ∧ Row wr b5 (byteCells (recTo x i k)).toArray 138) (fun c _ => 2 - (intOf c).toNat)
  case atStart => exact ⟨0, rfl, by omega, f12, r4', r5⟩
  case round =>
    obtain ⟨k, rfl, hk, fk, q4, q5⟩ := hrel
    clear f12 r4' r5
    by_cases hlt : k < 2
    · have h0 := h.new fk (by simp)
      go_wp2_with fail
      refine (firstSector_any i (by omega) wr).mono ?_
      rintro e w3 ⟨rfl, rfl⟩
      go_wp2_with fail
      have hlk := hl1 (1 + 2 * i + k) (by omega)
      refine (sec_any d bl n vw x (1 + 2 * i + k) _ (by omega) w3 h0 (by omega)).mono ?_
      rintro e w4 ⟨rfl, f4⟩
      go_wp2_with (with_reducible first | refine stop_alloc rfl ?_ | refine stop_store 148 rfl ?_)
      refine Stopped.go (wl_alloc rfl 148 rfl zBlock zero_block ?_)
      intro w5 b7 l7 f5 r7
      go_wp2_with (with_reducible first | refine stop_alloc rfl ?_ | refine stop_store 148 rfl ?_)
      refine Stopped.go (wl_store rfl 148 _ _ rfl _ 0 rfl _ rfl 64 info_block ?_ ?_ _ _ r7 ?_ ?_)
      · simp only [List.size_toArray, length_byteCells]; exact hlk.out
      · exact byteCells_one _
      · decide
      intro w6 f6 r7'
      rw [over_all _ _ (by rw [length_byteCells, hlk.out]; rfl)] at r7'
      have f36 : Frm [] w3 w6 := (f4.trans f5 (by simp)).trans f6 (by simp; have := f4.size; omega)
      have q4' := f36.row q4 (by simp)
      have q5' := f36.row q5 (by simp)
      have fw := fk.trans f36 (by simp)
      have b57 : b5 ≠ b7 := by have := q5.lt; have := f4.size; omega
      clear q4 q5 fk f36 f4 f5 f6 r7 l7 h0
      go_wp2_with fail
      refine at_begin 5 (by kernel_rfl) rfl ?_
      have f7 : Frm [] w6 w6.drew := Frm.drew _ _
      have q4 := f7.row q4' (by simp)
      have q5 := f7.row q5' (by simp)
      have q7 := f7.row r7' (by simp)
      have fw7 := fw.trans f7 (by simp)
      generalize w6.drew = w7 at q4 q5 q7 fw7
      clear q4' q5' r7' fw f7
      refine at_pure 0 (by omega) (some 17) rfl rfl (by kernel_rfl) (by kernel_rfl) (by kernel_rfl) (fun _ _ _ h => h) rfl (fun _ => rfl) ?_
      refine at_pure 1 (by omega) (some 18) rfl rfl (by kernel_rfl) (by kernel_rfl) (by kernel_rfl) (fun _ _ _ h => h) rfl (v := .int .i64 (k * 64)) (fun _ => by go_simp; exact IntWalk.i64_in _ (by omega)) ?_
      simp only [Act.put, List.setIfInBounds_toArray, List.set_cons_succ, List.set_cons_zero]
      refine at_pure 2 (by omega) (some 19) rfl rfl (by kernel_rfl) (by kernel_rfl) (by kernel_rfl) (fun _ _ _ h => h) rfl (v := .slice (some ⟨b5, k * 64, none⟩) (128 - k * 64) (128 - k * 64)) (fun _ => ?_) ?_
      · exact ex_slice_from 138 5 128 _ _ rfl Tryz.underlying138 (by kernel_rfl) b5 0 rfl (k * 64) rfl (by omega) (by omega) _ _ (by omega) (by omega)
      refine at_pure 3 (by omega) (some 20) rfl rfl (by kernel_rfl) (by kernel_rfl) (by kernel_rfl) (fun _ _ _ h => h) rfl (v := .slice (some ⟨b7, 0, none⟩) 64 64) (fun _ => by go_simp) ?_
      simp only [Act.put, List.setIfInBounds_toArray, List.set_cons_succ, List.set_cons_zero]
      have hs1 := (hl1 (1 + 2 * i) (by omega)).out
      have hs2 := (hl1 (2 + 2 * i) (by omega)).out
      have hmin : Nat.min 64 (128 - k * 64) = 64 := Nat.min_eq_left (by omega)
      refine at_val 4 (by omega) (some 21) rfl rfl (by kernel_rfl) rfl _ _ (ex_copy _ _ _ _ 5 rfl Tryz.underlying85 (by kernel_rfl) b5 (k * 64) _ _ rfl b7 0 64 64 rfl _ _ q5 _ _ q7 (byteCells (x.sec (1 + 2 * i + k))) ?_ ?_ ?_ (byteCells_one _)) ?_
      · rw [hmin]; simp only [List.drop_zero]; rw [List.take_of_length_le (by rw [length_byteCells, hlk.out]; omega)]
      · rw [hmin, length_byteCells, hlk.out]
      · simp only [List.size_toArray, length_byteCells]; rw [length_recTo x i k hs1 hs2, hlk.out]; omega
      rw [over_recTo x i k hlt hs1 hs2]
      refine at_done (by kernel_rfl) ?_
      have q5' := q5.setRow (byteCells (recTo x i (k + 1))).toArray
      have f8 : Frm [b5] w7 (w7.setRow b5 (byteCells (recTo x i (k + 1))).toArray) := Frm.setRow _ _ _ _ (by simp)
      have q4' := f8.row q4 (by simpa using hne)
      have fw8 : Frm [] w _ := fw7.trans f8 (by simpa using l5w)
      generalize w7.setRow b5 (byteCells (recTo x i (k + 1))).toArray = w8 at q5' q4' fw8
      simp only [Act.put, List.setIfInBounds_toArray, List.set_cons_succ, List.set_cons_zero]
      clear hs1 hs2 hmin q4 q5 q7 fw7 f8 hlk
      go_wp2_with fail
      go_roundw
      case rel => exact ⟨k + 1, by go_num, by omega, fw8, q4', q5'⟩
      case measure => simp [intOf]; omega
    · have HK : Hid (k = 2) := (by omega : k = 2)
      have hs1 := (hl1 (1 + 2 * i) (by omega))
      have hs2 := (hl1 (2 + 2 * i) (by omega))
      have h128 : Hid ((recOf x i).length = 128) := by show _ = _; have := length_recTo x i 2 hs1.out hs2.out; exact this
      go_wp2_with (with_reducible first | refine stop_load 138 rfl ?_ | refine stop_store 138 rfl ?_)
      refine Stopped.go (wl_load rfl 138 _ rfl b5 0 rfl row_record 128 info_record _ _ q5 (byteCells (recOf x i)) ?_ ?_ ?_)
      · simp only [List.drop_zero]
        rw [HK.out]
        exact List.take_of_length_le (by rw [length_byteCells]; exact Nat.le_of_eq h128.out)
      · rw [length_byteCells]; exact h128.out
      go_wp2_with (with_reducible first | refine stop_load 138 rfl ?_ | refine stop_store 138 rfl ?_)
      refine Stopped.go (wl_store rfl 138 _ _ rfl _ 0 rfl _ rfl 128 info_record ?_ ?_ _ _ q4 ?_ ?_)
      · simp only [List.size_toArray, length_byteCells]; exact h128.out
      · exact byteCells_one _
      · decide
      intro w6 f6 q6
      rw [over_all _ _ (by simp only [length_byteCells]; rw [h128.out]; rfl)] at q6
      have fw6 : Frm [] w w6 := fk.trans f6 (by simpa using l4w)
      go_wp2_with fail
      exact ret_row rfl b4 rfl rfl _ _ q6 row_record (by simp only [List.size_toArray, length_byteCells]; rw [h128.out]; exact info_record) ⟨rfl, fw6⟩

end Go.Proofs.YtchcmhodnkgojaaGreat
