/- freeSlot: the first slot that is free. -/
import Derived.Test.YtchcmhodnkgojaaGreatMark
set_option linter.all false
namespace Go.Proofs.YtchcmhodnkgojaaGreat
open Go.RowKit Go.Lib

/-- The first slot from k on that is marked free; -1: none. -/
def freeFrom (root : List UInt8) (m : Nat) : Nat → Nat → Int
  | 0, _ => -1
  | f + 1, k => if k < m then (if markAt root k == 0 then k else freeFrom root m f (k + 1)) else -1
def freeIn (x : DS) (n : Nat) : Int := freeFrom (x.read 0) (nslots n) (nslots n) 0
theorem markAt_zero (root : List UInt8) (i : Nat) : (((markAt root i).toNat : Int) == 0) = (markAt root i == 0) := by
  rw [Bool.eq_iff_iff]; simp [← UInt8.toNat_inj]
theorem freeFrom_cases (root : List UInt8) (m : Nat) : ∀ (f k : Nat), freeFrom root m f k = -1 ∨ ∃ i : Nat, i < m ∧ freeFrom root m f k = i ∧ markAt root i = 0
  | 0, _ => .inl rfl
  | f + 1, k => by
    unfold freeFrom
    by_cases h : k < m
    · rw [if_pos h]
      by_cases h2 : (markAt root k == 0) = true
      · exact .inr ⟨k, h, by simp [h2], by simpa using h2⟩
      · rw [if_neg h2]; exact freeFrom_cases root m f (k + 1)
    · rw [if_neg h]; exact .inl rfl

set_option maxRecDepth 100000 in
set_option maxHeartbeats 1000000 in
theorem freeSlot_any (F : List Nat) (d n : Nat) (x : DS) (w : World) (h : DiskOwn w F d n x) :
    Calls Tryz.prog 108 #[.pointer (some ⟨d, 0, none⟩)] w fun e w' => e = .returned (.int .i64 (freeIn x n)) ∧ Frm [] w w' := by
  have hsz := h.size
  have hr64 := read_len h
  go_enter Tryz.func108, Tryz.ntmps108
  go_wp2_with fail
  refine (read_own F d n x 0 w h (by omega) (by omega)).mono ?_
  rintro e w1 ⟨rfl, f1⟩
  go_wp2_with (with_reducible first | refine stop_alloc rfl ?_ | refine stop_store 148 rfl ?_)
  refine Stopped.go (wl_alloc rfl 148 rfl zBlock zero_block ?_)
  intro w2 b4 l4 f2 r4
  go_wp2_with (with_reducible first | refine stop_alloc rfl ?_ | refine stop_store 148 rfl ?_)
  refine Stopped.go (wl_store rfl 148 _ _ rfl _ 0 rfl _ rfl 64 info_block ?_ ?_ _ _ r4 ?_ ?_)
  · simp only [List.size_toArray, length_byteCells]; exact hr64
  · exact byteCells_one _
  · decide
  intro w3 f3 r4'
  rw [over_all _ _ (by rw [length_byteCells, hr64]; rfl)] at r4'
  have f13 : Frm [] w w3 := (f1.trans f2 (by simp)).trans f3 (by simp; have := f1.size; omega)
  have h3 := h.new f13 (by simp)
  clear r4 f3 f2
  obtain ⟨bl, vw, h3', _⟩ := h3
  go_wp2_with fail
  refine (sectors_any d bl n vw x w3 h3').mono ?_
  rintro e w4 ⟨rfl, rfl⟩
  go_wp2_with fail
  refine (slotCount_any n hsz.1 hsz.2 _).mono ?_
  rintro e w4 ⟨rfl, rfl⟩
  go_wp2_with fail
  have hns : nslots n ≤ 54 := by unfold nslots; omega
  have l4w : w.heap.size ≤ b4 := by have := f1.size; omega
  have HF0 : Hid (freeIn x n = freeFrom (x.read 0) (nslots n) (nslots n) 0) := rfl
  go_loopw [10] (fun i wr => ∃ k : Nat, i = .int .i64 k ∧ k ≤ nslots n ∧ wr = w4 ∧ Hid (freeIn x n = freeFrom (x.read 0) (nslots n) (nslots n - k) k)) (fun i _ => nslots n - (intOf i).toNat)
  case atStart => exact ⟨0, rfl, by omega, rfl, HF0⟩
  case round =>
    obtain ⟨k, rfl, hk, rfl, HF⟩ := hrel
    by_cases hlt : k < nslots n
    · have hc : wr.cell? ⟨b4, 10 + k, none⟩ = some (.int .u8 (markAt (x.read 0) k).toNat) := by
        rw [r4'.cell]
        simp [byteCells, markAt, List.getD_eq_getElem?_getD]
        rw [List.getElem?_eq_getElem (by omega)]; exact ⟨_, rfl, rfl⟩
      have HR : Hid ((x.read 0).length = 64) := hr64
      clear hr64
      have hm1 := markAt_zero (x.read 0) k
      have hstep : Hid (freeFrom (x.read 0) (nslots n) (nslots n - k) k = if markAt (x.read 0) k == 0 then (k : Int) else freeFrom (x.read 0) (nslots n) (nslots n - (k + 1)) (k + 1)) := by
        show _ = _
        rw [show nslots n - k = (nslots n - (k + 1)) + 1 by omega, freeFrom, if_pos hlt]
      by_cases hm : (markAt (x.read 0) k == 0) = true
      · have hb : (((markAt (x.read 0) k).toNat : Int) == 0) = true := by rw [hm1]; exact hm
        have HM : Hid ((markAt (x.read 0) k == 0) = true) := hm
        clear hm hm1
        go_wp2_with fail
        go_ret
        refine ⟨ret_int ?_, f13⟩
        rw [HF.out, hstep.out, if_pos HM.out]
      · have hm' : (markAt (x.read 0) k == 0) = false := by simpa using hm
        have hb : (((markAt (x.read 0) k).toNat : Int) == 0) = false := by rw [hm1]; exact hm'
        have HM : Hid ((markAt (x.read 0) k == 0) = false) := hm'
        clear hm hm' hm1
        go_wp2_with fail
        go_roundw
        case rel =>
          refine ⟨k + 1, by go_num, by omega, trivial, ?_⟩
          show _ = _
          rw [HF.out, hstep.out, if_neg (by rw [HM.out]; simp)]
        case measure => simp [intOf]; omega
    · have HK : Hid (k = nslots n) := (by omega : k = nslots n)
      go_wp2_with fail
      go_ret
      refine ⟨ret_int ?_, f13⟩
      rw [HF.out, HK.out, Nat.sub_self]
      rfl

end Go.Proofs.YtchcmhodnkgojaaGreat
