/- The root's marks: which slots are taken, which is free. -/
import Derived.Test.YtchcmhodnkgojaaGreatSmall
set_option linter.all false
namespace Go.Proofs.YtchcmhodnkgojaaGreat
open Go.RowKit Go.Lib

def nslots (n : Nat) : Nat := min ((n - 1) / 2) 54
/-- The mark of a slot. -/
def markAt (root : List UInt8) (i : Nat) : UInt8 := root.getD (10 + i) 0
def takenTo (root : List UInt8) (k : Nat) : List Nat := (List.range k).filter fun i => markAt root i == 1
def taken (x : DS) (n : Nat) : List Nat := takenTo (x.read 0) (nslots n)
def intVals (l : List Nat) : List Value := l.map fun (i : Nat) => Value.int .i64 i

theorem slotCount_any (n : Nat) (h : 16 ≤ n) (h2 : n ≤ 400) (w : World) :
    Calls Tryz.prog 116 #[.int .i64 n] w fun e w' => e = .returned (.int .i64 (nslots n)) ∧ w' = w := by
  go_enter Tryz.func116, Tryz.ntmps116
  by_cases hc : ((n : Int) - 1) / 2 ≤ 54
  all_goals
    go_wp2_with fail
    go_ret
    refine ⟨ret_int ?_, rfl⟩
    unfold nslots
    omega

theorem firstSector_any (i : Nat) (h : i < 200) (w : World) :
    Calls Tryz.prog 115 #[.int .i64 i] w fun e w' => e = .returned (.int .i64 (1 + 2 * i : Nat)) ∧ w' = w := by
  go_enter Tryz.func115, Tryz.ntmps115
  go_wp2_with fail
  go_ret
  exact ⟨ret_int (by omega), rfl⟩

theorem takenTo_succ (root : List UInt8) (k : Nat) : takenTo root (k + 1) = takenTo root k ++ if markAt root k == 1 then [k] else [] := by
  simp [takenTo, List.range_succ, List.filter_append, List.filter_cons]

theorem markAt_one (root : List UInt8) (i : Nat) : (((markAt root i).toNat : Int) == 1) = (markAt root i == 1) := by
  rw [Bool.eq_iff_iff]; simp [← UInt8.toNat_inj]; omega
theorem intVals_append (a b : List Nat) : intVals (a ++ b) = intVals a ++ intVals b := by simp [intVals]

theorem takenTo_len (root : List UInt8) (k : Nat) : (takenTo root k).length ≤ k := by
  have := List.length_filter_le (fun i => markAt root i == 1) (List.range k)
  simpa [takenTo] using this
theorem elem_int : Elem Tryz.prog 64 3 1 8 := ⟨Tryz.underlying64, by kernel_rfl, by omega⟩

set_option maxRecDepth 100000 in
set_option maxHeartbeats 400000 in
theorem takenSlots_any (d bl n : Nat) (vw : Value) (x : DS) (w : World) (h : DiskIn w d bl n vw x) :
    Calls Tryz.prog 83 #[.pointer (some ⟨d, 0, none⟩)] w fun e w' => ∃ v, e = .returned v ∧ w'.ownsRow w.heap.size 3 1 v (taken x n).length (intVals (taken x n)) ∧ Frm [] w w' := by
  have hlo := h.lo
  have hhi := h.hi
  have hr64 : (x.read 0).length = 64 := length_seenIn _ _ (by rw [h.len]; simp; omega) _ h.len64
  go_enter Tryz.func83, Tryz.ntmps83
  go_wp2_with fail
  refine (read_any d bl n vw x 0 w h (by omega) (by omega)).mono ?_
  rintro e w1 ⟨rfl, f1⟩
  go_wp2_with (with_reducible first | refine stop_alloc rfl ?_ | refine stop_store 148 rfl ?_)
  refine Stopped.go (wl_alloc rfl 148 rfl zBlock zero_block ?_)
  intro w2 b4 l4 f2 r4
  go_wp2_with (with_reducible first | refine stop_alloc rfl ?_ | refine stop_store 148 rfl ?_)
  refine Stopped.go (wl_store rfl 148 _ _ rfl _ 0 rfl _ rfl 64 info_block ?_ ?_ _ _ r4 ?_ ?_)
  · simp only [List.size_toArray, length_byteCells]; exact hr64
  · exact byteCells_one _
  · decide
  intro w3 f3 r4'
  rw [over_all _ _ (by rw [length_byteCells, hr64]; rfl)] at r4'
  have f13 : Frm [] w w3 := (f1.trans f2 (by simp)).trans f3 (by simp; have := f1.size; omega)
  have h3 := h.new f13 (by simp)
  clear r4 f3 f2
  go_wp2_with fail
  refine (sectors_any d bl n vw x w3 h3).mono ?_
  rintro e w4 ⟨rfl, rfl⟩
  go_wp2_with fail
  refine (slotCount_any n hlo hhi _).mono ?_
  rintro e w4 ⟨rfl, rfl⟩
  go_wp2_with fail
  have hns : nslots n ≤ 54 := by unfold nslots; omega
  have l4w : w.heap.size ≤ b4 := by have := f1.size; omega
  go_loopw [3, 11] (fun v i wr => ∃ k : Nat, i = .int .i64 k ∧ k ≤ nslots n ∧ Frm [] w wr ∧ Row wr b4 (byteCells (x.read 0)).toArray 148 ∧
    wr.ownsRow w.heap.size 3 1 v (takenTo (x.read 0) k).length (intVals (takenTo (x.read 0) k)) ∧ v.ownBlock ≠ some b4) (fun _ i _ => nslots n - (intOf i).toNat)
  case atStart => exact ⟨0, rfl, by omega, f13, r4', World.ownsRow_nil _ _ _ _, by simp [Value.ownBlock]⟩
  case round =>
    obtain ⟨k, rfl, hk, fk, rk, ok, nk⟩ := hrel
    clear h3 f13 r4' f1
    by_cases hlt : k < nslots n
    · have hc : wr.cell? ⟨b4, 10 + k, none⟩ = some (.int .u8 (markAt (x.read 0) k).toNat) := by
        rw [rk.cell]
        simp [byteCells, markAt, List.getD_eq_getElem?_getD]
        rw [List.getElem?_eq_getElem (by omega)]; exact ⟨_, rfl, rfl⟩
      have HR : Hid ((x.read 0).length = 64) := hr64
      clear hr64
      have hm1 := markAt_one (x.read 0) k
      by_cases hm : (markAt (x.read 0) k == 1) = true
      · have hb : (((markAt (x.read 0) k).toNat : Int) == 1) = true := by rw [hm1]; exact hm
        have HM : Hid ((markAt (x.read 0) k == 1) = true) := hm
        clear hm hm1
        go_wp2_with (with_reducible first | refine stop_slice1 rfl ?_ | refine stop_append rfl ?_)
        refine Stopped.go (wl_slice1 rfl 64 3 1 8 elem_int _ rfl (by omega) (.int .i64 k) rfl rfl ?_)
        intro w5 b5 l5 f5 r5
        go_wp2_with (with_reducible first | refine stop_slice1 rfl ?_ | refine stop_append rfl ?_)
        have ok5 := f5.owns ok (by simp)
        refine Stopped.go (wl_append rfl 64 3 1 8 elem_int _ _ rfl w.heap.size u3 _ _ rfl ok5 b5 1 1 [.int .i64 k] rfl _ _ r5 rfl rfl (by simp [Value.oneCell']) (by omega) ?_ (by omega) ?_ ?_)
        · have := takenTo_len (x.read 0) k; omega
        · have := fk.size; have := f5.size; omega
        intro g cap w6 ok6 f6 hat
        have fk5 := fk.trans f5 (by simp)
        have hg4 : g ≠ b4 := by
          rcases hat with hat | hat
          · intro e; exact nk (by rw [hat, e])
          · have := rk.lt; have := f5.size; omega
        have rk6 := f6.row (f5.row rk (by simp)) (by simpa using fun e => nk e)
        have fk6 : Frm [] w w6 := fk5.trans f6 (by intro i hi; right; simp at hi; exact (ok5.lt i hi).1)
        clear rk ok fk hc ok5 r5 f5 f6 fk5 hat l5
        go_wp2_with fail
        go_roundw
        case rel =>
          refine ⟨k + 1, by go_num, by omega, fk6, rk6, ?_, by simpa [Value.ownBlock] using hg4⟩
          rw [takenTo_succ, HM.out]
          simpa [intVals_append, intVals] using ok6
        case measure => simp [intOf]; omega
      · have hm' : (markAt (x.read 0) k == 1) = false := by simpa using hm
        have hb : (((markAt (x.read 0) k).toNat : Int) == 1) = false := by rw [hm1]; exact hm'
        have HM : Hid ((markAt (x.read 0) k == 1) = false) := hm'
        clear hm hm' hm1
        go_wp2_with fail
        go_roundw
        case rel =>
          refine ⟨k + 1, by go_num, by omega, fk, rk, ?_, nk⟩
          rw [takenTo_succ, HM.out]
          simpa using ok
        case measure => simp [intOf]; omega
    · have HK : Hid (k = nslots n) := (by omega : k = nslots n)
      go_wp2_with fail
      go_ret
      have hk := HK.out
      subst hk
      exact ⟨_, rfl, ok, fk⟩

end Go.Proofs.YtchcmhodnkgojaaGreat
