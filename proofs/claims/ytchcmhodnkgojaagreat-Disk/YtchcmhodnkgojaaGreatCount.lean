/- countPaths: how many different paths. -/
import Derived.Test.YtchcmhodnkgojaaGreatSoundAll
set_option linter.all false
namespace Go.Proofs.YtchcmhodnkgojaaGreat
open Go.RowKit Go.Lib Go.Sort

def pathsOf (l : List FileD) : List (List UInt8) := (l.filter fun f => f.set != 3).map (·.path)
def strVals (l : List (List UInt8)) : List Value := l.map encStr
def countD (l : List FileD) : Nat := (compact ((pathsOf l).mergeSort fun x y => decide (x ≤ y))).length
theorem elem_string : Elem Tryz.prog 45 9 1 16 := ⟨Tryz.underlying45, by kernel_rfl, by omega⟩
theorem pathsOf_step (fs : List FileD) (k : Nat) (hk : k < fs.length) : pathsOf (fs.take (k + 1)) = if fs[k].set = 3 then pathsOf (fs.take k) else pathsOf (fs.take k) ++ [fs[k].path] := by
  unfold pathsOf
  rw [List.take_succ_eq_append_getElem hk, List.filter_append, List.map_append]
  by_cases h : fs[k].set = 3
  · simp [h]
  · simp [h]
theorem pathsOf_len (l : List FileD) : (pathsOf l).length ≤ l.length := by unfold pathsOf; rw [List.length_map]; exact List.length_filter_le _ _

theorem frm_grow (w : World) (os : Array Obj) : Frm [] w (grow w os) :=
  ⟨rfl, rfl, rfl, by simp [grow], fun k hk _ => by simp only [grow]; rw [Array.getElem?_append_left hk]⟩
theorem frm_ahead (w : World) (n : Nat) : Frm [] w (Sort.ahead w n) := ⟨rfl, rfl, rfl, Nat.le_refl _, fun _ _ _ => rfl⟩
theorem frm_putRow {α : Type} [Inhabited α] (enc : α → Value) (w : World) (blk off : Nat) (d : Array α) : Frm [blk] w (putRow enc w blk off d) :=
  ⟨rfl, rfl, rfl, by rw [size_putRow]; exact Nat.le_refl _, fun k hk hS => by
    simp only [putRow, mapBlock, Array.getElem?_modify]
    rw [if_neg (by simpa using fun e => hS (by simp [e]))]⟩

set_option maxRecDepth 100000 in
set_option maxHeartbeats 1000000 in
theorem count_any (base : Nat) (v : Value) (fs : List FileD) (w : World) (hv : w.ownsRow base 107 3 v fs.length (fvals fs)) (hl : fs.length ≤ 1000) :
    Calls Tryz.prog 75 #[v] w fun e w' => e = .returned (.int .i64 (countD fs)) ∧ Frm [] w w' := by
  obtain ⟨ad, cap, hv'⟩ := own_slice hv
  subst hv'
  go_enter Tryz.func75, Tryz.ntmps75
  go_wp2_with fail
  go_loopw [3, 8] (fun u c wr => ∃ k : Nat, c = .int .i64 k ∧ k ≤ fs.length ∧ Frm [] w wr ∧ wr.ownsRow w.heap.size 9 1 u (pathsOf (fs.take k)).length (strVals (pathsOf (fs.take k)))) (fun _ c _ => fs.length - (intOf c).toNat)
  case atStart => exact ⟨0, rfl, by omega, Frm.refl _ _, World.ownsRow_nil _ _ _ _⟩
  case round =>
    obtain ⟨k, rfl, hk, fk, ho⟩ := hrel
    have hvk := fk.owns hv (by simp)
    by_cases hlt : k < fs.length
    · obtain ⟨g, cur, rfl, hg, hle, _, hcs, htk⟩ := own_some hvk (by omega)
      have hat : ((cur.toList.drop (k * 3)).take 3) = fcells fs[k].set fs[k].path fs[k].content := by
        rw [drop_take_of_take htk _ _ (by omega), fvals_at fs k hlt]
      have hstep := pathsOf_step fs k hlt
      have hpl : (pathsOf (fs.take k)).length ≤ 1000 := by have := pathsOf_len (fs.take k); rw [List.length_take] at this; omega
      generalize fs[k] = f at hat hstep
      have HST : Hid (pathsOf (fs.take (k + 1)) = if f.set = 3 then pathsOf (fs.take k) else pathsOf (fs.take k) ++ [f.path]) := hstep
      generalize pathsOf (fs.take k) = ps at *
      clear hstep hcs htk
      go_wp2_with (with_reducible first | refine stop_load 107 rfl ?_ | refine stop_alloc rfl ?_ | refine stop_store 107 rfl ?_)
      refine Stopped.go (wl_load rfl 107 _ rfl g (k * 3) rfl row_file 3 info_file _ _ hg (fcells f.set f.path f.content) hat rfl ?_)
      clear hat hg
      go_wp2_with (with_reducible first | refine stop_alloc rfl ?_ | refine stop_store 107 rfl ?_)
      refine Stopped.go (wl_alloc rfl 107 rfl zFile zero_file ?_)
      intro w4 b5 l5 f4 r5
      go_wp2_with (with_reducible first | refine stop_alloc rfl ?_ | refine stop_store 107 rfl ?_)
      refine Stopped.go (wl_store rfl 107 _ _ rfl _ 0 rfl _ rfl 3 info_file ?_ ?_ _ _ r5 ?_ ?_)
      · rfl
      · simp [fcells, Value.oneCell']
      · decide
      intro w5 f5 q5
      rw [over_all _ _ (by rfl)] at q5
      have q5' : Row w5 b5 (fcells f.set f.path f.content).toArray 107 := q5
      have f45 := f4.trans f5 (by simpa using l5)
      have fk5 := fk.trans f45 (by simp)
      have ho5 := f45.owns ho (by simp)
      have c0 : w5.cell? ⟨b5, 0, none⟩ = some (.int .i64 f.set) := by rw [q5'.cell]; rfl
      have c1 : w5.cell? ⟨b5, 1, none⟩ = some (.string (bstr f.path)) := by rw [q5'.cell]; rfl
      clear q5 r5 f4 f5 f45 fk ho l5 hvk q5'
      by_cases h3 : f.set = 3
      · have HST2 : Hid (pathsOf (fs.take (k + 1)) = ps) := by show _ = _; rw [HST.out, if_pos h3]
        have h3' : ((f.set : Int)) = 3 := by omega
        rw [h3'] at c0
        clear HST
        go_wp2_with fail
        go_roundw
        case rel => exact ⟨k + 1, by go_num, by omega, fk5, by rw [HST2.out]; exact ho5⟩
        case measure => simp [intOf]; omega
      · have HST2 : Hid (pathsOf (fs.take (k + 1)) = ps ++ [f.path]) := by show _ = _; rw [HST.out, if_neg h3]
        have h3' : ((f.set : Int) == 3) = false := by rw [beq_eq_false_iff_ne]; omega
        clear HST
        go_wp2_with (with_reducible first | refine stop_slice1 rfl ?_ | refine stop_append rfl ?_)
        refine Stopped.go (wl_slice1 rfl 45 9 1 16 elem_string _ rfl (by omega) (.string (bstr f.path)) rfl rfl ?_)
        intro w8 b8 l8 f8 r8
        go_wp2_with (with_reducible first | refine stop_slice1 rfl ?_ | refine stop_append rfl ?_)
        have ho8 := f8.owns ho5 (by simp)
        have hbase : w.heap.size ≤ w8.heap.size := by have := fk5.size; have := f8.size; omega
        refine Stopped.go (wl_append rfl 45 9 1 16 elem_string _ _ rfl w.heap.size u3 _ _ rfl ho8 b8 1 1 [.string (bstr f.path)] rfl _ _ r8 rfl rfl (by simp [Value.oneCell']) (by omega) (by omega) (by omega) hbase ?_)
        intro g' cap' w9 ho9 f9 _
        have fk9 := (fk5.trans f8 (by simp)).trans f9 (by intro j hj; right; simp at hj; exact (ho8.lt j hj).1)
        clear ho5 ho8 r8 f8 f9 l8 fk5 hbase c0 c1
        go_wp2_with fail
        go_roundw
        case rel =>
          refine ⟨k + 1, by go_num, by omega, fk9, ?_⟩
          rw [HST2.out]
          simpa [strVals, bstr] using ho9
        case measure => simp [intOf]; omega
    · have HC : Hid (countD fs = (compact ((pathsOf fs).mergeSort fun x y => decide (x ≤ y))).length) := rfl
      rw [List.take_of_length_le (by omega)] at ho
      have hpl := pathsOf_len fs
      generalize pathsOf fs = ps at *
      have hsz : ∀ k, u3.ownBlock = some k → w.heap.size ≤ k ∧ k < wr.heap.size := fun k hk => ho.lt k hk
      rcases ho.2 with ⟨rfl, h0⟩ | ⟨g, c, cur, rfl, hgb, hgh, hnc, _, hcs, htk⟩
      · have hp0 : ps = [] := List.length_eq_zero_iff.1 h0
        subst hp0
        have HZ : Hid (countD fs = 0) := by show _ = _; rw [HC.out, List.mergeSort_nil]; rfl
        go_wp2_with fail
        refine (Tryz.slices_Sort_string_none none 0 wr).mono ?_
        rintro e w6 ⟨rfl, rfl⟩
        go_wp2_with fail
        refine (Tryz.slices_Compact_string_empty none 0 w6).mono ?_
        rintro e w7 ⟨rfl, rfl⟩
        go_wp2_with fail
        go_ret
        exact ⟨by rw [HZ.out]; rfl, fk⟩
      · have hfg : w.heap.size ≤ g := hgb
        have hlt2 : g < wr.heap.size := (Array.getElem?_eq_some_iff.1 hgh).1
        have hH : Holds encStr wr g 0 ps.toArray := fun j hj => by
          have hj' : j < ps.length := by simpa using hj
          refine ⟨?_, Lib.frozen_of_heap hgh _⟩
          rw [Lib.cell_of_heap hgh]
          have h1 : (cur.toList.take (ps.length * 1))[j]? = (strVals ps)[j]? := by rw [htk]
          rw [List.getElem?_take_of_lt (by omega)] at h1
          rw [Nat.zero_add, ← Array.getElem?_toList, h1, getElem!_pos ps.toArray j hj]
          simp [strVals, hj']
        clear ho hsz hcs htk hgh
        go_wp2_with fail
        refine (Tryz.slices_Sort_string g 0 c ps wr hH hlt2 (by omega)).mono ?_
        rintro e w6 ⟨rfl, m, os, hw6⟩
        have hsl : (ps.mergeSort fun x y => decide (x ≤ y)).length = ps.length := List.length_mergeSort _
        have hH6 : Holds encStr w6 g 0 (ps.mergeSort fun x y => decide (x ≤ y)).toArray := by
          rw [hw6]
          exact holds_grow _ _ _ _ _ _ (by rw [size_putRow]; exact hlt2) (holds_putRow _ _ _ _ _ _ (holds_ahead _ _ _ _ _ _ hH) (by simp))
        have f6 : Frm [g] wr w6 := by
          rw [hw6]
          exact (((frm_ahead wr m).mono (T := [g]) (by simp)).trans (frm_putRow encStr _ g 0 _) (fun i hi => .inl hi)).trans (frm_grow _ _) (by simp)
        have fw6 : Frm [] w w6 := fk.trans f6 (by simpa using hfg)
        generalize (ps.mergeSort fun x y => decide (x ≤ y)) = qs at *
        clear hw6 hH f6
        go_wp2_with fail
        have hc := Tryz.slices_Compact_string g 0 c qs w6 hH6 (by omega) (by omega)
        rw [hsl] at hc
        refine hc.mono ?_
        rintro e w7 ⟨rfl, q, hw7⟩
        have f7 : Frm [g] w6 w7 := by
          rw [hw7]
          exact ((frm_ahead w6 q).mono (T := [g]) (by simp)).trans (frm_putRow encStr _ g 0 _) (fun i hi => .inl hi)
        have fw7 : Frm [] w w7 := fw6.trans f7 (by simpa using hfg)
        clear hw7 f7 hc hH6
        go_wp2_with fail
        go_ret
        exact ⟨by rw [HC.out]; rfl, fw7⟩

end Go.Proofs.YtchcmhodnkgojaaGreat
