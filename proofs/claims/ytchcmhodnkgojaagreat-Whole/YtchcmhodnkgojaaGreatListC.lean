/- List of package concord. -/
import Derived.Test.YtchcmhodnkgojaaGreatCalls2
set_option linter.all false
namespace Go.Proofs.YtchcmhodnkgojaaGreat
open Go.RowKit Go.Lib Go.Sort

def sideOf (l : List FileD) (s : Nat) : List (List UInt8) := (l.filter fun f => f.set == s).map (·.path)
theorem sideOf_step (fs : List FileD) (s k : Nat) (hk : k < fs.length) : sideOf (fs.take (k + 1)) s = if fs[k].set = s then sideOf (fs.take k) s ++ [fs[k].path] else sideOf (fs.take k) s := by
  unfold sideOf
  rw [List.take_succ_eq_append_getElem hk, List.filter_append, List.map_append]
  by_cases h : fs[k].set = s
  · simp [h]
  · simp [h]
theorem sideOf_len (l : List FileD) (s : Nat) : (sideOf l s).length ≤ l.length := by unfold sideOf; rw [List.length_map]; exact List.length_filter_le _ _

set_option maxRecDepth 100000 in
set_option maxHeartbeats 1000000 in
theorem list_any (F : List Nat) (s d n : Nat) (x : DS) (side : Nat) (w : World) (h : StoreIn w F s d n x) (hs : side ≤ 2) :
    Calls Tryz.prog 23 #[.pointer (some ⟨s, 0, none⟩), .int .i64 side] w fun e w' =>
      (∃ ad cap, e = .returned (if x.failed then .tuple #[.slice none 0 0, .int .i64 3] else .tuple #[.slice ad (sideOf (filesOf x n) side).length cap, .int .i64 0])) ∧ Frm [] w w' := by
  have c0 := h.cell
  obtain ⟨bl, vw, hd⟩ := h.diskIn
  have hfl : (filesOf x n).length ≤ 54 := by unfold filesOf; rw [List.length_map]; exact taken_len x n
  go_enter Tryz.func23, Tryz.ntmps23
  go_wp2_with fail
  refine (hasNoDisk_any F s d n x w h).mono ?_
  rintro e w1 ⟨rfl, rfl⟩
  go_wp2_with fail
  refine (isSet_any side w1 hs).mono ?_
  rintro e w2 ⟨rfl, rfl⟩
  go_wp2_with fail
  refine (isDown_any F s d n x w2 h).mono ?_
  rintro e w3 ⟨rfl, rfl⟩
  cases hf : x.failed with
  | true =>
    go_wp2_with fail
    all_goals
      go_ret2
      refine ⟨?_, Frm.refl _ _⟩
      first | rfl | exact ⟨none, 0, rfl⟩
  | false =>
    go_wp2_with fail
    refine (all_any d bl n vw x w3 hd).mono ?_
    rintro e wa ⟨v, rfl, hv, fa⟩
    generalize hfs : filesOf x n = fs at *
    have HFS : Hid (filesOf x n = fs) := hfs
    clear hfs
    obtain ⟨ad, cap, hv'⟩ := own_slice hv
    subst hv'
    have hba : w3.heap.size ≤ wa.heap.size := fa.size
    clear h hd c0
    go_wp2_with fail
    go_loopw [6, 22] (fun u c wr => ∃ k : Nat, c = .int .i64 k ∧ k ≤ fs.length ∧ Frm [] wa wr ∧ wr.ownsRow wa.heap.size 9 1 u (sideOf (fs.take k) side).length (strVals (sideOf (fs.take k) side))) (fun _ c _ => fs.length - (intOf c).toNat)
    case atStart => exact ⟨0, rfl, by omega, Frm.refl _ _, World.ownsRow_nil _ _ _ _⟩
    case round =>
      obtain ⟨k, rfl, hk, fk, ho⟩ := hrel
      have hvk := fk.owns hv (by simp)
      by_cases hlt : k < fs.length
      · obtain ⟨g, cur, rfl, hg, hle, _, hcs, htk⟩ := own_some hvk (by omega)
        have hat : ((cur.toList.drop (k * 3)).take 3) = fcells fs[k].set fs[k].path fs[k].content := by
          rw [drop_take_of_take htk _ _ (by omega), fvals_at fs k hlt]
        have hstep := sideOf_step fs side k hlt
        have hpl : (sideOf (fs.take k) side).length ≤ 1000 := by have := sideOf_len (fs.take k) side; rw [List.length_take] at this; omega
        generalize fs[k] = f at hat hstep
        have HST : Hid (sideOf (fs.take (k + 1)) side = if f.set = side then sideOf (fs.take k) side ++ [f.path] else sideOf (fs.take k) side) := hstep
        generalize sideOf (fs.take k) side = ps at *
        clear hstep hcs htk
        go_wp2_with (with_reducible first | refine stop_load 107 rfl ?_ | refine stop_alloc rfl ?_ | refine stop_store 107 rfl ?_)
        refine Stopped.go (wl_load rfl 107 _ rfl g (k * 3) rfl row_file 3 info_file _ _ hg (fcells f.set f.path f.content) hat rfl ?_)
        clear hat hg
        go_wp2_with (with_reducible first | refine stop_alloc rfl ?_ | refine stop_store 107 rfl ?_)
        refine Stopped.go (wl_alloc rfl 107 rfl zFile zero_file ?_)
        intro w4 b5 l5 f4 r5
        go_wp2_with (with_reducible first | refine stop_alloc rfl ?_ | refine stop_store 107 rfl ?_)
        refine Stopped.go (wl_store rfl 107 _ _ rfl _ 0 rfl _ rfl 3 info_file ?_ ?_ _ _ r5 ?_ ?_)
        · rfl
        · simp [fcells, Value.oneCell']
        · decide
        intro w5 f5 q5
        rw [over_all _ _ (by rfl)] at q5
        have q5' : Row w5 b5 (fcells f.set f.path f.content).toArray 107 := q5
        have f45 := f4.trans f5 (by simpa using l5)
        have fk5 := fk.trans f45 (by simp)
        have ho5 := f45.owns ho (by simp)
        have c0 : w5.cell? ⟨b5, 0, none⟩ = some (.int .i64 f.set) := by rw [q5'.cell]; rfl
        have c1 : w5.cell? ⟨b5, 1, none⟩ = some (.string (bstr f.path)) := by rw [q5'.cell]; rfl
        clear q5 r5 f4 f5 f45 fk ho l5 hvk q5'
        by_cases h3 : f.set = side
        · have HST2 : Hid (sideOf (fs.take (k + 1)) side = ps ++ [f.path]) := by show _ = _; rw [HST.out, if_pos h3]
          rw [h3] at c0
          clear HST h3
          go_wp2_with (with_reducible first | refine stop_slice1 rfl ?_ | refine stop_append rfl ?_)
          refine Stopped.go (wl_slice1 rfl 45 9 1 16 elem_string _ rfl (by omega) (.string (bstr f.path)) rfl rfl ?_)
          intro w8 b8 l8 f8 r8
          go_wp2_with (with_reducible first | refine stop_slice1 rfl ?_ | refine stop_append rfl ?_)
          have ho8 := f8.owns ho5 (by simp)
          have hbase : wa.heap.size ≤ w8.heap.size := by have := fk5.size; have := f8.size; omega
          refine Stopped.go (wl_append rfl 45 9 1 16 elem_string _ _ rfl wa.heap.size u6 _ _ rfl ho8 b8 1 1 [.string (bstr f.path)] rfl _ _ r8 rfl rfl (by simp [Value.oneCell']) (by omega) (by omega) (by omega) hbase ?_)
          intro g' cap' w9 ho9 f9 _
          have fk9 := (fk5.trans f8 (by simp)).trans f9 (by intro j hj; right; simp at hj; exact (ho8.lt j hj).1)
          clear ho5 ho8 r8 f8 f9 l8 fk5 hbase c0 c1
          go_wp2_with fail
          go_roundw
          case rel =>
            refine ⟨k + 1, by go_num, by omega, fk9, ?_⟩
            rw [HST2.out]
            simpa [strVals, bstr] using ho9
          case measure => simp [intOf]; omega
        · have HST2 : Hid (sideOf (fs.take (k + 1)) side = ps) := by show _ = _; rw [HST.out, if_neg h3]
          have h3' : ((f.set : Int) == (side : Int)) = false := by rw [beq_eq_false_iff_ne]; omega
          clear HST
          go_wp2_with fail
          go_roundw
          case rel => exact ⟨k + 1, by go_num, by omega, fk5, by rw [HST2.out]; exact ho5⟩
          case measure => simp [intOf]; omega
      · rw [List.take_of_length_le (by omega)] at ho
        have hpl := sideOf_len fs side
        have fw : Frm [] w3 wr := fa.trans fk (by simp)
        generalize hps : sideOf fs side = ps at *
        have HPS : Hid (sideOf fs side = ps) := hps
        clear hps
        rcases ho.2 with ⟨rfl, h0⟩ | ⟨g, c, cur, rfl, hgb, hgh, hnc, _, hcs, htk⟩
        · have hp0 : ps = [] := List.length_eq_zero_iff.1 h0
          subst hp0
          go_wp2_with fail
          refine (Tryz.slices_Sort_string_none none 0 wr).mono ?_
          rintro e w6 ⟨rfl, rfl⟩
          go_wp2_with fail
          all_goals
            go_ret2
            exact ⟨⟨none, 0, by rw [HFS.out, HPS.out]; rfl⟩, fw⟩
        · have hlt2 : g < wr.heap.size := (Array.getElem?_eq_some_iff.1 hgh).1
          have hH : Holds encStr wr g 0 ps.toArray := fun j hj => by
            have hj' : j < ps.length := by simpa using hj
            refine ⟨?_, Lib.frozen_of_heap hgh _⟩
            rw [Lib.cell_of_heap hgh]
            have h1 : (cur.toList.take (ps.length * 1))[j]? = (strVals ps)[j]? := by rw [htk]
            rw [List.getElem?_take_of_lt (by omega)] at h1
            rw [Nat.zero_add, ← Array.getElem?_toList, h1, getElem!_pos ps.toArray j hj]
            simp [strVals, hj']
          clear ho hcs htk hgh
          go_wp2_with fail
          refine (Tryz.slices_Sort_string g 0 c ps wr hH hlt2 (by omega)).mono ?_
          rintro e w6 ⟨rfl, m, os, hw6⟩
          have f6 : Frm [g] wr w6 := by
            rw [hw6]
            exact (((frm_ahead wr m).mono (T := [g]) (by simp)).trans (frm_putRow encStr _ g 0 _) (fun i hi => .inl hi)).trans (frm_grow _ _) (by simp)
          have fw6 : Frm [] w3 w6 := fw.trans f6 (by simp; omega)
          clear hw6 hH f6
          go_wp2_with fail
          all_goals
            go_ret2
            exact ⟨⟨some ⟨g, 0, none⟩, c, by rw [HFS.out, HPS.out]; rfl⟩, fw6⟩

end Go.Proofs.YtchcmhodnkgojaaGreat
