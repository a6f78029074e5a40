/- Bytes, Acts, Fail, isSound, holding, New, Open of package concord. -/
import Derived.Test.YtchcmhodnkgojaaGreatStore
set_option linter.all false
namespace Go.Proofs.YtchcmhodnkgojaaGreat
open Go.RowKit Go.Lib

set_option maxRecDepth 100000 in
set_option maxHeartbeats 1000000 in
theorem sbytes_any (F : List Nat) (s d n : Nat) (x : DS) (w : World) (h : StoreIn w F s d n x) : Calls Tryz.prog 26 #[.pointer (some ⟨s, 0, none⟩)] w fun e w' => e = .returned (.string ⟨x.lasting.toArray⟩) ∧ Frm [] w w' := by
  have c0 := h.cell
  obtain ⟨bl, vw, hd⟩ := h.diskIn
  go_enter Tryz.func26, Tryz.ntmps26
  go_wp2_with fail
  refine (hasNoDisk_any F s d n x w h).mono ?_
  rintro e w1 ⟨rfl, rfl⟩
  go_wp2_with fail
  refine (bytes_any d bl n vw x w1 hd).mono ?_
  rintro e w2 ⟨rfl, f2⟩
  go_wp2_with fail
  go_ret
  exact ⟨rfl, f2⟩

set_option maxRecDepth 100000 in
set_option maxHeartbeats 1000000 in
theorem sacts_any (F : List Nat) (s d n : Nat) (x : DS) (w : World) (h : StoreIn w F s d n x) : Calls Tryz.prog 18 #[.pointer (some ⟨s, 0, none⟩)] w fun e w' => e = .returned (.int .i64 x.acts) ∧ w' = w := by
  have c0 := h.cell
  obtain ⟨bl, vw, hd⟩ := h.diskIn
  go_enter Tryz.func18, Tryz.ntmps18
  go_wp2_with fail
  refine (hasNoDisk_any F s d n x w h).mono ?_
  rintro e w1 ⟨rfl, rfl⟩
  go_wp2_with fail
  refine (acts_any d bl n vw x w1 hd).mono ?_
  rintro e w2 ⟨rfl, rfl⟩
  go_wp2_with fail
  go_ret
  exact ⟨rfl, rfl⟩

/-- What Fail answers, and the disk then. -/
def DS.failTo (x : DS) (after keep : Int) : DS × Int := if x.failed then (x, 3) else if after < 0 then (x, 1) else (x.script after keep, 0)

set_option maxRecDepth 100000 in
set_option maxHeartbeats 1000000 in
theorem sfail_spec (F : List Nat) (s d n : Nat) (x : DS) (after keep : Int) (w : World) (h : StoreIn w F s d n x) : Calls Tryz.prog 20 #[.pointer (some ⟨s, 0, none⟩), .int .i64 after, .int .i64 keep] w fun e w' => e = .returned (.int .i64 (x.failTo after keep).2) ∧ StoreIn w' F s d n (x.failTo after keep).1 ∧ Frm F w w' := by
  have c0 := h.cell
  have HF : Hid (x.failTo after keep = if x.failed then (x, 3) else if after < 0 then (x, 1) else (x.script after keep, 0)) := rfl
  go_enter Tryz.func20, Tryz.ntmps20
  go_wp2_with fail
  refine (isDown_any F s d n x w h).mono ?_
  rintro e w1 ⟨rfl, rfl⟩
  cases hf : x.failed with
  | true =>
    rw [hf] at HF
    go_wp2_with fail
    all_goals
      go_ret
      rw [HF.out]
      exact ⟨rfl, h, Frm.refl _ _⟩
  | false =>
    rw [hf] at HF
    by_cases ha : after < 0
    · have HF2 : Hid (x.failTo after keep = (x, 1)) := by show _ = _; rw [HF.out]; simp [ha]
      go_wp2_with fail
      all_goals
        go_ret
        rw [HF2.out]
        exact ⟨rfl, h, Frm.refl _ _⟩
    · have HF2 : Hid (x.failTo after keep = (x.script after keep, 0)) := by show _ = _; rw [HF.out]; simp [ha]
      go_wp2_with fail
      refine (fail_spec F d n x after keep w1 h.disk).mono ?_
      rintro e w2 ⟨rfl, h2, f2⟩
      have hs : StoreIn w2 F s d n (x.script after keep) := ⟨f2.row h.row h.ne, h2, h.ne⟩
      clear c0
      go_wp2_with fail
      go_ret
      rw [HF2.out]
      exact ⟨rfl, hs, f2⟩

def DS.storeOk (x : DS) (n : Nat) : Bool := x.sound n && decide (countD (filesOf x n) ≤ 7)

set_option maxRecDepth 100000 in
set_option maxHeartbeats 1000000 in
theorem isSound_any (F : List Nat) (s d n : Nat) (x : DS) (w : World) (h : StoreIn w F s d n x) (hnp : x.pending n = false) : Calls Tryz.prog 73 #[.pointer (some ⟨s, 0, none⟩)] w fun e w' => e = .returned (.bool (x.storeOk n)) ∧ Frm [] w w' := by
  have c0 := h.cell
  obtain ⟨bl, vw, hd⟩ := h.diskIn
  have HS : Hid (x.storeOk n = (x.sound n && decide (countD (filesOf x n) ≤ 7))) := rfl
  have hfl : (filesOf x n).length ≤ 54 := by unfold filesOf; rw [List.length_map]; exact taken_len x n
  go_enter Tryz.func73, Tryz.ntmps73
  go_wp2_with fail
  refine (sound_any d bl n vw x w hd).mono ?_
  rintro e w1 ⟨rfl, f1⟩
  have h1 := h.new f1
  have hd1 := hd.new f1 (by simp)
  have c0 := h1.cell
  cases hs : x.sound n with
  | false =>
    rw [hs] at HS
    go_wp2_with fail
    go_ret
    exact ⟨by rw [HS.out]; rfl, f1⟩
  | true =>
    rw [hs] at HS
    go_wp2_with fail
    refine (all_any d bl n vw x w1 hd1).mono ?_
    rintro e w2 ⟨v, rfl, hv, f2⟩
    go_wp2_with fail
    refine (count_any _ v (filesOf x n) w2 hv (by omega)).mono ?_
    rintro e w3 ⟨rfl, f3⟩
    have fw := (f1.trans f2 (by simp)).trans f3 (by simp)
    generalize countD (filesOf x n) = m at *
    by_cases hm : m ≤ 7
    · have HT : Hid (x.storeOk n = true) := by show _ = _; rw [HS.out]; simp [hm]
      have hm' : (m : Int) ≤ 7 := by omega
      have h3 := h.new fw
      have hd3 := hd.new fw (by simp)
      clear c0
      have c0 := h3.cell
      go_wp2_with fail
      refine (jsound_any d bl n vw x w3 hd3 hnp).mono ?_
      rintro e w4 ⟨rfl, f4⟩
      have fw4 := fw.trans f4 (by simp)
      go_wp2_with fail
      go_ret
      exact ⟨by rw [HT.out]; rfl, fw4⟩
    · have HT : Hid (x.storeOk n = false) := by show _ = _; rw [HS.out]; simp [hm]
      have hm' : ¬ (m : Int) ≤ 7 := by omega
      go_wp2_with fail
      go_ret
      refine ⟨?_, fw⟩
      rw [HT.out]
      rfl

theorem built_store (d : Nat) : Tryz.prog.built 96 [(0, .pointer (some ⟨d, 0, none⟩))] = some #[.pointer (some ⟨d, 0, none⟩)] := by kernel_rfl

set_option maxRecDepth 100000 in
set_option maxHeartbeats 1000000 in
theorem sholding_any (b : ByteArray) (n : Nat) (w : World) (hb : b.size = 64 * n) (h16 : 16 ≤ n) (h400 : n ≤ 400) :
    Calls Tryz.prog 72 #[.string b] w fun e w' => ∃ s d F, e = .returned (.pointer (some ⟨s, 0, none⟩)) ∧ StoreIn w' F s d n (DS.fresh b.data.toList) ∧ Frm [] w w' ∧ Grew [] F w ∧ w.heap.size ≤ s := by
  go_enter Tryz.func72, Tryz.ntmps72
  go_wp2_with (with_reducible first | refine stop_build 96 rfl ?_ | refine stop_box rfl ?_)
  refine (holding_any b n w hb h16 h400).mono ?_
  rintro e w1 ⟨d, F, rfl, hd, f1, g1⟩
  go_wp2_with (with_reducible first | refine stop_build 96 rfl ?_ | refine stop_box rfl ?_)
  refine Stopped.go (wl_val rfl (.agg #[.pointer (some ⟨d, 0, none⟩)]) w1 (ex_build _ _ rfl _ (built_store d)) ?_)
  go_wp2_with (with_reducible first | refine stop_box rfl ?_)
  refine Stopped.go (wl_box rfl 96 _ rfl (.agg #[.pointer (some ⟨d, 0, none⟩)]) rfl ?_)
  intro w2 s l2 f2 r2
  have hd2 := hd.new f2 (by simp)
  have fw := f1.trans f2 (by simp)
  have hs : s ∉ F := fun hF => by have := hd.lt s hF; omega
  go_wp2_with fail
  go_ret
  exact ⟨s, d, F, rfl, ⟨r2, hd2, hs⟩, fw, g1, by have := f1.size; omega⟩

theorem length_emptyL (n : Nat) (h : 1 ≤ n) : (emptyL n).length = 64 * n := by
  unfold emptyL
  rw [List.length_append, length_rootL, List.length_replicate]; omega

set_option maxRecDepth 100000 in
set_option maxHeartbeats 1000000 in
theorem new_any (n : Nat) (w : World) (h16 : 16 ≤ n) (h400 : n ≤ 400) :
    Calls Tryz.prog 40 #[.int .i64 n] w fun e w' => ∃ s d F, e = .returned (.tuple #[.pointer (some ⟨s, 0, none⟩), .int .i64 0]) ∧ StoreIn w' F s d n (DS.fresh (emptyL n)) ∧ Frm [] w w' ∧ Grew [] F w ∧ w.heap.size ≤ s := by
  go_enter Tryz.func40, Tryz.ntmps40
  go_wp2_with fail
  refine (isSize_any n w).mono ?_
  rintro e w1 ⟨rfl, rfl⟩
  have e1 : (decide (16 ≤ (n : Int)) && decide ((n : Int) ≤ 400)) = true := by
    rw [decide_eq_true (by omega), decide_eq_true (by omega)]; rfl
  rw [e1]
  go_wp2_with fail
  refine (empty_any n w1 (by omega) h400).mono ?_
  rintro e w2 ⟨rfl, f2⟩
  have hl := length_emptyL n (by omega)
  go_wp2_with fail
  refine (sholding_any ⟨(emptyL n).toArray⟩ n w2 (by rw [← hl]; rfl) h16 h400).mono ?_
  rintro e w3 ⟨s, d, F, rfl, hs, f3, g3, l3⟩
  have fw := f2.trans f3 (by simp)
  have hs' : StoreIn w3 F s d n (DS.fresh (emptyL n)) := hs
  have hsz := f2.size
  have gw : Grew [] F w1 := fun i hi => (g3 i hi).imp id (fun h => by omega)
  clear hs f2 f3 g3
  go_wp2_with fail
  all_goals
    go_ret2
    exact ⟨s, d, F, rfl, hs', fw, gw, by omega⟩

set_option maxRecDepth 100000 in
set_option maxHeartbeats 1000000 in
theorem open_any (b : ByteArray) (n : Nat) (w : World) (hb : b.size = 64 * n) (h16 : 16 ≤ n) (h400 : n ≤ 400) (hok : (DS.fresh b.data.toList).storeOk n = true) (hnp : (DS.fresh b.data.toList).pending n = false) :
    Calls Tryz.prog 38 #[.string b] w fun e w' => ∃ s d F, e = .returned (.tuple #[.pointer (some ⟨s, 0, none⟩), .int .i64 0]) ∧ StoreIn w' F s d n (DS.fresh b.data.toList) ∧ Frm [] w w' ∧ Grew [] F w ∧ w.heap.size ≤ s := by
  have hr : (b.size : Int).tmod 64 = 0 := by rw [hb]; push_cast; exact Int.mul_tmod_right _ _
  have hq : (b.size : Int).tdiv 64 = n := by rw [hb]; push_cast; exact Int.mul_tdiv_cancel_left _ (by decide)
  go_enter Tryz.func38, Tryz.ntmps38
  go_wp2_with fail
  refine (isSize_any n w).mono ?_
  rintro e w1 ⟨rfl, rfl⟩
  have e1 : (decide (16 ≤ (n : Int)) && decide ((n : Int) ≤ 400)) = true := by
    rw [decide_eq_true (by omega), decide_eq_true (by omega)]; rfl
  rw [e1]
  go_wp2_with fail
  refine (sholding_any b n w1 hb h16 h400).mono ?_
  rintro e w2 ⟨s, d, F, rfl, hs, f2, g2, l2⟩
  go_wp2_with fail
  refine (isSound_any F s d n _ w2 hs hnp).mono ?_
  rintro e w3 ⟨rfl, f3⟩
  have hs3 := hs.new f3
  have fw := f2.trans f3 (by simp)
  rw [hok]
  clear hs f2 f3
  go_wp2_with fail
  all_goals
    go_ret2
    exact ⟨s, d, F, rfl, hs3, fw, g2, l2⟩

end Go.Proofs.YtchcmhodnkgojaaGreat
