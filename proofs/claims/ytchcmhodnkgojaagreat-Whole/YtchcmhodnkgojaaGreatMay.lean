/- Disk.mayAct. -/
import Derived.Test.YtchcmhodnkgojaaGreatFail
set_option linter.all false
namespace Go.Proofs.YtchcmhodnkgojaaGreat
open Go.RowKit Go.Lib

def DS.fall (x : DS) : DS := { x with lasting := keptTo x.keep x.lasting x.waiting x.waiting.length, waiting := [], failed := true }
def DS.acted (x : DS) : DS := { x with left := if x.given then x.left - 1 else x.left, acts := x.acts + 1 }
/-- May the disk act? And what it is then. -/
def DS.canAct (x : DS) : Bool := !x.failed && !(x.given && x.left == 0)
def DS.stopped (x : DS) : DS := if x.failed then x else x.fall

theorem may_failed (d bl n : Nat) (vw : Value) (x : DS) (w : World) (h : DiskIn w d bl n vw x) (hf : x.failed = true) :
    Calls Tryz.prog 187 #[.pointer (some ⟨d, 0, none⟩)] w fun e w' => e = .returned (.bool false) ∧ w' = w := by
  obtain ⟨c0, c1, c2, c3, c4, c5, c6⟩ := dcell h.row
  rw [hf] at c6
  clear hf
  go_enter Tryz.func187, Tryz.ntmps187
  go_wp2_with fail
  go_ret
  exact ⟨rfl, rfl⟩

set_option maxHeartbeats 400000 in
theorem may_falls (d bl n : Nat) (vw : Value) (x : DS) (w : World) (h : DiskIn w d bl n vw x) (hf : x.failed = false) (hg : x.given = true) (hl : x.left = 0) :
    Calls Tryz.prog 187 #[.pointer (some ⟨d, 0, none⟩)] w fun e w' => e = .returned (.bool false) ∧ DiskIn w' d bl n (.slice none 0 0) x.fall ∧ Frm [d, bl] w w' := by
  obtain ⟨c0, c1, c2, c3, c4, c5, c6⟩ := dcell h.row
  rw [hf] at c6
  rw [hg] at c3
  rw [hl] at c4
  clear hf hg hl
  go_enter Tryz.func187, Tryz.ntmps187
  go_wp2_with fail
  refine (fail_any d bl n vw x _ h).mono ?_
  rintro e w1 ⟨rfl, h1, f1⟩
  go_wp2_with fail
  go_ret
  exact ⟨rfl, h1, f1⟩

set_option maxHeartbeats 400000 in
theorem may_acts (d bl n : Nat) (vw : Value) (x : DS) (w : World) (h : DiskIn w d bl n vw x) (hc : x.canAct = true) (hl : 0 ≤ x.left) (hl2 : x.left ≤ 9223372036854775807) (ha : 0 ≤ x.acts) (ha2 : x.acts < 1000000000) :
    Calls Tryz.prog 187 #[.pointer (some ⟨d, 0, none⟩)] w fun e w' => e = .returned (.bool true) ∧ DiskIn w' d bl n vw x.acted ∧ Frm [d] w w' := by
  obtain ⟨c0, c1, c2, c3, c4, c5, c6⟩ := dcell h.row
  have hth := h.row.thaw
  have hdb := h.ne
  have hf : x.failed = false := by simp [DS.canAct] at hc; exact hc.1
  rw [hf] at c6
  by_cases hg : x.given = true
  · have hz : (x.left == 0) = false := by simp [DS.canAct, hg] at hc; simpa using hc.2
    have hz' : x.left ≠ 0 := by simpa using hz
    rw [hg] at c3
    have HG : Hid (x.given = true) := hg
    clear hg hf hc
    go_enter Tryz.func187, Tryz.ntmps187
    go_wp2_with fail
    go_ret
    have fs : Frm [d] w ((w.setCell ⟨d, 4, none⟩ (.int .i64 (x.left - 1))).setCell ⟨d, 2, none⟩ (.int .i64 (x.acts + 1))) := (Frm.setCell [d] _ _ _ (by simp)).trans (Frm.setCell [d] _ _ _ (by simp)) (by simp)
    refine ⟨rfl, h.reset fs ?_ rfl rfl, fs⟩
    have := (h.row.setCell 4 (.int .i64 (x.left - 1))).setCell 2 (.int .i64 (x.acts + 1))
    simpa [dcells, DS.acted, HG.out] using this
  · have hg' : x.given = false := by simpa using hg
    rw [hg'] at c3
    have HG : Hid (x.given = false) := hg'
    clear hg hf hc hg'
    go_enter Tryz.func187, Tryz.ntmps187
    go_wp2_with fail
    go_ret
    have fs : Frm [d] w (w.setCell ⟨d, 2, none⟩ (.int .i64 (x.acts + 1))) := Frm.setCell [d] _ _ _ (by simp)
    refine ⟨rfl, h.reset fs ?_ rfl rfl, fs⟩
    have := h.row.setCell 2 (.int .i64 (x.acts + 1))
    simpa [dcells, DS.acted, HG.out] using this

end Go.Proofs.YtchcmhodnkgojaaGreat
