/- The disk's small functions. -/
import Derived.Test.YtchcmhodnkgojaaGreatWrite
set_option linter.all false
namespace Go.Proofs.YtchcmhodnkgojaaGreat
open Go.RowKit Go.Lib

theorem acts_any (d bl n : Nat) (vw : Value) (x : DS) (w : World) (h : DiskIn w d bl n vw x) :
    Calls Tryz.prog 45 #[.pointer (some ⟨d, 0, none⟩)] w fun e w' => e = .returned (.int .i64 x.acts) ∧ w' = w := by
  obtain ⟨c0, c1, c2, c3, c4, c5, c6⟩ := dcell h.row
  go_enter Tryz.func45, Tryz.ntmps45
  go_wp2_with fail
  go_ret
  exact ⟨rfl, rfl⟩

theorem failed_any (d bl n : Nat) (vw : Value) (x : DS) (w : World) (h : DiskIn w d bl n vw x) :
    Calls Tryz.prog 79 #[.pointer (some ⟨d, 0, none⟩)] w fun e w' => e = .returned (.bool x.failed) ∧ w' = w := by
  obtain ⟨c0, c1, c2, c3, c4, c5, c6⟩ := dcell h.row
  go_enter Tryz.func79, Tryz.ntmps79
  go_wp2_with fail
  go_ret
  exact ⟨rfl, rfl⟩

theorem sectors_any (d bl n : Nat) (vw : Value) (x : DS) (w : World) (h : DiskIn w d bl n vw x) :
    Calls Tryz.prog 117 #[.pointer (some ⟨d, 0, none⟩)] w fun e w' => e = .returned (.int .i64 n) ∧ w' = w := by
  obtain ⟨c0, c1, c2, c3, c4, c5, c6⟩ := dcell h.row
  go_enter Tryz.func117, Tryz.ntmps117
  go_wp2_with fail
  go_ret
  exact ⟨rfl, rfl⟩

theorem dfail_any (d bl n : Nat) (vw : Value) (x : DS) (after keep : Int) (w : World) (h : DiskIn w d bl n vw x) :
    Calls Tryz.prog 47 #[.pointer (some ⟨d, 0, none⟩), .int .i64 after, .int .i64 keep] w fun e w' => e = .returned (.tuple #[]) ∧ DiskIn w' d bl n vw { x with given := true, left := after, keep := keep } ∧ Frm [d] w w' := by
  obtain ⟨c0, c1, c2, c3, c4, c5, c6⟩ := dcell h.row
  have hf := h.row.thaw
  go_enter Tryz.func47, Tryz.ntmps47
  go_wp2_with fail
  go_end0
  have fs : Frm [d] w (((w.setCell ⟨d, 3, none⟩ (.bool true)).setCell ⟨d, 4, none⟩ (.int .i64 after)).setCell ⟨d, 5, none⟩ (.int .i64 keep)) := ((Frm.setCell [d] _ _ _ (by simp)).trans (Frm.setCell [d] _ _ _ (by simp)) (by simp)).trans (Frm.setCell [d] _ _ _ (by simp)) (by simp)
  refine ⟨rfl, h.reset fs ?_ rfl rfl, fs⟩
  have := ((h.row.setCell 3 (.bool true)).setCell 4 (.int .i64 after)).setCell 5 (.int .i64 keep)
  simpa [dcells] using this

end Go.Proofs.YtchcmhodnkgojaaGreat
