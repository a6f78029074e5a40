/- Of package step: the journal's name; whether it lies there; Sound where it does not. -/
import Derived.Test.YtchcmhodnkgojaaGreatCount
set_option linter.all false
namespace Go.Proofs.YtchcmhodnkgojaaGreat
open Go.RowKit Go.Lib

theorem built_journal : Tryz.prog.built 103 [(0, .int .i64 3)] = some (ncells 3 ⟨#[]⟩) := by kernel_rfl
def zName : Value := .agg (ncells 0 ⟨#[]⟩)
theorem zero_name : (Tryz.prog.info? 103).map (·.zero) = some (some zName) := by kernel_rfl
/-- A Sync is pending: its journal lies there. -/
def DS.pending (x : DS) (n : Nat) : Bool := (x.content n 3 ⟨#[]⟩).isSome

set_option maxRecDepth 100000 in
set_option maxHeartbeats 1000000 in
theorem journalName_any (w : World) : Calls Tryz.prog 93 #[] w fun e w' => e = .returned (.agg (ncells 3 ⟨#[]⟩)) ∧ Frm [] w w' := by
  go_enter Tryz.func93, Tryz.ntmps93
  go_wp2_with (with_reducible first | refine stop_alloc rfl ?_ | refine stop_build 103 rfl ?_ | refine stop_store 103 rfl ?_)
  refine Stopped.go (wl_alloc rfl 103 rfl zName zero_name ?_)
  intro w1 b l1 f1 r1
  go_wp2_with (with_reducible first | refine stop_alloc rfl ?_ | refine stop_build 103 rfl ?_ | refine stop_store 103 rfl ?_)
  refine Stopped.go (wl_val rfl (.agg (ncells 3 ⟨#[]⟩)) w1 (ex_build _ _ rfl _ built_journal) ?_)
  go_wp2_with (with_reducible first | refine stop_store 103 rfl ?_)
  refine Stopped.go (wl_store rfl 103 _ _ rfl _ 0 rfl _ rfl 2 info_name ?_ ?_ _ _ r1 ?_ ?_)
  · rfl
  · simp [ncells, Value.oneCell']
  · decide
  intro w2 f2 q2
  rw [over_all _ _ (by rfl)] at q2
  have q2' : Row w2 b (ncells 3 ⟨#[]⟩) 103 := q2
  have fw := f1.trans f2 (by simp; exact l1)
  clear q2
  go_wp2_with fail
  exact ret_row rfl b rfl rfl _ _ q2' row_name (by exact info_name) ⟨rfl, fw⟩

set_option maxRecDepth 100000 in
set_option maxHeartbeats 1000000 in
theorem pending_any (d bl n : Nat) (vw : Value) (x : DS) (w : World) (h : DiskIn w d bl n vw x) : Calls Tryz.prog 57 #[.pointer (some ⟨d, 0, none⟩)] w fun e w' => e = .returned (.bool (x.pending n)) ∧ Frm [] w w' := by
  have HP : Hid (x.pending n = (x.content n 3 ⟨#[]⟩).isSome) := rfl
  go_enter Tryz.func57, Tryz.ntmps57
  go_wp2_with fail
  refine (journalName_any w).mono ?_
  rintro e w1 ⟨rfl, f1⟩
  have h1 := h.new f1 (by simp)
  go_wp2_with fail
  refine (find_any d bl n vw x 3 ⟨#[]⟩ w1 h1).mono ?_
  rintro e w2 ⟨rfl, f2⟩
  have fw := f1.trans f2 (by simp)
  generalize x.content n 3 ⟨#[]⟩ = r at *
  go_wp2_with fail
  go_ret
  exact ⟨by rw [HP.out]; rfl, fw⟩

set_option maxRecDepth 100000 in
set_option maxHeartbeats 1000000 in
theorem jsound_any (d bl n : Nat) (vw : Value) (x : DS) (w : World) (h : DiskIn w d bl n vw x) (hp : x.pending n = false) : Calls Tryz.prog 106 #[.pointer (some ⟨d, 0, none⟩)] w fun e w' => e = .returned (.bool true) ∧ Frm [] w w' := by
  have hc : x.content n 3 ⟨#[]⟩ = none := by
    unfold DS.pending at hp
    cases hq : x.content n 3 ⟨#[]⟩ with
    | none => rfl
    | some c => rw [hq] at hp; cases hp
  go_enter Tryz.func106, Tryz.ntmps106
  go_wp2_with fail
  refine (journalName_any w).mono ?_
  rintro e w1 ⟨rfl, f1⟩
  have h1 := h.new f1 (by simp)
  go_wp2_with fail
  refine (find_any d bl n vw x 3 ⟨#[]⟩ w1 h1).mono ?_
  rintro e w2 ⟨rfl, f2⟩
  have fw := f1.trans f2 (by simp)
  rw [hc]
  go_wp2_with fail
  go_ret
  exact ⟨rfl, fw⟩

end Go.Proofs.YtchcmhodnkgojaaGreat
