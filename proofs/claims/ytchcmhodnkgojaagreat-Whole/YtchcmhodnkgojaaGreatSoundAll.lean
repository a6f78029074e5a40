/- Sound; Fail. -/
import Derived.Test.YtchcmhodnkgojaaGreatSoundNames
set_option linter.all false
namespace Go.Proofs.YtchcmhodnkgojaaGreat
open Go.RowKit Go.Lib

set_option maxRecDepth 100000 in
set_option maxHeartbeats 1000000 in
theorem sound_any (d bl n : Nat) (vw : Value) (x : DS) (w : World) (h : DiskIn w d bl n vw x) :
    Calls Tryz.prog 105 #[.pointer (some ⟨d, 0, none⟩)] w fun e w' => e = .returned (.bool (x.sound n)) ∧ Frm [] w w' := by
  have HS : Hid (x.sound n = (x.rootOk n && (x.recsOk n && x.namesOk n))) := rfl
  go_enter Tryz.func105, Tryz.ntmps105
  go_wp2_with fail
  refine (soundRoot_any d bl n vw x w h).mono ?_
  rintro e w1 ⟨rfl, f1⟩
  have h1 := h.new f1 (by simp)
  cases hr : x.rootOk n with
  | false =>
    rw [hr] at HS
    go_wp2_with fail
    go_ret
    exact ⟨by rw [HS.out]; rfl, f1⟩
  | true =>
    rw [hr] at HS
    go_wp2_with fail
    refine (soundRecords_any d bl n vw x w1 h1).mono ?_
    rintro e w2 ⟨rfl, f2⟩
    have h2 := h1.new f2 (by simp)
    have fw := f1.trans f2 (by simp)
    cases hc : x.recsOk n with
    | false =>
      rw [hc] at HS
      go_wp2_with fail
      go_ret
      exact ⟨by rw [HS.out]; rfl, fw⟩
    | true =>
      rw [hc] at HS
      go_wp2_with fail
      refine (soundNames_any d bl n vw x w2 h2).mono ?_
      rintro e w3 ⟨rfl, f3⟩
      have fw3 := fw.trans f3 (by simp)
      go_wp2_with fail
      go_ret
      exact ⟨by rw [HS.out]; rfl, fw3⟩

/-- The script is given anew. -/
def DS.script (x : DS) (after keep : Int) : DS := { x with given := true, left := after, keep := keep }
theorem info_script : (Tryz.prog.info? 132).map (·.size) = some 3 := by kernel_rfl
theorem built_script (a b : Int) : Tryz.prog.built 132 [(0, .bool true), (1, .int .i64 a), (2, .int .i64 b)] = some #[.bool true, .int .i64 a, .int .i64 b] := by kernel_rfl

set_option maxRecDepth 100000 in
set_option maxHeartbeats 1000000 in
theorem fail_spec (F : List Nat) (d n : Nat) (x : DS) (after keep : Int) (w : World) (h : DiskOwn w F d n x) :
    Calls Tryz.prog 47 #[.pointer (some ⟨d, 0, none⟩), .int .i64 after, .int .i64 keep] w fun e w' => e = .returned (.tuple #[]) ∧ DiskOwn w' F d n (x.script after keep) ∧ Frm F w w' := by
  obtain ⟨bl, vw, h, rfl⟩ := h
  go_enter Tryz.func47, Tryz.ntmps47
  go_wp2_with (with_reducible first | refine stop_build 132 rfl ?_ | refine stop_store 132 rfl ?_)
  refine Stopped.go (wl_val rfl (.agg #[.bool true, .int .i64 after, .int .i64 keep]) w (ex_build _ _ rfl _ (built_script after keep)) ?_)
  go_wp2_with (with_reducible first | refine stop_build 132 rfl ?_ | refine stop_store 132 rfl ?_)
  refine Stopped.go (wl_store rfl 132 _ _ rfl d 3 rfl #[.bool true, .int .i64 after, .int .i64 keep] rfl 3 info_script rfl (by simp [Value.oneCell']) _ _ h.row (by simp [dcells]) ?_)
  intro w1 f1 r1
  have r1' : Row w1 d (dcells bl n vw (x.script after keep)) 134 := r1
  have h1 := h.reset f1 r1' rfl rfl
  go_wp2_with fail
  go_end0
  exact ⟨rfl, ⟨bl, vw, h1, rfl⟩, f1.mono (by simp)⟩

end Go.Proofs.YtchcmhodnkgojaaGreat
