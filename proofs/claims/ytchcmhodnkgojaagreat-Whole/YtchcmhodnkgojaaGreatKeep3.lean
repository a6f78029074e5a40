/- isPending of the statements: a Remove of a file that is not there. -/
import Derived.Test.YtchcmhodnkgojaaGreatKeep2
set_option linter.all false
namespace Go.Proofs.YtchcmhodnkgojaaGreat
open Go.RowKit Go.Lib

def zpath : ByteArray := ⟨#[122, 122, 122, 122, 122, 122, 122, 122]⟩

set_option maxRecDepth 100000 in
set_option maxHeartbeats 1000000 in
theorem kpending_spec (F : List Nat) (s d n : Nat) (x : DS) (w : World) (h : StoreIn w F s d n x) (hx : x.Fit 2) (hfew : x.waiting.length < 60) (r : Int) (hr : (x.sremove n 0 zpath).2 = .int .i64 r) :
    Calls Tryz.prog 24 #[.pointer (some ⟨s, 0, none⟩)] w fun e w' => e = .returned (.tuple #[.bool (r == 4), .bool (r == 4 || r == 5)]) ∧ (∃ F', StoreIn w' F' s d n (x.sremove n 0 zpath).1 ∧ Grew F F' w) ∧ Frm F w w' := by
  have hp : isPathL zpath.data.toList = true := by decide
  go_enter Tryz.func24, Tryz.ntmps24
  go_wp2_with fail
  refine (sremove_spec F s d n x 0 zpath w h hx hfew (by omega) hp (by decide)).mono ?_
  rintro e w2 ⟨rfl, hF, f2⟩
  rw [hr]
  clear hr h
  cases h4 : (r == 4)
  · have n4 : r ≠ 4 := by simpa using h4
    cases h5 : (r == 5)
    · go_wp2_with fail
      all_goals
        go_ret2
        refine ⟨?_, hF, f2⟩
        simp [h4, h5]
    · go_wp2_with fail
      all_goals
        go_ret2
        refine ⟨?_, hF, f2⟩
        simp [h4, h5]
  · go_wp2_with fail
    all_goals
      go_ret2
      refine ⟨?_, hF, f2⟩
      simp [h4]

end Go.Proofs.YtchcmhodnkgojaaGreat
