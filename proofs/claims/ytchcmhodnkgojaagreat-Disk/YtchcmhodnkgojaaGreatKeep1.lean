/- The statements' own small functions: pick, path, content. -/
import Derived.Test.YtchcmhodnkgojaaGreatPutC
set_option linter.all false
namespace Go.Proofs.YtchcmhodnkgojaaGreat
open Go.RowKit Go.Lib

/-- A raw number brought into n. -/
def pickD (c : Int) (n : Nat) : Nat := ((if c < 0 then -(c + 1) else c) % (n : Int)).toNat
theorem pickD_lt (c : Int) (n : Nat) (h : 0 < n) : pickD c n < n := by
  unfold pickD
  have h1 := Int.emod_lt_of_pos (if c < 0 then -(c + 1) else c) (show (0 : Int) < n by omega)
  have h2 := Int.emod_nonneg (if c < 0 then -(c + 1) else c) (show (n : Int) ≠ 0 by omega)
  omega
theorem pickD_cast (c : Int) (n : Nat) (h : 0 < n) : ((pickD c n : Nat) : Int) = (if c < 0 then -(c + 1) else c) % (n : Int) := by
  unfold pickD
  have h2 := Int.emod_nonneg (if c < 0 then -(c + 1) else c) (show (n : Int) ≠ 0 by omega)
  omega

set_option maxRecDepth 100000 in
set_option maxHeartbeats 1000000 in
theorem pick_any (c : Int) (n : Nat) (w : World) (h0 : -9223372036854775808 ≤ c) (h1 : c ≤ 9223372036854775807) (hn : 0 < n) (hn2 : n ≤ 1000000000) :
    Calls Tryz.prog 19 #[.int .i64 c, .int .i64 n] w fun e w' => e = .returned (.int .i64 (pickD c n)) ∧ w' = w := by
  have HP : Hid (((pickD c n : Nat) : Int) = (if c < 0 then -(c + 1) else c) % (n : Int)) := pickD_cast c n hn
  have hne : ((n : Int) == 0) = false := by rw [beq_eq_false_iff_ne]; omega
  have hne' : (n : Int) ≠ 0 := by omega
  go_enter Tryz.func19, Tryz.ntmps19
  by_cases hc : c < 0
  · have HQ : Hid (((pickD c n : Nat) : Int) = -((c + 1).tmod (n : Int))) := by
      show _ = _; rw [HP.out, if_pos hc, ← Int.neg_tmod, Int.tmod_eq_emod_of_nonneg (by omega)]
    go_wp2_with fail
    go_ret
    exact ⟨by rw [HQ.out]; rfl, rfl⟩
  · have HQ : Hid (((pickD c n : Nat) : Int) = c % (n : Int)) := by
      show _ = _; rw [HP.out, if_neg hc]
    go_wp2_with fail
    go_ret
    exact ⟨by rw [HQ.out]; rfl, rfl⟩

def contentD (s : ByteArray) : ByteArray := if s.size > 96 then s.extract 0 96 else s

set_option maxRecDepth 100000 in
set_option maxHeartbeats 1000000 in
theorem content_any (s : ByteArray) (w : World) : Calls Tryz.prog 43 #[.string s] w fun e w' => e = .returned (.string (contentD s)) ∧ w' = w := by
  go_enter Tryz.func43, Tryz.ntmps43
  by_cases hc : s.size > 96
  · have HQ : Hid (contentD s = s.extract 0 96) := by show _ = _; unfold contentD; rw [if_pos hc]
    have hc' : (s.size : Int) > 96 := by omega
    go_wp2_with fail
    go_ret
    exact ⟨by rw [HQ.out]; rfl, rfl⟩
  · have HQ : Hid (contentD s = s) := by show _ = _; unfold contentD; rw [if_neg hc]
    have hc' : ¬ (s.size : Int) > 96 := by omega
    go_wp2_with fail
    go_ret
    exact ⟨by rw [HQ.out]; rfl, rfl⟩

/-- One of seven paths. -/
def pathD (i : Nat) : ByteArray := (⟨#[97, 98, 99, 100, 101, 102, 103]⟩ : ByteArray).extract i (i + 1)
theorem pathD_ok (i : Nat) (h : i < 7) : isPathL (pathD i).data.toList = true ∧ (pathD i).size = 1 := by
  rcases (by omega : i = 0 ∨ i = 1 ∨ i = 2 ∨ i = 3 ∨ i = 4 ∨ i = 5 ∨ i = 6) with rfl | rfl | rfl | rfl | rfl | rfl | rfl <;> exact ⟨by decide, by decide⟩

set_option maxRecDepth 100000 in
set_option maxHeartbeats 1000000 in
theorem path_any (c : Int) (w : World) (h0 : -9223372036854775808 ≤ c) (h1 : c ≤ 9223372036854775807) : Calls Tryz.prog 41 #[.int .i64 c] w fun e w' => e = .returned (.string (pathD (pickD c 7))) ∧ w' = w := by
  have hlt := pickD_lt c 7 (by omega)
  go_enter Tryz.func41, Tryz.ntmps41
  go_wp2_with fail
  refine (pick_any c 7 w h0 h1 (by omega) (by omega)).mono ?_
  rintro e w1 ⟨rfl, rfl⟩
  generalize hi : pickD c 7 = i at *
  have HI : Hid (pickD c 7 = i) := hi
  clear hi
  rcases (by omega : i = 0 ∨ i = 1 ∨ i = 2 ∨ i = 3 ∨ i = 4 ∨ i = 5 ∨ i = 6) with rfl | rfl | rfl | rfl | rfl | rfl | rfl
  all_goals
    go_wp2_with fail
    go_ret
    exact ⟨by rw [HI.out]; rfl, rfl⟩

end Go.Proofs.YtchcmhodnkgojaaGreat
