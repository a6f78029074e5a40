/- The store: a pointer to its disk; its small calls. -/
import Derived.Test.YtchcmhodnkgojaaGreatPend
set_option linter.all false
namespace Go.Proofs.YtchcmhodnkgojaaGreat
open Go.RowKit Go.Lib

/-- A store behind block s, its disk behind d. -/
structure StoreIn (w : World) (F : List Nat) (s d n : Nat) (x : DS) : Prop where
  row : Row w s #[.pointer (some ⟨d, 0, none⟩)] 96
  disk : DiskOwn w F d n x
  ne : s ∉ F
theorem StoreIn.new {w w' : World} {F : List Nat} {s d n : Nat} {x : DS} (h : StoreIn w F s d n x) (f : Frm [] w w') : StoreIn w' F s d n x :=
  ⟨f.row h.row (by simp), h.disk.new f (by simp), h.ne⟩
theorem StoreIn.cell {w : World} {F : List Nat} {s d n : Nat} {x : DS} (h : StoreIn w F s d n x) : w.cell? ⟨s, 0, none⟩ = some (.pointer (some ⟨d, 0, none⟩)) := by rw [h.row.cell]; rfl
theorem StoreIn.diskIn {w : World} {F : List Nat} {s d n : Nat} {x : DS} (h : StoreIn w F s d n x) : ∃ bl vw, DiskIn w d bl n vw x := by
  obtain ⟨bl, vw, h, _⟩ := h.disk; exact ⟨bl, vw, h⟩

set_option maxRecDepth 100000 in
set_option maxHeartbeats 1000000 in
theorem isSize_any (n : Int) (w : World) : Calls Tryz.prog 71 #[.int .i64 n] w fun e w' => e = .returned (.bool (decide (16 ≤ n) && decide (n ≤ 400))) ∧ w' = w := by
  go_enter Tryz.func71, Tryz.ntmps71
  by_cases h1 : 16 ≤ n <;> by_cases h2 : n ≤ 400
  all_goals
    have e1 : Hid ((decide (16 ≤ n) && decide (n ≤ 400)) = (decide (16 ≤ n) && decide (n ≤ 400))) := rfl
    simp only [h1, h2, decide_true, decide_false] at e1 ⊢
    go_wp2_with fail
    go_ret
    simp

set_option maxRecDepth 100000 in
set_option maxHeartbeats 1000000 in
theorem isSide_any (n : Int) (w : World) : Calls Tryz.prog 74 #[.int .i64 n] w fun e w' => e = .returned (.bool (n == 0 || n == 1)) ∧ w' = w := by
  go_enter Tryz.func74, Tryz.ntmps74
  cases h1 : (n == 0) <;> cases h2 : (n == 1)
  all_goals
    go_wp2_with fail
    go_ret
    simp [h1, h2]

set_option maxRecDepth 100000 in
set_option maxHeartbeats 1000000 in
theorem hasNoDisk_any (F : List Nat) (s d n : Nat) (x : DS) (w : World) (h : StoreIn w F s d n x) : Calls Tryz.prog 44 #[.pointer (some ⟨s, 0, none⟩)] w fun e w' => e = .returned (.bool false) ∧ w' = w := by
  have c0 := h.cell
  go_enter Tryz.func44, Tryz.ntmps44
  go_wp2_with fail
  go_ret
  exact ⟨rfl, rfl⟩

set_option maxRecDepth 100000 in
set_option maxHeartbeats 1000000 in
theorem isDown_any (F : List Nat) (s d n : Nat) (x : DS) (w : World) (h : StoreIn w F s d n x) : Calls Tryz.prog 46 #[.pointer (some ⟨s, 0, none⟩)] w fun e w' => e = .returned (.bool x.failed) ∧ w' = w := by
  have c0 := h.cell
  obtain ⟨bl, vw, hd⟩ := h.diskIn
  go_enter Tryz.func46, Tryz.ntmps46
  go_wp2_with fail
  refine (hasNoDisk_any F s d n x w h).mono ?_
  rintro e w1 ⟨rfl, rfl⟩
  go_wp2_with fail
  refine (failed_any d bl n vw x w1 hd).mono ?_
  rintro e w2 ⟨rfl, rfl⟩
  go_wp2_with fail
  go_ret
  exact ⟨rfl, rfl⟩

set_option maxRecDepth 100000 in
set_option maxHeartbeats 1000000 in
theorem mayChange_any (F : List Nat) (s d n : Nat) (x : DS) (w : World) (h : StoreIn w F s d n x) : Calls Tryz.prog 54 #[.pointer (some ⟨s, 0, none⟩)] w fun e w' => e = .returned (.int .i64 (if x.failed then 3 else if x.pending n then 4 else 0)) ∧ Frm [] w w' := by
  have c0 := h.cell
  obtain ⟨bl, vw, hd⟩ := h.diskIn
  go_enter Tryz.func54, Tryz.ntmps54
  go_wp2_with fail
  refine (isDown_any F s d n x w h).mono ?_
  rintro e w1 ⟨rfl, rfl⟩
  have HO : Hid ((if x.failed then (3 : Int) else if x.pending n then 4 else 0) = (if x.failed then (3 : Int) else if x.pending n then 4 else 0)) := rfl
  cases hf : x.failed with
  | true =>
    go_wp2_with fail
    go_ret
    exact ⟨by simp, Frm.refl _ _⟩
  | false =>
    go_wp2_with fail
    refine (pending_any d bl n vw x w1 hd).mono ?_
    rintro e w2 ⟨rfl, f2⟩
    cases hp : x.pending n with
    | true =>
      go_wp2_with fail
      all_goals
        go_ret
        exact ⟨by simp, f2⟩
    | false =>
      go_wp2_with fail
      all_goals
        go_ret
        exact ⟨by simp, f2⟩

end Go.Proofs.YtchcmhodnkgojaaGreat
