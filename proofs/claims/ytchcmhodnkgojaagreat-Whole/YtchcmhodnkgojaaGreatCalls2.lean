/- Get and Remove of package concord, at sides and paths that are ones. -/
import Derived.Test.YtchcmhodnkgojaaGreatCalls1
set_option linter.all false
namespace Go.Proofs.YtchcmhodnkgojaaGreat
open Go.RowKit Go.Lib

set_option maxRecDepth 100000 in
set_option maxHeartbeats 1000000 in
theorem isSet_any (n : Nat) (w : World) (hn : n ≤ 2) : Calls Tryz.prog 48 #[.int .i64 n] w fun e w' => e = .returned (.bool true) ∧ w' = w := by
  go_enter Tryz.func48, Tryz.ntmps48
  rcases (by omega : n = 0 ∨ n = 1 ∨ n = 2) with rfl | rfl | rfl
  all_goals
    go_wp2_with fail
    refine (isSide_any _ w).mono ?_
    rintro e w1 ⟨rfl, rfl⟩
    go_wp2_with fail
    go_ret
    exact ⟨rfl, rfl⟩

/-- What Get answers. -/
def DS.get (x : DS) (n s : Nat) (p : ByteArray) : Value × Int := if x.failed then (.string ⟨#[]⟩, 3) else match x.content n s p with
  | none => (.string ⟨#[]⟩, 5)
  | some c => (.string (bstr c), 0)
theorem built_nm (s : Int) (p : ByteArray) : Tryz.prog.built 103 [(0, .int .i64 s), (1, .string p)] = some (ncells s p) := by kernel_rfl

set_option maxRecDepth 100000 in
set_option maxHeartbeats 1000000 in
theorem get_any (F : List Nat) (s d n : Nat) (x : DS) (side : Nat) (p : ByteArray) (w : World) (h : StoreIn w F s d n x) (hs : side ≤ 2) (hp : isPathL p.data.toList = true) (hpl : p.size ≤ 8) :
    Calls Tryz.prog 22 #[.pointer (some ⟨s, 0, none⟩), .int .i64 side, .string p] w fun e w' => e = .returned (.tuple #[(x.get n side p).1, .int .i64 (x.get n side p).2]) ∧ Frm [] w w' := by
  have c0 := h.cell
  obtain ⟨bl, vw, hd⟩ := h.diskIn
  have HG : Hid (x.get n side p = (if x.failed then ((Value.string ⟨#[]⟩, 3) : Value × Int) else match x.content n side p with | none => (Value.string ⟨#[]⟩, 5) | some c => (Value.string (bstr c), 0))) := rfl
  go_enter Tryz.func22, Tryz.ntmps22
  go_wp2_with fail
  refine (hasNoDisk_any F s d n x w h).mono ?_
  rintro e w1 ⟨rfl, rfl⟩
  go_wp2_with fail
  refine (isSet_any side w1 hs).mono ?_
  rintro e w2 ⟨rfl, rfl⟩
  go_wp2_with fail
  refine (isPath_any p w2 (by omega)).mono ?_
  rintro e w3 ⟨rfl, f3⟩
  rw [hp]
  have h3 := h.new f3
  have hd3 := hd.new f3 (by simp)
  have c0 := h3.cell
  go_wp2_with fail
  refine (isDown_any F s d n x w3 h3).mono ?_
  rintro e w4 ⟨rfl, rfl⟩
  cases hf : x.failed with
  | true =>
    rw [hf] at HG
    go_wp2_with fail
    all_goals
      go_ret2
      rw [HG.out]
      exact ⟨rfl, f3⟩
  | false =>
    rw [hf] at HG
    go_wp2_with (with_reducible first | refine stop_build 103 rfl ?_)
    refine Stopped.go (wl_val rfl (.agg (ncells side p)) w4 (ex_build _ _ rfl _ (built_nm side p)) ?_)
    go_wp2_with fail
    refine (find_any d bl n vw x side p w4 hd3).mono ?_
    rintro e w5 ⟨rfl, f5⟩
    have fw := f3.trans f5 (by simp)
    generalize x.content n side p = r at *
    cases r with
    | none =>
      go_wp2_with fail
      all_goals
        go_ret2
        rw [HG.out]
        exact ⟨rfl, fw⟩
    | some c =>
      go_wp2_with fail
      all_goals
        go_ret2
        rw [HG.out]
        exact ⟨rfl, fw⟩

/-- What Remove does to the disk, and what it answers. -/
def DS.sremove (x : DS) (n s : Nat) (p : ByteArray) : DS × Value :=
  if x.failed then (x, .int .i64 3) else if x.pending n then (x, .int .i64 4) else x.remove n s p

set_option maxRecDepth 100000 in
set_option maxHeartbeats 1000000 in
theorem sremove_spec (F : List Nat) (s d n : Nat) (x : DS) (side : Nat) (p : ByteArray) (w : World) (h : StoreIn w F s d n x) (hx : x.Fit 2) (hfew : x.waiting.length < 60) (hs : side ≤ 1) (hp : isPathL p.data.toList = true) (hpl : p.size ≤ 8) :
    Calls Tryz.prog 42 #[.pointer (some ⟨s, 0, none⟩), .int .i64 side, .string p] w fun e w' => e = .returned (x.sremove n side p).2 ∧ (∃ F', StoreIn w' F' s d n (x.sremove n side p).1 ∧ Grew F F' w) ∧ Frm F w w' := by
  have HG : Hid (x.sremove n side p = if x.failed then (x, .int .i64 3) else if x.pending n then (x, .int .i64 4) else x.remove n side p) := rfl
  have e1 : ((side : Int) == 0 || (side : Int) == 1) = true := by
    rcases (by omega : side = 0 ∨ side = 1) with rfl | rfl <;> rfl
  go_enter Tryz.func42, Tryz.ntmps42
  go_wp2_with fail
  refine (hasNoDisk_any F s d n x w h).mono ?_
  rintro e w1 ⟨rfl, rfl⟩
  go_wp2_with fail
  refine (isSide_any side w1).mono ?_
  rintro e w2 ⟨rfl, rfl⟩
  rw [e1]
  go_wp2_with fail
  refine (isPath_any p w2 (by omega)).mono ?_
  rintro e w3 ⟨rfl, f3⟩
  rw [hp]
  have h3 := h.new f3
  go_wp2_with fail
  refine (mayChange_any F s d n x w3 h3).mono ?_
  rintro e w4 ⟨rfl, f4⟩
  have h4 := h3.new f4
  have fw := f3.trans f4 (by simp)
  have c0 := h4.cell
  cases hf : x.failed with
  | true =>
    rw [hf] at HG
    have HG2 : Hid (x.sremove n side p = (x, .int .i64 3)) := by show _ = _; rw [HG.out]; rfl
    simp only [if_true]
    go_wp2_with fail
    all_goals
      go_ret
      rw [HG2.out]
      exact ⟨rfl, ⟨F, h4, Grew.refl _ _⟩, fw.mono (by simp)⟩
  | false =>
    rw [hf] at HG
    cases hpd : x.pending n with
    | true =>
      rw [hpd] at HG
      have HG2 : Hid (x.sremove n side p = (x, .int .i64 4)) := by show _ = _; rw [HG.out]; rfl
      simp only [if_true, Bool.false_eq_true, if_false]
      go_wp2_with fail
      all_goals
        go_ret
        rw [HG2.out]
        exact ⟨rfl, ⟨F, h4, Grew.refl _ _⟩, fw.mono (by simp)⟩
    | false =>
      rw [hpd] at HG
      have HG2 : Hid (x.sremove n side p = x.remove n side p) := by show _ = _; rw [HG.out]; rfl
      simp only [Bool.false_eq_true, if_false]
      go_wp2_with (with_reducible first | refine stop_build 103 rfl ?_)
      refine Stopped.go (wl_val rfl (.agg (ncells side p)) w4 (ex_build _ _ rfl _ (built_nm side p)) ?_)
      go_wp2_with fail
      refine (remove_spec F d n x side p w4 h4.disk hx hfew).mono ?_
      rintro e w5 ⟨rfl, F5, h5, f5, g5⟩
      have gw := (Grew.refl F w2).trans g5 fw.size
      have hs5 : StoreIn w5 F5 s d n (x.remove n side p).1 := ⟨f5.row h4.row h4.ne, h5, fun hF => (gw s hF).elim h.ne (fun hh => by have := h.row.lt; omega)⟩
      have f15 : Frm F w2 w5 := (fw.mono (T := F) (by simp)).trans f5 (fun i hi => .inl hi)
      go_wp2_with fail
      all_goals
        go_ret
        rw [HG2.out]
        exact ⟨rfl, ⟨F5, hs5, gw⟩, f15⟩

end Go.Proofs.YtchcmhodnkgojaaGreat
