/- act of the statements. (Written by wip/genact.py.) -/
import Derived.Test.YtchcmhodnkgojaaGreatKeep3
set_option linter.all false
namespace Go.Proofs.YtchcmhodnkgojaaGreat
open Go.RowKit Go.Lib

theorem al_three {P : Program} {ops : Array Oper} {Q : Exit → Act → World → Prop} {n m : Nat} {l : List Nat} {a : Act} {w : World} (i j k : Nat) (hr : Region.ready .any ops (marks n l) = [i, j, k]) (hi : i < n) (hj : j < n) (hk : k < n) (h1 : Step P ops Q n m l i a w) (h2 : Step P ops Q n m l j a w) (h3 : Step P ops Q n m l k a w) : AtL P ops Q n (m + 1) l a w :=
  al_all [i, j, k] (by simp) hr (by simp [hi, hj, hk]) (by simp [h1, h2, h3])
theorem contentD_size (s : ByteArray) : (contentD s).size ≤ 96 := by
  unfold contentD
  split
  · rw [ByteArray.size_extract]; omega
  · omega

def actCells (k sd pt : Int) (ct : ByteArray) : Array Value := #[.int .i64 k, .int .i64 sd, .int .i64 pt, .string ct]
/-- A call that is no Sync. -/
def DS.act (x : DS) (n : Nat) (k sd pt : Int) (ct : ByteArray) : DS × Value :=
  if pickD k 4 = 2 then x.sremove n (pickD sd 2) (pathD (pickD pt 7)) else x.sput n (pickD sd 2) (pathD (pickD pt 7)) (contentD ct)

set_option maxRecDepth 100000 in
set_option maxHeartbeats 4000000 in
theorem act_spec (F : List Nat) (s d n : Nat) (x : DS) (k sd pt : Int) (ct : ByteArray) (w : World) (h : StoreIn w F s d n x) (hx : x.Fit 5) (hfew : x.waiting.length < 55) (h3 : pickD k 4 ≠ 3)
    (hk0 : -9223372036854775808 ≤ k) (hk1 : k ≤ 9223372036854775807) (hs0 : -9223372036854775808 ≤ sd) (hs1 : sd ≤ 9223372036854775807) (hp0 : -9223372036854775808 ≤ pt) (hp1 : pt ≤ 9223372036854775807) :
    Calls Tryz.prog 17 #[.pointer (some ⟨s, 0, none⟩), .agg (actCells k sd pt ct)] w fun e w' => e = .returned (x.act n k sd pt ct).2 ∧ (∃ F', StoreIn w' F' s d n (x.act n k sd pt ct).1 ∧ Grew F F' w) ∧ Frm F w w' := by
  have hpo := pathD_ok (pickD pt 7) (pickD_lt pt 7 (by omega))
  have hco := contentD_size ct
  have hsd := pickD_lt sd 2 (by omega)
  have HD : Hid (x.act n k sd pt ct = if pickD k 4 = 2 then x.sremove n (pickD sd 2) (pathD (pickD pt 7)) else x.sput n (pickD sd 2) (pathD (pickD pt 7)) (contentD ct)) := rfl
  go_enter Tryz.func17, Tryz.ntmps17
  go_wp2_with (with_reducible first | refine stop_box rfl ?_)
  refine Stopped.go (wl_box rfl 24 _ rfl (.agg (actCells k sd pt ct)) rfl ?_)
  intro w1 b3 l3 f1 r3
  have h1 := h.new f1
  have c0 : w1.cell? ⟨b3, 0, none⟩ = some (.int .i64 k) := by rw [r3.cell]; rfl
  have r3' : Row w1 b3 (actCells k sd pt ct) 24 := r3
  clear r3
  go_wp2_with fail
  refine (pick_any k 4 w1 hk0 hk1 (by omega) (by omega)).mono ?_
  rintro e w2 ⟨rfl, rfl⟩
  clear c0
  by_cases h2 : pickD k 4 = 2
  · have HA : Hid (x.act n k sd pt ct = x.sremove n (pickD sd 2) (pathD (pickD pt 7))) := by show _ = _; rw [HD.out, if_pos h2]
    rw [h2]
    clear HD h3
    go_wp2_with fail
    refine at_begin 9 (by kernel_rfl) rfl ?_
    have fd : Frm [] w2 w2.drew := Frm.drew _ _
    have h5 := h1.new fd
    have r5 := fd.row r3' (by simp)
    have fw5 := f1.trans fd (by simp)
    generalize w2.drew = w5 at h5 r5 fw5
    have c1 : w5.cell? ⟨b3, 1, none⟩ = some (.int .i64 sd) := by rw [r5.cell]; rfl
    have c2 : w5.cell? ⟨b3, 2, none⟩ = some (.int .i64 pt) := by rw [r5.cell]; rfl
    have c3 : w5.cell? ⟨b3, 3, none⟩ = some (.string ct) := by rw [r5.cell]; rfl
    clear fd h1 r3' f1 r5 h2
    refine al_begin ?_
    refine al_pure 0 (by omega) (some 12) rfl rfl (by kernel_rfl) (by kernel_rfl) (by kernel_rfl) (fun _ _ _ h => h) rfl (v := (.pointer (some ⟨s, 0, none⟩))) (fun _ => rfl) ?_
    refine al_pure 1 (by omega) (some 13) rfl rfl (by kernel_rfl) (by kernel_rfl) (by kernel_rfl) (fun _ _ _ h => h) rfl (v := (.pointer (some ⟨b3, 1, none⟩))) (fun _ => by go_simp) ?_
    refine al_pure 4 (by omega) (some 16) rfl rfl (by kernel_rfl) (by kernel_rfl) (by kernel_rfl) (fun _ _ _ h => h) rfl (v := (.pointer (some ⟨b3, 2, none⟩))) (fun _ => by go_simp) ?_
    simp only [Act.put, List.setIfInBounds_toArray, List.set_cons_succ, List.set_cons_zero]
    refine al_tail (m := 2) (Y := Unit) [6, 5, 4, 3, 2, 1, 0] (fun _ => True) (fun _ a => ((((a.put (some 14) (.int .i64 sd)).put (some 17) (.int .i64 pt)).put (some 15) (.int .i64 (pickD sd 2 : Nat))).put (some 18) (.string (pathD (pickD pt 7))))) (fun _ => w5) ?_ ?_
    · intro _ _
      simp only [Act.put, List.setIfInBounds_toArray, List.set_cons_succ, List.set_cons_zero]
      refine al_step 7 (by kernel_rfl) (by omega) (step_call 7 rfl rfl (some 19) rfl 42 #[.pointer (some ⟨s, 0, none⟩), .int .i64 (pickD sd 2 : Nat), .string (pathD (pickD pt 7))] (by go_simp) _ (sremove_spec F s d n x (pickD sd 2) (pathD (pickD pt 7)) w5 h5 ⟨hx.acts0, by have := hx.acts1; omega, hx.left0, hx.left1⟩ (by omega) (by omega) hpo.1 (by omega)) ?_)
      rintro e we ⟨rfl, ⟨Fe, hse, ge⟩, fe⟩
      refine ⟨_, rfl, ?_⟩
      have f2e : Frm F w we := (fw5.mono (T := F) (by simp)).trans fe (fun i hi => .inl hi)
      have gw := (Grew.refl F w).trans ge fw5.size
      clear c1 c2 c3 h5 fe ge
      generalize hpx : x.sremove n (pickD sd 2) (pathD (pickD pt 7)) = y at *
      have HPX : Hid (x.sremove n (pickD sd 2) (pathD (pickD pt 7)) = y) := hpx
      clear hpx
      simp only [Act.put, List.setIfInBounds_toArray, List.set_cons_succ, List.set_cons_zero]
      refine al_step 8 (by kernel_rfl) (by omega) (step_val 8 rfl rfl (some 4) rfl y.2 we rfl ?_)
      refine al_done (by kernel_rfl) ?_
      simp only [Act.put, List.setIfInBounds_toArray, List.set_cons_succ, List.set_cons_zero]
      go_wp2_with fail
      all_goals
        go_ret
        rw [HA.out]
        exact ⟨rfl, ⟨Fe, hse, gw⟩, f2e⟩
    intro tail0
    have tail := fun l hl => tail0 () l hl trivial
    simp only [Act.put, List.setIfInBounds_toArray, List.set_cons_succ, List.set_cons_zero] at tail
    clear tail0
    refine al_two 2 5 (by kernel_rfl) (by omega) (by omega) ?_ ?_
    · skip
      refine step_val 2 rfl rfl (some 14) rfl (.int .i64 sd) w5 (by go_simp) ?_
      simp only [Act.put, List.setIfInBounds_toArray, List.set_cons_succ, List.set_cons_zero]
      refine al_two 3 5 (by kernel_rfl) (by omega) (by omega) ?_ ?_
      · skip
        refine step_call 3 rfl rfl (some 15) rfl 19 #[.int .i64 sd, .int .i64 2] (by go_simp) _ (pick_any sd 2 w5 hs0 hs1 (by omega) (by omega)) ?_
        rintro e w' ⟨rfl, hw⟩
        rw [hw]
        clear hw
        refine ⟨_, rfl, ?_⟩
        simp only [Act.put, List.setIfInBounds_toArray, List.set_cons_succ, List.set_cons_zero]
        refine al_step 5 (by kernel_rfl) (by omega) ?_
        refine step_val 5 rfl rfl (some 17) rfl (.int .i64 pt) w5 (by go_simp) ?_
        simp only [Act.put, List.setIfInBounds_toArray, List.set_cons_succ, List.set_cons_zero]
        refine al_step 6 (by kernel_rfl) (by omega) ?_
        refine step_call 6 rfl rfl (some 18) rfl 41 #[.int .i64 pt] (by go_simp) _ (path_any pt w5 hp0 hp1) ?_
        rintro e w' ⟨rfl, hw⟩
        rw [hw]
        clear hw
        refine ⟨_, rfl, ?_⟩
        simp only [Act.put, List.setIfInBounds_toArray, List.set_cons_succ, List.set_cons_zero]
        exact tail _ (by kernel_rfl)
      · skip
        refine step_val 5 rfl rfl (some 17) rfl (.int .i64 pt) w5 (by go_simp) ?_
        simp only [Act.put, List.setIfInBounds_toArray, List.set_cons_succ, List.set_cons_zero]
        refine al_step 3 (by kernel_rfl) (by omega) ?_
        refine step_call 3 rfl rfl (some 15) rfl 19 #[.int .i64 sd, .int .i64 2] (by go_simp) _ (pick_any sd 2 w5 hs0 hs1 (by omega) (by omega)) ?_
        rintro e w' ⟨rfl, hw⟩
        rw [hw]
        clear hw
        refine ⟨_, rfl, ?_⟩
        simp only [Act.put, List.setIfInBounds_toArray, List.set_cons_succ, List.set_cons_zero]
        refine al_step 6 (by kernel_rfl) (by omega) ?_
        refine step_call 6 rfl rfl (some 18) rfl 41 #[.int .i64 pt] (by go_simp) _ (path_any pt w5 hp0 hp1) ?_
        rintro e w' ⟨rfl, hw⟩
        rw [hw]
        clear hw
        refine ⟨_, rfl, ?_⟩
        simp only [Act.put, List.setIfInBounds_toArray, List.set_cons_succ, List.set_cons_zero]
        exact tail _ (by kernel_rfl)
    · skip
      refine step_val 5 rfl rfl (some 17) rfl (.int .i64 pt) w5 (by go_simp) ?_
      simp only [Act.put, List.setIfInBounds_toArray, List.set_cons_succ, List.set_cons_zero]
      refine al_step 2 (by kernel_rfl) (by omega) ?_
      refine step_val 2 rfl rfl (some 14) rfl (.int .i64 sd) w5 (by go_simp) ?_
      simp only [Act.put, List.setIfInBounds_toArray, List.set_cons_succ, List.set_cons_zero]
      refine al_step 3 (by kernel_rfl) (by omega) ?_
      refine step_call 3 rfl rfl (some 15) rfl 19 #[.int .i64 sd, .int .i64 2] (by go_simp) _ (pick_any sd 2 w5 hs0 hs1 (by omega) (by omega)) ?_
      rintro e w' ⟨rfl, hw⟩
      rw [hw]
      clear hw
      refine ⟨_, rfl, ?_⟩
      simp only [Act.put, List.setIfInBounds_toArray, List.set_cons_succ, List.set_cons_zero]
      refine al_step 6 (by kernel_rfl) (by omega) ?_
      refine step_call 6 rfl rfl (some 18) rfl 41 #[.int .i64 pt] (by go_simp) _ (path_any pt w5 hp0 hp1) ?_
      rintro e w' ⟨rfl, hw⟩
      rw [hw]
      clear hw
      refine ⟨_, rfl, ?_⟩
      simp only [Act.put, List.setIfInBounds_toArray, List.set_cons_succ, List.set_cons_zero]
      exact tail _ (by kernel_rfl)
  · have HA : Hid (x.act n k sd pt ct = x.sput n (pickD sd 2) (pathD (pickD pt 7)) (contentD ct)) := by show _ = _; rw [HD.out, if_neg h2]
    have hm2 : (((pickD k 4 : Nat) : Int) == 2) = false := by rw [beq_eq_false_iff_ne]; omega
    have hm3 : (((pickD k 4 : Nat) : Int) == 3) = false := by rw [beq_eq_false_iff_ne]; omega
    generalize pickD k 4 = mk at hm2 hm3 ⊢
    clear HD
    go_wp2_with fail
    · skip
      refine at_begin 12 (by kernel_rfl) rfl ?_
      have fd : Frm [] w2 w2.drew := Frm.drew _ _
      have h5 := h1.new fd
      have r5 := fd.row r3' (by simp)
      have fw5 := f1.trans fd (by simp)
      generalize w2.drew = w5 at h5 r5 fw5
      have c1 : w5.cell? ⟨b3, 1, none⟩ = some (.int .i64 sd) := by rw [r5.cell]; rfl
      have c2 : w5.cell? ⟨b3, 2, none⟩ = some (.int .i64 pt) := by rw [r5.cell]; rfl
      have c3 : w5.cell? ⟨b3, 3, none⟩ = some (.string ct) := by rw [r5.cell]; rfl
      clear fd h1 r3' f1 r5 h2
      refine al_begin ?_
      refine al_pure 0 (by omega) (some 28) rfl rfl (by kernel_rfl) (by kernel_rfl) (by kernel_rfl) (fun _ _ _ h => h) rfl (v := (.pointer (some ⟨s, 0, none⟩))) (fun _ => rfl) ?_
      refine al_pure 1 (by omega) (some 29) rfl rfl (by kernel_rfl) (by kernel_rfl) (by kernel_rfl) (fun _ _ _ h => h) rfl (v := (.pointer (some ⟨b3, 1, none⟩))) (fun _ => by go_simp) ?_
      refine al_pure 4 (by omega) (some 32) rfl rfl (by kernel_rfl) (by kernel_rfl) (by kernel_rfl) (fun _ _ _ h => h) rfl (v := (.pointer (some ⟨b3, 2, none⟩))) (fun _ => by go_simp) ?_
      refine al_pure 7 (by omega) (some 35) rfl rfl (by kernel_rfl) (by kernel_rfl) (by kernel_rfl) (fun _ _ _ h => h) rfl (v := (.pointer (some ⟨b3, 3, none⟩))) (fun _ => by go_simp) ?_
      simp only [Act.put, List.setIfInBounds_toArray, List.set_cons_succ, List.set_cons_zero]
      refine al_tail (m := 2) (Y := Unit) [9, 8, 7, 6, 5, 4, 3, 2, 1, 0] (fun _ => True) (fun _ a => ((((((a.put (some 30) (.int .i64 sd)).put (some 33) (.int .i64 pt)).put (some 36) (.string ct)).put (some 31) (.int .i64 (pickD sd 2 : Nat))).put (some 34) (.string (pathD (pickD pt 7)))).put (some 37) (.string (contentD ct)))) (fun _ => w5) ?_ ?_
      · intro _ _
        simp only [Act.put, List.setIfInBounds_toArray, List.set_cons_succ, List.set_cons_zero]
        refine al_step 10 (by kernel_rfl) (by omega) (step_call 10 rfl rfl (some 38) rfl 39 #[.pointer (some ⟨s, 0, none⟩), .int .i64 (pickD sd 2 : Nat), .string (pathD (pickD pt 7)), .string (contentD ct)] (by go_simp) _ (sput_spec F s d n x (pickD sd 2) (pathD (pickD pt 7)) (contentD ct) w5 h5 hx hfew (by omega) hpo.1 (by omega) hco) ?_)
        rintro e we ⟨rfl, ⟨Fe, hse, ge⟩, fe⟩
        refine ⟨_, rfl, ?_⟩
        have f2e : Frm F w we := (fw5.mono (T := F) (by simp)).trans fe (fun i hi => .inl hi)
        have gw := (Grew.refl F w).trans ge fw5.size
        clear c1 c2 c3 h5 fe ge
        generalize hpx : x.sput n (pickD sd 2) (pathD (pickD pt 7)) (contentD ct) = y at *
        have HPX : Hid (x.sput n (pickD sd 2) (pathD (pickD pt 7)) (contentD ct) = y) := hpx
        clear hpx
        simp only [Act.put, List.setIfInBounds_toArray, List.set_cons_succ, List.set_cons_zero]
        refine al_step 11 (by kernel_rfl) (by omega) (step_val 11 rfl rfl (some 4) rfl y.2 we rfl ?_)
        refine al_done (by kernel_rfl) ?_
        simp only [Act.put, List.setIfInBounds_toArray, List.set_cons_succ, List.set_cons_zero]
        go_wp2_with fail
        all_goals
          go_ret
          rw [HA.out]
          exact ⟨rfl, ⟨Fe, hse, gw⟩, f2e⟩
      intro tail0
      have tail := fun l hl => tail0 () l hl trivial
      simp only [Act.put, List.setIfInBounds_toArray, List.set_cons_succ, List.set_cons_zero] at tail
      clear tail0
      refine al_three 2 5 8 (by kernel_rfl) (by omega) (by omega) (by omega) ?_ ?_ ?_
      · skip
        refine step_val 2 rfl rfl (some 30) rfl (.int .i64 sd) w5 (by go_simp) ?_
        simp only [Act.put, List.setIfInBounds_toArray, List.set_cons_succ, List.set_cons_zero]
        refine al_three 3 5 8 (by kernel_rfl) (by omega) (by omega) (by omega) ?_ ?_ ?_
        · skip
          refine step_call 3 rfl rfl (some 31) rfl 19 #[.int .i64 sd, .int .i64 2] (by go_simp) _ (pick_any sd 2 w5 hs0 hs1 (by omega) (by omega)) ?_
          rintro e w' ⟨rfl, hw⟩
          rw [hw]
          clear hw
          refine ⟨_, rfl, ?_⟩
          simp only [Act.put, List.setIfInBounds_toArray, List.set_cons_succ, List.set_cons_zero]
          refine al_two 5 8 (by kernel_rfl) (by omega) (by omega) ?_ ?_
          · skip
            refine step_val 5 rfl rfl (some 33) rfl (.int .i64 pt) w5 (by go_simp) ?_
            simp only [Act.put, List.setIfInBounds_toArray, List.set_cons_succ, List.set_cons_zero]
            refine al_two 6 8 (by kernel_rfl) (by omega) (by omega) ?_ ?_
            · skip
              refine step_call 6 rfl rfl (some 34) rfl 41 #[.int .i64 pt] (by go_simp) _ (path_any pt w5 hp0 hp1) ?_
              rintro e w' ⟨rfl, hw⟩
              rw [hw]
              clear hw
              refine ⟨_, rfl, ?_⟩
              simp only [Act.put, List.setIfInBounds_toArray, List.set_cons_succ, List.set_cons_zero]
              refine al_step 8 (by kernel_rfl) (by omega) ?_
              refine step_val 8 rfl rfl (some 36) rfl (.string ct) w5 (by go_simp) ?_
              simp only [Act.put, List.setIfInBounds_toArray, List.set_cons_succ, List.set_cons_zero]
              refine al_step 9 (by kernel_rfl) (by omega) ?_
              refine step_call 9 rfl rfl (some 37) rfl 43 #[.string ct] (by go_simp) _ (content_any ct w5) ?_
              rintro e w' ⟨rfl, hw⟩
              rw [hw]
              clear hw
              refine ⟨_, rfl, ?_⟩
              simp only [Act.put, List.setIfInBounds_toArray, List.set_cons_succ, List.set_cons_zero]
              exact tail _ (by kernel_rfl)
            · skip
              refine step_val 8 rfl rfl (some 36) rfl (.string ct) w5 (by go_simp) ?_
              simp only [Act.put, List.setIfInBounds_toArray, List.set_cons_succ, List.set_cons_zero]
              refine al_step 6 (by kernel_rfl) (by omega) ?_
              refine step_call 6 rfl rfl (some 34) rfl 41 #[.int .i64 pt] (by go_simp) _ (path_any pt w5 hp0 hp1) ?_
              rintro e w' ⟨rfl, hw⟩
              rw [hw]
              clear hw
              refine ⟨_, rfl, ?_⟩
              simp only [Act.put, List.setIfInBounds_toArray, List.set_cons_succ, List.set_cons_zero]
              refine al_step 9 (by kernel_rfl) (by omega) ?_
              refine step_call 9 rfl rfl (some 37) rfl 43 #[.string ct] (by go_simp) _ (content_any ct w5) ?_
              rintro e w' ⟨rfl, hw⟩
              rw [hw]
              clear hw
              refine ⟨_, rfl, ?_⟩
              simp only [Act.put, List.setIfInBounds_toArray, List.set_cons_succ, List.set_cons_zero]
              exact tail _ (by kernel_rfl)
          · skip
            refine step_val 8 rfl rfl (some 36) rfl (.string ct) w5 (by go_simp) ?_
            simp only [Act.put, List.setIfInBounds_toArray, List.set_cons_succ, List.set_cons_zero]
            refine al_step 5 (by kernel_rfl) (by omega) ?_
            refine step_val 5 rfl rfl (some 33) rfl (.int .i64 pt) w5 (by go_simp) ?_
            simp only [Act.put, List.setIfInBounds_toArray, List.set_cons_succ, List.set_cons_zero]
            refine al_step 6 (by kernel_rfl) (by omega) ?_
            refine step_call 6 rfl rfl (some 34) rfl 41 #[.int .i64 pt] (by go_simp) _ (path_any pt w5 hp0 hp1) ?_
            rintro e w' ⟨rfl, hw⟩
            rw [hw]
            clear hw
            refine ⟨_, rfl, ?_⟩
            simp only [Act.put, List.setIfInBounds_toArray, List.set_cons_succ, List.set_cons_zero]
            refine al_step 9 (by kernel_rfl) (by omega) ?_
            refine step_call 9 rfl rfl (some 37) rfl 43 #[.string ct] (by go_simp) _ (content_any ct w5) ?_
            rintro e w' ⟨rfl, hw⟩
            rw [hw]
            clear hw
            refine ⟨_, rfl, ?_⟩
            simp only [Act.put, List.setIfInBounds_toArray, List.set_cons_succ, List.set_cons_zero]
            exact tail _ (by kernel_rfl)
        · skip
          refine step_val 5 rfl rfl (some 33) rfl (.int .i64 pt) w5 (by go_simp) ?_
          simp only [Act.put, List.setIfInBounds_toArray, List.set_cons_succ, List.set_cons_zero]
          refine al_two 3 8 (by kernel_rfl) (by omega) (by omega) ?_ ?_
          · skip
            refine step_call 3 rfl rfl (some 31) rfl 19 #[.int .i64 sd, .int .i64 2] (by go_simp) _ (pick_any sd 2 w5 hs0 hs1 (by omega) (by omega)) ?_
            rintro e w' ⟨rfl, hw⟩
            rw [hw]
            clear hw
            refine ⟨_, rfl, ?_⟩
            simp only [Act.put, List.setIfInBounds_toArray, List.set_cons_succ, List.set_cons_zero]
            refine al_two 6 8 (by kernel_rfl) (by omega) (by omega) ?_ ?_
            · skip
              refine step_call 6 rfl rfl (some 34) rfl 41 #[.int .i64 pt] (by go_simp) _ (path_any pt w5 hp0 hp1) ?_
              rintro e w' ⟨rfl, hw⟩
              rw [hw]
              clear hw
              refine ⟨_, rfl, ?_⟩
              simp only [Act.put, List.setIfInBounds_toArray, List.set_cons_succ, List.set_cons_zero]
              refine al_step 8 (by kernel_rfl) (by omega) ?_
              refine step_val 8 rfl rfl (some 36) rfl (.string ct) w5 (by go_simp) ?_
              simp only [Act.put, List.setIfInBounds_toArray, List.set_cons_succ, List.set_cons_zero]
              refine al_step 9 (by kernel_rfl) (by omega) ?_
              refine step_call 9 rfl rfl (some 37) rfl 43 #[.string ct] (by go_simp) _ (content_any ct w5) ?_
              rintro e w' ⟨rfl, hw⟩
              rw [hw]
              clear hw
              refine ⟨_, rfl, ?_⟩
              simp only [Act.put, List.setIfInBounds_toArray, List.set_cons_succ, List.set_cons_zero]
              exact tail _ (by kernel_rfl)
            · skip
              refine step_val 8 rfl rfl (some 36) rfl (.string ct) w5 (by go_simp) ?_
              simp only [Act.put, List.setIfInBounds_toArray, List.set_cons_succ, List.set_cons_zero]
              refine al_step 6 (by kernel_rfl) (by omega) ?_
              refine step_call 6 rfl rfl (some 34) rfl 41 #[.int .i64 pt] (by go_simp) _ (path_any pt w5 hp0 hp1) ?_
              rintro e w' ⟨rfl, hw⟩
              rw [hw]
              clear hw
              refine ⟨_, rfl, ?_⟩
              simp only [Act.put, List.setIfInBounds_toArray, List.set_cons_succ, List.set_cons_zero]
              refine al_step 9 (by kernel_rfl) (by omega) ?_
              refine step_call 9 rfl rfl (some 37) rfl 43 #[.string ct] (by go_simp) _ (content_any ct w5) ?_
              rintro e w' ⟨rfl, hw⟩
              rw [hw]
              clear hw
              refine ⟨_, rfl, ?_⟩
              simp only [Act.put, List.setIfInBounds_toArray, List.set_cons_succ, List.set_cons_zero]
              exact tail _ (by kernel_rfl)
          · skip
            refine step_val 8 rfl rfl (some 36) rfl (.string ct) w5 (by go_simp) ?_
            simp only [Act.put, List.setIfInBounds_toArray, List.set_cons_succ, List.set_cons_zero]
            refine al_step 3 (by kernel_rfl) (by omega) ?_
            refine step_call 3 rfl rfl (some 31) rfl 19 #[.int .i64 sd, .int .i64 2] (by go_simp) _ (pick_any sd 2 w5 hs0 hs1 (by omega) (by omega)) ?_
            rintro e w' ⟨rfl, hw⟩
            rw [hw]
            clear hw
            refine ⟨_, rfl, ?_⟩
            simp only [Act.put, List.setIfInBounds_toArray, List.set_cons_succ, List.set_cons_zero]
            refine al_step 6 (by kernel_rfl) (by omega) ?_
            refine step_call 6 rfl rfl (some 34) rfl 41 #[.int .i64 pt] (by go_simp) _ (path_any pt w5 hp0 hp1) ?_
            rintro e w' ⟨rfl, hw⟩
            rw [hw]
            clear hw
            refine ⟨_, rfl, ?_⟩
            simp only [Act.put, List.setIfInBounds_toArray, List.set_cons_succ, List.set_cons_zero]
            refine al_step 9 (by kernel_rfl) (by omega) ?_
            refine step_call 9 rfl rfl (some 37) rfl 43 #[.string ct] (by go_simp) _ (content_any ct w5) ?_
            rintro e w' ⟨rfl, hw⟩
            rw [hw]
            clear hw
            refine ⟨_, rfl, ?_⟩
            simp only [Act.put, List.setIfInBounds_toArray, List.set_cons_succ, List.set_cons_zero]
            exact tail _ (by kernel_rfl)
        · skip
          refine step_val 8 rfl rfl (some 36) rfl (.string ct) w5 (by go_simp) ?_
          simp only [Act.put, List.setIfInBounds_toArray, List.set_cons_succ, List.set_cons_zero]
          refine al_two 3 5 (by kernel_rfl) (by omega) (by omega) ?_ ?_
          · skip
            refine step_call 3 rfl rfl (some 31) rfl 19 #[.int .i64 sd, .int .i64 2] (by go_simp) _ (pick_any sd 2 w5 hs0 hs1 (by omega) (by omega)) ?_
            rintro e w' ⟨rfl, hw⟩
            rw [hw]
            clear hw
            refine ⟨_, rfl, ?_⟩
            simp only [Act.put, List.setIfInBounds_toArray, List.set_cons_succ, List.set_cons_zero]
            refine al_step 5 (by kernel_rfl) (by omega) ?_
            refine step_val 5 rfl rfl (some 33) rfl (.int .i64 pt) w5 (by go_simp) ?_
            simp only [Act.put, List.setIfInBounds_toArray, List.set_cons_succ, List.set_cons_zero]
            refine al_step 6 (by kernel_rfl) (by omega) ?_
            refine step_call 6 rfl rfl (some 34) rfl 41 #[.int .i64 pt] (by go_simp) _ (path_any pt w5 hp0 hp1) ?_
            rintro e w' ⟨rfl, hw⟩
            rw [hw]
            clear hw
            refine ⟨_, rfl, ?_⟩
            simp only [Act.put, List.setIfInBounds_toArray, List.set_cons_succ, List.set_cons_zero]
            refine al_step 9 (by kernel_rfl) (by omega) ?_
            refine step_call 9 rfl rfl (some 37) rfl 43 #[.string ct] (by go_simp) _ (content_any ct w5) ?_
            rintro e w' ⟨rfl, hw⟩
            rw [hw]
            clear hw
            refine ⟨_, rfl, ?_⟩
            simp only [Act.put, List.setIfInBounds_toArray, List.set_cons_succ, List.set_cons_zero]
            exact tail _ (by kernel_rfl)
          · skip
            refine step_val 5 rfl rfl (some 33) rfl (.int .i64 pt) w5 (by go_simp) ?_
            simp only [Act.put, List.setIfInBounds_toArray, List.set_cons_succ, List.set_cons_zero]
            refine al_step 3 (by kernel_rfl) (by omega) ?_
            refine step_call 3 rfl rfl (some 31) rfl 19 #[.int .i64 sd, .int .i64 2] (by go_simp) _ (pick_any sd 2 w5 hs0 hs1 (by omega) (by omega)) ?_
            rintro e w' ⟨rfl, hw⟩
            rw [hw]
            clear hw
            refine ⟨_, rfl, ?_⟩
            simp only [Act.put, List.setIfInBounds_toArray, List.set_cons_succ, List.set_cons_zero]
            refine al_step 6 (by kernel_rfl) (by omega) ?_
            refine step_call 6 rfl rfl (some 34) rfl 41 #[.int .i64 pt] (by go_simp) _ (path_any pt w5 hp0 hp1) ?_
            rintro e w' ⟨rfl, hw⟩
            rw [hw]
            clear hw
            refine ⟨_, rfl, ?_⟩
            simp only [Act.put, List.setIfInBounds_toArray, List.set_cons_succ, List.set_cons_zero]
            refine al_step 9 (by kernel_rfl) (by omega) ?_
            refine step_call 9 rfl rfl (some 37) rfl 43 #[.string ct] (by go_simp) _ (content_any ct w5) ?_
            rintro e w' ⟨rfl, hw⟩
            rw [hw]
            clear hw
            refine ⟨_, rfl, ?_⟩
            simp only [Act.put, List.setIfInBounds_toArray, List.set_cons_succ, List.set_cons_zero]
            exact tail _ (by kernel_rfl)
      · skip
        refine step_val 5 rfl rfl (some 33) rfl (.int .i64 pt) w5 (by go_simp) ?_
        simp only [Act.put, List.setIfInBounds_toArray, List.set_cons_succ, List.set_cons_zero]
        refine al_two 2 8 (by kernel_rfl) (by omega) (by omega) ?_ ?_
        · skip
          refine step_val 2 rfl rfl (some 30) rfl (.int .i64 sd) w5 (by go_simp) ?_
          simp only [Act.put, List.setIfInBounds_toArray, List.set_cons_succ, List.set_cons_zero]
          refine al_two 3 8 (by kernel_rfl) (by omega) (by omega) ?_ ?_
          · skip
            refine step_call 3 rfl rfl (some 31) rfl 19 #[.int .i64 sd, .int .i64 2] (by go_simp) _ (pick_any sd 2 w5 hs0 hs1 (by omega) (by omega)) ?_
            rintro e w' ⟨rfl, hw⟩
            rw [hw]
            clear hw
            refine ⟨_, rfl, ?_⟩
            simp only [Act.put, List.setIfInBounds_toArray, List.set_cons_succ, List.set_cons_zero]
            refine al_two 6 8 (by kernel_rfl) (by omega) (by omega) ?_ ?_
            · skip
              refine step_call 6 rfl rfl (some 34) rfl 41 #[.int .i64 pt] (by go_simp) _ (path_any pt w5 hp0 hp1) ?_
              rintro e w' ⟨rfl, hw⟩
              rw [hw]
              clear hw
              refine ⟨_, rfl, ?_⟩
              simp only [Act.put, List.setIfInBounds_toArray, List.set_cons_succ, List.set_cons_zero]
              refine al_step 8 (by kernel_rfl) (by omega) ?_
              refine step_val 8 rfl rfl (some 36) rfl (.string ct) w5 (by go_simp) ?_
              simp only [Act.put, List.setIfInBounds_toArray, List.set_cons_succ, List.set_cons_zero]
              refine al_step 9 (by kernel_rfl) (by omega) ?_
              refine step_call 9 rfl rfl (some 37) rfl 43 #[.string ct] (by go_simp) _ (content_any ct w5) ?_
              rintro e w' ⟨rfl, hw⟩
              rw [hw]
              clear hw
              refine ⟨_, rfl, ?_⟩
              simp only [Act.put, List.setIfInBounds_toArray, List.set_cons_succ, List.set_cons_zero]
              exact tail _ (by kernel_rfl)
            · skip
              refine step_val 8 rfl rfl (some 36) rfl (.string ct) w5 (by go_simp) ?_
              simp only [Act.put, List.setIfInBounds_toArray, List.set_cons_succ, List.set_cons_zero]
              refine al_step 6 (by kernel_rfl) (by omega) ?_
              refine step_call 6 rfl rfl (some 34) rfl 41 #[.int .i64 pt] (by go_simp) _ (path_any pt w5 hp0 hp1) ?_
              rintro e w' ⟨rfl, hw⟩
              rw [hw]
              clear hw
              refine ⟨_, rfl, ?_⟩
              simp only [Act.put, List.setIfInBounds_toArray, List.set_cons_succ, List.set_cons_zero]
              refine al_step 9 (by kernel_rfl) (by omega) ?_
              refine step_call 9 rfl rfl (some 37) rfl 43 #[.string ct] (by go_simp) _ (content_any ct w5) ?_
              rintro e w' ⟨rfl, hw⟩
              rw [hw]
              clear hw
              refine ⟨_, rfl, ?_⟩
              simp only [Act.put, List.setIfInBounds_toArray, List.set_cons_succ, List.set_cons_zero]
              exact tail _ (by kernel_rfl)
          · skip
            refine step_val 8 rfl rfl (some 36) rfl (.string ct) w5 (by go_simp) ?_
            simp only [Act.put, List.setIfInBounds_toArray, List.set_cons_succ, List.set_cons_zero]
            refine al_step 3 (by kernel_rfl) (by omega) ?_
            refine step_call 3 rfl rfl (some 31) rfl 19 #[.int .i64 sd, .int .i64 2] (by go_simp) _ (pick_any sd 2 w5 hs0 hs1 (by omega) (by omega)) ?_
            rintro e w' ⟨rfl, hw⟩
            rw [hw]
            clear hw
            refine ⟨_, rfl, ?_⟩
            simp only [Act.put, List.setIfInBounds_toArray, List.set_cons_succ, List.set_cons_zero]
            refine al_step 6 (by kernel_rfl) (by omega) ?_
            refine step_call 6 rfl rfl (some 34) rfl 41 #[.int .i64 pt] (by go_simp) _ (path_any pt w5 hp0 hp1) ?_
            rintro e w' ⟨rfl, hw⟩
            rw [hw]
            clear hw
            refine ⟨_, rfl, ?_⟩
            simp only [Act.put, List.setIfInBounds_toArray, List.set_cons_succ, List.set_cons_zero]
            refine al_step 9 (by kernel_rfl) (by omega) ?_
            refine step_call 9 rfl rfl (some 37) rfl 43 #[.string ct] (by go_simp) _ (content_any ct w5) ?_
            rintro e w' ⟨rfl, hw⟩
            rw [hw]
            clear hw
            refine ⟨_, rfl, ?_⟩
            simp only [Act.put, List.setIfInBounds_toArray, List.set_cons_succ, List.set_cons_zero]
            exact tail _ (by kernel_rfl)
        · skip
          refine step_val 8 rfl rfl (some 36) rfl (.string ct) w5 (by go_simp) ?_
          simp only [Act.put, List.setIfInBounds_toArray, List.set_cons_succ, List.set_cons_zero]
          refine al_step 2 (by kernel_rfl) (by omega) ?_
          refine step_val 2 rfl rfl (some 30) rfl (.int .i64 sd) w5 (by go_simp) ?_
          simp only [Act.put, List.setIfInBounds_toArray, List.set_cons_succ, List.set_cons_zero]
          refine al_step 3 (by kernel_rfl) (by omega) ?_
          refine step_call 3 rfl rfl (some 31) rfl 19 #[.int .i64 sd, .int .i64 2] (by go_simp) _ (pick_any sd 2 w5 hs0 hs1 (by omega) (by omega)) ?_
          rintro e w' ⟨rfl, hw⟩
          rw [hw]
          clear hw
          refine ⟨_, rfl, ?_⟩
          simp only [Act.put, List.setIfInBounds_toArray, List.set_cons_succ, List.set_cons_zero]
          refine al_step 6 (by kernel_rfl) (by omega) ?_
          refine step_call 6 rfl rfl (some 34) rfl 41 #[.int .i64 pt] (by go_simp) _ (path_any pt w5 hp0 hp1) ?_
          rintro e w' ⟨rfl, hw⟩
          rw [hw]
          clear hw
          refine ⟨_, rfl, ?_⟩
          simp only [Act.put, List.setIfInBounds_toArray, List.set_cons_succ, List.set_cons_zero]
          refine al_step 9 (by kernel_rfl) (by omega) ?_
          refine step_call 9 rfl rfl (some 37) rfl 43 #[.string ct] (by go_simp) _ (content_any ct w5) ?_
          rintro e w' ⟨rfl, hw⟩
          rw [hw]
          clear hw
          refine ⟨_, rfl, ?_⟩
          simp only [Act.put, List.setIfInBounds_toArray, List.set_cons_succ, List.set_cons_zero]
          exact tail _ (by kernel_rfl)
      · skip
        refine step_val 8 rfl rfl (some 36) rfl (.string ct) w5 (by go_simp) ?_
        simp only [Act.put, List.setIfInBounds_toArray, List.set_cons_succ, List.set_cons_zero]
        refine al_two 2 5 (by kernel_rfl) (by omega) (by omega) ?_ ?_
        · skip
          refine step_val 2 rfl rfl (some 30) rfl (.int .i64 sd) w5 (by go_simp) ?_
          simp only [Act.put, List.setIfInBounds_toArray, List.set_cons_succ, List.set_cons_zero]
          refine al_two 3 5 (by kernel_rfl) (by omega) (by omega) ?_ ?_
          · skip
            refine step_call 3 rfl rfl (some 31) rfl 19 #[.int .i64 sd, .int .i64 2] (by go_simp) _ (pick_any sd 2 w5 hs0 hs1 (by omega) (by omega)) ?_
            rintro e w' ⟨rfl, hw⟩
            rw [hw]
            clear hw
            refine ⟨_, rfl, ?_⟩
            simp only [Act.put, List.setIfInBounds_toArray, List.set_cons_succ, List.set_cons_zero]
            refine al_step 5 (by kernel_rfl) (by omega) ?_
            refine step_val 5 rfl rfl (some 33) rfl (.int .i64 pt) w5 (by go_simp) ?_
            simp only [Act.put, List.setIfInBounds_toArray, List.set_cons_succ, List.set_cons_zero]
            refine al_step 6 (by kernel_rfl) (by omega) ?_
            refine step_call 6 rfl rfl (some 34) rfl 41 #[.int .i64 pt] (by go_simp) _ (path_any pt w5 hp0 hp1) ?_
            rintro e w' ⟨rfl, hw⟩
            rw [hw]
            clear hw
            refine ⟨_, rfl, ?_⟩
            simp only [Act.put, List.setIfInBounds_toArray, List.set_cons_succ, List.set_cons_zero]
            refine al_step 9 (by kernel_rfl) (by omega) ?_
            refine step_call 9 rfl rfl (some 37) rfl 43 #[.string ct] (by go_simp) _ (content_any ct w5) ?_
            rintro e w' ⟨rfl, hw⟩
            rw [hw]
            clear hw
            refine ⟨_, rfl, ?_⟩
            simp only [Act.put, List.setIfInBounds_toArray, List.set_cons_succ, List.set_cons_zero]
            exact tail _ (by kernel_rfl)
          · skip
            refine step_val 5 rfl rfl (some 33) rfl (.int .i64 pt) w5 (by go_simp) ?_
            simp only [Act.put, List.setIfInBounds_toArray, List.set_cons_succ, List.set_cons_zero]
            refine al_step 3 (by kernel_rfl) (by omega) ?_
            refine step_call 3 rfl rfl (some 31) rfl 19 #[.int .i64 sd, .int .i64 2] (by go_simp) _ (pick_any sd 2 w5 hs0 hs1 (by omega) (by omega)) ?_
            rintro e w' ⟨rfl, hw⟩
            rw [hw]
            clear hw
            refine ⟨_, rfl, ?_⟩
            simp only [Act.put, List.setIfInBounds_toArray, List.set_cons_succ, List.set_cons_zero]
            refine al_step 6 (by kernel_rfl) (by omega) ?_
            refine step_call 6 rfl rfl (some 34) rfl 41 #[.int .i64 pt] (by go_simp) _ (path_any pt w5 hp0 hp1) ?_
            rintro e w' ⟨rfl, hw⟩
            rw [hw]
            clear hw
            refine ⟨_, rfl, ?_⟩
            simp only [Act.put, List.setIfInBounds_toArray, List.set_cons_succ, List.set_cons_zero]
            refine al_step 9 (by kernel_rfl) (by omega) ?_
            refine step_call 9 rfl rfl (some 37) rfl 43 #[.string ct] (by go_simp) _ (content_any ct w5) ?_
            rintro e w' ⟨rfl, hw⟩
            rw [hw]
            clear hw
            refine ⟨_, rfl, ?_⟩
            simp only [Act.put, List.setIfInBounds_toArray, List.set_cons_succ, List.set_cons_zero]
            exact tail _ (by kernel_rfl)
        · skip
          refine step_val 5 rfl rfl (some 33) rfl (.int .i64 pt) w5 (by go_simp) ?_
          simp only [Act.put, List.setIfInBounds_toArray, List.set_cons_succ, List.set_cons_zero]
          refine al_step 2 (by kernel_rfl) (by omega) ?_
          refine step_val 2 rfl rfl (some 30) rfl (.int .i64 sd) w5 (by go_simp) ?_
          simp only [Act.put, List.setIfInBounds_toArray, List.set_cons_succ, List.set_cons_zero]
          refine al_step 3 (by kernel_rfl) (by omega) ?_
          refine step_call 3 rfl rfl (some 31) rfl 19 #[.int .i64 sd, .int .i64 2] (by go_simp) _ (pick_any sd 2 w5 hs0 hs1 (by omega) (by omega)) ?_
          rintro e w' ⟨rfl, hw⟩
          rw [hw]
          clear hw
          refine ⟨_, rfl, ?_⟩
          simp only [Act.put, List.setIfInBounds_toArray, List.set_cons_succ, List.set_cons_zero]
          refine al_step 6 (by kernel_rfl) (by omega) ?_
          refine step_call 6 rfl rfl (some 34) rfl 41 #[.int .i64 pt] (by go_simp) _ (path_any pt w5 hp0 hp1) ?_
          rintro e w' ⟨rfl, hw⟩
          rw [hw]
          clear hw
          refine ⟨_, rfl, ?_⟩
          simp only [Act.put, List.setIfInBounds_toArray, List.set_cons_succ, List.set_cons_zero]
          refine al_step 9 (by kernel_rfl) (by omega) ?_
          refine step_call 9 rfl rfl (some 37) rfl 43 #[.string ct] (by go_simp) _ (content_any ct w5) ?_
          rintro e w' ⟨rfl, hw⟩
          rw [hw]
          clear hw
          refine ⟨_, rfl, ?_⟩
          simp only [Act.put, List.setIfInBounds_toArray, List.set_cons_succ, List.set_cons_zero]
          exact tail _ (by kernel_rfl)

end Go.Proofs.YtchcmhodnkgojaaGreat
