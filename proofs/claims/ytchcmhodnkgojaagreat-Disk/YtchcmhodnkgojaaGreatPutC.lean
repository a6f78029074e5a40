/- Put of package concord, at a side and a path that are ones and a content that is one. -/
import Derived.Test.YtchcmhodnkgojaaGreatListC
set_option linter.all false
namespace Go.Proofs.YtchcmhodnkgojaaGreat
open Go.RowKit Go.Lib

/-- One operation of a drawn region, taken now. -/
def Step (P : Program) (ops : Array Oper) (Q : Exit → Act → World → Prop) (n m : Nat) (l : List Nat) (i : Nat) (a : Act) (w : World) : Prop :=
  ∃ oi, ops[i]? = some oi ∧ oi.guard = none ∧ ∀ K : Act → World → Prop, (∀ a w, AtL P ops Q n m (i :: l) a w → K a w) → oi.wp P a w K Q
section
variable {P : Program} {ops : Array Oper} {Q : Exit → Act → World → Prop} {n m : Nat} {l : List Nat} {a : Act} {w : World}
theorem step_val (i : Nat) {oi : Oper} (hi : ops[i]? = some oi) (hg : oi.guard = none) (dst : Option Tmp) (hd : oi.dst = dst) (v : Value) (w1 : World) (hr : (execOp a.eval oi).run P w = .ok (.value v) w1) (h : AtL P ops Q n m (i :: l) (a.put dst v) w1) : Step P ops Q n m l i a w :=
  ⟨oi, hi, hg, fun K hK => by
    subst hd
    unfold Oper.wp
    rw [hr]
    exact hK _ _ h⟩
theorem step_call (i : Nat) {oi : Oper} (hi : ops[i]? = some oi) (hg : oi.guard = none) (dst : Option Tmp) (hd : oi.dst = dst) (f : FuncId) (args : Array Value) (hr : (execOp a.eval oi).run P w = .ok (.enter f args) w) (R : Ending → World → Prop) (hc : Calls P f args w R)
    (h : ∀ e w', R e w' → ∃ v, e = .returned v ∧ AtL P ops Q n m (i :: l) (a.put dst v) w') : Step P ops Q n m l i a w :=
  ⟨oi, hi, hg, fun K hK => by
    subst hd
    unfold Oper.wp
    rw [hr]
    simp only [Oper.upon]
    refine hc.mono ?_
    intro e w' he
    obtain ⟨v, rfl, hv⟩ := h e w' he
    exact hK _ _ hv⟩
theorem step_wp (i : Nat) {oi : Oper} (hi : ops[i]? = some oi) (hg : oi.guard = none) (h : ∀ K : Act → World → Prop, (∀ a w, AtL P ops Q n m (i :: l) a w → K a w) → oi.wp P a w K Q) : Step P ops Q n m l i a w := ⟨oi, hi, hg, h⟩
theorem al_all (is : List Nat) (hne : is ≠ []) (hr : Region.ready .any ops (marks n l) = is) (hlt : ∀ i ∈ is, i < n) (h : ∀ i ∈ is, Step P ops Q n m l i a w) : AtL P ops Q n (m + 1) l a w :=
  wpAny_all hr (by simpa using hne) fun i hi => by
    obtain ⟨oi, h1, h2, h3⟩ := h i hi
    unfold wpOp
    simp only [h1]
    rw [if_pos (by simp [Region.wanted, h2])]
    exact .inl (h3 _ fun a w x => by rw [marks_set n i l (hlt i hi)]; exact x)
theorem al_step (i : Nat) (hr : Region.ready .any ops (marks n l) = [i]) (hlt : i < n) (h : Step P ops Q n m l i a w) : AtL P ops Q n (m + 1) l a w :=
  al_all [i] (by simp) hr (by simpa using hlt) (by simpa using h)
theorem al_two (i j : Nat) (hr : Region.ready .any ops (marks n l) = [i, j]) (hi : i < n) (hj : j < n) (h1 : Step P ops Q n m l i a w) (h2 : Step P ops Q n m l j a w) : AtL P ops Q n (m + 1) l a w :=
  al_all [i, j] (by simp) hr (by simp [hi, hj]) (by simp [h1, h2])
end

theorem ex_sl1 {P : Program} {ρ : Operand → Value} {w : World} {o : Oper} (t e : TypeId) (size bytes : Nat) (E : Elem P t e size bytes) (x : Operand) (ho : o.op = .buildSlice t 1 #[(0, x)]) (h24 : size ≤ 1000) (v : Value) (hx : ρ x = v) (hv : v.cells.size = size) :
    (execOp ρ o).run P w = .ok (.value (.slice (some ⟨w.heap.size, 0, none⟩) 1 1)) (w.alloc (.cells v.cells e)) := by
  obtain ⟨i, z, h1, h2, h3, h4, h5⟩ := E.open
  exact ex_slice1 t e x ho E.slice i z v h1 h2 (by have := E.pos; omega) (by omega) hx (by omega)
/-- What follows is proved once for all that come to it; then it is had. -/
theorem al_tail {P : Program} {ops : Array Oper} {Q : Exit → Act → World → Prop} {n m k : Nat} {l0 : List Nat} {a : Act} {w : World} {Y : Type} (l : List Nat) (C : Y → Prop) (A : Y → Act → Act) (W : Y → World)
    (h : ∀ y, C y → AtL P ops Q n m l (A y a) (W y)) (t : (∀ y l', marks n l' = marks n l → C y → AtL P ops Q n m l' (A y a) (W y)) → AtL P ops Q n k l0 a w) : AtL P ops Q n k l0 a w :=
  t fun y l' hl hy => by have := h y hy; unfold AtL at this ⊢; rw [hl]; exact this
theorem own_base {w : World} {b b' : Nat} {e : TypeId} {size : Nat} {v : Value} {n : Nat} {xs : List Value} (h : w.ownsRow b e size v n xs) (hb : b' ≤ b) : w.ownsRow b' e size v n xs := by
  obtain ⟨h1, h2⟩ := h
  refine ⟨h1, ?_⟩
  rcases h2 with h2 | ⟨g, cap, cur, e1, e2, e3⟩
  · exact .inl h2
  · exact .inr ⟨g, cap, cur, e1, by omega, e3⟩

theorem built_fl (s : Int) (p c : ByteArray) : Tryz.prog.built 107 [(0, .agg (ncells s p)), (1, .string c)] = some #[.int .i64 s, .string p, .string c] := by kernel_rfl

/-- What Put does to the disk, and what it answers. -/
def DS.sput (x : DS) (n s : Nat) (p c : ByteArray) : DS × Value :=
  if x.failed then (x, .int .i64 3) else if x.pending n then (x, .int .i64 4)
  else if 7 < countD (filesOf x n ++ [⟨s, p.data.toList, c.data.toList⟩]) then (x, .int .i64 6) else x.put n s p c

set_option maxRecDepth 100000 in
set_option maxHeartbeats 2000000 in
theorem sput_spec (F : List Nat) (s d n : Nat) (x : DS) (side : Nat) (p c : ByteArray) (w : World) (h : StoreIn w F s d n x) (hx : x.Fit 5) (hfew : x.waiting.length < 55) (hs : side ≤ 1) (hp : isPathL p.data.toList = true) (hpl : p.size ≤ 8) (hcl : c.size ≤ 96) :
    Calls Tryz.prog 39 #[.pointer (some ⟨s, 0, none⟩), .int .i64 side, .string p, .string c] w fun e w' => e = .returned (x.sput n side p c).2 ∧ (∃ F', StoreIn w' F' s d n (x.sput n side p c).1 ∧ Grew F F' w) ∧ Frm F w w' := by
  have HG : Hid (x.sput n side p c = if x.failed then (x, .int .i64 3) else if x.pending n then (x, .int .i64 4) else if 7 < countD (filesOf x n ++ [⟨side, p.data.toList, c.data.toList⟩]) then (x, .int .i64 6) else x.put n side p c) := rfl
  have e1 : ((side : Int) == 0 || (side : Int) == 1) = true := by
    rcases (by omega : side = 0 ∨ side = 1) with rfl | rfl <;> rfl
  go_enter Tryz.func39, Tryz.ntmps39
  go_wp2_with fail
  refine (hasNoDisk_any F s d n x w h).mono ?_
  rintro e w1 ⟨rfl, rfl⟩
  go_wp2_with fail
  refine (isSide_any side w1).mono ?_
  rintro e w2 ⟨rfl, rfl⟩
  rw [e1]
  go_wp2_with fail
  refine (isPath_any p w2 (by omega)).mono ?_
  rintro e w3 ⟨rfl, f3⟩
  rw [hp]
  have h3 := h.new f3
  have hc96 : ¬ (c.size : Int) > 96 := by omega
  go_wp2_with fail
  refine (mayChange_any F s d n x w3 h3).mono ?_
  rintro e w4 ⟨rfl, f4⟩
  have h4 := h3.new f4
  have fw := f3.trans f4 (by simp)
  cases hf : x.failed with
  | true =>
    rw [hf] at HG
    have HG2 : Hid (x.sput n side p c = (x, .int .i64 3)) := by show _ = _; rw [HG.out]; rfl
    simp only [if_true]
    go_wp2_with fail
    all_goals
      go_ret
      rw [HG2.out]
      exact ⟨rfl, ⟨F, h4, Grew.refl _ _⟩, fw.mono (by simp)⟩
  | false =>
    rw [hf] at HG
    cases hpd : x.pending n with
    | true =>
      rw [hpd] at HG
      have HG2 : Hid (x.sput n side p c = (x, .int .i64 4)) := by show _ = _; rw [HG.out]; rfl
      simp only [if_true, Bool.false_eq_true, if_false]
      go_wp2_with fail
      all_goals
        go_ret
        rw [HG2.out]
        exact ⟨rfl, ⟨F, h4, Grew.refl _ _⟩, fw.mono (by simp)⟩
    | false =>
      rw [hpd] at HG
      simp only [Bool.false_eq_true, if_false]
      go_wp2_with (with_reducible first | refine stop_build 103 rfl ?_ | refine stop_build 107 rfl ?_ | refine stop_alloc rfl ?_ | refine stop_store 107 rfl ?_)
      refine Stopped.go (wl_val rfl (.agg (ncells side p)) w4 (ex_build _ _ rfl _ (built_nm side p)) ?_)
      go_wp2_with (with_reducible first | refine stop_build 107 rfl ?_ | refine stop_alloc rfl ?_ | refine stop_store 107 rfl ?_)
      refine Stopped.go (wl_val rfl (.agg #[.int .i64 side, .string p, .string c]) w4 (ex_build _ _ rfl _ (built_fl side p c)) ?_)
      go_wp2_with (with_reducible first | refine stop_alloc rfl ?_ | refine stop_store 107 rfl ?_)
      refine Stopped.go (wl_alloc rfl 107 rfl zFile zero_file ?_)
      intro w5 b10 l5 f5 r5
      go_wp2_with (with_reducible first | refine stop_alloc rfl ?_ | refine stop_store 107 rfl ?_)
      refine Stopped.go (wl_store rfl 107 _ _ rfl _ 0 rfl _ rfl 3 info_file ?_ ?_ _ _ r5 ?_ ?_)
      · rfl
      · simp [Value.oneCell']
      · decide
      intro w6 f6 q6
      rw [over_all _ _ (by rfl)] at q6
      have q6' : Row w6 b10 #[.int .i64 side, .string p, .string c] 107 := q6
      have f46 := f5.trans f6 (by simpa using l5)
      have h6 := h4.new f46
      have fw6 := fw.trans f46 (by simp)
      clear q6 r5 f5 f6 f46 h4 h3 l5
      go_wp2_with fail
      refine at_begin 10 (by kernel_rfl) rfl ?_
      refine al_begin ?_
      have fd : Frm [] w6 w6.drew := Frm.drew _ _
      have h7 := h6.new fd
      have q7 := fd.row q6' (by simp)
      have fw7 := fw6.trans fd (by simp)
      generalize w6.drew = w7 at h7 q7 fw7
      clear fd h6 q6' fw6 fw f3 f4
      have fb := fw7
      replace fw7 : Frm [] w7 w7 := Frm.refl _ _
      refine al_pure 0 (by omega) (some 36) rfl rfl (by kernel_rfl) (by kernel_rfl) (by kernel_rfl) (fun _ _ _ h => h) rfl (v := .pointer (some ⟨s, 0, none⟩)) (fun _ => rfl) ?_
      refine al_pure 1 (by omega) (some 37) rfl rfl (by kernel_rfl) (by kernel_rfl) (by kernel_rfl) (fun _ _ _ h => h) rfl (v := .pointer (some ⟨s, 0, none⟩)) (fun _ => by go_simp) ?_
      refine al_pure 2 (by omega) (some 38) rfl rfl (by kernel_rfl) (by kernel_rfl) (by kernel_rfl) (fun _ _ _ h => h) rfl (v := .pointer (some ⟨s, 0, none⟩)) (fun _ => by go_simp) ?_
      simp only [Act.put, List.setIfInBounds_toArray, List.set_cons_succ, List.set_cons_zero]
      refine al_tail (m := 3) [6, 5, 4, 3, 2, 1, 0] (fun (y : Value × Nat × World) => StoreIn y.2.2 F s d n x ∧ Row y.2.2 b10 #[.int .i64 side, .string p, .string c] 107 ∧ Frm [] w7 y.2.2 ∧ y.2.2.ownsRow w7.heap.size 107 3 y.1 (filesOf x n).length (fvals (filesOf x n)) ∧ Row y.2.2 y.2.1 #[.int .i64 side, .string p, .string c] 107) (fun y a => ((((a.put (some 39) (.pointer (some ⟨d, 0, none⟩))).put (some 40) y.1).put (some 41) (.agg #[.int .i64 side, .string p, .string c])).put (some 42) (.slice (some ⟨y.2.1, 0, none⟩) 1 1))) (fun y => y.2.2) ?_ ?_
      · rintro ⟨v, bz, w8⟩ ⟨h8, q8, fw8, o8, r8⟩
        simp only at h8 q8 fw8 o8 r8
        simp only [Act.put, List.setIfInBounds_toArray, List.set_cons_succ, List.set_cons_zero]
        have hfl : (filesOf x n).length ≤ 54 := by unfold filesOf; rw [List.length_map]; exact taken_len x n
        have HF : Hid (fvals (filesOf x n ++ [⟨side, p.data.toList, c.data.toList⟩]) = fvals (filesOf x n) ++ [.int .i64 side, .string p, .string c]) := by
          show _ = _
          rw [fvals_append]
          rfl
        have hv8 : ∀ k, v.ownBlock = some k → w7.heap.size ≤ k := fun k hk => (o8.lt k hk).1
        have hs7 := h7.row.lt
        have hF7 := fun k hk => h7.disk.lt k hk
        have hb7 := q7.lt
        clear h7 q7
        refine al_step 7 (by kernel_rfl) (by omega) (step_wp 7 rfl rfl fun K hK => wp_append 104 107 3 40 elem_file _ _ rfl w7.heap.size v _ _ rfl o8 bz 1 1 [.int .i64 side, .string p, .string c] rfl _ _ r8 rfl rfl (by simp [Value.oneCell']) (by omega) (by omega) (by omega) fw8.size fun g cap w9 o9 f9 _ => hK _ _ ?_)
        have q9 := f9.row q8 (by intro hk; have := hv8 b10 (by simpa using hk); omega)
        have h9 : StoreIn w9 F s d n x := ⟨f9.row h8.row (by intro hk; have := hv8 s (by simpa using hk); omega), h8.disk.frm f9 (fun k hk hF => by have := hv8 k (by simpa using hk); have := hF7 k hF; omega), h8.ne⟩
        have fw9 : Frm [] w7 w9 := fw8.trans f9 (fun k hk => .inr (hv8 k (by simpa using hk)))
        have fx9 : Frm [] w2 w9 := fb.trans fw9 (by simp)
        clear h8 q8 fw8 o8 r8 f9 hv8 hs7 hF7 hb7 fb fw7 fw9
        change AtL _ _ _ _ _ _ (Act.put _ (some 43) _) _
        simp only [Act.put, List.setIfInBounds_toArray, List.set_cons_succ, List.set_cons_zero]
        have hlen : (filesOf x n ++ [(⟨side, p.data.toList, c.data.toList⟩ : FileD)]).length = (filesOf x n).length + 1 := by simp
        have hcount := count_any w7.heap.size (.slice (some ⟨g, 0, none⟩) ((filesOf x n).length + 1) cap) (filesOf x n ++ [⟨side, p.data.toList, c.data.toList⟩]) w9 (by rw [hlen, HF.out]; exact o9) (by omega)
        clear o9 HF hlen hfl
        generalize (filesOf x n).length + 1 = ln at *
        refine al_step 8 (by kernel_rfl) (by omega) (step_call 8 rfl rfl (some 44) rfl 75 #[.slice (some ⟨g, 0, none⟩) ln cap] (by go_simp) _ hcount ?_)
        rintro e wc ⟨rfl, fc⟩
        refine ⟨_, rfl, ?_⟩
        have hc := h9.new fc
        have qc := fc.row q9 (by simp)
        have fxc := fx9.trans fc (by simp)
        clear hcount h9 q9 fx9 fc
        generalize countD (filesOf x n ++ [⟨side, p.data.toList, c.data.toList⟩]) = m at *
        simp only [Act.put, List.setIfInBounds_toArray, List.set_cons_succ, List.set_cons_zero]
        by_cases hm : 7 < m
        · have HG2 : Hid (x.sput n side p c = (x, .int .i64 6)) := by show _ = _; rw [HG.out]; simp [hm]
          refine al_step 9 (by kernel_rfl) (by omega) (step_val 9 rfl rfl (some 45) rfl (.bool true) wc (by go_simp; omega) ?_)
          refine al_done (by kernel_rfl) ?_
          simp only [Act.put, List.setIfInBounds_toArray, List.set_cons_succ, List.set_cons_zero]
          go_wp2_with fail
          all_goals
            go_ret
            rw [HG2.out]
            exact ⟨rfl, ⟨F, hc, Grew.refl _ _⟩, fxc.mono (by simp)⟩
        · have HG2 : Hid (x.sput n side p c = x.put n side p c) := by show _ = _; rw [HG.out]; simp [hm]
          refine al_step 9 (by kernel_rfl) (by omega) (step_val 9 rfl rfl (some 45) rfl (.bool false) wc (by go_simp; omega) ?_)
          refine al_done (by kernel_rfl) ?_
          simp only [Act.put, List.setIfInBounds_toArray, List.set_cons_succ, List.set_cons_zero]
          clear hm
          go_wp2_with fail
          refine at_begin 7 (by kernel_rfl) rfl ?_
          have fdd : Frm [] wc wc.drew := Frm.drew _ _
          have hd := hc.new fdd
          have qd := fdd.row qc (by simp)
          have fxd := fxc.trans fdd (by simp)
          generalize wc.drew = wd at hd qd fxd
          clear fdd hc qc fxc HG hK
          have hL1 : Lets (fun w' : World => Row w' s #[.pointer (some ⟨d, 0, none⟩)] 96) := ⟨fun w o h => (Frm.alloc [] w o).row h (by simp), fun w h => h⟩
          have hL2 : Lets (fun w' : World => Row w' b10 #[.int .i64 side, .string p, .string c] 107) := ⟨fun w o h => (Frm.alloc [] w o).row h (by simp), fun w h => h⟩
          refine at_pure 0 (by omega) (some 46) rfl rfl (by kernel_rfl) (by kernel_rfl) (by kernel_rfl) (fun _ _ _ h => h) rfl (v := .pointer (some ⟨s, 0, none⟩)) (fun _ => rfl) ?_
          refine at_pure 1 (by omega) (some 47) rfl rfl (by kernel_rfl) (by kernel_rfl) (by kernel_rfl) (fun _ _ _ h => h) rfl (v := .pointer (some ⟨s, 0, none⟩)) (fun _ => by go_simp) ?_
          refine at_pure 2 (by omega) (some 48) rfl rfl (by kernel_rfl) (by kernel_rfl) (by kernel_rfl) (fun _ _ _ h => h) rfl (v := .pointer (some ⟨s, 0, none⟩)) (fun _ => by go_simp) ?_
          simp only [Act.put, List.setIfInBounds_toArray, List.set_cons_succ, List.set_cons_zero]
          refine at_tame 3 _ hL1 hd.row (by omega) (some 49) rfl rfl (by kernel_rfl) (by kernel_rfl) (by kernel_rfl) (fun _ _ _ h => h) rfl (by kernel_rfl) (v := .pointer (some ⟨d, 0, none⟩)) (fun w' hw' => by have := hw'.cell 0; go_simp) ?_
          simp only [Act.put, List.setIfInBounds_toArray, List.set_cons_succ, List.set_cons_zero]
          refine at_tame 4 _ hL2 qd (by omega) (some 50) rfl rfl (by kernel_rfl) (by kernel_rfl) (by kernel_rfl) (fun _ _ _ h => h) rfl (by kernel_rfl) (v := .agg #[.int .i64 side, .string p, .string c]) (fun w' hw' => ex_load 107 _ rfl b10 0 rfl row_file 3 info_file _ _ hw' [.int .i64 side, .string p, .string c] rfl rfl) ?_
          simp only [Act.put, List.setIfInBounds_toArray, List.set_cons_succ, List.set_cons_zero]
          refine at_callw 5 (by omega) (some 51) rfl rfl (by kernel_rfl) rfl 76 #[.pointer (some ⟨d, 0, none⟩), .agg #[.int .i64 side, .string p, .string c]] (by go_simp) _ (put_spec F d n x side p c wd hd.disk hx hfew (by omega) (by omega) (by omega)) ?_
          rintro e we ⟨rfl, Fe, he, fe, ge⟩
          refine ⟨_, rfl, ?_⟩
          have gw := (Grew.refl F w2).trans ge fxd.size
          have hse : StoreIn we Fe s d n (x.put n side p c).1 := ⟨fe.row hd.row hd.ne, he, fun hF => (gw s hF).elim h.ne (fun hh => by have := h.row.lt; omega)⟩
          have f2e : Frm F w2 we := (fxd.mono (T := F) (by simp)).trans fe (fun i hi => .inl hi)
          clear hL1 hL2 hd qd fxd he fe ge
          refine at_pure 6 (by omega) (some 8) rfl rfl (by kernel_rfl) (by kernel_rfl) (by kernel_rfl) (fun _ _ _ h => h) rfl (v := (x.put n side p c).2) (fun _ => rfl) ?_
          simp only [Act.put, List.setIfInBounds_toArray, List.set_cons_succ, List.set_cons_zero]
          refine at_done (by kernel_rfl) ?_
          generalize hpx : x.put n side p c = y at *
          have HPX : Hid (x.put n side p c = y) := hpx
          clear hpx
          go_wp2_with fail
          all_goals
            go_ret
            rw [HG2.out]
            exact ⟨rfl, ⟨Fe, hse, gw⟩, f2e⟩
      intro tail0
      have tail : ∀ v bz l, marks 10 l = marks 10 [6, 5, 4, 3, 2, 1, 0] → ∀ wk, StoreIn wk F s d n x → Row wk b10 #[.int .i64 side, .string p, .string c] 107 → Frm [] w7 wk → wk.ownsRow w7.heap.size 107 3 v (filesOf x n).length (fvals (filesOf x n)) → Row wk bz #[.int .i64 side, .string p, .string c] 107 → _ := fun v bz l hl wk a1 a2 a3 a4 a5 => tail0 (v, bz, wk) l hl ⟨a1, a2, a3, a4, a5⟩
      simp only [Act.put, List.setIfInBounds_toArray, List.set_cons_succ, List.set_cons_zero] at tail
      clear tail0
      refine al_two 3 5 (by kernel_rfl) (by omega) (by omega) ?_ ?_
      · skip
        refine step_val 3 rfl rfl (some 39) rfl (.pointer (some ⟨d, 0, none⟩)) w7 (by have c0 := h7.cell; go_simp) ?_
        simp only [Act.put, List.setIfInBounds_toArray, List.set_cons_succ, List.set_cons_zero]
        refine al_two 4 5 (by kernel_rfl) (by omega) (by omega) ?_ ?_
        · skip
          obtain ⟨bl8, vw8, hd8⟩ := h7.diskIn
          refine step_call 4 rfl rfl (some 40) rfl 51 #[.pointer (some ⟨d, 0, none⟩)] (by go_simp) _ (all_any d bl8 n vw8 x w7 hd8) ?_
          rintro e w8 ⟨v, rfl, o8, f8⟩
          refine ⟨v, rfl, ?_⟩
          replace o8 := own_base o8 fw7.size
          have h8 := h7.new f8
          have q8 := f8.row q7 (by simp)
          have fw8 := fw7.trans f8 (by simp)
          clear f8 hd8
          simp only [Act.put, List.setIfInBounds_toArray, List.set_cons_succ, List.set_cons_zero]
          refine al_step 5 (by kernel_rfl) (by omega) ?_
          refine step_val 5 rfl rfl (some 41) rfl (.agg #[.int .i64 side, .string p, .string c]) w8 (ex_load 107 _ rfl b10 0 rfl row_file 3 info_file _ _ q8 [.int .i64 side, .string p, .string c] rfl rfl) ?_
          simp only [Act.put, List.setIfInBounds_toArray, List.set_cons_succ, List.set_cons_zero]
          refine al_step 6 (by kernel_rfl) (by omega) ?_
          refine step_val 6 rfl rfl (some 42) rfl (.slice (some ⟨w8.heap.size, 0, none⟩) 1 1) (w8.alloc (.cells #[.int .i64 side, .string p, .string c] 107)) (ex_sl1 104 107 3 40 elem_file _ rfl (by omega) (.agg #[.int .i64 side, .string p, .string c]) rfl rfl) ?_
          have f9 : Frm [] w8 (w8.alloc (.cells #[.int .i64 side, .string p, .string c] 107)) := Frm.alloc _ _ _
          have r9 : Row (w8.alloc (.cells #[.int .i64 side, .string p, .string c] 107)) w8.heap.size #[.int .i64 side, .string p, .string c] 107 := Row.new _ _ _
          generalize w8.heap.size = bz at r9 ⊢
          generalize w8.alloc (.cells #[.int .i64 side, .string p, .string c] 107) = w9 at *
          have h9 := h8.new f9
          have q9 := f9.row q8 (by simp)
          have fw9 := fw8.trans f9 (by simp)
          have o9 := f9.owns o8 (by simp)
          clear f9
          simp only [Act.put, List.setIfInBounds_toArray, List.set_cons_succ, List.set_cons_zero]
          exact tail v bz _ (by kernel_rfl) w9 h9 q9 fw9 o9 r9
        · skip
          refine step_val 5 rfl rfl (some 41) rfl (.agg #[.int .i64 side, .string p, .string c]) w7 (ex_load 107 _ rfl b10 0 rfl row_file 3 info_file _ _ q7 [.int .i64 side, .string p, .string c] rfl rfl) ?_
          simp only [Act.put, List.setIfInBounds_toArray, List.set_cons_succ, List.set_cons_zero]
          refine al_two 4 6 (by kernel_rfl) (by omega) (by omega) ?_ ?_
          · skip
            obtain ⟨bl10, vw10, hd10⟩ := h7.diskIn
            refine step_call 4 rfl rfl (some 40) rfl 51 #[.pointer (some ⟨d, 0, none⟩)] (by go_simp) _ (all_any d bl10 n vw10 x w7 hd10) ?_
            rintro e w10 ⟨v, rfl, o10, f10⟩
            refine ⟨v, rfl, ?_⟩
            replace o10 := own_base o10 fw7.size
            have h10 := h7.new f10
            have q10 := f10.row q7 (by simp)
            have fw10 := fw7.trans f10 (by simp)
            clear f10 hd10
            simp only [Act.put, List.setIfInBounds_toArray, List.set_cons_succ, List.set_cons_zero]
            refine al_step 6 (by kernel_rfl) (by omega) ?_
            refine step_val 6 rfl rfl (some 42) rfl (.slice (some ⟨w10.heap.size, 0, none⟩) 1 1) (w10.alloc (.cells #[.int .i64 side, .string p, .string c] 107)) (ex_sl1 104 107 3 40 elem_file _ rfl (by omega) (.agg #[.int .i64 side, .string p, .string c]) rfl rfl) ?_
            have f11 : Frm [] w10 (w10.alloc (.cells #[.int .i64 side, .string p, .string c] 107)) := Frm.alloc _ _ _
            have r11 : Row (w10.alloc (.cells #[.int .i64 side, .string p, .string c] 107)) w10.heap.size #[.int .i64 side, .string p, .string c] 107 := Row.new _ _ _
            generalize w10.heap.size = bz at r11 ⊢
            generalize w10.alloc (.cells #[.int .i64 side, .string p, .string c] 107) = w11 at *
            have h11 := h10.new f11
            have q11 := f11.row q10 (by simp)
            have fw11 := fw10.trans f11 (by simp)
            have o11 := f11.owns o10 (by simp)
            clear f11
            simp only [Act.put, List.setIfInBounds_toArray, List.set_cons_succ, List.set_cons_zero]
            exact tail v bz _ (by kernel_rfl) w11 h11 q11 fw11 o11 r11
          · skip
            refine step_val 6 rfl rfl (some 42) rfl (.slice (some ⟨w7.heap.size, 0, none⟩) 1 1) (w7.alloc (.cells #[.int .i64 side, .string p, .string c] 107)) (ex_sl1 104 107 3 40 elem_file _ rfl (by omega) (.agg #[.int .i64 side, .string p, .string c]) rfl rfl) ?_
            have f12 : Frm [] w7 (w7.alloc (.cells #[.int .i64 side, .string p, .string c] 107)) := Frm.alloc _ _ _
            have r12 : Row (w7.alloc (.cells #[.int .i64 side, .string p, .string c] 107)) w7.heap.size #[.int .i64 side, .string p, .string c] 107 := Row.new _ _ _
            generalize w7.heap.size = bz at r12 ⊢
            generalize w7.alloc (.cells #[.int .i64 side, .string p, .string c] 107) = w12 at *
            have h12 := h7.new f12
            have q12 := f12.row q7 (by simp)
            have fw12 := fw7.trans f12 (by simp)
            clear f12
            simp only [Act.put, List.setIfInBounds_toArray, List.set_cons_succ, List.set_cons_zero]
            refine al_step 4 (by kernel_rfl) (by omega) ?_
            obtain ⟨bl13, vw13, hd13⟩ := h12.diskIn
            refine step_call 4 rfl rfl (some 40) rfl 51 #[.pointer (some ⟨d, 0, none⟩)] (by go_simp) _ (all_any d bl13 n vw13 x w12 hd13) ?_
            rintro e w13 ⟨v, rfl, o13, f13⟩
            refine ⟨v, rfl, ?_⟩
            replace o13 := own_base o13 fw12.size
            have h13 := h12.new f13
            have q13 := f13.row q12 (by simp)
            have fw13 := fw12.trans f13 (by simp)
            have r13 := f13.row r12 (by simp)
            clear f13 hd13
            simp only [Act.put, List.setIfInBounds_toArray, List.set_cons_succ, List.set_cons_zero]
            exact tail v bz _ (by kernel_rfl) w13 h13 q13 fw13 o13 r13
      · skip
        refine step_val 5 rfl rfl (some 41) rfl (.agg #[.int .i64 side, .string p, .string c]) w7 (ex_load 107 _ rfl b10 0 rfl row_file 3 info_file _ _ q7 [.int .i64 side, .string p, .string c] rfl rfl) ?_
        simp only [Act.put, List.setIfInBounds_toArray, List.set_cons_succ, List.set_cons_zero]
        refine al_two 3 6 (by kernel_rfl) (by omega) (by omega) ?_ ?_
        · skip
          refine step_val 3 rfl rfl (some 39) rfl (.pointer (some ⟨d, 0, none⟩)) w7 (by have c0 := h7.cell; go_simp) ?_
          simp only [Act.put, List.setIfInBounds_toArray, List.set_cons_succ, List.set_cons_zero]
          refine al_two 4 6 (by kernel_rfl) (by omega) (by omega) ?_ ?_
          · skip
            obtain ⟨bl14, vw14, hd14⟩ := h7.diskIn
            refine step_call 4 rfl rfl (some 40) rfl 51 #[.pointer (some ⟨d, 0, none⟩)] (by go_simp) _ (all_any d bl14 n vw14 x w7 hd14) ?_
            rintro e w14 ⟨v, rfl, o14, f14⟩
            refine ⟨v, rfl, ?_⟩
            replace o14 := own_base o14 fw7.size
            have h14 := h7.new f14
            have q14 := f14.row q7 (by simp)
            have fw14 := fw7.trans f14 (by simp)
            clear f14 hd14
            simp only [Act.put, List.setIfInBounds_toArray, List.set_cons_succ, List.set_cons_zero]
            refine al_step 6 (by kernel_rfl) (by omega) ?_
            refine step_val 6 rfl rfl (some 42) rfl (.slice (some ⟨w14.heap.size, 0, none⟩) 1 1) (w14.alloc (.cells #[.int .i64 side, .string p, .string c] 107)) (ex_sl1 104 107 3 40 elem_file _ rfl (by omega) (.agg #[.int .i64 side, .string p, .string c]) rfl rfl) ?_
            have f15 : Frm [] w14 (w14.alloc (.cells #[.int .i64 side, .string p, .string c] 107)) := Frm.alloc _ _ _
            have r15 : Row (w14.alloc (.cells #[.int .i64 side, .string p, .string c] 107)) w14.heap.size #[.int .i64 side, .string p, .string c] 107 := Row.new _ _ _
            generalize w14.heap.size = bz at r15 ⊢
            generalize w14.alloc (.cells #[.int .i64 side, .string p, .string c] 107) = w15 at *
            have h15 := h14.new f15
            have q15 := f15.row q14 (by simp)
            have fw15 := fw14.trans f15 (by simp)
            have o15 := f15.owns o14 (by simp)
            clear f15
            simp only [Act.put, List.setIfInBounds_toArray, List.set_cons_succ, List.set_cons_zero]
            exact tail v bz _ (by kernel_rfl) w15 h15 q15 fw15 o15 r15
          · skip
            refine step_val 6 rfl rfl (some 42) rfl (.slice (some ⟨w7.heap.size, 0, none⟩) 1 1) (w7.alloc (.cells #[.int .i64 side, .string p, .string c] 107)) (ex_sl1 104 107 3 40 elem_file _ rfl (by omega) (.agg #[.int .i64 side, .string p, .string c]) rfl rfl) ?_
            have f16 : Frm [] w7 (w7.alloc (.cells #[.int .i64 side, .string p, .string c] 107)) := Frm.alloc _ _ _
            have r16 : Row (w7.alloc (.cells #[.int .i64 side, .string p, .string c] 107)) w7.heap.size #[.int .i64 side, .string p, .string c] 107 := Row.new _ _ _
            generalize w7.heap.size = bz at r16 ⊢
            generalize w7.alloc (.cells #[.int .i64 side, .string p, .string c] 107) = w16 at *
            have h16 := h7.new f16
            have q16 := f16.row q7 (by simp)
            have fw16 := fw7.trans f16 (by simp)
            clear f16
            simp only [Act.put, List.setIfInBounds_toArray, List.set_cons_succ, List.set_cons_zero]
            refine al_step 4 (by kernel_rfl) (by omega) ?_
            obtain ⟨bl17, vw17, hd17⟩ := h16.diskIn
            refine step_call 4 rfl rfl (some 40) rfl 51 #[.pointer (some ⟨d, 0, none⟩)] (by go_simp) _ (all_any d bl17 n vw17 x w16 hd17) ?_
            rintro e w17 ⟨v, rfl, o17, f17⟩
            refine ⟨v, rfl, ?_⟩
            replace o17 := own_base o17 fw16.size
            have h17 := h16.new f17
            have q17 := f17.row q16 (by simp)
            have fw17 := fw16.trans f17 (by simp)
            have r17 := f17.row r16 (by simp)
            clear f17 hd17
            simp only [Act.put, List.setIfInBounds_toArray, List.set_cons_succ, List.set_cons_zero]
            exact tail v bz _ (by kernel_rfl) w17 h17 q17 fw17 o17 r17
        · skip
          refine step_val 6 rfl rfl (some 42) rfl (.slice (some ⟨w7.heap.size, 0, none⟩) 1 1) (w7.alloc (.cells #[.int .i64 side, .string p, .string c] 107)) (ex_sl1 104 107 3 40 elem_file _ rfl (by omega) (.agg #[.int .i64 side, .string p, .string c]) rfl rfl) ?_
          have f18 : Frm [] w7 (w7.alloc (.cells #[.int .i64 side, .string p, .string c] 107)) := Frm.alloc _ _ _
          have r18 : Row (w7.alloc (.cells #[.int .i64 side, .string p, .string c] 107)) w7.heap.size #[.int .i64 side, .string p, .string c] 107 := Row.new _ _ _
          generalize w7.heap.size = bz at r18 ⊢
          generalize w7.alloc (.cells #[.int .i64 side, .string p, .string c] 107) = w18 at *
          have h18 := h7.new f18
          have q18 := f18.row q7 (by simp)
          have fw18 := fw7.trans f18 (by simp)
          clear f18
          simp only [Act.put, List.setIfInBounds_toArray, List.set_cons_succ, List.set_cons_zero]
          refine al_step 3 (by kernel_rfl) (by omega) ?_
          refine step_val 3 rfl rfl (some 39) rfl (.pointer (some ⟨d, 0, none⟩)) w18 (by have c0 := h18.cell; go_simp) ?_
          simp only [Act.put, List.setIfInBounds_toArray, List.set_cons_succ, List.set_cons_zero]
          refine al_step 4 (by kernel_rfl) (by omega) ?_
          obtain ⟨bl19, vw19, hd19⟩ := h18.diskIn
          refine step_call 4 rfl rfl (some 40) rfl 51 #[.pointer (some ⟨d, 0, none⟩)] (by go_simp) _ (all_any d bl19 n vw19 x w18 hd19) ?_
          rintro e w19 ⟨v, rfl, o19, f19⟩
          refine ⟨v, rfl, ?_⟩
          replace o19 := own_base o19 fw18.size
          have h19 := h18.new f19
          have q19 := f19.row q18 (by simp)
          have fw19 := fw18.trans f19 (by simp)
          have r19 := f19.row r18 (by simp)
          clear f19 hd19
          simp only [Act.put, List.setIfInBounds_toArray, List.set_cons_succ, List.set_cons_zero]
          exact tail v bz _ (by kernel_rfl) w19 h19 q19 fw19 o19 r19

end Go.Proofs.YtchcmhodnkgojaaGreat
