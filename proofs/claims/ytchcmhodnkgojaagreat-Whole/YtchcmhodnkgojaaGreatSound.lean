/- soundRoot, soundRecords. -/
import Derived.Test.YtchcmhodnkgojaaGreatEql
set_option linter.all false
namespace Go.Proofs.YtchcmhodnkgojaaGreat
open Go.RowKit Go.Lib

/-- The root made anew from what is read out of it. -/
def markRoots (r : List UInt8) (l : List Nat) : List UInt8 := l.foldl (fun r i => r.set (10 + i) 1) r
theorem length_markRoots (l : List Nat) : ∀ r, (markRoots r l).length = r.length := by
  induction l with
  | nil => intro r; rfl
  | cons i l ih => intro r; show (markRoots (r.set (10 + i) 1) l).length = _; rw [ih, List.length_set]
theorem markRoots_snoc (r : List UInt8) (l : List Nat) (k : Nat) (hk : k < l.length) : markRoots r (l.take (k + 1)) = (markRoots r (l.take k)).set (10 + l[k]) 1 := by
  unfold markRoots
  rw [List.take_succ_eq_append_getElem hk, List.foldl_append]
  rfl
def DS.rootOk (x : DS) (n : Nat) : Bool := markRoots (rootL n) (taken x n) == x.read 0

set_option maxRecDepth 100000 in
set_option maxHeartbeats 1000000 in
theorem soundRoot_any (d bl n : Nat) (vw : Value) (x : DS) (w : World) (h : DiskIn w d bl n vw x) :
    Calls Tryz.prog 145 #[.pointer (some ⟨d, 0, none⟩)] w fun e w' => e = .returned (.bool (x.rootOk n)) ∧ Frm [] w w' := by
  have h400 := h.hi
  go_enter Tryz.func145, Tryz.ntmps145
  go_wp2_with fail
  refine (sectors_any d bl n vw x w h).mono ?_
  rintro e w0 ⟨rfl, rfl⟩
  go_wp2_with fail
  refine (emptyRoot_any n w0 h400).mono ?_
  rintro e w1 ⟨rfl, f1⟩
  have HO : Hid (x.rootOk n = (markRoots (rootL n) (taken x n) == x.read 0)) := rfl
  have hl := length_rootL n
  have HLM : Hid (∀ l, (markRoots (rootL n) l).length = 64) := fun l => by rw [length_markRoots, hl]
  have HS : Hid (∀ k, (hk : k < (taken x n).length) → markRoots (rootL n) ((taken x n).take (k + 1)) = (markRoots (rootL n) ((taken x n).take k)).set (10 + (taken x n)[k]) 1) := fun k hk => markRoots_snoc _ _ k hk
  go_wp2_with (with_reducible first | refine stop_alloc rfl ?_ | refine stop_store 148 rfl ?_)
  refine Stopped.go (wl_alloc rfl 148 rfl zBlock zero_block ?_)
  intro w2 b3 l3 f2 r3
  go_wp2_with (with_reducible first | refine stop_alloc rfl ?_ | refine stop_store 148 rfl ?_)
  refine Stopped.go (wl_store rfl 148 _ _ rfl _ 0 rfl _ rfl 64 info_block ?_ ?_ _ _ r3 ?_ ?_)
  · simp only [List.size_toArray, length_byteCells]; exact hl
  · exact byteCells_one _
  · decide
  intro w3 f3 q3
  rw [over_all _ _ (by rw [length_byteCells, hl]; rfl)] at q3
  have q3' : Row w3 b3 (byteCells (markRoots (rootL n) ((taken x n).take 0))).toArray 148 := q3
  have fw3 := (f1.trans f2 (by simp)).trans f3 (by simp; have := f1.size; omega)
  have h3 := h.new fw3 (by simp)
  have l3w : w0.heap.size ≤ b3 := by have := f1.size; omega
  clear q3 r3 f1 f2 f3 l3
  generalize markRoots (rootL n) = M at *
  go_wp2_with fail
  refine (takenSlots_any d bl n vw x w3 h3).mono ?_
  rintro e w4 ⟨v, rfl, hv, f4⟩
  have q4 := f4.row q3' (by simp)
  have fw4 := fw3.trans f4 (by simp)
  have hvb : v.ownBlock ≠ some b3 := fun e => by have := (hv.lt b3 e).1; have := q3'.lt; omega
  have h54 := taken_len x n
  obtain ⟨ad, cap, hv'⟩ := own_slice hv
  subst hv'
  clear h3 fw3 f4 q3'
  go_wp2_with fail
  have HA : Hid (∀ i ∈ taken x n, i < nslots n) := fun i hi => taken_lt x n i hi
  have hn54 : nslots n ≤ 54 := by unfold nslots; omega
  generalize htk : taken x n = tk at *
  have HT : Hid (taken x n = tk) := htk
  clear htk
  go_loopw [12] (fun c wr => ∃ k : Nat, c = .int .i64 k ∧ k ≤ tk.length ∧ Frm [b3] w4 wr ∧ Row wr b3 (byteCells (M (tk.take k))).toArray 148) (fun c _ => tk.length - (intOf c).toNat)
  case atStart => exact ⟨0, rfl, by omega, Frm.refl _ _, q4⟩
  case round =>
    obtain ⟨k, rfl, hk, fk, q3⟩ := hrel
    have hvk := fk.owns hv (by simpa using hvb)
    by_cases hlt : k < tk.length
    · obtain ⟨g, cur, rfl, hg, hle, _, hcs, htk⟩ := own_some hvk (by omega)
      have hi : tk[k] < nslots n := HA.out _ (List.getElem_mem hlt)
      have hc : wr.cell? ⟨g, k, none⟩ = some (.int .i64 (tk[k] : Nat)) := by
        rw [hg.cell, ← Array.getElem?_toList]
        have : (cur.toList.take (tk.length * 1))[k]? = (intVals tk)[k]? := by rw [htk]
        rw [List.getElem?_take_of_lt (by omega)] at this
        rw [this]
        simp [intVals, hlt]
      have HN : Hid (M (tk.take (k + 1)) = (M (tk.take k)).set (10 + tk[k]) 1) := HS.out k hlt
      have hml : Hid ((M (tk.take k)).length = 64) := HLM.out _
      generalize hik : tk[k] = i at hi hc HN
      clear hik
      clear hcs htk
      have hi54 : i < 54 := by omega
      go_wp2_with (with_reducible first | refine stop_store 5 rfl ?_)
      refine Stopped.go (wl_store1 rfl 5 _ _ rfl b3 (10 + i) rfl .u8 1 rfl (by kernel_rfl) _ _ q3 (by simp only [List.size_toArray, length_byteCells]; rw [hml.out]; omega) ?_)
      intro w6 f6 q6
      have e6 : (byteCells (M (tk.take k))).toArray.setIfInBounds (10 + i) (.int .u8 1) = (byteCells (M (tk.take (k + 1)))).toArray := by
        rw [HN.out, byteCells_set]; rfl
      rw [e6] at q6
      have f46 := fk.trans f6 (by simp)
      clear e6 f6 q3 hc hg hvk fk hv hvb
      go_wp2_with fail
      go_roundw
      case rel => exact ⟨k + 1, by go_num, by omega, f46, q6⟩
      case measure => simp [intOf]; omega
    · obtain rfl : k = tk.length := by omega
      rw [List.take_length] at q3
      have hml : Hid ((M tk).length = 64) := HLM.out _
      generalize M tk = R at *
      have fw := fw4.trans fk (by simp; exact l3w)
      have hd := h.new fw (by simp)
      have hrl : Hid ((x.read 0).length = 64) := by
        show _ = _
        exact length_seenIn _ _ (by rw [h.len]; simp; have := h.lo; omega) _ h.len64
      have hlo := h.lo
      go_wp2_with fail
      refine calm_begin (by kernel_rfl) (by kernel_rfl) ?_
      simp only [Act.put]
      refine calm_val rfl (some 20) rfl (.agg (byteCells R).toArray) (fun w' hw' => ex_load 148 _ rfl b3 0 rfl row_block 64 info_block _ _ (hw'.row q3 (by simp)) (byteCells R) (by simp only [List.drop_zero]; exact List.take_of_length_le (by rw [length_byteCells]; exact Nat.le_of_eq hml.out)) (by rw [length_byteCells]; exact hml.out)) ?_
      simp only [Act.put, List.setIfInBounds_toArray, List.set_cons_succ, List.set_cons_zero]
      refine calm_val rfl (some 21) rfl (.pointer (some ⟨d, 0, none⟩)) (fun _ _ => rfl) ?_
      simp only [Act.put, List.setIfInBounds_toArray, List.set_cons_succ, List.set_cons_zero]
      refine calm_call rfl (some 22) rfl 114 #[.pointer (some ⟨d, 0, none⟩), .int .i64 0] (.agg (byteCells (x.read 0)).toArray) (fun _ _ => by go_simp) (fun w' hw' => ?_) ?_
      · refine (read_any d bl n vw x 0 w' (hd.new hw' (by simp)) (by omega) (by omega)).mono ?_
        rintro e w'' ⟨rfl, f⟩
        exact ⟨rfl, hw'.trans f (by simp)⟩
      simp only [Act.put, List.setIfInBounds_toArray, List.set_cons_succ, List.set_cons_zero]
      refine calm_val rfl (some 23) rfl (.bool (R == x.read 0)) (fun w' _ => ?_) ?_
      · exact ex_bin _ _ _ _ _ rfl _ _ rfl rfl _ (guard_bytes _ _ _ _ _ _) (eql_block _ _ hml.out hrl.out _)
      simp only [Act.put, List.setIfInBounds_toArray, List.set_cons_succ, List.set_cons_zero]
      refine calm_val rfl (some 2) rfl (.bool (R == x.read 0)) (fun _ _ => rfl) ?_
      simp only [Act.put, List.setIfInBounds_toArray, List.set_cons_succ, List.set_cons_zero]
      intro w5 f5
      have fw5 := fw.trans f5 (by simp)
      go_wp2_with fail
      go_ret
      exact ⟨by rw [HO.out]; rfl, fw5⟩

/-- A record that is what encode would lay. -/
def recOk (r : List UInt8) : Bool := encRec (recSet r) (recPath r) (recContent r) == r
def DS.recsOk (x : DS) (n : Nat) : Bool := (taken x n).all fun i => recOk (recOf x i)
theorem recSet_lt (r : List UInt8) : recSet r < 256 := byteAt_lt r 0
theorem recPath_len (r : List UInt8) : (recPath r).length ≤ 8 := by unfold recPath; rw [List.length_take]; omega
theorem recContent_len (r : List UInt8) : (recContent r).length ≤ 96 := by unfold recContent; rw [List.length_take]; omega
theorem bstr_size (l : List UInt8) : (bstr l).size = l.length := rfl
theorem all_drop (l : List Nat) (f : Nat → Bool) (k : Nat) (hk : k < l.length) : (l.drop k).all f = (f l[k] && (l.drop (k + 1)).all f) := by
  rw [List.drop_eq_getElem_cons hk, List.all_cons]

set_option maxRecDepth 100000 in
set_option maxHeartbeats 1000000 in
theorem soundRecords_any (d bl n : Nat) (vw : Value) (x : DS) (w : World) (h : DiskIn w d bl n vw x) :
    Calls Tryz.prog 146 #[.pointer (some ⟨d, 0, none⟩)] w fun e w' => e = .returned (.bool (x.recsOk n)) ∧ Frm [] w w' := by
  go_enter Tryz.func146, Tryz.ntmps146
  go_wp2_with fail
  refine (takenSlots_any d bl n vw x w h).mono ?_
  rintro e w2 ⟨v, rfl, hv, f2⟩
  have h2 := h.new f2 (by simp)
  have h54 := taken_len x n
  obtain ⟨ad, cap, hv'⟩ := own_slice hv
  subst hv'
  go_wp2_with fail
  have HA : Hid (∀ i ∈ taken x n, i < nslots n) := fun i hi => taken_lt x n i hi
  have HO : Hid (x.recsOk n = (taken x n).all fun i => recOk (recOf x i)) := rfl
  generalize htk : taken x n = tk at *
  clear htk
  go_loopw [9] (fun c wr => ∃ k : Nat, c = .int .i64 k ∧ k ≤ tk.length ∧ Frm [] w2 wr ∧ Hid (x.recsOk n = (tk.drop k).all fun i => recOk (recOf x i))) (fun c _ => tk.length - (intOf c).toNat)
  case atStart => exact ⟨0, rfl, by omega, Frm.refl _ _, HO⟩
  case round =>
    obtain ⟨k, rfl, hk, fk, HS⟩ := hrel
    clear HO
    have hd := h2.new fk (by simp)
    have hvk := fk.owns hv (by simp)
    by_cases hlt : k < tk.length
    · obtain ⟨g, cur, rfl, hg, hle, _, hcs, htk⟩ := own_some hvk (by omega)
      have hi : tk[k] < nslots n := HA.out _ (List.getElem_mem hlt)
      have hc : wr.cell? ⟨g, k, none⟩ = some (.int .i64 (tk[k] : Nat)) := by
        rw [hg.cell, ← Array.getElem?_toList]
        have : (cur.toList.take (tk.length * 1))[k]? = (intVals tk)[k]? := by rw [htk]
        rw [List.getElem?_take_of_lt (by omega)] at this
        rw [this]
        simp [intVals, hlt]
      have hrl := length_recOf hd tk[k] hi
      have HN : Hid (x.recsOk n = (recOk (recOf x tk[k]) && (tk.drop (k + 1)).all fun i => recOk (recOf x i))) := by
        have := HS.out
        rw [all_drop tk _ k hlt] at this
        exact this
      generalize hik : tk[k] = i at hi hc hrl HN
      clear hik
      clear hcs htk
      go_wp2_with fail
      refine (readRecord_any d bl n vw x i wr hd hi).mono ?_
      rintro e w3 ⟨rfl, f3⟩
      have fk3 := fk.trans f3 (by simp)
      generalize recOf x i = r at *
      have HRL : Hid (r.length = 128) := hrl
      clear hrl
      go_wp2_with (with_reducible first | refine stop_alloc rfl ?_ | refine stop_store 138 rfl ?_)
      refine Stopped.go (wl_alloc rfl 138 rfl zRecord zero_record ?_)
      intro w4 b5 l5 f4 r5
      go_wp2_with (with_reducible first | refine stop_alloc rfl ?_ | refine stop_store 138 rfl ?_)
      refine Stopped.go (wl_store rfl 138 _ _ rfl _ 0 rfl _ rfl 128 info_record ?_ ?_ _ _ r5 ?_ ?_)
      · simp only [List.size_toArray, length_byteCells]; exact HRL.out
      · exact byteCells_one _
      · decide
      intro w5 f5 q5
      rw [over_all _ _ (by rw [length_byteCells, HRL.out]; rfl)] at q5
      have q5' : Row w5 b5 (byteCells r).toArray 138 := q5
      have fk5 := (fk3.trans f4 (by simp)).trans f5 (by simp; have := fk3.size; omega)
      clear q5 r5 f5 f4 f3 fk3 fk l5 hc hg hvk
      go_wp2_with fail
      have hld : ∀ w', Frm [] w5 w' → _ := fun w' (hw' : Frm [] w5 w') => hw'.row q5' (by simp)
      refine calm_begin (by kernel_rfl) (by kernel_rfl) ?_
      try simp only [Act.put]
      refine calm_val rfl (some 16) rfl (.agg (byteCells r).toArray) (fun w' hw' => ex_load 138 _ rfl b5 0 rfl row_record 128 info_record _ _ (hw'.row q5' (by simp)) (byteCells r) (by simp only [List.drop_zero]; exact List.take_of_length_le (by rw [length_byteCells]; exact Nat.le_of_eq HRL.out)) (by rw [length_byteCells]; exact HRL.out)) ?_
      simp only [Act.put, List.setIfInBounds_toArray, List.set_cons_succ, List.set_cons_zero]
      refine calm_call rfl (some 17) rfl 81 #[.agg (byteCells r).toArray] (.agg (fcells (recSet r) (recPath r) (recContent r)).toArray) (fun _ _ => by go_simp) (fun w' hw' => ?_) ?_
      · refine (decode_any r w' HRL.out).mono ?_
        rintro e w'' ⟨rfl, f⟩
        exact ⟨rfl, hw'.trans f (by simp)⟩
      simp only [Act.put, List.setIfInBounds_toArray, List.set_cons_succ, List.set_cons_zero]
      have hel : Hid ((encRec (recSet r) (recPath r) (recContent r)).length = 128) := length_encRec _ _ _
      refine calm_call rfl (some 18) rfl 110 #[.agg (fcells (recSet r) (recPath r) (recContent r)).toArray] (.agg (byteCells (encRec (recSet r) (recPath r) (recContent r))).toArray) (fun _ _ => by go_simp) (fun w' hw' => ?_) ?_
      · refine (encode_any (recSet r) (bstr (recPath r)) (bstr (recContent r)) w' (recSet_lt r) (by rw [bstr_size]; have := recPath_len r; omega) (by rw [bstr_size]; have := recContent_len r; omega)).mono ?_
        rintro e w'' ⟨rfl, f⟩
        exact ⟨rfl, hw'.trans f (by simp)⟩
      simp only [Act.put, List.setIfInBounds_toArray, List.set_cons_succ, List.set_cons_zero]
      refine calm_val rfl (some 19) rfl (.agg (byteCells r).toArray) (fun w' hw' => ex_load 138 _ rfl b5 0 rfl row_record 128 info_record _ _ (hw'.row q5' (by simp)) (byteCells r) (by simp only [List.drop_zero]; exact List.take_of_length_le (by rw [length_byteCells]; exact Nat.le_of_eq HRL.out)) (by rw [length_byteCells]; exact HRL.out)) ?_
      simp only [Act.put, List.setIfInBounds_toArray, List.set_cons_succ, List.set_cons_zero]
      refine calm_val rfl (some 20) rfl (.bool (!(recOk r))) (fun w' _ => ?_) ?_
      · exact ex_bin _ _ _ _ _ rfl _ _ rfl rfl _ (guard_record _ _ _ _ _ _) (neq_record _ _ hel.out HRL.out _)
      simp only [Act.put, List.setIfInBounds_toArray, List.set_cons_succ, List.set_cons_zero]
      intro w6 f6
      have fk6 := fk5.trans f6 (by simp)
      have fw6 := f2.trans fk6 (by simp)
      cases hok : recOk r with
      | true =>
        rw [hok] at HN
        clear hok hd hv h2 HS
        go_wp2_with fail
        go_roundw
        case rel => exact ⟨k + 1, by go_num, by omega, fk6, by show _ = _; rw [HN.out]; rfl⟩
        case measure => simp [intOf]; omega
      | false =>
        rw [hok] at HN
        clear hok hd hv h2 HS
        go_wp2_with fail
        go_ret
        exact ⟨by rw [HN.out]; rfl, fw6⟩
    · have fw := f2.trans fk (by simp)
      have HE : Hid (x.recsOk n = true) := by
        have := HS.out
        rw [List.drop_of_length_le (by omega)] at this
        exact this
      go_wp2_with fail
      go_ret
      exact ⟨by rw [HE.out]; rfl, fw⟩

end Go.Proofs.YtchcmhodnkgojaaGreat
