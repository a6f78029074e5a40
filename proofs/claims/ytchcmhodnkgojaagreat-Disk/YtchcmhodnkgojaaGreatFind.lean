/- slotOf, Find, All: the files in the slots. -/
import Derived.Test.YtchcmhodnkgojaaGreatDecode
import Derived.Test.YtchcmhodnkgojaaGreatCalm
set_option linter.all false
namespace Go.Proofs.YtchcmhodnkgojaaGreat
open Go.RowKit Go.Lib

theorem info_name : (Tryz.prog.info? 103).map (·.size) = some 2 := by kernel_rfl
theorem row_name : (Tryz.prog.underlying 103).map TypeDesc.isRow = some true := by kernel_rfl
def ncells (s : Int) (p : ByteArray) : Array Value := #[.int .i64 s, .string p]
theorem eql_name (s t : Int) (p q : ByteArray) (w : World) : (binOp .eql 103 (.agg #[.int .i64 s, .string p]) (.agg #[.int .i64 t, .string q])).run Tryz.prog w = .ok (.bool (s == t && p == q)) w := by
  go_simp
  rw [beq_toListBytes]
  by_cases h1 : s = t <;> by_cases h2 : p.toList = q.toList <;> simp [h1, h2]

/-- Does slot i hold a file of this name? -/
def named (x : DS) (s : Int) (p : ByteArray) (i : Nat) : Bool := ((recSet (recOf x i) : Int) == s) && bstr (recPath (recOf x i)) == p
def slotIn (x : DS) (s : Int) (p : ByteArray) : List Nat → Int
  | [] => -1
  | i :: r => if named x s p i then i else slotIn x s p r

section
variable {P : Program} {w : World} {o : Oper} {ρ : Operand → Value}
theorem ex_field (t : TypeId) (x : Operand) (f : Nat) (ho : o.op = .field t x f) (vx : Value) (hx : ρ x = vx) (v : Value) (h : (Instr.field t vx f).run P w = .ok v w) : (execOp ρ o).run P w = .ok (.value v) w := by
  simp only [execOp, ho, hx, Sem.run_bind, h, Result.andThen_ok]
  rfl
theorem ex_bin (op : BinOp) (t u : TypeId) (x y : Operand) (ho : o.op = .binOp op t x y u) (vx vy : Value) (hx : ρ x = vx) (hy : ρ y = vy) (v : Value) (hg : (eqGuard op t x y vx vy).run P w = .ok () w) (h : (binOp op t vx vy).run P w = .ok v w) : (execOp ρ o).run P w = .ok (.value v) w := by
  simp only [execOp, ho, hx, hy, Sem.run_bind, hg, h, Result.andThen_ok]
  rfl
end

theorem field_name (a b c : Value) (w : World) : (Instr.field 107 (.agg #[a, b, c]) 0).run Tryz.prog w = .ok (.agg #[a, b]) w := by kernel_rfl
theorem field_content (a b c : Value) (w : World) : (Instr.field 107 (.agg #[a, b, c]) 1).run Tryz.prog w = .ok c w := by kernel_rfl
theorem guard_name (op : BinOp) (x y : Operand) (a b : Array Value) (w : World) : (eqGuard op 103 x y (.agg a) (.agg b)).run Tryz.prog w = .ok () w := by
  cases op <;> kernel_rfl

theorem slotIn_drop (x : DS) (s : Int) (p : ByteArray) (l : List Nat) (k : Nat) (hk : k < l.length) (h : named x s p l[k] = false) : slotIn x s p (l.drop k) = slotIn x s p (l.drop (k + 1)) := by
  rw [List.drop_eq_getElem_cons hk, slotIn, if_neg (by simp [h])]
theorem slotIn_at (x : DS) (s : Int) (p : ByteArray) (l : List Nat) (k : Nat) (hk : k < l.length) (h : named x s p l[k] = true) : slotIn x s p (l.drop k) = l[k] := by
  rw [List.drop_eq_getElem_cons hk, slotIn, if_pos h]
theorem taken_lt (x : DS) (n i : Nat) (h : i ∈ taken x n) : i < nslots n := by
  simp only [taken, takenTo, List.mem_filter, List.mem_range] at h
  exact h.1
theorem taken_len (x : DS) (n : Nat) : (taken x n).length ≤ 54 := by
  have := takenTo_len (x.read 0) (nslots n)
  have : nslots n ≤ 54 := by unfold nslots; omega
  unfold taken
  omega
theorem length_recOf {w : World} {d bl n : Nat} {vw : Value} {x : DS} (h : DiskIn w d bl n vw x) (i : Nat) (hi : i < nslots n) : (recOf x i).length = 128 := by
  have : 2 * i + 2 < n := by unfold nslots at hi; have := h.lo; omega
  simp [recOf, length_sec h (1 + 2 * i) (by omega), length_sec h (2 + 2 * i) (by omega)]

set_option maxRecDepth 100000 in
set_option maxHeartbeats 1000000 in
theorem slotOf_any (d bl n : Nat) (vw : Value) (x : DS) (s : Int) (p : ByteArray) (w : World) (h : DiskIn w d bl n vw x) :
    Calls Tryz.prog 80 #[.pointer (some ⟨d, 0, none⟩), .agg (ncells s p)] w fun e w' => e = .returned (.int .i64 (slotIn x s p (taken x n))) ∧ Frm [] w w' := by
  go_enter Tryz.func80, Tryz.ntmps80
  go_wp2_with (with_reducible first | refine stop_box rfl ?_)
  refine Stopped.go (wl_box rfl 103 _ rfl (.agg (ncells s p)) rfl ?_)
  intro w1 b3 l3 f1 r3
  have h1 := h.new f1 (by simp)
  go_wp2_with fail
  refine (takenSlots_any d bl n vw x w1 h1).mono ?_
  rintro e w2 ⟨v, rfl, hv, f2⟩
  have r3' := f2.row r3 (by simp)
  have f12 := f1.trans f2 (by simp)
  have h2 := h.new f12 (by simp)
  have h54 := taken_len x n
  obtain ⟨ad, cap, hv'⟩ := own_slice hv
  subst hv'
  clear h1 f1 f2 r3
  go_wp2_with fail
  have HA : Hid (∀ i ∈ taken x n, i < nslots n) := fun i hi => taken_lt x n i hi
  generalize htk : taken x n = tk at *
  have HT : Hid (taken x n = tk) := htk
  clear htk
  go_loopw [10] (fun c wr => ∃ k : Nat, c = .int .i64 k ∧ k ≤ tk.length ∧ Frm [] w2 wr ∧ Hid (slotIn x s p tk = slotIn x s p (tk.drop k))) (fun c _ => tk.length - (intOf c).toNat)
  case atStart => exact ⟨0, rfl, by omega, Frm.refl _ _, rfl⟩
  case round =>
    obtain ⟨k, rfl, hk, fk, HS⟩ := hrel
    have hd := h2.new fk (by simp)
    have hvk := fk.owns hv (by simp)
    have q3 := fk.row r3' (by simp)
    by_cases hlt : k < tk.length
    · obtain ⟨g, cur, rfl, hg, hle, _, hcs, htk⟩ := own_some hvk (by omega)
      have hi : tk[k] < nslots n := HA.out _ (List.getElem_mem hlt)
      have hc : wr.cell? ⟨g, k, none⟩ = some (.int .i64 (tk[k] : Nat)) := by
        rw [hg.cell, ← Array.getElem?_toList]
        have : (cur.toList.take (tk.length * 1))[k]? = (intVals tk)[k]? := by rw [htk]
        rw [List.getElem?_take_of_lt (by omega)] at this
        rw [this]
        simp [intVals, hlt]
      have hrl := length_recOf hd tk[k] hi
      generalize hik : tk[k] = i at hi hc hrl
      have HI : Hid (tk[k] = i) := hik
      clear hik
      clear hcs htk
      go_wp2_with fail
      refine calm_begin (by kernel_rfl) (by kernel_rfl) ?_
      refine calm_val rfl (some 14) rfl _ (fun _ _ => rfl) ?_
      refine calm_val rfl (some 15) rfl _ (fun _ _ => rfl) ?_
      simp only [Act.put, List.setIfInBounds_toArray, List.set_cons_succ, List.set_cons_zero]
      refine calm_call rfl (some 16) rfl 82 #[.pointer (some ⟨d, 0, none⟩), .int .i64 i] (.agg (byteCells (recOf x i)).toArray) (fun _ _ => by go_simp) (fun w' hw' => ?_) ?_
      · refine (readRecord_any d bl n vw x i w' (hd.new hw' (by simp)) hi).mono ?_
        rintro e w'' ⟨rfl, f⟩
        exact ⟨rfl, hw'.trans f (by simp)⟩
      refine calm_call rfl (some 17) rfl 81 #[.agg (byteCells (recOf x i)).toArray] (.agg (fcells (recSet (recOf x i)) (recPath (recOf x i)) (recContent (recOf x i))).toArray) (fun _ _ => by go_simp) (fun w' hw' => ?_) ?_
      · refine (decode_any (recOf x i) w' hrl).mono ?_
        rintro e w'' ⟨rfl, f⟩
        exact ⟨rfl, hw'.trans f (by simp)⟩
      simp only [Act.put, List.setIfInBounds_toArray, List.set_cons_succ, List.set_cons_zero]
      refine calm_val rfl (some 18) rfl (.agg (ncells (recSet (recOf x i)) (bstr (recPath (recOf x i))))) (fun w' _ => ?_) ?_
      · exact ex_field _ _ _ rfl _ rfl _ (field_name _ _ _ _)
      refine calm_val rfl (some 19) rfl (.agg (ncells s p)) (fun w' hw' => ex_load 103 _ rfl b3 0 rfl row_name 2 info_name _ _ (hw'.row q3 (by simp)) [.int .i64 s, .string p] rfl rfl) ?_
      simp only [Act.put, List.setIfInBounds_toArray, List.set_cons_succ, List.set_cons_zero]
      refine calm_val rfl (some 20) rfl (.bool (named x s p i)) (fun w' _ => ?_) ?_
      · exact ex_bin _ _ _ _ _ rfl _ _ rfl rfl _ (guard_name _ _ _ _ _ _) (eql_name _ _ _ _ _)
      simp only [Act.put, List.setIfInBounds_toArray, List.set_cons_succ, List.set_cons_zero]
      intro w5 f5
      have fk5 := fk.trans f5 (by simp)
      have fw5 := f12.trans fk5 (by simp)
      by_cases hn : named x s p i = true
      · have HN : Hid (named x s p i = true) := hn
        rw [hn]
        clear hn hd hvk q3 hg hc fk f5
        go_wp2_with fail
        go_ret
        refine ⟨ret_int ?_, fw5⟩
        rw [show taken x n = tk from HT.out, HS.out]
        have := HI.out
        rw [slotIn_at _ _ _ _ _ hlt (by rw [this]; exact HN.out), this]
      · have hn' : named x s p i = false := by simpa using hn
        have HN : Hid (named x s p i = false) := hn'
        rw [hn']
        clear hn hn' hd hvk q3 hg hc fk f5
        go_wp2_with fail
        go_roundw
        case rel =>
          refine ⟨k + 1, by go_num, by omega, fk5, ?_⟩
          show _ = _
          have := HI.out
          rw [HS.out, slotIn_drop _ _ _ _ _ hlt (by rw [this]; exact HN.out)]
        case measure => simp [intOf]; omega
    · have HK : Hid (k = tk.length) := (by omega : k = tk.length)
      go_wp2_with fail
      go_ret
      refine ⟨ret_int ?_, f12.trans fk (by simp)⟩
      rw [show taken x n = tk from HT.out, HS.out, HK.out, List.drop_length]
      rfl

/-- What lies under a name. -/
def DS.content (x : DS) (n : Nat) (s : Int) (p : ByteArray) : Option (List UInt8) :=
  match slotIn x s p (taken x n) with
  | .ofNat i => some (recContent (recOf x i))
  | .negSucc _ => none
theorem slotIn_cases (x : DS) (s : Int) (p : ByteArray) : ∀ (l : List Nat), slotIn x s p l = -1 ∨ ∃ i ∈ l, slotIn x s p l = (i : Nat) ∧ named x s p i = true
  | [] => .inl rfl
  | i :: r => by
    unfold slotIn
    by_cases h : named x s p i = true
    · exact .inr ⟨i, by simp, by simp [h], h⟩
    · rw [if_neg h]
      rcases slotIn_cases x s p r with h' | ⟨j, hj, h1, h2⟩
      · exact .inl h'
      · exact .inr ⟨j, by simp [hj], h1, h2⟩

set_option maxRecDepth 100000 in
set_option maxHeartbeats 1000000 in
theorem find_any (d bl n : Nat) (vw : Value) (x : DS) (s : Int) (p : ByteArray) (w : World) (h : DiskIn w d bl n vw x) :
    Calls Tryz.prog 50 #[.pointer (some ⟨d, 0, none⟩), .agg (ncells s p)] w fun e w' =>
      e = .returned (.tuple #[.string (bstr ((x.content n s p).getD [])), .bool (x.content n s p).isSome]) ∧ Frm [] w w' := by
  go_enter Tryz.func50, Tryz.ntmps50
  go_wp2_with (with_reducible first | refine stop_box rfl ?_ | refine stop_load 103 rfl ?_)
  refine Stopped.go (wl_box rfl 103 _ rfl (.agg (ncells s p)) rfl ?_)
  intro w1 b3 l3 f1 r3
  have h1 := h.new f1 (by simp)
  go_wp2_with (with_reducible first | refine stop_box rfl ?_ | refine stop_load 103 rfl ?_)
  refine Stopped.go (wl_load rfl 103 _ rfl b3 0 rfl row_name 2 info_name _ _ r3 [.int .i64 s, .string p] rfl rfl ?_)
  go_wp2_with fail
  refine (slotOf_any d bl n vw x s p w1 h1).mono ?_
  rintro e w2 ⟨rfl, f2⟩
  have h2 := h1.new f2 (by simp)
  have fw := f1.trans f2 (by simp)
  clear h1 f1 f2 r3
  rcases slotIn_cases x s p (taken x n) with hs | ⟨i, hi, hs, _⟩
  · have hc : Hid (x.content n s p = none) := by show _ = _; unfold DS.content; rw [hs]; rfl
    rw [hs]
    clear hs
    go_wp2_with fail
    go_ret2
    refine ⟨?_, fw⟩
    rw [hc.out]
    rfl
  · have hc : Hid (x.content n s p = some (recContent (recOf x i))) := by show _ = _; unfold DS.content; rw [hs]
    have hlt := taken_lt x n i hi
    have hrl := length_recOf h2 i hlt
    rw [hs]
    clear hs hi
    have hne : ((i : Int) == -1) = false := by rw [beq_eq_false_iff_ne]; omega
    go_wp2_with fail
    refine (readRecord_any d bl n vw x i w2 h2 hlt).mono ?_
    rintro e w3 ⟨rfl, f3⟩
    go_wp2_with fail
    refine (decode_any (recOf x i) w3 hrl).mono ?_
    rintro e w4 ⟨rfl, f4⟩
    have fw4 := (fw.trans f3 (by simp)).trans f4 (by simp)
    go_wp2_with (with_reducible first | refine stop_field rfl ?_)
    refine Stopped.go (wl_val rfl _ _ (ex_field _ _ _ rfl _ rfl _ (field_content _ _ _ _)) ?_)
    go_wp2_with fail
    go_ret2
    refine ⟨?_, fw4⟩
    rw [hc.out]
    rfl

end Go.Proofs.YtchcmhodnkgojaaGreat
