/- decode: the file that a record holds. -/
import Derived.Test.YtchcmhodnkgojaaGreatRecord
import Derived.Laws.IdiomStrings
set_option linter.all false
namespace Go.Proofs.YtchcmhodnkgojaaGreat
open Go.RowKit Go.Lib

/-- Bytes as a string. -/
def bstr (l : List UInt8) : ByteArray := ⟨l.toArray⟩
/-- A record's byte, as a number. -/
def byteAt (r : List UInt8) (i : Nat) : Nat := (r.getD i 0).toNat
theorem byteAt_lt (r : List UInt8) (i : Nat) : byteAt r i < 256 := (r.getD i 0).toNat_lt
/-- What a record holds: the set, the path, the content. -/
def recSet (r : List UInt8) : Nat := (byteAt r 0)
def recPath (r : List UInt8) : List UInt8 := (r.drop 3).take (min (byteAt r 1) 8)
def recContent (r : List UInt8) : List UInt8 := (r.drop 11).take (min (byteAt r 2) 96)
/-- A file's cells: name's set, name's path, content. -/
def fcells (s : Int) (p c : List UInt8) : List Value := [.int .i64 s, .string (bstr p), .string (bstr c)]

theorem cell_byte {w : World} {b : Nat} {r : List UInt8} {t : TypeId} (h : Row w b (byteCells r).toArray t) (j : Nat) (hj : j < r.length) : w.cell? ⟨b, j, none⟩ = some (.int .u8 (byteAt r j)) := by
  rw [h.cell]
  simp [byteCells, byteAt, List.getD_eq_getElem?_getD, hj]

section
variable {P : Program} {w : World} {o : Oper} {ρ : Operand → Value}
theorem ex_bytes (src dst e : TypeId) (x : Operand) (ho : o.op = .convert src dst x) (hs : P.underlying src = some (.slice e)) (he : P.underlying e = some (.int .u8)) (hd : P.underlying dst = some .string)
    (b off n c : Nat) (hx : ρ x = .slice (some ⟨b, off, none⟩) n c) (r : List UInt8) (t : TypeId) (hr : Row w b (byteCells r).toArray t) (l : List UInt8) (hl : (r.drop off).take n = l) (hn : l.length = n) :
    (execOp ρ o).run P w = .ok (.value (.string (bstr l))) w := by
  have hc : ∀ j v, ((byteCells r).drop off |>.take n)[j]? = some v → w.cell? ⟨b, off + j, none⟩ = some v := fun j v hv => by
    rw [hr.cell]
    rw [List.getElem?_take] at hv
    split at hv
    · simpa [List.getElem?_drop] using hv
    · cases hv
  rw [byteCells_drop, byteCells_take, hl] at hc
  subst hn
  have := run_convert_bytes_back (P := P) w src dst e ⟨b, off, none⟩ c l hs he hd (fun j hj => by
    rw [Addr.add_mid]
    exact hc j _ (by simp [byteCells, hj]))
  simp only [execOp, ho, hx, Sem.run_bind, this]
  rfl
end

section
variable {P : Program} {w : World} {o : Oper} {ρ : Operand → Value}
theorem ex_store (t : TypeId) (x y : Operand) (ho : o.op = .store t x y) (vx : Value) (hx : ρ x = vx) (vy : Value) (hy : ρ y = vy) (w1 : World) (h : (Instr.storeAt t vx vy).run P w = .ok () w1) : (execOp ρ o).run P w = .ok .skip w1 := by
  simp only [execOp, ho, hx, hy, Sem.run_bind, h, Result.andThen_ok]
  rfl
end

theorem info_file : (Tryz.prog.info? 107).map (·.size) = some 3 := by kernel_rfl
theorem row_file : (Tryz.prog.underlying 107).map TypeDesc.isRow = some true := by kernel_rfl
def zFile : Value := .agg (fcells 0 [] []).toArray
theorem zero_file : (Tryz.prog.info? 107).map (·.zero) = some (some zFile) := by kernel_rfl
theorem built_name (s : Int) (p : ByteArray) : Tryz.prog.built 103 [(0, .int .i64 s), (1, .string p)] = some #[.int .i64 s, .string p] := by kernel_rfl
theorem built_file (s : Int) (p c : ByteArray) : Tryz.prog.built 107 [(0, .agg #[.int .i64 s, .string p]), (1, .string c)] = some #[.int .i64 s, .string p, .string c] := by kernel_rfl

set_option maxRecDepth 100000 in
set_option maxHeartbeats 1000000 in
theorem decode_any (r : List UInt8) (w : World) (hr : r.length = 128) :
    Calls Tryz.prog 81 #[.agg (byteCells r).toArray] w fun e w' => e = .returned (.agg (fcells (recSet r) (recPath r) (recContent r)).toArray) ∧ Frm [] w w' := by
  go_enter Tryz.func81, Tryz.ntmps81
  go_wp2_with (with_reducible first | refine stop_box rfl ?_ | refine stop_alloc rfl ?_)
  refine Stopped.go (wl_box rfl 138 _ rfl (.agg (byteCells r).toArray) rfl ?_)
  intro w1 b1 l1 f1 r1
  go_wp2_with (with_reducible first | refine stop_box rfl ?_ | refine stop_alloc rfl ?_)
  refine Stopped.go (wl_alloc rfl 107 rfl zFile zero_file ?_)
  intro w2 b2 l2 f2 r2
  have q1 : Row w2 b1 (byteCells r).toArray 138 := f2.row r1 (by simp)
  have f12 := f1.trans f2 (by simp)
  have l2w : w.heap.size ≤ b2 := by have := f1.size; omega
  have hne : b1 ≠ b2 := by have := r1.lt; omega
  have c1 := cell_byte q1 1 (by omega)
  have c2 := cell_byte q1 2 (by omega)
  obtain ⟨pl, hpl⟩ : ∃ pl, min (byteAt r 1) 8 = pl := ⟨_, rfl⟩
  obtain ⟨cl, hcl⟩ : ∃ cl, min (byteAt r 2) 96 = cl := ⟨_, rfl⟩
  have hp8 : pl ≤ 8 := by omega
  have hc96 : cl ≤ 96 := by omega
  have HR : Hid (r.length = 128) := hr
  have hpl0 := hpl
  have hcl0 := hcl
  have HP : Hid (min (byteAt r 1) 8 = pl) := hpl
  have HC : Hid (min (byteAt r 2) 96 = cl) := hcl
  have b1lt : ((byteAt r 1) : Int) ≤ 255 := by have := byteAt_lt r 1; omega
  have b2lt : ((byteAt r 2) : Int) ≤ 255 := by have := byteAt_lt r 2; omega
  generalize (byteAt r 1) = n1 at c1 hpl HP b1lt
  generalize (byteAt r 2) = n2 at c2 hcl HC b2lt
  clear hr r1 f1 f2
  clear hpl hcl
  have hC : Lets (fun w' : World => Row w' b1 (byteCells r).toArray 138) := ⟨fun w o h => (Frm.alloc [] w o).row h (by simp), fun w h => h⟩
  by_cases h1 : (n1 : Int) ≤ 8 <;> by_cases h2 : (n2 : Int) ≤ 96
  all_goals
    go_wp2_with fail
    have hpl := HP.out
    have hcl := HC.out
    have hr := HR.out
    refine at_begin 12 (by kernel_rfl) rfl ?_
    have fd : Frm [] w2 w2.drew := Frm.drew _ _
    have q1' := fd.row q1 (by simp)
    have r2' := fd.row r2 (by simp)
    have fw := f12.trans fd (by simp)
    generalize w2.drew = w3 at q1' r2' fw
    refine at_pure 0 (by omega) (some 15) rfl rfl (by kernel_rfl) (by kernel_rfl) (by kernel_rfl) (fun _ _ _ h => h) rfl (v := .pointer (some ⟨b1, 0, none⟩)) (fun _ => by go_simp) ?_
    refine at_tame 1 _ hC q1' (by omega) (some 16) rfl rfl (by kernel_rfl) (by kernel_rfl) (by kernel_rfl) (fun _ _ _ h => h) rfl (by kernel_rfl) (v := .int .u8 (byteAt r 0)) (fun w' hw' => by have := cell_byte hw' 0 (by omega); go_simp) ?_
    have hb0 : ((byteAt r 0) : Int) ≤ 255 := by have := byteAt_lt r 0; omega
    refine at_pure 2 (by omega) (some 17) rfl rfl (by kernel_rfl) (by kernel_rfl) (by kernel_rfl) (fun _ _ _ h => h) rfl (v := .int .i64 (byteAt r 0)) (fun _ => by go_simp; try exact IntWalk.i64_in _ (by omega)) ?_
    simp only [Act.put, List.setIfInBounds_toArray, List.set_cons_succ, List.set_cons_zero]
    refine at_pure 3 (by omega) (some 18) rfl rfl (by kernel_rfl) (by kernel_rfl) (by kernel_rfl) (fun _ _ _ h => h) rfl (fun _ => rfl) ?_
    refine at_pure 4 (by omega) (some 19) rfl rfl (by kernel_rfl) (by kernel_rfl) (by kernel_rfl) (fun _ _ _ h => h) rfl (v := .slice (some ⟨b1, 3, none⟩) pl 125) (fun _ => ex_slice_fromto 138 5 128 _ _ _ rfl Tryz.underlying138 (by kernel_rfl) b1 0 rfl 3 _ rfl rfl (by omega) (by omega) (by omega) (by omega) _ _ _ (by omega) (by omega) (by omega)) ?_
    refine at_tame 5 _ hC q1' (by omega) (some 20) rfl rfl (by kernel_rfl) (by kernel_rfl) (by kernel_rfl) (fun _ _ _ h => h) rfl (by kernel_rfl) (v := .string (bstr (recPath r))) (fun w' hw' => ex_bytes 85 9 5 _ rfl Tryz.underlying85 Tryz.underlying5 Tryz.underlying9 b1 3 pl 125 rfl r _ hw' (recPath r) ?_ ?_) ?_
    · unfold recPath; rw [hpl0]
    · unfold recPath; rw [List.length_take, List.length_drop]; omega
    simp only [Act.put, List.setIfInBounds_toArray, List.set_cons_succ, List.set_cons_zero]
    refine at_pure 6 (by omega) (some 21) rfl rfl (by kernel_rfl) (by kernel_rfl) (by kernel_rfl) (fun _ _ _ h => h) rfl (v := .agg #[.int .i64 (byteAt r 0), .string (bstr (recPath r))]) (fun w' => ex_build _ _ rfl _ (built_name _ _)) ?_
    refine at_pure 7 (by omega) (some 22) rfl rfl (by kernel_rfl) (by kernel_rfl) (by kernel_rfl) (fun _ _ _ h => h) rfl (fun _ => rfl) ?_
    refine at_pure 8 (by omega) (some 23) rfl rfl (by kernel_rfl) (by kernel_rfl) (by kernel_rfl) (fun _ _ _ h => h) rfl (v := .slice (some ⟨b1, 11, none⟩) cl 117) (fun _ => ex_slice_fromto 138 5 128 _ _ _ rfl Tryz.underlying138 (by kernel_rfl) b1 0 rfl 11 _ rfl rfl (by omega) (by omega) (by omega) (by omega) _ _ _ (by omega) (by omega) (by omega)) ?_
    refine at_tame 9 _ hC q1' (by omega) (some 24) rfl rfl (by kernel_rfl) (by kernel_rfl) (by kernel_rfl) (fun _ _ _ h => h) rfl (by kernel_rfl) (v := .string (bstr (recContent r))) (fun w' hw' => ex_bytes 85 9 5 _ rfl Tryz.underlying85 Tryz.underlying5 Tryz.underlying9 b1 11 cl 117 rfl r _ hw' (recContent r) ?_ ?_) ?_
    · unfold recContent; rw [hcl0]
    · unfold recContent; rw [List.length_take, List.length_drop]; omega
    simp only [Act.put, List.setIfInBounds_toArray, List.set_cons_succ, List.set_cons_zero]
    refine at_pure 10 (by omega) (some 25) rfl rfl (by kernel_rfl) (by kernel_rfl) (by kernel_rfl) (fun _ _ _ h => h) rfl (v := .agg (fcells (recSet r) (recPath r) (recContent r)).toArray) (fun w' => ex_build _ _ rfl _ (built_file _ _ _)) ?_
    refine at_skip 11 (by omega) none rfl rfl (by kernel_rfl) rfl (w3.setRow b2 (fcells (recSet r) (recPath r) (recContent r)).toArray) ?_ ?_
    · have := run_storeAt_row (P := Tryz.prog) (w := w3) 107 b2 0 (fcells (recSet r) (recPath r) (recContent r)).toArray 3 info_file rfl (by simp [fcells, Value.oneCell']) _ _ r2' (by decide)
      rw [over_all _ _ (by rfl)] at this
      exact ex_store _ _ _ rfl _ rfl _ rfl _ this
    refine at_done (by kernel_rfl) ?_
    have r2n := r2'.setRow (fcells (recSet r) (recPath r) (recContent r)).toArray
    have fn : Frm [] w (w3.setRow b2 (fcells (recSet r) (recPath r) (recContent r)).toArray) := fw.trans (Frm.setRow [b2] _ _ _ (by simp)) (by simpa using l2w)
    generalize w3.setRow b2 (fcells (recSet r) (recPath r) (recContent r)).toArray = w4 at r2n fn
    simp only [Act.put]
    clear hC q1' r2' fw
    go_wp2_with fail
    exact ret_row rfl b2 rfl rfl _ _ r2n row_file info_file ⟨rfl, fn⟩

end Go.Proofs.YtchcmhodnkgojaaGreat
