/- mark, freeSlot: the root is written. -/
import Derived.Test.YtchcmhodnkgojaaGreatOwn
set_option linter.all false
namespace Go.Proofs.YtchcmhodnkgojaaGreat
open Go.RowKit Go.Lib

def setMark (root : List UInt8) (i : Int) (b : UInt8) : List UInt8 := if i = -1 then root else root.set (10 + i.toNat) b
def markRoot (root : List UInt8) (takes frees : Int) : List UInt8 := setMark (setMark root takes 1) frees 0
def DS.mark (x : DS) (takes frees : Int) : DS :=
  if x.canAct then (x.write 0 (markRoot (x.read 0) takes frees)).flush else x.write 0 (markRoot (x.read 0) takes frees)
def DS.markOk (x : DS) (takes frees : Int) : Bool := x.canAct && (x.write 0 (markRoot (x.read 0) takes frees)).canAct
theorem length_setMark (root : List UInt8) (i : Int) (b : UInt8) : (setMark root i b).length = root.length := by unfold setMark; split <;> simp
theorem byteCells_set (l : List UInt8) (i : Nat) (b : UInt8) : (byteCells (l.set i b)).toArray = (byteCells l).toArray.setIfInBounds i (.int .u8 b.toNat) := by
  simp [byteCells, List.map_set]
theorem read_len {w : World} {F : List Nat} {d n : Nat} {x : DS} (h : DiskOwn w F d n x) : (x.read 0).length = 64 := by
  obtain ⟨bl, vw, h, _⟩ := h
  exact length_seenIn _ _ (by rw [h.len]; have := h.lo; simp; omega) _ h.len64
theorem DiskOwn.size {w : World} {F : List Nat} {d n : Nat} {x : DS} (h : DiskOwn w F d n x) : 16 ≤ n ∧ n ≤ 400 := by
  obtain ⟨bl, vw, h, _⟩ := h
  exact ⟨h.lo, h.hi⟩
theorem read_own (F : List Nat) (d n : Nat) (x : DS) (s : Int) (w : World) (h : DiskOwn w F d n x) (hs : 0 ≤ s) (hn : s < n) :
    Calls Tryz.prog 114 #[.pointer (some ⟨d, 0, none⟩), .int .i64 s] w fun e w' => e = .returned (.agg (byteCells (x.read s)).toArray) ∧ Frm [] w w' := by
  obtain ⟨bl, vw, h, _⟩ := h
  exact read_any d bl n vw x s w h hs hn
theorem DS.write_fit {x : DS} {s : Int} {l : List UInt8} {r : Nat} (h : x.Fit (r + 1)) (hc : x.canAct = true) : (x.write s l).Fit r := by
  have h1 := h.acts0
  have h2 := h.acts1
  have h3 := h.left0
  have h4 := h.left1
  unfold DS.write
  rw [if_pos hc]
  unfold DS.canAct at hc
  refine ⟨by simp [DS.acted]; omega, by simp [DS.acted]; omega, ?_, ?_⟩
  · simp only [DS.acted]
    split
    · rename_i hg
      simp [hg] at hc
      have := hc.2
      omega
    · exact h3
  · simp only [DS.acted]
    split <;> omega

section
variable {P : Program} {ops : Array Oper} {Q : Exit → Act → World → Prop} {a : Act} {w : World} {rest : List Oper} {o : Oper}
/-- One cell into a row. -/
theorem wl_store1 (hg : o.guard = none) (t : TypeId) (x y : Operand) (ho : o.op = .store t x y) (b off : Nat) (hx : a.eval x = .pointer (some ⟨b, off, none⟩))
    (k : IntKind) (v : Int) (hy : a.eval y = .int k v) (hi : (P.info? t).map (·.size) = some 1)
    (c : Array Value) (u : TypeId) (hr : Row w b c u) (hfit : off < c.size)
    (h : ∀ w1 : World, Frm [b] w w1 → Row w1 b (c.setIfInBounds off (.int k v)) u → wpList P ops Q rest (a.put o.dst undef) w1) : wpList P ops Q (o :: rest) a w := by
  refine wl_skip hg (w.setCell ⟨b, off, none⟩ (.int k v)) ?_ (h _ (Frm.setCell _ _ _ _ (by simp)) (hr.setCell _ _))
  have hc := hr.cell off
  have hf := hr.thaw off
  have hs : c[off]? = some c[off] := by simp [hfit]
  rw [hs] at hc
  have hst : (store ((⟨b, off, none⟩ : Addr).add 0) (.int k v)).run P w = .ok () (w.setCell ⟨b, off, none⟩ (.int k v)) := by
    rw [Addr.add_mid, Nat.add_zero, run_store P w _ _ _ rfl, hc]
    simp [hf]
  cases hq : P.info? t with
  | none => simp [hq] at hi
  | some i =>
    have h1 : i.size = 1 := by simpa [hq] using hi
    simp [execOp, ho, hx, hy, Instr.storeAt, Instr.sureAddr, storeVar, sizeOf, typeInfo, hq, h1, Value.cells, storeCells, hst]
end

set_option maxRecDepth 100000 in
set_option maxHeartbeats 1000000 in
theorem mark_spec (F : List Nat) (d n : Nat) (x : DS) (takes frees : Int) (w : World) (h : DiskOwn w F d n x) (hx : x.Fit 2) (hfew : x.waiting.length < 60) (ht0 : -1 ≤ takes) (ht1 : takes < 54) (hf0 : -1 ≤ frees) (hf1 : frees < 54) :
    Calls Tryz.prog 111 #[.pointer (some ⟨d, 0, none⟩), .int .i64 takes, .int .i64 frees] w fun e w' => e = .returned (errDown (x.markOk takes frees)) ∧ ∃ F', DiskOwn w' F' d n (x.mark takes frees) ∧ Frm F w w' ∧ Grew F F' w := by
  have hsz := h.size
  have hr64 := read_len h
  go_enter Tryz.func111, Tryz.ntmps111
  go_wp2_with fail
  refine (read_own F d n x 0 w h (by omega) (by omega)).mono ?_
  rintro e w1 ⟨rfl, f1⟩
  go_wp2_with (with_reducible first | refine stop_alloc rfl ?_ | refine stop_store 148 rfl ?_)
  refine Stopped.go (wl_alloc rfl 148 rfl zBlock zero_block ?_)
  intro w2 b7 l7 f2 r7
  go_wp2_with (with_reducible first | refine stop_alloc rfl ?_ | refine stop_store 148 rfl ?_)
  refine Stopped.go (wl_store rfl 148 _ _ rfl _ 0 rfl _ rfl 64 info_block ?_ ?_ _ _ r7 ?_ ?_)
  · simp only [List.size_toArray, length_byteCells]; exact hr64
  · exact byteCells_one _
  · decide
  intro w3 f3 r7'
  rw [over_all _ _ (by rw [length_byteCells, hr64]; rfl)] at r7'
  have f13 : Frm [] w w3 := (f1.trans f2 (by simp)).trans f3 (by simp; have := f1.size; omega)
  have l7w : w.heap.size ≤ b7 := by have := f1.size; omega
  have HR : Hid ((x.read 0).length = 64) := hr64
  clear r7 f1 f2 f3 hr64
  have hlt1 : Hid (∀ r : List UInt8, r.length = 64 → ∀ i : Int, 0 ≤ i → i < 54 → (10 + i).toNat < (byteCells r).toArray.size ∧ (byteCells r).toArray.setIfInBounds (10 + i).toNat (.int .u8 1) = (byteCells (setMark r i 1)).toArray ∧ (byteCells r).toArray.setIfInBounds (10 + i).toNat (.int .u8 0) = (byteCells (setMark r i 0)).toArray) := by
    intro r hr i h0 h54
    have e : (10 + i).toNat = 10 + i.toNat := by omega
    have hne : i ≠ -1 := by omega
    refine ⟨by simp [length_byteCells, hr]; omega, ?_, ?_⟩
    · rw [setMark, if_neg hne, byteCells_set, e]; rfl
    · rw [setMark, if_neg hne, byteCells_set, e]; rfl
  by_cases h1 : takes = -1
  · subst h1
    by_cases h2 : frees = -1
    · subst h2
      go_wp2_with (with_reducible first | refine stop_load 148 rfl ?_ | refine stop_store 5 rfl ?_)
      have hml : Hid ((markRoot (x.read 0) (-1) (-1)).length = 64) := by show _ = _; unfold markRoot; rw [length_setMark, length_setMark]; exact HR.out
      have q7 : Row w3 b7 (byteCells (markRoot (x.read 0) (-1) (-1))).toArray 148 := r7'
      have h3 := h.new f13 (by simp)
      refine Stopped.go (wl_load rfl 148 _ rfl b7 0 rfl row_block 64 info_block _ _ q7 (byteCells (markRoot (x.read 0) (-1) (-1))) ?_ ?_ ?_)
      · simp only [List.drop_zero]; exact List.take_of_length_le (by rw [length_byteCells]; exact Nat.le_of_eq hml.out)
      · rw [length_byteCells]; exact hml.out
      go_wp2_with fail
      refine (write_spec F d n x 0 (markRoot (x.read 0) (-1) (-1)) w3 h3 ⟨hx.acts0, by have := hx.acts1; omega, hx.left0, hx.left1⟩ hml.out (by omega) (by omega) hfew).mono ?_
      rintro e w8 ⟨rfl, F8, h8, f8, g8⟩
      have fw8 : Frm F w w8 := (f13.mono (by simp) : Frm F w w3).trans f8 (fun i hi => .inl hi)
      have gw8 : Grew F F8 w := fun k hk => (g8 k hk).imp id (fun hh => by have := f13.size; omega)
      have hsz8 := fw8.size
      have HM : Hid (x.mark (-1) (-1) = if x.canAct then (x.write 0 (markRoot (x.read 0) (-1) (-1))).flush else x.write 0 (markRoot (x.read 0) (-1) (-1))) := rfl
      have HO : Hid (x.markOk (-1) (-1) = (x.canAct && (x.write 0 (markRoot (x.read 0) (-1) (-1))).canAct)) := rfl
      have hfit : Hid (x.canAct = true → (x.write 0 (markRoot (x.read 0) (-1) (-1))).Fit 1) := fun hc => DS.write_fit hx hc
      have HMark : ∀ R : Value × DS, R = R := fun _ => rfl
      clear HMark q7 h3 f8 g8
      generalize x.write 0 (markRoot (x.read 0) (-1) (-1)) = y at *
      cases hc : x.canAct with
      | true =>
        simp only [errDown, if_true]
        go_wp2_with fail
        refine (flush_spec F8 d n y w8 h8 (hfit.out hc)).mono ?_
        rintro e w9 ⟨rfl, F9, h9, f9, g9⟩
        go_wp2_with fail
        go_ret
        refine ⟨?_, F9, ?_, fw8.trans f9 (fun i hi => gw8 i hi), gw8.trans g9 hsz8⟩
        · rw [HO.out, hc]; simp
        · rw [HM.out, hc]; simpa using h9
      | false =>
        simp only [errDown]
        go_wp2_with fail
        go_ret
        refine ⟨?_, F8, ?_, fw8, gw8⟩
        · rw [HO.out, hc]; rfl
        · rw [HM.out, hc]; simpa using h8
    · have hb2 : (frees == -1) = false := by simpa using h2
      go_wp2_with (with_reducible first | refine stop_load 148 rfl ?_ | refine stop_store 5 rfl ?_)
      have za := hlt1.out (x.read 0) (by exact HR.out) frees (by omega) (by omega)
      refine Stopped.go (wl_store1 rfl 5 _ _ rfl b7 (10 + frees).toNat rfl .u8 0 rfl (by kernel_rfl) _ _ r7' za.1 ?_)
      intro wa fa ra
      rw [za.2.2] at ra
      have ga : Frm [] w wa := f13.trans fa (by simpa using l7w)
      clear za
      go_wp2_with (with_reducible first | refine stop_load 148 rfl ?_ | refine stop_store 5 rfl ?_)
      have hml : Hid ((markRoot (x.read 0) (-1) frees).length = 64) := by show _ = _; unfold markRoot; rw [length_setMark, length_setMark]; exact HR.out
      have q7 : Row wa b7 (byteCells (markRoot (x.read 0) (-1) frees)).toArray 148 := ra
      have h3 := h.new ga (by simp)
      refine Stopped.go (wl_load rfl 148 _ rfl b7 0 rfl row_block 64 info_block _ _ q7 (byteCells (markRoot (x.read 0) (-1) frees)) ?_ ?_ ?_)
      · simp only [List.drop_zero]; exact List.take_of_length_le (by rw [length_byteCells]; exact Nat.le_of_eq hml.out)
      · rw [length_byteCells]; exact hml.out
      go_wp2_with fail
      refine (write_spec F d n x 0 (markRoot (x.read 0) (-1) frees) wa h3 ⟨hx.acts0, by have := hx.acts1; omega, hx.left0, hx.left1⟩ hml.out (by omega) (by omega) hfew).mono ?_
      rintro e w8 ⟨rfl, F8, h8, f8, g8⟩
      have fw8 : Frm F w w8 := (ga.mono (by simp) : Frm F w wa).trans f8 (fun i hi => .inl hi)
      have gw8 : Grew F F8 w := fun k hk => (g8 k hk).imp id (fun hh => by have := ga.size; omega)
      have hsz8 := fw8.size
      have HM : Hid (x.mark (-1) frees = if x.canAct then (x.write 0 (markRoot (x.read 0) (-1) frees)).flush else x.write 0 (markRoot (x.read 0) (-1) frees)) := rfl
      have HO : Hid (x.markOk (-1) frees = (x.canAct && (x.write 0 (markRoot (x.read 0) (-1) frees)).canAct)) := rfl
      have hfit : Hid (x.canAct = true → (x.write 0 (markRoot (x.read 0) (-1) frees)).Fit 1) := fun hc => DS.write_fit hx hc
      have HMark : ∀ R : Value × DS, R = R := fun _ => rfl
      clear HMark q7 h3 f8 g8
      generalize x.write 0 (markRoot (x.read 0) (-1) frees) = y at *
      cases hc : x.canAct with
      | true =>
        simp only [errDown, if_true]
        go_wp2_with fail
        refine (flush_spec F8 d n y w8 h8 (hfit.out hc)).mono ?_
        rintro e w9 ⟨rfl, F9, h9, f9, g9⟩
        go_wp2_with fail
        go_ret
        refine ⟨?_, F9, ?_, fw8.trans f9 (fun i hi => gw8 i hi), gw8.trans g9 hsz8⟩
        · rw [HO.out, hc]; simp
        · rw [HM.out, hc]; simpa using h9
      | false =>
        simp only [errDown]
        go_wp2_with fail
        go_ret
        refine ⟨?_, F8, ?_, fw8, gw8⟩
        · rw [HO.out, hc]; rfl
        · rw [HM.out, hc]; simpa using h8
  · have hb1 : (takes == -1) = false := by simpa using h1
    by_cases h2 : frees = -1
    · subst h2
      go_wp2_with (with_reducible first | refine stop_load 148 rfl ?_ | refine stop_store 5 rfl ?_)
      have za := hlt1.out (x.read 0) (by exact HR.out) takes (by omega) (by omega)
      refine Stopped.go (wl_store1 rfl 5 _ _ rfl b7 (10 + takes).toNat rfl .u8 1 rfl (by kernel_rfl) _ _ r7' za.1 ?_)
      intro wa fa ra
      rw [za.2.1] at ra
      have ga : Frm [] w wa := f13.trans fa (by simpa using l7w)
      clear za
      go_wp2_with (with_reducible first | refine stop_load 148 rfl ?_ | refine stop_store 5 rfl ?_)
      have hml : Hid ((markRoot (x.read 0) takes (-1)).length = 64) := by show _ = _; unfold markRoot; rw [length_setMark, length_setMark]; exact HR.out
      have q7 : Row wa b7 (byteCells (markRoot (x.read 0) takes (-1))).toArray 148 := ra
      have h3 := h.new ga (by simp)
      refine Stopped.go (wl_load rfl 148 _ rfl b7 0 rfl row_block 64 info_block _ _ q7 (byteCells (markRoot (x.read 0) takes (-1))) ?_ ?_ ?_)
      · simp only [List.drop_zero]; exact List.take_of_length_le (by rw [length_byteCells]; exact Nat.le_of_eq hml.out)
      · rw [length_byteCells]; exact hml.out
      go_wp2_with fail
      refine (write_spec F d n x 0 (markRoot (x.read 0) takes (-1)) wa h3 ⟨hx.acts0, by have := hx.acts1; omega, hx.left0, hx.left1⟩ hml.out (by omega) (by omega) hfew).mono ?_
      rintro e w8 ⟨rfl, F8, h8, f8, g8⟩
      have fw8 : Frm F w w8 := (ga.mono (by simp) : Frm F w wa).trans f8 (fun i hi => .inl hi)
      have gw8 : Grew F F8 w := fun k hk => (g8 k hk).imp id (fun hh => by have := ga.size; omega)
      have hsz8 := fw8.size
      have HM : Hid (x.mark takes (-1) = if x.canAct then (x.write 0 (markRoot (x.read 0) takes (-1))).flush else x.write 0 (markRoot (x.read 0) takes (-1))) := rfl
      have HO : Hid (x.markOk takes (-1) = (x.canAct && (x.write 0 (markRoot (x.read 0) takes (-1))).canAct)) := rfl
      have hfit : Hid (x.canAct = true → (x.write 0 (markRoot (x.read 0) takes (-1))).Fit 1) := fun hc => DS.write_fit hx hc
      have HMark : ∀ R : Value × DS, R = R := fun _ => rfl
      clear HMark q7 h3 f8 g8
      generalize x.write 0 (markRoot (x.read 0) takes (-1)) = y at *
      cases hc : x.canAct with
      | true =>
        simp only [errDown, if_true]
        go_wp2_with fail
        refine (flush_spec F8 d n y w8 h8 (hfit.out hc)).mono ?_
        rintro e w9 ⟨rfl, F9, h9, f9, g9⟩
        go_wp2_with fail
        go_ret
        refine ⟨?_, F9, ?_, fw8.trans f9 (fun i hi => gw8 i hi), gw8.trans g9 hsz8⟩
        · rw [HO.out, hc]; simp
        · rw [HM.out, hc]; simpa using h9
      | false =>
        simp only [errDown]
        go_wp2_with fail
        go_ret
        refine ⟨?_, F8, ?_, fw8, gw8⟩
        · rw [HO.out, hc]; rfl
        · rw [HM.out, hc]; simpa using h8
    · have hb2 : (frees == -1) = false := by simpa using h2
      go_wp2_with (with_reducible first | refine stop_load 148 rfl ?_ | refine stop_store 5 rfl ?_)
      have za := hlt1.out (x.read 0) (by exact HR.out) takes (by omega) (by omega)
      refine Stopped.go (wl_store1 rfl 5 _ _ rfl b7 (10 + takes).toNat rfl .u8 1 rfl (by kernel_rfl) _ _ r7' za.1 ?_)
      intro wa fa ra
      rw [za.2.1] at ra
      have ga : Frm [] w wa := f13.trans fa (by simpa using l7w)
      clear za
      go_wp2_with (with_reducible first | refine stop_load 148 rfl ?_ | refine stop_store 5 rfl ?_)
      have zb := hlt1.out (setMark (x.read 0) takes 1) (by rw [length_setMark]; exact HR.out) frees (by omega) (by omega)
      refine Stopped.go (wl_store1 rfl 5 _ _ rfl b7 (10 + frees).toNat rfl .u8 0 rfl (by kernel_rfl) _ _ ra zb.1 ?_)
      intro wb fb rb
      rw [zb.2.2] at rb
      have gb : Frm [] w wb := ga.trans fb (by simpa using l7w)
      clear zb
      go_wp2_with (with_reducible first | refine stop_load 148 rfl ?_ | refine stop_store 5 rfl ?_)
      have hml : Hid ((markRoot (x.read 0) takes frees).length = 64) := by show _ = _; unfold markRoot; rw [length_setMark, length_setMark]; exact HR.out
      have q7 : Row wb b7 (byteCells (markRoot (x.read 0) takes frees)).toArray 148 := rb
      have h3 := h.new gb (by simp)
      refine Stopped.go (wl_load rfl 148 _ rfl b7 0 rfl row_block 64 info_block _ _ q7 (byteCells (markRoot (x.read 0) takes frees)) ?_ ?_ ?_)
      · simp only [List.drop_zero]; exact List.take_of_length_le (by rw [length_byteCells]; exact Nat.le_of_eq hml.out)
      · rw [length_byteCells]; exact hml.out
      go_wp2_with fail
      refine (write_spec F d n x 0 (markRoot (x.read 0) takes frees) wb h3 ⟨hx.acts0, by have := hx.acts1; omega, hx.left0, hx.left1⟩ hml.out (by omega) (by omega) hfew).mono ?_
      rintro e w8 ⟨rfl, F8, h8, f8, g8⟩
      have fw8 : Frm F w w8 := (gb.mono (by simp) : Frm F w wb).trans f8 (fun i hi => .inl hi)
      have gw8 : Grew F F8 w := fun k hk => (g8 k hk).imp id (fun hh => by have := gb.size; omega)
      have hsz8 := fw8.size
      have HM : Hid (x.mark takes frees = if x.canAct then (x.write 0 (markRoot (x.read 0) takes frees)).flush else x.write 0 (markRoot (x.read 0) takes frees)) := rfl
      have HO : Hid (x.markOk takes frees = (x.canAct && (x.write 0 (markRoot (x.read 0) takes frees)).canAct)) := rfl
      have hfit : Hid (x.canAct = true → (x.write 0 (markRoot (x.read 0) takes frees)).Fit 1) := fun hc => DS.write_fit hx hc
      have HMark : ∀ R : Value × DS, R = R := fun _ => rfl
      clear HMark q7 h3 f8 g8
      generalize x.write 0 (markRoot (x.read 0) takes frees) = y at *
      cases hc : x.canAct with
      | true =>
        simp only [errDown, if_true]
        go_wp2_with fail
        refine (flush_spec F8 d n y w8 h8 (hfit.out hc)).mono ?_
        rintro e w9 ⟨rfl, F9, h9, f9, g9⟩
        go_wp2_with fail
        go_ret
        refine ⟨?_, F9, ?_, fw8.trans f9 (fun i hi => gw8 i hi), gw8.trans g9 hsz8⟩
        · rw [HO.out, hc]; simp
        · rw [HM.out, hc]; simpa using h9
      | false =>
        simp only [errDown]
        go_wp2_with fail
        go_ret
        refine ⟨?_, F8, ?_, fw8, gw8⟩
        · rw [HO.out, hc]; rfl
        · rw [HM.out, hc]; simpa using h8

end Go.Proofs.YtchcmhodnkgojaaGreat
