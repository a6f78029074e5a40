/- What Whole asks of the disk, as plain data; seen and isPending where the files are known. -/
import Derived.Test.YtchcmhodnkgojaaGreatStock2
set_option linter.all false
namespace Go.Proofs.YtchcmhodnkgojaaGreat
open Go.RowKit Go.Lib

theorem out_any {L : List UInt8} {n : Nat} {m : Slots} {k sd pt : Int} {ct : ByteArray} {N : Nat} {e0 : Int} {m' : Slots} {L' : List UInt8} {g : Nat → Int → List UInt8} {l : Nat → List UInt8} (T : Fate L n m k sd pt ct N e0 m' L' g l) (a kp : Int) (af : Nat) :
    ∃ (ef : Int) (Lf : List UInt8) (dn lf : Int) (fl : Bool), (⟨L, [], a, true, af, kp, false⟩ : DS).act n k sd pt ct = (⟨Lf, [], a + dn, true, lf, kp, fl⟩, .int .i64 ef) ∧ obeysD ef dn af e0 N = true ∧ 0 ≤ dn ∧ dn ≤ 5 ∧
      ((ef = 3 ∧ fl = true ∧ dn = af ∧ (Rep Lf n m ∨ Rep Lf n m')) ∨ ((ef = 0 ∨ ef = 5) ∧ fl = false ∧ Rep Lf n m')) := by
  have hN := T.few
  by_cases h : af < N
  · refine ⟨3, g af kp, af, 0, true, T.falls a kp af h, ?_, by omega, by omega, .inl ⟨rfl, rfl, rfl, T.mid af kp h⟩⟩
    unfold obeysD
    rw [if_pos (by omega)]
    simp
  · refine ⟨e0, L', N, af - N, false, T.room a kp af (by omega), ?_, by omega, by omega, .inr ⟨T.ans.imp id fun h => h.1, rfl, T.rep⟩⟩
    unfold obeysD
    rw [if_neg (by omega)]
    simp
theorem state_eq {x y : DS} {n : Nat} {m : Slots} (hx : Rep x.lasting n m) (hwx : x.waiting = []) (hy : Rep y.lasting n m) (hwy : y.waiting = []) : x.state n = y.state n := by
  have : x.at n = y.at n := by
    funext q
    unfold DS.at
    obtain ⟨r, hr⟩ := holds_any m (q / 7) (pathL (q % 7))
    rw [← bstr_pathL, rep_content hx hwx hr, rep_content hy hwy hr]
  unfold DS.state
  rw [this]
theorem zpath_not : zpath.data.toList ∉ P7 := by decide
theorem sremove_z {x : DS} {n : Nat} {m : Slots} (h : Rep x.lasting n m) (hw : x.waiting = []) (h7 : Seven m) (hf : x.failed = false) : x.sremove n 0 zpath = (x, .int .i64 5) := by
  unfold DS.sremove
  rw [hf, rep_pending h hw h7]
  simp only [Bool.false_eq_true, if_false]
  refine remove_none n 0 zpath x ?_
  exact rep_noslot h hw 0 zpath.data.toList fun i f hf e => by
    have := (h7 i f hf).2
    unfold nameOf at e
    simp only [Prod.mk.injEq] at e
    rw [e.2] at this
    exact zpath_not this
theorem Row.range {w : World} {b : Nat} {c : Array Value} {t : TypeId} (h : Row w b c t) : w.rangeAt b 0 c.toList := fun j v hj => by
  rw [Nat.zero_add, h.cell, ← Array.getElem?_toList]
  exact hj
section
variable {P : Program} {ops : Array Oper} {Q : Exit → Act → World → Prop} {a : Act} {w : World} {rest : List Oper} {o : Oper}
/-- A whole variable, loaded and stored. -/
theorem wl_loadw (hg : o.guard = none) (t : TypeId) (x : Operand) (ho : o.op = .load t x) (b : Nat) (hx : a.eval x = .pointer (some ⟨b, 0, none⟩))
    (hu : (P.underlying t).map TypeDesc.isRow = some true) (c : Array Value) (u : TypeId) (hr : Row w b c u) (hi : (P.info? t).map (·.size) = some c.size)
    (h : wpList P ops Q rest (a.put o.dst (.agg c)) w) : wpList P ops Q (o :: rest) a w :=
  wl_loadr hg t x ho b 0 hx hu c hi hr.range h
theorem wl_storew (hg : o.guard = none) (t : TypeId) (x y : Operand) (ho : o.op = .store t x y) (b : Nat) (hx : a.eval x = .pointer (some ⟨b, 0, none⟩))
    (cells : Array Value) (hy : a.eval y = .agg cells) (hi : (P.info? t).map (·.size) = some cells.size) (h1 : ∀ v ∈ cells.toList, v.oneCell' = true)
    (c : Array Value) (u : TypeId) (hr : Row w b c u) (hc : c.size = cells.size)
    (h : ∀ w1 : World, Frm [b] w w1 → Row w1 b cells u → wpList P ops Q rest (a.put o.dst undef) w1) : wpList P ops Q (o :: rest) a w := by
  refine wl_store hg t x y ho b 0 hx cells hy cells.size hi rfl h1 c u hr (by omega) fun w1 f1 r1 => h w1 f1 ?_
  rw [over_all _ _ (by rw [hc, Array.length_toList]), Array.toArray_toList] at r1
  exact r1
end
theorem sstr_one (l : List (List UInt8)) : ∀ v ∈ (sstr l).toList, v.oneCell' = true := by simp [sstr, Value.oneCell']
theorem act_one (a : ActD) : ∀ v ∈ a.cells.toList, v.oneCell' = true := by simp [ActD.cells, actCells, Value.oneCell']
theorem state_info (x : DS) (n : Nat) : (Tryz.prog.info? 33).map (·.size) = some (sstr (x.state n)).size := by rw [sstr_size]; exact info_state

/-- seen, where the files are known. -/
theorem seen_rep (F : List Nat) (s d n : Nat) (x : DS) (m : Slots) (w : World) (h : StoreIn w F s d n x) (hf : x.failed = false) (hw : x.waiting = []) (hr : Rep x.lasting n m) (h7 : Seven m) :
    Calls Tryz.prog 15 #[.pointer (some ⟨s, 0, none⟩)] w fun e w' => e = .returned (.tuple #[.agg (sstr (x.state n)), .bool true]) ∧ Frm [] w w' :=
  seen_any F s d n x w h hf hw fun side _ => side_count hr hw h7 side
theorem state_len (x : DS) (n : Nat) : (x.state n).length = 21 := stTo_len _ _
/-- copied, where the files are known. -/
theorem copied_rep (F : List Nat) (s d n : Nat) (x : DS) (m : Slots) (w : World) (h : StoreIn w F s d n x) (hr : Rep x.lasting n m) (h7 : Seven m) :
    Calls Tryz.prog 16 #[.pointer (some ⟨s, 0, none⟩)] w fun e w' => ∃ s' d' F', e = .returned (.pointer (some ⟨s', 0, none⟩)) ∧ StoreIn w' F' s' d' n (DS.fresh x.lasting) ∧ Frm [] w w' ∧ Grew [] F' w ∧ w.heap.size ≤ s' :=
  copied_any F s d n x w h (rep_storeOk (x := DS.fresh x.lasting) hr rfl h7) (rep_pending (x := DS.fresh x.lasting) hr rfl h7)
theorem kpending_rep (F : List Nat) (s d n : Nat) (L : List UInt8) (m : Slots) (w : World) (h : StoreIn w F s d n (DS.fresh L)) (hr : Rep L n m) (h7 : Seven m) :
    Calls Tryz.prog 24 #[.pointer (some ⟨s, 0, none⟩)] w fun e w' => e = .returned (.tuple #[.bool false, .bool true]) ∧ Frm F w w' := by
  have hz := sremove_z (x := DS.fresh L) hr rfl h7 rfl
  refine (kpending_spec F s d n (DS.fresh L) w h ⟨by show (0 : Int) ≤ 0; omega, by show (0 : Int) + _ ≤ _; omega, by show (0 : Int) ≤ 0; omega, by show (0 : Int) ≤ _; omega⟩ (by show 0 < 60; omega) 5 (by rw [hz])).mono ?_
  rintro e w' ⟨rfl, _, f⟩
  exact ⟨rfl, f⟩

/-- Acts, answered as data. -/
theorem act_rep (F : List Nat) (s d : Nat) (x : DS) (y : ActD) (w : World) (h : StoreIn w F s d 200 x) (hw : x.waiting = []) (hx : x.Fit 5) (hy : y.call.Ok ∧ pickD y.call.kind 4 ≠ 3) (x' : DS) (e0 : Int) (ha : x.act 200 y.call.kind y.call.side y.call.path y.call.content = (x', .int .i64 e0)) :
    Calls Tryz.prog 17 #[.pointer (some ⟨s, 0, none⟩), .agg y.call.cells] w fun e w' => e = .returned (.int .i64 e0) ∧ (∃ F', StoreIn w' F' s d 200 x' ∧ Grew F F' w) ∧ Frm F w w' := by
  refine (act_spec F s d 200 x y.call.kind y.call.side y.call.path y.call.content w h hx (by rw [hw]; show 0 < 55; omega) hy.2 hy.1.1.1 hy.1.1.2 hy.1.2.1.1 hy.1.2.1.2 hy.1.2.2.1 hy.1.2.2.2).mono ?_
  rintro e w' h1
  rw [ha] at h1
  exact h1

end Go.Proofs.YtchcmhodnkgojaaGreat
