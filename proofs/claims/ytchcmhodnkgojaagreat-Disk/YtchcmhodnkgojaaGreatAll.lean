/- All: the files, in the order of their slots. -/
import Derived.Test.YtchcmhodnkgojaaGreatFind
set_option linter.all false
namespace Go.Proofs.YtchcmhodnkgojaaGreat
open Go.RowKit Go.Lib

/-- A file, as plain data. -/
structure FileD where
  set : Nat
  path : List UInt8
  content : List UInt8
def fileAt (x : DS) (i : Nat) : FileD := ⟨recSet (recOf x i), recPath (recOf x i), recContent (recOf x i)⟩
def filesOf (x : DS) (n : Nat) : List FileD := (taken x n).map (fileAt x)
def fvals (l : List FileD) : List Value := l.flatMap fun f => fcells f.set f.path f.content
theorem length_fvals (l : List FileD) : (fvals l).length = l.length * 3 := by
  induction l with
  | nil => rfl
  | cons f r ih => simp only [fvals, List.flatMap_cons, List.length_append, List.length_cons, fcells] at ih ⊢; rw [ih]; simp; omega
theorem fvals_append (a b : List FileD) : fvals (a ++ b) = fvals a ++ fvals b := by simp [fvals]
theorem elem_file : Elem Tryz.prog 104 107 3 40 := ⟨Tryz.underlying104, by kernel_rfl, by omega⟩

set_option maxRecDepth 100000 in
set_option maxHeartbeats 1000000 in
theorem all_any (d bl n : Nat) (vw : Value) (x : DS) (w : World) (h : DiskIn w d bl n vw x) :
    Calls Tryz.prog 51 #[.pointer (some ⟨d, 0, none⟩)] w fun e w' => ∃ v, e = .returned v ∧ w'.ownsRow w.heap.size 107 3 v (filesOf x n).length (fvals (filesOf x n)) ∧ Frm [] w w' := by
  go_enter Tryz.func51, Tryz.ntmps51
  go_wp2_with fail
  refine (takenSlots_any d bl n vw x w h).mono ?_
  rintro e w2 ⟨v, rfl, hv, f2⟩
  have h2 := h.new f2 (by simp)
  have h54 := taken_len x n
  obtain ⟨ad, cap, hv'⟩ := own_slice hv
  subst hv'
  go_wp2_with fail
  have HA : Hid (∀ i ∈ taken x n, i < nslots n) := fun i hi => taken_lt x n i hi
  generalize htk : taken x n = tk at *
  have HT : Hid (taken x n = tk) := htk
  clear htk
  have hsz2 := f2.size
  go_loopw [3, 9] (fun u c wr => ∃ k : Nat, c = .int .i64 k ∧ k ≤ tk.length ∧ Frm [] w2 wr ∧ wr.ownsRow w2.heap.size 107 3 u k (fvals ((tk.take k).map (fileAt x)))) (fun _ c _ => tk.length - (intOf c).toNat)
  case atStart => exact ⟨0, rfl, by omega, Frm.refl _ _, World.ownsRow_nil _ _ _ _⟩
  case round =>
    obtain ⟨k, rfl, hk, fk, ho⟩ := hrel
    have hd := h2.new fk (by simp)
    have hvk := fk.owns hv (by simp)
    by_cases hlt : k < tk.length
    · obtain ⟨g, cur, rfl, hg, hle, _, hcs, htk⟩ := own_some hvk (by omega)
      have hi : tk[k] < nslots n := HA.out _ (List.getElem_mem hlt)
      have hc : wr.cell? ⟨g, k, none⟩ = some (.int .i64 (tk[k] : Nat)) := by
        rw [hg.cell, ← Array.getElem?_toList]
        have : (cur.toList.take (tk.length * 1))[k]? = (intVals tk)[k]? := by rw [htk]
        rw [List.getElem?_take_of_lt (by omega)] at this
        rw [this]
        simp [intVals, hlt]
      have hrl := length_recOf hd tk[k] hi
      generalize hik : tk[k] = i at hi hc hrl
      have HI : Hid (tk[k] = i) := hik
      clear hik hcs htk
      go_wp2_with fail
      refine (readRecord_any d bl n vw x i wr hd hi).mono ?_
      rintro e w3 ⟨rfl, f3⟩
      go_wp2_with fail
      refine (decode_any (recOf x i) w3 hrl).mono ?_
      rintro e w4 ⟨rfl, f4⟩
      have ho4 := f4.owns (f3.owns ho (by simp)) (by simp)
      have fk4 := (fk.trans f3 (by simp)).trans f4 (by simp)
      clear ho fk hd hvk hg hc f3 f4
      go_wp2_with (with_reducible first | refine stop_slice1 rfl ?_ | refine stop_append rfl ?_)
      refine Stopped.go (wl_slice1 rfl 104 107 3 40 elem_file _ rfl (by omega) (.agg (fcells (recSet (recOf x i)) (recPath (recOf x i)) (recContent (recOf x i))).toArray) rfl rfl ?_)
      intro w5 b5 l5 f5 r5
      go_wp2_with (with_reducible first | refine stop_slice1 rfl ?_ | refine stop_append rfl ?_)
      have ho5 := f5.owns ho4 (by simp)
      have hbase : w2.heap.size ≤ w5.heap.size := by have := fk4.size; have := f5.size; omega
      refine Stopped.go (wl_append rfl 104 107 3 40 elem_file _ _ rfl w2.heap.size u3 _ _ rfl ho5 b5 1 1 (fcells (recSet (recOf x i)) (recPath (recOf x i)) (recContent (recOf x i))) rfl _ _ r5 rfl rfl (by simp [fcells, Value.oneCell']) (by omega) (by omega) (by omega) hbase ?_)
      intro g' cap' w6 ho6 f6 hat
      have fk6 := (fk4.trans f5 (by simp)).trans f6 (by intro j hj; right; simp at hj; exact (ho5.lt j hj).1)
      clear ho4 ho5 r5 f5 f6 hat l5 fk4 hbase
      go_wp2_with fail
      go_roundw
      case rel =>
        refine ⟨k + 1, by go_num, by omega, fk6, ?_⟩
        rw [List.take_succ_eq_append_getElem hlt, List.map_append, fvals_append, show tk[k] = i from HI.out]
        simpa [fvals, fileAt] using ho6
      case measure => simp [intOf]; omega
    · have HK : Hid (k = tk.length) := (by omega : k = tk.length)
      go_wp2_with fail
      go_ret
      refine ⟨_, rfl, ?_, f2.trans fk (by simp)⟩
      have := HK.out
      subst this
      have e : filesOf x n = (tk.take tk.length).map (fileAt x) := by unfold filesOf; rw [show taken x n = tk from HT.out, List.take_of_length_le (Nat.le_refl _)]
      rw [e]
      obtain ⟨o1, o2⟩ := ho
      refine ⟨by simpa using length_fvals ((tk.take tk.length).map (fileAt x)), ?_⟩
      rcases o2 with ⟨e1, e2⟩ | ⟨g, cap, cur, e1, e2, e3⟩
      · exact .inl ⟨e1, by simpa using e2⟩
      · exact .inr ⟨g, cap, cur, by simpa using e1, by omega, by simpa using e3⟩

end Go.Proofs.YtchcmhodnkgojaaGreat
