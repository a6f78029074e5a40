/- soundNames and Sound. -/
import Derived.Test.YtchcmhodnkgojaaGreatNames
set_option linter.all false
namespace Go.Proofs.YtchcmhodnkgojaaGreat
open Go.RowKit Go.Lib

theorem wl_want {P : Program} {ops : Array Oper} {Q : Exit → Act → World → Prop} {a : Act} {w : World} {rest : List Oper} {o : Oper} (hg : Region.wanted o (yielded ops a.tmps) = true) (v : Value) (w1 : World) (hr : (execOp a.eval o).run P w = .ok (.value v) w1) (h : wpList P ops Q rest (a.put o.dst v) w1) : wpList P ops Q (o :: rest) a w :=
  wpList_step fun K hK => by
    rw [if_pos hg]
    unfold Oper.wp
    rw [hr]
    exact hK _ _ h

def nameOf (f : FileD) : NameD := (f.set, f.path)
/-- Names that files may have, no two the same, nor one of those seen. -/
def namesOk : List NameD → List FileD → Bool
  | _, [] => true
  | seen, f :: r => isNameD f.set f.path && (!(seen.contains (nameOf f)) && namesOk (seen ++ [nameOf f]) r)
def DS.namesOk (x : DS) (n : Nat) : Bool := Go.Proofs.YtchcmhodnkgojaaGreat.namesOk [] (filesOf x n)
theorem elem_name : Elem Tryz.prog 268 103 2 24 := ⟨Tryz.underlying268, by kernel_rfl, by omega⟩
theorem fvals_at (l : List FileD) (k : Nat) (hk : k < l.length) : ((fvals l).drop (k * 3)).take 3 = fcells l[k].set l[k].path l[k].content := by
  have h : ∀ (l : List FileD) (k : Nat), (fvals l).drop (k * 3) = fvals (l.drop k) := by
    intro l
    induction l with
    | nil => intro k; simp [fvals]
    | cons f r ih =>
      intro k
      cases k with
      | zero => simp
      | succ k =>
        have := ih k
        simp only [fvals, List.flatMap_cons, List.drop_succ_cons] at this ⊢
        rw [List.drop_append, List.drop_of_length_le (by simp [fcells]; omega), List.nil_append, ← this]
        congr 1
        simp [fcells]; omega
  rw [h, List.drop_eq_getElem_cons hk]
  show List.take 3 (fcells l[k].set l[k].path l[k].content ++ fvals (l.drop (k + 1))) = _
  rfl
theorem names_step (fs : List FileD) (k : Nat) (hk : k < fs.length) : namesOk ((fs.take k).map nameOf) (fs.drop k) = (isNameD fs[k].set fs[k].path && (!(((fs.take k).map nameOf).contains (nameOf fs[k])) && namesOk ((fs.take (k + 1)).map nameOf) (fs.drop (k + 1)))) := by
  rw [List.drop_eq_getElem_cons hk, namesOk, List.take_succ_eq_append_getElem hk, List.map_append]
  rfl

set_option maxRecDepth 100000 in
set_option maxHeartbeats 1000000 in
theorem soundNames_any (d bl n : Nat) (vw : Value) (x : DS) (w : World) (h : DiskIn w d bl n vw x) :
    Calls Tryz.prog 147 #[.pointer (some ⟨d, 0, none⟩)] w fun e w' => e = .returned (.bool (x.namesOk n)) ∧ Frm [] w w' := by
  have hfl : (filesOf x n).length ≤ 54 := by unfold filesOf; rw [List.length_map]; exact taken_len x n
  have hfp : Hid (∀ f ∈ filesOf x n, f.set < 256 ∧ f.path.length ≤ 8) := fun f hf => by
    unfold filesOf at hf
    rw [List.mem_map] at hf
    obtain ⟨i, _, rfl⟩ := hf
    exact ⟨recSet_lt _, recPath_len _⟩
  go_enter Tryz.func147, Tryz.ntmps147
  go_wp2_with fail
  refine (all_any d bl n vw x w h).mono ?_
  rintro e w2 ⟨v, rfl, hv, f2⟩
  have HO : Hid (x.namesOk n = namesOk (((filesOf x n).take 0).map nameOf) ((filesOf x n).drop 0)) := rfl
  generalize filesOf x n = fs at *
  obtain ⟨ad, cap, hv'⟩ := own_slice hv
  subst hv'
  go_wp2_with fail
  go_loopw [3, 9] (fun u c wr => ∃ k : Nat, c = .int .i64 k ∧ k ≤ fs.length ∧ Frm [] w2 wr ∧ wr.ownsRow w2.heap.size 103 2 u k (nvals ((fs.take k).map nameOf)) ∧ Hid (x.namesOk n = namesOk ((fs.take k).map nameOf) (fs.drop k))) (fun _ c _ => fs.length - (intOf c).toNat)
  case atStart => exact ⟨0, rfl, by omega, Frm.refl _ _, World.ownsRow_nil _ _ _ _, HO⟩
  case round =>
    obtain ⟨k, rfl, hk, fk, ho, HS⟩ := hrel
    clear HO
    have hvk := fk.owns hv (by simp)
    by_cases hlt : k < fs.length
    · obtain ⟨g, cur, rfl, hg, hle, _, hcs, htk⟩ := own_some hvk (by omega)
      have hat : ((cur.toList.drop (k * 3)).take 3) = fcells fs[k].set fs[k].path fs[k].content := by
        rw [drop_take_of_take htk _ _ (by omega), fvals_at fs k hlt]
      have hN : x.namesOk n = _ := HS.out.trans (names_step fs k hlt)
      have hT : (fs.take (k + 1)).map nameOf = (fs.take k).map nameOf ++ [nameOf fs[k]] := by rw [List.take_succ_eq_append_getElem hlt, List.map_append]; rfl
      have hfk := hfp.out fs[k] (List.getElem_mem hlt)
      generalize fs[k] = f at hat hN hT hfk
      have HN : Hid (x.namesOk n = (isNameD f.set f.path && (!(((fs.take k).map nameOf).contains (nameOf f)) && namesOk ((fs.take (k + 1)).map nameOf) (fs.drop (k + 1))))) := hN
      have HT : Hid ((fs.take (k + 1)).map nameOf = (fs.take k).map nameOf ++ [nameOf f]) := hT
      have hnl : ((fs.take k).map nameOf).length = k := by rw [List.length_map, List.length_take]; omega
      generalize (fs.take k).map nameOf = seen at *
      have HFP : Hid (f.set < 256 ∧ f.path.length ≤ 8) := hfk
      clear hN hT hcs htk HS hfk
      go_wp2_with (with_reducible first | refine stop_load 107 rfl ?_ | refine stop_alloc rfl ?_ | refine stop_store 107 rfl ?_)
      refine Stopped.go (wl_load rfl 107 _ rfl g (k * 3) rfl row_file 3 info_file _ _ hg (fcells f.set f.path f.content) hat rfl ?_)
      clear hat hg
      go_wp2_with (with_reducible first | refine stop_alloc rfl ?_ | refine stop_store 107 rfl ?_)
      refine Stopped.go (wl_alloc rfl 107 rfl zFile zero_file ?_)
      intro w4 b5 l5 f4 r5
      go_wp2_with (with_reducible first | refine stop_alloc rfl ?_ | refine stop_store 107 rfl ?_)
      refine Stopped.go (wl_store rfl 107 _ _ rfl _ 0 rfl _ rfl 3 info_file ?_ ?_ _ _ r5 ?_ ?_)
      · rfl
      · simp [fcells, Value.oneCell']
      · decide
      intro w5 f5 q5
      rw [over_all _ _ (by rfl)] at q5
      have q5' : Row w5 b5 (fcells f.set f.path f.content).toArray 107 := q5
      have f45 := f4.trans f5 (by simpa using l5)
      have fk5 := fk.trans f45 (by simp)
      have ho5 := f45.owns ho (by simp)
      clear q5 r5 f4 f5 f45 fk ho l5 hvk
      go_wp2_with (with_reducible first | refine stop_load 103 rfl ?_)
      refine Stopped.go (wl_load rfl 103 _ rfl b5 0 rfl row_name 2 info_name _ _ q5' (nmcells (nameOf f)) rfl rfl ?_)
      go_wp2_with fail
      refine (isName_any f.set (bstr f.path) w5 (by rw [bstr_size]; have := HFP.out.2; omega) HFP.out.1).mono ?_
      rintro e w6 ⟨rfl, f6⟩
      have ho6 := f6.owns ho5 (by simp)
      have fk6 := fk5.trans f6 (by simp)
      have q6 := f6.row q5' (by simp)
      have eb : (bstr f.path).data.toList = f.path := rfl
      rw [eb]
      clear ho5 fk5 q5' f6
      cases hb : isNameD f.set f.path with
      | false =>
        rw [hb] at HN
        have fw := f2.trans fk6 (by simp)
        go_wp2_with (with_reducible first | refine stop_load 103 rfl ?_)
        go_ret
        exact ⟨by rw [HN.out]; rfl, fw⟩
      | true =>
        rw [hb] at HN
        clear hb
        go_wp2_with (with_reducible first | refine stop_load 103 rfl ?_)
        refine Stopped.go (wl_want rfl _ _ (ex_load 103 _ rfl b5 0 rfl row_name 2 info_name _ _ q6 (nmcells (nameOf f)) rfl rfl) ?_)
        go_wp2_with fail
        rw [← hnl] at ho6
        refine (contains_any w2.heap.size u3 seen (nameOf f) w6 ho6 (by omega)).mono ?_
        rintro e w7 ⟨rfl, f7⟩
        rw [hnl] at ho6
        have ho7 := f7.owns ho6 (by simp)
        have fk7 := fk6.trans f7 (by simp)
        have q7 := f7.row q6 (by simp)
        clear ho6 fk6 q6 f7
        cases hc : seen.contains (nameOf f) with
        | true =>
          rw [hc] at HN
          have fw := f2.trans fk7 (by simp)
          go_wp2_with fail
          go_ret
          exact ⟨by rw [HN.out]; rfl, fw⟩
        | false =>
          rw [hc] at HN
          clear hc
          go_wp2_with (with_reducible first | refine stop_load 103 rfl ?_ | refine stop_slice1 rfl ?_ | refine stop_append rfl ?_)
          refine Stopped.go (wl_load rfl 103 _ rfl b5 0 rfl row_name 2 info_name _ _ q7 (nmcells (nameOf f)) rfl rfl ?_)
          go_wp2_with (with_reducible first | refine stop_slice1 rfl ?_ | refine stop_append rfl ?_)
          refine Stopped.go (wl_slice1 rfl 268 103 2 24 elem_name _ rfl (by omega) (.agg (nmcells (nameOf f)).toArray) rfl rfl ?_)
          intro w8 b8 l8 f8 r8
          go_wp2_with (with_reducible first | refine stop_slice1 rfl ?_ | refine stop_append rfl ?_)
          have ho8 := f8.owns ho7 (by simp)
          have hbase : w2.heap.size ≤ w8.heap.size := by have := fk7.size; have := f8.size; omega
          refine Stopped.go (wl_append rfl 268 103 2 24 elem_name _ _ rfl w2.heap.size u3 _ _ rfl ho8 b8 1 1 (nmcells (nameOf f)) rfl _ _ r8 rfl rfl (by simp [nmcells, Value.oneCell']) (by omega) (by omega) (by omega) hbase ?_)
          intro g' cap' w9 ho9 f9 _
          have fk9 := (fk7.trans f8 (by simp)).trans f9 (by intro j hj; right; simp at hj; exact (ho8.lt j hj).1)
          clear ho7 ho8 q7 r8 f8 f9 l8 fk7 hbase
          go_wp2_with fail
          go_roundw
          case rel =>
            refine ⟨k + 1, by go_num, by omega, fk9, ?_, by show _ = _; rw [HN.out]; rfl⟩
            rw [HT.out, nvals_append]
            simpa [nvals] using ho9
          case measure => simp [intOf]; omega
    · have fw := f2.trans fk (by simp)
      have HE : Hid (x.namesOk n = true) := by
        have := HS.out
        rw [List.drop_of_length_le (by omega)] at this
        exact this
      go_wp2_with fail
      go_ret
      exact ⟨by rw [HE.out]; rfl, fw⟩

/-- What files.Sound tells. -/
def DS.sound (x : DS) (n : Nat) : Bool := x.rootOk n && (x.recsOk n && x.namesOk n)

end Go.Proofs.YtchcmhodnkgojaaGreat
