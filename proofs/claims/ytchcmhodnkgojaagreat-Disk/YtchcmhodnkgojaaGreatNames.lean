/- slices.Index and slices.Contains at names. -/
import Derived.Test.YtchcmhodnkgojaaGreatIsPath
set_option linter.all false
namespace Go.Proofs.YtchcmhodnkgojaaGreat
open Go.RowKit Go.Lib

abbrev NameD := Nat × List UInt8
def nmcells (t : NameD) : List Value := [.int .i64 t.1, .string (bstr t.2)]
def nvals (l : List NameD) : List Value := l.flatMap nmcells
theorem length_nvals (l : List NameD) : (nvals l).length = l.length * 2 := by
  induction l with
  | nil => rfl
  | cons f r ih => simp only [nvals, List.flatMap_cons, List.length_append, List.length_cons, nmcells] at ih ⊢; rw [ih]; simp; omega
theorem nvals_append (a b : List NameD) : nvals (a ++ b) = nvals a ++ nvals b := by simp [nvals]
theorem nvals_at (l : List NameD) (k : Nat) (hk : k < l.length) : ((nvals l).drop (k * 2)).take 2 = nmcells l[k] := by
  have h : ∀ (l : List NameD) (k : Nat), (nvals l).drop (k * 2) = nvals (l.drop k) := by
    intro l
    induction l with
    | nil => intro k; simp [nvals]
    | cons f r ih =>
      intro k
      cases k with
      | zero => simp
      | succ k =>
        have := ih k
        simp only [nvals, List.flatMap_cons, List.drop_succ_cons] at this ⊢
        rw [List.drop_append, List.drop_of_length_le (by simp [nmcells]; omega), List.nil_append, ← this]
        congr 1
        simp [nmcells]; omega
  rw [h, List.drop_eq_getElem_cons hk]
  show List.take 2 (nmcells l[k] ++ nvals (l.drop (k + 1))) = _
  rfl
theorem bstr_inj (a b : List UInt8) : (bstr a == bstr b) = (a == b) := by
  have e : (bstr a == bstr b) = ((bstr a).toList == (bstr b).toList) := beq_toListBytes _ _
  rw [e, ByteArray.toList_eq, ByteArray.toList_eq]
  rfl

set_option maxRecDepth 100000 in
set_option maxHeartbeats 1000000 in
theorem index_any (base : Nat) (v : Value) (l : List NameD) (t : NameD) (w : World) (hv : w.ownsRow base 103 2 v l.length (nvals l)) (hl : l.length ≤ 1000) :
    Calls Tryz.prog 209 #[v, .agg (ncells t.1 (bstr t.2))] w fun e w' => (∃ r : Int, e = .returned (.int .i64 r) ∧ decide (0 ≤ r) = l.contains t) ∧ Frm [] w w' := by
  obtain ⟨ad, cap, hv'⟩ := own_slice hv
  subst hv'
  go_enter Tryz.func209, Tryz.ntmps209
  go_wp2_with (with_reducible first | refine stop_box rfl ?_)
  refine Stopped.go (wl_box rfl 103 _ rfl (.agg (ncells t.1 (bstr t.2))) rfl ?_)
  intro w1 b3 l3 f1 r3
  have hv1 := f1.owns hv (by simp)
  have HO : Hid (l.contains t = (l.drop 0).contains t) := rfl
  go_wp2_with fail
  clear hv
  go_loopw [8] (fun c wr => ∃ k : Nat, c = .int .i64 k ∧ k ≤ l.length ∧ Frm [] w1 wr ∧ Hid (l.contains t = (l.drop k).contains t)) (fun c _ => l.length - (intOf c).toNat)
  case atStart => exact ⟨0, rfl, by omega, Frm.refl _ _, HO⟩
  case round =>
    obtain ⟨k, rfl, hk, fk, HS⟩ := hrel
    clear HO
    have hvk := fk.owns hv1 (by simp)
    have q3 := fk.row r3 (by simp)
    by_cases hlt : k < l.length
    · obtain ⟨g, cur, rfl, hg, hle, _, hcs, htk⟩ := own_some hvk (by omega)
      have hat : ((cur.toList.drop (k * 2)).take 2) = nmcells l[k] := by
        rw [drop_take_of_take htk _ _ (by omega), nvals_at l k hlt]
      have HN : Hid (l.contains t = (t == l[k] || (l.drop (k + 1)).contains t)) := by
        have := HS.out
        rw [List.drop_eq_getElem_cons hlt, List.contains_cons] at this
        exact this
      generalize l[k] = u at hat HN
      clear hcs htk
      go_wp2_with fail
      refine calm_begin (by kernel_rfl) (by kernel_rfl) ?_
      try simp only [Act.put, List.setIfInBounds_toArray, List.set_cons_succ, List.set_cons_zero]
      refine calm_val rfl (some 11) rfl (.agg (nmcells t).toArray) (fun w' hw' => ex_load 103 _ rfl b3 0 rfl row_name 2 info_name _ _ (hw'.row q3 (by simp)) (nmcells t) rfl rfl) ?_
      simp only [Act.put, List.setIfInBounds_toArray, List.set_cons_succ, List.set_cons_zero]
      refine calm_val rfl (some 12) rfl (.slice (some ⟨g, 0, none⟩) l.length cap) (fun _ _ => rfl) ?_
      refine calm_val rfl (some 13) rfl (.int .i64 k) (fun _ _ => rfl) ?_
      simp only [Act.put, List.setIfInBounds_toArray, List.set_cons_succ, List.set_cons_zero]
      refine calm_val rfl (some 14) rfl (.pointer (some ⟨g, k * 2, none⟩)) (fun _ _ => by go_simp) ?_
      simp only [Act.put, List.setIfInBounds_toArray, List.set_cons_succ, List.set_cons_zero]
      refine calm_val rfl (some 15) rfl (.agg (nmcells u).toArray) (fun w' hw' => ex_load 103 _ rfl g (k * 2) rfl row_name 2 info_name _ _ (hw'.row hg (by simp)) (nmcells u) hat rfl) ?_
      simp only [Act.put, List.setIfInBounds_toArray, List.set_cons_succ, List.set_cons_zero]
      refine calm_val rfl (some 16) rfl (.bool (t == u)) (fun w' _ => ?_) ?_
      · have e : (t == u) = (((t.1 : Nat) : Int) == ((u.1 : Nat) : Int) && bstr t.2 == bstr u.2) := by
          rw [bstr_inj]
          obtain ⟨t1, t2⟩ := t
          obtain ⟨u1, u2⟩ := u
          rw [Bool.eq_iff_iff]
          simp
          intro _
          exact Int.ofNat_inj.symm
        rw [e]
        exact ex_bin _ _ _ _ _ rfl _ _ rfl rfl _ (guard_name _ _ _ _ _ _) (eql_name _ _ _ _ _)
      simp only [Act.put, List.setIfInBounds_toArray, List.set_cons_succ, List.set_cons_zero]
      intro w5 f5
      have fk5 := fk.trans f5 (by simp)
      have fw5 := f1.trans fk5 (by simp)
      clear hat
      cases hok : (t == u) with
      | true =>
        rw [hok] at HN
        go_wp2_with fail
        go_ret
        exact ⟨⟨_, rfl, by rw [HN.out]; simp⟩, fw5⟩
      | false =>
        rw [hok] at HN
        clear hok hv1 hvk hg q3 r3
        go_wp2_with fail
        go_roundw
        case rel => exact ⟨k + 1, by go_num, by omega, fk5, by show _ = _; rw [HN.out]; rfl⟩
        case measure => simp [intOf]; omega
    · have fw := f1.trans fk (by simp)
      have HE : Hid (l.contains t = false) := by
        have := HS.out
        rw [List.drop_of_length_le (by omega)] at this
        exact this
      go_wp2_with fail
      go_ret
      exact ⟨⟨_, rfl, by rw [HE.out]; rfl⟩, fw⟩

set_option maxRecDepth 100000 in
set_option maxHeartbeats 1000000 in
theorem contains_any (base : Nat) (v : Value) (l : List NameD) (t : NameD) (w : World) (hv : w.ownsRow base 103 2 v l.length (nvals l)) (hl : l.length ≤ 1000) :
    Calls Tryz.prog 186 #[v, .agg (ncells t.1 (bstr t.2))] w fun e w' => e = .returned (.bool (l.contains t)) ∧ Frm [] w w' := by
  go_enter Tryz.func186, Tryz.ntmps186
  go_wp2_with (with_reducible first | refine stop_box rfl ?_ | refine stop_load 103 rfl ?_)
  refine Stopped.go (wl_box rfl 103 _ rfl (.agg (ncells t.1 (bstr t.2))) rfl ?_)
  intro w1 b3 l3 f1 r3
  have hv1 := f1.owns hv (by simp)
  go_wp2_with (with_reducible first | refine stop_box rfl ?_ | refine stop_load 103 rfl ?_)
  refine Stopped.go (wl_load rfl 103 _ rfl b3 0 rfl row_name 2 info_name _ _ r3 (nmcells t) rfl rfl ?_)
  go_wp2_with fail
  refine (index_any base v l t w1 hv1 hl).mono ?_
  rintro e w2 ⟨⟨r, rfl, hr⟩, f2⟩
  have fw := f1.trans f2 (by simp)
  have HR : Hid (decide (0 ≤ r) = l.contains t) := hr
  clear hr
  go_wp2_with fail
  go_ret
  refine ⟨?_, fw⟩
  rw [← HR.out]
  rfl

end Go.Proofs.YtchcmhodnkgojaaGreat
