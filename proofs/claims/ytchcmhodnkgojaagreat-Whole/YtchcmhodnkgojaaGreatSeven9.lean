/- Files at seven paths: how many there are. -/
import Derived.Test.YtchcmhodnkgojaaGreatRep
set_option linter.all false
namespace Go.Proofs.YtchcmhodnkgojaaGreat
open Go.RowKit Go.Lib Go.Sort

def pathL (k : Nat) : List UInt8 := (pathD k).data.toList
def P7 : List (List UInt8) := (List.range 7).map pathL
theorem mem_P7 {p : List UInt8} : p ∈ P7 ↔ ∃ k, k < 7 ∧ p = pathL k := by
  unfold P7
  rw [List.mem_map]
  exact ⟨fun ⟨k, hk, e⟩ => ⟨k, List.mem_range.1 hk, e.symm⟩, fun ⟨k, hk, e⟩ => ⟨k, List.mem_range.2 hk, e.symm⟩⟩
theorem bstr_pathL (k : Nat) : bstr (pathL k) = pathD k := rfl
theorem pathL_inj : ∀ a, a < 7 → ∀ b, b < 7 → pathL a = pathL b → a = b := by decide

theorem sorted_le {ps : List (List UInt8)} : (ps.mergeSort fun x y => decide (x ≤ y)).Pairwise fun x y => x ≤ y := by
  have h := List.pairwise_mergeSort (le := fun x y : List UInt8 => decide (x ≤ y)) (fun a b c h1 h2 => by simp only [decide_eq_true_eq] at *; exact List.le_trans h1 h2)
    (fun a b => by simp only [Bool.or_eq_true, decide_eq_true_eq]; exact List.le_total a b) ps
  exact h.imp fun h => by simpa using h
theorem compact_mem {qs : List (List UInt8)} {a : List UInt8} (h : a ∈ compact qs) : a ∈ qs := by
  unfold compact compactUpTo at h
  obtain ⟨i, hi, e⟩ := List.mem_map.1 h
  have hi' := List.mem_range.1 (List.mem_filter.1 hi).1
  rw [getElem!_pos qs.toArray i (by simpa using hi')] at e
  rw [← e]
  simp
theorem compact_nodup {qs : List (List UInt8)} (hs : qs.Pairwise fun x y => x ≤ y) : (compact qs).Nodup := by
  unfold compact compactUpTo List.Nodup
  rw [List.pairwise_map]
  refine (List.pairwise_lt_range.filter _).imp_of_mem ?_
  intro i j hi hj hij e
  have hi' := List.mem_range.1 (List.mem_filter.1 hi).1
  have hj' := List.mem_range.1 (List.mem_filter.1 hj).1
  have hk := (List.mem_filter.1 hj).2
  unfold keeps at hk
  rw [decide_eq_true_eq] at hk
  rcases hk with hk | hk
  · omega
  rw [getElem!_pos qs.toArray i (by simpa using hi'), getElem!_pos qs.toArray j (by simpa using hj')] at e
  rw [getElem!_pos qs.toArray (j - 1) (by simp; omega), getElem!_pos qs.toArray j (by simpa using hj')] at hk
  simp only [List.getElem_toArray] at e hk
  rw [List.pairwise_iff_getElem] at hs
  have h1 : qs[i] ≤ qs[j - 1] := by
    by_cases hc : i = j - 1
    · subst hc; exact List.le_refl _
    · exact hs i (j - 1) hi' (by omega) (by omega)
  have h2 : qs[j - 1] ≤ qs[j] := hs (j - 1) j (by omega) hj' (by omega)
  exact hk (List.le_antisymm (e ▸ h1) h2)
theorem count_le7 (fs : List FileD) (h : ∀ f ∈ fs, f.set ≠ 3 → f.path ∈ P7) : countD fs ≤ 7 := by
  unfold countD
  refine Nat.le_trans (sub_len _ P7 (compact_nodup sorted_le) fun a ha => ?_) (Nat.le_of_eq (by rfl))
  have h1 := compact_mem ha
  rw [List.mem_mergeSort] at h1
  unfold pathsOf at h1
  obtain ⟨f, hf, e⟩ := List.mem_map.1 h1
  rw [List.mem_filter] at hf
  rw [← e]
  exact h f hf.1 (by simpa using hf.2)

/-- All files lie on sides, or in the agreed set, at the seven paths. -/
def Seven (m : Slots) : Prop := ∀ i f, m i = some f → f.set ≤ 2 ∧ f.path ∈ P7
section
variable {L : List UInt8} {n : Nat} {m : Slots} {x : DS}
theorem Seven.files (h7 : Seven m) (h : Rep L n m) : ∀ f ∈ filesM n m, f.set ≤ 2 ∧ f.path ∈ P7 := fun f hf => by
  obtain ⟨i, hi⟩ := h.mem.1 hf
  exact h7 i f hi
theorem rep_pending (h : Rep x.lasting n m) (hw : x.waiting = []) (h7 : Seven m) : x.pending n = false := by
  have := rep_hasnot h hw 3 [] fun i f hf e => by
    have := h7 i f hf
    unfold nameOf at e
    simp only [Prod.mk.injEq] at e
    omega
  unfold DS.pending
  rw [show (⟨#[]⟩ : ByteArray) = bstr [] from rfl]
  rw [show ((3 : Int)) = ((3 : Nat) : Int) from rfl, this]
  rfl
theorem rep_storeOk (h : Rep x.lasting n m) (hw : x.waiting = []) (h7 : Seven m) : x.storeOk n = true := by
  unfold DS.storeOk
  rw [rep_sound h hw, rep_files h hw, Bool.true_and, decide_eq_true_eq]
  exact count_le7 _ fun f hf _ => (h7.files h f hf).2
theorem room (h : Rep L n m) (h7 : Seven m) (hn : 21 < nslots n) : ∃ i, i < nslots n ∧ m i = none := by
  by_cases hx : ∃ i, i < nslots n ∧ m i = none
  · exact hx
  · exfalso
    have h1 : (filesM n m).length = nslots n := by
      have h2 : ∀ l : List Nat, (∀ i ∈ l, i < nslots n) → (l.filterMap m).length = l.length := by
        intro l
        induction l with
        | nil => intro _; rfl
        | cons a l ih =>
          intro hl
          have ha := hl a List.mem_cons_self
          cases hm : m a with
          | none => exact absurd ⟨a, ha, hm⟩ hx
          | some f => rw [List.filterMap_cons_some hm, List.length_cons, List.length_cons, ih fun i hi => hl i (List.mem_cons_of_mem _ hi)]
      unfold filesM
      rw [h2 _ fun i hi => List.mem_range.1 hi, List.length_range]
    have h3 := sub_len ((filesM n m).map nameOf) ((List.range 3).flatMap fun s => P7.map fun p => (s, p)) h.nodup fun a ha => by
      obtain ⟨f, hf, e⟩ := List.mem_map.1 ha
      have := h7.files h f hf
      rw [← e, List.mem_flatMap]
      exact ⟨f.set, List.mem_range.2 (by omega), List.mem_map.2 ⟨f.path, this.2, rfl⟩⟩
    rw [List.length_map, h1] at h3
    have : ((List.range 3).flatMap fun s => P7.map fun p => (s, p)).length = 21 := by rfl
    omega

/-- How many files a set has at the seven paths. -/
theorem side_count (h : Rep x.lasting n m) (hw : x.waiting = []) (h7 : Seven m) (s : Nat) :
    (sideOf (filesOf x n) s).length = ((List.range 7).filter fun k => (x.content n s (pathD k)).isSome).length := by
  rw [rep_files h hw]
  have hmem : ∀ p, p ∈ sideOf (filesM n m) s ↔ ∃ i f, m i = some f ∧ nameOf f = (s, p) := by
    intro p
    unfold sideOf
    rw [List.mem_map]
    constructor
    · rintro ⟨f, hf, e⟩
      rw [List.mem_filter] at hf
      obtain ⟨i, hi⟩ := h.mem.1 hf.1
      exact ⟨i, f, hi, by unfold nameOf; rw [← e]; have := hf.2; simp at this; rw [this]⟩
    · rintro ⟨i, f, hf, e⟩
      unfold nameOf at e
      simp only [Prod.mk.injEq] at e
      exact ⟨f, List.mem_filter.2 ⟨h.mem.2 ⟨i, hf⟩, by simp [e.1]⟩, e.2⟩
  have hnd : (sideOf (filesM n m) s).Nodup := by
    have h1 := h.nodup
    unfold List.Nodup at h1 ⊢
    unfold sideOf
    rw [List.pairwise_map] at h1 ⊢
    refine (h1.filter _).imp_of_mem ?_
    intro a b ha hb hab e
    have e1 := (List.mem_filter.1 ha).2
    have e2 := (List.mem_filter.1 hb).2
    simp at e1 e2
    exact hab (by unfold nameOf; rw [e, e1, e2])
  have hc : ∀ k, (x.content n s (pathD k)).isSome = true ↔ pathL k ∈ sideOf (filesM n m) s := by
    intro k
    rw [hmem]
    obtain ⟨r, hr⟩ := holds_any m s (pathL k)
    rw [← bstr_pathL, rep_content h hw hr]
    cases r with
    | none =>
      simp only [Option.isSome_none, Bool.false_eq_true, false_iff]
      rintro ⟨i, f, hf, e⟩
      exact hr i f hf e
    | some c =>
      obtain ⟨i, hi⟩ := hr
      simp only [Option.isSome_some, true_iff]
      exact ⟨i, _, hi, rfl⟩
  have hnd2 : (((List.range 7).filter fun k => (x.content n s (pathD k)).isSome).map pathL).Nodup := by
    unfold List.Nodup
    rw [List.pairwise_map]
    refine (List.pairwise_lt_range.filter _).imp_of_mem ?_
    intro a b ha hb hab e
    have e1 := List.mem_range.1 (List.mem_filter.1 ha).1
    have e2 := List.mem_range.1 (List.mem_filter.1 hb).1
    have := pathL_inj a e1 b e2 e
    omega
  rw [show ((List.range 7).filter fun k => (x.content n s (pathD k)).isSome).length = (((List.range 7).filter fun k => (x.content n s (pathD k)).isSome).map pathL).length from (List.length_map _).symm]
  apply Nat.le_antisymm
  · refine sub_len _ _ hnd fun p hp => ?_
    obtain ⟨i, f, hf, e⟩ := (hmem p).1 hp
    unfold nameOf at e
    simp only [Prod.mk.injEq] at e
    obtain ⟨k, hk, e2⟩ := mem_P7.1 (h7 i f hf).2
    have e3 : pathL k = p := by rw [← e2, e.2]
    exact List.mem_map.2 ⟨k, List.mem_filter.2 ⟨List.mem_range.2 hk, (hc k).2 (e3 ▸ hp)⟩, e3⟩
  · refine sub_len _ _ hnd2 fun p hp => ?_
    obtain ⟨k, hk, e⟩ := List.mem_map.1 hp
    rw [← e]
    exact (hc k).1 (List.mem_filter.1 hk).2
end
end Go.Proofs.YtchcmhodnkgojaaGreat
