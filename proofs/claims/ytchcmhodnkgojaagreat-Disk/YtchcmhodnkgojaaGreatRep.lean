/- The bytes hold the files of these slots: what is read out of them. -/
import Derived.Test.YtchcmhodnkgojaaGreatSec
set_option linter.all false
namespace Go.Proofs.YtchcmhodnkgojaaGreat
open Go.RowKit Go.Lib

theorem sub_len {α : Type} [BEq α] [LawfulBEq α] : ∀ (l r : List α), l.Nodup → (∀ a ∈ l, a ∈ r) → l.length ≤ r.length
  | [], _, _, _ => by simp
  | a :: l, r, hn, hs => by
    rw [List.nodup_cons] at hn
    have ha : a ∈ r := hs a List.mem_cons_self
    have h := sub_len l (r.erase a) hn.2 fun b hb => by
      have hne : b ≠ a := fun e => hn.1 (e ▸ hb)
      exact (List.mem_erase_of_ne hne).2 (hs b (List.mem_cons_of_mem _ hb))
    rw [List.length_erase_of_mem ha] at h
    have := List.length_pos_of_mem ha
    rw [List.length_cons]
    omega

/-- The bytes hold the files of these slots, and no others. -/
structure Rep (L : List UInt8) (n : Nat) (m : Slots) : Prop where
  len : L.length = 64 * n
  lo : 16 ≤ n
  root : secL L 0 = rootM n m
  recs : ∀ i f, m i = some f → secL L (1 + 2 * i) ++ secL L (2 + 2 * i) = encRec f.set f.path f.content
  lt : ∀ i f, m i = some f → i < nslots n
  good : ∀ i f, m i = some f → isNameD f.set f.path = true ∧ f.content.length ≤ 96
  inj : ∀ i j f g, m i = some f → m j = some g → nameOf f = nameOf g → i = j

theorem nslots_le (n : Nat) : nslots n ≤ 54 := Nat.min_le_right _ _
theorem nslots_in (n i : Nat) (h : i < nslots n) : 2 + 2 * i < n := by
  unfold nslots at h
  omega
theorem name_len {s : Nat} {p : List UInt8} (h : isNameD s p = true) : p.length ≤ 8 ∧ s ≤ 3 := by
  unfold isNameD at h
  split at h
  · unfold isPathL at h
    simp only [Bool.and_eq_true, decide_eq_true_eq] at h
    omega
  · split at h
    · have : p = [] := by simpa using h
      subst this
      simp
      omega
    · cases h

def filesM (n : Nat) (m : Slots) : List FileD := (List.range (nslots n)).filterMap m

section
variable {L : List UInt8} {n : Nat} {m : Slots} {x : DS}

theorem Rep.isSome_lt (h : Rep L n m) : ∀ i, (m i).isSome → i < nslots n := fun i hi => by
  obtain ⟨f, hf⟩ := Option.isSome_iff_exists.1 hi
  exact h.lt i f hf
theorem rep_taken (h : Rep x.lasting n m) (hw : x.waiting = []) : taken x n = (List.range (nslots n)).filter fun i => (m i).isSome := by
  unfold taken
  rw [read_zero x hw, h.root, taken_root n m _ (nslots_le n)]
theorem rep_rec (h : Rep x.lasting n m) (hw : x.waiting = []) {i : Nat} {f : FileD} (hf : m i = some f) : recOf x i = encRec f.set f.path f.content := by
  unfold recOf DS.sec
  rw [read_sec x hw, read_sec x hw, h.recs i f hf]
theorem rep_file (h : Rep x.lasting n m) (hw : x.waiting = []) {i : Nat} {f : FileD} (hf : m i = some f) : fileAt x i = f := by
  have hg := h.good i f hf
  have hl := name_len hg.1
  unfold fileAt
  rw [rep_rec h hw hf, enc_set _ _ _ (by omega) hl.1 hg.2, enc_path _ _ _ hl.1 hg.2, enc_content _ _ _ hl.1 hg.2]
theorem map_filter_some (g : Nat → FileD) : ∀ (l : List Nat), (∀ i ∈ l, ∀ f, m i = some f → g i = f) → (l.filter fun i => (m i).isSome).map g = l.filterMap m
  | [], _ => rfl
  | a :: l, h => by
    have ih := map_filter_some g l fun i hi => h i (List.mem_cons_of_mem _ hi)
    cases hm : m a with
    | none => rw [List.filter_cons_of_neg (by simp [hm]), List.filterMap_cons_none hm, ih]
    | some f => rw [List.filter_cons_of_pos (by simp [hm]), List.map_cons, List.filterMap_cons_some hm, ih, h a List.mem_cons_self f hm]
theorem rep_files (h : Rep x.lasting n m) (hw : x.waiting = []) : filesOf x n = filesM n m := by
  unfold filesOf filesM
  rw [rep_taken h hw]
  exact map_filter_some _ _ fun i _ f hf => rep_file h hw hf
theorem rep_named (h : Rep x.lasting n m) (hw : x.waiting = []) {i : Nat} {f : FileD} (hf : m i = some f) (s : Int) (p : ByteArray) : named x s p i = ((f.set : Int) == s && bstr f.path == p) := by
  have := rep_file h hw hf
  unfold fileAt at this
  unfold named
  rw [← this]
theorem slot_is (s : Int) (p : ByteArray) (i : Nat) : ∀ (l : List Nat), i ∈ l → (∀ j ∈ l, named x s p j = decide (j = i)) → slotIn x s p l = i
  | [], h, _ => by simp at h
  | a :: l, h, hn => by
    unfold slotIn
    rw [hn a List.mem_cons_self]
    by_cases ha : a = i
    · simp [ha]
    · rw [decide_eq_false ha]
      rcases List.mem_cons.1 h with e | h'
      · exact absurd e.symm ha
      · simpa using slot_is s p i l h' fun j hj => hn j (List.mem_cons_of_mem _ hj)
theorem slot_not (s : Int) (p : ByteArray) : ∀ (l : List Nat), (∀ j ∈ l, named x s p j = false) → slotIn x s p l = -1
  | [], _ => rfl
  | a :: l, hn => by
    unfold slotIn
    rw [hn a List.mem_cons_self]
    simpa using slot_not s p l fun j hj => hn j (List.mem_cons_of_mem _ hj)
theorem rep_mem (h : Rep x.lasting n m) (hw : x.waiting = []) {i : Nat} : i ∈ taken x n ↔ ∃ f, m i = some f := by
  rw [rep_taken h hw, List.mem_filter, List.mem_range, Option.isSome_iff_exists]
  exact ⟨fun h => h.2, fun ⟨f, hf⟩ => ⟨h.lt i f hf, f, hf⟩⟩
theorem rep_slot (h : Rep x.lasting n m) (hw : x.waiting = []) {i : Nat} {f : FileD} (hf : m i = some f) : slotIn x f.set (bstr f.path) (taken x n) = i := by
  refine slot_is _ _ i _ ((rep_mem h hw).2 ⟨f, hf⟩) fun j hj => ?_
  obtain ⟨g, hg⟩ := (rep_mem h hw).1 hj
  rw [rep_named h hw hg]
  by_cases hji : j = i
  · subst hji
    rw [hf] at hg
    obtain rfl := Option.some.inj hg
    rw [bstr_inj]
    simp
  · rw [decide_eq_false hji, Bool.and_eq_false_iff]
    by_cases h1 : g.set = f.set
    · right
      rw [bstr_inj, beq_eq_false_iff_ne]
      intro e
      exact hji (h.inj j i g f hg hf (by unfold nameOf; rw [h1, e]))
    · left
      rw [beq_eq_false_iff_ne]
      omega
theorem rep_noslot (h : Rep x.lasting n m) (hw : x.waiting = []) (s : Nat) (p : List UInt8) (hn : ∀ i f, m i = some f → nameOf f ≠ (s, p)) : slotIn x s (bstr p) (taken x n) = -1 := by
  refine slot_not _ _ _ fun j hj => ?_
  obtain ⟨g, hg⟩ := (rep_mem h hw).1 hj
  rw [rep_named h hw hg, Bool.and_eq_false_iff]
  by_cases h1 : g.set = s
  · right
    rw [bstr_inj, beq_eq_false_iff_ne]
    intro e
    exact hn j g hg (by unfold nameOf; rw [h1, e])
  · left
    rw [beq_eq_false_iff_ne]
    omega
theorem rep_has (h : Rep x.lasting n m) (hw : x.waiting = []) {i : Nat} {f : FileD} (hf : m i = some f) : x.content n f.set (bstr f.path) = some f.content := by
  have hg := h.good i f hf
  have hl := name_len hg.1
  unfold DS.content
  rw [rep_slot h hw hf]
  show some (recContent (recOf x i)) = _
  rw [rep_rec h hw hf, enc_content _ _ _ hl.1 hg.2]
theorem rep_hasnot (h : Rep x.lasting n m) (hw : x.waiting = []) (s : Nat) (p : List UInt8) (hn : ∀ i f, m i = some f → nameOf f ≠ (s, p)) : x.content n s (bstr p) = none := by
  unfold DS.content
  rw [rep_noslot h hw s p hn]
  rfl

/-- What these slots hold under a name. -/
def holds (m : Slots) (s : Nat) (p : List UInt8) (r : Option (List UInt8)) : Prop :=
  match r with
  | some c => ∃ i, m i = some ⟨s, p, c⟩
  | none => ∀ i f, m i = some f → nameOf f ≠ (s, p)
theorem rep_content (h : Rep x.lasting n m) (hw : x.waiting = []) {s : Nat} {p : List UInt8} {r : Option (List UInt8)} (hr : holds m s p r) : x.content n s (bstr p) = r := by
  cases r with
  | none => exact rep_hasnot h hw s p hr
  | some c =>
    obtain ⟨i, hi⟩ := hr
    exact rep_has h hw hi
theorem holds_any (m : Slots) (s : Nat) (p : List UInt8) : ∃ r, holds m s p r := by
  by_cases h : ∃ i f, m i = some f ∧ nameOf f = (s, p)
  · obtain ⟨i, f, hf, e⟩ := h
    refine ⟨some f.content, i, ?_⟩
    obtain ⟨fs, fp, fc⟩ := f
    simp only [nameOf, Prod.mk.injEq] at e
    rw [hf, e.1, e.2]
  · exact ⟨none, fun i f hf e => h ⟨i, f, hf, e⟩⟩

theorem names_ok : ∀ (fs : List FileD) (seen : List NameD), (∀ f ∈ fs, isNameD f.set f.path = true) → (seen ++ fs.map nameOf).Nodup → namesOk seen fs = true
  | [], _, _, _ => rfl
  | f :: fs, seen, h, hn => by
    unfold namesOk
    rw [h f List.mem_cons_self, Bool.true_and, Bool.and_eq_true]
    constructor
    · rw [Bool.not_eq_true', ← Bool.not_eq_true, List.contains_iff_mem]
      intro hm
      rw [List.nodup_append] at hn
      exact hn.2.2 _ hm _ (by simp) rfl
    · refine names_ok fs _ (fun g hg => h g (List.mem_cons_of_mem _ hg)) ?_
      rw [List.append_assoc]
      exact hn
theorem Rep.mem (h : Rep L n m) {f : FileD} : f ∈ filesM n m ↔ ∃ i, m i = some f := by
  unfold filesM
  rw [List.mem_filterMap]
  exact ⟨fun ⟨i, _, hf⟩ => ⟨i, hf⟩, fun ⟨i, hf⟩ => ⟨i, List.mem_range.2 (h.lt i f hf), hf⟩⟩
theorem Rep.nodup (h : Rep L n m) : ((filesM n m).map nameOf).Nodup := by
  unfold filesM List.Nodup
  rw [List.pairwise_map, List.pairwise_filterMap]
  refine List.Pairwise.imp ?_ List.pairwise_lt_range
  intro i j hij f hf g hg e
  have := h.inj i j f g hf hg e
  omega
theorem rep_sound (h : Rep x.lasting n m) (hw : x.waiting = []) : x.sound n = true := by
  unfold DS.sound
  rw [Bool.and_eq_true, Bool.and_eq_true]
  refine ⟨?_, ?_, ?_⟩
  · unfold DS.rootOk
    rw [rep_taken h hw, root_again n m _ h.isSome_lt, read_zero x hw, h.root]
    simp
  · unfold DS.recsOk
    rw [List.all_eq_true]
    intro i hi
    obtain ⟨f, hf⟩ := (rep_mem h hw).1 hi
    have hg := h.good i f hf
    have hl := name_len hg.1
    unfold recOk
    rw [rep_rec h hw hf, enc_set _ _ _ (by omega) hl.1 hg.2, enc_path _ _ _ hl.1 hg.2, enc_content _ _ _ hl.1 hg.2]
    simp
  · unfold DS.namesOk
    rw [rep_files h hw]
    refine names_ok _ _ (fun f hf => ?_) (by simpa using h.nodup)
    obtain ⟨i, hi⟩ := h.mem.1 hf
    exact (h.good i f hi).1
end

theorem freeFrom_no (root : List UInt8) (M : Nat) : ∀ (f k : Nat), freeFrom root M f k = -1 → ∀ i, k ≤ i → i < M → i < k + f → markAt root i ≠ 0
  | 0, k, _, i, h1, _, h3 => by omega
  | f + 1, k, h, i, h1, h2, h3 => by
    unfold freeFrom at h
    rw [if_pos (by omega)] at h
    split at h
    · omega
    · rename_i hk
      by_cases e : i = k
      · subst e
        intro h0
        exact hk (by simp [h0])
      · exact freeFrom_no root M f (k + 1) h i (by omega) h2 (by omega)
theorem freeFrom_yes (root : List UInt8) (M : Nat) : ∀ (f k : Nat), freeFrom root M f k ≠ -1 → ∃ i : Nat, i < M ∧ freeFrom root M f k = i ∧ markAt root i = 0
  | 0, k, h => absurd rfl h
  | f + 1, k, h => by
    unfold freeFrom at h ⊢
    by_cases h1 : k < M
    · rw [if_pos h1] at h ⊢
      by_cases h2 : (markAt root k == 0) = true
      · rw [if_pos h2]
        exact ⟨k, h1, rfl, by simpa using h2⟩
      · rw [if_neg h2] at h ⊢
        exact freeFrom_yes root M f (k + 1) h
    · rw [if_neg h1] at h
      exact absurd rfl h
theorem rep_free {n : Nat} {m : Slots} {x : DS} (h : Rep x.lasting n m) (hw : x.waiting = []) (hroom : ∃ i, i < nslots n ∧ m i = none) : ∃ i : Nat, i < nslots n ∧ freeIn x n = i ∧ m i = none := by
  have hle := nslots_le n
  unfold freeIn
  rw [read_zero x hw, h.root]
  have hne : freeFrom (rootM n m) (nslots n) (nslots n) 0 ≠ -1 := by
    intro e
    obtain ⟨i, hi, hm⟩ := hroom
    have := freeFrom_no _ _ _ _ e i (by omega) hi (by omega)
    rw [mark_root n m i (by omega), hm] at this
    exact this rfl
  obtain ⟨i, hi, e, hm⟩ := freeFrom_yes _ _ _ _ hne
  refine ⟨i, hi, e, ?_⟩
  rw [mark_root n m i (by omega)] at hm
  cases hq : m i with
  | none => rfl
  | some f => rw [hq] at hm; simp at hm
end Go.Proofs.YtchcmhodnkgojaaGreat
