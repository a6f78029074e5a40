/- What a put or a remove leaves, when the disk falls behind so many acts. -/
import Derived.Test.YtchcmhodnkgojaaGreatSeven9
set_option linter.all false
namespace Go.Proofs.YtchcmhodnkgojaaGreat
open Go.RowKit Go.Lib Go.Sort

theorem keep_all : keepBit (-1) 0 = true ∧ keepBit (-1) 1 = true := by decide
theorem keep_none : keepBit 0 0 = false ∧ keepBit 0 1 = false := by decide

section
variable {L : List UInt8} {n : Nat} {m : Slots}

/-- A sector that no file has is written. -/
theorem Rep.loose (h : Rep L n m) {j : Nat} {b : List UInt8} (hj : j < n) (h0 : j ≠ 0) (hb : b.length = 64) (hf : ∀ i f, m i = some f → j ≠ 1 + 2 * i ∧ j ≠ 2 + 2 * i) : Rep (putSector L ((j : Int), b)) n m where
  len := len_put L n h.len j hj b hb
  lo := h.lo
  root := by rw [secL_put L n h.len j hj b hb, if_neg (by omega), h.root]
  recs i f hm := by
    have h1 := hf i f hm
    rw [secL_put L n h.len j hj b hb, secL_put L n h.len j hj b hb, if_neg (by omega), if_neg (by omega), h.recs i f hm]
  lt := h.lt
  good := h.good
  inj := h.inj
theorem free_loose {i : Nat} (hi : m i = none) {j : Nat} (hj : j = 1 + 2 * i ∨ j = 2 + 2 * i) : ∀ k f, m k = some f → j ≠ 1 + 2 * k ∧ j ≠ 2 + 2 * k := by
  intro k f hk
  have : k ≠ i := fun e => by subst e; rw [hi] at hk; cases hk
  omega

/-- The slots when slot i has taken f, and what lay at o has gone. -/
def dropO (m : Slots) (o : Int) : Slots := if o = -1 then m else upd m o.toNat none
def after (m : Slots) (i : Nat) (f : FileD) (o : Int) : Slots := dropO (upd m i (some f)) o
theorem setMark_root (m : Slots) (o : Int) (ho : -1 ≤ o ∧ o < 54) : setMark (rootM n m) o 0 = rootM n (dropO m o) := by
  unfold setMark dropO
  split
  · rfl
  · exact set_root n m o.toNat (by omega) none
theorem markRoot_put (m : Slots) (i : Nat) (hi : i < 54) (f : FileD) (o : Int) (ho : -1 ≤ o ∧ o < 54) : markRoot (rootM n m) i o = rootM n (after m i f o) := by
  unfold markRoot after
  have : setMark (rootM n m) (i : Int) 1 = rootM n (upd m i (some f)) := by
    unfold setMark
    rw [if_neg (by omega)]
    exact set_root n m i hi (some f)
  rw [this, setMark_root _ o ho]
theorem markRoot_drop (m : Slots) (o : Int) (ho : -1 ≤ o ∧ o < 54) : markRoot (rootM n m) (-1) o = rootM n (dropO m o) := by
  unfold markRoot
  rw [show setMark (rootM n m) (-1) 1 = rootM n m from rfl, setMark_root _ o ho]
theorem dropO_some {m : Slots} {o : Int} {j : Nat} {f : FileD} (h : dropO m o j = some f) : m j = some f ∧ (0 ≤ o → o.toNat ≠ j) := by
  unfold dropO at h
  split at h
  · exact ⟨h, by omega⟩
  · unfold upd at h
    split at h
    · cases h
    · rename_i hne
      exact ⟨h, fun _ e => hne e.symm⟩
theorem dropO_else {m : Slots} {o : Int} {j : Nat} (h : o = -1 ∨ (0 ≤ o ∧ o ≠ j)) : dropO m o j = m j := by
  unfold dropO
  split
  · rfl
  · unfold upd
    rw [if_neg (by omega)]

theorem Rep.rooted (h : Rep L n m) {m' : Slots} (hn : 0 < n) (hr : ∀ i f, m' i = some f → secL L (1 + 2 * i) ++ secL L (2 + 2 * i) = encRec f.set f.path f.content) (hl : ∀ i f, m' i = some f → i < nslots n)
    (hg : ∀ i f, m' i = some f → isNameD f.set f.path = true ∧ f.content.length ≤ 96) (hi : ∀ i j f g, m' i = some f → m' j = some g → nameOf f = nameOf g → i = j) : Rep (putSector L (0, rootM n m')) n m' where
  len := len_put L n h.len 0 hn _ (length_rootM _ _)
  lo := h.lo
  root := by
    have := secL_put L n h.len 0 hn _ (length_rootM n m') 0
    rw [if_pos rfl] at this
    exact this
  recs i f hm := by
    have h1 := secL_put L n h.len 0 hn _ (length_rootM n m') (1 + 2 * i)
    have h2 := secL_put L n h.len 0 hn _ (length_rootM n m') (2 + 2 * i)
    rw [if_neg (by omega)] at h1 h2
    show secL (putSector L (((0 : Nat) : Int), rootM n m')) _ ++ secL (putSector L (((0 : Nat) : Int), rootM n m')) _ = _
    rw [h1, h2]
    exact hr i f hm
  lt := hl
  good := hg
  inj := hi
theorem Rep.dropped (h : Rep L n m) (o : Int) : Rep (putSector L (0, rootM n (dropO m o))) n (dropO m o) :=
  h.rooted (by have := h.lo; omega) (fun i f hm => h.recs i f (dropO_some hm).1) (fun i f hm => h.lt i f (dropO_some hm).1) (fun i f hm => h.good i f (dropO_some hm).1)
    fun i j f g hf hg e => h.inj i j f g (dropO_some hf).1 (dropO_some hg).1 e
theorem after_some {m : Slots} {i : Nat} {f : FileD} {o : Int} {j : Nat} {g : FileD} (h : after m i f o j = some g) : (j = i ∧ g = f) ∨ (j ≠ i ∧ m j = some g ∧ (0 ≤ o → o.toNat ≠ j)) := by
  unfold after at h
  obtain ⟨h1, h2⟩ := dropO_some h
  unfold upd at h1
  split at h1
  · rename_i e
    exact .inl ⟨e, (Option.some.inj h1).symm⟩
  · rename_i e
    exact .inr ⟨e, h1, h2⟩
theorem Rep.put (h : Rep L n m) {i : Nat} {f : FileD} {o : Int} (hi : i < nslots n) (hrec : secL L (1 + 2 * i) ++ secL L (2 + 2 * i) = encRec f.set f.path f.content)
    (hg : isNameD f.set f.path = true ∧ f.content.length ≤ 96) (ho : ∀ j g, m j = some g → nameOf g = nameOf f → o = j) : Rep (putSector L (0, rootM n (after m i f o))) n (after m i f o) := by
  refine h.rooted (by have := h.lo; omega) (fun j g hm => ?_) (fun j g hm => ?_) (fun j g hm => ?_) fun j k g g' hj hk e => ?_
  · rcases after_some hm with ⟨rfl, rfl⟩ | ⟨_, h1, _⟩
    · exact hrec
    · exact h.recs j g h1
  · rcases after_some hm with ⟨rfl, rfl⟩ | ⟨_, h1, _⟩
    · exact hi
    · exact h.lt j g h1
  · rcases after_some hm with ⟨rfl, rfl⟩ | ⟨_, h1, _⟩
    · exact hg
    · exact h.good j g h1
  · rcases after_some hj with ⟨rfl, rfl⟩ | ⟨_, h1, h2⟩
    · rcases after_some hk with ⟨rfl, rfl⟩ | ⟨_, h3, h4⟩
      · rfl
      · have := ho k g' h3 e.symm
        have := h4 (by omega)
        omega
    · rcases after_some hk with ⟨rfl, rfl⟩ | ⟨_, h3, h4⟩
      · have := ho j g h1 e
        have := h2 (by omega)
        omega
      · exact h.inj j k g g' h1 h3 e

theorem Seven.dropped (h : Seven m) (o : Int) : Seven (dropO m o) := fun i f hf => h i f (dropO_some hf).1
theorem Seven.put (h : Seven m) {i : Nat} {f : FileD} {o : Int} (hf : f.set ≤ 2 ∧ f.path ∈ P7) : Seven (after m i f o) := fun j g hg => by
  rcases after_some hg with ⟨rfl, rfl⟩ | ⟨_, h1, _⟩
  · exact hf
  · exact h j g h1
end

/-- The two sectors of a record. -/
def half (r : List UInt8) (k : Nat) : List UInt8 := (r.drop (k * 64)).take 64
theorem half_len (r : List UInt8) (h : r.length = 128) (k : Nat) (hk : k < 2) : (half r k).length = 64 := by
  unfold half
  rw [List.length_take, List.length_drop]
  omega
theorem halves (r : List UInt8) (h : r.length = 128) : half r 0 ++ half r 1 = r := by
  unfold half
  simp only [Nat.zero_mul, List.drop_zero, Nat.one_mul]
  rw [List.take_of_length_le (l := r.drop 64) (by rw [List.length_drop]; omega), List.take_append_drop]

/-- The bytes when the record of slot i has been written. -/
def recd (L : List UInt8) (i : Nat) (r : List UInt8) : List UInt8 := putSector (putSector L ((1 + 2 * i : Nat), half r 0)) ((2 + 2 * i : Nat), half r 1)


section
variable (L : List UInt8) (a k kp : Int) (n s : Nat) (p c : ByteArray) (i : Nat) (o : Int) (root r : List UInt8)
theorem put_free (hr : encRec s p.data.toList c.data.toList = r)
    (hfi : freeIn ⟨L, [], a, false, k, kp, false⟩ n = i) (hsl : slotIn ⟨L, [], a, false, k, kp, false⟩ s p (taken ⟨L, [], a, false, k, kp, false⟩ n) = o) (hroot : seenIn (recd L i r) [] 0 = root) :
    (⟨L, [], a, false, k, kp, false⟩ : DS).put n s p c = (⟨putSector (recd L i r) (0, markRoot root i o), [], a + 5, false, k, kp, false⟩, .int .i64 0) := by
  have e : putSector (putSector L ((1 + 2 * i : Nat), List.take 64 r)) ((2 + 2 * i : Nat), List.take 64 (List.drop 64 r)) = recd L i r := by simp [recd, half]
  unfold DS.put
  rw [hfi, hsl, hr, if_neg (by omega)]
  simp [DS.wrecOk, DS.wrec, DS.wr, DS.write, DS.canAct, DS.acted, DS.flush, DS.mark, DS.markOk, errDown, putAll, DS.read]
  rw [show 1 + 2 * (i : Int) = ((1 + 2 * i : Nat) : Int) by omega, show ((1 + 2 * i : Nat) : Int) + 1 = ((2 + 2 * i : Nat) : Int) by omega, e, hroot]
  simp
  omega
theorem put_room (hr : encRec s p.data.toList c.data.toList = r)
    (hfi : freeIn ⟨L, [], a, true, k, kp, false⟩ n = i) (hsl : slotIn ⟨L, [], a, true, k, kp, false⟩ s p (taken ⟨L, [], a, true, k, kp, false⟩ n) = o) (hroot : seenIn (recd L i r) [] 0 = root) (hk : 5 ≤ k) :
    (⟨L, [], a, true, k, kp, false⟩ : DS).put n s p c = (⟨putSector (recd L i r) (0, markRoot root i o), [], a + 5, true, k - 5, kp, false⟩, .int .i64 0) := by
  have e : putSector (putSector L ((1 + 2 * i : Nat), List.take 64 r)) ((2 + 2 * i : Nat), List.take 64 (List.drop 64 r)) = recd L i r := by simp [recd, half]
  have f0 : (k == 0) = false := by rw [beq_eq_false_iff_ne]; omega
  have f1 : (k - 1 == 0) = false := by rw [beq_eq_false_iff_ne]; omega
  have f2 : (k - 1 - 1 == 0) = false := by rw [beq_eq_false_iff_ne]; omega
  have f3 : (k - 1 - 1 - 1 == 0) = false := by rw [beq_eq_false_iff_ne]; omega
  have f4 : (k - 1 - 1 - 1 - 1 == 0) = false := by rw [beq_eq_false_iff_ne]; omega
  unfold DS.put
  rw [hfi, hsl, hr, if_neg (by omega)]
  simp [DS.wrecOk, DS.wrec, DS.wr, DS.write, DS.canAct, DS.acted, DS.flush, DS.mark, DS.markOk, errDown, putAll, DS.read, f0, f1, f2, f3, f4, -beq_eq_false_iff_ne, -beq_iff_eq]
  rw [show 1 + 2 * (i : Int) = ((1 + 2 * i : Nat) : Int) by omega, show ((1 + 2 * i : Nat) : Int) + 1 = ((2 + 2 * i : Nat) : Int) by omega, e, hroot]
  simp
  omega
/-- What lasts when the disk falls behind j acts of a put. -/
def putFall : Nat → List UInt8
  | 0 => L
  | 1 => keptTo kp L [((1 + 2 * i : Nat), half r 0)] 1
  | 2 => keptTo kp L [((1 + 2 * i : Nat), half r 0), ((2 + 2 * i : Nat), half r 1)] 2
  | 3 => recd L i r
  | _ => keptTo kp (recd L i r) [(0, markRoot root i o)] 1
theorem put_falls (hr : encRec s p.data.toList c.data.toList = r) (j : Nat) (hj : j < 5)
    (hfi : freeIn ⟨L, [], a, true, j, kp, false⟩ n = i) (hsl : slotIn ⟨L, [], a, true, j, kp, false⟩ s p (taken ⟨L, [], a, true, j, kp, false⟩ n) = o) (hroot : seenIn (recd L i r) [] 0 = root) :
    (⟨L, [], a, true, j, kp, false⟩ : DS).put n s p c = (⟨putFall L kp i o root r j, [], a + j, true, 0, kp, true⟩, .int .i64 3) := by
  have e : putSector (putSector L ((1 + 2 * i : Nat), List.take 64 r)) ((2 + 2 * i : Nat), List.take 64 (List.drop 64 r)) = recd L i r := by simp [recd, half]
  have ei : ¬ ((i : Int) = -1) := by omega
  have q1 : 1 + 2 * (i : Int) = ((1 + 2 * i : Nat) : Int) := by omega
  have q2 : ((1 + 2 * i : Nat) : Int) + 1 = ((2 + 2 * i : Nat) : Int) := by omega
  unfold DS.put
  rw [hfi, hsl, hr, if_neg ei]
  rcases (by omega : j = 0 ∨ j = 1 ∨ j = 2 ∨ j = 3 ∨ j = 4) with rfl | rfl | rfl | rfl | rfl
  · simp [DS.wrecOk, DS.wrec, DS.wr, DS.write, DS.canAct, DS.acted, DS.flush, DS.mark, DS.markOk, errDown, putAll, DS.read, DS.stopped, DS.fall, putFall, keptTo]
  · simp [DS.wrecOk, DS.wrec, DS.wr, DS.write, DS.canAct, DS.acted, DS.flush, DS.mark, DS.markOk, errDown, putAll, DS.read, DS.stopped, DS.fall, putFall, half]
  · simp [DS.wrecOk, DS.wrec, DS.wr, DS.write, DS.canAct, DS.acted, DS.flush, DS.mark, DS.markOk, errDown, putAll, DS.read, DS.stopped, DS.fall, putFall, half]
    rw [q1, q2]
    simp; omega
  · simp [DS.wrecOk, DS.wrec, DS.wr, DS.write, DS.canAct, DS.acted, DS.flush, DS.mark, DS.markOk, errDown, putAll, DS.read, DS.stopped, DS.fall, putFall, keptTo]
    rw [q1, q2, e]
    simp; omega
  · simp [DS.wrecOk, DS.wrec, DS.wr, DS.write, DS.canAct, DS.acted, DS.flush, DS.mark, DS.markOk, errDown, putAll, DS.read, DS.stopped, DS.fall, putFall]
    rw [q1, q2, e, hroot]
    simp; omega
theorem remove_none (x : DS) (hsl : slotIn x s p (taken x n) = -1) : x.remove n s p = (x, .int .i64 5) := by
  unfold DS.remove
  rw [if_pos hsl]
theorem remove_free (hsl : slotIn ⟨L, [], a, false, k, kp, false⟩ s p (taken ⟨L, [], a, false, k, kp, false⟩ n) = o) (ho : o ≠ -1) (hroot : seenIn L [] 0 = root) :
    (⟨L, [], a, false, k, kp, false⟩ : DS).remove n s p = (⟨putSector L (0, markRoot root (-1) o), [], a + 2, false, k, kp, false⟩, .int .i64 0) := by
  unfold DS.remove
  rw [hsl, if_neg ho]
  simp [DS.write, DS.canAct, DS.acted, DS.flush, DS.mark, DS.markOk, errDown, putAll, DS.read, hroot]
  omega
theorem remove_room (hsl : slotIn ⟨L, [], a, true, k, kp, false⟩ s p (taken ⟨L, [], a, true, k, kp, false⟩ n) = o) (ho : o ≠ -1) (hroot : seenIn L [] 0 = root) (hk : 2 ≤ k) :
    (⟨L, [], a, true, k, kp, false⟩ : DS).remove n s p = (⟨putSector L (0, markRoot root (-1) o), [], a + 2, true, k - 2, kp, false⟩, .int .i64 0) := by
  have f0 : (k == 0) = false := by rw [beq_eq_false_iff_ne]; omega
  have f1 : (k - 1 == 0) = false := by rw [beq_eq_false_iff_ne]; omega
  unfold DS.remove
  rw [hsl, if_neg ho]
  simp [DS.write, DS.canAct, DS.acted, DS.flush, DS.mark, DS.markOk, errDown, putAll, DS.read, hroot, f0, f1, -beq_eq_false_iff_ne, -beq_iff_eq]
  omega
def removeFall : Nat → List UInt8
  | 0 => L
  | _ => keptTo kp L [(0, markRoot root (-1) o)] 1
theorem remove_falls (j : Nat) (hj : j < 2) (hsl : slotIn ⟨L, [], a, true, j, kp, false⟩ s p (taken ⟨L, [], a, true, j, kp, false⟩ n) = o) (ho : o ≠ -1) (hroot : seenIn L [] 0 = root) :
    (⟨L, [], a, true, j, kp, false⟩ : DS).remove n s p = (⟨removeFall L kp o root j, [], a + j, true, 0, kp, true⟩, .int .i64 3) := by
  unfold DS.remove
  rw [hsl, if_neg ho]
  rcases (by omega : j = 0 ∨ j = 1) with rfl | rfl
  · simp [DS.write, DS.canAct, DS.acted, DS.flush, DS.mark, DS.markOk, errDown, putAll, DS.read, DS.stopped, DS.fall, removeFall, keptTo]
  · simp [DS.write, DS.canAct, DS.acted, DS.flush, DS.mark, DS.markOk, errDown, putAll, DS.read, DS.stopped, DS.fall, removeFall, hroot]
end
end Go.Proofs.YtchcmhodnkgojaaGreat
