/- What becomes of an act that is no Sync: all that is wanted of it. -/
import Derived.Test.YtchcmhodnkgojaaGreatFalls
import Derived.Test.YtchcmhodnkgojaaGreatAct2
set_option linter.all false
namespace Go.Proofs.YtchcmhodnkgojaaGreat
open Go.RowKit Go.Lib Go.Sort

/-- In how many sectors two disks differ. -/
def diffN (a b : List UInt8) (n : Nat) : Nat := ((List.range n).filter fun j => secL a j != secL b j).length
theorem diff_le (a b : List UInt8) (n : Nat) (S : List Nat) (h : ∀ j, j < n → j ∉ S → secL a j = secL b j) : diffN a b n ≤ S.length := by
  unfold diffN
  refine sub_len _ _ (List.nodup_range.filter _) fun j hj => ?_
  rw [List.mem_filter, List.mem_range] at hj
  by_cases hS : j ∈ S
  · exact hS
  · have := h j hj.1 hS
    simp [this] at hj
theorem diff_self (a : List UInt8) (n : Nat) : diffN a a n = 0 := by
  have := diff_le a a n [] fun _ _ _ => rfl
  simpa using this

structure Fate (L : List UInt8) (n : Nat) (m : Slots) (k sd pt : Int) (ct : ByteArray) (N : Nat) (e0 : Int) (m' : Slots) (L' : List UInt8) (g : Nat → Int → List UInt8) (l : Nat → List UInt8) : Prop where
  few : N ≤ 5
  ans : e0 = 0 ∨ (e0 = 5 ∧ N = 0)
  rep : Rep L' n m'
  seven : Seven m'
  free : ∀ a lf kp, (⟨L, [], a, false, lf, kp, false⟩ : DS).act n k sd pt ct = (⟨L', [], a + N, false, lf, kp, false⟩, .int .i64 e0)
  room : ∀ a kp (lf : Int), N ≤ lf → (⟨L, [], a, true, lf, kp, false⟩ : DS).act n k sd pt ct = (⟨L', [], a + N, true, lf - N, kp, false⟩, .int .i64 e0)
  falls : ∀ a kp (j : Nat), j < N → (⟨L, [], a, true, j, kp, false⟩ : DS).act n k sd pt ct = (⟨g j kp, [], a + j, true, 0, kp, true⟩, .int .i64 3)
  mid : ∀ j kp, j < N → Rep (g j kp) n m ∨ Rep (g j kp) n m'
  put : pickD k 4 ≠ 2 → e0 = 0 ∧ ∃ i, m' i = some ⟨pickD sd 2, pathL (pickD pt 7), (contentD ct).data.toList⟩
  lo : ∀ j, j < N → l j = g j (-1)
  hi : l N = L'
  d0 : l 0 = L
  d1 : ∀ j, j < N → diffN (l j) (l (j + 1)) n ≤ 1
  d2 : ∀ j, j < N → g j 0 = l 0 ∨ ∃ i, 1 ≤ i ∧ i ≤ j ∧ l i = g j 0 ∧ l i = l (i - 1)
  d3 : N = 0 ∨ l N = l (N - 1)
  d4 : ∀ j kp, j < N → ∀ s, s < n → ∃ i, i ≤ j ∧ secL (l i) s = secL (g j kp) s
  d5 : diffN L L' n ≤ N - 1

theorem kept_one (kp : Int) (L : List UInt8) (p : Int × List UInt8) : keptTo kp L [p] 1 = if keepBit kp 0 then putSector L p else L := by
  simp [keptTo]
theorem kept_two (kp : Int) (L : List UInt8) (p q : Int × List UInt8) : keptTo kp L [p, q] 2 = if keepBit kp 1 then putSector (if keepBit kp 0 then putSector L p else L) q else if keepBit kp 0 then putSector L p else L := by
  simp [keptTo]
theorem contentD_le (c : ByteArray) : (contentD c).data.toList.length ≤ 96 := by
  unfold contentD
  split
  · have : (c.extract 0 96).size ≤ 96 := by rw [ByteArray.size_extract]; omega
    simpa using this
  · have : c.size ≤ 96 := by omega
    simpa using this
theorem pathL_name (k : Nat) (hk : k < 7) (s : Nat) (hs : s ≤ 2) : isNameD s (pathL k) = true := by
  unfold isNameD
  rw [if_pos (by omega)]
  exact (pathD_ok k hk).1
theorem pathL_mem (k : Nat) (hk : k < 7) : pathL k ∈ P7 := mem_P7.2 ⟨k, hk, rfl⟩
theorem free_sec (x : DS) (n : Nat) (h : x.waiting = []) : freeIn x n = freeFrom (secL x.lasting 0) (nslots n) (nslots n) 0 := by
  unfold freeIn
  rw [read_zero x h]

section
variable {L : List UInt8} {n : Nat} {m : Slots}
/-- The slot that holds a name, or -1. -/
theorem owner (h : Rep L n m) (s : Nat) (p : List UInt8) : ∃ o : Int, (∀ x : DS, x.lasting = L → x.waiting = [] → slotIn x s (bstr p) (taken x n) = o) ∧ -1 ≤ o ∧ o < 54 ∧ (∀ j g, m j = some g → nameOf g = (s, p) → o = j) ∧ (o ≠ -1 → ∃ g, m o.toNat = some g ∧ nameOf g = (s, p)) := by
  by_cases hx : ∃ j g, m j = some g ∧ nameOf g = (s, p)
  · obtain ⟨j, g, hg, e⟩ := hx
    have hlt := h.lt j g hg
    have := nslots_le n
    have e' := e
    unfold nameOf at e'
    simp only [Prod.mk.injEq] at e'
    refine ⟨j, fun x hl hw => ?_, by omega, by omega, fun k g' hk ek => ?_, fun _ => ⟨g, by simpa using hg, e⟩⟩
    · subst hl
      have := rep_slot h hw hg
      rw [e'.1, e'.2] at this
      exact this
    · rw [h.inj k j g' g hk hg (ek.trans e.symm)]
  · refine ⟨-1, fun x hl hw => ?_, by omega, by omega, fun j g hg e => absurd ⟨j, g, hg, e⟩ hx, fun h => absurd rfl h⟩
    subst hl
    exact rep_noslot h hw s p fun j g hg e => hx ⟨j, g, hg, e⟩

theorem fate_put (h : Rep L n m) (h7 : Seven m) (hn : 21 < nslots n) (k sd pt : Int) (ct : ByteArray) (hk : pickD k 4 ≠ 2) : ∃ N e0 m' L' g l, Fate L n m k sd pt ct N e0 m' L' g l := by
  have hs := pickD_lt sd 2 (by omega)
  have hp := pickD_lt pt 7 (by omega)
  have hcl := contentD_le ct
  have hln := nslots_le n
  obtain ⟨i, hi, hfi, hmi⟩ := rep_free (x := DS.fresh L) h rfl (room h h7 hn)
  have hn2 := nslots_in n i hi
  obtain ⟨o, ho, ho0, ho1, hom, hox⟩ := owner h (pickD sd 2) (pathL (pickD pt 7))
  have hoi : o ≠ i := by
    intro e
    obtain ⟨g, hg, _⟩ := hox (by omega)
    rw [e] at hg
    simp only [Int.toNat_natCast] at hg
    rw [hmi] at hg
    cases hg
  generalize hcc : (contentD ct).data.toList = cc at hcl
  let f : FileD := ⟨pickD sd 2, pathL (pickD pt 7), cc⟩
  have hfg : isNameD f.set f.path = true ∧ f.content.length ≤ 96 := ⟨pathL_name _ hp _ (by show pickD sd 2 ≤ 2; omega), hcl⟩
  have hpl : f.path.length ≤ 8 := (name_len hfg.1).1
  generalize hr : encRec f.set f.path f.content = r
  have hrl : r.length = 128 := by rw [← hr]; exact len_enc _ _ _ hpl hcl
  have h0 := half_len r hrl 0 (by omega)
  have h1 := half_len r hrl 1 (by omega)
  -- the bytes on the way
  generalize hA : putSector L ((1 + 2 * i : Nat), half r 0) = A
  have rA : Rep A n m := by rw [← hA]; exact h.loose (by omega) (by omega) h0 (free_loose hmi (.inl rfl))
  generalize hB : putSector A ((2 + 2 * i : Nat), half r 1) = B
  have rB : Rep B n m := by rw [← hB]; exact rA.loose (by omega) (by omega) h1 (free_loose hmi (.inr rfl))
  have rA2 : Rep (putSector L ((2 + 2 * i : Nat), half r 1)) n m := h.loose (by omega) (by omega) h1 (free_loose hmi (.inr rfl))
  have hrecd : recd L i r = B := by unfold recd; rw [hA, hB]
  have hroot : seenIn (recd L i r) [] 0 = rootM n m := by rw [hrecd, ← rB.root]; rfl
  have hnew : markRoot (rootM n m) i o = rootM n (after m i f o) := markRoot_put m i (by omega) f o ⟨ho0, ho1⟩
  have sA : ∀ j, secL A j = if j = 1 + 2 * i then half r 0 else secL L j := fun j => by rw [← hA]; exact secL_put L n h.len _ (by omega) _ h0 j
  have sB : ∀ j, secL B j = if j = 2 + 2 * i then half r 1 else secL A j := fun j => by rw [← hB]; exact secL_put A n rA.len _ (by omega) _ h1 j
  have s2 : ∀ j, secL (putSector L ((2 + 2 * i : Nat), half r 1)) j = if j = 2 + 2 * i then half r 1 else secL L j := fun j => secL_put L n h.len _ (by omega) _ h1 j
  have hrecB : secL B (1 + 2 * i) ++ secL B (2 + 2 * i) = encRec f.set f.path f.content := by
    rw [sB, sB, if_neg (by omega), if_pos rfl, sA, if_pos rfl, halves r hrl, hr]
  generalize hC : putSector B (0, rootM n (after m i f o)) = C
  have rC : Rep C n (after m i f o) := by rw [← hC]; exact rB.put hi hrecB hfg fun j g hg e => hom j g hg e
  have sC : ∀ j, j ≠ 0 → secL C j = secL B j := fun j hj => by
    rw [← hC]
    have := secL_put B n rB.len 0 (by omega) _ (length_rootM n (after m i f o)) j
    rw [if_neg hj] at this
    exact this
  have hfin : putSector (recd L i r) (0, markRoot (rootM n m) i o) = C := by rw [hrecd, hnew, hC]
  -- the call
  have hstart : ∀ x : DS, x.lasting = L → x.waiting = [] → x.failed = false → x.act n k sd pt ct = x.put n (pickD sd 2) (bstr (pathL (pickD pt 7))) (contentD ct) := by
    intro x hl hw hf
    subst hl
    unfold DS.act
    rw [if_neg hk]
    unfold DS.sput
    rw [hf, rep_pending h hw h7]
    simp only [Bool.false_eq_true, if_false]
    rw [if_neg]
    · rfl
    · refine Nat.not_lt.2 (count_le7 _ fun f hf _ => ?_)
      rcases List.mem_append.1 hf with hf | hf
      · rw [rep_files h hw] at hf
        exact (h7.files h f hf).2
      · obtain rfl := List.mem_singleton.1 hf
        exact pathL_mem _ hp
  have henc : encRec (pickD sd 2) (bstr (pathL (pickD pt 7))).data.toList (contentD ct).data.toList = r := by rw [hcc]; exact hr
  have hfx : ∀ x : DS, x.lasting = L → x.waiting = [] → freeIn x n = i := fun x hl hw => by
    rw [free_sec x n hw, hl, ← hfi, free_sec (DS.fresh L) n rfl]
    rfl
  let g : Nat → Int → List UInt8 := fun j kp => putFall L kp i o (rootM n m) r j
  let l : Nat → List UInt8 := fun j => if j < 5 then g j (-1) else C
  have g0 : ∀ kp, g 0 kp = L := fun kp => rfl
  have g1 : ∀ kp, g 1 kp = if keepBit kp 0 then A else L := fun kp => by show keptTo _ _ _ _ = _; rw [kept_one, hA]
  have g2 : ∀ kp, g 2 kp = if keepBit kp 1 then (if keepBit kp 0 then B else putSector L ((2 + 2 * i : Nat), half r 1)) else if keepBit kp 0 then A else L := fun kp => by
    show keptTo _ _ _ _ = _
    rw [kept_two, hA]
    cases keepBit kp 0 <;> cases keepBit kp 1 <;> first | rfl | exact hB
  have g3 : ∀ kp, g 3 kp = B := fun kp => hrecd
  have g4 : ∀ kp, g 4 kp = if keepBit kp 0 then C else B := fun kp => by
    show keptTo _ _ _ _ = _
    rw [kept_one, hfin, hrecd]
  have l0 : l 0 = L := rfl
  have l1 : l 1 = A := by show g 1 (-1) = _; rw [g1, keep_all.1]; rfl
  have l2 : l 2 = B := by show g 2 (-1) = _; rw [g2, keep_all.1, keep_all.2]; rfl
  have l3 : l 3 = B := by show g 3 (-1) = _; rw [g3]
  have l4 : l 4 = C := by show g 4 (-1) = _; rw [g4, keep_all.1]; rfl
  have l5 : l 5 = C := rfl
  have hLA : diffN L A n ≤ 1 := diff_le _ _ _ [1 + 2 * i] fun j _ hj => by rw [sA, if_neg (by simpa using hj)]
  have hAB : diffN A B n ≤ 1 := diff_le _ _ _ [2 + 2 * i] fun j _ hj => by rw [sB, if_neg (by simpa using hj)]
  have hBC : diffN B C n ≤ 1 := diff_le _ _ _ [0] fun j _ hj => (sC j (by simpa using hj)).symm
  refine ⟨5, 0, after m i f o, C, g, l, ?_⟩
  refine { few := by omega, ans := .inl rfl, rep := rC, seven := h7.put ⟨by show pickD sd 2 ≤ 2; omega, pathL_mem _ hp⟩, free := ?_, room := ?_, falls := ?_, mid := ?_, put := ?_, lo := fun j hj => if_pos hj, hi := rfl, d0 := rfl, d1 := ?_, d2 := ?_, d3 := .inr (by rw [l5, l4]), d4 := ?_, d5 := ?_ }
  · intro a lf kp
    rw [hstart _ rfl rfl rfl, put_free L a lf kp n _ _ _ i o _ r henc (hfx _ rfl rfl) (ho _ rfl rfl) hroot, hfin]
    rfl
  · intro a kp lf hlf
    rw [hstart _ rfl rfl rfl, put_room L a lf kp n _ _ _ i o _ r henc (hfx _ rfl rfl) (ho _ rfl rfl) hroot (by omega), hfin]
    rfl
  · intro a kp j hj
    rw [hstart _ rfl rfl rfl, put_falls L a kp n _ _ _ i o _ r henc j hj (hfx _ rfl rfl) (ho _ rfl rfl) hroot]
  · intro j kp hj
    rcases (by omega : j = 0 ∨ j = 1 ∨ j = 2 ∨ j = 3 ∨ j = 4) with rfl | rfl | rfl | rfl | rfl
    · exact .inl h
    · left
      rw [g1]
      split
      · exact rA
      · exact h
    · left
      rw [g2]
      split <;> split
      · exact rB
      · exact rA2
      · exact rA
      · exact h
    · left; rw [g3]; exact rB
    · rw [g4]
      split
      · exact .inr rC
      · exact .inl rB
  · intro _
    refine ⟨rfl, i, ?_⟩
    unfold after
    rw [dropO_else (by omega)]
    simp [upd, f, hcc]
  · intro j hj
    rcases (by omega : j = 0 ∨ j = 1 ∨ j = 2 ∨ j = 3 ∨ j = 4) with rfl | rfl | rfl | rfl | rfl
    · rw [l0, l1]; exact hLA
    · rw [l1, l2]; exact hAB
    · rw [l2, l3, diff_self]; omega
    · rw [l3, l4]; exact hBC
    · rw [l4, l5, diff_self]; omega
  · intro j hj
    rcases (by omega : j = 0 ∨ j = 1 ∨ j = 2 ∨ j = 3 ∨ j = 4) with rfl | rfl | rfl | rfl | rfl
    · left; rfl
    · left; rw [g1, keep_none.1]; rfl
    · left; rw [g2, keep_none.1, keep_none.2]; rfl
    · right; exact ⟨3, by omega, by omega, by rw [l3, g3], by rw [l3, l2]⟩
    · right; exact ⟨3, by omega, by omega, by rw [l3, g4, keep_none.1]; rfl, by rw [l3, l2]⟩
  · intro j kp hj s hsn
    rcases (by omega : j = 0 ∨ j = 1 ∨ j = 2 ∨ j = 3 ∨ j = 4) with rfl | rfl | rfl | rfl | rfl
    · exact ⟨0, by omega, rfl⟩
    · rw [g1]
      split
      · exact ⟨1, by omega, by rw [l1]⟩
      · exact ⟨0, by omega, rfl⟩
    · rw [g2]
      split <;> split
      · exact ⟨2, by omega, by rw [l2]⟩
      · by_cases e : s = 2 + 2 * i
        · exact ⟨2, by omega, by rw [l2, sB, if_pos e, s2, if_pos e]⟩
        · exact ⟨0, by omega, by rw [l0, s2, if_neg e]⟩
      · exact ⟨1, by omega, by rw [l1]⟩
      · exact ⟨0, by omega, rfl⟩
    · exact ⟨3, by omega, by rw [l3, g3]⟩
    · rw [g4]
      split
      · exact ⟨4, by omega, by rw [l4]⟩
      · exact ⟨3, by omega, by rw [l3]⟩
  · refine Nat.le_trans (diff_le _ _ _ [1 + 2 * i, 2 + 2 * i, 0] fun j _ hj => ?_) (by simp)
    simp only [List.mem_cons, List.not_mem_nil, or_false, not_or] at hj
    rw [sC j hj.2.2, sB, if_neg hj.2.1, sA, if_neg hj.1]

theorem fate_remove (h : Rep L n m) (h7 : Seven m) (k sd pt : Int) (ct : ByteArray) (hk : pickD k 4 = 2) : ∃ N e0 m' L' g l, Fate L n m k sd pt ct N e0 m' L' g l := by
  have hp := pickD_lt pt 7 (by omega)
  have hlo := h.lo
  obtain ⟨o, ho, ho0, ho1, hom, hox⟩ := owner h (pickD sd 2) (pathL (pickD pt 7))
  have hstart : ∀ x : DS, x.lasting = L → x.waiting = [] → x.failed = false → x.act n k sd pt ct = x.remove n (pickD sd 2) (bstr (pathL (pickD pt 7))) := by
    intro x hl hw hf
    subst hl
    unfold DS.act
    rw [if_pos hk]
    unfold DS.sremove
    rw [hf, rep_pending h hw h7]
    simp only [Bool.false_eq_true, if_false]
    rfl
  by_cases ho2 : o = -1
  · subst ho2
    refine ⟨0, 5, m, L, fun _ _ => L, fun _ => L, ?_⟩
    refine { few := by omega, ans := .inr ⟨rfl, rfl⟩, rep := h, seven := h7, free := ?_, room := ?_, falls := fun _ _ j hj => by omega, mid := fun j _ hj => by omega, put := fun h => absurd hk h, lo := fun j hj => by omega, hi := rfl, d0 := rfl, d1 := fun j hj => by omega, d2 := fun j hj => by omega, d3 := .inl rfl, d4 := fun j _ hj => by omega, d5 := by rw [diff_self]; omega }
    · intro a lf kp
      rw [hstart _ rfl rfl rfl, remove_none n _ _ _ (ho _ rfl rfl)]
      simp
    · intro a kp lf hlf
      rw [hstart _ rfl rfl rfl, remove_none n _ _ _ (ho _ rfl rfl)]
      simp
  · have hroot : seenIn L [] 0 = rootM n m := by rw [← h.root]; rfl
    have hnew : markRoot (rootM n m) (-1) o = rootM n (dropO m o) := markRoot_drop m o ⟨ho0, ho1⟩
    generalize hC : putSector L (0, rootM n (dropO m o)) = C
    have rC : Rep C n (dropO m o) := by rw [← hC]; exact h.dropped o
    have sC : ∀ j, j ≠ 0 → secL C j = secL L j := fun j hj => by
      rw [← hC]
      have := secL_put L n h.len 0 (by omega) _ (length_rootM n (dropO m o)) j
      rw [if_neg hj] at this
      exact this
    let g : Nat → Int → List UInt8 := fun j kp => removeFall L kp o (rootM n m) j
    let l : Nat → List UInt8 := fun j => if j < 2 then g j (-1) else C
    have g1 : ∀ kp, g 1 kp = if keepBit kp 0 then C else L := fun kp => by
      show keptTo _ _ _ _ = _
      rw [kept_one, hnew, hC]
    have l0 : l 0 = L := rfl
    have l1 : l 1 = C := by show g 1 (-1) = _; rw [g1, keep_all.1]; rfl
    have l2 : l 2 = C := rfl
    have hLC : diffN L C n ≤ 1 := diff_le _ _ _ [0] fun j _ hj => (sC j (by simpa using hj)).symm
    refine ⟨2, 0, dropO m o, C, g, l, ?_⟩
    refine { few := by omega, ans := .inl rfl, rep := rC, seven := h7.dropped o, free := ?_, room := ?_, falls := ?_, mid := ?_, put := fun h => absurd hk h, lo := fun j hj => if_pos hj, hi := rfl, d0 := rfl, d1 := ?_, d2 := ?_, d3 := .inr (by rw [l2, l1]), d4 := ?_, d5 := by omega }
    · intro a lf kp
      rw [hstart _ rfl rfl rfl, remove_free L a lf kp n _ _ o _ (ho _ rfl rfl) ho2 hroot, hnew, hC]
      rfl
    · intro a kp lf hlf
      rw [hstart _ rfl rfl rfl, remove_room L a lf kp n _ _ o _ (ho _ rfl rfl) ho2 hroot (by omega), hnew, hC]
      rfl
    · intro a kp j hj
      rw [hstart _ rfl rfl rfl, remove_falls L a kp n _ _ o _ j hj (ho _ rfl rfl) ho2 hroot]
    · intro j kp hj
      rcases (by omega : j = 0 ∨ j = 1) with rfl | rfl
      · exact .inl h
      · rw [g1]
        split
        · exact .inr rC
        · exact .inl h
    · intro j hj
      rcases (by omega : j = 0 ∨ j = 1) with rfl | rfl
      · rw [l0, l1]; exact hLC
      · rw [l1, l2, diff_self]; omega
    · intro j hj
      rcases (by omega : j = 0 ∨ j = 1) with rfl | rfl
      · left; rfl
      · left; rw [g1, keep_none.1]; rfl
    · intro j kp hj s hsn
      rcases (by omega : j = 0 ∨ j = 1) with rfl | rfl
      · exact ⟨0, by omega, rfl⟩
      · rw [g1]
        split
        · exact ⟨1, by omega, by rw [l1]⟩
        · exact ⟨0, by omega, rfl⟩
theorem fate_any (h : Rep L n m) (h7 : Seven m) (hn : 21 < nslots n) (k sd pt : Int) (ct : ByteArray) : ∃ N e0 m' L' g l, Fate L n m k sd pt ct N e0 m' L' g l := by
  by_cases hk : pickD k 4 = 2
  · exact fate_remove h h7 k sd pt ct hk
  · exact fate_put h h7 hn k sd pt ct hk
end

theorem rep_empty (n : Nat) (h : 16 ≤ n) : Rep (emptyL n) n fun _ => none where
  len := by unfold emptyL; rw [List.length_append, length_rootL', List.length_replicate]; omega
  lo := h
  root := by
    unfold emptyL secL
    rw [Nat.mul_zero, List.drop_zero, List.take_append_of_le_length (by rw [length_rootL']; omega), List.take_of_length_le (by rw [length_rootL']; omega)]
    have := root_again n (fun _ => none) 0 (by simp)
    rw [← this]
    rfl
  recs := fun i f hm => by cases hm
  lt := fun i f hm => by cases hm
  good := fun i f hm => by cases hm
  inj := fun i j f g hm => by cases hm
end Go.Proofs.YtchcmhodnkgojaaGreat
