/- Plain mathematics of the disk: its sectors, its root, its records. -/
import Derived.Test.YtchcmhodnkgojaaGreatKeep1
set_option linter.all false
namespace Go.Proofs.YtchcmhodnkgojaaGreat
open Go.RowKit Go.Lib

/-- Sector j of the bytes. -/
def secL (L : List UInt8) (j : Nat) : List UInt8 := (L.drop (64 * j)).take 64
theorem secL_get (L : List UInt8) (j k : Nat) : (secL L j)[k]? = if k < 64 then L[64 * j + k]? else none := by
  unfold secL
  rw [List.getElem?_take]
  split
  · rw [List.getElem?_drop]
  · rfl
theorem length_secL (L : List UInt8) (n j : Nat) (h : L.length = 64 * n) (hj : j < n) : (secL L j).length = 64 := by
  unfold secL
  rw [List.length_take, List.length_drop]
  omega
theorem put_get (L : List UInt8) (n : Nat) (hL : L.length = 64 * n) (i : Nat) (hi : i < n) (b : List UInt8) (hb : b.length = 64) (m : Nat) :
    (putSector L ((i : Int), b))[m]? = if m < 64 * i then L[m]? else if m < 64 * i + 64 then b[m - 64 * i]? else L[m]? := by
  unfold putSector
  simp only [Int.toNat_natCast]
  rw [List.getElem?_append, List.getElem?_append]
  simp only [List.length_append, List.length_take, hb, List.getElem?_take, List.getElem?_drop]
  have h1 : min (64 * i) L.length = 64 * i := by omega
  rw [h1]
  by_cases h2 : m < 64 * i
  · simp [h2]; omega
  · by_cases h3 : m < 64 * i + 64
    · simp [h2, h3]
    · simp only [h2, h3, if_false]
      congr 1
      omega
theorem secL_put (L : List UInt8) (n : Nat) (hL : L.length = 64 * n) (i : Nat) (hi : i < n) (b : List UInt8) (hb : b.length = 64) (j : Nat) : secL (putSector L ((i : Int), b)) j = if j = i then b else secL L j := by
  apply List.ext_getElem?
  intro k
  rw [secL_get, put_get L n hL i hi b hb]
  by_cases hj : j = i
  · subst hj
    simp only [if_true]
    by_cases hk : k < 64
    · rw [if_pos hk, if_neg (by omega), if_pos (by omega)]
      congr 1; omega
    · rw [if_neg hk, List.getElem?_eq_none (by omega)]
  · rw [if_neg hj, secL_get]
    by_cases hk : k < 64
    · rw [if_pos hk, if_pos hk]
      by_cases h2 : 64 * j + k < 64 * i
      · rw [if_pos h2]
      · rw [if_neg h2, if_neg (by omega)]
    · rw [if_neg hk, if_neg hk]
theorem len_put (L : List UInt8) (n : Nat) (hL : L.length = 64 * n) (i : Nat) (hi : i < n) (b : List UInt8) (hb : b.length = 64) : (putSector L ((i : Int), b)).length = 64 * n := by
  unfold putSector
  simp only [Int.toNat_natCast, List.length_append, List.length_take, List.length_drop, hb]
  omega
theorem sec_ext (L M : List UInt8) (n : Nat) (hL : L.length = 64 * n) (hM : M.length = 64 * n) (h : ∀ j, j < n → secL L j = secL M j) : L = M := by
  apply List.ext_getElem?
  intro k
  by_cases hk : k < 64 * n
  · have h1 := congrArg (·[k % 64]?) (h (k / 64) (by omega))
    simp only [secL_get] at h1
    rw [if_pos (Nat.mod_lt _ (by omega)), if_pos (Nat.mod_lt _ (by omega))] at h1
    rwa [Nat.div_add_mod] at h1
  · rw [List.getElem?_eq_none (by omega), List.getElem?_eq_none (by omega)]
theorem read_sec (x : DS) (h : x.waiting = []) (j : Nat) : x.read j = secL x.lasting j := by
  unfold DS.read seenIn secL
  rw [h]
  simp
theorem read_zero (x : DS) (h : x.waiting = []) : x.read 0 = secL x.lasting 0 := read_sec x h 0

/-- Which slot holds which file. -/
abbrev Slots := Nat → Option FileD
def headL (n : Nat) : List UInt8 := magicL ++ [UInt8.ofNat (n / 256), UInt8.ofNat n]
def rootM (n : Nat) (m : Slots) : List UInt8 := headL n ++ (List.range 54).map fun i => if (m i).isSome then (1 : UInt8) else 0
theorem length_headL (n : Nat) : (headL n).length = 10 := rfl
theorem length_rootM (n : Nat) (m : Slots) : (rootM n m).length = 64 := by simp [rootM, length_headL]
theorem rootM_get (n : Nat) (m : Slots) (k : Nat) : (rootM n m)[k]? = if k < 10 then (headL n)[k]? else if k < 64 then some (if (m (k - 10)).isSome then (1 : UInt8) else 0) else none := by
  unfold rootM
  rw [List.getElem?_append, length_headL]
  split
  · rfl
  · rename_i h
    rw [List.getElem?_map]
    by_cases h2 : k < 64
    · rw [List.getElem?_range (by omega), if_pos h2]; rfl
    · rw [List.getElem?_eq_none (by simp; omega), if_neg h2]; rfl
theorem rootL_get (n k : Nat) : (rootL n)[k]? = if k < 10 then (headL n)[k]? else if k < 64 then some 0 else none := by
  unfold rootL
  rw [show magicL ++ [UInt8.ofNat (n / 256), UInt8.ofNat n] = headL n from rfl, List.getElem?_append, length_headL]
  split
  · rfl
  · rw [List.getElem?_replicate]
    by_cases h2 : k < 64
    · rw [if_pos h2, if_pos (by omega)]
    · rw [if_neg h2, if_neg (by omega)]
theorem mark_root (n : Nat) (m : Slots) (i : Nat) (hi : i < 54) : markAt (rootM n m) i = if (m i).isSome then 1 else 0 := by
  unfold markAt
  rw [List.getD_eq_getElem?_getD, rootM_get, if_neg (by omega), if_pos (by omega)]
  simp
theorem taken_root (n : Nat) (m : Slots) (k : Nat) (hk : k ≤ 54) : takenTo (rootM n m) k = (List.range k).filter fun i => (m i).isSome := by
  unfold takenTo
  apply List.filter_congr
  intro i hi
  rw [List.mem_range] at hi
  rw [mark_root n m i (by omega)]
  cases (m i).isSome <;> rfl
theorem markRoots_get (l : List Nat) : ∀ (r : List UInt8) (j : Nat), (markRoots r l)[j]? = if (∃ i ∈ l, 10 + i = j) ∧ j < r.length then some 1 else r[j]? := by
  induction l with
  | nil => intro r j; simp [markRoots]
  | cons a l ih =>
    intro r j
    unfold markRoots
    rw [List.foldl_cons]
    have := ih (r.set (10 + a) 1) j
    unfold markRoots at this
    rw [this, List.length_set, List.getElem?_set]
    by_cases h1 : (∃ i ∈ l, 10 + i = j) ∧ j < r.length
    · rw [if_pos h1, if_pos ⟨by obtain ⟨⟨i, hi, e⟩, _⟩ := h1; exact ⟨i, List.mem_cons_of_mem _ hi, e⟩, h1.2⟩]
    · rw [if_neg h1]
      by_cases h2 : 10 + a = j
      · rw [if_pos h2]
        by_cases h3 : j < r.length
        · rw [if_pos (by omega), if_pos ⟨⟨a, List.mem_cons_self, h2⟩, h3⟩]
        · rw [if_neg (by omega), if_neg (by omega), List.getElem?_eq_none (by omega)]
      · rw [if_neg h2, if_neg]
        rintro ⟨⟨i, hi, e⟩, h3⟩
        rcases List.mem_cons.1 hi with rfl | hi
        · exact h2 e
        · exact h1 ⟨⟨i, hi, e⟩, h3⟩
theorem length_rootL' (n : Nat) : (rootL n).length = 64 := by simp [rootL, magicL]
theorem root_again (n : Nat) (m : Slots) (k : Nat) (hm : ∀ i, (m i).isSome → i < k) : markRoots (rootL n) ((List.range k).filter fun i => (m i).isSome) = rootM n m := by
  apply List.ext_getElem?
  intro j
  rw [markRoots_get, rootM_get, rootL_get, length_rootL']
  by_cases h1 : j < 10
  · rw [if_pos h1, if_pos h1, if_neg (by rintro ⟨⟨i, _, e⟩, _⟩; omega)]
  · rw [if_neg h1, if_neg h1]
    by_cases h2 : j < 64
    · rw [if_pos h2, if_pos h2]
      cases h3 : (m (j - 10)).isSome with
      | true =>
        rw [if_pos ⟨⟨j - 10, by rw [List.mem_filter, List.mem_range]; exact ⟨hm _ h3, h3⟩, by omega⟩, h2⟩]
        rfl
      | false =>
        rw [if_neg]
        · rfl
        · rintro ⟨⟨i, hi, e⟩, _⟩
          rw [List.mem_filter] at hi
          obtain rfl : i = j - 10 := by omega
          rw [h3] at hi
          exact absurd hi.2 (by decide)
    · rw [if_neg h2, if_neg h2, if_neg (by omega)]
def upd (m : Slots) (i : Nat) (v : Option FileD) : Slots := fun j => if j = i then v else m j
theorem set_root (n : Nat) (m : Slots) (i : Nat) (hi : i < 54) (v : Option FileD) : (rootM n m).set (10 + i) (if v.isSome then 1 else 0) = rootM n (upd m i v) := by
  apply List.ext_getElem?
  intro j
  rw [List.getElem?_set, length_rootM, rootM_get, rootM_get]
  by_cases h1 : 10 + i = j
  · have h3 : j - 10 = i := by omega
    have h4 : ¬ (j < 10) := by omega
    have h5 : j < 64 := by omega
    have h6 : 10 + i < 64 := by omega
    simp [upd, h3, h4, h5, h6, h1]
  · rw [if_neg h1]
    by_cases h2 : j < 10
    · rw [if_pos h2, if_pos h2]
    · rw [if_neg h2, if_neg h2]
      have : ¬ (j - 10 = i) := by omega
      simp [upd, this]

theorem splice_get (l : List UInt8) (o : Nat) (v : List UInt8) (h : o + v.length ≤ l.length) (k : Nat) : (splice l o v)[k]? = if k < o then l[k]? else if k < o + v.length then v[k - o]? else l[k]? := by
  unfold splice
  rw [List.getElem?_append, List.getElem?_append]
  simp only [List.length_append, List.length_take, List.getElem?_take, List.getElem?_drop]
  have h1 : min o l.length = o := by omega
  rw [h1]
  by_cases h2 : k < o
  · simp [h2]; omega
  · by_cases h3 : k < o + v.length
    · simp [h2, h3]
    · simp only [h2, h3, if_false]
      congr 1
      omega
theorem len_splice (l : List UInt8) (o : Nat) (v : List UInt8) (h : o + v.length ≤ l.length) : (splice l o v).length = l.length := by
  unfold splice
  simp only [List.length_append, List.length_take, List.length_drop]
  omega
theorem enc_get (s : Nat) (p c : List UInt8) (hp : p.length ≤ 8) (hc : c.length ≤ 96) (k : Nat) :
    (encRec s p c)[k]? = if k < 3 then (encHead s p.length c.length)[k]? else if k < 3 + p.length then p[k - 3]? else if k < 11 then (encHead s p.length c.length)[k]? else if k < 11 + c.length then c[k - 11]? else (encHead s p.length c.length)[k]? := by
  have hh : (encHead s p.length c.length).length = 128 := by simp [encHead]
  unfold encRec
  rw [List.take_of_length_le hp, List.take_of_length_le (by omega : c.length ≤ 117)]
  rw [splice_get _ _ _ (by rw [len_splice _ _ _ (by omega)]; omega), splice_get _ _ _ (by omega)]
  by_cases h1 : k < 3
  · rw [if_pos (by omega), if_pos h1, if_pos h1]
  · rw [if_neg h1, if_neg h1]
    by_cases h2 : k < 3 + p.length
    · rw [if_pos (by omega), if_pos h2, if_pos h2]
    · rw [if_neg h2, if_neg h2]
theorem len_enc (s : Nat) (p c : List UInt8) (hp : p.length ≤ 8) (hc : c.length ≤ 96) : (encRec s p c).length = 128 := by
  have hh : (encHead s p.length c.length).length = 128 := by simp [encHead]
  unfold encRec
  rw [List.take_of_length_le hp, List.take_of_length_le (by omega : c.length ≤ 117)]
  rw [len_splice _ _ _ (by rw [len_splice _ _ _ (by omega)]; omega), len_splice _ _ _ (by omega), hh]
theorem head_get (s p c : Nat) : (encHead s p c)[0]? = some (UInt8.ofNat s) ∧ (encHead s p c)[1]? = some (UInt8.ofNat p) ∧ (encHead s p c)[2]? = some (UInt8.ofNat c) := by
  refine ⟨?_, ?_, ?_⟩ <;> simp [encHead, List.getElem?_set]
theorem enc_set (s : Nat) (p c : List UInt8) (hs : s < 256) (hp : p.length ≤ 8) (hc : c.length ≤ 96) : recSet (encRec s p c) = s := by
  unfold recSet byteAt
  rw [List.getD_eq_getElem?_getD, enc_get s p c hp hc, if_pos (by omega), (head_get _ _ _).1]
  simp; omega
theorem enc_plen (s : Nat) (p c : List UInt8) (hp : p.length ≤ 8) (hc : c.length ≤ 96) : byteAt (encRec s p c) 1 = p.length := by
  unfold byteAt
  rw [List.getD_eq_getElem?_getD, enc_get s p c hp hc, if_pos (by omega), (head_get _ _ _).2.1]
  simp; omega
theorem enc_clen (s : Nat) (p c : List UInt8) (hp : p.length ≤ 8) (hc : c.length ≤ 96) : byteAt (encRec s p c) 2 = c.length := by
  unfold byteAt
  rw [List.getD_eq_getElem?_getD, enc_get s p c hp hc, if_pos (by omega), (head_get _ _ _).2.2]
  simp; omega
theorem enc_path (s : Nat) (p c : List UInt8) (hp : p.length ≤ 8) (hc : c.length ≤ 96) : recPath (encRec s p c) = p := by
  unfold recPath
  rw [enc_plen s p c hp hc, Nat.min_eq_left hp]
  apply List.ext_getElem?
  intro k
  rw [List.getElem?_take]
  by_cases h : k < p.length
  · rw [if_pos h, List.getElem?_drop, enc_get s p c hp hc, if_neg (by omega), if_pos (by omega)]
    congr 1; omega
  · rw [if_neg h, List.getElem?_eq_none (by omega)]
theorem enc_content (s : Nat) (p c : List UInt8) (hp : p.length ≤ 8) (hc : c.length ≤ 96) : recContent (encRec s p c) = c := by
  unfold recContent
  rw [enc_clen s p c hp hc, Nat.min_eq_left hc]
  apply List.ext_getElem?
  intro k
  rw [List.getElem?_take]
  by_cases h : k < c.length
  · rw [if_pos h, List.getElem?_drop, enc_get s p c hp hc, if_neg (by omega), if_neg (by omega), if_neg (by omega), if_pos (by omega)]
    congr 1; omega
  · rw [if_neg h, List.getElem?_eq_none (by omega)]
end Go.Proofs.YtchcmhodnkgojaaGreat
