/- Disk of the statements. -/
import Derived.Test.YtchcmhodnkgojaaGreatFalls
import Derived.BigQuiet
import Derived.Test.YtchcmhodnkgojaaGreatOut
import Derived.Test.YtchcmhodnkgojaaGreatCalm
set_option linter.all false
namespace Go.Proofs.YtchcmhodnkgojaaGreat
open Go.RowKit Go.Lib

/-- Whether sector j is the same in both strings. -/
def sameS (a b : ByteArray) (j : Nat) : Bool := (a.extract (64 * j) (64 * j + 64)).toList == (b.extract (64 * j) (64 * j + 64)).toList
/-- In how many of the first k sectors two strings differ. -/
def diffS (a b : ByteArray) (k : Nat) : Nat := ((List.range k).filter fun j => !sameS a b j).length
theorem diffS_succ (a b : ByteArray) (k : Nat) : diffS a b (k + 1) = diffS a b k + if sameS a b k then 0 else 1 := by
  unfold diffS
  rw [List.range_succ, List.filter_append, List.length_append]
  cases h : sameS a b k <;> simp [h]
theorem diffS_le (a b : ByteArray) (k : Nat) : diffS a b k ≤ k := by
  unfold diffS
  exact Nat.le_trans (List.length_filter_le _ _) (by simp)

set_option maxRecDepth 100000 in
set_option maxHeartbeats 1000000 in
theorem differ_any (a b : ByteArray) (n : Nat) (w : World) (ha : a.size = 64 * n) (hb : b.size = 64 * n) (hn : n ≤ 1000) :
    Calls Tryz.prog 27 #[.string a, .string b] w fun e w' => e = .returned (.int .i64 (diffS a b n)) ∧ Frm [] w w' := by
  go_enter Tryz.func27, Tryz.ntmps27
  have hs : ((a.size : Int) == (b.size : Int)) = true := by rw [ha, hb]; simp
  go_wp2_with fail
  go_loopw [5, 6] (fun c i wr => ∃ k : Nat, i = .int .i64 (64 * k : Nat) ∧ k ≤ n ∧ c = .int .i64 (diffS a b k) ∧ Frm [] w wr) (fun _ i _ => 64 * n - (intOf i).toNat)
  case atStart => exact ⟨0, rfl, by omega, rfl, Frm.refl _ _⟩
  case round =>
    obtain ⟨k, rfl, hk, rfl, fk⟩ := hrel
    by_cases hlt : k < n
    · have hle := diffS_le a b k
      have hstep := diffS_succ a b k
      have h1 : 64 * k + 64 ≤ a.size := by omega
      have h2 : 64 * k + 64 ≤ b.size := by omega
      have HB : Hid (sameS a b k = ((a.extract (64 * k) (64 * k + 64)).toList == (b.extract (64 * k) (64 * k + 64)).toList)) := rfl
      have HS : Hid (diffS a b (k + 1) = diffS a b k + if sameS a b k then 0 else 1) := hstep
      clear hstep
      generalize diffS a b k = q at hle HS
      go_wp2_with fail
      go_quiet (fail)
      have f2 : Frm [] wr (wr.drewN nq) := Frm.drewN _ _ _
      generalize wr.drewN nq = w2 at f2 ⊢
      have fw := fk.trans f2 (by simp)
      cases hq : ((a.extract (64 * k) (64 * k + 64)).toList == (b.extract (64 * k) (64 * k + 64)).toList) with
      | true =>
        rw [hq] at HB
        rw [HB.out] at HS
        go_wp2_with fail
        go_roundw
        case rel => exact ⟨k + 1, by go_num, by omega, by rw [HS.out]; rfl, fw⟩
        case measure => simp [intOf]; omega
      | false =>
        rw [hq] at HB
        rw [HB.out] at HS
        go_wp2_with fail
        go_roundw
        case rel => exact ⟨k + 1, by go_num, by omega, by rw [HS.out]; rfl, fw⟩
        case measure => simp [intOf]; omega
    · obtain rfl : k = n := by omega
      generalize hq : diffS a b k = q
      have HQ : Hid (diffS a b k = q) := hq
      clear hq
      go_wp2_with fail
      go_ret
      exact ⟨by rw [HQ.out]; rfl, fk⟩

end Go.Proofs.YtchcmhodnkgojaaGreat

set_option linter.all false
namespace Go.Proofs.YtchcmhodnkgojaaGreat
open Go.RowKit Go.Lib

/-- One of the first k strings has that sector. -/
def foundS (bs : Nat → ByteArray) (b : ByteArray) (j k : Nat) : Bool := (List.range k).any fun i => sameS (bs i) b j
theorem foundS_succ (bs : Nat → ByteArray) (b : ByteArray) (j k : Nat) : foundS bs b j (k + 1) = (foundS bs b j k || sameS (bs k) b j) := by
  unfold foundS
  rw [List.range_succ, List.any_append]
  simp

set_option maxRecDepth 100000 in
set_option maxHeartbeats 1000000 in
theorem each_true (b : ByteArray) (bs : Nat → ByteArray) (n m g cap : Nat) (cur : Array Value) (w : World) (hb : b.size = 64 * n) (hn : n ≤ 1000) (hm : m ≤ 2000) (hmc : m ≤ cap) (hcap : cap ≤ maxLen) (hg : Row w g cur 9) (hc : ∀ i, i < m → cur[i]? = some (.string (bs i))) (hs : ∀ i, i < m → (bs i).size = 64 * n)
    (hall : ∀ j, j < n → foundS bs b j m = true) :
    Calls Tryz.prog 29 #[.string b, .slice (some ⟨g, 0, none⟩) m cap] w fun e w' => e = .returned (.bool true) ∧ Frm [] w w' := by
  go_enter Tryz.func29, Tryz.ntmps29
  go_wp2_with fail
  go_loopw [5, 6, 7] (fun i _ _ wr => ∃ k : Nat, i = .int .i64 (64 * k : Nat) ∧ k ≤ n ∧ Frm [] w wr) (fun i _ _ _ => 64 * n - (intOf i).toNat)
  case atStart => exact ⟨0, rfl, by omega, Frm.refl _ _⟩
  case round =>
    obtain ⟨j, rfl, hj, fk⟩ := hrel
    by_cases hlt : j < n
    · have hall1 := hall j hlt
      have HA : Hid (foundS bs b j m = true) := hall1
      have h2 : 64 * j + 64 ≤ b.size := by omega
      clear hall hall1
      go_wp2_with fail
      go_loopw [6, 7] (fun f i w1 => ∃ k : Nat, i = .int .i64 k ∧ k ≤ m ∧ f = .bool (foundS bs b j k) ∧ Frm [] w w1) (fun _ i _ => m - (intOf i).toNat)
      case atStart => exact ⟨0, rfl, by omega, rfl, fk⟩
      case round =>
        obtain ⟨k, rfl, hk, rfl, f1⟩ := hrel
        by_cases hlt2 : k < m
        · have HS : Hid (foundS bs b j (k + 1) = (foundS bs b j k || sameS (bs k) b j)) := foundS_succ bs b j k
          have HB : Hid (sameS (bs k) b j = (((bs k).extract (64 * j) (64 * j + 64)).toList == (b.extract (64 * j) (64 * j + 64)).toList)) := rfl
          have hsk := hs k hlt2
          have h3 : 64 * j + 64 ≤ (bs k).size := by omega
          have c0 : wr.cell? ⟨g, k, none⟩ = some (.string (bs k)) := by rw [(f1.row hg (by simp)).cell, hc k hlt2]
          cases hf : foundS bs b j k with
          | true =>
            rw [hf] at HS
            go_wp2_with fail
            go_quiet (fail)
            have f2 : Frm [] wr (wr.drewN nq) := Frm.drewN _ _ _
            generalize wr.drewN nq = w2 at f2 ⊢
            have fw := f1.trans f2 (by simp)
            clear c0
            go_wp2_with fail
            go_roundw
            case rel => exact ⟨k + 1, by go_num, by omega, by rw [HS.out]; rfl, fw⟩
            case measure => simp [intOf]; omega
          | false =>
            rw [hf] at HS
            go_wp2_with fail
            go_quiet (fail)
            have f2 : Frm [] wr (wr.drewN nq) := Frm.drewN _ _ _
            generalize wr.drewN nq = w2 at f2 ⊢
            have fw := f1.trans f2 (by simp)
            clear c0
            generalize hq : (((bs k).extract (64 * j) (64 * j + 64)).toList == (b.extract (64 * j) (64 * j + 64)).toList) = q at HB
            rw [HB.out] at HS
            go_wp2_with fail
            go_roundw
            case rel => exact ⟨k + 1, by go_num, by omega, by rw [HS.out]; rfl, fw⟩
            case measure => simp [intOf]; omega
        · obtain rfl : k = m := by omega
          rw [HA.out]
          go_wp2_with fail
          go_roundw
          case rel => exact ⟨j + 1, by go_num, by omega, f1⟩
          case measure => simp [intOf]; omega
    · go_wp2_with fail
      go_ret
      exact ⟨rfl, fk⟩

end Go.Proofs.YtchcmhodnkgojaaGreat

set_option linter.all false
namespace Go.Proofs.YtchcmhodnkgojaaGreat
open Go.RowKit Go.Lib

theorem notinNew {F : List Nat} {w : World} {b : Nat} (h : ∀ k ∈ F, k < w.heap.size) (hb : w.heap.size ≤ b) : b ∉ F := fun hF => by have := h b hF; omega
theorem notinOld {F : List Nat} {w : World} {b : Nat} (h : Grew [] F w) (hb : b < w.heap.size) : b ∉ F := fun hF => by have := (h b hF).resolve_left (by simp); omega
theorem grewGe {F : List Nat} {w : World} (h : Grew [] F w) : ∀ k ∈ F, w.heap.size ≤ k := fun k hk => (h k hk).resolve_left (by simp)
theorem bstr_sec (L : List UInt8) (j : Nat) : ((bstr L).extract (64 * j) (64 * j + 64)).toList = secL L j := by
  rw [ByteArray.toList_eq, ByteArray.data_extract, Array.toList_extract]
  unfold secL bstr
  simp [List.extract]
theorem sameS_sec (a b : List UInt8) (j : Nat) : sameS (bstr a) (bstr b) j = (secL a j == secL b j) := by
  unfold sameS
  rw [bstr_sec, bstr_sec]
theorem diffS_eq (a b : List UInt8) (n : Nat) : diffS (bstr a) (bstr b) n = diffN a b n := by
  unfold diffS diffN
  congr 1
  apply List.filter_congr
  intro j _
  rw [sameS_sec]
  rfl

section
variable {P : Program} {ops : Array Oper} {Q : Act → Prop} {C : World → Prop} {a : Act} {rest : List Oper} {o : Oper}
theorem calm_want (hg : Region.wanted o (yielded ops a.tmps) = true) (dst : Option Tmp) (hd : o.dst = dst) (v : Value) (hr : ∀ w', C w' → (execOp a.eval o).run P w' = .ok (.value v) w') (h : wpQuiet P ops C Q rest (a.put dst v)) : wpQuiet P ops C Q (o :: rest) a := by
  subst hd
  unfold wpQuiet
  rw [if_pos hg]
  refine ⟨v, fun w' hw' => ?_, h⟩
  unfold Oper.quietAt
  rw [hr w' hw']
  exact ⟨rfl, rfl⟩
theorem calm_wantcall (hg : Region.wanted o (yielded ops a.tmps) = true) (dst : Option Tmp) (hd : o.dst = dst) (f : FuncId) (args : Array Value) (v : Value) (hr : ∀ w', C w' → (execOp a.eval o).run P w' = .ok (.enter f args) w')
    (hc : ∀ w', C w' → Calls P f args w' fun e w'' => e = .returned v ∧ C w'') (h : wpQuiet P ops C Q rest (a.put dst v)) : wpQuiet P ops C Q (o :: rest) a := by
  subst hd
  unfold wpQuiet
  rw [if_pos hg]
  refine ⟨v, fun w' hw' => ?_, h⟩
  unfold Oper.quietAt
  rw [hr w' hw']
  exact ⟨rfl, hc w' hw'⟩
end

/-- What lasts when the disk is to fail behind j acts. -/
def fateAt (N : Nat) (L' : List UInt8) (g : Nat → Int → List UInt8) (j : Nat) (kp : Int) : List UInt8 := if j < N then g j kp else L'
theorem fate_at {L : List UInt8} {n : Nat} {m : Slots} {k sd pt : Int} {ct : ByteArray} {N : Nat} {e0 : Int} {m' : Slots} {L' : List UInt8} {g : Nat → Int → List UInt8} {l : Nat → List UInt8} (T : Fate L n m k sd pt ct N e0 m' L' g l) (kp : Int) (j : Nat) :
    ∃ (y : DS) (e : Int), (⟨L, [], 0, true, j, kp, false⟩ : DS).act n k sd pt ct = (y, .int .i64 e) ∧ y.lasting = fateAt N L' g j kp := by
  unfold fateAt
  by_cases h : j < N
  · rw [if_pos h]
    exact ⟨_, _, T.falls 0 kp j h, rfl⟩
  · rw [if_neg h]
    exact ⟨_, _, T.room 0 kp j (by omega), rfl⟩
theorem fate_len {L : List UInt8} {n : Nat} {m : Slots} {k sd pt : Int} {ct : ByteArray} {N : Nat} {e0 : Int} {m' : Slots} {L' : List UInt8} {g : Nat → Int → List UInt8} {l : Nat → List UInt8} (T : Fate L n m k sd pt ct N e0 m' L' g l) (kp : Int) (j : Nat) : (fateAt N L' g j kp).length = 64 * n := by
  unfold fateAt
  split
  · rename_i h
    rcases T.mid j kp h with h | h
    · exact h.len
    · exact h.len
  · exact T.rep.len

set_option maxRecDepth 100000 in
set_option maxHeartbeats 2000000 in
theorem failed_rep (F : List Nat) (s d : Nat) (L : List UInt8) (a0 : Int) (m : Slots) (y : ActD) (w : World) (h : StoreIn w F s d 200 (DS.calm L a0)) (hr : Rep L 200 m) (h7 : Seven m) (hy : y.call.Ok ∧ pickD y.call.kind 4 ≠ 3)
    {N : Nat} {e0 : Int} {m' : Slots} {L' : List UInt8} {g : Nat → Int → List UInt8} {l : Nat → List UInt8} (T : Fate L 200 m y.call.kind y.call.side y.call.path y.call.content N e0 m' L' g l) (j : Nat) (hj : j ≤ 1000) (kp : Int) :
    Calls Tryz.prog 28 #[.pointer (some ⟨s, 0, none⟩), .agg y.call.cells, .int .i64 j, .int .i64 kp] w fun e w' => e = .returned (.string (bstr (fateAt N L' g j kp))) ∧ Frm [] w w' := by
  obtain ⟨z, e1, hact, hlast⟩ := fate_at T kp j
  have HACT : Hid ((⟨L, [], 0, true, j, kp, false⟩ : DS).act 200 y.call.kind y.call.side y.call.path y.call.content = (z, .int .i64 e1)) := hact
  have HL : Hid (z.lasting = fateAt N L' g j kp) := hlast
  clear hact hlast T
  go_enter Tryz.func28, Tryz.ntmps28
  go_wp2_with (with_reducible first | refine stop_box rfl ?_ | refine stop_load 24 rfl ?_)
  refine Stopped.go (wl_box rfl 24 _ rfl (.agg y.call.cells) rfl ?_)
  intro w1 b l1 f1 r1
  have r1 : Row w1 b y.call.cells 24 := r1
  have hs := h.new f1
  have fw := f1
  clear f1 h
  go_wp2_with (with_reducible first | refine stop_load 24 rfl ?_)
  refine (copied_rep F s d 200 (DS.calm L a0) m w1 hs hr h7).mono ?_
  rintro e w2 ⟨t, td, Ft, rfl, ht, f2, g2, l2⟩
  have ht : StoreIn w2 Ft t td 200 (DS.calm L 0) := ht
  have nb : b ∉ Ft := notinOld g2 r1.lt
  have geT : ∀ k ∈ Ft, w.heap.size ≤ k := fun k hk => by have := grewGe g2 k hk; have := fw.size; omega
  replace r1 := f2.row r1 (by simp)
  replace fw := fw.trans f2 (by simp)
  clear f2 g2 l2 hs
  go_wp2_with (with_reducible first | refine stop_load 24 rfl ?_)
  refine (sfail_spec Ft t td 200 _ j kp w2 ht).mono ?_
  rintro e w3 ⟨rfl, h3, f3⟩
  have hff : (DS.calm L 0).failTo (j : Nat) kp = (⟨L, [], 0, true, (j : Nat), kp, false⟩, 0) := by
    unfold DS.failTo
    rw [show (DS.calm L 0).failed = false from rfl, if_neg (by simp), if_neg (by omega)]
    rfl
  rw [hff] at h3 ⊢
  have h3 : StoreIn w3 Ft t td 200 ⟨L, [], 0, true, (j : Nat), kp, false⟩ := h3
  replace r1 := f3.row r1 nb
  replace fw := fw.trans f3 (fun k hk => .inr (geT k hk))
  clear f3 ht hff
  go_wp2_with (with_reducible first | refine stop_load 24 rfl ?_)
  refine Stopped.go (wl_loadw rfl 24 _ rfl b rfl row_act y.call.cells _ r1 info_act ?_)
  go_wp2_with fail
  refine (act_rep Ft t td _ y w3 h3 rfl ⟨by show (0 : Int) ≤ 0; omega, by show (0 : Int) + _ ≤ _; omega, by show (0 : Int) ≤ (j : Nat); omega, by show ((j : Nat) : Int) ≤ _; omega⟩ hy _ _ HACT.out).mono ?_
  rintro e w4 ⟨rfl, ⟨Fu, hu, gu⟩, f4⟩
  replace fw := fw.trans f4 (fun k hk => .inr (geT k hk))
  clear f4 h3 gu r1 nb
  go_wp2_with fail
  refine (sbytes_any Fu t td 200 z w4 hu).mono ?_
  rintro e w5 ⟨rfl, f5⟩
  rw [HL.out]
  have fw5 := fw.trans f5 (by simp)
  clear f5 hu HACT HL
  go_wp2_with fail
  all_goals
    go_ret
    exact ⟨rfl, fw5⟩

end Go.Proofs.YtchcmhodnkgojaaGreat

set_option linter.all false
namespace Go.Proofs.YtchcmhodnkgojaaGreat
open Go.RowKit Go.Lib

/-- Strings behind each other, as cells. -/
def lcells (bs : Nat → ByteArray) (j : Nat) : List Value := (List.range j).map fun i => Value.string (bs i)
theorem lcells_succ (bs : Nat → ByteArray) (j : Nat) : lcells bs (j + 1) = lcells bs j ++ [Value.string (bs j)] := by simp [lcells, List.range_succ]
theorem lcells_get (bs : Nat → ByteArray) (j i : Nat) (h : i < j) : (lcells bs j)[i]? = some (.string (bs i)) := by simp [lcells, h]
theorem own_cells {w : World} {base n cap : Nat} {ad : Option Addr} {bs : Nat → ByteArray} (h : w.ownsRow base 9 1 (.slice ad n cap) n (lcells bs n)) (hn : 0 < n) : ∃ g cur, ad = some ⟨g, 0, none⟩ ∧ Row w g cur 9 ∧ n ≤ cap ∧ cap ≤ maxLen ∧ ∀ i, i < n → cur[i]? = some (.string (bs i)) := by
  obtain ⟨g, cur, rfl, hg, h1, h2, h3, h4⟩ := own_some h hn
  refine ⟨g, cur, rfl, hg, h1, h2, fun i hi => ?_⟩
  have h5 : (cur.toList.take (n * 1))[i]? = (lcells bs n)[i]? := by rw [h4]
  rw [List.getElem?_take_of_lt (by omega), lcells_get bs n i hi] at h5
  rw [← Array.getElem?_toList]
  exact h5

def eqS (a b : List UInt8) : Bool := (bstr a).toList == (bstr b).toList
theorem eqS_iff (a b : List UInt8) : eqS a b = true ↔ a = b := by
  unfold eqS
  rw [bstr_toList, bstr_toList]
  simp
/-- What the second loop has found behind so many rounds. -/
def fnd (lt : Nat → List UInt8) (nn : List UInt8) : Nat → Bool
  | 0 => eqS (lt 0) nn
  | j + 1 => fnd lt nn j || (eqS (lt (j + 1)) nn && eqS (lt (j + 1)) (lt j))
theorem fnd_zero (lt : Nat → List UInt8) (nn : List UInt8) (h : lt 0 = nn) : ∀ k, fnd lt nn k = true
  | 0 => (eqS_iff _ _).2 h
  | k + 1 => by unfold fnd; rw [fnd_zero lt nn h k]; rfl
theorem fnd_some (lt : Nat → List UInt8) (nn : List UInt8) (i : Nat) (h1 : lt (i + 1) = nn) (h2 : lt (i + 1) = lt i) : ∀ k, i + 1 ≤ k → fnd lt nn k = true
  | 0, h => by omega
  | k + 1, h => by
    unfold fnd
    by_cases e : i = k
    · subst e
      rw [(eqS_iff _ _).2 h1, (eqS_iff _ _).2 h2, Bool.and_true, Bool.or_true]
    · rw [fnd_some lt nn i h1 h2 k (by omega), Bool.true_or]
section
variable {L : List UInt8} {n : Nat} {m : Slots} {k sd pt : Int} {ct : ByteArray} {N : Nat} {e0 : Int} {m' : Slots} {L' : List UInt8} {g : Nat → Int → List UInt8} {l : Nat → List UInt8}
theorem fate_found (T : Fate L n m k sd pt ct N e0 m' L' g l) (kk : Nat) (hk : kk ≤ N) : fnd l (fateAt N L' g kk 0) kk = true := by
  unfold fateAt
  split
  · rename_i h
    rcases T.d2 kk h with h1 | ⟨i, h1, h2, h3, h4⟩
    · exact fnd_zero _ _ h1.symm _
    · obtain ⟨j, rfl⟩ : ∃ j, i = j + 1 := ⟨i - 1, by omega⟩
      exact fnd_some _ _ j h3 h4 _ h2
  · obtain rfl : kk = N := by omega
    rcases T.d3 with h1 | h1
    · refine fnd_zero _ _ ?_ _
      rw [← T.hi, h1]
    · rcases Nat.eq_zero_or_pos kk with h2 | h2
      · refine fnd_zero _ _ ?_ _
        rw [← T.hi, h2]
      · obtain ⟨j, rfl⟩ : ∃ j, kk = j + 1 := ⟨kk - 1, by omega⟩
        exact fnd_some _ _ j T.hi h1 _ (Nat.le_refl _)
theorem fate_each (T : Fate L n m k sd pt ct N e0 m' L' g l) (kk : Nat) (hk : kk ≤ N) (kp : Int) (s : Nat) (hs : s < n) : foundS (fun i => bstr (l i)) (bstr (fateAt N L' g kk kp)) s (kk + 1) = true := by
  unfold foundS
  rw [List.any_eq_true]
  have hx : ∃ i, i ≤ kk ∧ secL (l i) s = secL (fateAt N L' g kk kp) s := by
    unfold fateAt
    split
    · rename_i h
      exact T.d4 kk kp h s hs
    · obtain rfl : kk = N := by omega
      exact ⟨kk, Nat.le_refl _, by rw [T.hi]⟩
  obtain ⟨i, hi, he⟩ := hx
  refine ⟨i, List.mem_range.2 (by omega), ?_⟩
  rw [sameS_sec, he]
  simp
end

set_option maxRecDepth 100000 in
set_option maxHeartbeats 8000000 in
theorem disk_any (ad : Option Addr) (cap : Nat) (l : List ActD) (y : ActD) (fa fk : Int) (w : World) (h : ActsIn w ad l) (hl : l.length ≤ cap) (hcap : cap ≤ maxLen) (hy : y.Ok) (hfa : fits64 fa) :
    Calls Tryz.prog 4 #[.slice ad l.length cap, .agg y.cells, .int .i64 fa, .int .i64 fk] w fun e w' => e = .returned (.bool true) ∧ Frm [] w w' := by
  obtain ⟨hyc, hy3⟩ := ActD.call_ok hy
  unfold fits64 at hfa
  go_enter Tryz.func4, Tryz.ntmps4
  go_wp2_with (with_reducible first | refine stop_box rfl ?_ | refine stop_load 24 rfl ?_ | refine stop_store 24 rfl ?_)
  refine Stopped.go (wl_box rfl 24 _ rfl (.agg y.cells) rfl ?_)
  intro w1 b5 l5 f1 r5
  have q5 : Row w1 b5 y.cells 24 := r5
  have fw := f1
  have h2 := h.frm fw (by simp)
  have hb5 : b5 < w1.heap.size := q5.lt
  clear r5 f1 h
  go_wp2_with (with_reducible first | refine stop_load 24 rfl ?_ | refine stop_store 24 rfl ?_)
  refine (stocked_any ad cap l w1 h2 hl hcap).mono ?_
  rintro e w3 ⟨s, d, F, L, m, a0, rfl, ⟨hs, hrep, hsev, ha0, ha1⟩, f3, g3, l3⟩
  replace q5 := f3.row q5 (by simp)
  replace fw := fw.trans f3 (by simp)
  have nF5 : b5 ∉ F := notinOld g3 hb5
  have ns5 : s ≠ b5 := by omega
  obtain ⟨N, e0, m', L', g, lt, T⟩ := fate_any hrep hsev slots200 y.call.kind y.call.side y.call.path y.call.content
  have hN := T.few
  have hcall : (DS.calm L 0).act 200 y.call.kind y.call.side y.call.path y.call.content = (DS.calm L' (0 + N), .int .i64 e0) := T.free 0 0 0
  have haf := pickD_lt fa (N + 1) (by omega)
  have hans := T.ans
  have HC : Hid ((DS.calm L 0).act 200 y.call.kind y.call.side y.call.path y.call.content = (DS.calm L' (0 + N), .int .i64 e0)) := hcall
  have HT : Hid (Fate L 200 m y.call.kind y.call.side y.call.path y.call.content N e0 m' L' g lt) := T
  have HR : Hid (Rep L 200 m ∧ Seven m) := ⟨hrep, hsev⟩
  have hd5 : diffN L L' 200 ≤ N - 1 := T.d5
  have zL : (bstr L).size = 64 * 200 := by rw [bstr_size, hrep.len]
  have zL' : (bstr L').size = 64 * 200 := by rw [bstr_size, T.rep.len]
  clear T hcall hrep hsev f3 g3 h2 hb5
  go_wp2_with (with_reducible first | refine stop_load 24 rfl ?_ | refine stop_store 24 rfl ?_)
  refine Stopped.go (wl_loadw rfl 24 _ rfl b5 rfl row_act y.cells _ q5 info_act ?_)
  go_wp2_with (with_reducible first | refine stop_store 24 rfl ?_)
  refine (call_any y w3 hy).mono ?_
  rintro e w4 ⟨rfl, f4⟩
  replace q5 := f4.row q5 (by simp)
  replace hs := hs.new f4
  replace fw := fw.trans f4 (by simp)
  clear f4
  go_wp2_with (with_reducible first | refine stop_store 24 rfl ?_)
  refine Stopped.go (wl_storew rfl 24 _ _ rfl b5 rfl y.call.cells rfl info_act (act_one _) _ _ q5 rfl ?_)
  intro w5 f5 r5
  replace hs : StoreIn w5 F s d 200 (DS.calm L a0) := hs.frm f5 (by simpa using ns5) (by simpa using nF5)
  replace fw := fw.trans f5 (by simpa using l5)
  replace q5 := r5
  clear f5 r5 hy
  go_wp2_with (with_reducible first | refine stop_load 24 rfl ?_)
  refine (sbytes_any F s d 200 _ w5 hs).mono ?_
  rintro e w6 ⟨rfl, f6⟩
  have eb : (⟨(DS.calm L a0).lasting.toArray⟩ : ByteArray) = bstr L := rfl
  rw [eb]
  replace q5 := f6.row q5 (by simp)
  replace hs := hs.new f6
  replace fw := fw.trans f6 (by simp)
  clear f6 eb
  go_wp2_with (with_reducible first | refine stop_load 24 rfl ?_)
  refine (copied_rep F s d 200 (DS.calm L a0) m w6 hs HR.out.1 HR.out.2).mono ?_
  rintro e w9 ⟨t, td, Ft, rfl, ht, f9, g9, l9⟩
  have nt5 : b5 ∉ Ft := notinOld g9 q5.lt
  have nts : s ∉ Ft := notinOld g9 hs.row.lt
  have ntF : ∀ k ∈ Ft, k ∉ F := fun k hk hF => notinOld g9 (hs.disk.lt k hF) hk
  have ht : StoreIn w9 Ft t td 200 (DS.calm L 0) := ht
  have geT : ∀ k ∈ Ft, w.heap.size ≤ k := fun k hk => by have := grewGe g9 k hk; have := fw.size; omega
  replace q5 := f9.row q5 (by simp)
  replace hs := hs.new f9
  replace fw := fw.trans f9 (by simp)
  clear f9 g9 l9
  go_wp2_with (with_reducible first | refine stop_load 24 rfl ?_)
  refine Stopped.go (wl_loadw rfl 24 _ rfl b5 rfl row_act y.call.cells _ q5 info_act ?_)
  go_wp2_with fail
  refine (act_rep Ft t td (DS.calm L 0) y w9 ht rfl (fit_calm _ _ _ (by omega) (by omega)) ⟨hyc, hy3⟩ _ _ HC.out).mono ?_
  rintro e w10 ⟨rfl, ⟨Fu, hu, gu⟩, f10⟩
  replace q5 := f10.row q5 nt5
  replace hs : StoreIn w10 F s d 200 (DS.calm L a0) := hs.frm f10 nts ntF
  replace fw := fw.trans f10 (fun k hk => .inr (geT k hk))
  clear f10 ht nt5 nts ntF geT gu HC
  go_wp2_with fail
  refine (sacts_any Fu t td 200 _ w10 hu).mono ?_
  rintro e w11 ⟨rfl, rfl⟩
  have eN : (DS.calm L' (0 + N)).acts = (N : Int) := Int.zero_add _
  rw [eN]
  clear eN
  go_wp2_with fail
  refine (sbytes_any Fu t td 200 _ w11 hu).mono ?_
  rintro e w12 ⟨rfl, f12⟩
  have eb : (⟨(DS.calm L' (0 + (N : Int))).lasting.toArray⟩ : ByteArray) = bstr L' := rfl
  rw [eb]
  replace q5 := f12.row q5 (by simp)
  replace hs := hs.new f12
  replace hu := hu.new f12
  replace fw := fw.trans f12 (by simp)
  clear f12 eb
  go_wp2_with fail
  refine (differ_any (bstr L) (bstr L') 200 w12 zL zL' (by omega)).mono ?_
  rintro e w13 ⟨rfl, f13⟩
  rw [diffS_eq]
  replace q5 := f13.row q5 (by simp)
  replace hs := hs.new f13
  replace hu := hu.new f13
  replace fw := fw.trans f13 (by simp)
  clear f13
  generalize diffN L L' 200 = D at hd5 ⊢
  have hcases : (D = 0 ∧ e0 = 0) ∨ (D = 0 ∧ e0 = 5 ∧ N = 0) ∨ (0 < D ∧ e0 = 0 ∧ 2 ≤ N) := by
    rcases hans with h2 | ⟨h2, h3⟩
    · rcases Nat.eq_zero_or_pos D with h | h
      · exact .inl ⟨h, h2⟩
      · exact .inr (.inr ⟨h, h2, by omega⟩)
    · exact .inr (.inl ⟨by omega, h2, h3⟩)
  rcases hcases with ⟨hD0, he0⟩ | ⟨hD0, he0, hN0⟩ | ⟨t1, he0, hN2⟩
  · skip
    have t1 : ¬ (0 < D) := by omega
    clear hans hD0 hd5
    go_wp2_with fail
    clear t1 he0
    generalize w13 = wa at q5 hs hu fw ⊢
    have HLT : Hid (∀ j, j ≤ N → fateAt N L' g j (-1) = lt j) := fun j hj => by
      unfold fateAt
      by_cases h : j < N
      · rw [if_pos h]; exact (HT.out.lo j h).symm
      · rw [if_neg h, show j = N by omega]; exact HT.out.hi.symm
    have HZ : Hid (∀ j, j ≤ N → (bstr (lt j)).size = 64 * 200) := fun j hj => by rw [← HLT.out j hj, bstr_size, fate_len HT.out]
    have hwa : w.heap.size ≤ wa.heap.size := fw.size
    go_loopw [15, 16] (fun u i wr => ∃ (j cp : Nat) (adr : Option Addr), i = .int .i64 j ∧ u = .slice adr j cp ∧ j ≤ N + 1 ∧ Frm [] wa wr ∧ wr.ownsRow wa.heap.size 9 1 (.slice adr j cp) j (lcells (fun i => bstr (lt i)) j)) (fun _ i _ => N + 1 - (intOf i).toNat)
    case atStart => exact ⟨0, 0, none, rfl, rfl, by omega, Frm.refl _ _, World.ownsRow_nil _ _ _ _⟩
    case round =>
      obtain ⟨j, cp, adr, rfl, rfl, hj, fr, ho⟩ := hrel
      by_cases hlt : j < N + 1
      · have hjN : (j : Int) ≤ (N : Nat) := by omega
        have zj := HZ.out j (by omega)
        have q5r := fr.row q5 (by simp)
        have hsr := hs.new fr
        go_wp2_with (with_reducible first | refine stop_load 24 rfl ?_ | refine stop_slice1 rfl ?_ | refine stop_append rfl ?_)
        refine Stopped.go (wl_loadw rfl 24 _ rfl b5 rfl row_act y.call.cells _ q5r info_act ?_)
        go_wp2_with fail
        refine (failed_rep F s d L a0 m y wr hsr HR.out.1 HR.out.2 ⟨hyc, hy3⟩ HT.out j (by omega) (-1)).mono ?_
        rintro e w20 ⟨rfl, f20⟩
        rw [HLT.out j (by omega)]
        have ho20 := f20.owns ho (by simp)
        have fr20 := fr.trans f20 (by simp)
        clear f20 ho fr q5r hsr
        have zz : (((bstr (lt j)).size : Int) == ((bstr L).size : Int)) = true := by rw [zj, zL]; simp
        go_wp2_with (with_reducible first | refine stop_slice1 rfl ?_ | refine stop_append rfl ?_)
        refine Stopped.go (wl_slice1 rfl 45 9 1 16 elem_string _ rfl (by omega) (.string (bstr (lt j))) rfl rfl ?_)
        intro w21 b21 l21 f21 r21
        go_wp2_with (with_reducible first | refine stop_slice1 rfl ?_ | refine stop_append rfl ?_)
        have ho21 := f21.owns ho20 (by simp)
        have hbase : wa.heap.size ≤ w21.heap.size := by have := fr20.size; have := f21.size; omega
        refine Stopped.go (wl_append rfl 45 9 1 16 elem_string _ _ rfl wa.heap.size (.slice adr j cp) _ _ rfl ho21 b21 1 1 [.string (bstr (lt j))] rfl _ _ r21 rfl rfl (by simp [Value.oneCell']) (by omega) (by omega) (by omega) hbase ?_)
        intro g' cap' w22 ho22 f22 _
        have fr22 := (fr20.trans f21 (by simp)).trans f22 (by intro i hi; right; simp at hi; exact (ho21.lt i hi).1)
        have ho23 : w22.ownsRow wa.heap.size 9 1 (.slice (some ⟨g', 0, none⟩) (j + 1) cap') (j + 1) (lcells (fun i => bstr (lt i)) (j + 1)) := by rw [lcells_succ]; exact ho22
        clear ho22 ho21 ho20 f21 f22 r21 l21 fr20 hbase zz
        rcases Nat.eq_zero_or_pos j with rfl | hpos
        · go_wp2_with fail
          go_roundw
          case rel => exact ⟨1, cap', _, by go_num, rfl, by omega, fr22, ho23⟩
          case measure => simp [intOf]
        · obtain ⟨k, rfl⟩ : ∃ k, j = k + 1 := ⟨j - 1, by omega⟩
          obtain ⟨g2, cur, hg2, hrow, _, _, hcell⟩ := own_cells ho23 (by omega)
          obtain rfl : g' = g2 := by simpa using hg2
          have c0 : w22.cell? ⟨g', k, none⟩ = some (.string (bstr (lt k))) := by rw [hrow.cell, hcell k (by omega)]
          have zk := HZ.out k (by omega)
          have hd1 := HT.out.d1 k (by omega)
          have HD1 : Hid (diffN (lt k) (lt (k + 1)) 200 ≤ 1) := hd1
          clear hd1 hcell hrow hg2
          go_wp2_with fail
          refine (differ_any (bstr (lt k)) (bstr (lt (k + 1))) 200 w22 zk zj (by omega)).mono ?_
          rintro e w24 ⟨rfl, f24⟩
          rw [diffS_eq]
          have fr24 := fr22.trans f24 (by simp)
          have ho24 := f24.owns ho23 (by simp)
          have hq := HD1.out
          generalize diffN (lt k) (lt (k + 1)) 200 = q at hq ⊢
          have hq1 : ¬ (1 < (q : Int)) := by omega
          clear f24 ho23 fr22 c0 HD1 hq
          go_wp2_with fail
          go_roundw
          case rel => exact ⟨k + 1 + 1, cap', _, by go_num, rfl, by omega, fr24, ho24⟩
          case measure => simp [intOf]; omega
      · obtain rfl : j = N + 1 := by omega
        obtain ⟨gl, cur, rfl, hrow, hcp, hcpm, hcell⟩ := own_cells ho (by omega)
        have zN : ((N + 1 : Nat) : Int) = (N : Int) + 1 := by omega
        have fwr := fw.trans fr (by simp)
        have hsr := hs.new fr
        have hur := hu.new fr
        have q5r := fr.row q5 (by simp)
        have e_0 : lt 0 = L := HT.out.d0
        have e_N : lt N = L' := HT.out.hi
        have c_0 : wr.cell? ⟨gl, 0, none⟩ = some (.string (bstr L)) := by rw [hrow.cell, hcell 0 (by omega), e_0]
        have c_N : wr.cell? ⟨gl, N, none⟩ = some (.string (bstr L')) := by rw [hrow.cell, hcell N (by omega), e_N]
        have HCELL : Hid (∀ i, i < N + 1 → cur[i]? = some (.string (bstr (lt i)))) := hcell
        clear hcell e_0 e_N fr ho fw hs hu q5
        go_wp2_with fail
        refine calm_begin (by kernel_rfl) (by kernel_rfl) ?_
        refine calm_val rfl (some 108) rfl (.slice (some ⟨gl, 0, none⟩) (N + 1) cp) (fun w' hw' => by go_simp) ?_
        simp only [Act.put, List.setIfInBounds_toArray, List.set_cons_succ, List.set_cons_zero]
        refine calm_val rfl (some 109) rfl (.pointer (some ⟨gl, 0, none⟩)) (fun w' hw' => by go_simp) ?_
        simp only [Act.put, List.setIfInBounds_toArray, List.set_cons_succ, List.set_cons_zero]
        refine calm_val rfl (some 110) rfl (.string (bstr L)) (fun w' hw' => by have cc := hw'.cell c_0 (by simp); go_simp) ?_
        simp only [Act.put, List.setIfInBounds_toArray, List.set_cons_succ, List.set_cons_zero]
        refine calm_val rfl (some 111) rfl (.string (bstr L)) (fun w' hw' => by go_simp) ?_
        simp only [Act.put, List.setIfInBounds_toArray, List.set_cons_succ, List.set_cons_zero]
        refine calm_val rfl (some 112) rfl (.bool false) (fun w' hw' => by go_simp) ?_
        simp only [Act.put, List.setIfInBounds_toArray, List.set_cons_succ, List.set_cons_zero]
        refine calm_val rfl (some 113) rfl (.bool false) (fun w' hw' => by go_simp) ?_
        simp only [Act.put, List.setIfInBounds_toArray, List.set_cons_succ, List.set_cons_zero]
        refine calm_want rfl (some 114) rfl (.slice (some ⟨gl, 0, none⟩) (N + 1) cp) (fun w' hw' => by go_simp) ?_
        simp only [Act.put, List.setIfInBounds_toArray, List.set_cons_succ, List.set_cons_zero]
        refine calm_want rfl (some 115) rfl (.int .i64 N) (fun w' hw' => by go_simp) ?_
        simp only [Act.put, List.setIfInBounds_toArray, List.set_cons_succ, List.set_cons_zero]
        refine calm_want rfl (some 116) rfl (.pointer (some ⟨gl, N, none⟩)) (fun w' hw' => by go_simp) ?_
        simp only [Act.put, List.setIfInBounds_toArray, List.set_cons_succ, List.set_cons_zero]
        refine calm_want rfl (some 117) rfl (.string (bstr L')) (fun w' hw' => by have cc := hw'.cell c_N (by simp); go_simp) ?_
        simp only [Act.put, List.setIfInBounds_toArray, List.set_cons_succ, List.set_cons_zero]
        refine calm_want rfl (some 118) rfl (.pointer (some ⟨t, 0, none⟩)) (fun w' hw' => by go_simp) ?_
        simp only [Act.put, List.setIfInBounds_toArray, List.set_cons_succ, List.set_cons_zero]
        refine calm_wantcall rfl (some 119) rfl 26 #[.pointer (some ⟨t, 0, none⟩)] (.string (bstr L')) (fun _ _ => by go_simp) (fun w' hw' => ?_) ?_
        · refine (sbytes_any Fu t td 200 _ w' (hur.new hw')).mono ?_
          rintro e w'' ⟨rfl, f⟩
          exact ⟨rfl, hw'.trans f (by simp)⟩
        simp only [Act.put, List.setIfInBounds_toArray, List.set_cons_succ, List.set_cons_zero]
        refine calm_want rfl (some 120) rfl (.bool false) (fun w' hw' => by go_simp) ?_
        simp only [Act.put, List.setIfInBounds_toArray, List.set_cons_succ, List.set_cons_zero]
        refine calm_val rfl (some 121) rfl (.bool false) (fun w' hw' => by go_simp) ?_
        simp only [Act.put, List.setIfInBounds_toArray, List.set_cons_succ, List.set_cons_zero]
        intro w30 f30
        replace fwr := fwr.trans f30 (by simp)
        have hrow30 := f30.row hrow (by simp)
        have q30 := f30.row q5r (by simp)
        have hs30 := hsr.new f30
        clear c_0 c_N hur f30 hrow q5r hsr
        go_wp2_with (with_reducible first | refine stop_load 24 rfl ?_)
        have hpick := pick_any fa (N + 1) w30 hfa.1 hfa.2 (by omega) (by omega)
        rw [zN] at hpick
        refine hpick.mono ?_
        rintro e w31 ⟨rfl, rfl⟩
        clear hpick zN
        have HFND : Hid (fnd lt (fateAt N L' g (pickD fa (N + 1)) 0) (pickD fa (N + 1)) = true) := fate_found HT.out _ (by omega)
        have HEACH : Hid (∀ s, s < 200 → foundS (fun i => bstr (lt i)) (bstr (fateAt N L' g (pickD fa (N + 1)) fk)) s (pickD fa (N + 1) + 1) = true) := fun s hs => fate_each HT.out _ (by omega) fk s hs
        generalize pickD fa (N + 1) = kk at haf HFND HEACH ⊢
        have hkN : kk ≤ N := by omega
        go_wp2_with (with_reducible first | refine stop_load 24 rfl ?_)
        refine Stopped.go (wl_loadw rfl 24 _ rfl b5 rfl row_act y.call.cells _ q30 info_act ?_)
        go_wp2_with (with_reducible first | refine stop_load 24 rfl ?_)
        refine (failed_rep F s d L a0 m y w31 hs30 HR.out.1 HR.out.2 ⟨hyc, hy3⟩ HT.out kk (by omega) 0).mono ?_
        rintro e w32 ⟨rfl, f32⟩
        have znn : (bstr (fateAt N L' g kk 0)).size = 64 * 200 := by rw [bstr_size, fate_len HT.out]
        generalize fateAt N L' g kk 0 = nn at HFND znn ⊢
        have q32 := f32.row q30 (by simp)
        have hs32 := hs30.new f32
        have hrow32 := f32.row hrow30 (by simp)
        replace fwr := fwr.trans f32 (by simp)
        clear q30 hs30 hrow30 f32
        go_wp2_with (with_reducible first | refine stop_load 24 rfl ?_)
        refine Stopped.go (wl_loadw rfl 24 _ rfl b5 rfl row_act y.call.cells _ q32 info_act ?_)
        go_wp2_with fail
        refine (failed_rep F s d L a0 m y w32 hs32 HR.out.1 HR.out.2 ⟨hyc, hy3⟩ HT.out kk (by omega) fk).mono ?_
        rintro e w33 ⟨rfl, f33⟩
        have zss : (bstr (fateAt N L' g kk fk)).size = 64 * 200 := by rw [bstr_size, fate_len HT.out]
        generalize fateAt N L' g kk fk = ss at HEACH zss ⊢
        have hrow33 := f33.row hrow32 (by simp)
        replace fwr := fwr.trans f33 (by simp)
        clear q32 hs32 hrow32 f33
        have z1 : (((bstr nn).size : Int) == ((bstr L).size : Int)) = true := by rw [znn, zL]; simp
        have z2 : (((bstr ss).size : Int) == ((bstr L).size : Int)) = true := by rw [zss, zL]; simp
        have e_0 : lt 0 = L := HT.out.d0
        have c_0 : w33.cell? ⟨gl, 0, none⟩ = some (.string (bstr (lt 0))) := by rw [hrow33.cell, HCELL.out 0 (by omega)]
        clear e_0
        go_wp2_with fail
        clear z1 z2 c_0
        go_loopw [22, 23] (fun v i wr => ∃ k : Nat, i = .int .i64 (k + 1 : Nat) ∧ k ≤ kk ∧ v = .bool (fnd lt nn k) ∧ Frm [] w33 wr) (fun _ i _ => kk + 1 - (intOf i).toNat)
        case atStart => exact ⟨0, rfl, by omega, rfl, Frm.refl _ _⟩
        case round =>
          obtain ⟨k, rfl, hk, rfl, fr2⟩ := hrel
          by_cases hlt2 : k < kk
          · have HF : Hid (fnd lt nn (k + 1) = (fnd lt nn k || (((bstr (lt (k + 1))).toList == (bstr nn).toList) && ((bstr (lt (k + 1))).toList == (bstr (lt k)).toList)))) := rfl
            have c_1 : wr.cell? ⟨gl, k + 1, none⟩ = some (.string (bstr (lt (k + 1)))) := by rw [(fr2.row hrow33 (by simp)).cell, HCELL.out (k + 1) (by omega)]
            have c_2 : wr.cell? ⟨gl, k, none⟩ = some (.string (bstr (lt k))) := by rw [(fr2.row hrow33 (by simp)).cell, HCELL.out k (by omega)]
            cases hf : fnd lt nn k with
            | true =>
              rw [hf] at HF
              go_wp2_with fail
              go_quiet (fail)
              have f2 : Frm [] wr (wr.drewN nq) := Frm.drewN _ _ _
              generalize wr.drewN nq = w40 at f2 ⊢
              have fr3 := fr2.trans f2 (by simp)
              clear c_1 c_2
              go_wp2_with fail
              go_roundw
              case rel => exact ⟨k + 1, by go_num, by omega, by rw [HF.out]; rfl, fr3⟩
              case measure => simp [intOf]; omega
            | false =>
              rw [hf] at HF
              cases h1 : ((bstr (lt (k + 1))).toList == (bstr nn).toList) with
              | true =>
                rw [h1] at HF
                go_wp2_with fail
                go_quiet (fail)
                have f2 : Frm [] wr (wr.drewN nq) := Frm.drewN _ _ _
                generalize wr.drewN nq = w40 at f2 ⊢
                have fr3 := fr2.trans f2 (by simp)
                clear c_1 c_2
                generalize hq : ((bstr (lt (k + 1))).toList == (bstr (lt k)).toList) = q at HF ⊢
                clear hq
                go_wp2_with fail
                go_roundw
                case rel => exact ⟨k + 1, by go_num, by omega, by rw [HF.out]; rfl, fr3⟩
                case measure => simp [intOf]; omega
              | false =>
                rw [h1] at HF
                go_wp2_with fail
                go_quiet (fail)
                have f2 : Frm [] wr (wr.drewN nq) := Frm.drewN _ _ _
                generalize wr.drewN nq = w40 at f2 ⊢
                have fr3 := fr2.trans f2 (by simp)
                clear c_1 c_2
                go_wp2_with fail
                go_roundw
                case rel => exact ⟨k + 1, by go_num, by omega, by rw [HF.out]; rfl, fr3⟩
                case measure => simp [intOf]; omega
          · obtain rfl : k = kk := by omega
            rw [HFND.out]
            have hrow40 := fr2.row hrow33 (by simp)
            have fw40 := fwr.trans fr2 (by simp)
            clear HFND
            go_wp2_with fail
            refine (each_true (bstr ss) (fun i => bstr (lt i)) 200 (k + 1) gl cp cur wr zss (by omega) (by omega) (by omega) hcpm hrow40 (fun i hi => HCELL.out i (by omega)) (fun i hi => HZ.out i (by omega)) HEACH.out).mono ?_
            rintro e w41 ⟨rfl, f41⟩
            have hrow41 := f41.row hrow40 (by simp)
            have fw41 := fw40.trans f41 (by simp)
            clear f41 hrow40 fw40 HEACH fr2 hrow33
            rcases Nat.eq_zero_or_pos N with hN0 | hN0
            · have hz : ((N : Int) == 0) = true := by rw [hN0]; rfl
              clear hN0
              go_wp2_with fail
              go_quiet (fail)
              have f2 : Frm [] w41 (w41.drewN nq) := Frm.drewN _ _ _
              generalize w41.drewN nq = w42 at f2 ⊢
              have fw42 := fw41.trans f2 (by simp)
              go_wp2_with fail
              all_goals
                go_ret
                exact ⟨rfl, fw42⟩
            · have hz : ((N : Int) == 0) = false := by rw [beq_eq_false_iff_ne]; omega
              obtain ⟨M, rfl⟩ : ∃ M, N = M + 1 := ⟨N - 1, by omega⟩
              have e_M : lt (M + 1) = lt M := HT.out.d3.resolve_left (by omega)
              have c_1 : w41.cell? ⟨gl, M + 1, none⟩ = some (.string (bstr (lt M))) := by rw [hrow41.cell, HCELL.out (M + 1) (by omega), e_M]
              have c_2 : w41.cell? ⟨gl, M, none⟩ = some (.string (bstr (lt M))) := by rw [hrow41.cell, HCELL.out M (by omega)]
              have hself : ((bstr (lt M)).toList == (bstr (lt M)).toList) = true := by simp
              have hz2 : ((M : Int) + 1 == 0) = false := by rw [beq_eq_false_iff_ne]; omega
              clear hN0 e_M
              go_wp2_with fail
              go_quiet (fail)
              have f2 : Frm [] w41 (w41.drewN nq) := Frm.drewN _ _ _
              generalize w41.drewN nq = w42 at f2 ⊢
              have fw42 := fw41.trans f2 (by simp)
              clear c_1 c_2
              go_wp2_with fail
              all_goals
                go_ret
                exact ⟨rfl, fw42⟩
  · skip
    have t1 : ¬ (0 < D) := by omega
    have t3 : ¬ (0 < N) := by omega
    clear hans hD0 hd5 hN0
    go_wp2_with fail
    clear t1 t3 he0
    generalize w13 = wa at q5 hs hu fw ⊢
    have HLT : Hid (∀ j, j ≤ N → fateAt N L' g j (-1) = lt j) := fun j hj => by
      unfold fateAt
      by_cases h : j < N
      · rw [if_pos h]; exact (HT.out.lo j h).symm
      · rw [if_neg h, show j = N by omega]; exact HT.out.hi.symm
    have HZ : Hid (∀ j, j ≤ N → (bstr (lt j)).size = 64 * 200) := fun j hj => by rw [← HLT.out j hj, bstr_size, fate_len HT.out]
    have hwa : w.heap.size ≤ wa.heap.size := fw.size
    go_loopw [15, 16] (fun u i wr => ∃ (j cp : Nat) (adr : Option Addr), i = .int .i64 j ∧ u = .slice adr j cp ∧ j ≤ N + 1 ∧ Frm [] wa wr ∧ wr.ownsRow wa.heap.size 9 1 (.slice adr j cp) j (lcells (fun i => bstr (lt i)) j)) (fun _ i _ => N + 1 - (intOf i).toNat)
    case atStart => exact ⟨0, 0, none, rfl, rfl, by omega, Frm.refl _ _, World.ownsRow_nil _ _ _ _⟩
    case round =>
      obtain ⟨j, cp, adr, rfl, rfl, hj, fr, ho⟩ := hrel
      by_cases hlt : j < N + 1
      · have hjN : (j : Int) ≤ (N : Nat) := by omega
        have zj := HZ.out j (by omega)
        have q5r := fr.row q5 (by simp)
        have hsr := hs.new fr
        go_wp2_with (with_reducible first | refine stop_load 24 rfl ?_ | refine stop_slice1 rfl ?_ | refine stop_append rfl ?_)
        refine Stopped.go (wl_loadw rfl 24 _ rfl b5 rfl row_act y.call.cells _ q5r info_act ?_)
        go_wp2_with fail
        refine (failed_rep F s d L a0 m y wr hsr HR.out.1 HR.out.2 ⟨hyc, hy3⟩ HT.out j (by omega) (-1)).mono ?_
        rintro e w20 ⟨rfl, f20⟩
        rw [HLT.out j (by omega)]
        have ho20 := f20.owns ho (by simp)
        have fr20 := fr.trans f20 (by simp)
        clear f20 ho fr q5r hsr
        have zz : (((bstr (lt j)).size : Int) == ((bstr L).size : Int)) = true := by rw [zj, zL]; simp
        go_wp2_with (with_reducible first | refine stop_slice1 rfl ?_ | refine stop_append rfl ?_)
        refine Stopped.go (wl_slice1 rfl 45 9 1 16 elem_string _ rfl (by omega) (.string (bstr (lt j))) rfl rfl ?_)
        intro w21 b21 l21 f21 r21
        go_wp2_with (with_reducible first | refine stop_slice1 rfl ?_ | refine stop_append rfl ?_)
        have ho21 := f21.owns ho20 (by simp)
        have hbase : wa.heap.size ≤ w21.heap.size := by have := fr20.size; have := f21.size; omega
        refine Stopped.go (wl_append rfl 45 9 1 16 elem_string _ _ rfl wa.heap.size (.slice adr j cp) _ _ rfl ho21 b21 1 1 [.string (bstr (lt j))] rfl _ _ r21 rfl rfl (by simp [Value.oneCell']) (by omega) (by omega) (by omega) hbase ?_)
        intro g' cap' w22 ho22 f22 _
        have fr22 := (fr20.trans f21 (by simp)).trans f22 (by intro i hi; right; simp at hi; exact (ho21.lt i hi).1)
        have ho23 : w22.ownsRow wa.heap.size 9 1 (.slice (some ⟨g', 0, none⟩) (j + 1) cap') (j + 1) (lcells (fun i => bstr (lt i)) (j + 1)) := by rw [lcells_succ]; exact ho22
        clear ho22 ho21 ho20 f21 f22 r21 l21 fr20 hbase zz
        rcases Nat.eq_zero_or_pos j with rfl | hpos
        · go_wp2_with fail
          go_roundw
          case rel => exact ⟨1, cap', _, by go_num, rfl, by omega, fr22, ho23⟩
          case measure => simp [intOf]
        · obtain ⟨k, rfl⟩ : ∃ k, j = k + 1 := ⟨j - 1, by omega⟩
          obtain ⟨g2, cur, hg2, hrow, _, _, hcell⟩ := own_cells ho23 (by omega)
          obtain rfl : g' = g2 := by simpa using hg2
          have c0 : w22.cell? ⟨g', k, none⟩ = some (.string (bstr (lt k))) := by rw [hrow.cell, hcell k (by omega)]
          have zk := HZ.out k (by omega)
          have hd1 := HT.out.d1 k (by omega)
          have HD1 : Hid (diffN (lt k) (lt (k + 1)) 200 ≤ 1) := hd1
          clear hd1 hcell hrow hg2
          go_wp2_with fail
          refine (differ_any (bstr (lt k)) (bstr (lt (k + 1))) 200 w22 zk zj (by omega)).mono ?_
          rintro e w24 ⟨rfl, f24⟩
          rw [diffS_eq]
          have fr24 := fr22.trans f24 (by simp)
          have ho24 := f24.owns ho23 (by simp)
          have hq := HD1.out
          generalize diffN (lt k) (lt (k + 1)) 200 = q at hq ⊢
          have hq1 : ¬ (1 < (q : Int)) := by omega
          clear f24 ho23 fr22 c0 HD1 hq
          go_wp2_with fail
          go_roundw
          case rel => exact ⟨k + 1 + 1, cap', _, by go_num, rfl, by omega, fr24, ho24⟩
          case measure => simp [intOf]; omega
      · obtain rfl : j = N + 1 := by omega
        obtain ⟨gl, cur, rfl, hrow, hcp, hcpm, hcell⟩ := own_cells ho (by omega)
        have zN : ((N + 1 : Nat) : Int) = (N : Int) + 1 := by omega
        have fwr := fw.trans fr (by simp)
        have hsr := hs.new fr
        have hur := hu.new fr
        have q5r := fr.row q5 (by simp)
        have e_0 : lt 0 = L := HT.out.d0
        have e_N : lt N = L' := HT.out.hi
        have c_0 : wr.cell? ⟨gl, 0, none⟩ = some (.string (bstr L)) := by rw [hrow.cell, hcell 0 (by omega), e_0]
        have c_N : wr.cell? ⟨gl, N, none⟩ = some (.string (bstr L')) := by rw [hrow.cell, hcell N (by omega), e_N]
        have HCELL : Hid (∀ i, i < N + 1 → cur[i]? = some (.string (bstr (lt i)))) := hcell
        clear hcell e_0 e_N fr ho fw hs hu q5
        go_wp2_with fail
        refine calm_begin (by kernel_rfl) (by kernel_rfl) ?_
        refine calm_val rfl (some 108) rfl (.slice (some ⟨gl, 0, none⟩) (N + 1) cp) (fun w' hw' => by go_simp) ?_
        simp only [Act.put, List.setIfInBounds_toArray, List.set_cons_succ, List.set_cons_zero]
        refine calm_val rfl (some 109) rfl (.pointer (some ⟨gl, 0, none⟩)) (fun w' hw' => by go_simp) ?_
        simp only [Act.put, List.setIfInBounds_toArray, List.set_cons_succ, List.set_cons_zero]
        refine calm_val rfl (some 110) rfl (.string (bstr L)) (fun w' hw' => by have cc := hw'.cell c_0 (by simp); go_simp) ?_
        simp only [Act.put, List.setIfInBounds_toArray, List.set_cons_succ, List.set_cons_zero]
        refine calm_val rfl (some 111) rfl (.string (bstr L)) (fun w' hw' => by go_simp) ?_
        simp only [Act.put, List.setIfInBounds_toArray, List.set_cons_succ, List.set_cons_zero]
        refine calm_val rfl (some 112) rfl (.bool false) (fun w' hw' => by go_simp) ?_
        simp only [Act.put, List.setIfInBounds_toArray, List.set_cons_succ, List.set_cons_zero]
        refine calm_val rfl (some 113) rfl (.bool false) (fun w' hw' => by go_simp) ?_
        simp only [Act.put, List.setIfInBounds_toArray, List.set_cons_succ, List.set_cons_zero]
        refine calm_want rfl (some 114) rfl (.slice (some ⟨gl, 0, none⟩) (N + 1) cp) (fun w' hw' => by go_simp) ?_
        simp only [Act.put, List.setIfInBounds_toArray, List.set_cons_succ, List.set_cons_zero]
        refine calm_want rfl (some 115) rfl (.int .i64 N) (fun w' hw' => by go_simp) ?_
        simp only [Act.put, List.setIfInBounds_toArray, List.set_cons_succ, List.set_cons_zero]
        refine calm_want rfl (some 116) rfl (.pointer (some ⟨gl, N, none⟩)) (fun w' hw' => by go_simp) ?_
        simp only [Act.put, List.setIfInBounds_toArray, List.set_cons_succ, List.set_cons_zero]
        refine calm_want rfl (some 117) rfl (.string (bstr L')) (fun w' hw' => by have cc := hw'.cell c_N (by simp); go_simp) ?_
        simp only [Act.put, List.setIfInBounds_toArray, List.set_cons_succ, List.set_cons_zero]
        refine calm_want rfl (some 118) rfl (.pointer (some ⟨t, 0, none⟩)) (fun w' hw' => by go_simp) ?_
        simp only [Act.put, List.setIfInBounds_toArray, List.set_cons_succ, List.set_cons_zero]
        refine calm_wantcall rfl (some 119) rfl 26 #[.pointer (some ⟨t, 0, none⟩)] (.string (bstr L')) (fun _ _ => by go_simp) (fun w' hw' => ?_) ?_
        · refine (sbytes_any Fu t td 200 _ w' (hur.new hw')).mono ?_
          rintro e w'' ⟨rfl, f⟩
          exact ⟨rfl, hw'.trans f (by simp)⟩
        simp only [Act.put, List.setIfInBounds_toArray, List.set_cons_succ, List.set_cons_zero]
        refine calm_want rfl (some 120) rfl (.bool false) (fun w' hw' => by go_simp) ?_
        simp only [Act.put, List.setIfInBounds_toArray, List.set_cons_succ, List.set_cons_zero]
        refine calm_val rfl (some 121) rfl (.bool false) (fun w' hw' => by go_simp) ?_
        simp only [Act.put, List.setIfInBounds_toArray, List.set_cons_succ, List.set_cons_zero]
        intro w30 f30
        replace fwr := fwr.trans f30 (by simp)
        have hrow30 := f30.row hrow (by simp)
        have q30 := f30.row q5r (by simp)
        have hs30 := hsr.new f30
        clear c_0 c_N hur f30 hrow q5r hsr
        go_wp2_with (with_reducible first | refine stop_load 24 rfl ?_)
        have hpick := pick_any fa (N + 1) w30 hfa.1 hfa.2 (by omega) (by omega)
        rw [zN] at hpick
        refine hpick.mono ?_
        rintro e w31 ⟨rfl, rfl⟩
        clear hpick zN
        have HFND : Hid (fnd lt (fateAt N L' g (pickD fa (N + 1)) 0) (pickD fa (N + 1)) = true) := fate_found HT.out _ (by omega)
        have HEACH : Hid (∀ s, s < 200 → foundS (fun i => bstr (lt i)) (bstr (fateAt N L' g (pickD fa (N + 1)) fk)) s (pickD fa (N + 1) + 1) = true) := fun s hs => fate_each HT.out _ (by omega) fk s hs
        generalize pickD fa (N + 1) = kk at haf HFND HEACH ⊢
        have hkN : kk ≤ N := by omega
        go_wp2_with (with_reducible first | refine stop_load 24 rfl ?_)
        refine Stopped.go (wl_loadw rfl 24 _ rfl b5 rfl row_act y.call.cells _ q30 info_act ?_)
        go_wp2_with (with_reducible first | refine stop_load 24 rfl ?_)
        refine (failed_rep F s d L a0 m y w31 hs30 HR.out.1 HR.out.2 ⟨hyc, hy3⟩ HT.out kk (by omega) 0).mono ?_
        rintro e w32 ⟨rfl, f32⟩
        have znn : (bstr (fateAt N L' g kk 0)).size = 64 * 200 := by rw [bstr_size, fate_len HT.out]
        generalize fateAt N L' g kk 0 = nn at HFND znn ⊢
        have q32 := f32.row q30 (by simp)
        have hs32 := hs30.new f32
        have hrow32 := f32.row hrow30 (by simp)
        replace fwr := fwr.trans f32 (by simp)
        clear q30 hs30 hrow30 f32
        go_wp2_with (with_reducible first | refine stop_load 24 rfl ?_)
        refine Stopped.go (wl_loadw rfl 24 _ rfl b5 rfl row_act y.call.cells _ q32 info_act ?_)
        go_wp2_with fail
        refine (failed_rep F s d L a0 m y w32 hs32 HR.out.1 HR.out.2 ⟨hyc, hy3⟩ HT.out kk (by omega) fk).mono ?_
        rintro e w33 ⟨rfl, f33⟩
        have zss : (bstr (fateAt N L' g kk fk)).size = 64 * 200 := by rw [bstr_size, fate_len HT.out]
        generalize fateAt N L' g kk fk = ss at HEACH zss ⊢
        have hrow33 := f33.row hrow32 (by simp)
        replace fwr := fwr.trans f33 (by simp)
        clear q32 hs32 hrow32 f33
        have z1 : (((bstr nn).size : Int) == ((bstr L).size : Int)) = true := by rw [znn, zL]; simp
        have z2 : (((bstr ss).size : Int) == ((bstr L).size : Int)) = true := by rw [zss, zL]; simp
        have e_0 : lt 0 = L := HT.out.d0
        have c_0 : w33.cell? ⟨gl, 0, none⟩ = some (.string (bstr (lt 0))) := by rw [hrow33.cell, HCELL.out 0 (by omega)]
        clear e_0
        go_wp2_with fail
        clear z1 z2 c_0
        go_loopw [22, 23] (fun v i wr => ∃ k : Nat, i = .int .i64 (k + 1 : Nat) ∧ k ≤ kk ∧ v = .bool (fnd lt nn k) ∧ Frm [] w33 wr) (fun _ i _ => kk + 1 - (intOf i).toNat)
        case atStart => exact ⟨0, rfl, by omega, rfl, Frm.refl _ _⟩
        case round =>
          obtain ⟨k, rfl, hk, rfl, fr2⟩ := hrel
          by_cases hlt2 : k < kk
          · have HF : Hid (fnd lt nn (k + 1) = (fnd lt nn k || (((bstr (lt (k + 1))).toList == (bstr nn).toList) && ((bstr (lt (k + 1))).toList == (bstr (lt k)).toList)))) := rfl
            have c_1 : wr.cell? ⟨gl, k + 1, none⟩ = some (.string (bstr (lt (k + 1)))) := by rw [(fr2.row hrow33 (by simp)).cell, HCELL.out (k + 1) (by omega)]
            have c_2 : wr.cell? ⟨gl, k, none⟩ = some (.string (bstr (lt k))) := by rw [(fr2.row hrow33 (by simp)).cell, HCELL.out k (by omega)]
            cases hf : fnd lt nn k with
            | true =>
              rw [hf] at HF
              go_wp2_with fail
              go_quiet (fail)
              have f2 : Frm [] wr (wr.drewN nq) := Frm.drewN _ _ _
              generalize wr.drewN nq = w40 at f2 ⊢
              have fr3 := fr2.trans f2 (by simp)
              clear c_1 c_2
              go_wp2_with fail
              go_roundw
              case rel => exact ⟨k + 1, by go_num, by omega, by rw [HF.out]; rfl, fr3⟩
              case measure => simp [intOf]; omega
            | false =>
              rw [hf] at HF
              cases h1 : ((bstr (lt (k + 1))).toList == (bstr nn).toList) with
              | true =>
                rw [h1] at HF
                go_wp2_with fail
                go_quiet (fail)
                have f2 : Frm [] wr (wr.drewN nq) := Frm.drewN _ _ _
                generalize wr.drewN nq = w40 at f2 ⊢
                have fr3 := fr2.trans f2 (by simp)
                clear c_1 c_2
                generalize hq : ((bstr (lt (k + 1))).toList == (bstr (lt k)).toList) = q at HF ⊢
                clear hq
                go_wp2_with fail
                go_roundw
                case rel => exact ⟨k + 1, by go_num, by omega, by rw [HF.out]; rfl, fr3⟩
                case measure => simp [intOf]; omega
              | false =>
                rw [h1] at HF
                go_wp2_with fail
                go_quiet (fail)
                have f2 : Frm [] wr (wr.drewN nq) := Frm.drewN _ _ _
                generalize wr.drewN nq = w40 at f2 ⊢
                have fr3 := fr2.trans f2 (by simp)
                clear c_1 c_2
                go_wp2_with fail
                go_roundw
                case rel => exact ⟨k + 1, by go_num, by omega, by rw [HF.out]; rfl, fr3⟩
                case measure => simp [intOf]; omega
          · obtain rfl : k = kk := by omega
            rw [HFND.out]
            have hrow40 := fr2.row hrow33 (by simp)
            have fw40 := fwr.trans fr2 (by simp)
            clear HFND
            go_wp2_with fail
            refine (each_true (bstr ss) (fun i => bstr (lt i)) 200 (k + 1) gl cp cur wr zss (by omega) (by omega) (by omega) hcpm hrow40 (fun i hi => HCELL.out i (by omega)) (fun i hi => HZ.out i (by omega)) HEACH.out).mono ?_
            rintro e w41 ⟨rfl, f41⟩
            have hrow41 := f41.row hrow40 (by simp)
            have fw41 := fw40.trans f41 (by simp)
            clear f41 hrow40 fw40 HEACH fr2 hrow33
            rcases Nat.eq_zero_or_pos N with hN0 | hN0
            · have hz : ((N : Int) == 0) = true := by rw [hN0]; rfl
              clear hN0
              go_wp2_with fail
              go_quiet (fail)
              have f2 : Frm [] w41 (w41.drewN nq) := Frm.drewN _ _ _
              generalize w41.drewN nq = w42 at f2 ⊢
              have fw42 := fw41.trans f2 (by simp)
              go_wp2_with fail
              all_goals
                go_ret
                exact ⟨rfl, fw42⟩
            · have hz : ((N : Int) == 0) = false := by rw [beq_eq_false_iff_ne]; omega
              obtain ⟨M, rfl⟩ : ∃ M, N = M + 1 := ⟨N - 1, by omega⟩
              have e_M : lt (M + 1) = lt M := HT.out.d3.resolve_left (by omega)
              have c_1 : w41.cell? ⟨gl, M + 1, none⟩ = some (.string (bstr (lt M))) := by rw [hrow41.cell, HCELL.out (M + 1) (by omega), e_M]
              have c_2 : w41.cell? ⟨gl, M, none⟩ = some (.string (bstr (lt M))) := by rw [hrow41.cell, HCELL.out M (by omega)]
              have hself : ((bstr (lt M)).toList == (bstr (lt M)).toList) = true := by simp
              have hz2 : ((M : Int) + 1 == 0) = false := by rw [beq_eq_false_iff_ne]; omega
              clear hN0 e_M
              go_wp2_with fail
              go_quiet (fail)
              have f2 : Frm [] w41 (w41.drewN nq) := Frm.drewN _ _ _
              generalize w41.drewN nq = w42 at f2 ⊢
              have fw42 := fw41.trans f2 (by simp)
              clear c_1 c_2
              go_wp2_with fail
              all_goals
                go_ret
                exact ⟨rfl, fw42⟩
  · skip
    have t3 : 0 < N := by omega
    have t4 : ¬ ((N : Int) - 1 < (D : Int)) := by omega
    clear hans hd5 hN2
    go_wp2_with fail
    clear t1 t3 t4 he0
    generalize w13 = wa at q5 hs hu fw ⊢
    have HLT : Hid (∀ j, j ≤ N → fateAt N L' g j (-1) = lt j) := fun j hj => by
      unfold fateAt
      by_cases h : j < N
      · rw [if_pos h]; exact (HT.out.lo j h).symm
      · rw [if_neg h, show j = N by omega]; exact HT.out.hi.symm
    have HZ : Hid (∀ j, j ≤ N → (bstr (lt j)).size = 64 * 200) := fun j hj => by rw [← HLT.out j hj, bstr_size, fate_len HT.out]
    have hwa : w.heap.size ≤ wa.heap.size := fw.size
    go_loopw [15, 16] (fun u i wr => ∃ (j cp : Nat) (adr : Option Addr), i = .int .i64 j ∧ u = .slice adr j cp ∧ j ≤ N + 1 ∧ Frm [] wa wr ∧ wr.ownsRow wa.heap.size 9 1 (.slice adr j cp) j (lcells (fun i => bstr (lt i)) j)) (fun _ i _ => N + 1 - (intOf i).toNat)
    case atStart => exact ⟨0, 0, none, rfl, rfl, by omega, Frm.refl _ _, World.ownsRow_nil _ _ _ _⟩
    case round =>
      obtain ⟨j, cp, adr, rfl, rfl, hj, fr, ho⟩ := hrel
      by_cases hlt : j < N + 1
      · have hjN : (j : Int) ≤ (N : Nat) := by omega
        have zj := HZ.out j (by omega)
        have q5r := fr.row q5 (by simp)
        have hsr := hs.new fr
        go_wp2_with (with_reducible first | refine stop_load 24 rfl ?_ | refine stop_slice1 rfl ?_ | refine stop_append rfl ?_)
        refine Stopped.go (wl_loadw rfl 24 _ rfl b5 rfl row_act y.call.cells _ q5r info_act ?_)
        go_wp2_with fail
        refine (failed_rep F s d L a0 m y wr hsr HR.out.1 HR.out.2 ⟨hyc, hy3⟩ HT.out j (by omega) (-1)).mono ?_
        rintro e w20 ⟨rfl, f20⟩
        rw [HLT.out j (by omega)]
        have ho20 := f20.owns ho (by simp)
        have fr20 := fr.trans f20 (by simp)
        clear f20 ho fr q5r hsr
        have zz : (((bstr (lt j)).size : Int) == ((bstr L).size : Int)) = true := by rw [zj, zL]; simp
        go_wp2_with (with_reducible first | refine stop_slice1 rfl ?_ | refine stop_append rfl ?_)
        refine Stopped.go (wl_slice1 rfl 45 9 1 16 elem_string _ rfl (by omega) (.string (bstr (lt j))) rfl rfl ?_)
        intro w21 b21 l21 f21 r21
        go_wp2_with (with_reducible first | refine stop_slice1 rfl ?_ | refine stop_append rfl ?_)
        have ho21 := f21.owns ho20 (by simp)
        have hbase : wa.heap.size ≤ w21.heap.size := by have := fr20.size; have := f21.size; omega
        refine Stopped.go (wl_append rfl 45 9 1 16 elem_string _ _ rfl wa.heap.size (.slice adr j cp) _ _ rfl ho21 b21 1 1 [.string (bstr (lt j))] rfl _ _ r21 rfl rfl (by simp [Value.oneCell']) (by omega) (by omega) (by omega) hbase ?_)
        intro g' cap' w22 ho22 f22 _
        have fr22 := (fr20.trans f21 (by simp)).trans f22 (by intro i hi; right; simp at hi; exact (ho21.lt i hi).1)
        have ho23 : w22.ownsRow wa.heap.size 9 1 (.slice (some ⟨g', 0, none⟩) (j + 1) cap') (j + 1) (lcells (fun i => bstr (lt i)) (j + 1)) := by rw [lcells_succ]; exact ho22
        clear ho22 ho21 ho20 f21 f22 r21 l21 fr20 hbase zz
        rcases Nat.eq_zero_or_pos j with rfl | hpos
        · go_wp2_with fail
          go_roundw
          case rel => exact ⟨1, cap', _, by go_num, rfl, by omega, fr22, ho23⟩
          case measure => simp [intOf]
        · obtain ⟨k, rfl⟩ : ∃ k, j = k + 1 := ⟨j - 1, by omega⟩
          obtain ⟨g2, cur, hg2, hrow, _, _, hcell⟩ := own_cells ho23 (by omega)
          obtain rfl : g' = g2 := by simpa using hg2
          have c0 : w22.cell? ⟨g', k, none⟩ = some (.string (bstr (lt k))) := by rw [hrow.cell, hcell k (by omega)]
          have zk := HZ.out k (by omega)
          have hd1 := HT.out.d1 k (by omega)
          have HD1 : Hid (diffN (lt k) (lt (k + 1)) 200 ≤ 1) := hd1
          clear hd1 hcell hrow hg2
          go_wp2_with fail
          refine (differ_any (bstr (lt k)) (bstr (lt (k + 1))) 200 w22 zk zj (by omega)).mono ?_
          rintro e w24 ⟨rfl, f24⟩
          rw [diffS_eq]
          have fr24 := fr22.trans f24 (by simp)
          have ho24 := f24.owns ho23 (by simp)
          have hq := HD1.out
          generalize diffN (lt k) (lt (k + 1)) 200 = q at hq ⊢
          have hq1 : ¬ (1 < (q : Int)) := by omega
          clear f24 ho23 fr22 c0 HD1 hq
          go_wp2_with fail
          go_roundw
          case rel => exact ⟨k + 1 + 1, cap', _, by go_num, rfl, by omega, fr24, ho24⟩
          case measure => simp [intOf]; omega
      · obtain rfl : j = N + 1 := by omega
        obtain ⟨gl, cur, rfl, hrow, hcp, hcpm, hcell⟩ := own_cells ho (by omega)
        have zN : ((N + 1 : Nat) : Int) = (N : Int) + 1 := by omega
        have fwr := fw.trans fr (by simp)
        have hsr := hs.new fr
        have hur := hu.new fr
        have q5r := fr.row q5 (by simp)
        have e_0 : lt 0 = L := HT.out.d0
        have e_N : lt N = L' := HT.out.hi
        have c_0 : wr.cell? ⟨gl, 0, none⟩ = some (.string (bstr L)) := by rw [hrow.cell, hcell 0 (by omega), e_0]
        have c_N : wr.cell? ⟨gl, N, none⟩ = some (.string (bstr L')) := by rw [hrow.cell, hcell N (by omega), e_N]
        have HCELL : Hid (∀ i, i < N + 1 → cur[i]? = some (.string (bstr (lt i)))) := hcell
        clear hcell e_0 e_N fr ho fw hs hu q5
        go_wp2_with fail
        refine calm_begin (by kernel_rfl) (by kernel_rfl) ?_
        refine calm_val rfl (some 108) rfl (.slice (some ⟨gl, 0, none⟩) (N + 1) cp) (fun w' hw' => by go_simp) ?_
        simp only [Act.put, List.setIfInBounds_toArray, List.set_cons_succ, List.set_cons_zero]
        refine calm_val rfl (some 109) rfl (.pointer (some ⟨gl, 0, none⟩)) (fun w' hw' => by go_simp) ?_
        simp only [Act.put, List.setIfInBounds_toArray, List.set_cons_succ, List.set_cons_zero]
        refine calm_val rfl (some 110) rfl (.string (bstr L)) (fun w' hw' => by have cc := hw'.cell c_0 (by simp); go_simp) ?_
        simp only [Act.put, List.setIfInBounds_toArray, List.set_cons_succ, List.set_cons_zero]
        refine calm_val rfl (some 111) rfl (.string (bstr L)) (fun w' hw' => by go_simp) ?_
        simp only [Act.put, List.setIfInBounds_toArray, List.set_cons_succ, List.set_cons_zero]
        refine calm_val rfl (some 112) rfl (.bool false) (fun w' hw' => by go_simp) ?_
        simp only [Act.put, List.setIfInBounds_toArray, List.set_cons_succ, List.set_cons_zero]
        refine calm_val rfl (some 113) rfl (.bool false) (fun w' hw' => by go_simp) ?_
        simp only [Act.put, List.setIfInBounds_toArray, List.set_cons_succ, List.set_cons_zero]
        refine calm_want rfl (some 114) rfl (.slice (some ⟨gl, 0, none⟩) (N + 1) cp) (fun w' hw' => by go_simp) ?_
        simp only [Act.put, List.setIfInBounds_toArray, List.set_cons_succ, List.set_cons_zero]
        refine calm_want rfl (some 115) rfl (.int .i64 N) (fun w' hw' => by go_simp) ?_
        simp only [Act.put, List.setIfInBounds_toArray, List.set_cons_succ, List.set_cons_zero]
        refine calm_want rfl (some 116) rfl (.pointer (some ⟨gl, N, none⟩)) (fun w' hw' => by go_simp) ?_
        simp only [Act.put, List.setIfInBounds_toArray, List.set_cons_succ, List.set_cons_zero]
        refine calm_want rfl (some 117) rfl (.string (bstr L')) (fun w' hw' => by have cc := hw'.cell c_N (by simp); go_simp) ?_
        simp only [Act.put, List.setIfInBounds_toArray, List.set_cons_succ, List.set_cons_zero]
        refine calm_want rfl (some 118) rfl (.pointer (some ⟨t, 0, none⟩)) (fun w' hw' => by go_simp) ?_
        simp only [Act.put, List.setIfInBounds_toArray, List.set_cons_succ, List.set_cons_zero]
        refine calm_wantcall rfl (some 119) rfl 26 #[.pointer (some ⟨t, 0, none⟩)] (.string (bstr L')) (fun _ _ => by go_simp) (fun w' hw' => ?_) ?_
        · refine (sbytes_any Fu t td 200 _ w' (hur.new hw')).mono ?_
          rintro e w'' ⟨rfl, f⟩
          exact ⟨rfl, hw'.trans f (by simp)⟩
        simp only [Act.put, List.setIfInBounds_toArray, List.set_cons_succ, List.set_cons_zero]
        refine calm_want rfl (some 120) rfl (.bool false) (fun w' hw' => by go_simp) ?_
        simp only [Act.put, List.setIfInBounds_toArray, List.set_cons_succ, List.set_cons_zero]
        refine calm_val rfl (some 121) rfl (.bool false) (fun w' hw' => by go_simp) ?_
        simp only [Act.put, List.setIfInBounds_toArray, List.set_cons_succ, List.set_cons_zero]
        intro w30 f30
        replace fwr := fwr.trans f30 (by simp)
        have hrow30 := f30.row hrow (by simp)
        have q30 := f30.row q5r (by simp)
        have hs30 := hsr.new f30
        clear c_0 c_N hur f30 hrow q5r hsr
        go_wp2_with (with_reducible first | refine stop_load 24 rfl ?_)
        have hpick := pick_any fa (N + 1) w30 hfa.1 hfa.2 (by omega) (by omega)
        rw [zN] at hpick
        refine hpick.mono ?_
        rintro e w31 ⟨rfl, rfl⟩
        clear hpick zN
        have HFND : Hid (fnd lt (fateAt N L' g (pickD fa (N + 1)) 0) (pickD fa (N + 1)) = true) := fate_found HT.out _ (by omega)
        have HEACH : Hid (∀ s, s < 200 → foundS (fun i => bstr (lt i)) (bstr (fateAt N L' g (pickD fa (N + 1)) fk)) s (pickD fa (N + 1) + 1) = true) := fun s hs => fate_each HT.out _ (by omega) fk s hs
        generalize pickD fa (N + 1) = kk at haf HFND HEACH ⊢
        have hkN : kk ≤ N := by omega
        go_wp2_with (with_reducible first | refine stop_load 24 rfl ?_)
        refine Stopped.go (wl_loadw rfl 24 _ rfl b5 rfl row_act y.call.cells _ q30 info_act ?_)
        go_wp2_with (with_reducible first | refine stop_load 24 rfl ?_)
        refine (failed_rep F s d L a0 m y w31 hs30 HR.out.1 HR.out.2 ⟨hyc, hy3⟩ HT.out kk (by omega) 0).mono ?_
        rintro e w32 ⟨rfl, f32⟩
        have znn : (bstr (fateAt N L' g kk 0)).size = 64 * 200 := by rw [bstr_size, fate_len HT.out]
        generalize fateAt N L' g kk 0 = nn at HFND znn ⊢
        have q32 := f32.row q30 (by simp)
        have hs32 := hs30.new f32
        have hrow32 := f32.row hrow30 (by simp)
        replace fwr := fwr.trans f32 (by simp)
        clear q30 hs30 hrow30 f32
        go_wp2_with (with_reducible first | refine stop_load 24 rfl ?_)
        refine Stopped.go (wl_loadw rfl 24 _ rfl b5 rfl row_act y.call.cells _ q32 info_act ?_)
        go_wp2_with fail
        refine (failed_rep F s d L a0 m y w32 hs32 HR.out.1 HR.out.2 ⟨hyc, hy3⟩ HT.out kk (by omega) fk).mono ?_
        rintro e w33 ⟨rfl, f33⟩
        have zss : (bstr (fateAt N L' g kk fk)).size = 64 * 200 := by rw [bstr_size, fate_len HT.out]
        generalize fateAt N L' g kk fk = ss at HEACH zss ⊢
        have hrow33 := f33.row hrow32 (by simp)
        replace fwr := fwr.trans f33 (by simp)
        clear q32 hs32 hrow32 f33
        have z1 : (((bstr nn).size : Int) == ((bstr L).size : Int)) = true := by rw [znn, zL]; simp
        have z2 : (((bstr ss).size : Int) == ((bstr L).size : Int)) = true := by rw [zss, zL]; simp
        have e_0 : lt 0 = L := HT.out.d0
        have c_0 : w33.cell? ⟨gl, 0, none⟩ = some (.string (bstr (lt 0))) := by rw [hrow33.cell, HCELL.out 0 (by omega)]
        clear e_0
        go_wp2_with fail
        clear z1 z2 c_0
        go_loopw [22, 23] (fun v i wr => ∃ k : Nat, i = .int .i64 (k + 1 : Nat) ∧ k ≤ kk ∧ v = .bool (fnd lt nn k) ∧ Frm [] w33 wr) (fun _ i _ => kk + 1 - (intOf i).toNat)
        case atStart => exact ⟨0, rfl, by omega, rfl, Frm.refl _ _⟩
        case round =>
          obtain ⟨k, rfl, hk, rfl, fr2⟩ := hrel
          by_cases hlt2 : k < kk
          · have HF : Hid (fnd lt nn (k + 1) = (fnd lt nn k || (((bstr (lt (k + 1))).toList == (bstr nn).toList) && ((bstr (lt (k + 1))).toList == (bstr (lt k)).toList)))) := rfl
            have c_1 : wr.cell? ⟨gl, k + 1, none⟩ = some (.string (bstr (lt (k + 1)))) := by rw [(fr2.row hrow33 (by simp)).cell, HCELL.out (k + 1) (by omega)]
            have c_2 : wr.cell? ⟨gl, k, none⟩ = some (.string (bstr (lt k))) := by rw [(fr2.row hrow33 (by simp)).cell, HCELL.out k (by omega)]
            cases hf : fnd lt nn k with
            | true =>
              rw [hf] at HF
              go_wp2_with fail
              go_quiet (fail)
              have f2 : Frm [] wr (wr.drewN nq) := Frm.drewN _ _ _
              generalize wr.drewN nq = w40 at f2 ⊢
              have fr3 := fr2.trans f2 (by simp)
              clear c_1 c_2
              go_wp2_with fail
              go_roundw
              case rel => exact ⟨k + 1, by go_num, by omega, by rw [HF.out]; rfl, fr3⟩
              case measure => simp [intOf]; omega
            | false =>
              rw [hf] at HF
              cases h1 : ((bstr (lt (k + 1))).toList == (bstr nn).toList) with
              | true =>
                rw [h1] at HF
                go_wp2_with fail
                go_quiet (fail)
                have f2 : Frm [] wr (wr.drewN nq) := Frm.drewN _ _ _
                generalize wr.drewN nq = w40 at f2 ⊢
                have fr3 := fr2.trans f2 (by simp)
                clear c_1 c_2
                generalize hq : ((bstr (lt (k + 1))).toList == (bstr (lt k)).toList) = q at HF ⊢
                clear hq
                go_wp2_with fail
                go_roundw
                case rel => exact ⟨k + 1, by go_num, by omega, by rw [HF.out]; rfl, fr3⟩
                case measure => simp [intOf]; omega
              | false =>
                rw [h1] at HF
                go_wp2_with fail
                go_quiet (fail)
                have f2 : Frm [] wr (wr.drewN nq) := Frm.drewN _ _ _
                generalize wr.drewN nq = w40 at f2 ⊢
                have fr3 := fr2.trans f2 (by simp)
                clear c_1 c_2
                go_wp2_with fail
                go_roundw
                case rel => exact ⟨k + 1, by go_num, by omega, by rw [HF.out]; rfl, fr3⟩
                case measure => simp [intOf]; omega
          · obtain rfl : k = kk := by omega
            rw [HFND.out]
            have hrow40 := fr2.row hrow33 (by simp)
            have fw40 := fwr.trans fr2 (by simp)
            clear HFND
            go_wp2_with fail
            refine (each_true (bstr ss) (fun i => bstr (lt i)) 200 (k + 1) gl cp cur wr zss (by omega) (by omega) (by omega) hcpm hrow40 (fun i hi => HCELL.out i (by omega)) (fun i hi => HZ.out i (by omega)) HEACH.out).mono ?_
            rintro e w41 ⟨rfl, f41⟩
            have hrow41 := f41.row hrow40 (by simp)
            have fw41 := fw40.trans f41 (by simp)
            clear f41 hrow40 fw40 HEACH fr2 hrow33
            rcases Nat.eq_zero_or_pos N with hN0 | hN0
            · have hz : ((N : Int) == 0) = true := by rw [hN0]; rfl
              clear hN0
              go_wp2_with fail
              go_quiet (fail)
              have f2 : Frm [] w41 (w41.drewN nq) := Frm.drewN _ _ _
              generalize w41.drewN nq = w42 at f2 ⊢
              have fw42 := fw41.trans f2 (by simp)
              go_wp2_with fail
              all_goals
                go_ret
                exact ⟨rfl, fw42⟩
            · have hz : ((N : Int) == 0) = false := by rw [beq_eq_false_iff_ne]; omega
              obtain ⟨M, rfl⟩ : ∃ M, N = M + 1 := ⟨N - 1, by omega⟩
              have e_M : lt (M + 1) = lt M := HT.out.d3.resolve_left (by omega)
              have c_1 : w41.cell? ⟨gl, M + 1, none⟩ = some (.string (bstr (lt M))) := by rw [hrow41.cell, HCELL.out (M + 1) (by omega), e_M]
              have c_2 : w41.cell? ⟨gl, M, none⟩ = some (.string (bstr (lt M))) := by rw [hrow41.cell, HCELL.out M (by omega)]
              have hself : ((bstr (lt M)).toList == (bstr (lt M)).toList) = true := by simp
              have hz2 : ((M : Int) + 1 == 0) = false := by rw [beq_eq_false_iff_ne]; omega
              clear hN0 e_M
              go_wp2_with fail
              go_quiet (fail)
              have f2 : Frm [] w41 (w41.drewN nq) := Frm.drewN _ _ _
              generalize w41.drewN nq = w42 at f2 ⊢
              have fw42 := fw41.trans f2 (by simp)
              clear c_1 c_2
              go_wp2_with fail
              all_goals
                go_ret
                exact ⟨rfl, fw42⟩

end Go.Proofs.YtchcmhodnkgojaaGreat
