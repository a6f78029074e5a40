/- seen of the statements: all files by set and path. -/
import Derived.Test.YtchcmhodnkgojaaGreatSame
import Derived.Test.YtchcmhodnkgojaaGreatFalls
import Derived.Laws.ResultCell
import Derived.BigQuiet
set_option linter.all false
namespace Go.Proofs.YtchcmhodnkgojaaGreat
open Go.RowKit Go.Lib

def cellOf (r : Option (List UInt8)) : List UInt8 := match r with
  | none => []
  | some c => 43 :: c
/-- What a store holds, by set and path. -/
def DS.at (x : DS) (n q : Nat) : Option (List UInt8) := x.content n ((q / 7 : Nat) : Int) (pathD (q % 7))
def stTo (c : Nat → Option (List UInt8)) (q : Nat) : List (List UInt8) := (List.range 21).map fun i => if i < q then cellOf (c i) else []
def DS.state (x : DS) (n : Nat) : List (List UInt8) := stTo (x.at n) 21
theorem stTo_len (c : Nat → Option (List UInt8)) (q : Nat) : (stTo c q).length = 21 := by simp [stTo]
theorem stTo_none (c : Nat → Option (List UInt8)) (q : Nat) (h : c q = none) : stTo c (q + 1) = stTo c q := by
  unfold stTo
  apply List.map_congr_left
  intro i _
  by_cases h1 : i < q
  · rw [if_pos h1, if_pos (by omega)]
  · by_cases h2 : i = q
    · subst h2
      rw [if_pos (by omega), if_neg h1, h]; rfl
    · rw [if_neg h1, if_neg (by omega)]
theorem stTo_some (c : Nat → Option (List UInt8)) (q : Nat) (t : List UInt8) (h : c q = some t) : sstr (stTo c (q + 1)) = (sstr (stTo c q)).setIfInBounds q (.string (bstr (43 :: t))) := by
  apply Array.ext_getElem?
  intro i
  rw [Array.getElem?_setIfInBounds, sstr_size, stTo_len]
  by_cases h1 : i < 21
  · rw [sstr_get _ i (by rw [stTo_len]; exact h1), sstr_get _ i (by rw [stTo_len]; exact h1)]
    by_cases h2 : q = i
    · subst h2
      rw [if_pos rfl, if_pos h1]
      simp [stTo, h, cellOf]
    · rw [if_neg h2]
      by_cases h3 : i < q
      · simp [stTo, h3, show i < q + 1 by omega]
      · simp [stTo, h3, show ¬ i < q + 1 by omega]
  · rw [Array.getElem?_eq_none (by rw [sstr_size, stTo_len]; omega), Array.getElem?_eq_none (by rw [sstr_size, stTo_len]; omega)]
    by_cases h2 : q = i
    · rw [if_pos h2, if_neg (by omega)]
    · rw [if_neg h2]
def zState : Value := .agg (sstr (List.replicate 21 []))
theorem zero_state : (Tryz.prog.info? 33).map (·.zero) = some (some zState) := by kernel_rfl
theorem stTo_zero (c : Nat → Option (List UInt8)) : stTo c 0 = List.replicate 21 [] := rfl

/-- How many of the first p paths a set has. -/
def countAt (x : DS) (n s p : Nat) : Nat := ((List.range p).filter fun k => (x.content n s (pathD k)).isSome).length
theorem countAt_succ (x : DS) (n s p : Nat) : countAt x n s (p + 1) = countAt x n s p + if (x.content n s (pathD p)).isSome then 1 else 0 := by
  unfold countAt
  rw [List.range_succ, List.filter_append, List.length_append]
  cases h : (x.content n s (pathD p)).isSome <;> simp [h]
theorem countAt_le (x : DS) (n s p : Nat) : countAt x n s p ≤ p := by
  unfold countAt
  exact Nat.le_trans (List.length_filter_le _ _) (by simp)
theorem pickD_small (c n : Nat) (h : c < n) : pickD c n = c := by
  unfold pickD
  rw [if_neg (by omega), Int.emod_eq_of_lt (by omega) (by omega)]
  rfl
theorem content_len {x : DS} {n : Nat} {s : Int} {p : ByteArray} {t : List UInt8} (h : x.content n s p = some t) : (bstr t).size ≤ 96 := by
  unfold DS.content at h
  split at h
  · cases h
    exact recContent_len _
  · cases h
theorem StoreIn.frm {w w' : World} {S F : List Nat} {s d n : Nat} {x : DS} (h : StoreIn w F s d n x) (f : Frm S w w') (h1 : s ∉ S) (h2 : ∀ k ∈ S, k ∉ F) : StoreIn w' F s d n x := ⟨f.row h.row h1, h.disk.frm f h2, h.ne⟩
theorem plus_str (t : List UInt8) : (⟨#[43]⟩ : ByteArray) ++ bstr t = bstr (43 :: t) := by
  apply ByteArray.ext
  rw [ByteArray.data_append]
  simp [bstr]

section
variable {P : Program} {ops : Array Oper} {Q : Exit → Act → World → Prop} {a : Act} {w : World} {rest : List Oper} {o : Oper}
/-- A string into a row. -/
theorem wl_storeS (hg : o.guard = none) (t : TypeId) (x y : Operand) (ho : o.op = .store t x y) (b off : Nat) (hx : a.eval x = .pointer (some ⟨b, off, none⟩))
    (v : ByteArray) (hy : a.eval y = .string v) (hi : (P.info? t).map (·.size) = some 1)
    (c : Array Value) (u : TypeId) (hr : Row w b c u) (hfit : off < c.size)
    (h : ∀ w1 : World, Frm [b] w w1 → Row w1 b (c.setIfInBounds off (.string v)) u → wpList P ops Q rest (a.put o.dst undef) w1) : wpList P ops Q (o :: rest) a w := by
  refine wl_skip hg (w.setCell ⟨b, off, none⟩ (.string v)) ?_ (h _ (Frm.setCell _ _ _ _ (by simp)) (hr.setCell _ _))
  have hc := hr.cell off
  have hf := hr.thaw off
  have hs : c[off]? = some c[off] := by simp [hfit]
  rw [hs] at hc
  have hst : (store ((⟨b, off, none⟩ : Addr).add 0) (.string v)).run P w = .ok () (w.setCell ⟨b, off, none⟩ (.string v)) := by
    rw [Addr.add_mid, Nat.add_zero, run_store P w _ _ _ rfl, hc]
    simp [hf]
  cases hq : P.info? t with
  | none => simp [hq] at hi
  | some i =>
    have h1 : i.size = 1 := by simpa [hq] using hi
    simp [execOp, ho, hx, hy, Instr.storeAt, Instr.sureAddr, storeVar, sizeOf, typeInfo, hq, h1, Value.cells, storeCells, hst]
/-- The end of a function whose first result lies in a variable of its own. -/
theorem ret_row2 {fn : Func} {R : Ending → World → Prop} {tp tq : Tmp} {ty : TypeId} (hf : fn.results = #[.cell tp ty, .tmp tq]) (b : Nat) (hp : a.tmps.getD tp undef = .pointer (some ⟨b, 0, none⟩)) (hd : a.defers = [])
    (c : Array Value) (u : TypeId) (hr : Row w b c u) (hu : (P.underlying ty).map TypeDesc.isRow = some true) (hi : (P.info? ty).map (·.size) = some c.size) (v : Value) (hv : a.tmps.getD tq undef = v) (h : R (.returned (.tuple #[.agg c, v])) w) : bodyPost P fn R .ret a w := by
  obtain ⟨d, hu', hd'⟩ := Option.map_eq_some_iff.1 hu
  have hl := run_loadVar_row (P := P) w b u ty c (0, 0) d hr hu' (by revert hd' hu'; cases d <;> intro x y <;> first | rfl | cases y) hi
  refine bodyPost_ret ?_ hd h
  rw [results_cell_tmp hf, hp, hv]
  simp [asAddr, hl]
end

set_option maxRecDepth 100000 in
set_option maxHeartbeats 2000000 in
theorem seen_any (F : List Nat) (s d n : Nat) (x : DS) (w : World) (h : StoreIn w F s d n x) (hf : x.failed = false) (hw : x.waiting = []) (hcnt : ∀ side, side < 3 → (sideOf (filesOf x n) side).length = countAt x n side 7) :
    Calls Tryz.prog 15 #[.pointer (some ⟨s, 0, none⟩)] w fun e w' => e = .returned (.tuple #[.agg (sstr (x.state n)), .bool true]) ∧ Frm [] w w' := by
  go_enter Tryz.func15, Tryz.ntmps15
  go_wp2_with (with_reducible first | refine stop_alloc rfl ?_)
  refine Stopped.go (wl_alloc rfl 33 rfl zState zero_state ?_)
  intro w1 b2 l2 f1 r2
  go_wp2_with (with_reducible first | refine stop_alloc rfl ?_)
  refine Stopped.go (wl_alloc rfl 33 rfl zState zero_state ?_)
  intro w2 b4 l4 f2 r4
  have q2 : Row w2 b2 (sstr (List.replicate 21 [])) 33 := f2.row r2 (by simp)
  have q4 : Row w2 b4 (sstr (stTo (x.at n) 0)) 33 := r4
  have hne : b2 ≠ b4 := by have := r2.lt; omega
  have fw := f1.trans f2 (by simp)
  have h2 := h.new fw
  have hb4 : w.heap.size ≤ b4 := by have := f1.size; omega
  have hb4n : s ≠ b4 ∧ b4 ∉ F := ⟨by have := h.row.lt; omega, fun hF => by have := h.disk.lt b4 hF; omega⟩
  clear r2 r4 f1 f2 h l4
  go_wp2_with fail
  go_loopw [5] (fun i wr => ∃ k : Nat, i = .int .i64 k ∧ k ≤ 3 ∧ Frm [] w wr ∧ Row wr b2 (sstr (List.replicate 21 [])) 33 ∧ Row wr b4 (sstr (stTo (x.at n) (7 * k))) 33 ∧ StoreIn wr F s d n x) (fun i _ => 3 - (intOf i).toNat)
  case atStart => exact ⟨0, rfl, by omega, fw, q2, q4, h2⟩
  case round =>
    obtain ⟨k, rfl, hk, fk, k2, k4, hst⟩ := hrel
    clear fw q2 q4 h2
    by_cases hlt : k < 3
    · go_wp2_with fail
      refine (list_any F s d n x k wr hst (by omega)).mono ?_
      rintro e w3 ⟨⟨ad, cap, rfl⟩, f3⟩
      have hst3 := hst.new f3
      have fk3 := fk.trans f3 (by simp)
      have k23 := f3.row k2 (by simp)
      have k43 := f3.row k4 (by simp)
      have hcn := hcnt k hlt
      rw [hf]
      generalize hLN : (sideOf (filesOf x n) k).length = ln at hcn ⊢
      have HCN : Hid (countAt x n k 7 = ln) := hcn.symm
      clear hLN f3 fk k2 k4 hst hcn hcnt
      simp only [Bool.false_eq_true, if_false]
      go_wp2_with fail
      rw [show decide ((k : Int) < 3) = true from decide_eq_true (by omega)]
      go_loopw [8, 9] (fun c i w1 => ∃ p : Nat, i = .int .i64 p ∧ p ≤ 7 ∧ c = .int .i64 (countAt x n k p) ∧ Frm [] w w1 ∧ Row w1 b2 (sstr (List.replicate 21 [])) 33 ∧ Row w1 b4 (sstr (stTo (x.at n) (7 * k + p))) 33 ∧ StoreIn w1 F s d n x) (fun _ i _ => 7 - (intOf i).toNat)
      case atStart => exact ⟨0, rfl, by omega, rfl, fk3, k23, k43, hst3⟩
      case round =>
        obtain ⟨p, rfl, hp, rfl, fp, p2, p4, hsp⟩ := hrel
        clear fk3 k23 k43 hst3
        by_cases hlt2 : p < 7
        · have hcs := countAt_succ x n k p
          have hcl := countAt_le x n k p
          have hpo := pathD_ok p hlt2
          have hpk : pickD p 7 = p := pickD_small p 7 hlt2
          have hat : x.at n (7 * k + p) = x.content n k (pathD p) := by
            unfold DS.at
            rw [show (7 * k + p) / 7 = k by omega, show (7 * k + p) % 7 = p by omega]
          have hget : x.get n k (pathD p) = match x.content n k (pathD p) with | none => ((.string ⟨#[]⟩, 5) : Value × Int) | some c => (.string (bstr c), 0) := by
            unfold DS.get
            rw [hf]
            rfl
          have HCS : Hid (countAt x n k (p + 1) = countAt x n k p + if (x.content n k (pathD p)).isSome then 1 else 0) := hcs
          generalize countAt x n k p = cn at hcl HCS
          clear hcs
          go_wp2_with fail
          refine (path_any p wr (by omega) (by omega)).mono ?_
          rintro e w4 ⟨rfl, rfl⟩
          rw [hpk]
          go_wp2_with fail
          refine (get_any F s d n x k (pathD p) w4 hsp (by omega) hpo.1 (by omega)).mono ?_
          rintro e w5 ⟨rfl, f5⟩
          have hs5 := hsp.new f5
          have fp5 := fp.trans f5 (by simp)
          have p25 := f5.row p2 (by simp)
          have p45 := f5.row p4 (by simp)
          rw [hget]
          clear hget f5 fp p2 p4 hsp hpk
          cases hc : x.content n k (pathD p) with
          | none =>
            rw [hc] at hat HCS
            have e1 := stTo_none (x.at n) (7 * k + p) hat
            rw [← e1] at p45
            go_wp2_with fail
            go_roundw
            case rel => exact ⟨p + 1, by go_num, by omega, by rw [HCS.out]; rfl, fp5, p25, p45, hs5⟩
            case measure => simp [intOf]; omega
          | some t =>
            rw [hc] at hat HCS
            have HE : Hid (sstr (stTo (x.at n) (7 * k + p + 1)) = (sstr (stTo (x.at n) (7 * k + p))).setIfInBounds (7 * k + p) (.string (bstr (43 :: t)))) := stTo_some (x.at n) (7 * k + p) t hat
            have hpl := plus_str t
            have hsz : (bstr t).size ≤ 96 := content_len hc
            go_wp2_with (with_reducible first | refine stop_store 9 rfl ?_)
            refine Stopped.go (wl_storeS rfl 9 _ _ rfl b4 (k * 7 + p) rfl (bstr (43 :: t)) rfl info_string _ _ p45 (by rw [sstr_size, stTo_len]; omega) ?_)
            intro w6 f6 q6
            have fp6 := fp5.trans f6 (by simpa using hb4)
            have p26 := f6.row p25 (by simpa using hne)
            rw [show k * 7 + p = 7 * k + p by omega, ← HE.out] at q6
            have hs6 : StoreIn w6 F s d n x := hs5.frm f6 (by simpa using hb4n.1) (by simpa using hb4n.2)
            clear p25 p45 fp5 hs5 f6 hpl hsz
            go_wp2_with fail
            go_roundw
            case rel => exact ⟨p + 1, by go_num, by omega, by rw [HCS.out]; rfl, fp6, p26, q6, hs6⟩
            case measure => simp [intOf]; omega
        · obtain rfl : p = 7 := by omega
          rw [HCN.out]
          go_wp2_with fail
          go_roundw
          case rel => exact ⟨k + 1, by go_num, by omega, fp, p2, by rw [show 7 * (k + 1) = 7 * k + 7 by omega]; exact p4, hsp⟩
          case measure => simp [intOf]; omega
    · obtain rfl : k = 3 := by omega
      go_wp2_with (with_reducible first | refine stop_load 33 rfl ?_ | refine stop_store 33 rfl ?_)
      have hl21 : ((sstr (stTo (x.at n) (7 * 3))).toList.drop 0).take 21 = (sstr (stTo (x.at n) (7 * 3))).toList := by rw [List.drop_zero]; exact List.take_of_length_le (by rw [Array.length_toList, sstr_size, stTo_len]; omega)
      refine Stopped.go (wl_load rfl 33 _ rfl b4 0 rfl row_state 21 info_state _ _ k4 _ hl21 (by rw [Array.length_toList, sstr_size, stTo_len]) ?_)
      go_wp2_with (with_reducible first | refine stop_store 33 rfl ?_)
      refine Stopped.go (wl_store rfl 33 _ _ rfl _ 0 rfl _ rfl 21 info_state ?_ ?_ _ _ k2 ?_ ?_)
      · rw [List.size_toArray, Array.length_toList, sstr_size, stTo_len]
      · simp [sstr, Value.oneCell']
      · rw [sstr_size]; decide
      intro w6 f6 q6
      rw [over_all _ _ (by simp only [Array.length_toList, sstr_size, stTo_len, List.length_replicate])] at q6
      simp only [Array.toArray_toList] at q6
      have fk6 := fk.trans f6 (by simpa using l2)
      clear k2 k4 hst f6
      go_wp2_with fail
      exact ret_row2 rfl b2 rfl rfl _ _ q6 row_state (by rw [sstr_size, stTo_len]; exact info_state) _ rfl ⟨rfl, fk6⟩

end Go.Proofs.YtchcmhodnkgojaaGreat
