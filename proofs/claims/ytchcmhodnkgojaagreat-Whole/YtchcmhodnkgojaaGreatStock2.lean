/- stocked of the statements. -/
import Derived.Test.YtchcmhodnkgojaaGreatStock
set_option linter.all false
namespace Go.Proofs.YtchcmhodnkgojaaGreat
open Go.RowKit Go.Lib

/-- A disk between calls. -/
def DS.calm (L : List UInt8) (a : Int) : DS := ⟨L, [], a, false, 0, 0, false⟩
theorem fit_calm (L : List UInt8) (a : Int) (r : Nat) (h0 : 0 ≤ a) (h1 : a + r ≤ 1000000000) : (DS.calm L a).Fit r := ⟨h0, h1, by show (0 : Int) ≤ 0; omega, by show (0 : Int) ≤ _; omega⟩
/-- A store in which acts have been done. -/
structure Stk (w : World) (F : List Nat) (s d : Nat) (L : List UInt8) (m : Slots) (a : Int) : Prop where
  store : StoreIn w F s d 200 (DS.calm L a)
  rep : Rep L 200 m
  seven : Seven m
  lo : 0 ≤ a
  hi : a ≤ 3000
theorem slots200 : 21 < nslots 200 := by decide
def firstB : ByteArray := ⟨#[102, 105, 114, 115, 116]⟩
theorem first_put (x : DS) : x.sput 200 0 ⟨#[97]⟩ firstB = x.act 200 0 0 0 firstB := by
  unfold DS.act
  rw [if_neg (by decide), show contentD firstB = firstB from rfl]
  rfl
theorem first_get {L : List UInt8} {m : Slots} {a : Int} {i : Nat} (h : Rep L 200 m) (hm : m i = some ⟨pickD 0 2, pathL (pickD 0 7), (contentD firstB).data.toList⟩) : (DS.calm L a).get 200 0 ⟨#[97]⟩ = (.string firstB, 0) := by
  have h1 := rep_has (x := DS.calm L a) h rfl hm
  have h2 : (DS.calm L a).content 200 ((0 : Nat) : Int) ⟨#[97]⟩ = some (contentD firstB).data.toList := h1
  unfold DS.get
  rw [h2]
  rfl

section
variable {P : Program} {ops : Array Oper} {Q : Exit → Act → World → Prop} {a : Act} {w : World} {rest : List Oper} {o : Oper}
/-- A struct out of a range. -/
theorem wl_loadr (hg : o.guard = none) (t : TypeId) (x : Operand) (ho : o.op = .load t x) (b off : Nat) (hx : a.eval x = .pointer (some ⟨b, off, none⟩))
    (hu : (P.underlying t).map TypeDesc.isRow = some true) (vs : Array Value) (hi : (P.info? t).map (·.size) = some vs.size) (hr : w.rangeAt b off vs.toList)
    (h : wpList P ops Q rest (a.put o.dst (.agg vs)) w) : wpList P ops Q (o :: rest) a w := by
  obtain ⟨d, hu', hd⟩ := Option.map_eq_some_iff.1 hu
  exact wpList_load_mid hg t x ho b off hx vs.toList d hr hu' hd (by rw [hi, Array.length_toList]) h
end
theorem ActD.call_eq (y : ActD) (h : pickD y.kind 4 ≠ 3) : y.call = y := if_neg h
theorem ActD.call_sync (y : ActD) (h : pickD y.kind 4 = 3) : y.call = ⟨0, y.side, y.path, y.content⟩ := if_pos h

set_option maxRecDepth 100000 in
set_option maxHeartbeats 2000000 in
theorem stocked_any (ad : Option Addr) (cap : Nat) (l : List ActD) (w : World) (h : ActsIn w ad l) (hl : l.length ≤ cap) (hcap : cap ≤ maxLen) :
    Calls Tryz.prog 13 #[.slice ad l.length cap] w fun e w' => ∃ s d F L m a, e = .returned (.pointer (some ⟨s, 0, none⟩)) ∧ Stk w' F s d L m a ∧ Frm [] w w' ∧ Grew [] F w ∧ w.heap.size ≤ s := by
  go_enter Tryz.func13, Tryz.ntmps13
  go_wp2_with fail
  refine (new_any 200 w (by omega) (by omega)).mono ?_
  rintro e w1 ⟨s, d, F, rfl, hs, f1, g1, l1⟩
  obtain ⟨N, e0, m', L', g, lt, T⟩ := fate_any (rep_empty 200 (by omega)) (m := fun _ => none) (fun i f hf => by cases hf) slots200 0 0 0 firstB
  obtain ⟨he0, i, hi⟩ := T.put (by decide)
  have hput : (DS.fresh (emptyL 200)).sput 200 0 ⟨#[97]⟩ firstB = (DS.calm L' N, .int .i64 0) := by
    rw [first_put]
    have := T.free 0 0 0
    rw [he0, Int.zero_add] at this
    exact this
  have hget := first_get (a := N) T.rep hi
  have hrep := T.rep
  have hsev := T.seven
  have hN := T.few
  have HPUT : Hid ((DS.fresh (emptyL 200)).sput 200 0 ⟨#[97]⟩ firstB = (DS.calm L' N, .int .i64 0)) := hput
  have HGET : Hid ((DS.calm L' N).get 200 0 ⟨#[97]⟩ = (.string firstB, 0)) := hget
  clear T hi he0 hput hget
  go_wp2_with fail
  refine (sput_spec F s d 200 _ 0 ⟨#[97]⟩ firstB w1 hs ⟨by show (0 : Int) ≤ 0; omega, by show (0 : Int) + _ ≤ _; omega, by show (0 : Int) ≤ 0; omega, by show (0 : Int) ≤ _; omega⟩ (by show 0 < 55; omega) (by omega) (by decide) (by decide) (by decide)).mono ?_
  rintro e w2 ⟨rfl, ⟨F2, hs2, g2⟩, f2⟩
  rw [HPUT.out] at hs2 ⊢
  have fw2 : Frm [] w w2 := f1.trans f2 (fun k hk => .inr ((g1 k hk).resolve_left (by simp)))
  have gw2 : Grew [] F2 w := g1.trans g2 f1.size
  clear f1 g1 f2 g2 hs
  go_wp2_with fail
  refine (get_any F2 s d 200 _ 0 ⟨#[97]⟩ w2 hs2 (by omega) (by decide) (by decide)).mono ?_
  rintro e w3 ⟨rfl, f3⟩
  rw [HGET.out]
  have hs3 := hs2.new f3
  have fw3 := fw2.trans f3 (by simp)
  clear fw2 hs2 f3 HPUT HGET
  have hst : Stk w3 F2 s d L' m' N := ⟨hs3, hrep, hsev, by omega, by omega⟩
  have hNb : (N : Int) ≤ 5 := by omega
  clear hs3 hrep hsev hN
  have hfl : (!firstB.toList == [102, 105, 114, 115, 116]) = false := by rw [show firstB = bstr [102, 105, 114, 115, 116] from rfl, bstr_toList]; rfl
  go_wp2_with fail
  clear hfl
  go_loopw [8] (fun i wr => ∃ (k : Nat) (F : List Nat) (L : List UInt8) (m : Slots) (a : Int), i = .int .i64 k ∧ k ≤ l.length ∧ k ≤ 300 ∧ Stk wr F s d L m a ∧ a ≤ 5 + 5 * k ∧ Frm [] w wr ∧ Grew [] F w) (fun i _ => 300 - (intOf i).toNat)
  case atStart => exact ⟨0, F2, L', m', N, rfl, by omega, by omega, hst, by omega, fw3, gw2⟩
  case round =>
    obtain ⟨k, Fk, Lk, mk, ak, rfl, hkl, hk3, hsk, hak, fk, gk⟩ := hrel
    clear hst fw3 gw2 hNb
    by_cases hlt : k < l.length
    · by_cases hlt3 : k < 300
      · obtain ⟨hok, b, off, rfl, hra⟩ := (h.frm fk (by simp)) k hlt
        generalize l[k] = y at hok hra
        obtain ⟨hs1, hrep, hsev, hlo, hhi⟩ := hsk
        have hyk := hok.1
        unfold fits64 at hyk
        obtain ⟨hcok, hc3⟩ := ActD.call_ok hok
        obtain ⟨N', e', m2, L2, g2, lt2, T⟩ := fate_any hrep hsev slots200 y.call.kind y.call.side y.call.path y.call.content
        have hact : (DS.calm Lk ak).act 200 y.call.kind y.call.side y.call.path y.call.content = (DS.calm L2 (ak + N'), .int .i64 e') := T.free ak 0 0
        have hans : e' = 0 ∨ e' = 5 := T.ans.imp id (fun h => h.1)
        have hrep2 := T.rep
        have hsev2 := T.seven
        have hN2 := T.few
        clear T hrep hsev
        have HACT : Hid ((DS.calm Lk ak).act 200 y.call.kind y.call.side y.call.path y.call.content = (DS.calm L2 (ak + N'), .int .i64 e')) := hact
        have HSPEC := fun w' hw' => act_spec Fk s d 200 (DS.calm Lk ak) y.call.kind y.call.side y.call.path y.call.content w' hw' (fit_calm _ _ _ hlo (by omega)) (by show 0 < 55; omega) hc3 hcok.1.1 hcok.1.2 hcok.2.1.1 hcok.2.1.2 hcok.2.2.1 hcok.2.2.2
        clear hact
        have hy : Hid (y.cells = actCells y.kind y.side y.path y.content) := rfl
        go_wp2_with (with_reducible first | refine stop_load 24 rfl ?_ | refine stop_alloc rfl ?_ | refine stop_store 24 rfl ?_)
        refine Stopped.go (wl_loadr rfl 24 _ rfl b (off + k * 4) rfl row_act y.cells info_act hra ?_)
        go_wp2_with (with_reducible first | refine stop_alloc rfl ?_ | refine stop_store 24 rfl ?_)
        refine Stopped.go (wl_alloc rfl 24 rfl zAct zero_act ?_)
        intro w4 b9 l9 f4 r4
        go_wp2_with (with_reducible first | refine stop_store 24 rfl ?_)
        refine Stopped.go (wl_store rfl 24 _ _ rfl _ 0 rfl _ rfl 4 info_act ?_ ?_ _ _ r4 ?_ ?_)
        · rfl
        · rw [hy.out]; simp [actCells, Value.oneCell']
        · decide
        intro w5 f5 q5
        rw [over_all _ _ (by rfl), Array.toArray_toList] at q5
        have f45 := f4.trans f5 (by simpa using l9)
        have fk5 := fk.trans f45 (by simp)
        have hs5 := hs1.new f45
        have hb9 : w.heap.size ≤ b9 := by have := fk.size; omega
        have hb9n : s ≠ b9 ∧ b9 ∉ Fk := ⟨by have := hs1.row.lt; omega, fun hF => by have := hs1.disk.lt b9 hF; omega⟩
        have c0 : w5.cell? ⟨b9, 0, none⟩ = some (.int .i64 y.kind) := by rw [q5.cell, hy.out]; rfl
        clear f4 r4 f5 f45 hs1 fk hra l9
        go_wp2_with fail
        refine (pick_any y.kind 4 w5 hyk.1 hyk.2 (by omega) (by omega)).mono ?_
        rintro e w6 ⟨rfl, rfl⟩
        clear c0
        by_cases h3 : pickD y.kind 4 = 3
        · have hyc := ActD.call_sync y h3
          have HYC : Hid (y.call.cells = actCells 0 y.side y.path y.content) := by show _ = _; rw [hyc]; rfl
          rw [h3]
          clear hyc
          go_wp2_with (with_reducible first | refine stop_store 3 rfl ?_ | refine stop_load 24 rfl ?_)
          refine Stopped.go (wl_store1 rfl 3 _ _ rfl b9 0 rfl .i64 0 rfl info_int1 _ _ q5 (by show 0 < 4; omega) ?_)
          intro w7 f7 q7
          have q7' : Row w7 b9 y.call.cells 24 := by rw [HYC.out]; exact q7
          have fk7 := fk5.trans f7 (by simpa using hb9)
          have hs7 : StoreIn w7 Fk s d 200 (DS.calm Lk ak) := hs5.frm f7 (by simpa using hb9n.1) (by simpa using hb9n.2)
          clear q7 q5 f7 fk5 hs5
          go_wp2_with (with_reducible first | refine stop_load 24 rfl ?_)
          refine Stopped.go (wl_load rfl 24 _ rfl b9 0 rfl row_act 4 info_act _ _ q7' y.call.cells.toList (by rw [List.drop_zero]; rfl) rfl ?_)
          go_wp2_with fail
          refine (HSPEC w7 hs7).mono ?_
          rintro e w8 ⟨rfl, ⟨F8, hs8, g8⟩, f8⟩
          rw [HACT.out] at hs8 ⊢
          have fk8 := fk7.trans f8 (fun i hi => .inr ((gk i hi).resolve_left (by simp)))
          have gk8 : Grew [] F8 w := gk.trans g8 fk7.size
          have hst8 : Stk w8 F8 s d L2 m2 (ak + N') := ⟨hs8, hrep2, hsev2, by omega, by omega⟩
          clear HSPEC HACT hs7 fk7 f8 g8 hs8 q7' hrep2 hsev2 gk HYC hy hyk hok hcok hc3
          rcases hans with rfl | rfl
          · go_wp2_with fail
            go_roundw
            case rel => exact ⟨k + 1, F8, L2, m2, ak + N', by go_num, by omega, by omega, hst8, by omega, fk8, gk8⟩
            case measure => simp [intOf]; omega
          · go_wp2_with fail
            go_roundw
            case rel => exact ⟨k + 1, F8, L2, m2, ak + N', by go_num, by omega, by omega, hst8, by omega, fk8, gk8⟩
            case measure => simp [intOf]; omega
        · have HYC : Hid (y.call.cells = y.cells) := by show _ = _; rw [ActD.call_eq y h3]
          have hm3 : (((pickD y.kind 4 : Nat) : Int) == 3) = false := by rw [beq_eq_false_iff_ne]; omega
          generalize pickD y.kind 4 = mk4 at hm3 ⊢
          clear h3
          have q7' : Row w6 b9 y.call.cells 24 := by rw [HYC.out]; exact q5
          have fk7 := fk5
          have hs7 := hs5
          clear q5 fk5 hs5
          go_wp2_with (with_reducible first | refine stop_load 24 rfl ?_)
          refine Stopped.go (wl_load rfl 24 _ rfl b9 0 rfl row_act 4 info_act _ _ q7' y.call.cells.toList (by rw [List.drop_zero]; rfl) rfl ?_)
          go_wp2_with fail
          refine (HSPEC w6 hs7).mono ?_
          rintro e w8 ⟨rfl, ⟨F8, hs8, g8⟩, f8⟩
          rw [HACT.out] at hs8 ⊢
          have fk8 := fk7.trans f8 (fun i hi => .inr ((gk i hi).resolve_left (by simp)))
          have gk8 : Grew [] F8 w := gk.trans g8 fk7.size
          have hst8 : Stk w8 F8 s d L2 m2 (ak + N') := ⟨hs8, hrep2, hsev2, by omega, by omega⟩
          clear HSPEC HACT hs7 fk7 f8 g8 hs8 q7' hrep2 hsev2 gk HYC hy hyk hok hcok hc3
          rcases hans with rfl | rfl
          · go_wp2_with fail
            go_roundw
            case rel => exact ⟨k + 1, F8, L2, m2, ak + N', by go_num, by omega, by omega, hst8, by omega, fk8, gk8⟩
            case measure => simp [intOf]; omega
          · go_wp2_with fail
            go_roundw
            case rel => exact ⟨k + 1, F8, L2, m2, ak + N', by go_num, by omega, by omega, hst8, by omega, fk8, gk8⟩
            case measure => simp [intOf]; omega
      · obtain rfl : k = 300 := by omega
        go_wp2_with fail
        go_ret
        exact ⟨s, d, Fk, Lk, mk, ak, rfl, hsk, fk, gk, l1⟩
    · go_wp2_with fail
      go_ret
      exact ⟨s, d, Fk, Lk, mk, ak, rfl, hsk, fk, gk, l1⟩

end Go.Proofs.YtchcmhodnkgojaaGreat
