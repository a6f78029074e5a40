/- Bytes: what lasts, one sector behind the other (by a strings.Builder). -/
import Derived.Test.YtchcmhodnkgojaaGreatHolding
import Derived.Test.YtchcmhodnkgojaaGreatShelf
import Derived.OwnWalk
set_option linter.all false
namespace Go.Proofs.YtchcmhodnkgojaaGreat
open Go.RowKit Go.Lib

theorem info_byte : (Tryz.prog.info? 5).map (fun i => (i.size, i.bytes, i.zero)) = some (1, 1, some (.int .u8 0)) := by kernel_rfl
theorem und_bytes : Tryz.prog.underlying 85 = some (.slice 5) := Tryz.underlying85

theorem size_builder : (Tryz.prog.info? 146).map (·.size) = some 2 := by kernel_rfl
theorem lies_builder : liesAt Tryz.prog Tryz.prog.depth 146 (2 / Tryz.prog.cellsOf 146) 0 146 1 = true := by kernel_rfl

set_option maxHeartbeats 1000000 in
set_option maxRecDepth 100000 in
theorem copyCheck_used (b : Nat) (w : World) (h0 : w.cell? ⟨b, 0, none⟩ = some (.pointer (some ⟨b, 0, none⟩))) :
    Calls Tryz.prog 129 #[.pointer (some ⟨b, 0, none⟩)] w fun e w' => e = .returned (.tuple #[]) ∧ w' = w := by
  obtain ⟨j, hj, _⟩ := Option.map_eq_some_iff.1 size_builder
  go_enter Tryz.func129, Tryz.ntmps129
  go_wp2_with fail
  rw [Lib.run_neq_ptr_same w _ Tryz.underlying144 hj]
  go_wp2_with fail
  go_end0
  exact ⟨rfl, rfl⟩

set_option maxHeartbeats 1000000 in
set_option maxRecDepth 100000 in
theorem copyCheck_fresh (b : Nat) (w : World) (h0 : w.cell? ⟨b, 0, none⟩ = some (.pointer none)) (hsh : w.shape? b = some (146, 2)) (hfz : w.frozen? ⟨b, 0, none⟩ = false) :
    Calls Tryz.prog 129 #[.pointer (some ⟨b, 0, none⟩)] w fun e w' => e = .returned (.tuple #[]) ∧ w' = w.setCell ⟨b, 0, none⟩ (.pointer (some ⟨b, 0, none⟩)) := by
  obtain ⟨j, hj, hjs⟩ := Option.map_eq_some_iff.1 size_builder
  go_enter Tryz.func129, Tryz.ntmps129
  go_wp2_with fail
  rw [Lib.run_to_unsafe w ⟨b, 0, none⟩ Tryz.underlying144 Tryz.underlying247 hj (by rw [hjs]; decide) hsh (Nat.zero_lt_succ 1)]
  simp only [Result.andThen]
  rw [Oper.upon_value]
  go_wp2_with fail
  rw [run_callFunc_extern Tryz.func161 (by kernel_rfl) (by kernel_rfl) (by kernel_rfl) (e := Extern.AbiNoEscape.same) (by kernel_rfl)]
  rw [Lib.run_noEscape]
  simp only [Result.andThen]
  rw [Oper.upon_value]
  go_wp2_with fail
  rw [Lib.run_from_unsafe w ⟨b, 0, none⟩ Tryz.underlying247 Tryz.underlying144 hj hsh lies_builder]
  simp only [Result.andThen]
  rw [Oper.upon_value]
  go_wp2_with fail
  go_end0
  exact ⟨rfl, rfl⟩

set_option maxRecDepth 100000 in
set_option maxHeartbeats 1000000 in
theorem bwrite_any (B b : Nat) (bs : List Value) (ad : Addr) (m c : Nat) (news : List Value) (w : World) (h : IsBuilder 146 5 B b bs w)
    (hl : news.length = m) (hnews : ∀ j u, news[j]? = some u → w.cell? (ad.add j) = some u) (had : ad.block ≠ b) (h1 : ∀ u ∈ news, u.oneCell' = true) (hlen : bs.length + m ≤ 1000000) (hBw : B ≤ w.heap.size) :
    Calls Tryz.prog 86 #[.pointer (some ⟨b, 0, none⟩), .slice (some ad) m c] w fun e w' => e = .returned (.tuple #[.int .i64 m, .nilIface]) ∧ BuilderAt 146 5 B b (.pointer (some ⟨b, 0, none⟩)) (bs ++ news) w' ∧ Below B w w' := by
  obtain ⟨i0, hi, hz⟩ : ∃ i, Tryz.prog.info? 5 = some i ∧ i.size = 1 ∧ i.bytes = 1 ∧ i.zero = some (.int .u8 0) := by
    have := info_byte
    cases hi : Tryz.prog.info? 5 with
    | none => simp [hi] at this
    | some i => simp only [hi, Option.map_some, Option.some.injEq, Prod.mk.injEq] at this; exact ⟨i, rfl, this⟩
  have cC : Calls Tryz.prog 129 #[.pointer (some ⟨b, 0, none⟩)] w fun e w' => e = .returned (.tuple #[]) ∧ BuilderAt 146 5 B b (.pointer (some ⟨b, 0, none⟩)) bs w' ∧ Below B w w' ∧ ∀ p : Addr, p.block ≠ b → w'.cell? p = w.cell? p := by
    rcases h with h | h
    · refine (copyCheck_fresh b w h.cell0 h.shape h.frozen0).mono ?_
      rintro e w' ⟨rfl, rfl⟩
      exact ⟨rfl, h.used _, (Below.refl B w).setCell (p := ⟨b, 0, none⟩) h.1 _, fun p hp => World.cell?_setCell_other _ _ _ _ (fun e => hp (by rw [← e]))⟩
    · refine (copyCheck_used b w h.cell0).mono ?_
      rintro e w' ⟨rfl, rfl⟩
      exact ⟨rfl, h, Below.refl B _, fun _ _ => rfl⟩
  go_enter Tryz.func86, Tryz.ntmps86
  go_wp2_with fail
  refine cC.mono ?_
  rintro e w1 ⟨rfl, h1', hb1, hcell⟩
  obtain ⟨hB, v, hbk, hown, hne⟩ := h1'
  have c0 : w1.cell? ⟨b, 0, none⟩ = some (.pointer (some ⟨b, 0, none⟩)) := by rw [Lib.cell_of_heap hbk]; rfl
  have c1 : w1.cell? ⟨b, 1, none⟩ = some v := by rw [Lib.cell_of_heap hbk]; rfl
  have hnews1 : ∀ j u, news[j]? = some u → w1.cell? (ad.add j) = some u := fun j u hj => by rw [hcell (ad.add j) (by unfold Addr.add; split <;> exact had)]; exact hnews j u hj
  go_wp2_with (at_builtin; refine wpList_append_own _ rfl _ _ 85 rfl B 5 i0 (.int .u8 0) 1 1 und_bytes hi hz.2.2 hz.1 hz.2.1 rfl (by decide) _ _ _ rfl hown ad m c news rfl (by omega) hnews1 h1 ?c3 ?c4 ?c5 ?_)
  case c3 => unfold maxLen; omega
  case c4 => omega
  case c5 => have := hb1.size; omega
  intro v' w2 hown' hgrow _
  have hlt : b < w1.heap.size := by
    rcases Nat.lt_or_ge b w1.heap.size with h' | h'
    · exact h'
    · simp [Array.getElem?_eq_none h'] at hbk
  have hb2 : w2.heap[b]? = some (.cells #[.pointer (some ⟨b, 0, none⟩), v] 146 (0, 0)) := by
    rw [hgrow.block b hlt (fun e => hne e.symm)]
    exact hbk
  have d0 : w2.cell? ⟨b, 0, none⟩ = some (.pointer (some ⟨b, 0, none⟩)) := by rw [Lib.cell_of_heap hb2]; rfl
  have d1 : w2.cell? ⟨b, 1, none⟩ = some v := by rw [Lib.cell_of_heap hb2]; rfl
  have f1 : w2.frozen? ⟨b, 1, none⟩ = false := Lib.frozen_of_heap hb2 1
  obtain ⟨ao, n', cap, rfl⟩ : ∃ ao n' cap, v' = .slice ao n' cap := by
    rcases hown'.2 with ⟨hv, _⟩ | ⟨g, cap, cur, hv, _⟩
    · exact ⟨_, _, _, hv⟩
    · exact ⟨_, _, _, hv⟩
  go_wp2_with fail
  go_ret2
  refine ⟨rfl, ?_, ?_⟩
  · exact Lib.BuilderAt.put (T := 146) (e := 5) hB hb2 (bs' := bs ++ news) (by simpa [hl] using hown') (by decide)
  · exact (hb1.grown hgrow (by have := hb1.size; omega) (fun k hk => (hown.lt k hk).1)).setCell (p := ⟨b, 1, none⟩) hB _

theorem isb_frm {T e : TypeId} {B b : Nat} {bs : List Value} {w w' : World} (h : IsBuilder T e B b bs w) (f : Frm [] w w') : IsBuilder T e B b bs w' := by
  have g : ∀ p, BuilderAt T e B b p bs w → BuilderAt T e B b p bs w' := fun p hp => by
    have hlt := hp.lt
    obtain ⟨hB, v, hb, ho, hn⟩ := hp
    exact ⟨hB, v, by rw [f.block b hlt (by simp)]; exact hb, f.owns ho (by simp), hn⟩
  exact h.imp (g _) (g _)
theorem frm_below {w w1 w2 : World} (f : Frm [] w w1) (h : Below w.heap.size w1 w2) : Frm [] w w2 :=
  ⟨h.os.trans f.os, h.tape.trans f.tape, h.output.trans f.output, Nat.le_trans f.size h.size, fun k hk _ => (h.block k hk).trans (f.block k hk (by simp))⟩
theorem zero_builder : (Tryz.prog.info? 146).map (·.zero) = some (some (.agg #[.pointer none, .slice none 0 0])) := by kernel_rfl

set_option maxRecDepth 100000 in
set_option maxHeartbeats 1000000 in
theorem bytes_any (d bl n : Nat) (vw : Value) (x : DS) (w : World) (h : DiskIn w d bl n vw x) :
    Calls Tryz.prog 53 #[.pointer (some ⟨d, 0, none⟩)] w fun e w' => e = .returned (.string ⟨x.lasting.toArray⟩) ∧ Frm [] w w' := by
  have hlen := h.len
  have h400 := h.hi
  go_enter Tryz.func53, Tryz.ntmps53
  go_wp2_with (with_reducible first | refine stop_alloc rfl ?_)
  refine Stopped.go (wl_alloc rfl 146 rfl _ zero_builder ?_)
  intro w1 b3 l3 f1 r3
  have h1 := h.new f1 (by simp)
  have c0 := (dcell h1.row).1
  have hB0 : IsBuilder 146 5 w.heap.size b3 (byteCells (x.lasting.take (64 * 0))) w1 :=
    .inl ⟨l3, .slice none 0 0, r3, by simpa [byteCells] using World.ownsRow_nil _ _ _ _, by simp [Value.ownBlock]⟩
  go_wp2_with fail
  clear c0 r3
  go_loopw [11] (fun c wr => ∃ k : Nat, c = .int .i64 k ∧ k ≤ n ∧ Frm [] w wr ∧ IsBuilder 146 5 w.heap.size b3 (byteCells (x.lasting.take (64 * k))) wr) (fun c _ => n - (intOf c).toNat)
  case atStart => exact ⟨0, rfl, by omega, f1, hB0⟩
  case round =>
    obtain ⟨k, rfl, hk, fk, hb⟩ := hrel
    clear h1 f1 hB0
    by_cases hlt : k < n
    · have hw := h.new fk (by simp)
      have hseg : ((x.lasting.drop (k * 64)).take 64).length = 64 := by rw [List.length_take, List.length_drop]; omega
      have hat : ((byteCells x.lasting).toArray.toList.drop (k * 64)).take 64 = byteCells ((x.lasting.drop (k * 64)).take 64) := by
        rw [List.toList_toArray, byteCells_drop, byteCells_take]
      go_wp2_with (with_reducible first | refine stop_alloc rfl ?_ | refine stop_load 148 rfl ?_ | refine stop_store 148 rfl ?_)
      refine Stopped.go (wl_load rfl 148 _ rfl bl (k * 64) rfl row_block 64 info_block _ _ hw.last (byteCells ((x.lasting.drop (k * 64)).take 64)) hat (by rw [length_byteCells]; exact hseg) ?_)
      have HX : Hid (x.lasting.take (64 * (k + 1)) = x.lasting.take (64 * k) ++ (x.lasting.drop (k * 64)).take 64) := by
        show _ = _
        rw [show 64 * (k + 1) = 64 * k + 64 by omega, List.take_add, Nat.mul_comm k 64]
      generalize (x.lasting.drop (k * 64)).take 64 = seg at *
      have hfew : (byteCells (x.lasting.take (64 * k))).length ≤ 30000 := by rw [length_byteCells, List.length_take]; omega
      clear hat hw
      go_wp2_with (with_reducible first | refine stop_alloc rfl ?_ | refine stop_store 148 rfl ?_)
      refine Stopped.go (wl_alloc rfl 148 rfl zBlock zero_block ?_)
      intro w4 b7 l7 f4 r7
      go_wp2_with (with_reducible first | refine stop_alloc rfl ?_ | refine stop_store 148 rfl ?_)
      refine Stopped.go (wl_store rfl 148 _ _ rfl _ 0 rfl _ rfl 64 info_block ?_ ?_ _ _ r7 ?_ ?_)
      · simp only [List.size_toArray, length_byteCells]; exact hseg
      · exact byteCells_one _
      · decide
      intro w5 f5 r7'
      rw [over_all _ _ (by rw [length_byteCells, hseg]; rfl)] at r7'
      have fk5 : Frm [] wr w5 := f4.trans f5 (by simpa using l7)
      have fw5 := fk.trans fk5 (by simp)
      have hb5 := isb_frm hb fk5
      have q7 : Row w5 b7 (byteCells seg).toArray 148 := r7'
      have hne : b7 ≠ b3 := by
        have : b3 < wr.heap.size := by
          rcases hb with hb | hb <;> exact hb.lt
        omega
      clear r7 r7' f4 f5 fk5 fk hb
      go_wp2_with fail
      refine (bwrite_any w.heap.size b3 _ ⟨b7, 0, none⟩ 64 64 (byteCells seg) w5 hb5 (by rw [length_byteCells]; exact hseg) ?_ hne (byteCells_one _) (by omega) fw5.size).mono ?_
      · intro j u hj
        rw [Addr.add_mid, q7.cell]
        simpa using hj
      rintro e w6 ⟨rfl, hb6, bl6⟩
      have fw6 := frm_below fw5 bl6
      have hb6' : IsBuilder 146 5 w.heap.size b3 (byteCells (x.lasting.take (64 * (k + 1)))) w6 := by
        rw [HX.out, byteCells_append]; exact .inr hb6
      clear hb6 bl6 hb5 q7 fw5 hfew
      go_wp2_with fail
      go_roundw
      case rel => exact ⟨k + 1, by go_num, by omega, fw6, hb6'⟩
      case measure => simp [intOf]; omega
    · obtain rfl : k = n := by omega
      rw [List.take_of_length_le (by omega)] at hb
      go_wp2_with fail
      refine (Tryz.Builder_String_any w.heap.size b3 x.lasting wr hb fk.size).mono ?_
      rintro e w6 ⟨rfl, bl6⟩
      have fw6 := frm_below fk bl6
      go_wp2_with fail
      go_ret
      exact ⟨rfl, fw6⟩

end Go.Proofs.YtchcmhodnkgojaaGreat
