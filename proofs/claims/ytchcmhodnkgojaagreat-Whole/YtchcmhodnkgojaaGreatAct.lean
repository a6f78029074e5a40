/- The disk's acts: mayAct, fail, Write, Flush. -/
import Derived.Test.YtchcmhodnkgojaaGreatRead
import Derived.Deep.RegionHeld3
set_option linter.all false
namespace Go.Proofs.YtchcmhodnkgojaaGreat
open Go.RowKit Go.Lib

theorem setCells_row {w : World} {b off : Nat} {vs : List Value} {c : Array Value} {u : TypeId} (hr : Row w b c u) (hl : off + vs.length ≤ c.size) (h1 : ∀ v ∈ vs, v.oneCell' = true) :
    w.setCells b off vs = w.setRow b (over c off vs) := by
  have a1 := run_storeCells_cells (P := Tryz.prog) b off vs 0 w (fun j hj => by rw [hr.cell]; simp; omega) (fun j hj => hr.thaw _) h1
  have a2 := run_storeCells_at Tryz.prog b off u vs 0 c w hr (by simpa using hl) h1
  rw [a1] at a2
  simpa [over] using a2

/-- The bytes of a sector put in their place. -/
def putSector (la : List UInt8) (p : Int × List UInt8) : List UInt8 := la.take (64 * p.1.toNat) ++ p.2 ++ la.drop (64 * p.1.toNat + 64)
theorem length_putSector (la : List UInt8) (p : Int × List UInt8) (h : p.2.length = 64) (hf : 64 * p.1.toNat + 64 ≤ la.length) : (putSector la p).length = la.length := by
  simp [putSector, h]; omega
theorem over_putSector (la : List UInt8) (p : Int × List UInt8) (h : p.2.length = 64) : over (byteCells la).toArray (p.1.toNat * 64) (byteCells p.2) = (byteCells (putSector la p)).toArray := by
  simp [over, putSector, byteCells_append, byteCells_take, byteCells_drop, length_byteCells, h, Nat.mul_comm]

/-- All that waits, put in its place. -/
def putAll (la : List UInt8) (l : List (Int × List UInt8)) : List UInt8 := l.foldl putSector la
theorem putAll_snoc (la : List UInt8) (l : List (Int × List UInt8)) (k : Nat) (hk : k < l.length) : putAll la (l.take (k + 1)) = putSector (putAll la (l.take k)) l[k] := by
  unfold putAll
  rw [List.take_succ_eq_append_getElem hk, List.foldl_append]
  rfl
theorem length_putAll (n : Nat) : ∀ (l : List (Int × List UInt8)) (la : List UInt8), la.length = 64 * n → (∀ p ∈ l, p.2.length = 64) → (∀ p ∈ l, 0 ≤ p.1 ∧ p.1 < n) → (putAll la l).length = 64 * n
  | [], la, h, _, _ => h
  | p :: r, la, h, h1, h2 => by
    have hp := h2 p (by simp)
    exact length_putAll n r (putSector la p) (by rw [length_putSector _ _ (h1 p (by simp)) (by omega)]; exact h) (fun q hq => h1 q (by simp [hq])) (fun q hq => h2 q (by simp [hq]))

theorem und_blocks : Tryz.prog.underlying 148 = some (.array 64 5) := by kernel_rfl

set_option maxRecDepth 100000 in
set_option maxHeartbeats 400000 in
theorem flush_yes (d bl n : Nat) (vw : Value) (x : DS) (w : World)
    (hm : Calls Tryz.prog 187 #[.pointer (some ⟨d, 0, none⟩)] w fun e w' => e = .returned (.bool true) ∧ DiskIn w' d bl n vw x ∧ Frm [d] w w') :
    Calls Tryz.prog 149 #[.pointer (some ⟨d, 0, none⟩)] w fun e w' => e = .returned (.int .i64 0) ∧ DiskIn w' d bl n (.slice none 0 0) { x with lasting := putAll x.lasting x.waiting, waiting := [] } ∧ Frm [d, bl] w w' := by
  go_enter Tryz.func149, Tryz.ntmps149
  go_wp2_with fail
  refine hm.mono ?_
  clear hm
  rintro e w1 ⟨rfl, h1, f1⟩
  have h := h1
  have dlt := h.row.lt
  have llt := h.last.lt
  obtain ⟨ad, cap, hvw⟩ := own_slice h.own
  subst hvw
  obtain ⟨c0, c1, -⟩ := dcell h1.row
  go_wp2_with fail
  have hlen := h.len
  go_loopw [13] (fun i wr => ∃ k : Nat, i = .int .i64 k ∧ k ≤ x.waiting.length ∧ Frm [d, bl] w wr ∧ DiskIn wr d bl n (.slice ad x.waiting.length cap) { x with lasting := putAll x.lasting (x.waiting.take k) }) (fun i _ => x.waiting.length - (intOf i).toNat)
  case atStart => exact ⟨0, rfl, by omega, f1.mono (by simp), by simpa [putAll] using h1⟩
  case round =>
    obtain ⟨k, rfl, hk, fk, hw⟩ := hrel
    clear c0 c1 h1
    have hfew := h.few
    by_cases hlt : k < x.waiting.length
    · obtain ⟨g, cur, rfl, hg, hle, _, hcs, htk⟩ := own_some (n := x.waiting.length) hw.own (by omega)
      have h64 := h.len64 _ (List.getElem_mem hlt)
      have hin := h.within _ (List.getElem_mem hlt)
      have hat : ((cur.toList.drop (k * 65)).take 65) = wcells x.waiting[k] := by
        rw [drop_take_of_take htk _ _ (by omega), wscells_at x.waiting h.len64 k hlt]
      clear hcs htk
      go_wp2_with (with_reducible first | refine stop_alloc rfl ?_ | refine stop_load 148 rfl ?_ | refine stop_load 240 rfl ?_ | refine stop_store 148 rfl ?_ | refine stop_store 240 rfl ?_)
      refine Stopped.go (wl_load rfl 240 _ rfl g (k * 65) rfl row_write 65 info_write _ _ hg _ hat (length_wcells _ h64) ?_)
      clear hat
      go_wp2_with (with_reducible first | refine stop_alloc rfl ?_ | refine stop_load 148 rfl ?_ | refine stop_load 240 rfl ?_ | refine stop_store 148 rfl ?_ | refine stop_store 240 rfl ?_)
      refine Stopped.go (wl_alloc rfl 240 rfl zWrite zero_write ?_)
      intro w4 b7 l7 f4 r7
      go_wp2_with (with_reducible first | refine stop_alloc rfl ?_ | refine stop_load 148 rfl ?_ | refine stop_load 240 rfl ?_ | refine stop_store 148 rfl ?_ | refine stop_store 240 rfl ?_)
      refine Stopped.go (wl_store rfl 240 _ _ rfl _ 0 rfl _ rfl 65 info_write ?_ ?_ _ _ r7 ?_ ?_)
      · simp only [List.size_toArray]; exact length_wcells _ h64
      · intro v hv; simp only [wcells, List.mem_cons] at hv; rcases hv with rfl | hv; rfl; exact byteCells_one _ v hv
      · decide
      intro w5 f5 r7'
      rw [over_all _ _ (by rw [length_wcells _ h64]; rfl)] at r7'
      clear r7
      have l7' : wr.heap.size ≤ b7 := l7
      have fk5 : Frm [] wr w5 := f4.trans f5 (by simpa using l7)
      have h5 := hw.new fk5 (by simp)
      have fw := fk.trans fk5 (by simp)
      obtain ⟨c0, c1, -⟩ := dcell h5.row
      have e0 : w5.cell? ⟨b7, 0, none⟩ = some (.int .i64 x.waiting[k].1) := by rw [r7'.cell]; rfl
      have hne : bl ≠ b7 := by have := hw.last.lt; omega
      have hned : d ≠ b7 := by have := hw.row.lt; omega
      clear fk hw f4 f5 l7
      go_wp2_with fail
      have hpl : (putAll x.lasting (x.waiting.take k)).length = 64 * n := length_putAll n _ _ h.len (fun p hp => h.len64 p (List.mem_of_mem_take hp)) (fun p hp => h.within p (List.mem_of_mem_take hp))
      have gr : w5.rangeAt b7 1 (byteCells x.waiting[k].2) := fun j v hv => by rw [r7'.cell]; simpa [wcells, Nat.add_comm] using hv
      have gt : w5.there bl (x.waiting[k].1.toNat * 64) 64 := fun j hj => by rw [h5.last.cell, h5.last.thaw]; simp [length_byteCells, hpl]; omega
      have gi : (Tryz.prog.info? 148).map (·.size) = some (byteCells x.waiting[k].2).length := by rw [length_byteCells, h64]; exact info_block
      have gl : (byteCells x.waiting[k].2).length = 64 := by rw [length_byteCells, h64]
      have go := byteCells_one x.waiting[k].2
      have gu := und_blocks
      obtain ⟨gin1, gin2⟩ := hin
      have hdb := h.ne
      go_region_held3 (fun w' => w'.cell? ⟨d, 0, none⟩ = some (.slice (some ⟨bl, 0, none⟩) n n) ∧ w'.cell? ⟨b7, 0, none⟩ = some (.int .i64 x.waiting[k].1) ∧ w'.rangeAt b7 1 (byteCells x.waiting[k].2) ∧ w'.there bl (x.waiting[k].1.toNat * 64) 64) ((go_split_ands; (try simp only [World.rangeAt_drew, World.there_drew, World.cell?_drew] at *); (repeat' constructor) <;> first | assumption | (rw [World.cell?_setCells_out _ _ _ _ _ (by intro e; simp only at e; omega)]; assumption) | (apply World.there_setCells; assumption) | (refine World.rangeAt_setCells_apart (by assumption) _ _ _ (by omega)))) (fail)
      have h6 : DiskIn (w5.drew.setCells bl (x.waiting[k].1.toNat * 64) (byteCells x.waiting[k].2)) d bl n (.slice (some ⟨g, 0, none⟩) x.waiting.length cap) { x with lasting := putAll x.lasting (x.waiting.take (k + 1)) } ∧
          Frm [d, bl] w (w5.drew.setCells bl (x.waiting[k].1.toNat * 64) (byteCells x.waiting[k].2)) := by
        rw [setCells_row (w := w5.drew) h5.last (by simp [length_byteCells, hpl, h64]; omega) go, over_putSector _ _ h64, putAll_snoc _ _ _ hlt]
        have fd : Frm [bl] w5 (w5.drew.setRow bl (byteCells (putSector (putAll x.lasting (x.waiting.take k)) x.waiting[k])).toArray) := (Frm.drew [bl] w5).trans (Frm.setRow [bl] _ _ _ (by simp)) (by simp)
        refine ⟨{ h5 with row := fd.row h5.row (by simpa using h5.ne), last := h5.last.setRow (w := w5.drew) _, len := ?_, own := fd.owns h5.own (by simpa using h5.ne2) }, fw.trans fd (by simp)⟩
        rw [length_putSector _ _ h64 (by rw [hpl]; omega)]; exact hpl
      obtain ⟨h6, f6⟩ := h6
      clear gr gt h5 fw r7' gi gl go gu c0 c1 e0
      generalize w5.drew.setCells bl (x.waiting[k].1.toNat * 64) (byteCells x.waiting[k].2) = w6 at h6 f6 ⊢
      go_wp2_with fail
      go_roundw
      case rel => exact ⟨k + 1, by go_num, by omega, f6, h6⟩
      case measure => simp [intOf]; omega
    · have HK : Hid (k = x.waiting.length) := (by omega : k = x.waiting.length)
      have hkd : Hid (List.take k x.waiting = x.waiting) := by show _ = _; rw [HK.out, List.take_of_length_le (Nat.le_refl _)]
      obtain ⟨c0, c1, -⟩ := dcell hw.row
      have hf := hw.row.thaw
      go_wp2_with fail
      go_ret
      rw [hkd.out] at hw
      have fs : Frm [d] wr (wr.setCell ⟨d, 1, none⟩ (.slice none 0 0)) := Frm.setCell _ _ _ _ (by simp)
      refine ⟨rfl, { row := hw.row.setCell 1 _, last := fs.row hw.last (by simpa using fun e => hw.ne e.symm), len := hw.len, own := World.ownsRow_nil _ _ _ _, len64 := by simp, within := by simp, lo := h.lo, hi := h.hi, few := by simp, ne := h.ne, ne1 := by simp [Value.ownBlock], ne2 := by simp [Value.ownBlock] }, fk.trans fs (by simp)⟩

theorem flush_no (d : Nat) (w : World) (R : World → Prop) (hm : Calls Tryz.prog 187 #[.pointer (some ⟨d, 0, none⟩)] w fun e w' => e = .returned (.bool false) ∧ R w') :
    Calls Tryz.prog 149 #[.pointer (some ⟨d, 0, none⟩)] w fun e w' => e = .returned (.int .i64 3) ∧ R w' := by
  go_enter Tryz.func149, Tryz.ntmps149
  go_wp2_with fail
  refine hm.mono ?_
  rintro e w1 ⟨rfl, h1⟩
  go_wp2_with fail
  go_ret
  exact ⟨rfl, h1⟩

end Go.Proofs.YtchcmhodnkgojaaGreat
