/- Disk.fail. -/
import Derived.Test.YtchcmhodnkgojaaGreatAct
set_option linter.all false
namespace Go.Proofs.YtchcmhodnkgojaaGreat
open Go.RowKit Go.Lib

def keepBit (keep : Int) (k : Nat) : Bool := bits BinOp.and .i64 (keep / 2 ^ k) 1 == 1
/-- What lasts when the first k of the waiting writes have been chosen from. -/
def keptTo (keep : Int) (la : List UInt8) (l : List (Int × List UInt8)) : Nat → List UInt8
  | 0 => la
  | k + 1 => match l[k]? with
    | some p => if keepBit keep k then putSector (keptTo keep la l k) p else keptTo keep la l k
    | none => keptTo keep la l k
theorem keptTo_yes (keep : Int) (la : List UInt8) (l : List (Int × List UInt8)) (k : Nat) (hk : k < l.length) (h : keepBit keep k = true) : keptTo keep la l (k + 1) = putSector (keptTo keep la l k) l[k] := by simp [keptTo, hk, h]
theorem keptTo_no (keep : Int) (la : List UInt8) (l : List (Int × List UInt8)) (k : Nat) (h : keepBit keep k = false) : keptTo keep la l (k + 1) = keptTo keep la l k := by
  simp only [keptTo]
  split <;> simp [h]
theorem length_keptTo (keep : Int) (n : Nat) (la : List UInt8) (l : List (Int × List UInt8)) (h : la.length = 64 * n) (h1 : ∀ p ∈ l, p.2.length = 64) (h2 : ∀ p ∈ l, 0 ≤ p.1 ∧ p.1 < n) : ∀ k, (keptTo keep la l k).length = 64 * n
  | 0 => h
  | k + 1 => by
    have ih := length_keptTo keep n la l h h1 h2 k
    simp only [keptTo]
    split
    · rename_i p hp
      have hm := List.mem_of_getElem? hp
      have := h2 p hm
      split
      · rw [length_putSector _ _ (h1 p hm) (by omega)]; exact ih
      · exact ih
    · exact ih

set_option maxRecDepth 100000 in
set_option maxHeartbeats 400000 in
theorem fail_any (d bl n : Nat) (vw : Value) (x : DS) (w : World) (h : DiskIn w d bl n vw x) :
    Calls Tryz.prog 210 #[.pointer (some ⟨d, 0, none⟩)] w fun e w' => e = .returned (.tuple #[]) ∧ DiskIn w' d bl n (.slice none 0 0) { x with lasting := keptTo x.keep x.lasting x.waiting x.waiting.length, waiting := [], failed := true } ∧ Frm [d, bl] w w' := by
  have dlt := h.row.lt
  have llt := h.last.lt
  obtain ⟨ad, cap, hvw⟩ := own_slice h.own
  subst hvw
  obtain ⟨c0, c1, -⟩ := dcell h.row
  go_enter Tryz.func210, Tryz.ntmps210
  go_wp2_with fail
  have hlen := h.len
  go_loopw [9] (fun i wr => ∃ k : Nat, i = .int .i64 k ∧ k ≤ x.waiting.length ∧ Frm [d, bl] w wr ∧ DiskIn wr d bl n (.slice ad x.waiting.length cap) { x with lasting := keptTo x.keep x.lasting x.waiting k }) (fun i _ => x.waiting.length - (intOf i).toNat)
  case atStart => exact ⟨0, rfl, by omega, Frm.refl _ _, h⟩
  case round =>
    obtain ⟨k, rfl, hk, fk, hw⟩ := hrel
    clear c0 c1
    have hfew := h.few
    by_cases hlt : k < x.waiting.length
    · obtain ⟨g, cur, rfl, hg, hle, _, hcs, htk⟩ := own_some (n := x.waiting.length) hw.own (by omega)
      have h64 := h.len64 _ (List.getElem_mem hlt)
      have hin := h.within _ (List.getElem_mem hlt)
      have hat : ((cur.toList.drop (k * 65)).take 65) = wcells x.waiting[k] := by
        rw [drop_take_of_take htk _ _ (by omega), wscells_at x.waiting h.len64 k hlt]
      clear hcs htk
      go_wp2_with (with_reducible first | refine stop_alloc rfl ?_ | refine stop_load 148 rfl ?_ | refine stop_load 240 rfl ?_ | refine stop_store 148 rfl ?_ | refine stop_store 240 rfl ?_)
      refine Stopped.go (wl_load rfl 240 _ rfl g (k * 65) rfl row_write 65 info_write _ _ hg _ hat (length_wcells _ h64) ?_)
      clear hat
      go_wp2_with (with_reducible first | refine stop_alloc rfl ?_ | refine stop_load 148 rfl ?_ | refine stop_load 240 rfl ?_ | refine stop_store 148 rfl ?_ | refine stop_store 240 rfl ?_)
      refine Stopped.go (wl_alloc rfl 240 rfl zWrite zero_write ?_)
      intro w4 b7 l7 f4 r7
      go_wp2_with (with_reducible first | refine stop_alloc rfl ?_ | refine stop_load 148 rfl ?_ | refine stop_load 240 rfl ?_ | refine stop_store 148 rfl ?_ | refine stop_store 240 rfl ?_)
      refine Stopped.go (wl_store rfl 240 _ _ rfl _ 0 rfl _ rfl 65 info_write ?_ ?_ _ _ r7 ?_ ?_)
      · simp only [List.size_toArray]; exact length_wcells _ h64
      · intro v hv; simp only [wcells, List.mem_cons] at hv; rcases hv with rfl | hv; rfl; exact byteCells_one _ v hv
      · decide
      intro w5 f5 r7'
      rw [over_all _ _ (by rw [length_wcells _ h64]; rfl)] at r7'
      clear r7
      have l7' : wr.heap.size ≤ b7 := l7
      have fk5 : Frm [] wr w5 := f4.trans f5 (by simpa using l7)
      have h5 := hw.new fk5 (by simp)
      have fw := fk.trans fk5 (by simp)
      obtain ⟨c0, c1, c2, c3, c4, c5, c6⟩ := dcell h5.row
      have e0 : w5.cell? ⟨b7, 0, none⟩ = some (.int .i64 x.waiting[k].1) := by rw [r7'.cell]; rfl
      have hne : bl ≠ b7 := by have := hw.last.lt; omega
      have hned : d ≠ b7 := by have := hw.row.lt; omega
      clear fk hw f4 f5 l7
      by_cases hb : keepBit x.keep k = true
      · have HB : Hid (keepBit x.keep k = true) := hb
        unfold keepBit at hb
        go_wp2_with fail
        have hpl : (keptTo x.keep x.lasting x.waiting k).length = 64 * n := length_keptTo _ n _ _ h.len h.len64 h.within k
        have gr : w5.rangeAt b7 1 (byteCells x.waiting[k].2) := fun j v hv => by rw [r7'.cell]; simpa [wcells, Nat.add_comm] using hv
        have gt : w5.there bl (x.waiting[k].1.toNat * 64) 64 := fun j hj => by rw [h5.last.cell, h5.last.thaw]; simp [length_byteCells, hpl]; omega
        have gi : (Tryz.prog.info? 148).map (·.size) = some (byteCells x.waiting[k].2).length := by rw [length_byteCells, h64]; exact info_block
        have gl : (byteCells x.waiting[k].2).length = 64 := by rw [length_byteCells, h64]
        have go := byteCells_one x.waiting[k].2
        have gu := und_blocks
        obtain ⟨gin1, gin2⟩ := hin
        have hdb := h.ne
        go_region_held3 (fun w' => w'.cell? ⟨d, 0, none⟩ = some (.slice (some ⟨bl, 0, none⟩) n n) ∧ w'.cell? ⟨b7, 0, none⟩ = some (.int .i64 x.waiting[k].1) ∧ w'.rangeAt b7 1 (byteCells x.waiting[k].2) ∧ w'.there bl (x.waiting[k].1.toNat * 64) 64) ((go_split_ands; (try simp only [World.rangeAt_drew, World.there_drew, World.cell?_drew] at *); (repeat' constructor) <;> first | assumption | (rw [World.cell?_setCells_out _ _ _ _ _ (by intro e; simp only at e; omega)]; assumption) | (apply World.there_setCells; assumption) | (refine World.rangeAt_setCells_apart (by assumption) _ _ _ (by omega)))) (fail)
        have h6 : DiskIn (w5.drew.setCells bl (x.waiting[k].1.toNat * 64) (byteCells x.waiting[k].2)) d bl n (.slice (some ⟨g, 0, none⟩) x.waiting.length cap) { x with lasting := keptTo x.keep x.lasting x.waiting (k + 1) } ∧
            Frm [d, bl] w (w5.drew.setCells bl (x.waiting[k].1.toNat * 64) (byteCells x.waiting[k].2)) := by
          rw [setCells_row (w := w5.drew) h5.last (by simp [length_byteCells, hpl, h64]; omega) go, over_putSector _ _ h64, keptTo_yes _ _ _ _ hlt HB.out]
          have fd : Frm [bl] w5 (w5.drew.setRow bl (byteCells (putSector (keptTo x.keep x.lasting x.waiting k) x.waiting[k])).toArray) := (Frm.drew [bl] w5).trans (Frm.setRow [bl] _ _ _ (by simp)) (by simp)
          refine ⟨{ h5 with row := fd.row h5.row (by simpa using h5.ne), last := h5.last.setRow (w := w5.drew) _, len := ?_, own := fd.owns h5.own (by simpa using h5.ne2) }, fw.trans fd (by simp)⟩
          rw [length_putSector _ _ h64 (by rw [hpl]; omega)]; exact hpl
        obtain ⟨h6, f6⟩ := h6
        clear gr gt h5 fw r7' gi gl go gu c0 c1 e0
        generalize w5.drew.setCells bl (x.waiting[k].1.toNat * 64) (byteCells x.waiting[k].2) = w6 at h6 f6 ⊢
        go_wp2_with fail
        go_roundw
        case rel => exact ⟨k + 1, by go_num, by omega, f6, h6⟩
        case measure => simp [intOf]; omega
      · have HB : Hid (keepBit x.keep k = false) := (by simpa using hb : keepBit x.keep k = false)
        have hb' : (bits BinOp.and .i64 (x.keep / 2 ^ k) 1 == 1) = false := HB.out
        clear hb
        go_wp2_with fail
        go_roundw
        case rel => exact ⟨k + 1, by go_num, by omega, fw, by rw [keptTo_no _ _ _ _ HB.out]; exact h5⟩
        case measure => simp [intOf]; omega
    · have HK : Hid (k = x.waiting.length) := (by omega : k = x.waiting.length)
      obtain ⟨c0, c1, c2, c3, c4, c5, c6⟩ := dcell hw.row
      have hf := hw.row.thaw
      have hlast := hw.last
      rw [HK.out] at hlast
      have hl2 := length_keptTo x.keep n _ _ h.len h.len64 h.within x.waiting.length
      go_wp2_with fail
      go_end0
      have fs : Frm [d] wr ((wr.setCell ⟨d, 1, none⟩ (.slice none 0 0)).setCell ⟨d, 6, none⟩ (.bool true)) := (Frm.setCell [d] _ _ _ (by simp)).trans (Frm.setCell [d] _ _ _ (by simp)) (by simp)
      refine ⟨rfl, { row := (hw.row.setCell 1 _).setCell 6 _, last := fs.row hlast (by simpa using fun e => hw.ne e.symm), len := hl2, own := World.ownsRow_nil _ _ _ _, len64 := by simp, within := by simp, lo := h.lo, hi := h.hi, few := by simp, ne := h.ne, ne1 := by simp [Value.ownBlock], ne2 := by simp [Value.ownBlock] }, fk.trans fs (by simp)⟩

end Go.Proofs.YtchcmhodnkgojaaGreat
