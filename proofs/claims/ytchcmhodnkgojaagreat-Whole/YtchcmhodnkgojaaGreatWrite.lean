/- Disk.Write, and the small ones. -/
import Derived.Test.YtchcmhodnkgojaaGreatMay
import Derived.Test.YtchcmhodnkgojaaGreatBuild
import Derived.Test.YtchcmhodnkgojaaGreatDrawn
import Derived.Deep.RegionHeld
import Derived.Deep.AppendLies
set_option linter.all false
namespace Go.Proofs.YtchcmhodnkgojaaGreat
open Go.RowKit Go.Lib

theorem size_zWrite : zWrite.cells.size = 65 := by simp [zWrite, Value.cells, wcells, length_byteCells]
set_option maxRecDepth 100000 in
theorem built_write (s : Int) (l : List UInt8) (h : l.length = 64) : Tryz.prog.built 240 [(0, .int .i64 s), (1, .agg (byteCells l).toArray)] = some (wcells (s, l)).toArray := by
  have hi : ∃ it, Tryz.prog.info? 240 = some it ∧ it.zero = some zWrite := by
    have := zero_write
    cases hq : Tryz.prog.info? 240 with
    | none => rw [hq] at this; cases this
    | some it => rw [hq] at this; exact ⟨it, rfl, by simpa using this⟩
  obtain ⟨it, hi, hz⟩ := hi
  have hp : ∃ fs, Tryz.prog.underlying 240 = some (.struct fs) ∧ fs.toList.mapM (fun f => (Tryz.prog.info? f.type).map fun i => (f.offset, i.size)) = some [(0, 1), (1, 64)] := ⟨_, Tryz.underlying240, by kernel_rfl⟩
  obtain ⟨fs, hu, hp⟩ := hp
  unfold Program.built
  simp only [hi, hu, hz, hp]
  have e1 : over zWrite.cells 0 [Value.int .i64 s] = (Value.int .i64 s :: byteCells (List.replicate 64 0)).toArray := by simp [over, zWrite, Value.cells, wcells]
  rw [fill_step _ _ 0 _ _ 0 1 rfl rfl (by rw [size_zWrite]; omega)]
  rw [show (Value.int IntKind.i64 s).cells.toList = [Value.int .i64 s] from rfl, e1]
  rw [fill_step _ _ 1 _ _ 1 64 rfl (by simp [Value.cells, length_byteCells, h]) (by simp only [List.size_toArray, List.length_cons, length_byteCells, List.length_replicate]; omega)]
  simp only [Instr.fill]
  congr 1
  simp [over, wcells, length_byteCells, h, Value.cells]

set_option maxRecDepth 100000 in
set_option maxHeartbeats 1000000 in
theorem write_yes (d bl n : Nat) (vw : Value) (x : DS) (w : World) (s : Int) (l : List UInt8) (hl : l.length = 64) (hs : 0 ≤ s) (hn : s < n) (hfew : x.waiting.length < 60) (hd0 : d < w.heap.size)
    (hm : ∀ w1, Frm [] w w1 → Calls Tryz.prog 187 #[.pointer (some ⟨d, 0, none⟩)] w1 fun e w' => e = .returned (.bool true) ∧ DiskIn w' d bl n vw x ∧ Frm [d] w1 w') :
    Calls Tryz.prog 148 #[.pointer (some ⟨d, 0, none⟩), .int .i64 s, .agg (byteCells l).toArray] w fun e w' => e = .returned (.int .i64 0) ∧
      ∃ vw', DiskIn w' d bl n vw' { x with waiting := x.waiting ++ [(s, l)] } ∧ Frm (d :: vw.ownBlock.toList) w w' ∧ (vw'.ownBlock = vw.ownBlock ∨ ∃ k, vw'.ownBlock = some k ∧ w.heap.size ≤ k) := by
  go_enter Tryz.func148, Tryz.ntmps148
  go_wp2_with (with_reducible first | refine stop_box rfl ?_)
  refine Stopped.go (wl_box rfl 148 _ rfl (.agg (byteCells l).toArray) rfl ?_)
  intro w1 b5 l5 f1 r5
  go_wp2_with fail
  refine (hm w1 f1).mono ?_
  clear hm
  rintro e w2 ⟨rfl, h2, f2⟩
  have r5' := f2.row r5 (by simp; omega)
  have hf := h2.row.thaw
  have q5 : Row w2.drew b5 (byteCells l).toArray 148 := r5'
  have h3 : DiskIn w2.drew d bl n vw x := h2.frm (Frm.drew [] _) (by simp) (by simp) (by simp)
  go_wp2_with fail
  refine at_begin 13 (by kernel_rfl) rfl ?_
  have f3 : Frm [] w2 w2.drew := Frm.drew [] _
  generalize w2.drew = w3 at q5 h3 f3
  obtain ⟨c0, c1, -⟩ := dcell h3.row
  refine at_pure 0 (by omega) (some 10) rfl rfl (by kernel_rfl) (by kernel_rfl) (by kernel_rfl) (fun _ _ _ h => h) rfl (fun _ => rfl) ?_
  refine at_pure 1 (by omega) (some 11) rfl rfl (by kernel_rfl) (by kernel_rfl) (by kernel_rfl) (fun _ _ _ h => h) rfl (fun _ => rfl) ?_
  refine at_pure 2 (by omega) (some 12) rfl rfl (by kernel_rfl) (by kernel_rfl) (by kernel_rfl) (fun _ _ _ h => h) rfl (fun _ => rfl) ?_
  refine at_pure 3 (by omega) (some 13) rfl rfl (by kernel_rfl) (by kernel_rfl) (by kernel_rfl) (fun _ _ _ h => h) rfl (v := .pointer (some ⟨d, 1, none⟩)) (fun _ => by go_simp) ?_
  simp only [Act.put, List.setIfInBounds_toArray, List.set_cons_succ, List.set_cons_zero]
  have hC : Lets (fun w' : World => w'.cell? ⟨d, 1, none⟩ = some vw ∧ w'.rangeAt b5 0 (byteCells l)) := ⟨fun w o h => ⟨by rw [World.cell?_alloc_some _ _ _ (by rw [h.1]; rfl)]; exact h.1, World.rangeAt_alloc h.2 o⟩, fun w h => h⟩
  have hC0 : w3.cell? ⟨d, 1, none⟩ = some vw ∧ w3.rangeAt b5 0 (byteCells l) := ⟨c1, fun j v hv => by rw [q5.cell]; simpa using hv⟩
  refine at_tame 4 _ hC hC0 (by omega) (some 14) rfl rfl (by kernel_rfl) (by kernel_rfl) (by kernel_rfl) (fun _ _ _ h => h) rfl (by kernel_rfl) (v := vw) (fun w' hw' => by have := hw'.1; go_simp) ?_
  refine at_pure 5 (by omega) (some 15) rfl rfl (by kernel_rfl) (by kernel_rfl) (by kernel_rfl) (fun _ _ _ h => h) rfl (fun _ => rfl) ?_
  clear hC hC0
  refine at_val 6 (by omega) (some 16) rfl rfl (by kernel_rfl) rfl _ w3 (ex_load 148 _ rfl b5 0 rfl row_block 64 info_block _ _ q5 (byteCells l) ?_ (by rw [length_byteCells, hl])) ?_
  · simp only [List.drop_zero]; rw [List.take_of_length_le (by rw [length_byteCells, hl]; omega)]
  refine at_pure 7 (by omega) (some 17) rfl rfl (by kernel_rfl) (by kernel_rfl) (by kernel_rfl) (fun _ _ _ h => h) rfl (v := .agg (wcells (s, l)).toArray) (fun w' => ?_) ?_
  · exact ex_build _ _ rfl _ (built_write s l hl)
  simp only [Act.put, List.setIfInBounds_toArray, List.set_cons_succ, List.set_cons_zero]
  obtain ⟨i, hi, hz, hsz, hby⟩ : ∃ i, Tryz.prog.info? 240 = some i ∧ i.zero = some zWrite ∧ i.size = 65 ∧ i.bytes = 72 := by
    have a1 := zero_write
    have a2 := info_write
    have a3 : (Tryz.prog.info? 240).map (·.bytes) = some 72 := by kernel_rfl
    cases hq : Tryz.prog.info? 240 with
    | none => rw [hq] at a1; cases a1
    | some it => rw [hq] at a1 a2 a3; exact ⟨it, rfl, by simpa using a1, by simpa using a2, by simpa using a3⟩
  refine at_val 8 (by omega) (some 18) rfl rfl (by kernel_rfl) rfl _ _ (ex_slice1 130 240 _ rfl Tryz.underlying130 i zWrite (.agg (wcells (s, l)).toArray) hi hz (by omega) (by omega) rfl ?_) ?_
  · simp only [Value.cells, List.size_toArray, hsz]; exact length_wcells _ hl
  have h4 := h3.new (w' := w3.alloc (.cells (Value.agg (wcells (s, l)).toArray).cells 240)) (Frm.alloc [] _ _) (by simp)
  have r8 : Row (w3.alloc (.cells (Value.agg (wcells (s, l)).toArray).cells 240)) w3.heap.size (wcells (s, l)).toArray 240 := Row.new _ _ _
  have f4 : Frm [] w3 (w3.alloc (.cells (Value.agg (wcells (s, l)).toArray).cells 240)) := Frm.alloc _ _ _
  generalize w3.alloc (.cells (Value.agg (wcells (s, l)).toArray).cells 240) = w4 at h4 r8 f4
  refine at_one 9 (by omega) rfl (by kernel_rfl) rfl (fun K hK => ?_)
  refine wp_append_lies w4 (.tmp 14) (.tmp 18) 130 rfl 0 240 i zWrite 65 72 Tryz.underlying130 hi hz hsz hby size_zWrite (by omega) vw x.waiting.length (wscells x.waiting) rfl h4.own ⟨w3.heap.size, 0, none⟩ 1 1 (wcells (s, l)) rfl (by rw [length_wcells _ hl]) ?_ ?_ (by omega) (by simp [maxLen]; omega) (by omega) (Nat.zero_le _) w4.heap.size rfl ?_
  · intro j u hu; rw [Addr.add_mid, r8.cell]; simpa using hu
  · intro v hv; simp only [wcells, List.mem_cons] at hv; rcases hv with rfl | hv; rfl; exact byteCells_one _ v hv
  intro g cap w5 hown hgr hat hlt
  refine hK _ _ ?_
  clear hK
  simp only [Act.put, List.setIfInBounds_toArray, List.set_cons_succ, List.set_cons_zero]
  have f5 := Frm.grown hgr
  have hown2 := h4.own
  have hdlt := h3.row.lt
  have hblt := h3.last.lt
  have hs34 := f4.size
  have hrow5 := f5.row h4.row (by simpa using h4.ne1)
  have hlast5 := f5.row h4.last (by simpa using h4.ne2)
  have gd : d ≠ g := by
    rcases hat with hat | rfl
    · intro e; exact h4.ne1 (by rw [hat, e])
    · omega
  have gb : bl ≠ g := by
    rcases hat with hat | rfl
    · intro e; exact h4.ne2 (by rw [hat, e])
    · omega
  refine at_pure 10 (by omega) (some 20) rfl rfl (by kernel_rfl) (by kernel_rfl) (by kernel_rfl) (fun _ _ _ h => h) rfl (fun _ => rfl) ?_
  refine at_pure 11 (by omega) (some 21) rfl rfl (by kernel_rfl) (by kernel_rfl) (by kernel_rfl) (fun _ _ _ h => h) rfl (v := .pointer (some ⟨d, 1, none⟩)) (fun _ => by go_simp) ?_
  simp only [Act.put]
  refine at_skip 12 (by omega) none rfl rfl (by kernel_rfl) rfl (w5.setCell ⟨d, 1, none⟩ (.slice (some ⟨g, 0, none⟩) (x.waiting.length + 1) cap)) ?_ ?_
  · have := hrow5.thaw 1
    have := (dcell hrow5).2.1
    go_simp
  refine at_done (by kernel_rfl) ?_
  simp only [Act.put]
  have f6 : Frm [d] w5 (w5.setCell ⟨d, 1, none⟩ (.slice (some ⟨g, 0, none⟩) (x.waiting.length + 1) cap)) := Frm.setCell _ _ _ _ (by simp)
  have hrow6 := hrow5.setCell 1 (.slice (some ⟨g, 0, none⟩) (x.waiting.length + 1) cap)
  have hlast6 := f6.row hlast5 (by simpa using fun e => h4.ne e.symm)
  have hown6 := f6.owns hown (by simpa [Value.ownBlock] using gd.symm)
  generalize w5.setCell ⟨d, 1, none⟩ (.slice (some ⟨g, 0, none⟩) (x.waiting.length + 1) cap) = w6 at f6 hrow6 hlast6 hown6
  have hfin : DiskIn w6 d bl n (.slice (some ⟨g, 0, none⟩) (x.waiting.length + 1) cap) { x with waiting := x.waiting ++ [(s, l)] } := by
    refine { row := hrow6, last := hlast6, len := h3.len, own := ?_, len64 := ?_, within := ?_, lo := h3.lo, hi := h3.hi, few := by simp; omega, ne := h3.ne, ne1 := by simpa [Value.ownBlock] using gd.symm, ne2 := by simpa [Value.ownBlock] using gb.symm }
    · simpa [wscells] using hown6
    · intro p hp; simp only [List.mem_append, List.mem_singleton] at hp; rcases hp with hp | rfl; exact h3.len64 p hp; exact hl
    · intro p hp; simp only [List.mem_append, List.mem_singleton] at hp; rcases hp with hp | rfl; exact h3.within p hp; exact ⟨hs, hn⟩
  clear c0 c1 hf hrow5 hlast5 hown hown2 hrow6 hlast6 hown6 q5 r8 r5' r5
  go_wp2_with fail
  go_ret
  have g0 : Frm [d] w w4 := ((((f1.mono (by simp) : Frm [d] w w1).trans f2 (by simp)).trans f3 (by simp)).trans f4 (by simp))
  have g1 : Frm (d :: vw.ownBlock.toList) w w4 := g0.mono (by simp)
  refine ⟨rfl, _, hfin, (g1.trans f5 (by intro i hi; left; simp [hi])).trans f6 (by simp), ?_⟩
  rcases hat with hat | rfl
  · exact .inl (by rw [hat]; rfl)
  · exact .inr ⟨_, rfl, by have := g1.size; omega⟩

theorem write_no (d : Nat) (s : Int) (l : List UInt8) (w : World) (R : World → Prop) (hm : ∀ w1, Frm [] w w1 → Calls Tryz.prog 187 #[.pointer (some ⟨d, 0, none⟩)] w1 fun e w' => e = .returned (.bool false) ∧ R w') :
    Calls Tryz.prog 148 #[.pointer (some ⟨d, 0, none⟩), .int .i64 s, .agg (byteCells l).toArray] w fun e w' => e = .returned (.int .i64 3) ∧ R w' := by
  go_enter Tryz.func148, Tryz.ntmps148
  go_wp2_with (with_reducible first | refine stop_box rfl ?_)
  refine Stopped.go (wl_box rfl 148 _ rfl (.agg (byteCells l).toArray) rfl ?_)
  intro w1 b5 l5 f1 r5
  go_wp2_with fail
  refine (hm w1 f1).mono ?_
  rintro e w2 ⟨rfl, h1⟩
  go_wp2_with fail
  go_ret
  exact ⟨rfl, h1⟩

end Go.Proofs.YtchcmhodnkgojaaGreat
