/- IsPath, isName. -/
import Derived.Test.YtchcmhodnkgojaaGreatSound
import Derived.Laws.IdiomStrings
set_option linter.all false
namespace Go.Proofs.YtchcmhodnkgojaaGreat
open Go.RowKit Go.Lib

def isLetter (b : UInt8) : Bool := 97 ≤ b.toNat && b.toNat ≤ 122
def isPathL (l : List UInt8) : Bool := 1 ≤ l.length && l.length ≤ 8 && l.all isLetter

theorem wl_bytes {P : Program} {ops : Array Oper} {Q : Exit → Act → World → Prop} {a : Act} {w : World} {rest : List Oper} {o : Oper} (hg : o.guard = none) (src dst e : TypeId) (x : Operand) (ho : o.op = .convert src dst x)
    (hs : P.underlying src = some .string) (hd : P.underlying dst = some (.slice e)) (he : P.underlying e = some (.int .u8)) (s : ByteArray) (hx : a.eval x = .string s)
    (h : ∀ (w1 : World) (b cap : Nat), w.heap.size ≤ b → Frm [] w w1 → (∀ j, (hj : j < s.data.toList.length) → w1.cell? ⟨b, j, none⟩ = some (.int .u8 (s.data.toList[j].toNat : Int))) → wpList P ops Q rest (a.put o.dst (.slice (some ⟨b, 0, none⟩) s.size cap)) w1) : wpList P ops Q (o :: rest) a w := by
  have hr := run_bytes_of_string (P := P) w src dst e s hs hd he
  have hb : (w.drew.alloc (.cells (bytesRow s (grownCap w s.size 0 e)) e ((bytesRow s (grownCap w s.size 0 e)).size, (bytesRow s (grownCap w s.size 0 e)).size + 1))).heap[w.heap.size]? = some (.cells (bytesRow s (grownCap w s.size 0 e)) e ((bytesRow s (grownCap w s.size 0 e)).size, (bytesRow s (grownCap w s.size 0 e)).size + 1)) := by
    show (w.heap.push _)[w.heap.size]? = _
    simp
  have hf : Frm [] w (w.drew.alloc (.cells (bytesRow s (grownCap w s.size 0 e)) e ((bytesRow s (grownCap w s.size 0 e)).size, (bytesRow s (grownCap w s.size 0 e)).size + 1))) := (Frm.drew [] w).trans (Frm.alloc [] _ _) (by simp)
  generalize w.drew.alloc (.cells (bytesRow s (grownCap w s.size 0 e)) e ((bytesRow s (grownCap w s.size 0 e)).size, (bytesRow s (grownCap w s.size 0 e)).size + 1)) = w1 at hr hb hf
  refine wl_val hg (.slice (some ⟨w.heap.size, 0, none⟩) s.size (grownCap w s.size 0 e)) w1 ?_ (h w1 _ _ (Nat.le_refl _) hf fun j hj => ?_)
  · simp only [execOp, ho, hx, Sem.run_bind]
    rw [hr]
    rfl
  · rw [Lib.cell_of_heap hb, bytesRow_at s _ j (by simpa using hj)]
    simp

set_option maxRecDepth 100000 in
set_option maxHeartbeats 1000000 in
theorem isPath_any (s : ByteArray) (w : World) (hs : s.size ≤ 9223372036854775807) :
    Calls Tryz.prog 49 #[.string s] w fun e w' => e = .returned (.bool (isPathL s.data.toList)) ∧ Frm [] w w' := by
  have hsl : Hid (s.data.toList.length = s.size) := by show _ = _; rw [Array.length_toList]; rfl
  go_enter Tryz.func49, Tryz.ntmps49
  by_cases h1 : (s.size : Int) < 1
  · have HE : Hid (isPathL s.data.toList = false) := by
      show _ = _
      unfold isPathL
      have : s.data.toList.length = 0 := by rw [hsl.out]; omega
      rw [this]; rfl
    go_wp2_with fail
    go_ret
    exact ⟨by rw [HE.out]; rfl, Frm.refl _ _⟩
  · by_cases h8 : (s.size : Int) > 8
    · have HE : Hid (isPathL s.data.toList = false) := by
        show _ = _
        unfold isPathL
        rw [hsl.out]
        have : decide (s.size ≤ 8) = false := by simp; omega
        rw [this]; simp
      go_wp2_with fail
      go_ret
      exact ⟨by rw [HE.out]; rfl, Frm.refl _ _⟩
    · have HS0 : Hid (isPathL s.data.toList = (s.data.toList.drop 0).all isLetter) := by
        show _ = _
        unfold isPathL
        rw [hsl.out, List.drop_zero]
        have e1 : decide (1 ≤ s.size) = true := by simp; omega
        have e2 : decide (s.size ≤ 8) = true := by simp; omega
        rw [e1, e2]; rfl
      go_wp2_with (with_reducible first | refine stop_convert rfl ?_)
      refine Stopped.go (wl_bytes rfl 9 85 5 _ rfl Tryz.underlying9 Tryz.underlying85 Tryz.underlying5 s rfl ?_)
      intro w1 b cap lb f1 hcell
      generalize hgl : s.data.toList = l at *
      have HLL : Hid (s.data.toList = l) := hgl
      clear hgl
      have HCell : Hid (∀ j, (hj : j < l.length) → w1.cell? ⟨b, j, none⟩ = some (.int .u8 (l[j].toNat : Int))) := hcell
      clear hcell
      go_wp2_with fail
      have hls : l.length = s.size := hsl.out
      go_loopw [16] (fun c wr => ∃ k : Nat, c = .int .i64 k ∧ k ≤ s.size ∧ wr = w1 ∧ Hid (isPathL l = (l.drop k).all isLetter)) (fun c _ => s.size - (intOf c).toNat)
      case atStart => exact ⟨0, rfl, by omega, rfl, HS0⟩
      case round =>
        obtain ⟨k, rfl, hk, rfl, HS⟩ := hrel
        by_cases hlt : k < s.size
        · have hk' : k < l.length := by omega
          have hc := HCell.out k hk'
          have HN : Hid (isPathL l = (isLetter l[k] && (l.drop (k + 1)).all isLetter)) := by
            have := HS.out
            rw [List.drop_eq_getElem_cons hk', List.all_cons] at this
            exact this
          have hb0 : (l[k].toNat : Int) ≤ 255 := by have := l[k].toNat_lt; omega
          have HL : Hid (isLetter l[k] = (decide (97 ≤ l[k].toNat) && decide (l[k].toNat ≤ 122))) := rfl
          generalize l[k] = c at *
          by_cases g1 : (c.toNat : Int) < 97
          · have HF : Hid (isPathL l = false) := by
              show _ = _
              rw [HN.out, HL.out]
              have : decide (97 ≤ c.toNat) = false := by simp; omega
              rw [this]; rfl
            go_wp2_with fail
            go_ret
            exact ⟨by rw [HLL.out, HF.out]; rfl, f1⟩
          · by_cases g2 : (c.toNat : Int) > 122
            · have HF : Hid (isPathL l = false) := by
                show _ = _
                rw [HN.out, HL.out]
                have : decide (c.toNat ≤ 122) = false := by simp; omega
                rw [this]; simp
              go_wp2_with fail
              go_ret
              exact ⟨by rw [HLL.out, HF.out]; rfl, f1⟩
            · have HF : Hid (isPathL l = (l.drop (k + 1)).all isLetter) := by
                show _ = _
                rw [HN.out, HL.out]
                have e1 : decide (97 ≤ c.toNat) = true := by simp; omega
                have e2 : decide (c.toNat ≤ 122) = true := by simp; omega
                rw [e1, e2]; rfl
              go_wp2_with fail
              go_roundw
              case rel => exact ⟨k + 1, by go_num, by omega, trivial, HF⟩
              case measure => simp [intOf]; omega
        · have HF : Hid (isPathL l = true) := by
            have := HS.out
            rw [List.drop_of_length_le (by omega)] at this
            exact this
          go_wp2_with fail
          go_ret
          exact ⟨by rw [HLL.out, HF.out]; rfl, f1⟩

/-- A name that a file may have. -/
def isNameD (s : Int) (p : List UInt8) : Bool := if s = 0 ∨ s = 1 ∨ s = 2 then isPathL p else (if s = 3 then p == [] else false)
set_option maxRecDepth 100000 in
set_option maxHeartbeats 1000000 in
theorem isName_any (s : Nat) (p : ByteArray) (w : World) (hp : p.size ≤ 9223372036854775807) (hs : s < 256) :
    Calls Tryz.prog 185 #[.agg (ncells s p)] w fun e w' => e = .returned (.bool (isNameD s p.data.toList)) ∧ Frm [] w w' := by
  have HD : Hid (isNameD s p.data.toList = if (s : Int) = 0 ∨ (s : Int) = 1 ∨ (s : Int) = 2 then isPathL p.data.toList else (if (s : Int) = 3 then p.data.toList == [] else false)) := rfl
  go_enter Tryz.func185, Tryz.ntmps185
  go_wp2_with (with_reducible first | refine stop_box rfl ?_)
  refine Stopped.go (wl_box rfl 103 _ rfl (.agg (ncells s p)) rfl ?_)
  intro w1 b1 l1 f1 r1
  have c0 : w1.cell? ⟨b1, 0, none⟩ = some (.int .i64 s) := by rw [r1.cell]; rfl
  have c1 : w1.cell? ⟨b1, 1, none⟩ = some (.string p) := by rw [r1.cell]; rfl
  by_cases hq : (s : Int) = 0 ∨ (s : Int) = 1 ∨ (s : Int) = 2
  · have HE : Hid (isNameD s p.data.toList = isPathL p.data.toList) := by show _ = _; rw [HD.out, if_pos hq]
    rcases (by omega : s = 0 ∨ s = 1 ∨ s = 2) with rfl | rfl | rfl
    all_goals
      clear hq
      go_wp2_with fail
      refine (isPath_any p w1 hp).mono ?_
      rintro e w2 ⟨rfl, f2⟩
      have fw := f1.trans f2 (by simp)
      go_wp2_with fail
      go_ret
      exact ⟨by rw [HE.out]; rfl, fw⟩
  · by_cases h3 : (s : Int) = 3
    · have HE : Hid (isNameD s p.data.toList = p.toList.isEmpty) := by show _ = _; rw [HD.out, if_neg hq, if_pos h3, ByteArray.toList_eq p]; cases p.data.toList <;> rfl
      obtain rfl : s = 3 := by omega
      clear hq h3
      go_wp2_with fail
      go_ret
      refine ⟨?_, f1⟩
      rw [HE.out]; rfl
    · have HE : Hid (isNameD s p.data.toList = false) := by show _ = _; rw [HD.out, if_neg hq, if_neg h3]
      have n0 : ((s : Int) == 0) = false := by rw [beq_eq_false_iff_ne]; omega
      have n1 : ((s : Int) == 1) = false := by rw [beq_eq_false_iff_ne]; omega
      have n2 : ((s : Int) == 2) = false := by rw [beq_eq_false_iff_ne]; omega
      have n3 : ((s : Int) == 3) = false := by rw [beq_eq_false_iff_ne]; omega
      go_wp2_with fail
      go_ret
      exact ⟨by rw [HE.out]; rfl, f1⟩

end Go.Proofs.YtchcmhodnkgojaaGreat
