/- The disk with what it owns: one contract an act, whatever becomes of it. -/
import Derived.Test.YtchcmhodnkgojaaGreatAll
set_option linter.all false
namespace Go.Proofs.YtchcmhodnkgojaaGreat
open Go.RowKit Go.Lib

/-- A disk behind block d, on n sectors; F: the blocks that are its own. -/
def DiskOwn (w : World) (F : List Nat) (d n : Nat) (x : DS) : Prop := ∃ bl vw, DiskIn w d bl n vw x ∧ F = d :: bl :: vw.ownBlock.toList

theorem DiskOwn.frm {w w' : World} {F S : List Nat} {d n : Nat} {x : DS} (h : DiskOwn w F d n x) (f : Frm S w w') (hS : ∀ k ∈ S, k ∉ F) : DiskOwn w' F d n x := by
  obtain ⟨bl, vw, h, rfl⟩ := h
  refine ⟨bl, vw, h.frm f (fun e => hS _ e (by simp)) (fun e => hS _ e (by simp)) (fun k hk e => hS k hk (by simp [e])), rfl⟩
theorem DiskOwn.lt {w : World} {F : List Nat} {d n : Nat} {x : DS} (h : DiskOwn w F d n x) : ∀ k ∈ F, k < w.heap.size := by
  obtain ⟨bl, vw, h, rfl⟩ := h
  intro k hk
  simp only [List.mem_cons, Option.mem_toList] at hk
  rcases hk with rfl | rfl | hk
  · exact h.row.lt
  · exact h.last.lt
  · exact own_lt h.own hk
theorem DiskOwn.new {w w' : World} {F S : List Nat} {d n : Nat} {x : DS} (h : DiskOwn w F d n x) (f : Frm S w w') (hS : ∀ k ∈ S, w.heap.size ≤ k) : DiskOwn w' F d n x :=
  h.frm f fun k hk hF => by have := h.lt k hF; have := hS k hk; omega
theorem DiskOwn.mem {w : World} {F : List Nat} {d n : Nat} {x : DS} (h : DiskOwn w F d n x) : d ∈ F := by
  obtain ⟨bl, vw, h, rfl⟩ := h; simp

/-- The numbers stay small. -/
structure DS.Fit (x : DS) (room : Nat) : Prop where
  acts0 : 0 ≤ x.acts
  acts1 : x.acts + room ≤ 1000000000
  left0 : 0 ≤ x.left
  left1 : x.left ≤ 9223372036854775807

def DS.write (x : DS) (s : Int) (l : List UInt8) : DS := if x.canAct then { x.acted with waiting := x.waiting ++ [(s, l)] } else x.stopped
def DS.flush (x : DS) : DS := if x.canAct then { x.acted with lasting := putAll x.lasting x.waiting, waiting := [] } else x.stopped
/-- OK, or that the disk is down. -/
def errDown (b : Bool) : Value := .int .i64 (if b then 0 else 3)

theorem cannot {x : DS} (h : x.canAct = false) : x.failed = true ∨ (x.failed = false ∧ x.given = true ∧ x.left = 0) := by
  unfold DS.canAct at h
  cases hf : x.failed <;> simp_all

/-- What becomes of F: its own blocks, and new ones. -/
def Grew (F F' : List Nat) (w : World) : Prop := ∀ k ∈ F', k ∈ F ∨ w.heap.size ≤ k
theorem Grew.refl (F : List Nat) (w : World) : Grew F F w := fun _ h => .inl h
theorem Grew.trans {F G H : List Nat} {w w' : World} (h : Grew F G w) (k : Grew G H w') (hs : w.heap.size ≤ w'.heap.size) : Grew F H w := fun i hi => by
  rcases k i hi with h1 | h1
  · exact h i h1
  · exact .inr (by omega)

theorem stopped_own {d bl n : Nat} {vw : Value} {x : DS} {w w' : World} (h : DiskIn w d bl n vw x) (h' : DiskIn w' d bl n (.slice none 0 0) x.fall) : ∃ F', DiskOwn w' F' d n x.fall ∧ Grew (d :: bl :: vw.ownBlock.toList) F' w :=
  ⟨[d, bl], ⟨bl, _, h', by simp [Value.ownBlock]⟩, fun k hk => .inl (by simp at hk; simp; rcases hk with rfl | rfl <;> simp)⟩

theorem write_spec (F : List Nat) (d n : Nat) (x : DS) (s : Int) (l : List UInt8) (w : World) (h : DiskOwn w F d n x) (hx : x.Fit 1) (hl : l.length = 64) (hs : 0 ≤ s) (hn : s < n) (hfew : x.waiting.length < 60) :
    Calls Tryz.prog 148 #[.pointer (some ⟨d, 0, none⟩), .int .i64 s, .agg (byteCells l).toArray] w fun e w' => e = .returned (errDown x.canAct) ∧ ∃ F', DiskOwn w' F' d n (x.write s l) ∧ Frm F w w' ∧ Grew F F' w := by
  obtain ⟨bl, vw, h, rfl⟩ := h
  cases hc : x.canAct with
  | true =>
    refine (write_yes d bl n vw x.acted w s l hl hs hn (by simpa [DS.acted] using hfew) h.row.lt fun w1 f1 => may_acts d bl n vw x w1 (h.new f1 (by simp)) hc hx.left0 hx.left1 hx.acts0 (by have := hx.acts1; omega)).mono ?_
    rintro e w' ⟨rfl, vw', h', f, hv⟩
    refine ⟨by simp [errDown], d :: bl :: vw'.ownBlock.toList, ⟨bl, vw', by simpa [DS.write, hc, DS.acted] using h', rfl⟩, f.mono (fun k hk => .inl (by simp only [List.mem_cons] at hk ⊢; rcases hk with hk | hk; exact .inl hk; exact .inr (.inr hk))), ?_⟩
    intro k hk
    simp only [List.mem_cons, Option.mem_toList] at hk ⊢
    rcases hk with rfl | rfl | hk
    · exact .inl (.inl rfl)
    · exact .inl (.inr (.inl rfl))
    · rcases hv with hv | ⟨j, hj, hlt⟩
      · exact .inl (.inr (.inr (by rw [← hv]; exact hk)))
      · rw [hj] at hk
        obtain rfl : j = k := by simpa using hk
        exact .inr hlt
  | false =>
    rcases cannot hc with hf | ⟨hf, hg, h0⟩
    · refine (write_no d s l w (fun w' => DiskIn w' d bl n vw x ∧ Frm [] w w') fun w1 f1 => ?_).mono ?_
      · refine (may_failed d bl n vw x w1 (h.new f1 (by simp)) hf).mono ?_
        rintro e w' ⟨rfl, rfl⟩
        exact ⟨rfl, h.new f1 (by simp), f1⟩
      · rintro e w' ⟨rfl, h', f⟩
        exact ⟨by simp [errDown], _, ⟨bl, vw, by simpa [DS.write, hc, DS.stopped, hf] using h', rfl⟩, f.mono (by simp), Grew.refl _ _⟩
    · refine (write_no d s l w (fun w' => DiskIn w' d bl n (.slice none 0 0) x.fall ∧ Frm [d, bl] w w') fun w1 f1 => ?_).mono ?_
      · refine (may_falls d bl n vw x w1 (h.new f1 (by simp)) hf hg h0).mono ?_
        rintro e w' ⟨rfl, h', f2⟩
        exact ⟨rfl, h', (f1.mono (by simp) : Frm [d, bl] w w1).trans f2 (by simp)⟩
      · rintro e w' ⟨rfl, h', f⟩
        obtain ⟨F', o1, o2⟩ := stopped_own h h'
        exact ⟨by simp [errDown], F', by simpa [DS.write, hc, DS.stopped, hf] using o1, f.mono (by simp), o2⟩


theorem flush_spec (F : List Nat) (d n : Nat) (x : DS) (w : World) (h : DiskOwn w F d n x) (hx : x.Fit 1) :
    Calls Tryz.prog 149 #[.pointer (some ⟨d, 0, none⟩)] w fun e w' => e = .returned (errDown x.canAct) ∧ ∃ F', DiskOwn w' F' d n x.flush ∧ Frm F w w' ∧ Grew F F' w := by
  obtain ⟨bl, vw, h, rfl⟩ := h
  cases hc : x.canAct with
  | true =>
    refine (flush_yes d bl n vw x.acted w (may_acts d bl n vw x w h hc hx.left0 hx.left1 hx.acts0 (by have := hx.acts1; omega))).mono ?_
    rintro e w' ⟨rfl, h', f⟩
    refine ⟨by simp [errDown], [d, bl], ⟨bl, _, by simpa [DS.flush, hc, DS.acted] using h', by simp [Value.ownBlock]⟩, f.mono (by simp), ?_⟩
    intro k hk
    simp at hk
    rcases hk with rfl | rfl <;> simp
  | false =>
    rcases cannot hc with hf | ⟨hf, hg, h0⟩
    · refine (flush_no d w (fun w' => w' = w) (may_failed d bl n vw x w h hf)).mono ?_
      rintro e w' ⟨rfl, rfl⟩
      exact ⟨by simp [errDown], _, ⟨bl, vw, by simpa [DS.flush, hc, DS.stopped, hf] using h, rfl⟩, Frm.refl _ _, Grew.refl _ _⟩
    · refine (flush_no d w (fun w' => DiskIn w' d bl n (.slice none 0 0) x.fall ∧ Frm [d, bl] w w') (may_falls d bl n vw x w h hf hg h0)).mono ?_
      rintro e w' ⟨rfl, h', f⟩
      obtain ⟨F', o1, o2⟩ := stopped_own h h'
      exact ⟨by simp [errDown], F', by simpa [DS.flush, hc, DS.stopped, hf] using o1, f.mono (by simp), o2⟩

end Go.Proofs.YtchcmhodnkgojaaGreat
