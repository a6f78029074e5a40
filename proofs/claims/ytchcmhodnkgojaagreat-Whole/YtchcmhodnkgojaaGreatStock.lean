/- call and stocked of the statements. -/
import Derived.Test.YtchcmhodnkgojaaGreatSeen
import Derived.Test.YtchcmhodnkgojaaGreatFate
set_option linter.all false
namespace Go.Proofs.YtchcmhodnkgojaaGreat
open Go.RowKit Go.Lib

theorem Frm.cell {S : List Nat} {w w' : World} (h : Frm S w w') {a : Addr} {v : Value} (hc : w.cell? a = some v) (ha : a.block ∉ S) : w'.cell? a = some v := by
  unfold World.cell? at hc ⊢
  cases hb : w.heap[a.block]? with
  | none => rw [hb] at hc; cases hc
  | some o =>
    rw [h.block a.block (Array.getElem?_eq_some_iff.1 hb).1 ha, hb]
    rw [hb] at hc
    exact hc

/-- An act, as plain data; its numbers fit. -/
structure ActD where
  kind : Int
  side : Int
  path : Int
  content : ByteArray
def fits64 (x : Int) : Prop := -9223372036854775808 ≤ x ∧ x ≤ 9223372036854775807
def ActD.Ok (a : ActD) : Prop := fits64 a.kind ∧ fits64 a.side ∧ fits64 a.path
def ActD.cells (a : ActD) : Array Value := actCells a.kind a.side a.path a.content
/-- No Sync. -/
def ActD.call (a : ActD) : ActD := if pickD a.kind 4 = 3 then { a with kind := 0 } else a
theorem ActD.call_ok {a : ActD} (h : a.Ok) : a.call.Ok ∧ pickD a.call.kind 4 ≠ 3 := by
  unfold ActD.call
  split
  · exact ⟨⟨⟨by simp, by simp⟩, h.2⟩, by show pickD 0 4 ≠ 3; decide⟩
  · exact ⟨h, by assumption⟩
/-- The acts that came in. -/
def ActsIn (w : World) (ad : Option Addr) (l : List ActD) : Prop := ∀ j, (hj : j < l.length) → (l[j]).Ok ∧ ∃ b off, ad = some ⟨b, off, none⟩ ∧ w.rangeAt b (off + j * 4) (l[j]).cells.toList
theorem ActsIn.frm {S : List Nat} {w w' : World} {ad : Option Addr} {l : List ActD} (h : ActsIn w ad l) (f : Frm S w w') (hS : ∀ k ∈ S, w.heap.size ≤ k) : ActsIn w' ad l := fun j hj => by
  obtain ⟨h1, b, off, h2, h3⟩ := h j hj
  refine ⟨h1, b, off, h2, fun i v hv => ?_⟩
  have := h3 i v hv
  refine f.cell this fun hb => ?_
  have h4 := hS _ hb
  unfold World.cell? at this
  cases hq : w.heap[b]? with
  | none => simp only [hq] at this; cases this
  | some o =>
    have := (Array.getElem?_eq_some_iff.1 hq).1
    simp only at h4
    omega

theorem info_act : (Tryz.prog.info? 24).map (·.size) = some 4 := by kernel_rfl
theorem row_act : (Tryz.prog.underlying 24).map TypeDesc.isRow = some true := by kernel_rfl
def zAct : Value := .agg (actCells 0 0 0 ⟨#[]⟩)
theorem zero_act : (Tryz.prog.info? 24).map (·.zero) = some (some zAct) := by kernel_rfl
theorem info_int1 : (Tryz.prog.info? 3).map (·.size) = some 1 := by kernel_rfl

set_option maxRecDepth 100000 in
set_option maxHeartbeats 1000000 in
theorem call_any (a : ActD) (w : World) (ha : a.Ok) : Calls Tryz.prog 14 #[.agg a.cells] w fun e w' => e = .returned (.agg a.call.cells) ∧ Frm [] w w' := by
  obtain ⟨k, sd, pt, ct⟩ := a
  have HC : Hid ((⟨k, sd, pt, ct⟩ : ActD).call = if pickD k 4 = 3 then ⟨0, sd, pt, ct⟩ else ⟨k, sd, pt, ct⟩) := rfl
  have hk := ha.1
  unfold fits64 at hk
  clear ha
  go_enter Tryz.func14, Tryz.ntmps14
  go_wp2_with (with_reducible first | refine stop_box rfl ?_ | refine stop_alloc rfl ?_)
  refine Stopped.go (wl_box rfl 24 _ rfl (.agg (actCells k sd pt ct)) rfl ?_)
  intro w1 b1 l1 f1 r1
  go_wp2_with (with_reducible first | refine stop_alloc rfl ?_)
  refine Stopped.go (wl_alloc rfl 24 rfl zAct zero_act ?_)
  intro w2 b2 l2 f2 r2
  have q1 : Row w2 b1 (actCells k sd pt ct) 24 := f2.row r1 (by simp)
  have q2 : Row w2 b2 (actCells 0 0 0 ⟨#[]⟩) 24 := r2
  have fw := f1.trans f2 (by simp)
  have hne : b2 ≠ b1 := by have := r1.lt; omega
  have hb2 : w.heap.size ≤ b2 := by have := f1.size; omega
  have c0 : w2.cell? ⟨b1, 0, none⟩ = some (.int .i64 k) := by rw [q1.cell]; rfl
  clear r1 r2 f1 f2 l2
  go_wp2_with fail
  refine (pick_any k 4 w2 hk.1 hk.2 (by omega) (by omega)).mono ?_
  rintro e w3 ⟨rfl, rfl⟩
  clear c0
  by_cases h3 : pickD k 4 = 3
  · have HD : Hid ((⟨k, sd, pt, ct⟩ : ActD).call = ⟨0, sd, pt, ct⟩) := by show _ = _; rw [HC.out, if_pos h3]
    rw [h3]
    clear HC
    go_wp2_with (with_reducible first | refine stop_store 3 rfl ?_ | refine stop_load 24 rfl ?_ | refine stop_store 24 rfl ?_)
    refine Stopped.go (wl_store1 rfl 3 _ _ rfl b1 0 rfl .i64 0 rfl info_int1 _ _ q1 (by show 0 < 4; omega) ?_)
    intro w4 f4 q4
    have q4' : Row w4 b1 (actCells 0 sd pt ct) 24 := q4
    have q24 := f4.row q2 (by simpa using hne)
    have fw4 := fw.trans f4 (by simpa using l1)
    clear q1 q2 q4 fw f4
    go_wp2_with (with_reducible first | refine stop_load 24 rfl ?_ | refine stop_store 24 rfl ?_)
    refine Stopped.go (wl_load rfl 24 _ rfl b1 0 rfl row_act 4 info_act _ _ q4' [.int .i64 0, .int .i64 sd, .int .i64 pt, .string ct] rfl rfl ?_)
    go_wp2_with (with_reducible first | refine stop_store 24 rfl ?_)
    refine Stopped.go (wl_store rfl 24 _ _ rfl _ 0 rfl _ rfl 4 info_act ?_ ?_ _ _ q24 ?_ ?_)
    · rfl
    · simp [Value.oneCell']
    · decide
    intro w5 f5 q5
    rw [over_all _ _ (by rfl)] at q5
    have q5' : Row w5 b2 (actCells 0 sd pt ct) 24 := q5
    have fw5 := fw4.trans f5 (by simpa using hb2)
    clear q5 fw4 f5
    go_wp2_with fail
    exact ret_row rfl b2 rfl rfl _ _ q5' row_act (by exact info_act) ⟨by rw [HD.out]; rfl, fw5⟩
  · have HD : Hid ((⟨k, sd, pt, ct⟩ : ActD).call = ⟨k, sd, pt, ct⟩) := by show _ = _; rw [HC.out, if_neg h3]
    have hm3 : (((pickD k 4 : Nat) : Int) == 3) = false := by rw [beq_eq_false_iff_ne]; omega
    clear HC
    generalize pickD k 4 = mk at hm3 ⊢
    go_wp2_with (with_reducible first | refine stop_load 24 rfl ?_ | refine stop_store 24 rfl ?_)
    refine Stopped.go (wl_load rfl 24 _ rfl b1 0 rfl row_act 4 info_act _ _ q1 [.int .i64 k, .int .i64 sd, .int .i64 pt, .string ct] rfl rfl ?_)
    go_wp2_with (with_reducible first | refine stop_store 24 rfl ?_)
    refine Stopped.go (wl_store rfl 24 _ _ rfl _ 0 rfl _ rfl 4 info_act ?_ ?_ _ _ q2 ?_ ?_)
    · rfl
    · simp [Value.oneCell']
    · decide
    intro w5 f5 q5
    rw [over_all _ _ (by rfl)] at q5
    have q5' : Row w5 b2 (actCells k sd pt ct) 24 := q5
    have fw5 := fw.trans f5 (by simpa using hb2)
    clear q5 fw f5
    go_wp2_with fail
    exact ret_row rfl b2 rfl rfl _ _ q5' row_act (by exact info_act) ⟨by rw [HD.out]; rfl, fw5⟩

end Go.Proofs.YtchcmhodnkgojaaGreat
