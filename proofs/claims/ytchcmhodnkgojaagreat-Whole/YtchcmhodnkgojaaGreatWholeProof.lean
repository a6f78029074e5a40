/- Whole is true at every input, whatever the disk keeps when it fails: the given statement Rows.WholeSaid, with no condition beside the row's own. -/
import Derived.Test.YtchcmhodnkgojaaGreatWhole
import Derived.Test.YtchcmhodnkgojaaGreatRowKeep
import Derived.Test.YtchcmhodnkgojaaGreatRows
set_option linter.all false
namespace Go.Proofs.YtchcmhodnkgojaaGreat
open Go.ChangeShapes Go.WideShapes Go.ChangeAt Go.RowKit Go.Deep Go.Joins Go.Lib Go.Conc Go.ConcM

theorem keepOwn : ownKnob Tryz.prog.godebug = none := by kernel_rfl
theorem keepLaid : laidOutB Tryz.prog = true := by kernel_rfl

set_option maxRecDepth 100000 in
theorem whole_lifted (os : Os) (started : os.Started) (H : Type) (enc : TypeId × Value → H) (F : Stop.Interp) :
    ReturnsInLeavingWide Rows.wholeRow.assume Tryz.checked os 3 .any (Rows.wholeRow.pre enc Tryz.prog Tryz.f3 (OpenSpec.ofChange Rows.wholeSpec))
      ((OpenSpec.ofChange Rows.wholeSpec).postWith enc Tryz.prog Tryz.f3 F (outsideKept [.timePasses]) Rows.wholeRow.apart Rows.wholeRow.fresh Rows.wholeRow.handsOn) := by
  refine returnsLeaving_of_calls (C := Tryz.checked) (s := Rows.wholeSpec) (conds := []) keepOwn started (by kernel_rfl) Tryz.func3
    (ChangeSpec.witness6c (enc := enc) (C := Tryz.checked) ⟨#[], #[.slice none 0 0, .agg #[.int .i64 0, .int .i64 0, .int .i64 0, .string ⟨#[]⟩], .agg #[.int .i64 0, .int .i64 0]], []⟩ 8 (by kernel_rfl) (by kernel_rfl) (by kernel_rfl) (by kernel_rfl)) ?_
  intro W base args ds gs before hval0 hW hcnd
  have hval : ∀ (j : Nat) t v, Tryz.f3.params[j]? = some t → args[j]? = some v → Value.okWide Tryz.prog W .any base t v := hval0
  have hW' := hW
  obtain ⟨p, q, hA0, hV, rfl, hfz, hnd⟩ := hW
  have hA : DataW.TrodAll enc Tryz.prog W 0 (fun _ => true) true Tryz.f3.params.toList args.toList ds p := hA0
  rw [Tryz.params3] at hA hval
  obtain ⟨v0, v1, v2, d0, d1, d2, p0, p1, p2, rfl, rfl, rfl, h0, h1, h2⟩ := trodAll_three hA
  obtain ⟨rfl, rfl⟩ := trodVars_none hV
  have lt0 : ∀ x ∈ p0, x.block < W.heap.size := by obtain ⟨m, hm⟩ := h0; exact DataW.trod_lt m _ _ _ hm
  have lt1 : ∀ x ∈ p1, x.block < W.heap.size := by obtain ⟨m, hm⟩ := h1; exact DataW.trod_lt m _ _ _ hm
  have lt2 : ∀ x ∈ p2, x.block < W.heap.size := by obtain ⟨m, hm⟩ := h2; exact DataW.trod_lt m _ _ _ hm
  have k0 := h0
  have k1 := h1
  have k2 := h2
  obtain ⟨a0, len0, cap0, rfl⟩ := okWide_slice Tryz.underlying22 (hval 0 22 v0 rfl rfl)
  obtain ⟨fuel0, g0⟩ := h0
  obtain ⟨l, rfl, hacts, hl, hcap⟩ := acts_of_trod (by simpa [Value.cells] using g0)
  obtain ⟨c1, rfl, hs1⟩ := okWide_struct Tryz.underlying24 (hval 1 24 v1 rfl rfl)
  obtain ⟨fuel1, g1⟩ := h1
  obtain ⟨y, hy, hyc⟩ := act_of_trod (by simpa [Value.cells] using g1)
  obtain rfl : c1 = y.cells := Array.toList_inj.1 hyc
  obtain ⟨c2, rfl, hs2⟩ := okWide_struct Tryz.underlying26 (hval 2 26 v2 rfl rfl)
  obtain ⟨fa, fk, hfa, rfl⟩ : ∃ fa fk, fits64 fa ∧ c2 = #[.int .i64 fa, .int .i64 fk] := by
    obtain ⟨fuel2, g2⟩ := h2
    obtain ⟨fa, fk, hf, hc⟩ := failure_of_trod (by simpa [Value.cells] using g2)
    exact ⟨fa, fk, hf, Array.toList_inj.1 hc⟩
  clear hA0 hval0
  refine (whole_any a0 cap0 l y fa fk W hacts hl hcap hy hfa).mono fun e W' ⟨he, hf⟩ => ?_
  subst he
  have bel := hf.below
  exact ⟨_, rfl, ⟨_, _, _, [], _, [], hW', trodAll_mk1 (shut_bool Tryz.underlying4 _), (trodAll_cons_mk (Below.trod keepLaid (by kernel_rfl) (of_decide_eq_true (by kernel_rfl)) k0 bel lt0) (trodAll_cons_mk (Below.trod keepLaid (by kernel_rfl) (of_decide_eq_true (by kernel_rfl)) k1 bel lt1) (trodAll_cons_mk (Below.trod keepLaid (by kernel_rfl) (of_decide_eq_true (by kernel_rfl)) k2 bel lt2) trodAll_mk0))), rfl, bel.frame _, fun h => by cases h⟩, hf.os⟩

theorem whole_said : Rows.WholeSaid :=
  OpenClaim.holds_of_wide_leaving_time 3 Tryz.f3 rfl rfl rfl rfl rfl rfl rfl ⟨rfl, rfl, rfl, rfl, rfl⟩ rfl rfl rfl rfl rfl (by kernel_rfl) Tryz.func3 (by kernel_rfl)
    (of_decide_eq_true (by kernel_rfl)) (by unfold Func.isWrapper; first | (rw [if_pos (by decide +kernel)]; kernel_rfl) | (rw [if_neg (by decide +kernel)]; exact ⟨rfl, rfl⟩))
    (fun os started H enc _ F => whole_lifted os started H enc F)

end Go.Proofs.YtchcmhodnkgojaaGreat
