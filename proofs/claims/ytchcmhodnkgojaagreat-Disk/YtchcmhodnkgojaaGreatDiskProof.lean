/- Disk is true at every input, act by act of a Put or a Remove: the given statement Rows.DiskSaid, with no condition beside the row's own. -/
import Derived.Test.YtchcmhodnkgojaaGreatDiskW
import Derived.Test.YtchcmhodnkgojaaGreatRowKeep
import Derived.Test.YtchcmhodnkgojaaGreatRows
set_option linter.all false
namespace Go.Proofs.YtchcmhodnkgojaaGreat
open Go.ChangeShapes Go.WideShapes Go.ChangeAt Go.RowKit Go.Deep Go.Joins Go.Lib Go.Conc Go.ConcM

theorem diskOwn : ownKnob Tryz.prog.godebug = none := by kernel_rfl
theorem diskLaid : laidOutB Tryz.prog = true := by kernel_rfl

set_option maxRecDepth 100000 in
theorem disk_lifted (os : Os) (started : os.Started) (H : Type) (enc : TypeId × Value → H) (F : Stop.Interp) :
    ReturnsInLeavingWide Rows.diskRow.assume Tryz.checked os 4 .any (Rows.diskRow.pre enc Tryz.prog Tryz.f4 (OpenSpec.ofChange Rows.diskSpec))
      ((OpenSpec.ofChange Rows.diskSpec).postWith enc Tryz.prog Tryz.f4 F (outsideKept [.timePasses]) Rows.diskRow.apart Rows.diskRow.fresh Rows.diskRow.handsOn) := by
  refine returnsLeaving_of_calls (C := Tryz.checked) (s := Rows.diskSpec) (conds := []) diskOwn started (by kernel_rfl) Tryz.func4
    (ChangeSpec.witness6c (enc := enc) (C := Tryz.checked) ⟨#[], #[.slice none 0 0, .agg #[.int .i64 0, .int .i64 0, .int .i64 0, .string ⟨#[]⟩], .int .i64 0, .int .i64 0], []⟩ 8 (by kernel_rfl) (by kernel_rfl) (by kernel_rfl) (by kernel_rfl)) ?_
  intro W base args ds gs before hval0 hW hcnd
  have hval : ∀ (j : Nat) t v, Tryz.f4.params[j]? = some t → args[j]? = some v → Value.okWide Tryz.prog W .any base t v := hval0
  have hW' := hW
  obtain ⟨p, q, hA0, hV, rfl, hfz, hnd⟩ := hW
  have hA : DataW.TrodAll enc Tryz.prog W 0 (fun _ => true) true Tryz.f4.params.toList args.toList ds p := hA0
  rw [Tryz.params4] at hA hval
  obtain ⟨v0, v1, v2, v3, d0, d1, d2, d3, p0, p1, p2, p3, rfl, rfl, rfl, h0, h1, h2, h3⟩ := trodAll_four hA
  obtain ⟨rfl, rfl⟩ := trodVars_none hV
  have lt0 : ∀ x ∈ p0, x.block < W.heap.size := by obtain ⟨m, hm⟩ := h0; exact DataW.trod_lt m _ _ _ hm
  have lt1 : ∀ x ∈ p1, x.block < W.heap.size := by obtain ⟨m, hm⟩ := h1; exact DataW.trod_lt m _ _ _ hm
  have k0 := h0
  have k1 := h1
  obtain ⟨a0, len0, cap0, rfl⟩ := okWide_slice Tryz.underlying22 (hval 0 22 v0 rfl rfl)
  obtain ⟨fuel0, g0⟩ := h0
  obtain ⟨l, rfl, hacts, hl, hcap⟩ := acts_of_trod (by simpa [Value.cells] using g0)
  obtain ⟨c1, rfl, hs1⟩ := okWide_struct Tryz.underlying24 (hval 1 24 v1 rfl rfl)
  obtain ⟨fuel1, g1⟩ := h1
  obtain ⟨y, hy, hyc⟩ := act_of_trod (by simpa [Value.cells] using g1)
  obtain rfl : c1 = y.cells := Array.toList_inj.1 hyc
  obtain ⟨fa, rfl, rfl, rfl, wa⟩ := open_int Tryz.underlying3 (hval 2 3 v2 rfl rfl) h2
  obtain ⟨fk, rfl, rfl, rfl, wk⟩ := open_int Tryz.underlying3 (hval 3 3 v3 rfl rfl) h3
  clear hA0 hval0
  refine (disk_any a0 cap0 l y fa fk W hacts hl hcap hy (fits_of_wf wa)).mono fun e W' ⟨he, hf⟩ => ?_
  subst he
  have bel := hf.below
  exact ⟨_, rfl, ⟨_, _, _, [], _, [], hW', trodAll_mk1 (shut_bool Tryz.underlying4 _), (trodAll_cons_mk (Below.trod diskLaid (by kernel_rfl) (of_decide_eq_true (by kernel_rfl)) k0 bel lt0) (trodAll_cons_mk (Below.trod diskLaid (by kernel_rfl) (of_decide_eq_true (by kernel_rfl)) k1 bel lt1) (trodAll_cons_mk (shut_int Tryz.underlying3 wa) (trodAll_cons_mk (shut_int Tryz.underlying3 wk) trodAll_mk0)))), rfl, bel.frame _, fun h => by cases h⟩, hf.os⟩

theorem disk_said : Rows.DiskSaid :=
  OpenClaim.holds_of_wide_leaving_time 4 Tryz.f4 rfl rfl rfl rfl rfl rfl rfl ⟨rfl, rfl, rfl, rfl, rfl⟩ rfl rfl rfl rfl rfl (by kernel_rfl) Tryz.func4 (by kernel_rfl)
    (of_decide_eq_true (by kernel_rfl)) (by unfold Func.isWrapper; first | (rw [if_pos (by decide +kernel)]; kernel_rfl) | (rw [if_neg (by decide +kernel)]; exact ⟨rfl, rfl⟩))
    (fun os started H enc _ F => disk_lifted os started H enc F)

end Go.Proofs.YtchcmhodnkgojaaGreat
