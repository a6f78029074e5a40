/- writeRecord: a record into its slot, and it lasts. -/
import Derived.Test.YtchcmhodnkgojaaGreatEncode
set_option linter.all false
namespace Go.Proofs.YtchcmhodnkgojaaGreat
open Go.RowKit Go.Lib

theorem add_i64 (t : TypeId) (a b c : Int) (w : World) (h : a + b = c) (h0 : 0 ≤ c) (h1 : c ≤ 9223372036854775807) : (binOp .add t (.int .i64 a) (.int .i64 b)).run Tryz.prog w = .ok (.int .i64 c) w := by
  subst h
  have := IntWalk.i64_in (a + b) (by omega)
  go_simp

/-- The first k of a record's two sectors have been written. -/
def DS.wr (x : DS) (i : Nat) (r : List UInt8) : Nat → DS
  | 0 => x
  | k + 1 => (x.wr i r k).write (1 + 2 * i + k : Nat) ((r.drop (k * 64)).take 64)
def DS.wrec (x : DS) (i : Nat) (r : List UInt8) : DS := if x.canAct then (if (x.wr i r 1).canAct then (x.wr i r 2).flush else x.wr i r 2) else x.wr i r 1
def DS.wrecOk (x : DS) (i : Nat) (r : List UInt8) : Bool := x.canAct && (x.wr i r 1).canAct && (x.wr i r 2).canAct
theorem DS.write_few {x : DS} {s : Int} {l : List UInt8} {m : Nat} (h : x.waiting.length ≤ m) : (x.write s l).waiting.length ≤ m + 1 := by
  unfold DS.write DS.stopped DS.fall
  split
  · simp; omega
  · split
    · omega
    · simp
theorem DS.wr_few {x : DS} {i : Nat} {r : List UInt8} {m : Nat} (h : x.waiting.length ≤ m) : ∀ k, (x.wr i r k).waiting.length ≤ m + k
  | 0 => h
  | k + 1 => DS.write_few (DS.wr_few h k)
theorem DS.wr_fit {x : DS} {i : Nat} {r : List UInt8} {m : Nat} : ∀ k, x.Fit (m + k) → (∀ j, j < k → (x.wr i r j).canAct = true) → (x.wr i r k).Fit m
  | 0, h, _ => h
  | k + 1, h, hc => DS.write_fit (DS.wr_fit (m := m + 1) k (by rw [show m + 1 + k = m + (k + 1) by omega]; exact h) fun j hj => hc j (by omega)) (hc k (by omega))

section
variable {P : Program} {ops : Array Oper} {Q : Exit → Act → World → Prop}
/-- A call in its turn, whatever it does to the world. -/
theorem at_callw {n : Nat} (k : Nat) {oi : Oper} {a : Act} {w : World} (hk : k < n) (dst : Option Tmp) (hi : ops[k]? = some oi) (hd : oi.dst = dst) (hr : Region.ready .any ops (upto n k) = [k]) (hg : oi.guard = none)
    (f : FuncId) (args : Array Value) (hx : (execOp a.eval oi).run P w = .ok (.enter f args) w) (R : Ending → World → Prop) (hc : Calls P f args w R)
    (h : ∀ e w', R e w' → ∃ v, e = .returned v ∧ At P ops Q n (k + 1) (a.put dst v) w') : At P ops Q n k a w :=
  at_one k hk hi hr hg fun K hK => by
    unfold Oper.wp
    rw [hx]
    simp only [Oper.upon]
    refine hc.mono ?_
    intro e w' he
    obtain ⟨v, rfl, hv⟩ := h e w' he
    rw [hd]
    exact hK _ _ hv
end

set_option maxRecDepth 100000 in
set_option maxHeartbeats 1000000 in
theorem writeRecord_spec (F : List Nat) (d n : Nat) (x : DS) (i : Nat) (r : List UInt8) (w : World) (h : DiskOwn w F d n x) (hx : x.Fit 3) (hfew : x.waiting.length < 55) (hi : i < nslots n) (hr : r.length = 128) :
    Calls Tryz.prog 109 #[.pointer (some ⟨d, 0, none⟩), .int .i64 i, .agg (byteCells r).toArray] w fun e w' => e = .returned (errDown (x.wrecOk i r)) ∧ ∃ F', DiskOwn w' F' d n (x.wrec i r) ∧ Frm F w w' ∧ Grew F F' w := by
  have hsz := h.size
  have hi54 : i < 54 := by unfold nslots at hi; omega
  have hin : 2 * i + 2 < n := by unfold nslots at hi; omega
  go_enter Tryz.func109, Tryz.ntmps109
  go_wp2_with (with_reducible first | refine stop_box rfl ?_ | refine stop_alloc rfl ?_ | refine stop_load 138 rfl ?_)
  refine Stopped.go (wl_box rfl 138 _ rfl (.agg (byteCells r).toArray) rfl ?_)
  intro w1 b5 l5 f1 r5
  have h1 := h.new f1 (by simp)
  have n5 : b5 ∉ F := fun hF => by have := h.lt _ hF; omega
  have HR : Hid (r.length = 128) := hr
  clear hr
  go_wp2_with (with_reducible first | refine stop_box rfl ?_ | refine stop_alloc rfl ?_ | refine stop_load 138 rfl ?_)
  have HW : Hid (∀ k, k < 2 → x.wr i r (k + 1) = (x.wr i r k).write (1 + 2 * i + k : Nat) ((r.drop (k * 64)).take 64)) := fun k _ => rfl
  have hFit : Hid (∀ k, k ≤ 2 → (∀ j, j < k → (x.wr i r j).canAct = true) → (x.wr i r k).Fit 1) := fun k hk hc => DS.wr_fit k ⟨hx.acts0, by have := hx.acts1; omega, hx.left0, hx.left1⟩ hc
  have hFew : Hid (∀ k, k ≤ 2 → (x.wr i r k).waiting.length < 60) := fun k hk => by have := DS.wr_few (x := x) (i := i) (r := r) (Nat.le_refl _) k; omega
  have H0 : Hid (x.wr i r 0 = x) := rfl
  have HOut : Hid (x.wrec i r = if x.canAct then (if (x.wr i r 1).canAct then (x.wr i r 2).flush else x.wr i r 2) else x.wr i r 1) := rfl
  have HOk : Hid (x.wrecOk i r = (x.canAct && (x.wr i r 1).canAct && (x.wr i r 2).canAct)) := rfl
  have h1' : DiskOwn w1 F d n (x.wr i r 0) := h1
  generalize x.wr i r = y at *
  go_loopw [10] (fun c wr => ∃ k : Nat, c = .int .i64 k ∧ k ≤ 2 ∧ Hid (∀ j, j < k → (y j).canAct = true) ∧ ∃ F', DiskOwn wr F' d n (y k) ∧ Frm F w wr ∧ Hid (Grew F F' w) ∧ Row wr b5 (byteCells r).toArray 138 ∧ Hid (b5 ∉ F')) (fun c _ => 2 - (intOf c).toNat)
  case atStart => exact ⟨0, rfl, by omega, fun j hj => by omega, F, h1', f1.mono (by simp), Grew.refl _ _, r5, n5⟩
  case round =>
    obtain ⟨k, rfl, hk, HC, F', ho, fk, gk, q5, n5'⟩ := hrel
    clear h1 h1' f1 r5
    by_cases hlt : k < 2
    · go_wp2_with (with_reducible first | refine stop_box rfl ?_ | refine stop_alloc rfl ?_ | refine stop_load 138 rfl ?_)
      refine Stopped.go (wl_alloc rfl 148 rfl zBlock zero_block ?_)
      intro w2 b8 l8 f2 r8
      have q5a := f2.row q5 (by simp)
      have hoa := ho.new f2 (by simp)
      have fka := fk.trans f2 (by simp)
      have n58 : b5 ≠ b8 := by have := q5.lt; omega
      have n8 : b8 ∉ F' := fun hF => by have := ho.lt _ hF; omega
      have n8w : w.heap.size ≤ b8 := by have := fk.size; omega
      clear q5 ho fk f2 l8
      go_wp2_with fail
      refine at_begin 5 (by kernel_rfl) rfl ?_
      have fd : Frm [] w2 w2.drew := Frm.drew _ _
      have q5b := fd.row q5a (by simp)
      have q8b : Row w2.drew b8 zBlock.cells 148 := fd.row r8 (by simp)
      have hob := hoa.new fd (by simp)
      have fkb := fka.trans fd (by simp)
      generalize w2.drew = w3 at q5b q8b hob fkb
      clear q5a r8 hoa fka fd
      refine at_pure 0 (by omega) (some 13) rfl rfl (by kernel_rfl) (by kernel_rfl) (by kernel_rfl) (fun _ _ _ h => h) rfl (v := .slice (some ⟨b8, 0, none⟩) 64 64) (fun _ => by go_simp) ?_
      refine at_pure 1 (by omega) (some 14) rfl rfl (by kernel_rfl) (by kernel_rfl) (by kernel_rfl) (fun _ _ _ h => h) rfl (v := .int .i64 k) (fun _ => rfl) ?_
      refine at_pure 2 (by omega) (some 15) rfl rfl (by kernel_rfl) (by kernel_rfl) (by kernel_rfl) (fun _ _ _ h => h) rfl (v := .int .i64 (k * 64)) (fun _ => by go_simp; exact IntWalk.i64_in _ (by omega)) ?_
      simp only [Act.put, List.setIfInBounds_toArray, List.set_cons_succ, List.set_cons_zero]
      refine at_pure 3 (by omega) (some 16) rfl rfl (by kernel_rfl) (by kernel_rfl) (by kernel_rfl) (fun _ _ _ h => h) rfl (v := .slice (some ⟨b5, k * 64, none⟩) (128 - k * 64) (128 - k * 64)) (fun _ => ex_slice_from 138 5 128 _ _ rfl Tryz.underlying138 (by kernel_rfl) b5 0 rfl (k * 64) rfl (by omega) (by omega) _ _ (by omega) (by omega)) ?_
      simp only [Act.put, List.setIfInBounds_toArray, List.set_cons_succ, List.set_cons_zero]
      have hmin : Nat.min (128 - k * 64) 64 = 64 := Nat.min_eq_right (by omega)
      have hseg : ((r.drop (k * 64)).take 64).length = 64 := by rw [List.length_take, List.length_drop, HR.out]; omega
      refine at_val 4 (by omega) (some 17) rfl rfl (by kernel_rfl) rfl _ _ (ex_copy _ _ _ _ 5 rfl Tryz.underlying85 (by kernel_rfl) b8 0 _ _ rfl b5 (k * 64) _ _ rfl _ _ q8b _ _ q5b (byteCells ((r.drop (k * 64)).take 64)) ?_ ?_ ?_ (byteCells_one _)) ?_
      · rw [hmin]; rw [byteCells_drop, byteCells_take]
      · rw [hmin, length_byteCells, hseg]
      · rw [length_byteCells, hseg]; decide
      rw [over_all _ _ (by rw [length_byteCells, hseg]; rfl)]
      refine at_done (by kernel_rfl) ?_
      have q8c := q8b.setRow (byteCells ((r.drop (k * 64)).take 64)).toArray
      have f3 : Frm [b8] w3 (w3.setRow b8 (byteCells ((r.drop (k * 64)).take 64)).toArray) := Frm.setRow _ _ _ _ (by simp)
      have q5c := f3.row q5b (by simpa using n58)
      have hoc := hob.frm f3 (by simpa using n8)
      have fkc := fkb.trans f3 (by simp; omega)
      have HSeg : Hid (((r.drop (k * 64)).take 64).length = 64) := hseg
      generalize hsg : (r.drop (k * 64)).take 64 = seg at *
      have HSG : Hid ((r.drop (k * 64)).take 64 = seg) := hsg
      generalize w3.setRow b8 (byteCells seg).toArray = w4 at q8c q5c hoc fkc
      clear q8b q5b hob fkb f3 hmin hseg hsg
      simp only [Act.put, List.setIfInBounds_toArray, List.set_cons_succ, List.set_cons_zero]
      go_wp2_with fail
      refine at_begin 8 (by kernel_rfl) rfl ?_
      have fd : Frm [] w4 w4.drew := Frm.drew _ _
      have q5 := fd.row q5c (by simp)
      have q8 := fd.row q8c (by simp)
      have ho := hoc.new fd (by simp)
      have fk := fkc.trans fd (by simp)
      generalize w4.drew = w5 at q5 q8 ho fk
      clear q5c q8c hoc fkc fd
      have hC : Lets (fun w' : World => Row w' b8 (byteCells seg).toArray 148) := ⟨fun w o h => (Frm.alloc [] w o).row h (by simp), fun w h => h⟩
      refine at_pure 0 (by omega) (some 18) rfl rfl (by kernel_rfl) (by kernel_rfl) (by kernel_rfl) (fun _ _ _ h => h) rfl (v := .pointer (some ⟨d, 0, none⟩)) (fun _ => rfl) ?_
      refine at_pure 1 (by omega) (some 19) rfl rfl (by kernel_rfl) (by kernel_rfl) (by kernel_rfl) (fun _ _ _ h => h) rfl (v := .int .i64 i) (fun _ => rfl) ?_
      simp only [Act.put, List.setIfInBounds_toArray, List.set_cons_succ, List.set_cons_zero]
      refine at_call 2 _ hC q8 (by omega) (some 20) rfl rfl (by kernel_rfl) (by kernel_rfl) (by kernel_rfl) rfl (by kernel_rfl) 115 #[.int .i64 i] (.int .i64 (1 + 2 * i : Nat)) (fun _ _ _ h => h) (fun _ => by go_simp) (fun w' _ => firstSector_any i (by omega) w') ?_
      refine at_pure 3 (by omega) (some 21) rfl rfl (by kernel_rfl) (by kernel_rfl) (by kernel_rfl) (fun _ _ _ h => h) rfl (v := .int .i64 k) (fun _ => rfl) ?_
      simp only [Act.put, List.setIfInBounds_toArray, List.set_cons_succ, List.set_cons_zero]
      have hs12 : ((1 + 2 * i : Nat) : Int) ≤ 400 := by omega
      refine at_pure 4 (by omega) (some 22) rfl rfl (by kernel_rfl) (by kernel_rfl) (by kernel_rfl) (fun _ _ _ h => h) rfl (v := .int .i64 (1 + 2 * i + k : Nat)) (fun _ => ex_bin _ _ _ _ _ rfl (.int .i64 (1 + 2 * i : Nat)) (.int .i64 k) rfl rfl _ rfl (add_i64 _ _ _ _ _ (by omega) (by omega) (by omega))) ?_
      simp only [Act.put, List.setIfInBounds_toArray, List.set_cons_succ, List.set_cons_zero]
      refine at_val 5 (by omega) (some 23) rfl rfl (by kernel_rfl) rfl _ w5 (ex_load 148 _ rfl b8 0 rfl row_block 64 info_block _ _ q8 (byteCells seg) ?_ (by rw [length_byteCells]; exact HSeg.out)) ?_
      · simp only [List.drop_zero]; exact List.take_of_length_le (by rw [length_byteCells]; exact Nat.le_of_eq HSeg.out)
      refine at_callw 6 (by omega) (some 24) rfl rfl (by kernel_rfl) rfl 148 #[.pointer (some ⟨d, 0, none⟩), .int .i64 (1 + 2 * i + k : Nat), .agg (byteCells seg).toArray] (by go_simp) _ (write_spec F' d n (y k) (1 + 2 * i + k : Nat) seg w5 ho (hFit.out k hk HC.out) HSeg.out (by omega) (by omega) (hFew.out k hk)) ?_
      rintro e w6 ⟨rfl, F6, h6, f6, g6⟩
      refine ⟨_, rfl, ?_⟩
      refine at_pure 7 (by omega) (some 9) rfl rfl (by kernel_rfl) (by kernel_rfl) (by kernel_rfl) (fun _ _ _ h => h) rfl (v := errDown (y k).canAct) (fun _ => rfl) ?_
      simp only [Act.put, List.setIfInBounds_toArray, List.set_cons_succ, List.set_cons_zero]
      refine at_done (by kernel_rfl) ?_
      have hy : (y k).write (1 + 2 * i + k : Nat) seg = y (k + 1) := by rw [HW.out k hlt, HSG.out]
      rw [hy] at h6
      have q56 := f6.row q5 (fun hF => n5'.out hF)
      have fw6 : Frm F w w6 := fk.trans f6 (fun j hj => gk.out j hj)
      have gw6 : Hid (Grew F F6 w) := fun j hj => (g6 j hj).elim (fun h => gk.out j h) (fun h => .inr (by have := fk.size; omega))
      have n56 : Hid (b5 ∉ F6) := fun hF => (g6 _ hF).elim n5'.out (fun h => by have := q5.lt; omega)
      clear hC q5 q8 ho fk hy f6 g6 gk n5' HSG HSeg hs12
      cases hc : (y k).canAct with
      | true =>
        have HCA : Hid ((y k).canAct = true) := hc
        simp only [errDown, if_true]
        clear hc
        go_wp2_with fail
        go_roundw
        case rel =>
          refine ⟨k + 1, by go_num, by omega, fun j hj => ?_, F6, h6, fw6, gw6, q56, n56⟩
          rcases Nat.lt_or_ge j k with h | h
          · exact HC.out j h
          · obtain rfl : j = k := by omega
            exact HCA.out
        case measure => simp [intOf]; omega
      | false =>
        have HCA : Hid ((y k).canAct = false) := hc
        simp only [errDown]
        clear hc
        have hres : x.wrecOk i r = false ∧ x.wrec i r = y (k + 1) := by
          have hk01 : k = 0 ∨ k = 1 := by omega
          rcases hk01 with rfl | rfl
          · have h0 : x.canAct = false := by rw [← H0.out]; exact HCA.out
            exact ⟨by rw [HOk.out, h0]; rfl, by rw [HOut.out, h0]; rfl⟩
          · have h0 : x.canAct = true := by rw [← H0.out]; exact HC.out 0 (by omega)
            exact ⟨by rw [HOk.out, h0, HCA.out]; rfl, by rw [HOut.out, h0, HCA.out]; rfl⟩
        have HRES : Hid (x.wrecOk i r = false ∧ x.wrec i r = y (k + 1)) := hres
        clear hres
        go_wp2_with fail
        go_ret
        exact ⟨by rw [HRES.out.1]; rfl, F6, by rw [HRES.out.2]; exact h6, fw6, gw6.out⟩
    · obtain rfl : k = 2 := by omega
      have h0 : x.canAct = true := by rw [← H0.out]; exact HC.out 0 (by omega)
      have HRES : Hid (x.wrecOk i r = (y 2).canAct ∧ x.wrec i r = (y 2).flush) := by
        constructor
        · rw [HOk.out, h0, HC.out 1 (by omega)]; rfl
        · rw [HOut.out, h0, HC.out 1 (by omega)]; rfl
      clear h0
      go_wp2_with fail
      refine (flush_spec F' d n (y 2) wr ho (hFit.out 2 (by omega) HC.out)).mono ?_
      rintro e w9 ⟨rfl, F9, h9, f9, g9⟩
      go_wp2_with fail
      go_ret
      exact ⟨by rw [HRES.out.1]; rfl, F9, by rw [HRES.out.2]; exact h9, fk.trans f9 (fun j hj => gk.out j hj), gk.out.trans g9 fk.size⟩

end Go.Proofs.YtchcmhodnkgojaaGreat
