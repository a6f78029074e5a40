/- obeys, copied. -/
import Derived.Test.YtchcmhodnkgojaaGreatKeep1
set_option linter.all false
namespace Go.Proofs.YtchcmhodnkgojaaGreat
open Go.RowKit Go.Lib

def obeysD (e done after want n : Int) : Bool := if after < n then (e == 3 && done == after) else (e == want && done == n)

set_option maxRecDepth 100000 in
set_option maxHeartbeats 1000000 in
theorem obeys_any (e done after want n : Int) (w : World) : Calls Tryz.prog 21 #[.int .i64 e, .int .i64 done, .int .i64 after, .int .i64 want, .int .i64 n] w fun r w' => r = .returned (.bool (obeysD e done after want n)) ∧ w' = w := by
  have HO : Hid (obeysD e done after want n = if after < n then (e == 3 && done == after) else (e == want && done == n)) := rfl
  go_enter Tryz.func21, Tryz.ntmps21
  by_cases h : after < n
  · have HQ : Hid (obeysD e done after want n = (e == 3 && done == after)) := by show _ = _; rw [HO.out, if_pos h]
    cases h1 : (e == 3)
    · rw [h1] at HQ
      go_wp2_with fail
      all_goals
        go_ret
        exact ⟨by rw [HQ.out]; rfl, rfl⟩
    · rw [h1] at HQ
      go_wp2_with fail
      all_goals
        go_ret
        exact ⟨by rw [HQ.out]; rfl, rfl⟩
  · have HQ : Hid (obeysD e done after want n = (e == want && done == n)) := by show _ = _; rw [HO.out, if_neg h]
    cases h1 : (e == want)
    · rw [h1] at HQ
      go_wp2_with fail
      all_goals
        go_ret
        exact ⟨by rw [HQ.out]; rfl, rfl⟩
    · rw [h1] at HQ
      go_wp2_with fail
      all_goals
        go_ret
        exact ⟨by rw [HQ.out]; rfl, rfl⟩

theorem ex_bytes_cells {P : Program} {w : World} {o : Oper} {ρ : Operand → Value} (src dst e : TypeId) (x : Operand) (ho : o.op = .convert src dst x) (hs : P.underlying src = some (.slice e)) (he : P.underlying e = some (.int .u8)) (hd : P.underlying dst = some .string)
    (b n c : Nat) (hx : ρ x = .slice (some ⟨b, 0, none⟩) n c) (l : List UInt8) (hn : l.length = n) (hc : ∀ j, (hj : j < l.length) → w.cell? ⟨b, j, none⟩ = some (.int .u8 (l[j].toNat : Int))) :
    (execOp ρ o).run P w = .ok (.value (.string (bstr l))) w := by
  subst hn
  have := run_convert_bytes_back (P := P) w src dst e ⟨b, 0, none⟩ c l hs he hd (fun j hj => by
    rw [Addr.add_mid, Nat.zero_add]
    exact hc j hj)
  simp only [execOp, ho, hx, Sem.run_bind, this]
  rfl

set_option maxRecDepth 100000 in
set_option maxHeartbeats 1000000 in
/-- A store on a copy of the bytes, where they are a store's. -/
theorem copied_any (F : List Nat) (s d n : Nat) (x : DS) (w : World) (h : StoreIn w F s d n x) (hok : (DS.fresh x.lasting).storeOk n = true) (hnp : (DS.fresh x.lasting).pending n = false) :
    Calls Tryz.prog 16 #[.pointer (some ⟨s, 0, none⟩)] w fun e w' => ∃ s' d' F', e = .returned (.pointer (some ⟨s', 0, none⟩)) ∧ StoreIn w' F' s' d' n (DS.fresh x.lasting) ∧ Frm [] w w' ∧ Grew [] F' w ∧ w.heap.size ≤ s' := by
  obtain ⟨bl, vw, hd⟩ := h.diskIn
  have hlo := hd.lo
  have hhi := hd.hi
  have hlen := hd.len
  go_enter Tryz.func16, Tryz.ntmps16
  go_wp2_with (with_reducible first | refine stop_convert rfl ?_)
  refine (sbytes_any F s d n x w h).mono ?_
  rintro e w1 ⟨rfl, f1⟩
  generalize hl : x.lasting = l at *
  have HLX : Hid (x.lasting = l) := hl
  clear hl
  go_wp2_with (with_reducible first | refine stop_convert rfl ?_)
  refine Stopped.go (wl_bytes rfl 9 85 5 _ rfl Tryz.underlying9 Tryz.underlying85 Tryz.underlying5 ⟨l.toArray⟩ rfl ?_)
  intro w2 b cap lb f2 hcell
  have hsz : (⟨l.toArray⟩ : ByteArray).size = l.length := by show l.toArray.size = _; simp
  have hcl : ∀ j, (hj : j < l.length) → w2.cell? ⟨b, j, none⟩ = some (.int .u8 (l[j].toNat : Int)) := fun j hj => by
    have := hcell j (by simpa using hj)
    simpa using this
  have HC : Hid (∀ j, (hj : j < l.length) → w2.cell? ⟨b, j, none⟩ = some (.int .u8 (l[j].toNat : Int))) := hcl
  have fw2 := f1.trans f2 (by simp)
  rw [hsz]
  clear hcell hcl f1 f2 h hd
  go_wp2_with (with_reducible first | refine stop_convert rfl ?_)
  refine Stopped.go (wl_val rfl (.string (bstr l)) w2 (ex_bytes_cells 85 9 5 _ rfl Tryz.underlying85 Tryz.underlying5 Tryz.underlying9 b (64 * n) cap rfl l hlen HC.out) ?_)
  go_wp2_with fail
  refine (open_any (bstr l) n w2 (by rw [bstr_size, hlen]) hlo hhi hok hnp).mono ?_
  rintro e w3 ⟨s', d', F', rfl, hs', f3, g3, l3⟩
  have fw3 := fw2.trans f3 (by simp)
  have hsz2 := fw2.size
  have gw : Grew [] F' w := fun i hi => (g3 i hi).imp id (fun h => by omega)
  have hs2 : StoreIn w3 F' s' d' n (DS.fresh l) := hs'
  clear f3 fw2 hs' g3
  go_wp2_with fail
  all_goals
    go_ret
    exact ⟨s', d', F', rfl, by rw [HLX.out]; exact hs2, fw3, gw, by omega⟩

end Go.Proofs.YtchcmhodnkgojaaGreat
