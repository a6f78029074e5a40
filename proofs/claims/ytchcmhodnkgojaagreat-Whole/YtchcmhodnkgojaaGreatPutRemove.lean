/- Put and Remove of package files. -/
import Derived.Test.YtchcmhodnkgojaaGreatWriteRec
set_option linter.all false
namespace Go.Proofs.YtchcmhodnkgojaaGreat
open Go.RowKit Go.Lib

theorem DS.flush_fit {x : DS} {r : Nat} (h : x.Fit (r + 1)) (hc : x.canAct = true) : x.flush.Fit r := by
  have h2 := DS.write_fit (s := 0) (l := []) h hc
  unfold DS.write at h2
  unfold DS.flush
  rw [if_pos hc] at h2 ⊢
  exact ⟨h2.acts0, h2.acts1, h2.left0, h2.left1⟩
theorem DS.wrec_ok {x : DS} {i : Nat} {r : List UInt8} (h : x.wrecOk i r = true) : x.wrec i r = (x.wr i r 2).flush ∧ x.canAct = true ∧ (x.wr i r 1).canAct = true ∧ (x.wr i r 2).canAct = true := by
  unfold DS.wrecOk at h
  simp only [Bool.and_eq_true] at h
  unfold DS.wrec
  rw [if_pos h.1.1, if_pos h.1.2]
  exact ⟨rfl, h.1.1, h.1.2, h.2⟩
theorem DS.wrec_fit {x : DS} {i : Nat} {r : List UInt8} {m : Nat} (hx : x.Fit (m + 3)) (h : x.wrecOk i r = true) : (x.wrec i r).Fit m ∧ (x.wrec i r).waiting = [] := by
  obtain ⟨e, h0, h1, h2⟩ := DS.wrec_ok h
  rw [e]
  refine ⟨DS.flush_fit (DS.wr_fit (m := m + 1) 2 (by rw [show m + 1 + 2 = m + 3 by omega]; exact hx) fun j hj => ?_) h2, ?_⟩
  · rcases Nat.lt_or_ge j 1 with h | h
    · obtain rfl : j = 0 := by omega
      exact h0
    · obtain rfl : j = 1 := by omega
      exact h1
  · unfold DS.flush; rw [if_pos h2]

/-- What Put does to the disk, and what it answers. -/
def DS.put (x : DS) (n s : Nat) (p : ByteArray) (c : ByteArray) : DS × Value :=
  if freeIn x n = -1 then (x, .int .i64 7)
  else if x.wrecOk (freeIn x n).toNat (encRec s p.data.toList c.data.toList) then
    ((x.wrec (freeIn x n).toNat (encRec s p.data.toList c.data.toList)).mark (freeIn x n) (slotIn x s p (taken x n)),
      errDown ((x.wrec (freeIn x n).toNat (encRec s p.data.toList c.data.toList)).markOk (freeIn x n) (slotIn x s p (taken x n))))
  else (x.wrec (freeIn x n).toNat (encRec s p.data.toList c.data.toList), .int .i64 3)
def DS.remove (x : DS) (n s : Nat) (p : ByteArray) : DS × Value :=
  if slotIn x s p (taken x n) = -1 then (x, .int .i64 5)
  else (x.mark (-1) (slotIn x s p (taken x n)), errDown (x.markOk (-1) (slotIn x s p (taken x n))))

theorem slotIn_range (n : Nat) (x : DS) (s : Int) (p : ByteArray) : -1 ≤ slotIn x s p (taken x n) ∧ slotIn x s p (taken x n) < nslots n := by
  rcases slotIn_cases x s p (taken x n) with hs | ⟨i, hi, hs, _⟩
  · rw [hs]; omega
  · rw [hs]; have := taken_lt x n i hi; omega

set_option maxRecDepth 100000 in
set_option maxHeartbeats 1000000 in
theorem remove_spec (F : List Nat) (d n : Nat) (x : DS) (s : Nat) (p : ByteArray) (w : World) (h : DiskOwn w F d n x) (hx : x.Fit 2) (hfew : x.waiting.length < 60) :
    Calls Tryz.prog 78 #[.pointer (some ⟨d, 0, none⟩), .agg (ncells s p)] w fun e w' => e = .returned (x.remove n s p).2 ∧ ∃ F', DiskOwn w' F' d n (x.remove n s p).1 ∧ Frm F w w' ∧ Grew F F' w := by
  have hn : nslots n ≤ 54 := by unfold nslots; omega
  go_enter Tryz.func78, Tryz.ntmps78
  go_wp2_with (with_reducible first | refine stop_box rfl ?_ | refine stop_load 103 rfl ?_)
  refine Stopped.go (wl_box rfl 103 _ rfl (.agg (ncells s p)) rfl ?_)
  intro w1 b3 l3 f1 r3
  have h1 := h.new f1 (by simp)
  go_wp2_with (with_reducible first | refine stop_box rfl ?_ | refine stop_load 103 rfl ?_)
  refine Stopped.go (wl_load rfl 103 _ rfl b3 0 rfl row_name 2 info_name _ _ r3 [.int .i64 s, .string p] rfl rfl ?_)
  go_wp2_with fail
  obtain ⟨bl, vw, h1', hF⟩ := id h1
  refine (slotOf_any d bl n vw x s p w1 h1').mono ?_
  rintro e w2 ⟨rfl, f2⟩
  have hr := slotIn_range n x s p
  have h2 := h1.new f2 (by simp)
  have fw := f1.trans f2 (by simp)
  have HD : Hid (x.remove n s p = if slotIn x s p (taken x n) = -1 then (x, .int .i64 5) else (x.mark (-1) (slotIn x s p (taken x n)), errDown (x.markOk (-1) (slotIn x s p (taken x n))))) := rfl
  generalize slotIn x s p (taken x n) = k at *
  clear h1' f1 f2 r3 hF h1
  have fF : Frm F w w2 := fw.mono (by simp)
  rcases Int.lt_or_le k 0 with hk | hk
  · obtain rfl : k = -1 := by omega
    go_wp2_with fail
    go_ret
    rw [HD.out]
    exact ⟨rfl, F, h2, fF, Grew.refl _ _⟩
  · have hne : (k == -1) = false := by rw [beq_eq_false_iff_ne]; omega
    go_wp2_with fail
    refine (mark_spec F d n x (-1) k w2 h2 hx hfew (by omega) (by omega) (by omega) (by omega)).mono ?_
    rintro e w3 ⟨rfl, F3, h3, f3, g3⟩
    go_wp2_with fail
    go_ret
    rw [HD.out, if_neg (by omega)]
    exact ⟨rfl, F3, h3, fF.trans f3 (fun j hj => .inl hj), (Grew.refl F w).trans g3 fw.size⟩

set_option maxRecDepth 100000 in
set_option maxHeartbeats 1000000 in
theorem put_spec (F : List Nat) (d n : Nat) (x : DS) (s : Nat) (p c : ByteArray) (w : World) (h : DiskOwn w F d n x) (hx : x.Fit 5) (hfew : x.waiting.length < 55) (hs : s < 256) (hp : p.size < 256) (hc : c.size < 256) :
    Calls Tryz.prog 76 #[.pointer (some ⟨d, 0, none⟩), .agg #[.int .i64 s, .string p, .string c]] w fun e w' => e = .returned (x.put n s p c).2 ∧ ∃ F', DiskOwn w' F' d n (x.put n s p c).1 ∧ Frm F w w' ∧ Grew F F' w := by
  have hn : nslots n ≤ 54 := by unfold nslots; omega
  go_enter Tryz.func76, Tryz.ntmps76
  go_wp2_with (with_reducible first | refine stop_box rfl ?_ | refine stop_load 103 rfl ?_ | refine stop_load 107 rfl ?_)
  refine Stopped.go (wl_box rfl 107 _ rfl (.agg #[.int .i64 s, .string p, .string c]) rfl ?_)
  intro w1 b3 l3 f1 r3
  have h1 := h.new f1 (by simp)
  go_wp2_with (with_reducible first | refine stop_box rfl ?_ | refine stop_load 103 rfl ?_ | refine stop_load 107 rfl ?_)
  refine (freeSlot_any F d n x w1 h1).mono ?_
  rintro e w2 ⟨rfl, f2⟩
  have h2 := h1.new f2 (by simp)
  have r32 := f2.row r3 (by simp)
  have fw := f1.trans f2 (by simp)
  clear h1 f1 f2 r3
  have HD : Hid (x.put n s p c = if freeIn x n = -1 then (x, .int .i64 7)
  else if x.wrecOk (freeIn x n).toNat (encRec s p.data.toList c.data.toList) then
    ((x.wrec (freeIn x n).toNat (encRec s p.data.toList c.data.toList)).mark (freeIn x n) (slotIn x s p (taken x n)),
      errDown ((x.wrec (freeIn x n).toNat (encRec s p.data.toList c.data.toList)).markOk (freeIn x n) (slotIn x s p (taken x n))))
  else (x.wrec (freeIn x n).toNat (encRec s p.data.toList c.data.toList), .int .i64 3)) := rfl
  have hf : freeIn x n = -1 ∨ ∃ i : Nat, i < nslots n ∧ freeIn x n = i := by
    rcases freeFrom_cases (x.read 0) (nslots n) (nslots n) 0 with hf | ⟨i, hi, hf, _⟩
    · exact .inl hf
    · exact .inr ⟨i, hi, hf⟩
  generalize freeIn x n = fs at *
  rcases hf with rfl | ⟨i, hi, rfl⟩
  · go_wp2_with fail
    go_ret
    rw [HD.out]
    exact ⟨rfl, F, h2, fw.mono (by simp), Grew.refl _ _⟩
  · have hne : ((i : Int) == -1) = false := by rw [beq_eq_false_iff_ne]; omega
    simp only [Int.toNat_natCast] at HD
    go_wp2_with (with_reducible first | refine stop_load 103 rfl ?_ | refine stop_load 107 rfl ?_)
    refine Stopped.go (wl_load rfl 103 _ rfl b3 0 rfl row_name 2 info_name _ _ r32 [.int .i64 s, .string p] rfl rfl ?_)
    go_wp2_with (with_reducible first | refine stop_load 103 rfl ?_ | refine stop_load 107 rfl ?_)
    obtain ⟨bl, vw, h2', hF⟩ := id h2
    refine (slotOf_any d bl n vw x s p w2 h2').mono ?_
    rintro e w3 ⟨rfl, f3⟩
    have hr := slotIn_range n x s p
    have h3 := h2.new f3 (by simp)
    have r33 := f3.row r32 (by simp)
    have fw3 := fw.trans f3 (by simp)
    generalize slotIn x s p (taken x n) = k at *
    clear h2' hF h2 r32 fw f3
    go_wp2_with (with_reducible first | refine stop_load 103 rfl ?_ | refine stop_load 107 rfl ?_)
    refine Stopped.go (wl_load rfl 107 _ rfl b3 0 rfl row_file 3 info_file _ _ r33 [.int .i64 s, .string p, .string c] rfl rfl ?_)
    go_wp2_with fail
    refine (encode_any s p c w3 hs hp hc).mono ?_
    rintro e w4 ⟨rfl, f4⟩
    have h4 := h3.new f4 (by simp)
    have fw4 := (fw3.trans f4 (by simp)).mono (T := F) (by simp)
    generalize hR : encRec s p.data.toList c.data.toList = R at *
    have hRl : R.length = 128 := by rw [← hR]; exact length_encRec _ _ _
    clear hR
    go_wp2_with fail
    refine (writeRecord_spec F d n x i R w4 h4 ⟨hx.acts0, by have := hx.acts1; omega, hx.left0, hx.left1⟩ hfew hi hRl).mono ?_
    rintro e w5 ⟨rfl, F5, h5, f5, g5⟩
    have fw5 := fw4.trans f5 (fun j hj => .inl hj)
    have gw5 := (Grew.refl F w).trans g5 fw4.size
    cases hok : x.wrecOk i R with
    | true =>
      rw [hok] at HD
      have hfit := DS.wrec_fit (m := 2) hx hok
      generalize x.wrec i R = y at *
      clear hok
      simp only [errDown, if_true]
      go_wp2_with fail
      refine (mark_spec F5 d n y i k w5 h5 hfit.1 (by rw [hfit.2]; decide) (by omega) (by omega) (by omega) (by omega)).mono ?_
      rintro e w6 ⟨rfl, F6, h6, f6, g6⟩
      go_wp2_with fail
      go_ret
      rw [HD.out, if_neg (by omega)]
      exact ⟨rfl, F6, h6, fw5.trans f6 gw5, gw5.trans g6 fw5.size⟩
    | false =>
      rw [hok] at HD
      generalize x.wrec i R = y at *
      clear hok
      simp only [errDown]
      go_wp2_with fail
      go_ret
      rw [HD.out, if_neg (by omega)]
      exact ⟨rfl, F5, h5, fw5, gw5⟩

end Go.Proofs.YtchcmhodnkgojaaGreat
