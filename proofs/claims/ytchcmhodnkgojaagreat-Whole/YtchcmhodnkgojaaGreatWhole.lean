/- Whole of the statements. (Written by wip/genwhole.py.) -/
import Derived.Test.YtchcmhodnkgojaaGreatOut
set_option linter.all false
namespace Go.Proofs.YtchcmhodnkgojaaGreat
open Go.RowKit Go.Lib

theorem notin_new {F : List Nat} {w : World} {b : Nat} (h : ∀ k ∈ F, k < w.heap.size) (hb : w.heap.size ≤ b) : b ∉ F := fun hF => by have := h b hF; omega
theorem notin_old {F : List Nat} {w : World} {b : Nat} (h : Grew [] F w) (hb : b < w.heap.size) : b ∉ F := fun hF => by have := (h b hF).resolve_left (by simp); omega
theorem notin_grew {F F' : List Nat} {w : World} {b : Nat} (h : Grew F F' w) (hn : b ∉ F) (hb : b < w.heap.size) : b ∉ F' := fun hF => by
  rcases h b hF with h | h
  · exact hn h
  · omega
theorem grew_ge {F : List Nat} {w : World} (h : Grew [] F w) : ∀ k ∈ F, w.heap.size ≤ k := fun k hk => (h k hk).resolve_left (by simp)

set_option maxRecDepth 100000 in
set_option maxHeartbeats 8000000 in
theorem whole_any (ad : Option Addr) (cap : Nat) (l : List ActD) (y : ActD) (fa fk : Int) (w : World) (h : ActsIn w ad l) (hl : l.length ≤ cap) (hcap : cap ≤ maxLen) (hy : y.Ok) (hfa : fits64 fa) :
    Calls Tryz.prog 3 #[.slice ad l.length cap, .agg y.cells, .agg #[.int .i64 fa, .int .i64 fk]] w fun e w' => e = .returned (.bool true) ∧ Frm [] w w' := by
  obtain ⟨hyc, hy3⟩ := ActD.call_ok hy
  unfold fits64 at hfa
  go_enter Tryz.func3, Tryz.ntmps3
  go_wp2_with (with_reducible first | refine stop_box rfl ?_ | refine stop_alloc rfl ?_ | refine stop_load 24 rfl ?_ | refine stop_store 24 rfl ?_ | refine stop_load 33 rfl ?_ | refine stop_store 33 rfl ?_)
  refine Stopped.go (wl_box rfl 24 _ rfl (.agg y.cells) rfl ?_)
  intro w1 b4 l4 f1 r4
  go_wp2_with (with_reducible first | refine stop_box rfl ?_ | refine stop_alloc rfl ?_ | refine stop_load 24 rfl ?_ | refine stop_store 24 rfl ?_ | refine stop_load 33 rfl ?_ | refine stop_store 33 rfl ?_)
  refine Stopped.go (wl_box rfl 26 _ rfl (.agg #[.int .i64 fa, .int .i64 fk]) rfl ?_)
  intro w2 b5 l5 f2 r5
  have q4 : Row w2 b4 y.cells 24 := f2.row r4 (by simp)
  have q5 : Row w2 b5 #[.int .i64 fa, .int .i64 fk] 26 := r5
  have fw := f1.trans f2 (by simp)
  have h2 := h.frm fw (by simp)
  have n45 : b4 ≠ b5 := by have := r4.lt; omega
  have hb4 : b4 < w2.heap.size := q4.lt
  have hb5 : b5 < w2.heap.size := q5.lt
  clear r4 r5 f1 f2 l5 h
  go_wp2_with (with_reducible first | refine stop_box rfl ?_ | refine stop_alloc rfl ?_ | refine stop_load 24 rfl ?_ | refine stop_store 24 rfl ?_ | refine stop_load 33 rfl ?_ | refine stop_store 33 rfl ?_)
  refine (stocked_any ad cap l w2 h2 hl hcap).mono ?_
  rintro e w3 ⟨s, d, F, L, m, a0, rfl, ⟨hs, hrep, hsev, ha0, ha1⟩, f3, g3, l3⟩
  replace q4 := f3.row q4 (by simp)
  replace q5 := f3.row q5 (by simp)
  replace fw := fw.trans f3 (by simp)
  have nF4 : b4 ∉ F := notin_old g3 hb4
  have geF : ∀ k ∈ F, w.heap.size ≤ k := fun k hk => by have := grew_ge g3 k hk; have := l4; omega
  have nF5 : b5 ∉ F := notin_old g3 hb5
  have ns4 : s ≠ b4 := by omega
  have ns5 : s ≠ b5 := by omega
  obtain ⟨N, e0, m', L', g, lt, T⟩ := fate_any hrep hsev slots200 y.call.kind y.call.side y.call.path y.call.content
  have hN := T.few
  have hcall : (DS.calm L 0).act 200 y.call.kind y.call.side y.call.path y.call.content = (DS.calm L' (0 + N), .int .i64 e0) := T.free 0 0 0
  have hrep' := T.rep
  have hsev' := T.seven
  have haf := pickD_lt fa (N + 2) (by omega)
  obtain ⟨ef, Lf, dn, lf, fl, hout, hob, hdn0, hdn5, hcase⟩ := out_any T a0 fk (pickD fa (N + 2))
  have hans := T.ans
  have HC : Hid ((DS.calm L 0).act 200 y.call.kind y.call.side y.call.path y.call.content = (DS.calm L' (0 + N), .int .i64 e0)) := hcall
  have HO : Hid ((⟨L, [], a0, true, (pickD fa (N + 2) : Nat), fk, false⟩ : DS).act 200 y.call.kind y.call.side y.call.path y.call.content = (⟨Lf, [], a0 + dn, true, lf, fk, fl⟩, .int .i64 ef)) := hout
  have HB : Hid (obeysD ef dn (pickD fa (N + 2) : Nat) e0 N = true) := hob
  have HK : Hid ((ef = 3 ∧ fl = true ∧ dn = (pickD fa (N + 2) : Nat) ∧ (Rep Lf 200 m ∨ Rep Lf 200 m')) ∨ ((ef = 0 ∨ ef = 5) ∧ fl = false ∧ Rep Lf 200 m')) := hcase
  have HR : Hid (Rep L 200 m ∧ Rep L' 200 m') := ⟨hrep, hrep'⟩
  have HS : Hid (Seven m ∧ Seven m') := ⟨hsev, hsev'⟩
  clear T hcall hout hob hcase hrep hrep' hsev hsev' f3 g3 h2 hans hb4 hb5
  go_wp2_with (with_reducible first | refine stop_box rfl ?_ | refine stop_alloc rfl ?_ | refine stop_load 24 rfl ?_ | refine stop_store 24 rfl ?_ | refine stop_load 33 rfl ?_ | refine stop_store 33 rfl ?_)
  refine Stopped.go (wl_loadw rfl 24 _ rfl b4 rfl row_act y.cells _ q4 info_act ?_)
  go_wp2_with (with_reducible first | refine stop_box rfl ?_ | refine stop_alloc rfl ?_ | refine stop_load 24 rfl ?_ | refine stop_store 24 rfl ?_ | refine stop_load 33 rfl ?_ | refine stop_store 33 rfl ?_)
  refine (call_any y w3 hy).mono ?_
  rintro e w4 ⟨rfl, f4⟩
  replace q4 := f4.row q4 (by simp)
  replace q5 := f4.row q5 (by simp)
  replace hs := hs.new f4
  replace fw := fw.trans f4 (by simp)
  clear f4
  go_wp2_with (with_reducible first | refine stop_box rfl ?_ | refine stop_alloc rfl ?_ | refine stop_load 24 rfl ?_ | refine stop_store 24 rfl ?_ | refine stop_load 33 rfl ?_ | refine stop_store 33 rfl ?_)
  refine Stopped.go (wl_storew rfl 24 _ _ rfl b4 rfl y.call.cells rfl info_act (act_one _) _ _ q4 rfl ?_)
  intro w5 f5 r4
  replace q5 := f5.row q5 (by simpa using n45.symm)
  replace hs : StoreIn w5 F s d 200 (DS.calm L a0) := hs.frm f5 (by simpa using ns4) (by simpa using nF4)
  replace fw := fw.trans f5 (by simpa using l4)
  clear f5 q4 hy
  go_wp2_with (with_reducible first | refine stop_box rfl ?_ | refine stop_alloc rfl ?_ | refine stop_load 24 rfl ?_ | refine stop_store 24 rfl ?_ | refine stop_load 33 rfl ?_ | refine stop_store 33 rfl ?_)
  refine (seen_rep F s d 200 (DS.calm L a0) m w5 hs rfl rfl HR.out.1 HS.out.1).mono ?_
  rintro e w6 ⟨rfl, f6⟩
  generalize hA : (DS.calm L a0).state 200 = A
  have lA : A.length = 21 := by rw [← hA]; exact state_len _ _
  have HA : Hid ((DS.calm L a0).state 200 = A) := hA
  have iA : Hid ((Tryz.prog.info? 33).map (·.size) = some (sstr A).size) := by show _ = _; rw [← hA]; exact state_info _ _
  have q4 := f6.row r4 (by simp)
  replace q5 := f6.row q5 (by simp)
  replace hs := hs.new f6
  replace fw := fw.trans f6 (by simp)
  clear f6 hA r4
  go_wp2_with (with_reducible first | refine stop_box rfl ?_ | refine stop_alloc rfl ?_ | refine stop_load 24 rfl ?_ | refine stop_store 24 rfl ?_ | refine stop_load 33 rfl ?_ | refine stop_store 33 rfl ?_)
  refine Stopped.go (wl_alloc rfl 33 rfl zState zero_state ?_)
  intro w7 b8 l8 f7 r8
  have n8 : b8 ∉ F := notin_new hs.disk.lt l8
  have ns8 : s ≠ b8 := by have := hs.row.lt; omega
  have n48 : b4 ≠ b8 := by have := q4.lt; omega
  have n58 : b5 ≠ b8 := by have := q5.lt; omega
  have k8 : w.heap.size ≤ b8 := by have := fw.size; omega
  replace q4 := f7.row q4 (by simp)
  replace q5 := f7.row q5 (by simp)
  replace hs := hs.new f7
  replace fw := fw.trans f7 (by simp)
  clear f7 l8
  go_wp2_with (with_reducible first | refine stop_box rfl ?_ | refine stop_alloc rfl ?_ | refine stop_load 24 rfl ?_ | refine stop_store 24 rfl ?_ | refine stop_load 33 rfl ?_ | refine stop_store 33 rfl ?_)
  refine Stopped.go (wl_storew rfl 33 _ _ rfl b8 rfl (sstr A) rfl iA.out (sstr_one _) _ _ r8 (by rw [sstr_size, lA]; rfl) ?_)
  intro w8 f8 q8
  replace q4 := f8.row q4 (by simpa using n48)
  replace q5 := f8.row q5 (by simpa using n58)
  replace hs : StoreIn w8 F s d 200 (DS.calm L a0) := hs.frm f8 (by simpa using ns8) (by simpa using n8)
  replace fw := fw.trans f8 (by simpa using k8)
  clear f8 r8 n48 n58 ns8
  go_wp2_with (with_reducible first | refine stop_box rfl ?_ | refine stop_alloc rfl ?_ | refine stop_load 24 rfl ?_ | refine stop_store 24 rfl ?_ | refine stop_load 33 rfl ?_ | refine stop_store 33 rfl ?_)
  refine (copied_rep F s d 200 (DS.calm L a0) m w8 hs HR.out.1 HS.out.1).mono ?_
  rintro e w9 ⟨t, td, Ft, rfl, ht, f9, g9, l9⟩
  have nt4 : b4 ∉ Ft := notin_old g9 q4.lt
  have nt5 : b5 ∉ Ft := notin_old g9 q5.lt
  have nt8 : b8 ∉ Ft := notin_old g9 q8.lt
  have nts : s ∉ Ft := notin_old g9 hs.row.lt
  have ntF : ∀ k ∈ Ft, k ∉ F := fun k hk hF => notin_old g9 (hs.disk.lt k hF) hk
  replace ht : StoreIn w9 Ft t td 200 (DS.calm L 0) := ht
  have geT : ∀ k ∈ Ft, w.heap.size ≤ k := fun k hk => by have := grew_ge g9 k hk; have := fw.size; omega
  replace q4 := f9.row q4 (by simp)
  replace q5 := f9.row q5 (by simp)
  replace q8 := f9.row q8 (by simp)
  replace hs := hs.new f9
  replace fw := fw.trans f9 (by simp)
  clear f9 g9 l9
  go_wp2_with (with_reducible first | refine stop_box rfl ?_ | refine stop_alloc rfl ?_ | refine stop_load 24 rfl ?_ | refine stop_store 24 rfl ?_ | refine stop_load 33 rfl ?_ | refine stop_store 33 rfl ?_)
  refine Stopped.go (wl_loadw rfl 24 _ rfl b4 rfl row_act y.call.cells _ q4 info_act ?_)
  go_wp2_with (with_reducible first | refine stop_box rfl ?_ | refine stop_alloc rfl ?_ | refine stop_load 24 rfl ?_ | refine stop_store 24 rfl ?_ | refine stop_load 33 rfl ?_ | refine stop_store 33 rfl ?_)
  refine (act_rep Ft t td (DS.calm L 0) y w9 ht rfl (fit_calm _ _ _ (by omega) (by omega)) ⟨hyc, hy3⟩ _ _ HC.out).mono ?_
  rintro e w10 ⟨rfl, ⟨Fu, hu, gu⟩, f10⟩
  replace q4 := f10.row q4 nt4
  replace q5 := f10.row q5 nt5
  replace q8 := f10.row q8 nt8
  replace hs : StoreIn w10 F s d 200 (DS.calm L a0) := hs.frm f10 nts ntF
  replace fw := fw.trans f10 (fun k hk => .inr (geT k hk))
  clear f10 ht nt4 nt5 nt8 nts ntF geT gu HC
  go_wp2_with (with_reducible first | refine stop_box rfl ?_ | refine stop_alloc rfl ?_ | refine stop_load 24 rfl ?_ | refine stop_store 24 rfl ?_ | refine stop_load 33 rfl ?_ | refine stop_store 33 rfl ?_)
  refine (sacts_any Fu t td 200 _ w10 hu).mono ?_
  rintro e w11 ⟨rfl, rfl⟩
  have eN : (DS.calm L' (0 + N)).acts = (N : Int) := Int.zero_add _
  rw [eN]
  clear eN
  go_wp2_with (with_reducible first | refine stop_box rfl ?_ | refine stop_alloc rfl ?_ | refine stop_load 24 rfl ?_ | refine stop_store 24 rfl ?_ | refine stop_load 33 rfl ?_ | refine stop_store 33 rfl ?_)
  refine (seen_rep Fu t td 200 (DS.calm L' (0 + N)) m' w11 hu rfl rfl HR.out.2 HS.out.2).mono ?_
  rintro e w12 ⟨rfl, f12⟩
  generalize hB : (DS.calm L' (0 + N)).state 200 = B
  have lB : B.length = 21 := by rw [← hB]; exact state_len _ _
  have HBB : Hid ((DS.calm L' (0 + N)).state 200 = B) := hB
  have iB : Hid ((Tryz.prog.info? 33).map (·.size) = some (sstr B).size) := by show _ = _; rw [← hB]; exact state_info _ _
  replace q4 := f12.row q4 (by simp)
  replace q5 := f12.row q5 (by simp)
  replace q8 := f12.row q8 (by simp)
  replace hs := hs.new f12
  replace fw := fw.trans f12 (by simp)
  clear f12 hB hu
  go_wp2_with (with_reducible first | refine stop_box rfl ?_ | refine stop_alloc rfl ?_ | refine stop_load 24 rfl ?_ | refine stop_store 24 rfl ?_ | refine stop_load 33 rfl ?_ | refine stop_store 33 rfl ?_)
  refine Stopped.go (wl_alloc rfl 33 rfl zState zero_state ?_)
  intro w13 b13 l13 f13 r13
  have n13 : b13 ∉ F := notin_new hs.disk.lt l13
  have ns13 : s ≠ b13 := by have := hs.row.lt; omega
  have n413 : b4 ≠ b13 := by have := q4.lt; omega
  have n513 : b5 ≠ b13 := by have := q5.lt; omega
  have n813 : b8 ≠ b13 := by have := q8.lt; omega
  have k13 : w.heap.size ≤ b13 := by have := fw.size; omega
  replace q4 := f13.row q4 (by simp)
  replace q5 := f13.row q5 (by simp)
  replace q8 := f13.row q8 (by simp)
  replace hs := hs.new f13
  replace fw := fw.trans f13 (by simp)
  clear f13 l13
  go_wp2_with (with_reducible first | refine stop_box rfl ?_ | refine stop_alloc rfl ?_ | refine stop_load 24 rfl ?_ | refine stop_store 24 rfl ?_ | refine stop_load 33 rfl ?_ | refine stop_store 33 rfl ?_)
  refine Stopped.go (wl_storew rfl 33 _ _ rfl b13 rfl (sstr B) rfl iB.out (sstr_one _) _ _ r13 (by rw [sstr_size, lB]; rfl) ?_)
  intro w14 f14 q13
  replace q4 := f14.row q4 (by simpa using n413)
  replace q5 := f14.row q5 (by simpa using n513)
  replace q8 := f14.row q8 (by simpa using n813)
  replace hs : StoreIn w14 F s d 200 (DS.calm L a0) := hs.frm f14 (by simpa using ns13) (by simpa using n13)
  replace fw := fw.trans f14 (by simpa using k13)
  have c0 : w14.cell? ⟨b5, 0, none⟩ = some (.int .i64 fa) := by rw [q5.cell]; rfl
  clear f14 r13 n413 n513 n813 ns13
  go_wp2_with (with_reducible first | refine stop_box rfl ?_ | refine stop_alloc rfl ?_ | refine stop_load 24 rfl ?_ | refine stop_store 24 rfl ?_ | refine stop_load 33 rfl ?_ | refine stop_store 33 rfl ?_)
  have hpick := pick_any fa (N + 2) w14 hfa.1 hfa.2 (by omega) (by omega)
  rw [show ((N + 2 : Nat) : Int) = (N : Int) + 2 by omega] at hpick
  refine hpick.mono ?_
  rintro e w15 ⟨rfl, rfl⟩
  clear c0 hpick
  generalize pickD fa (N + 2) = af at haf HO HB HK ⊢
  go_wp2_with (with_reducible first | refine stop_box rfl ?_ | refine stop_alloc rfl ?_ | refine stop_load 24 rfl ?_ | refine stop_store 24 rfl ?_ | refine stop_load 33 rfl ?_ | refine stop_store 33 rfl ?_)
  refine (sacts_any F s d 200 _ w15 hs).mono ?_
  rintro e w16 ⟨rfl, rfl⟩
  have ea : (DS.calm L a0).acts = a0 := rfl
  rw [ea]
  clear ea
  have c1 : w16.cell? ⟨b5, 1, none⟩ = some (.int .i64 fk) := by rw [q5.cell]; rfl
  go_wp2_with (with_reducible first | refine stop_box rfl ?_ | refine stop_alloc rfl ?_ | refine stop_load 24 rfl ?_ | refine stop_store 24 rfl ?_ | refine stop_load 33 rfl ?_ | refine stop_store 33 rfl ?_)
  refine (sfail_spec F s d 200 _ af fk w16 hs).mono ?_
  rintro e w17 ⟨rfl, hs17, f17⟩
  have hff : (DS.calm L a0).failTo (af : Nat) fk = (⟨L, [], a0, true, (af : Nat), fk, false⟩, 0) := by
    unfold DS.failTo
    rw [show (DS.calm L a0).failed = false from rfl, if_neg (by simp), if_neg (by omega)]
    rfl
  rw [hff] at hs17 ⊢
  have hs17 : StoreIn w17 F s d 200 ⟨L, [], a0, true, (af : Nat), fk, false⟩ := hs17
  replace q4 := f17.row q4 nF4
  replace q8 := f17.row q8 n8
  replace q13 := f17.row q13 n13
  replace fw := fw.trans f17 (fun k hk => .inr (geF k hk))
  clear f17 c1 hs q5 hff nF5 ns5
  go_wp2_with (with_reducible first | refine stop_box rfl ?_ | refine stop_alloc rfl ?_ | refine stop_load 24 rfl ?_ | refine stop_store 24 rfl ?_ | refine stop_load 33 rfl ?_ | refine stop_store 33 rfl ?_)
  refine Stopped.go (wl_loadw rfl 24 _ rfl b4 rfl row_act y.call.cells _ q4 info_act ?_)
  go_wp2_with (with_reducible first | refine stop_box rfl ?_ | refine stop_alloc rfl ?_ | refine stop_load 24 rfl ?_ | refine stop_store 24 rfl ?_ | refine stop_load 33 rfl ?_ | refine stop_store 33 rfl ?_)
  refine (act_rep F s d _ y w17 hs17 rfl ⟨ha0, by show a0 + _ ≤ _; omega, by show (0 : Int) ≤ (af : Nat); omega, by show ((af : Nat) : Int) ≤ _; omega⟩ ⟨hyc, hy3⟩ _ _ HO.out).mono ?_
  rintro e w18 ⟨rfl, ⟨F2, hs2, g2⟩, f18⟩
  have m8 : b8 ∉ F2 := notin_grew g2 n8 q8.lt
  have m13 : b13 ∉ F2 := notin_grew g2 n13 q13.lt
  have geF2 : ∀ k ∈ F2, w.heap.size ≤ k := fun k hk => by
    rcases g2 k hk with hh | hh
    · exact geF k hh
    · have := fw.size; omega
  replace q8 := f18.row q8 n8
  replace q13 := f18.row q13 n13
  replace fw := fw.trans f18 (fun k hk => .inr (geF k hk))
  clear f18 q4 HO g2 hs17 n8 n13 nF4 ns4 geF hyc hy3
  go_wp2_with (with_reducible first | refine stop_box rfl ?_ | refine stop_alloc rfl ?_ | refine stop_load 24 rfl ?_ | refine stop_store 24 rfl ?_ | refine stop_load 33 rfl ?_ | refine stop_store 33 rfl ?_)
  refine (sacts_any F2 s d 200 _ w18 hs2).mono ?_
  rintro e w19 ⟨rfl, rfl⟩
  go_wp2_with (with_reducible first | refine stop_box rfl ?_ | refine stop_alloc rfl ?_ | refine stop_load 24 rfl ?_ | refine stop_store 24 rfl ?_ | refine stop_load 33 rfl ?_ | refine stop_store 33 rfl ?_)
  rw [show a0 + dn - a0 = dn by omega]
  refine (obeys_any ef dn af e0 N w19).mono ?_
  rintro e w20 ⟨rfl, rfl⟩
  rw [HB.out]
  clear HB
  rcases HK.out with ⟨rfl, rfl, rfl, hR⟩ | ⟨hef, rfl, hR⟩
  · skip
    have HRf : Hid (Rep Lf 200 m ∨ Rep Lf 200 m') := hR
    clear hR HK
    go_wp2_with (with_reducible first | refine stop_box rfl ?_ | refine stop_alloc rfl ?_ | refine stop_load 24 rfl ?_ | refine stop_store 24 rfl ?_ | refine stop_load 33 rfl ?_ | refine stop_store 33 rfl ?_)
    refine (get_any F2 s d 200 _ 0 ⟨#[97]⟩ w20 hs2 (by omega) (by decide) (by decide)).mono ?_
    rintro e w21 ⟨rfl, f21⟩
    have eg : (⟨Lf, [], a0 + (af : Nat), true, lf, fk, true⟩ : DS).get 200 0 ⟨#[97]⟩ = (.string ⟨#[]⟩, 3) := rfl
    rw [eg]
    replace q8 := f21.row q8 (by simp)
    replace q13 := f21.row q13 (by simp)
    replace hs2 := hs2.new f21
    replace fw := fw.trans f21 (by simp)
    clear f21 eg
    go_wp2_with (with_reducible first | refine stop_box rfl ?_ | refine stop_alloc rfl ?_ | refine stop_load 24 rfl ?_ | refine stop_store 24 rfl ?_ | refine stop_load 33 rfl ?_ | refine stop_store 33 rfl ?_)
    refine (list_any F2 s d 200 _ 0 w21 hs2 (by omega)).mono ?_
    rintro e w22 ⟨⟨ad', cap', rfl⟩, f22⟩
    replace q8 := f22.row q8 (by simp)
    replace q13 := f22.row q13 (by simp)
    replace hs2 := hs2.new f22
    replace fw := fw.trans f22 (by simp)
    clear f22
    simp only [if_true]
    go_wp2_with (with_reducible first | refine stop_box rfl ?_ | refine stop_alloc rfl ?_ | refine stop_load 24 rfl ?_ | refine stop_store 24 rfl ?_ | refine stop_load 33 rfl ?_ | refine stop_store 33 rfl ?_)
    refine (sfail_spec F2 s d 200 _ 1 1 w22 hs2).mono ?_
    rintro e w23 ⟨rfl, hs3, f23⟩
    have eg : (⟨Lf, [], a0 + (af : Nat), true, lf, fk, true⟩ : DS).failTo 1 1 = (⟨Lf, [], a0 + (af : Nat), true, lf, fk, true⟩, 3) := rfl
    rw [eg] at hs3 ⊢
    replace q8 := f23.row q8 m8
    replace q13 := f23.row q13 m13
    replace fw := fw.trans f23 (fun k hk => .inr (geF2 k hk))
    clear f23 eg hs2
    go_wp2_with (with_reducible first | refine stop_box rfl ?_ | refine stop_alloc rfl ?_ | refine stop_load 24 rfl ?_ | refine stop_store 24 rfl ?_ | refine stop_load 33 rfl ?_ | refine stop_store 33 rfl ?_)
    refine (sacts_any F2 s d 200 _ w23 hs3).mono ?_
    rintro e w24 ⟨rfl, rfl⟩
    rcases HRf.out with hR | hR
    · skip
      have hX : (DS.fresh Lf).state 200 = A := by
        rw [← HA.out]
        exact state_eq (x := DS.fresh Lf) (m := m) hR rfl HR.out.1 rfl
      go_wp2_with (with_reducible first | refine stop_box rfl ?_ | refine stop_alloc rfl ?_ | refine stop_load 24 rfl ?_ | refine stop_store 24 rfl ?_ | refine stop_load 33 rfl ?_ | refine stop_store 33 rfl ?_)
      refine (copied_rep F2 s d 200 _ m w24 hs3 hR HS.out.1).mono ?_
      rintro e w31 ⟨u, ud, Fu', rfl, hu, f31, g31, l31⟩
      replace hu : StoreIn w31 Fu' u ud 200 (DS.fresh Lf) := hu
      have nu8 : b8 ∉ Fu' := notin_old g31 q8.lt
      have nu13 : b13 ∉ Fu' := notin_old g31 q13.lt
      have geU : ∀ k ∈ Fu', w.heap.size ≤ k := fun k hk => by have := grew_ge g31 k hk; have := fw.size; omega
      replace q8 := f31.row q8 (by simp)
      replace q13 := f31.row q13 (by simp)
      replace fw := fw.trans f31 (by simp)
      clear f31 g31 l31 hs3
      go_wp2_with (with_reducible first | refine stop_box rfl ?_ | refine stop_alloc rfl ?_ | refine stop_load 24 rfl ?_ | refine stop_store 24 rfl ?_ | refine stop_load 33 rfl ?_ | refine stop_store 33 rfl ?_)
      refine (seen_rep Fu' u ud 200 (DS.fresh Lf) m w31 hu rfl rfl hR HS.out.1).mono ?_
      rintro e w32 ⟨rfl, f32⟩
      rw [hX]
      replace q8 := f32.row q8 (by simp)
      replace q13 := f32.row q13 (by simp)
      replace hu := hu.new f32
      replace fw := fw.trans f32 (by simp)
      clear f32 hX
      go_wp2_with (with_reducible first | refine stop_box rfl ?_ | refine stop_alloc rfl ?_ | refine stop_load 24 rfl ?_ | refine stop_store 24 rfl ?_ | refine stop_load 33 rfl ?_ | refine stop_store 33 rfl ?_)
      refine Stopped.go (wl_alloc rfl 33 rfl zState zero_state ?_)
      intro w33 b24 l24 f33 r24
      have n24 : b24 ∉ Fu' := notin_new hu.disk.lt l24
      have nu24 : u ≠ b24 := by have := hu.row.lt; omega
      have n824 : b8 ≠ b24 := by have := q8.lt; omega
      have n1324 : b13 ≠ b24 := by have := q13.lt; omega
      have k24 : w.heap.size ≤ b24 := by have := fw.size; omega
      replace q8 := f33.row q8 (by simp)
      replace q13 := f33.row q13 (by simp)
      replace hu := hu.new f33
      replace fw := fw.trans f33 (by simp)
      clear f33 l24
      go_wp2_with (with_reducible first | refine stop_box rfl ?_ | refine stop_alloc rfl ?_ | refine stop_load 24 rfl ?_ | refine stop_store 24 rfl ?_ | refine stop_load 33 rfl ?_ | refine stop_store 33 rfl ?_)
      refine Stopped.go (wl_storew rfl 33 _ _ rfl b24 rfl (sstr A) rfl iA.out (sstr_one _) _ _ r24 (by rw [sstr_size, lA]; rfl) ?_)
      intro w34 f34 q24
      replace q8 := f34.row q8 (by simpa using n824)
      replace q13 := f34.row q13 (by simpa using n1324)
      replace hu : StoreIn w34 Fu' u ud 200 (DS.fresh Lf) := hu.frm f34 (by simpa using nu24) (by simpa using n24)
      replace fw := fw.trans f34 (by simpa using k24)
      clear f34 r24
      go_wp2_with (with_reducible first | refine stop_box rfl ?_ | refine stop_alloc rfl ?_ | refine stop_load 24 rfl ?_ | refine stop_store 24 rfl ?_ | refine stop_load 33 rfl ?_ | refine stop_store 33 rfl ?_)
      refine (kpending_rep Fu' u ud 200 Lf m w34 hu hR HS.out.1).mono ?_
      rintro e w35 ⟨rfl, f35⟩
      replace q8 := f35.row q8 nu8
      replace q13 := f35.row q13 nu13
      replace q24 := f35.row q24 n24
      replace fw := fw.trans f35 (fun k hk => .inr (geU k hk))
      clear f35 hu nu8 nu13 n24 geU
      go_wp2_with (with_reducible first | refine stop_box rfl ?_ | refine stop_alloc rfl ?_ | refine stop_load 24 rfl ?_ | refine stop_store 24 rfl ?_ | refine stop_load 33 rfl ?_ | refine stop_store 33 rfl ?_)
      refine Stopped.go (wl_loadw rfl 33 _ rfl b24 rfl row_state (sstr A) _ q24 iA.out ?_)
      go_wp2_with (with_reducible first | refine stop_box rfl ?_ | refine stop_alloc rfl ?_ | refine stop_load 24 rfl ?_ | refine stop_store 24 rfl ?_ | refine stop_load 33 rfl ?_ | refine stop_store 33 rfl ?_)
      refine Stopped.go (wl_loadw rfl 33 _ rfl b13 rfl row_state (sstr B) _ q13 iB.out ?_)
      go_wp2_with (with_reducible first | refine stop_box rfl ?_ | refine stop_alloc rfl ?_ | refine stop_load 24 rfl ?_ | refine stop_store 24 rfl ?_ | refine stop_load 33 rfl ?_ | refine stop_store 33 rfl ?_)
      refine (same_any A B lA lB w35).mono ?_
      rintro e w36 ⟨rfl, f36⟩
      have fw36 := fw.trans f36 (by simp)

      cases hAB : (A == B) with
      | true =>
        go_wp2_with fail
        all_goals
          go_ret
          exact ⟨rfl, fw36⟩
      | false =>
        replace q8 := f36.row q8 (by simp)
        replace q24 := f36.row q24 (by simp)
        clear f36
        go_wp2_with (with_reducible first | refine stop_box rfl ?_ | refine stop_alloc rfl ?_ | refine stop_load 24 rfl ?_ | refine stop_store 24 rfl ?_ | refine stop_load 33 rfl ?_ | refine stop_store 33 rfl ?_)
        refine Stopped.go (wl_want rfl _ _ (ex_load 33 _ rfl b24 0 rfl row_state 21 info_state _ _ q24 (sstr A).toList (by rw [List.drop_zero]; exact List.take_of_length_le (by rw [Array.length_toList, sstr_size, lA]; omega)) (by rw [Array.length_toList, sstr_size, lA])) ?_)
        rw [Array.toArray_toList]
        go_wp2_with (with_reducible first | refine stop_box rfl ?_ | refine stop_alloc rfl ?_ | refine stop_load 24 rfl ?_ | refine stop_store 24 rfl ?_ | refine stop_load 33 rfl ?_ | refine stop_store 33 rfl ?_)
        refine Stopped.go (wl_want rfl _ _ (ex_load 33 _ rfl b8 0 rfl row_state 21 info_state _ _ q8 (sstr A).toList (by rw [List.drop_zero]; exact List.take_of_length_le (by rw [Array.length_toList, sstr_size, lA]; omega)) (by rw [Array.length_toList, sstr_size, lA])) ?_)
        rw [Array.toArray_toList]
        go_wp2_with (with_reducible first | refine stop_box rfl ?_ | refine stop_alloc rfl ?_ | refine stop_load 24 rfl ?_ | refine stop_store 24 rfl ?_ | refine stop_load 33 rfl ?_ | refine stop_store 33 rfl ?_)
        refine (same_any A A lA lA w36).mono ?_
        rintro e w37 ⟨rfl, f37⟩
        have fw37 := fw36.trans f37 (by simp)
        rw [show (A == A) = true by simp]
        go_wp2_with fail
        all_goals
          go_ret
          exact ⟨rfl, fw37⟩
    · skip
      have hX : (DS.fresh Lf).state 200 = B := by
        rw [← HBB.out]
        exact state_eq (x := DS.fresh Lf) (m := m') hR rfl HR.out.2 rfl
      go_wp2_with (with_reducible first | refine stop_box rfl ?_ | refine stop_alloc rfl ?_ | refine stop_load 24 rfl ?_ | refine stop_store 24 rfl ?_ | refine stop_load 33 rfl ?_ | refine stop_store 33 rfl ?_)
      refine (copied_rep F2 s d 200 _ m' w24 hs3 hR HS.out.2).mono ?_
      rintro e w31 ⟨u, ud, Fu', rfl, hu, f31, g31, l31⟩
      replace hu : StoreIn w31 Fu' u ud 200 (DS.fresh Lf) := hu
      have nu8 : b8 ∉ Fu' := notin_old g31 q8.lt
      have nu13 : b13 ∉ Fu' := notin_old g31 q13.lt
      have geU : ∀ k ∈ Fu', w.heap.size ≤ k := fun k hk => by have := grew_ge g31 k hk; have := fw.size; omega
      replace q8 := f31.row q8 (by simp)
      replace q13 := f31.row q13 (by simp)
      replace fw := fw.trans f31 (by simp)
      clear f31 g31 l31 hs3
      go_wp2_with (with_reducible first | refine stop_box rfl ?_ | refine stop_alloc rfl ?_ | refine stop_load 24 rfl ?_ | refine stop_store 24 rfl ?_ | refine stop_load 33 rfl ?_ | refine stop_store 33 rfl ?_)
      refine (seen_rep Fu' u ud 200 (DS.fresh Lf) m' w31 hu rfl rfl hR HS.out.2).mono ?_
      rintro e w32 ⟨rfl, f32⟩
      rw [hX]
      replace q8 := f32.row q8 (by simp)
      replace q13 := f32.row q13 (by simp)
      replace hu := hu.new f32
      replace fw := fw.trans f32 (by simp)
      clear f32 hX
      go_wp2_with (with_reducible first | refine stop_box rfl ?_ | refine stop_alloc rfl ?_ | refine stop_load 24 rfl ?_ | refine stop_store 24 rfl ?_ | refine stop_load 33 rfl ?_ | refine stop_store 33 rfl ?_)
      refine Stopped.go (wl_alloc rfl 33 rfl zState zero_state ?_)
      intro w33 b24 l24 f33 r24
      have n24 : b24 ∉ Fu' := notin_new hu.disk.lt l24
      have nu24 : u ≠ b24 := by have := hu.row.lt; omega
      have n824 : b8 ≠ b24 := by have := q8.lt; omega
      have n1324 : b13 ≠ b24 := by have := q13.lt; omega
      have k24 : w.heap.size ≤ b24 := by have := fw.size; omega
      replace q8 := f33.row q8 (by simp)
      replace q13 := f33.row q13 (by simp)
      replace hu := hu.new f33
      replace fw := fw.trans f33 (by simp)
      clear f33 l24
      go_wp2_with (with_reducible first | refine stop_box rfl ?_ | refine stop_alloc rfl ?_ | refine stop_load 24 rfl ?_ | refine stop_store 24 rfl ?_ | refine stop_load 33 rfl ?_ | refine stop_store 33 rfl ?_)
      refine Stopped.go (wl_storew rfl 33 _ _ rfl b24 rfl (sstr B) rfl iB.out (sstr_one _) _ _ r24 (by rw [sstr_size, lB]; rfl) ?_)
      intro w34 f34 q24
      replace q8 := f34.row q8 (by simpa using n824)
      replace q13 := f34.row q13 (by simpa using n1324)
      replace hu : StoreIn w34 Fu' u ud 200 (DS.fresh Lf) := hu.frm f34 (by simpa using nu24) (by simpa using n24)
      replace fw := fw.trans f34 (by simpa using k24)
      clear f34 r24
      go_wp2_with (with_reducible first | refine stop_box rfl ?_ | refine stop_alloc rfl ?_ | refine stop_load 24 rfl ?_ | refine stop_store 24 rfl ?_ | refine stop_load 33 rfl ?_ | refine stop_store 33 rfl ?_)
      refine (kpending_rep Fu' u ud 200 Lf m' w34 hu hR HS.out.2).mono ?_
      rintro e w35 ⟨rfl, f35⟩
      replace q8 := f35.row q8 nu8
      replace q13 := f35.row q13 nu13
      replace q24 := f35.row q24 n24
      replace fw := fw.trans f35 (fun k hk => .inr (geU k hk))
      clear f35 hu nu8 nu13 n24 geU
      go_wp2_with (with_reducible first | refine stop_box rfl ?_ | refine stop_alloc rfl ?_ | refine stop_load 24 rfl ?_ | refine stop_store 24 rfl ?_ | refine stop_load 33 rfl ?_ | refine stop_store 33 rfl ?_)
      refine Stopped.go (wl_loadw rfl 33 _ rfl b24 rfl row_state (sstr B) _ q24 iB.out ?_)
      go_wp2_with (with_reducible first | refine stop_box rfl ?_ | refine stop_alloc rfl ?_ | refine stop_load 24 rfl ?_ | refine stop_store 24 rfl ?_ | refine stop_load 33 rfl ?_ | refine stop_store 33 rfl ?_)
      refine Stopped.go (wl_loadw rfl 33 _ rfl b13 rfl row_state (sstr B) _ q13 iB.out ?_)
      go_wp2_with (with_reducible first | refine stop_box rfl ?_ | refine stop_alloc rfl ?_ | refine stop_load 24 rfl ?_ | refine stop_store 24 rfl ?_ | refine stop_load 33 rfl ?_ | refine stop_store 33 rfl ?_)
      refine (same_any B B lB lB w35).mono ?_
      rintro e w36 ⟨rfl, f36⟩
      have fw36 := fw.trans f36 (by simp)

      rw [show (B == B) = true by simp]
      go_wp2_with fail
      all_goals
        go_ret
        exact ⟨rfl, fw36⟩
  · skip
    rcases hef with rfl | rfl
    all_goals
      have hX : (DS.fresh Lf).state 200 = B := by
        rw [← HBB.out]
        exact state_eq (x := DS.fresh Lf) (m := m') hR rfl HR.out.2 rfl
      go_wp2_with (with_reducible first | refine stop_box rfl ?_ | refine stop_alloc rfl ?_ | refine stop_load 24 rfl ?_ | refine stop_store 24 rfl ?_ | refine stop_load 33 rfl ?_ | refine stop_store 33 rfl ?_)
      refine (copied_rep F2 s d 200 _ m' w20 hs2 hR HS.out.2).mono ?_
      rintro e w31 ⟨u, ud, Fu', rfl, hu, f31, g31, l31⟩
      replace hu : StoreIn w31 Fu' u ud 200 (DS.fresh Lf) := hu
      have nu8 : b8 ∉ Fu' := notin_old g31 q8.lt
      have nu13 : b13 ∉ Fu' := notin_old g31 q13.lt
      have geU : ∀ k ∈ Fu', w.heap.size ≤ k := fun k hk => by have := grew_ge g31 k hk; have := fw.size; omega
      replace q8 := f31.row q8 (by simp)
      replace q13 := f31.row q13 (by simp)
      replace fw := fw.trans f31 (by simp)
      clear f31 g31 l31 hs2
      go_wp2_with (with_reducible first | refine stop_box rfl ?_ | refine stop_alloc rfl ?_ | refine stop_load 24 rfl ?_ | refine stop_store 24 rfl ?_ | refine stop_load 33 rfl ?_ | refine stop_store 33 rfl ?_)
      refine (seen_rep Fu' u ud 200 (DS.fresh Lf) m' w31 hu rfl rfl hR HS.out.2).mono ?_
      rintro e w32 ⟨rfl, f32⟩
      rw [hX]
      replace q8 := f32.row q8 (by simp)
      replace q13 := f32.row q13 (by simp)
      replace hu := hu.new f32
      replace fw := fw.trans f32 (by simp)
      clear f32 hX
      go_wp2_with (with_reducible first | refine stop_box rfl ?_ | refine stop_alloc rfl ?_ | refine stop_load 24 rfl ?_ | refine stop_store 24 rfl ?_ | refine stop_load 33 rfl ?_ | refine stop_store 33 rfl ?_)
      refine Stopped.go (wl_alloc rfl 33 rfl zState zero_state ?_)
      intro w33 b24 l24 f33 r24
      have n24 : b24 ∉ Fu' := notin_new hu.disk.lt l24
      have nu24 : u ≠ b24 := by have := hu.row.lt; omega
      have n824 : b8 ≠ b24 := by have := q8.lt; omega
      have n1324 : b13 ≠ b24 := by have := q13.lt; omega
      have k24 : w.heap.size ≤ b24 := by have := fw.size; omega
      replace q8 := f33.row q8 (by simp)
      replace q13 := f33.row q13 (by simp)
      replace hu := hu.new f33
      replace fw := fw.trans f33 (by simp)
      clear f33 l24
      go_wp2_with (with_reducible first | refine stop_box rfl ?_ | refine stop_alloc rfl ?_ | refine stop_load 24 rfl ?_ | refine stop_store 24 rfl ?_ | refine stop_load 33 rfl ?_ | refine stop_store 33 rfl ?_)
      refine Stopped.go (wl_storew rfl 33 _ _ rfl b24 rfl (sstr B) rfl iB.out (sstr_one _) _ _ r24 (by rw [sstr_size, lB]; rfl) ?_)
      intro w34 f34 q24
      replace q8 := f34.row q8 (by simpa using n824)
      replace q13 := f34.row q13 (by simpa using n1324)
      replace hu : StoreIn w34 Fu' u ud 200 (DS.fresh Lf) := hu.frm f34 (by simpa using nu24) (by simpa using n24)
      replace fw := fw.trans f34 (by simpa using k24)
      clear f34 r24
      go_wp2_with (with_reducible first | refine stop_box rfl ?_ | refine stop_alloc rfl ?_ | refine stop_load 24 rfl ?_ | refine stop_store 24 rfl ?_ | refine stop_load 33 rfl ?_ | refine stop_store 33 rfl ?_)
      refine (kpending_rep Fu' u ud 200 Lf m' w34 hu hR HS.out.2).mono ?_
      rintro e w35 ⟨rfl, f35⟩
      replace q8 := f35.row q8 nu8
      replace q13 := f35.row q13 nu13
      replace q24 := f35.row q24 n24
      replace fw := fw.trans f35 (fun k hk => .inr (geU k hk))
      clear f35 hu nu8 nu13 n24 geU
      go_wp2_with (with_reducible first | refine stop_box rfl ?_ | refine stop_alloc rfl ?_ | refine stop_load 24 rfl ?_ | refine stop_store 24 rfl ?_ | refine stop_load 33 rfl ?_ | refine stop_store 33 rfl ?_)
      refine Stopped.go (wl_loadw rfl 33 _ rfl b24 rfl row_state (sstr B) _ q24 iB.out ?_)
      go_wp2_with (with_reducible first | refine stop_box rfl ?_ | refine stop_alloc rfl ?_ | refine stop_load 24 rfl ?_ | refine stop_store 24 rfl ?_ | refine stop_load 33 rfl ?_ | refine stop_store 33 rfl ?_)
      refine Stopped.go (wl_loadw rfl 33 _ rfl b13 rfl row_state (sstr B) _ q13 iB.out ?_)
      go_wp2_with (with_reducible first | refine stop_box rfl ?_ | refine stop_alloc rfl ?_ | refine stop_load 24 rfl ?_ | refine stop_store 24 rfl ?_ | refine stop_load 33 rfl ?_ | refine stop_store 33 rfl ?_)
      refine (same_any B B lB lB w35).mono ?_
      rintro e w36 ⟨rfl, f36⟩
      have fw36 := fw.trans f36 (by simp)

      rw [show (B == B) = true by simp]
      go_wp2_with fail
      all_goals
        go_ret
        exact ⟨rfl, fw36⟩

end Go.Proofs.YtchcmhodnkgojaaGreat
