/- A region that draws its order, whose operations and callees leave all that was there as it was: one walk, in the order of the text. -/
import Derived.Test.YtchcmhodnkgojaaGreatBase
import Derived.Deep.Quiet
set_option linter.all false
namespace Go.Proofs.YtchcmhodnkgojaaGreat
open Go.RowKit

section
variable {P : Program} {ops : Array Oper} {Q : Act → Prop} {C : World → Prop} {a : Act} {rest : List Oper} {o : Oper}
theorem calm_val (hg : o.guard = none) (dst : Option Tmp) (hd : o.dst = dst) (v : Value) (hr : ∀ w', C w' → (execOp a.eval o).run P w' = .ok (.value v) w') (h : wpQuiet P ops C Q rest (a.put dst v)) : wpQuiet P ops C Q (o :: rest) a := by
  subst hd
  unfold wpQuiet
  rw [if_pos (by simp [Region.wanted, hg])]
  refine ⟨v, fun w' hw' => ?_, h⟩
  unfold Oper.quietAt
  rw [hr w' hw']
  exact ⟨rfl, rfl⟩
theorem calm_call (hg : o.guard = none) (dst : Option Tmp) (hd : o.dst = dst) (f : FuncId) (args : Array Value) (v : Value) (hr : ∀ w', C w' → (execOp a.eval o).run P w' = .ok (.enter f args) w')
    (hc : ∀ w', C w' → Calls P f args w' fun e w'' => e = .returned v ∧ C w'') (h : wpQuiet P ops C Q rest (a.put dst v)) : wpQuiet P ops C Q (o :: rest) a := by
  subst hd
  unfold wpQuiet
  rw [if_pos (by simp [Region.wanted, hg])]
  refine ⟨v, fun w' hw' => ?_, h⟩
  unfold Oper.quietAt
  rw [hr w' hw']
  exact ⟨rfl, hc w' hw'⟩
theorem calm_begin {id : Nat} {ops : Array Oper} {Q : Exit → Act → World → Prop} {w : World} (hm : P.follows .mixedOrders = true) (hB : Region.lexB .any ops = true)
    (h : wpQuiet P ops (fun w' => Frm [] w w') (fun a' => ∀ w', Frm [] w w' → Q .normal a' w') ops.toList a) : (Code.region id ops true).wp P Q a w :=
  wp_region_quiet (C := fun w' => Frm [] w w') hm hB (Frm.drew [] w) h
end

end Go.Proofs.YtchcmhodnkgojaaGreat
