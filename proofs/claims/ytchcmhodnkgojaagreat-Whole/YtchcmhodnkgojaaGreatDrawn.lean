/- A region that draws its order: an operation that yields one and the same value in a whole class of worlds, and leaves each of them as it is, may be taken first wherever all that need not wait for it stays within the class. -/
import Derived.Test.YtchcmhodnkgojaaGreatBase
import Derived.Orders
set_option linter.all false
namespace Go.Proofs.YtchcmhodnkgojaaGreat
open Go.RowKit

/-- Whatever its operands hold, from a world of the class the operation comes to a world of the class (or stops). -/
def Keeps (P : Program) (C : World → Prop) (o : Oper) : Prop := ∀ ρ w, C w → match (execOp ρ o).run P w with
  | .ok (.value _) w' => C w'
  | .ok .skip w' => C w'
  | .ok _ _ => False
  | .halt _ _ => True

/-- In every world of the class one value comes of it, at once or by a call, and the world is as it was. -/
def Gives (P : Program) (C : World → Prop) (e : Sem Next) (v : Value) : Prop := ∀ w, C w → match e.run P w with
  | .ok (.value u) w' => u = v ∧ w' = w
  | .ok (.enter f args) w' => w' = w ∧ Calls P f args w (fun e x => e = .returned v ∧ x = w)
  | _ => False

section
variable {P : Program} {ops : Array Oper} {Q : Exit → Act → World → Prop} {md : Region.Mode} {C : World → Prop}

theorem Gives.wp {o : Oper} {a : Act} {v : Value} {w : World} {K : Act → World → Prop} (h : Gives P C (execOp a.eval o) v) (hC : C w) (hK : K (a.put o.dst v) w) : o.wp P a w K Q := by
  have := h w hC
  unfold Oper.wp
  cases hr : (execOp a.eval o).run P w with
  | ok n w' =>
    rw [hr] at this
    cases n <;> simp only [Oper.upon] at this ⊢
    case value u => obtain ⟨rfl, rfl⟩ := this; exact hK
    case enter f args =>
      obtain ⟨rfl, hc⟩ := this
      refine hc.mono ?_
      rintro e x ⟨rfl, rfl⟩
      exact hK
  | halt x w' => rw [hr] at this; exact this.elim
theorem Gives.val {e : Sem Next} {v : Value} (h : ∀ w, C w → e.run P w = .ok (.value v) w) : Gives P C e v := fun w hw => by
  rw [h w hw]
  exact ⟨rfl, rfl⟩

theorem any_first {i : Nat} {oi : Oper} {v : Value} (hi : ops[i]? = some oi) (hsel : ∀ (j : Nat) (o : Oper) cs b, ops[j]? = some o → o.op ≠ .select cs b)
    (hQ : ∀ c a w, Q (.panic c) (a.put oi.dst v) w → Q (.panic c) a w) :
    ∀ (fuel : Nat) (listed : Array Bool) (a : Act) (w : World),
      (∀ j oj, ops[j]? = some oj → j ≠ i → listed.getD j true = false → (∀ e ∈ oj.after, Region.binds md e = true → e.on ≠ i) → oi.apart ops oj = true ∧ Keeps P C oj) →
      i ∈ Region.ready md ops listed → Region.wanted oi (yielded ops a.tmps) = true → Gives P C (execOp a.eval oi) v → C w →
      wpAny P md ops Q fuel (listed.setIfInBounds i true) (a.put oi.dst v) w → wpAny P md ops Q (fuel + 1) listed a w := by
  intro fuel
  induction fuel with
  | zero =>
    intro listed a w _ hr hw hy hC H
    refine ⟨fun h => (by rw [h] at hr; cases hr), fun j hj => ?_⟩
    by_cases hji : j = i
    · subst hji
      unfold wpOp
      simp only [hi, hw, if_true]
      exact .inl (hy.wp hC H)
    · have := ready_mono hj hji
      rw [H.1] at this
      cases this
  | succ fuel ih =>
    intro listed a w hfree hr hw hy hC H
    refine ⟨fun h => (by rw [h] at hr; cases hr), fun j hj => ?_⟩
    by_cases hji : j = i
    · subst hji
      unfold wpOp
      simp only [hi, hw, if_true]
      exact .inl (hy.wp hC H)
    · have h1 := H.2 j (ready_mono hj hji)
      obtain ⟨hjun, oj, hoj, hall⟩ := mem_ready.1 hj
      have hnot : ∀ e ∈ oj.after, Region.binds md e = true → e.on ≠ i := fun e he hb heq => by
        have h1 := hall e he hb
        have h0 := (mem_ready.1 hr).1
        rw [heq] at h1
        rcases Nat.lt_or_ge i listed.size with h' | h'
        · simp [h'] at h0 h1; rw [h0] at h1; cases h1
        · simp [Array.getElem?_eq_none h'] at h1
      obtain ⟨hap, hkeep⟩ := hfree j oj hoj hji hjun hnot
      obtain ⟨s1, s2, s3⟩ := Oper.apart_spec hap
      have hfree' : ∀ k ok, ops[k]? = some ok → k ≠ i → (listed.setIfInBounds j true).getD k true = false →
          (∀ e ∈ ok.after, Region.binds md e = true → e.on ≠ i) → oi.apart ops ok = true ∧ Keeps P C ok := fun k ok hk hki hun hno => by
        refine hfree k ok hk hki ?_ hno
        by_cases hjk : j = k
        · subst hjk; exact hjun
        · rw [getD_set_ne true hjk] at hun; exact hun
      -- the rest, from whatever world of the class the operation j has come to
      have next : ∀ (u : Value) (w' : World), C w' → wpAny P md ops Q fuel ((listed.setIfInBounds i true).setIfInBounds j true) ((a.put oi.dst v).put oj.dst u) w' →
          wpAny P md ops Q (fuel + 1) (listed.setIfInBounds j true) (a.put oj.dst u) w' := fun u w' hC' h3 => by
        refine ih _ _ w' hfree' (ready_mono hr (Ne.symm hji)) ?_ ?_ hC' ?_
        · rw [wanted_put oi a oj.dst u s3]; exact hw
        · rw [execOp_put oi (fun cs b => hsel i oi cs b hi) a oj.dst u s3]; exact hy
        · rw [Array.setIfInBounds_comm _ _ hji, ← Act.put_comm a v u s2]; exact h3
      have hex := execOp_put oj (fun cs b => hsel j oj cs b hoj) a oi.dst v s1
      unfold wpOp at h1 ⊢
      simp only [hoj] at h1 ⊢
      rw [wanted_put oj a oi.dst v s1] at h1
      split
      · rename_i hwj
        simp only [hwj, if_true] at h1
        rcases h1 with h1 | ⟨h1, h2⟩
        · refine .inl ?_
          unfold Oper.wp at h1 ⊢
          rw [hex] at h1
          have hk := hkeep a.eval w hC
          generalize (execOp a.eval oj).run P w = r at h1 hk ⊢
          cases r with
          | ok n w' =>
            cases n <;> simp only [Oper.upon] at h1 hk ⊢
            case value u => exact next u w' hk h1
            case skip => exact next undef w' hk h1
          | halt x w' =>
            cases x <;> simp only [Oper.upon] at h1 ⊢
            case panic u => exact hQ _ _ _ h1
        · exact .inr ⟨by unfold Oper.asks at h1 ⊢; rw [hex] at h1; exact h1, h2⟩
      · rename_i hwj
        simp only [hwj] at h1
        exact next undef w hC h1

/-- What the operations that are still to come, and need not wait for number i, must keep. -/
def others (md : Region.Mode) (ops : Array Oper) (listed : Array Bool) (i : Nat) : List Oper :=
  (List.range ops.size).filterMap fun j => if j == i || listed.getD j true then none else match ops[j]? with
    | some oj => if oj.after.any (fun e => Region.binds md e && e.on == i) then none else some oj
    | none => none

theorem any_take {i : Nat} {oi : Oper} {v : Value} {fuel : Nat} {listed : Array Bool} {a : Act} {w : World} (C : World → Prop) (hi : ops[i]? = some oi)
    (hs : Region.noSelect ops = true) (hf : Region.free md ops listed i = true) (hr : (Region.ready md ops listed).contains i = true)
    (hQ : ∀ c a w, Q (.panic c) (a.put oi.dst v) w → Q (.panic c) a w) (hg : oi.guard = none) (hC : C w) (hy : Gives P C (execOp a.eval oi) v)
    (rs : List Oper) (ho : others md ops listed i = rs) (hk : ∀ o ∈ rs, Keeps P C o)
    (h : wpAny P md ops Q fuel (listed.setIfInBounds i true) (a.put oi.dst v) w) : wpAny P md ops Q (fuel + 1) listed a w := by
  refine any_first (C := C) hi (Region.noSelect_spec hs) hQ fuel listed a w (fun j oj hj hne hun hno => ⟨Region.free_spec hi hf j oj hj hne hun hno, hk oj ?_⟩) (by simpa using hr) (by simp [Region.wanted, hg]) hy hC h
  rw [← ho]
  unfold others
  rw [List.mem_filterMap]
  refine ⟨j, List.mem_range.2 (Array.getElem?_eq_some_iff.1 hj).1, ?_⟩
  rw [if_neg (by simp only [Bool.or_eq_true, beq_iff_eq, hun, or_false, Bool.false_eq_true]; exact hne)]
  simp only [hj]
  rw [if_neg]
  intro hany
  obtain ⟨e, he, hb⟩ := Array.any_eq_true'.1 hany
  simp only [Bool.and_eq_true, beq_iff_eq] at hb
  exact hno e he hb.1 hb.2

/-- Where one operation alone may come up, it comes up. -/
theorem any_one {i : Nat} {oi : Oper} {fuel : Nat} {listed : Array Bool} {a : Act} {w : World} (hr : Region.ready md ops listed = [i]) (hi : ops[i]? = some oi) (hg : oi.guard = none)
    (h : ∀ K : Act → World → Prop, (∀ a w, wpAny P md ops Q fuel (listed.setIfInBounds i true) a w → K a w) → oi.wp P a w K Q) : wpAny P md ops Q (fuel + 1) listed a w :=
  wpAny_all hr (by simp) fun j hj => by
    obtain rfl : j = i := by simpa using hj
    unfold wpOp
    simp only [hi]
    rw [if_pos (by simp [Region.wanted, hg])]
    exact .inl (h _ fun _ _ x => x)
theorem any_val {i : Nat} {oi : Oper} {fuel : Nat} {listed : Array Bool} {a : Act} {w : World} (hr : Region.ready md ops listed = [i]) (hi : ops[i]? = some oi) (hg : oi.guard = none)
    (v : Value) (w1 : World) (hrun : (execOp a.eval oi).run P w = .ok (.value v) w1) (h : wpAny P md ops Q fuel (listed.setIfInBounds i true) (a.put oi.dst v) w1) : wpAny P md ops Q (fuel + 1) listed a w :=
  any_one hr hi hg fun K hK => by
    unfold Oper.wp
    rw [hrun]
    exact hK _ _ h
theorem any_skip {i : Nat} {oi : Oper} {fuel : Nat} {listed : Array Bool} {a : Act} {w : World} (hr : Region.ready md ops listed = [i]) (hi : ops[i]? = some oi) (hg : oi.guard = none)
    (w1 : World) (hrun : (execOp a.eval oi).run P w = .ok .skip w1) (h : wpAny P md ops Q fuel (listed.setIfInBounds i true) (a.put oi.dst undef) w1) : wpAny P md ops Q (fuel + 1) listed a w :=
  any_one hr hi hg fun K hK => by
    unfold Oper.wp
    rw [hrun]
    exact hK _ _ h

end

/-! ### Operations that keep a class -/
/-- A class that lets new blocks by. -/
structure Lets (C : World → Prop) : Prop where
  alloc : ∀ w o, C w → C (w.alloc o)
  drew : ∀ w, C w → C w.drew

/-- The same, of a piece of a run. -/
def KeepsS {α : Type} (P : Program) (C : World → Prop) (e : Sem α) : Prop := ∀ w, C w → match e.run P w with
  | .ok _ w' => C w'
  | .halt _ _ => True

section
variable {P : Program} {C : World → Prop} {α β : Type}
theorem KeepsS.pure (a : α) : KeepsS P C (Pure.pure a : Sem α) := fun _ h => h
theorem KeepsS.halt (x : Halt) : KeepsS P C (Sem.halt x : Sem α) := fun _ _ => trivial
theorem KeepsS.stuck (x : String) : KeepsS P C (stuck x : Sem α) := fun _ _ => trivial
theorem KeepsS.bind {e : Sem α} {f : α → Sem β} (h : KeepsS P C e) (k : ∀ a, KeepsS P C (f a)) : KeepsS P C (e >>= f) := fun w hw => by
  have := h w hw
  rw [Sem.run_bind]
  cases hr : e.run P w with
  | ok a w' => rw [hr] at this; exact k a w' this
  | halt x w' => trivial
theorem KeepsS.map {e : Sem α} {f : α → β} (h : KeepsS P C e) : KeepsS P C (Functor.map f e) := fun w hw => by
  have := h w hw
  rw [Sem.run_map]
  cases hr : e.run P w with
  | ok a w' => rw [hr] at this; exact this
  | halt x w' => trivial
theorem KeepsS.ite {c : Prop} [Decidable c] {x y : Sem α} (h : KeepsS P C x) (k : KeepsS P C y) : KeepsS P C (if c then x else y) := by split <;> assumption
theorem KeepsS.typeInfo (t : TypeId) : KeepsS P C (typeInfo t) := fun w hw => by
  simp only [Go.typeInfo, Sem.run_bind, run_program, Result.andThen_ok]
  cases P.info? t with
  | none => trivial
  | some i => exact hw
theorem KeepsS.underlying (t : TypeId) : KeepsS P C (underlying t) := fun w hw => by
  simp only [Go.underlying, Sem.run_bind, run_program, Result.andThen_ok]
  cases P.underlying t with
  | none => trivial
  | some i => exact hw
theorem KeepsS.sizeOf (t : TypeId) : KeepsS P C (sizeOf t) := (KeepsS.typeInfo t).bind fun _ => KeepsS.pure _
theorem KeepsS.zeroValue (t : TypeId) : KeepsS P C (zeroValue t) := (KeepsS.typeInfo t).bind fun i => by
  cases i.zero with
  | none => exact fun _ _ => trivial
  | some v => exact KeepsS.pure _
theorem KeepsS.isAgg (t : TypeId) : KeepsS P C (isAgg t) := (KeepsS.underlying t).bind fun d => by
  cases d <;> exact KeepsS.pure _
theorem KeepsS.load (a : Addr) : KeepsS P C (load a) := fun w hw => by
  unfold Go.load
  simp only [Sem.run]
  cases w.cell? a with
  | some v => exact hw
  | none =>
    simp only
    cases w.farLoad P a (Mode.plain == Mode.atomic) with
    | ok r => exact hw
    | error h => trivial
theorem KeepsS.loadCellsFrom (a : Addr) : ∀ (n i : Nat) (acc : Array Value), KeepsS P C (loadCellsFrom a i n acc)
  | 0, _, _ => KeepsS.pure _
  | n + 1, i, _ => (KeepsS.load _).bind fun _ => KeepsS.loadCellsFrom a n (i + 1) _
theorem KeepsS.loadVar (t : TypeId) (a : Addr) : KeepsS P C (loadVar t a) := (KeepsS.isAgg t).bind fun b => by
  cases b with
  | true => exact (KeepsS.sizeOf t).bind fun n => (KeepsS.loadCellsFrom a n 0 #[]).bind fun _ => KeepsS.pure _
  | false => exact KeepsS.load a
theorem KeepsS.sureAddr (v : Value) : KeepsS P C (Instr.sureAddr v) := by
  unfold Instr.sureAddr
  split
  · exact KeepsS.pure _
  · exact KeepsS.stuck _
theorem KeepsS.loadAt (t : TypeId) (v : Value) : KeepsS P C (Instr.loadAt t v) := (KeepsS.sureAddr v).bind fun a => KeepsS.loadVar t a
theorem KeepsS.newRow (hC : Lets C) (t : TypeId) (cs : Array Value) : KeepsS P C (newRow t cs) := fun w hw => by
  simp only [Go.newRow, Sem.run_bind, run_newObj_alloc, Result.andThen_ok]
  exact hC.alloc w _ hw
theorem KeepsS.mapM {f : α → Sem β} (h : ∀ a, KeepsS P C (f a)) : ∀ (l : List α), KeepsS P C (l.mapM f)
  | [] => by simp only [List.mapM_nil]; exact KeepsS.pure _
  | a :: r => by simp only [List.mapM_cons]; exact (h a).bind fun _ => (KeepsS.mapM h r).bind fun _ => KeepsS.pure _
theorem KeepsS.mapMA {f : α → Sem β} (h : ∀ a, KeepsS P C (f a)) (l : Array α) : KeepsS P C (l.mapM f) := by
  rw [Array.mapM_eq_mapM_toList]
  exact KeepsS.map (KeepsS.mapM h _)
theorem KeepsS.build (t : TypeId) (parts : Array (Nat × Value)) : KeepsS P C (Instr.build t parts) := by
  refine (KeepsS.zeroValue t).bind fun z => (KeepsS.underlying t).bind fun d => ?_
  cases d <;> try exact KeepsS.stuck _
  case array n e =>
    refine (KeepsS.sizeOf e).bind fun s => ?_
    split
    · exact KeepsS.pure _
    · exact KeepsS.stuck _
  case struct fs =>
    have hp : KeepsS P C (fs.mapM fun f => (do Pure.pure (f.offset, ← Go.sizeOf f.type) : Sem (Nat × Nat))) := KeepsS.mapMA (fun f => (KeepsS.sizeOf f.type).bind fun _ => KeepsS.pure _) fs
    refine KeepsS.bind hp fun places => ?_
    split
    · exact KeepsS.pure _
    · exact KeepsS.stuck _
theorem KeepsS.buildSlice (hC : Lets C) (t : TypeId) (n : Nat) (parts : Array (Nat × Value)) : KeepsS P C (Instr.buildSlice t n parts) := by
  refine (KeepsS.underlying t).bind fun d => ?_
  cases d <;> try exact KeepsS.stuck _
  case slice e =>
    refine (KeepsS.sizeOf e).bind fun s => ?_
    have tail : ∀ zero : Array Value, KeepsS P C (match Instr.fill (fun i => some (i * s, s)) ((Array.range (n * s)).map (zero[· % zero.size]!)) parts.toList with
        | some cells => (do Pure.pure (Value.slice (some (← Go.newRow e cells)) n n) : Sem Value)
        | _ => Go.stuck "buildSlice: a part of the wrong size") := fun zero => by
      split
      · exact (KeepsS.newRow hC _ _).bind fun _ => KeepsS.pure _
      · exact KeepsS.stuck _
    dsimp only
    split
    · exact fun _ _ => trivial
    · split
      · exact (KeepsS.pure _).bind fun z => tail z
      · exact (KeepsS.zeroValue e).bind fun v => (KeepsS.pure v.cells).bind fun z => tail z

/-- What never comes to a value keeps every class. -/
def Never {α : Type} (P : Program) (e : Sem α) : Prop := ∀ w v w', e.run P w ≠ .ok v w'
theorem Never.keeps {e : Sem α} (h : Never P e) : KeepsS P C e := fun w _ => by
  cases hr : e.run P w with
  | ok a w' => exact absurd hr (h w a w')
  | halt x w' => trivial
theorem Never.halt (x : Halt) : Never P (Sem.halt x : Sem α) := fun _ _ _ h => by cases h
theorem Never.bind {e : Sem α} {f : α → Sem β} (h : ∀ a, Never P (f a)) : Never P (e >>= f) := fun w v w' hr => by
  rw [Sem.run_bind] at hr
  cases he : e.run P w with
  | ok a w1 => rw [he] at hr; exact h a w1 v w' hr
  | halt x w1 => rw [he] at hr; cases hr
theorem Never.runtimePanic (x : RuntimeError) : Never P (runtimePanic x : Sem α) := by
  refine Never.bind fun p => ?_
  cases x <;> first | exact Never.halt _ | exact Never.bind fun _ => Never.bind fun _ => Never.halt _
theorem Never.boundsPanic (k : IntKind) (x y : Int) (c : BoundsCode) : Never P (boundsPanic k x y c : Sem α) := by
  have h : ∀ s, Never P (Go.runtimePanic (.bounds (IntKind.i64.wrap x) y s c) : Sem α) := fun s => Never.runtimePanic _
  unfold Go.boundsPanic
  unfold Go.runtimePanic at h ⊢
  dsimp only
  split
  · exact Never.bind h
  · exact Never.bind h
theorem KeepsS.asIntOf (v : Value) : KeepsS P C (asIntOf v) := by
  unfold Go.asIntOf
  split <;> first | exact KeepsS.pure _ | exact KeepsS.halt _
theorem KeepsS.sliceBound (v : Value) (y : Nat) (c : BoundsCode) : KeepsS P C (Instr.sliceBound v y c) := by
  refine (KeepsS.asIntOf v).bind fun x => ?_
  dsimp only
  split
  · exact KeepsS.pure _
  · exact (Never.boundsPanic _ _ _ _).keeps
theorem KeepsS.sliceBounds (b : Bool) (l c : Nat) (x y z : Option Value) : KeepsS P C (Instr.sliceBounds b l c x y z) := by
  unfold Instr.sliceBounds
  dsimp only
  (repeat' first | exact KeepsS.pure _ | exact KeepsS.sliceBound _ _ _ | exact KeepsS.stuck _ | (refine KeepsS.bind ?_ fun _ => ?_) | split)
theorem KeepsS.asAddr (v : Value) : KeepsS P C (asAddr v) := by
  unfold Go.asAddr
  (repeat' first | exact KeepsS.pure _ | exact KeepsS.stuck _ | exact KeepsS.halt _ | exact (Never.runtimePanic _).keeps | split)
theorem KeepsS.sliceI (t : TypeId) (v : Value) (x y z : Option Value) : KeepsS P C (Instr.slice t v x y z) := by
  refine (KeepsS.underlying t).bind fun d => ?_
  (repeat' first | exact KeepsS.pure _ | exact KeepsS.stuck _ | exact KeepsS.asAddr _ | exact KeepsS.sliceBounds _ _ _ _ _ _ | exact KeepsS.sizeOf _ | exact KeepsS.underlying _ | (refine KeepsS.bind ?_ fun _ => ?_) | split)
theorem KeepsS.sliceAt (t : TypeId) (v : Value) (x y z : Option Value) : KeepsS P C (Instr.sliceAt t v x y z) := by
  refine (KeepsS.underlying t).bind fun d => ?_
  (repeat' first | exact KeepsS.pure _ | exact KeepsS.sliceI _ _ _ _ _ | exact KeepsS.stuck _ | exact KeepsS.sureAddr _ | exact KeepsS.sliceBounds _ _ _ _ _ _ | exact KeepsS.sizeOf _ | (refine KeepsS.bind ?_ fun _ => ?_) | split)
theorem KeepsS.indexAt (t : TypeId) (x i : Value) : KeepsS P C (Instr.indexAt t x i) := by
  refine (KeepsS.asIntOf i).bind fun k => ?_
  refine (KeepsS.underlying t).bind fun d => ?_
  (repeat' first | exact KeepsS.pure _ | exact KeepsS.stuck _ | exact KeepsS.halt _ | exact KeepsS.sureAddr _ | exact (Never.boundsPanic _ _ _ _).keeps | exact KeepsS.sizeOf _ | exact KeepsS.underlying _ | (refine KeepsS.bind ?_ fun _ => ?_) | split | (dsimp only; split))

theorem Keeps.of_value {o : Oper} (s : (Operand → Value) → Sem Value) (ho : ∀ ρ, execOp ρ o = (do pure (Next.value (← s ρ)))) (h : ∀ ρ, KeepsS P C (s ρ)) : Keeps P C o := fun ρ w hw => by
  have := h ρ w hw
  rw [ho, Sem.run_bind]
  cases hr : (s ρ).run P w with
  | ok a w' => rw [hr] at this; exact this
  | halt x w' => trivial
theorem Keeps.load {o : Oper} {t : TypeId} {x : Operand} (ho : o.op = .load t x) : Keeps P C o := .of_value (fun ρ => Instr.loadAt t (ρ x)) (fun ρ => by simp only [execOp, ho]) (fun _ => KeepsS.loadAt _ _)
theorem Keeps.build {o : Oper} {t : TypeId} {ps : Array (Nat × Operand)} (ho : o.op = .build t ps) : Keeps P C o := .of_value (fun ρ => Instr.build t (ps.map fun (i, x) => (i, ρ x))) (fun ρ => by simp only [execOp, ho]) (fun _ => KeepsS.build _ _)
theorem Keeps.buildSlice (hC : Lets C) {o : Oper} {t : TypeId} {n : Nat} {ps : Array (Nat × Operand)} (ho : o.op = .buildSlice t n ps) : Keeps P C o := .of_value (fun ρ => Instr.buildSlice t n (ps.map fun (i, x) => (i, ρ x))) (fun ρ => by simp only [execOp, ho]) (fun _ => KeepsS.buildSlice hC _ _ _)
theorem Keeps.indexAddr {o : Oper} {t : TypeId} {x i : Operand} (ho : o.op = .indexAddr t x i) : Keeps P C o := .of_value (fun ρ => Instr.indexAt t (ρ x) (ρ i)) (fun ρ => by simp only [execOp, ho]) (fun _ => KeepsS.indexAt _ _ _)
theorem Keeps.slice {o : Oper} {t : TypeId} {x : Operand} {l h m : Option Operand} (ho : o.op = .slice t x l h m) : Keeps P C o := .of_value (fun ρ => Instr.sliceAt t (ρ x) (l.map ρ) (h.map ρ) (m.map ρ)) (fun ρ => by simp only [execOp, ho]) (fun _ => KeepsS.sliceAt _ _ _ _ _)
/-- Conversions of bytes to a string, and among integers. -/
def Plain (P : Program) (src dst : TypeId) : Bool := match P.underlying src, P.underlying dst with
  | some (.slice e), some .string => match P.underlying e with | some (.int .u8) => true | _ => false
  | some (.int _), some (.int _) => true
  | _, _ => false
theorem KeepsS.forInL {γ : Type} {f : γ → β → Sem (ForInStep β)} (h : ∀ a s, KeepsS P C (f a s)) : ∀ (l : List γ) (s : β), KeepsS P C (forIn l s f)
  | [], s => by rw [List.forIn_nil]; exact KeepsS.pure _
  | a :: r, s => by
    rw [List.forIn_cons]
    refine (h a s).bind fun x => ?_
    cases x with
    | done b => exact KeepsS.pure _
    | yield b => exact KeepsS.forInL h r b
theorem KeepsS.bytesToString (x : Value) : KeepsS P C (Conv.bytesToString x) := by
  unfold Conv.bytesToString
  split
  · exact KeepsS.pure _
  · refine KeepsS.bind (KeepsS.loadCellsFrom _ _ _ _) fun cs => ?_
    refine KeepsS.bind ?_ fun _ => KeepsS.pure _
    rw [← Array.forIn_toList]
    refine KeepsS.forInL (fun a s => ?_) _ _
    split
    · exact KeepsS.pure _
    · exact (KeepsS.stuck _).bind fun _ => KeepsS.pure _
  · exact KeepsS.stuck _
theorem KeepsS.choose (hC : Lets C) (q : Question) : KeepsS P C (choose q) := fun w hw => by
  unfold Go.choose
  simp only [Sem.run]
  by_cases hq : q.forced = true
  · simp only [hq, if_true]; exact hw
  · simp only [hq]; exact hC.drew w hw
theorem KeepsS.floatToInt (hC : Lets C) (k : FloatKind) (b : Nat) (d : IntKind) : KeepsS P C (Conv.floatToInt k b d) := by
  unfold Conv.floatToInt
  dsimp only
  split
  · split
    · exact KeepsS.pure _
    · exact (KeepsS.choose hC _).bind fun _ => KeepsS.pure _
  · exact (KeepsS.choose hC _).bind fun _ => KeepsS.pure _
theorem Keeps.convert (hC : Lets C) {o : Oper} {src dst : TypeId} {x : Operand} (hp : Plain P src dst = true) (ho : o.op = .convert src dst x) : Keeps P C o := by
  refine .of_value (fun ρ => Go.convert src dst (ρ x)) (fun ρ => by simp only [execOp, ho]) (fun ρ => ?_)
  intro w hw
  unfold Plain at hp
  split at hp
  · rename_i e h1 h2
    split at hp
    · rename_i h3
      simp only [Go.convert, Sem.run_bind, run_underlying h1, run_underlying h2, Result.andThen_ok]
      have hb := KeepsS.bytesToString (P := P) (C := C) (ρ x) w hw
      cases hx : ρ x <;> rw [hx] at hb <;> first | exact hw | (simp only [Sem.run_bind, run_underlying h3, Result.andThen_ok]; exact hb)
    · cases hp
  · rename_i k1 k2 h1 h2
    simp only [Go.convert, Sem.run_bind, run_underlying h1, run_underlying h2, Result.andThen_ok]
    cases hx : ρ x <;> first | exact hw | exact trivial | exact KeepsS.floatToInt hC _ _ _ w hw | skip
    case pointer ad => cases ad <;> exact trivial
  · cases hp
theorem Keeps.move {o : Oper} {x : Operand} (ho : o.op = .move x ∨ o.op = .assign x) : Keeps P C o := fun ρ w hw => by
  rcases ho with ho | ho <;> simp only [execOp, ho] <;> exact hw

/-- Operations that keep every class that lets new blocks and draws by. -/
def tame (P : Program) (o : Oper) : Bool := match o.op with
  | .load .. | .build .. | .buildSlice .. | .move _ | .assign _ | .indexAddr .. | .slice .. => true
  | .convert src dst _ => Plain P src dst
  | _ => false
theorem Keeps.tame (hC : Lets C) {o : Oper} (h : tame P o = true) : Keeps P C o := by
  cases ho : o.op <;> simp only [Go.Proofs.YtchcmhodnkgojaaGreat.tame, ho] at h <;> first | (cases h; done) | exact Keeps.load ho | exact Keeps.build ho | exact Keeps.buildSlice hC ho | exact Keeps.move (.inl ho) | exact Keeps.move (.inr ho) | exact Keeps.indexAddr ho | exact Keeps.slice ho | exact Keeps.convert hC h ho
end

section
variable {P : Program} {ops : Array Oper} {Q : Exit → Act → World → Prop} {md : Region.Mode}
theorem any_tame {i : Nat} {oi : Oper} {v : Value} {fuel : Nat} {listed : Array Bool} {a : Act} {w : World} (C : World → Prop) (hl : Lets C) (hC : C w) (hi : ops[i]? = some oi)
    (hs : Region.noSelect ops = true) (hf : Region.free md ops listed i = true) (hr : (Region.ready md ops listed).contains i = true)
    (hQ : ∀ c a w, Q (.panic c) (a.put oi.dst v) w → Q (.panic c) a w) (hg : oi.guard = none) (hk : (others md ops listed i).all (tame P) = true) (hy : ∀ w, C w → (execOp a.eval oi).run P w = .ok (.value v) w)
    (h : wpAny P md ops Q fuel (listed.setIfInBounds i true) (a.put oi.dst v) w) : wpAny P md ops Q (fuel + 1) listed a w :=
  any_take C hi hs hf hr hQ hg hC (Gives.val hy) _ rfl (fun o ho => Keeps.tame hl (List.all_eq_true.1 hk o ho)) h
theorem any_pure {i : Nat} {oi : Oper} {v : Value} {fuel : Nat} {listed : Array Bool} {a : Act} {w : World} (hi : ops[i]? = some oi)
    (hs : Region.noSelect ops = true) (hf : Region.free md ops listed i = true) (hr : (Region.ready md ops listed).contains i = true)
    (hQ : ∀ c a w, Q (.panic c) (a.put oi.dst v) w → Q (.panic c) a w) (hg : oi.guard = none) (hy : ∀ w, (execOp a.eval oi).run P w = .ok (.value v) w)
    (h : wpAny P md ops Q fuel (listed.setIfInBounds i true) (a.put oi.dst v) w) : wpAny P md ops Q (fuel + 1) listed a w :=
  wpAny_take hi hs hf hr hQ (.inl ⟨by simp [Region.wanted, hg], hy⟩) h

/-! ### The operations taken in the order of the text -/
def upto (n k : Nat) : Array Bool := ((List.range n).map fun j => decide (j < k)).toArray
theorem upto_set (n k : Nat) (_h : k < n) : (upto n k).setIfInBounds k true = upto n (k + 1) := by
  apply Array.ext_getElem?
  intro i
  simp only [upto, Array.getElem?_setIfInBounds, List.size_toArray, List.length_map, List.length_range, List.getElem?_toArray, List.getElem?_map]
  by_cases hi : k = i
  · subst hi; simp [_h]
  · simp only [hi, if_false]
    rcases Nat.lt_or_ge i n with h' | h'
    · simp only [List.getElem?_range h', Option.map_some, Option.some.injEq, decide_eq_decide]; omega
    · simp [h']

/-- The first k operations have come up; n there are. -/
def At (P : Program) (ops : Array Oper) (Q : Exit → Act → World → Prop) (n k : Nat) (a : Act) (w : World) : Prop := wpAny P .any ops Q (n - k) (upto n k) a w

theorem at_begin {id : Nat} {a : Act} {w : World} (n : Nat) (hm : P.follows .mixedOrders = true) (hn : ops.size = n) (h : At P ops Q n 0 a w.drew) : (Code.region id ops true).wp P Q a w := by
  refine wp_region_any hm ?_
  rw [hn]
  have e : Array.replicate n false = upto n 0 := by
    apply Array.ext_getElem?
    intro i
    rcases Nat.lt_or_ge i n with h' | h'
    · simp [upto, h']
    · simp [upto, h']
  rw [e]
  exact h
theorem At.step {n k : Nat} {a : Act} {w : World} (hk : k < n) (h : wpAny P .any ops Q ((n - (k + 1)) + 1) (upto n k) a w) : At P ops Q n k a w := by
  unfold At
  rw [show n - k = (n - (k + 1)) + 1 by omega]
  exact h
theorem at_pure {n : Nat} (k : Nat) {oi : Oper} {v : Value} {a : Act} {w : World} (hk : k < n) (dst : Option Tmp) (hi : ops[k]? = some oi) (hd : oi.dst = dst)
    (hs : Region.noSelect ops = true) (hf : Region.free .any ops (upto n k) k = true) (hr : (Region.ready .any ops (upto n k)).contains k = true)
    (hQ : ∀ c a w, Q (.panic c) (a.put oi.dst v) w → Q (.panic c) a w) (hg : oi.guard = none) (hy : ∀ w, (execOp a.eval oi).run P w = .ok (.value v) w)
    (h : At P ops Q n (k + 1) (a.put dst v) w) : At P ops Q n k a w :=
  .step hk (any_pure hi hs hf hr hQ hg hy (by rw [upto_set n k hk, hd]; exact h))
theorem at_tame {n : Nat} (k : Nat) {oi : Oper} {v : Value} {a : Act} {w : World} (C : World → Prop) (hl : Lets C) (hC : C w) (hk : k < n) (dst : Option Tmp) (hi : ops[k]? = some oi) (hd : oi.dst = dst)
    (hs : Region.noSelect ops = true) (hf : Region.free .any ops (upto n k) k = true) (hr : (Region.ready .any ops (upto n k)).contains k = true)
    (hQ : ∀ c a w, Q (.panic c) (a.put oi.dst v) w → Q (.panic c) a w) (hg : oi.guard = none) (ht : (others .any ops (upto n k) k).all (tame P) = true) (hy : ∀ w, C w → (execOp a.eval oi).run P w = .ok (.value v) w)
    (h : At P ops Q n (k + 1) (a.put dst v) w) : At P ops Q n k a w :=
  .step hk (any_tame C hl hC hi hs hf hr hQ hg ht hy (by rw [upto_set n k hk, hd]; exact h))
theorem at_call {n : Nat} (k : Nat) {oi : Oper} {a : Act} {w : World} (C : World → Prop) (hl : Lets C) (hC : C w) (hk : k < n) (dst : Option Tmp) (hi : ops[k]? = some oi) (hd : oi.dst = dst)
    (hs : Region.noSelect ops = true) (hf : Region.free .any ops (upto n k) k = true) (hr : (Region.ready .any ops (upto n k)).contains k = true)
    (hg : oi.guard = none) (ht : (others .any ops (upto n k) k).all (tame P) = true) (f : FuncId) (args : Array Value) (v : Value) (hQ : ∀ c a w, Q (.panic c) (a.put oi.dst v) w → Q (.panic c) a w)
    (hx : ∀ w, (execOp a.eval oi).run P w = .ok (.enter f args) w) (hc : ∀ w, C w → Calls P f args w fun e x => e = .returned v ∧ x = w)
    (h : At P ops Q n (k + 1) (a.put dst v) w) : At P ops Q n k a w :=
  .step hk (any_take C hi hs hf hr hQ hg hC (fun w hw => by rw [hx w]; exact ⟨rfl, hc w hw⟩) _ rfl (fun o ho => Keeps.tame hl (List.all_eq_true.1 ht o ho)) (by rw [upto_set n k hk, hd]; exact h))
theorem at_one {n : Nat} (k : Nat) {oi : Oper} {a : Act} {w : World} (hk : k < n) (hi : ops[k]? = some oi) (hr : Region.ready .any ops (upto n k) = [k]) (hg : oi.guard = none)
    (h : ∀ K : Act → World → Prop, (∀ a w, At P ops Q n (k + 1) a w → K a w) → oi.wp P a w K Q) : At P ops Q n k a w :=
  .step hk (any_one hr hi hg fun K hK => h K fun a w x => hK a w (by rw [upto_set n k hk]; exact x))
theorem at_val {n : Nat} (k : Nat) {oi : Oper} {a : Act} {w : World} (hk : k < n) (dst : Option Tmp) (hi : ops[k]? = some oi) (hd : oi.dst = dst) (hr : Region.ready .any ops (upto n k) = [k]) (hg : oi.guard = none)
    (v : Value) (w1 : World) (hrun : (execOp a.eval oi).run P w = .ok (.value v) w1) (h : At P ops Q n (k + 1) (a.put dst v) w1) : At P ops Q n k a w :=
  .step hk (any_val hr hi hg v w1 hrun (by rw [upto_set n k hk, hd]; exact h))
theorem at_skip {n : Nat} (k : Nat) {oi : Oper} {a : Act} {w : World} (hk : k < n) (dst : Option Tmp) (hi : ops[k]? = some oi) (hd : oi.dst = dst) (hr : Region.ready .any ops (upto n k) = [k]) (hg : oi.guard = none)
    (w1 : World) (hrun : (execOp a.eval oi).run P w = .ok .skip w1) (h : At P ops Q n (k + 1) (a.put dst undef) w1) : At P ops Q n k a w :=
  .step hk (any_skip hr hi hg w1 hrun (by rw [upto_set n k hk, hd]; exact h))
theorem at_done {n : Nat} {a : Act} {w : World} (hr : Region.ready .any ops (upto n n) = []) (h : Q .normal a w) : At P ops Q n n a w := wpAny_done hr h _
end

end Go.Proofs.YtchcmhodnkgojaaGreat
