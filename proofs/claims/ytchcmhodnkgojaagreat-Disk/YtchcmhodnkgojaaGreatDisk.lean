/- The disk in memory: what it holds, as plain data, and the contracts of its functions. -/
import Derived.Test.YtchcmhodnkgojaaGreatBase
import Derived.Lib.UnsafeStr
set_option linter.all false
namespace Go.Proofs.YtchcmhodnkgojaaGreat
open Go.RowKit Go.Lib

/-- A disk, as plain data: the bytes that last, what was written since the last flush, and the script. -/
structure DS where
  lasting : List UInt8
  waiting : List (Int × List UInt8)
  acts : Int
  given : Bool
  left : Int
  keep : Int
  failed : Bool

def wcells (p : Int × List UInt8) : List Value := .int .i64 p.1 :: byteCells p.2
def wscells (l : List (Int × List UInt8)) : List Value := l.flatMap wcells

/-- The struct's cells. -/
def dcells (bl n : Nat) (vw : Value) (x : DS) : Array Value :=
  #[.slice (some ⟨bl, 0, none⟩) n n, vw, .int .i64 x.acts, .bool x.given, .int .i64 x.left, .int .i64 x.keep, .bool x.failed]

theorem dcell {w : World} {d bl n : Nat} {vw : Value} {x : DS} {t : TypeId} (h : Row w d (dcells bl n vw x) t) :
    w.cell? ⟨d, 0, none⟩ = some (.slice (some ⟨bl, 0, none⟩) n n) ∧ w.cell? ⟨d, 1, none⟩ = some vw ∧ w.cell? ⟨d, 2, none⟩ = some (.int .i64 x.acts) ∧ w.cell? ⟨d, 3, none⟩ = some (.bool x.given) ∧
    w.cell? ⟨d, 4, none⟩ = some (.int .i64 x.left) ∧ w.cell? ⟨d, 5, none⟩ = some (.int .i64 x.keep) ∧ w.cell? ⟨d, 6, none⟩ = some (.bool x.failed) := by
  refine ⟨?_, ?_, ?_, ?_, ?_, ?_, ?_⟩ <;> rw [h.cell] <;> rfl

structure DiskIn (w : World) (d bl n : Nat) (vw : Value) (x : DS) : Prop where
  row : Row w d (dcells bl n vw x) 134
  last : Row w bl (byteCells x.lasting).toArray 148
  len : x.lasting.length = 64 * n
  own : w.ownsRow 0 240 65 vw x.waiting.length (wscells x.waiting)
  len64 : ∀ p ∈ x.waiting, p.2.length = 64
  within : ∀ p ∈ x.waiting, 0 ≤ p.1 ∧ p.1 < n
  lo : 16 ≤ n
  hi : n ≤ 400
  few : x.waiting.length ≤ 60
  ne : d ≠ bl
  ne1 : vw.ownBlock ≠ some d
  ne2 : vw.ownBlock ≠ some bl

theorem DiskIn.frm {w w' : World} {S : List Nat} {d bl n : Nat} {vw : Value} {x : DS} (h : DiskIn w d bl n vw x) (f : Frm S w w') (h1 : d ∉ S) (h2 : bl ∉ S) (h3 : ∀ k ∈ S, vw.ownBlock ≠ some k) : DiskIn w' d bl n vw x :=
  { h with row := f.row h.row h1, last := f.row h.last h2, own := f.owns h.own h3 }
theorem own_lt {w : World} {base : Nat} {e : TypeId} {size : Nat} {v : Value} {n : Nat} {xs : List Value} (h : w.ownsRow base e size v n xs) {k : Nat} (hk : v.ownBlock = some k) : k < w.heap.size := (h.lt k hk).2
/-- What lies behind all that there was touches nothing of the disk. -/
theorem DiskIn.new {w w' : World} {S : List Nat} {d bl n : Nat} {vw : Value} {x : DS} (h : DiskIn w d bl n vw x) (f : Frm S w w') (hS : ∀ k ∈ S, w.heap.size ≤ k) : DiskIn w' d bl n vw x := by
  have l1 := h.row.lt
  have l2 := h.last.lt
  exact h.frm f (fun hs => by have := hS _ hs; omega) (fun hs => by have := hS _ hs; omega) (fun k hk e => by have := hS _ hk; have := own_lt h.own e; omega)

/-- Another struct, over the same bytes and the same waiting writes. -/
theorem DiskIn.reset {w w' : World} {d bl n : Nat} {vw : Value} {x y : DS} (h : DiskIn w d bl n vw x) (f : Frm [d] w w') (hr : Row w' d (dcells bl n vw y) 134) (h1 : y.lasting = x.lasting) (h2 : y.waiting = x.waiting) : DiskIn w' d bl n vw y := by
  have hl := f.row h.last (by simpa using fun e => h.ne e.symm)
  have ho := f.owns h.own (by simpa using h.ne1)
  exact { row := hr, last := by rw [h1]; exact hl, len := by rw [h1]; exact h.len, own := by rw [h2]; exact ho, len64 := by rw [h2]; exact h.len64, within := by rw [h2]; exact h.within, lo := h.lo, hi := h.hi, few := by rw [h2]; exact h.few, ne := h.ne, ne1 := h.ne1, ne2 := h.ne2 }

/-- What a sector holds, whether that lasts or not. -/
def seenIn (lasting : List UInt8) (waiting : List (Int × List UInt8)) (s : Int) : List UInt8 :=
  waiting.foldl (fun b p => if p.1 = s then p.2 else b) ((lasting.drop (64 * s.toNat)).take 64)
def DS.read (x : DS) (s : Int) : List UInt8 := seenIn x.lasting x.waiting s

theorem length_byteCells (l : List UInt8) : (byteCells l).length = l.length := by simp [byteCells]
theorem byteCells_take (l : List UInt8) (n : Nat) : (byteCells l).take n = byteCells (l.take n) := by simp [byteCells, List.map_take]
theorem byteCells_drop (l : List UInt8) (n : Nat) : (byteCells l).drop n = byteCells (l.drop n) := by simp [byteCells, List.map_drop]
theorem byteCells_append (l m : List UInt8) : byteCells (l ++ m) = byteCells l ++ byteCells m := by simp [byteCells]
theorem byteCells_one (l : List UInt8) : ∀ v ∈ byteCells l, v.oneCell' = true := by
  intro v hv
  simp only [byteCells, List.mem_map] at hv
  obtain ⟨b, _, rfl⟩ := hv
  rfl

theorem length_wcells (p : Int × List UInt8) (h : p.2.length = 64) : (wcells p).length = 65 := by simp [wcells, byteCells, h]
theorem length_wscells : ∀ (l : List (Int × List UInt8)), (∀ p ∈ l, p.2.length = 64) → (wscells l).length = 65 * l.length
  | [], _ => rfl
  | p :: r, h => by
    have := length_wscells r fun q hq => h q (by simp [hq])
    simp only [wscells, List.flatMap_cons, List.length_append, List.length_cons] at this ⊢
    rw [length_wcells p (h p (by simp)), this]; omega
theorem wscells_drop : ∀ (l : List (Int × List UInt8)), (∀ p ∈ l, p.2.length = 64) → ∀ k, (wscells l).drop (k * 65) = wscells (l.drop k)
  | _, _, 0 => by simp
  | [], _, k + 1 => by simp [wscells]
  | p :: r, h, k + 1 => by
    have := wscells_drop r (fun q hq => h q (by simp [hq])) k
    simp only [wscells, List.flatMap_cons, List.drop_succ_cons] at this ⊢
    rw [List.drop_append, length_wcells p (h p (by simp)), List.drop_eq_nil_of_le (by rw [length_wcells p (h p (by simp))]; omega)]
    simpa [Nat.add_mul] using this
theorem wscells_at (l : List (Int × List UInt8)) (h : ∀ p ∈ l, p.2.length = 64) (k : Nat) (hk : k < l.length) : ((wscells l).drop (k * 65)).take 65 = wcells l[k] := by
  rw [wscells_drop l h k, List.drop_eq_getElem_cons hk]
  simp only [wscells, List.flatMap_cons]
  rw [List.take_append_of_le_length (by rw [length_wcells _ (h _ (List.getElem_mem hk))]; omega), List.take_of_length_le (by rw [length_wcells _ (h _ (List.getElem_mem hk))]; omega)]

theorem seenIn_snoc (la : List UInt8) (l : List (Int × List UInt8)) (s : Int) (k : Nat) (hk : k < l.length) :
    seenIn la (l.take (k + 1)) s = if l[k].1 = s then l[k].2 else seenIn la (l.take k) s := by
  unfold seenIn
  rw [List.take_succ_eq_append_getElem hk, List.foldl_append]
  rfl
theorem length_fold (s : Int) : ∀ (l : List (Int × List UInt8)) (b : List UInt8), b.length = 64 → (∀ p ∈ l, p.2.length = 64) → (l.foldl (fun b p => if p.1 = s then p.2 else b) b).length = 64
  | [], _, hb, _ => hb
  | p :: r, b, hb, h => by
    refine length_fold s r _ ?_ fun q hq => h q (by simp [hq])
    dsimp only
    split
    · exact h p (by simp)
    · exact hb
theorem length_seenIn (la : List UInt8) (s : Int) (h0 : 64 * s.toNat + 64 ≤ la.length) (l : List (Int × List UInt8)) (h : ∀ p ∈ l, p.2.length = 64) : (seenIn la l s).length = 64 :=
  length_fold s l _ (by simp; omega) h

end Go.Proofs.YtchcmhodnkgojaaGreat
