/- Rows of attributes that are owned; appending one. -/
import Derived.Test.YtopkeembbopbmaaDoorVn
import Derived.Test.YtopkeembbopbmaaDoorApd
namespace Go.Proofs.YtopkeembbopbmaaDoor
open Go.RowKit
set_option maxRecDepth 100000
set_option linter.unusedVariables false

def cellsA : List (Int × Int) → List Value
  | [] => []
  | a :: r => .int .i64 a.1 :: .int .i64 a.2 :: cellsA r

theorem cellsA_append (l m : List (Int × Int)) : cellsA (l ++ m) = cellsA l ++ cellsA m := by
  induction l with
  | nil => rfl
  | cons x r ih => simp [cellsA, ih]

theorem cellsA_get (l : List (Int × Int)) (j : Nat) (h : j < l.length) : (cellsA l)[j * 2]? = some (.int .i64 (l[j]).1) ∧ (cellsA l)[j * 2 + 1]? = some (.int .i64 (l[j]).2) := by
  induction l generalizing j with
  | nil => simp at h
  | cons y r ih =>
    cases j with
    | zero => simp [cellsA]
    | succ j =>
      have e : (j + 1) * 2 = j * 2 + 2 := by omega
      rw [e]
      simp only [cellsA, List.getElem_cons_succ]
      exact ih j (by simpa using h)

/-- All blocks from B on. -/
def From (B : Nat) : Nat → Prop := fun b => B ≤ b

theorem own_form {w : World} {base size n : Nat} {e : TypeId} {v : Value} {xs : List Value} (h : w.ownsRow base e size v n xs) : (v = .slice none 0 0 ∧ n = 0) ∨ ∃ g cap, v = .slice (some ⟨g, 0, none⟩) n cap := by
  rcases h.2 with h | ⟨g, cap, cur, hv, r⟩
  · exact .inl h
  · exact .inr ⟨g, cap, hv⟩

/-- What is owned reads so. -/
theorem At.of_own {w : World} {base n cap : Nat} {ao : Option Addr} {al : List (Int × Int)} (h : w.ownsRow base 42 2 (.slice ao n cap) n (cellsA al)) (hn : n = al.length) (h1 : n ≤ 1000) : At w ao n al ∧ ∀ b off, ao = some ⟨b, off, .none⟩ → base ≤ b ∧ b < w.heap.size := by
  refine ⟨⟨hn, h1, fun h0 => ?_⟩, fun b off e => ?_⟩
  · rcases own_form h with ⟨_, h0'⟩ | ⟨g, cap', e⟩
    · omega
    · cases e
      refine ⟨g, 0, rfl, fun j hj => ?_⟩
      obtain ⟨e1, e2⟩ := cellsA_get al j (by omega)
      have ed : al.getD j (0, 0) = al[j]'(by omega) := by rw [List.getD_eq_getElem?_getD, List.getElem?_eq_getElem (by omega)]; rfl
      rw [ed, Nat.zero_add]
      exact ⟨(h.cellAt (j * 2) (by omega)).trans e1, (h.cellAt (j * 2 + 1) (by omega)).trans e2⟩
  · rcases own_form h with ⟨e', _⟩ | ⟨g, cap', e'⟩
    · cases e'; cases e
    · cases e'; cases e
      exact h.lt b rfl

/-- What is owned stays owned while blocks ahead of it turn. -/
theorem own_kept {P : Nat → Prop} {w w' : World} {base : Nat} {e : TypeId} {size : Nat} {v : Value} {n : Nat} {xs : List Value} (h : w.ownsRow base e size v n xs) (hk : Kept P w w') (hp : ∀ k, base ≤ k → P k) : w'.ownsRow base e size v n xs := by
  obtain ⟨h1, h2⟩ := h
  refine ⟨h1, ?_⟩
  rcases h2 with h2 | ⟨g, cap, cur, hv, hg, hh, r⟩
  · exact Or.inl h2
  · have hlt : g < w.heap.size := by
      by_cases hlt : g < w.heap.size
      · exact hlt
      · rw [Array.getElem?_eq_none (by omega)] at hh; cases hh
    exact Or.inr ⟨g, cap, cur, hv, hg, by rw [hk.block g hlt (hp g hg)]; exact hh, r⟩

theorem Tryd.info42 : (Tryd.prog.info? 42).map (fun i => (i.zero, i.size, i.bytes)) = some (some (.agg #[.int .i64 0, .int .i64 0]), 2, 16) := by kernel_rfl

/-- 'append(l, Attr{x, y})'. -/
theorem append_at (w : World) {ops : Array Oper} {rest : List Oper} {o : Oper} {a : Act} {Q : Exit → Act → World → Prop} (hgd : o.guard = none) (s x : Operand)
    (ho : o.op = .call { callee := .builtin .append, args := #[s, x], argTypes := #[24, 24] })
    (base : Nat) (v : Value) (n : Nat) (al : List (Int × Int)) (hs : a.eval s = v) (hown : w.ownsRow base 42 2 v n (cellsA al))
    (b : Nat) (d e : Int) (hx : a.eval x = .slice (some ⟨b, 0, none⟩) 1 1) (hd : w.cell? ⟨b, 0, none⟩ = some (.int .i64 d)) (he : w.cell? ⟨b, 1, none⟩ = some (.int .i64 e))
    (hb : n + 1 ≤ 100000) (hbase : base ≤ w.heap.size)
    (h : ∀ v' w', w'.ownsRow base 42 2 v' (n + 1) (cellsA (al ++ [(d, e)])) → w.grownBy w' v.ownBlock → wpList Tryd.prog ops Q rest (a.put o.dst v') w') : wpList Tryd.prog ops Q (o :: rest) a w := by
  obtain ⟨i0, hi, hz0, hz1, hz2⟩ := info_parts Tryd.info42
  refine wpList_append_own w hgd s x 24 ho base 42 i0 _ 2 16 Tryd.underlying24 hi hz0 hz1 hz2 rfl (by decide) v n _ hs hown ⟨b, 0, none⟩ 1 1 [.int .i64 d, .int .i64 e] hx rfl ?_ ?_ (by unfold maxLen; omega) (by omega) hbase (fun v' w' h1 h2 _ => h v' w' (by rw [cellsA_append]; exact h1) h2)
  · intro j u hj
    match j, hj with
    | 0, hj => simp at hj; subst hj; simpa [Addr.add] using hd
    | 1, hj => simp at hj; subst hj; simpa [Addr.add] using he
  · intro u hu
    simp at hu
    rcases hu with rfl | rfl <;> rfl

end Go.Proofs.YtopkeembbopbmaaDoor
