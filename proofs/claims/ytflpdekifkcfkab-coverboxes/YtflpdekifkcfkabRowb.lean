/- Rows of boxes in memory. -/
import Derived.Test.YtflpdekifkcfkabTb
import Derived.Test.YtflpdekifkcfkabBval
namespace Go.Proofs.Ytflpdekifkcfkab
open Go.RowKit
set_option linter.unusedVariables false

/-- A box and where its Nots lie. -/
abbrev El := Ev.Bx × Option Addr × Nat

/-- A box's fourteen cells. -/
def bcells (e : El) : List Value :=
  [.int .i64 (e.1.s 0).how, .int .i64 (e.1.s 0).lo, .int .i64 (e.1.s 0).hi, .int .i64 (e.1.s 1).how, .int .i64 (e.1.s 1).lo, .int .i64 (e.1.s 1).hi,
   .int .i64 (e.1.s 2).how, .int .i64 (e.1.s 2).lo, .int .i64 (e.1.s 2).hi, .int .i64 (e.1.s 3).how, .int .i64 (e.1.s 3).lo, .int .i64 (e.1.s 3).hi,
   .string e.1.tag, .slice e.2.1 e.1.nots.length e.2.2]

theorem bcells_len (e : El) : (bcells e).length = 14 := rfl

def cellsB (l : List El) : List Value := l.flatMap bcells

theorem cellsB_append (l m : List El) : cellsB (l ++ m) = cellsB l ++ cellsB m := by simp [cellsB]

theorem cellsB_len (l : List El) : (cellsB l).length = l.length * 14 := by
  induction l with
  | nil => rfl
  | cons e r ih =>
    show (bcells e ++ cellsB r).length = _
    rw [List.length_append, bcells_len, ih, List.length_cons]; omega

theorem cellsB_get (l : List El) (j : Nat) (h : j < l.length) (i : Nat) (hi : i < 14) : (cellsB l)[j * 14 + i]? = (bcells l[j])[i]? := by
  induction l generalizing j with
  | nil => simp at h
  | cons e r ih =>
    show (bcells e ++ cellsB r)[j * 14 + i]? = _
    cases j with
    | zero => rw [List.getElem?_append_left (by rw [bcells_len]; omega)]; simp
    | succ j =>
      rw [List.getElem?_append_right (by rw [bcells_len]; omega), bcells_len, show (j + 1) * 14 + i - 14 = j * 14 + i by omega, ih j (by simpa using h)]
      rfl

theorem cellsB_one (l : List El) : ∀ u ∈ cellsB l, u.oneCell' = true := by
  intro u hu
  unfold cellsB at hu
  rw [List.mem_flatMap] at hu
  obtain ⟨e, _, hu⟩ := hu
  unfold bcells at hu
  simp only [List.mem_cons, List.mem_nil_iff, or_false] at hu
  rcases hu with h | h | h | h | h | h | h | h | h | h | h | h | h | h <;> subst h <;> rfl

/-- A slice that shows boxes, all of it from block B on. -/
def RowB (B : Nat) (w : World) (v : Value) (l : List Ev.Bx) : Prop :=
  ∃ es : List El, es.map (·.1) = l ∧ (∀ e ∈ es, Nt B w e.2.1 e.2.2 e.1.nots) ∧ w.ownsRow B 40 14 v l.length (cellsB es)

theorem own_below {w w' : World} {base : Nat} {e : TypeId} {size : Nat} {v : Value} {n : Nat} {xs : List Value} (h : w.ownsRow base e size v n xs) (hb : Below w.heap.size w w') : w'.ownsRow base e size v n xs := by
  obtain ⟨h1, h2⟩ := h
  refine ⟨h1, ?_⟩
  rcases h2 with h2 | ⟨g, cap, cur, hv, hg, hh, r⟩
  · exact Or.inl h2
  · have hlt : g < w.heap.size := by
      by_cases hlt : g < w.heap.size
      · exact hlt
      · rw [Array.getElem?_eq_none (by omega)] at hh; cases hh
    exact Or.inr ⟨g, cap, cur, hv, hg, by rw [hb.block g hlt]; exact hh, r⟩

theorem own_mono {w : World} {base base' : Nat} {e : TypeId} {size : Nat} {v : Value} {n : Nat} {xs : List Value} (h : w.ownsRow base e size v n xs) (hb : base' ≤ base) : w.ownsRow base' e size v n xs := by
  obtain ⟨h1, h2⟩ := h
  refine ⟨h1, ?_⟩
  rcases h2 with h2 | ⟨g, cap, cur, hv, hg, hh, r⟩
  · exact Or.inl h2
  · exact Or.inr ⟨g, cap, cur, hv, Nat.le_trans hb hg, hh, r⟩

theorem RowB.below {B : Nat} {w w' : World} {v : Value} {l : List Ev.Bx} (h : RowB B w v l) (hb : Below w.heap.size w w') : RowB B w' v l := by
  obtain ⟨es, h1, h2, h3⟩ := h
  exact ⟨es, h1, fun e he => (h2 e he).below hb, own_below h3 hb⟩

theorem RowB.mono {B B' : Nat} {w : World} {v : Value} {l : List Ev.Bx} (h : RowB B w v l) (hb : B' ≤ B) : RowB B' w v l := by
  obtain ⟨es, h1, h2, h3⟩ := h
  exact ⟨es, h1, fun e he => (h2 e he).mono hb, own_mono h3 hb⟩

theorem RowB.nil (B : Nat) (w : World) : RowB B w (.slice none 0 0) [] := ⟨[], rfl, fun e he => (by cases he), World.ownsRow_nil _ _ _ _⟩

theorem RowB.slice {B : Nat} {w : World} {v : Value} {l : List Ev.Bx} (h : RowB B w v l) : ∃ ao cap, v = .slice ao l.length cap := by
  obtain ⟨es, h1, h2, h3⟩ := h
  exact own_sl h3

theorem RowB.src {B : Nat} {w : World} {ao : Option Addr} {cap : Nat} {l : List Ev.Bx} (h : RowB B w (.slice ao l.length cap) l) : ∃ es : List El, es.map (·.1) = l ∧ (∀ e ∈ es, Nt B w e.2.1 e.2.2 e.1.nots) ∧ Src w 14 ao l.length cap (cellsB es) := by
  obtain ⟨es, h1, h2, h3⟩ := h
  refine ⟨es, h1, h2, ?_⟩
  have hl : es.length = l.length := by rw [← h1]; simp
  refine ⟨by rw [cellsB_len, hl], fun e => ?_, fun ad e j u hj => ?_, fun ad e h0 => ?_, cellsB_one es⟩
  · subst e
    rcases h3.2 with ⟨hv, hn⟩ | ⟨g, cap', cur, hv, _⟩
    · simp only [Value.slice.injEq] at hv; exact ⟨hn, hv.2.2⟩
    · cases hv
  · subst e
    rcases h3.2 with ⟨hv, hn⟩ | ⟨g, cap', cur, hv, _⟩
    · cases hv
    · cases hv
      have hj' : j < l.length * 14 := by
        rw [← hl, ← cellsB_len]
        by_cases hlt : j < (cellsB es).length
        · exact hlt
        · rw [List.getElem?_eq_none (by omega)] at hj; cases hj
      have := (h3.cellAt j hj').trans hj
      simp only [Addr.add]
      split
      · rename_i h0; subst h0; exact this
      · simpa using this
  · subst e
    rcases h3.2 with ⟨hv, hn⟩ | ⟨g, cap', cur, hv, _⟩
    · cases hv
    · cases hv
      exact (h3.lt g rfl).2

/-- One more. -/
theorem RowB.snoc {B : Nat} {w w' : World} {v v' : Value} {l : List Ev.Bx} (es : List El) (x : El) (h1 : es.map (·.1) = l) (h2 : ∀ e ∈ es, Nt B w e.2.1 e.2.2 e.1.nots) (h3 : w.ownsRow B 40 14 v l.length (cellsB es))
    (hg : w.grownBy w' v.ownBlock) (ho : w'.ownsRow B 40 14 v' (l.length + 1) (cellsB es ++ bcells x)) (hx : Nt B w x.2.1 x.2.2 x.1.nots) : RowB B w' v' (l ++ [x.1]) := by
  have keep : ∀ b c, B ≤ b → w.heap[b]? = some (.cells c 9 (0, 0)) → w'.heap[b]? = w.heap[b]? := by
    intro b c _ hc
    have hlt : b < w.heap.size := by
      by_cases hlt : b < w.heap.size
      · exact hlt
      · rw [Array.getElem?_eq_none (by omega)] at hc; cases hc
    refine hg.block b hlt (fun e => ?_)
    rcases h3.2 with ⟨hv, hn⟩ | ⟨g, cap', cur, hv, _, hh, _⟩
    · subst hv; simp [Value.ownBlock] at e
    · subst hv
      simp only [Value.ownBlock, Option.some.injEq] at e
      subst e
      rw [hh] at hc
      simp at hc
  refine ⟨es ++ [x], by simp [h1], fun e he => ?_, ?_⟩
  · rw [List.mem_append, List.mem_singleton] at he
    rcases he with he | rfl
    · exact (h2 e he).keep keep
    · exact hx.keep keep
  · rw [cellsB_append, List.length_append]
    have : cellsB [x] = bcells x := by simp [cellsB]
    rw [this]; exact ho

/-- A row that was just laid, of one. -/
theorem RowB.one {B : Nat} {w : World} (x : El) (hB : B ≤ w.heap.size) (hx : Nt B w x.2.1 x.2.2 x.1.nots) : RowB B (w.alloc (.cells (bcells x).toArray 40)) (.slice (some ⟨w.heap.size, 0, none⟩) 1 1) [x.1] := by
  refine ⟨[x], rfl, fun e he => ?_, ?_⟩
  · rw [List.mem_singleton] at he; subst he
    exact hx.below ((Below.refl _ _).alloc (Nat.le_refl _) _)
  · have e : cellsB [x] = bcells x := by simp [cellsB]
    rw [e]
    exact ⟨rfl, .inr ⟨w.heap.size, 1, (bcells x).toArray, rfl, hB, heap_alloc_new _ _, by simp, by unfold maxLen; omega, rfl, rfl⟩⟩

theorem RowB.one_at {B n : Nat} {w : World} (x : El) (hn : n = w.heap.size) (hB : B ≤ w.heap.size) (hx : Nt B w x.2.1 x.2.2 x.1.nots) : RowB B (w.alloc (.cells (bcells x).toArray 40)) (.slice (some ⟨n, 0, none⟩) 1 1) [x.1] := by
  subst hn; exact RowB.one x hB hx

/-- The j-th box of a row. -/
theorem RowB.at {B : Nat} {w : World} {ao : Option Addr} {cap : Nat} {l : List Ev.Bx} (h : RowB B w (.slice ao l.length cap) l) (j : Nat) (hj : j < l.length) :
    ∃ g xo xc, ao = some ⟨g, 0, none⟩ ∧ B ≤ g ∧ g < w.heap.size ∧ Nt B w xo xc l[j].nots ∧ ∀ i u, (bcells (l[j], xo, xc))[i]? = some u → w.cell? ⟨g, j * 14 + i, none⟩ = some u := by
  obtain ⟨es, h1, h2, h3⟩ := h
  have hl : es.length = l.length := by rw [← h1]; simp
  have hj' : j < es.length := by omega
  rcases h3.2 with ⟨hv, hn⟩ | ⟨g, cap', cur, hv, hgB, _⟩
  · omega
  · cases hv
    have e : l[j] = es[j].1 := by subst h1; simp
    refine ⟨g, es[j].2.1, es[j].2.2, rfl, hgB, (h3.lt g rfl).2, ?_, fun i u hi => ?_⟩
    · rw [e]; exact h2 _ (List.getElem_mem hj')
    · have hi14 : i < 14 := by
        by_cases hlt : i < 14
        · exact hlt
        · rw [List.getElem?_eq_none (by rw [bcells_len]; omega)] at hi; cases hi
      rw [e] at hi
      exact (h3.cellAt (j * 14 + i) (by omega)).trans ((cellsB_get es j hj' i hi14).trans hi)

end Go.Proofs.Ytflpdekifkcfkab
