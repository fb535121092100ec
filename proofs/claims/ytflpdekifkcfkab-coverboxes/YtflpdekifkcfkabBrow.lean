/- Which boxes a filter is: one of them lets through just what the filter does; and rising rows of texts are one. -/
import Derived.Test.YtflpdekifkcfkabBox
namespace Go.Proofs.Ytflpdekifkcfkab
namespace Ev

theorem Ft.fine.ok {f : Ft} (h : f.fine) : f.ok := by
  induction f with
  | leaf op key lo hi tag => exact ⟨h.1, h.2.1, h.2.2.1⟩
  | non f ih => exact ih h
  | two op f g ihf ihg => exact ⟨h.1, ihf h.2.1, ihg h.2.2⟩

theorem bts_data (b : ByteArray) : bts b.data.toList = b := by cases b; simp [bts]

theorem begins_nil (t : ByteArray) : begins t ⟨#[]⟩ = true := by rw [begins_iff]; exact List.nil_prefix

theorem nil_size : (⟨#[]⟩ : ByteArray).size ≤ 1000 := by decide

theorem nul_ok : nul.ok := .inl ⟨rfl, rfl, rfl⟩
theorem nul_lets (al : List (Int × Int)) (key : Int) : nul.lets al key = true := by simp [nul, Sd.lets]

theorem zero_lets (al : List (Int × Int)) (t : ByteArray) : zero.lets al t = true := by
  simp [zero, Bx.lets, nul_lets, begins_nil, anyOf]

theorem ofKey_ok {key how lo hi : Int} (h : (⟨how, lo, hi⟩ : Sd).ok) (n : Nat) : (ofKey key how lo hi).ok n := by
  refine ⟨fun i _ => ?_, nil_size, by simp [ofKey], by simp [ofKey]⟩
  simp only [ofKey]
  split
  · exact h
  · exact nul_ok

theorem ofKey_lets {key how lo hi : Int} (hk : 0 ≤ key) (hk' : key ≤ 3) (al : List (Int × Int)) (t : ByteArray) : (ofKey key how lo hi).lets al t = (⟨how, lo, hi⟩ : Sd).lets al key := by
  have h : key = 0 ∨ key = 1 ∨ key = 2 ∨ key = 3 := by omega
  rcases h with rfl | rfl | rfl | rfl <;> simp [ofKey, Bx.lets, nul_lets, begins_nil, anyOf]

theorem leaf_ok {op key lo hi : Int} {tag : ByteArray} (h : (Ft.leaf op key lo hi tag).fine) (t : Bool) : ∀ x ∈ leafRow op key lo hi tag t, x.ok 1 := by
  obtain ⟨h1, h2, h3, h4, h5, h6, h7, h8⟩ := h
  intro x hx
  unfold leafRow at hx
  split at hx
  · split at hx
    · cases hx
    · simp at hx; subst hx
      exact ⟨fun i _ => nul_ok, nil_size, by simp [zero], by simp [zero]⟩
  · split at hx
    · split at hx
      · unfold outside at hx
        rw [List.mem_cons, List.mem_append] at hx
        rcases hx with rfl | hx | hx
        · exact ofKey_ok (.inr (.inl ⟨rfl, rfl, rfl⟩)) 1
        · split at hx
          · simp at hx; subst hx; exact ofKey_ok (.inr (.inr ⟨rfl, by simp only; omega, by simp only; omega, by simp only; omega⟩)) 1
          · cases hx
        · split at hx
          · simp at hx; subst hx; exact ofKey_ok (.inr (.inr ⟨rfl, by simp only; omega, by simp only; omega, by simp only; omega⟩)) 1
          · cases hx
      · simp at hx; subst hx; exact ofKey_ok (.inr (.inr ⟨rfl, h6, h7, h8⟩)) 1
    · split at hx
      · simp at hx; subst hx
        exact ⟨fun i _ => nul_ok, nil_size, by simp, by simpa using h3⟩
      · simp at hx; subst hx
        exact ⟨fun i _ => nul_ok, h3, by simp, by simp⟩

theorem leaf_lets {op key lo hi : Int} {tag : ByteArray} (h : (Ft.leaf op key lo hi tag).fine) (t : Bool) {al : List (Int × Int)} (hs : Small al) (tg : ByteArray) :
    (leafRow op key lo hi tag t).any (fun x => x.lets al tg) = ((Ft.leaf op key lo hi tag).lets al tg != t) := by
  obtain ⟨h1, h2, h3, h4, h5, h6, h7, h8⟩ := h
  have ho : op = 1 ∨ op = 2 ∨ op = 3 ∨ op = 4 := by omega
  have hout : (outside key lo hi).any (fun x => x.lets al tg) = !(between al key lo hi) := by
    unfold outside
    rw [List.any_cons, List.any_append, ofKey_lets h4 h5]
    have e1 : (if 0 < lo then [ofKey key 1 0 (lo - 1)] else []).any (fun x => x.lets al tg) = (decide (0 < lo) && between al key 0 (lo - 1)) := by
      split
      · rename_i h; rw [List.any_cons, List.any_nil, ofKey_lets h4 h5]; simp [Sd.lets, h]
      · rename_i h; simp [h]
    have e2 : (if hi < 99 then [ofKey key 1 (hi + 1) 99] else []).any (fun x => x.lets al tg) = (decide (hi < 99) && between al key (hi + 1) 99) := by
      split
      · rename_i h; rw [List.any_cons, List.any_nil, ofKey_lets h4 h5]; simp [Sd.lets, h]
      · rename_i h; simp [h]
    rw [e1, e2]
    have hw := between_wide hs key
    simp only [Sd.lets, hw]
    unfold between
    cases ha : attr al key with
    | none => simp
    | some n =>
      obtain ⟨a, hm, rfl⟩ := attr_mem ha
      have := hs a hm
      simp
      rw [Bool.eq_iff_iff]
      simp
      omega
  rcases ho with rfl | rfl | rfl | rfl
  · cases t
    · simp [leafRow, Ft.lets, zero_lets]
    · simp [leafRow, Ft.lets]
  · cases t
    · simp [leafRow, Ft.lets, ofKey_lets h4 h5, Sd.lets]
    · simp [leafRow, Ft.lets, hout]
  · cases t
    · simp [leafRow, Ft.lets, ofKey_lets h4 h5, Sd.lets]
    · simp [leafRow, Ft.lets, hout]
  · cases t
    · simp [leafRow, Ft.lets, Bx.lets, nul_lets, anyOf]
    · simp [leafRow, Ft.lets, Bx.lets, nul_lets, anyOf, begins_nil, bts_data]

theorem meets_any {al : List (Int × Int)} (hs : Small al) (tg : ByteArray) {a b : List Bx} {n m : Nat} (ha : ∀ x ∈ a, x.ok n) (hb : ∀ x ∈ b, x.ok m) :
    (meets a b).any (fun x => x.lets al tg) = (a.any (fun x => x.lets al tg) && b.any (fun x => x.lets al tg)) := by
  rw [Bool.eq_iff_iff, Bool.and_eq_true, List.any_eq_true, List.any_eq_true, List.any_eq_true]
  constructor
  · rintro ⟨z, hz, hl⟩
    unfold meets at hz
    rw [List.mem_flatMap] at hz
    obtain ⟨x, hx, hz⟩ := hz
    rw [List.mem_filterMap] at hz
    obtain ⟨y, hy, hz⟩ := hz
    have e := (meet_some hs tg (ha x hx) (hb y hy) hz).1
    rw [e, Bool.and_eq_true] at hl
    exact ⟨⟨x, hx, hl.1⟩, ⟨y, hy, hl.2⟩⟩
  · rintro ⟨⟨x, hx, h1⟩, ⟨y, hy, h2⟩⟩
    cases hm : meet x y with
    | none =>
      have e := meet_none hs tg (ha x hx) (hb y hy) hm
      rw [h1, h2] at e; cases e
    | some z =>
      have e := (meet_some hs tg (ha x hx) (hb y hy) hm).1
      refine ⟨z, ?_, by rw [e, h1, h2]; rfl⟩
      unfold meets
      rw [List.mem_flatMap]
      exact ⟨x, hx, List.mem_filterMap.2 ⟨y, hy, hm⟩⟩

theorem meets_ok {a b : List Bx} {n m : Nat} (ha : ∀ x ∈ a, x.ok n) (hb : ∀ x ∈ b, x.ok m) : ∀ z ∈ meets a b, z.ok (n + m) := by
  intro z hz
  unfold meets at hz
  rw [List.mem_flatMap] at hz
  obtain ⟨x, hx, hz⟩ := hz
  rw [List.mem_filterMap] at hz
  obtain ⟨y, hy, hz⟩ := hz
  exact (meet_some (al := []) (fun _ h => by cases h) ⟨#[]⟩ (ha x hx) (hb y hy) hz).2

theorem Bx.ok.mono {x : Bx} {n m : Nat} (h : x.ok n) (hn : n ≤ m) : x.ok m := ⟨h.1, h.2.1, Nat.le_trans h.2.2.1 hn, h.2.2.2⟩

theorem row_said (f : Ft) : ∀ (t : Bool) (l : List Bx), f.fine → f.row t = some l → (∀ x ∈ l, x.ok (2 ^ (f.deep - 1))) ∧ l.length ≤ 16 ∧
    ∀ al tg, Small al → l.any (fun x => x.lets al tg) = (f.lets al tg != t) := by
  induction f with
  | leaf op key lo hi tag =>
    intro t l h e
    cases e
    refine ⟨leaf_ok h t, ?_, fun al tg hs => leaf_lets h t hs tg⟩
    unfold leafRow outside
    split
    · split <;> simp
    · split
      · split
        · split <;> split <;> simp
        · simp
      · split <;> simp
  | non f ih =>
    intro t l h e
    obtain ⟨h1, h2, h3⟩ := ih (!t) l h e
    refine ⟨fun x hx => (h1 x hx).mono ?_, h2, fun al tg hs => ?_⟩
    · exact Nat.pow_le_pow_right (by omega) (by simp only [Ft.deep]; omega)
    · rw [h3 al tg hs]
      simp only [Ft.lets]
      cases f.lets al tg <;> cases t <;> rfl
  | two op f g ihf ihg =>
    intro t l h e
    obtain ⟨ho, hf, hg⟩ := h
    simp only [Ft.row] at e
    unfold both at e
    split at e
    · rename_i a b ea eb
      obtain ⟨a1, a2, a3⟩ := ihf t a hf ea
      obtain ⟨b1, b2, b3⟩ := ihg t b hg eb
      obtain ⟨L, hL⟩ : ∃ L, L = (if (decide (op = 5) != t) = true then meets a b else a ++ b) := ⟨_, rfl⟩
      rw [← hL] at e
      unfold few at e
      split at e
      · cases e
      · rename_i hl
        cases e
        subst hL
        have hd1 := f.deep_pos
        have hd2 := g.deep_pos
        have hp : 2 ^ (f.deep - 1) + 2 ^ (g.deep - 1) ≤ 2 ^ ((Ft.two op f g).deep - 1) := by
          have e : (Ft.two op f g).deep - 1 = max f.deep g.deep := by simp only [Ft.deep]; omega
          rw [e]
          have q1 : 2 ^ (f.deep - 1) ≤ 2 ^ (max f.deep g.deep - 1) := Nat.pow_le_pow_right (by omega) (by omega)
          have q2 : 2 ^ (g.deep - 1) ≤ 2 ^ (max f.deep g.deep - 1) := Nat.pow_le_pow_right (by omega) (by omega)
          have q3 : 2 ^ (max f.deep g.deep) = 2 ^ (max f.deep g.deep - 1) + 2 ^ (max f.deep g.deep - 1) := by
            have : max f.deep g.deep = (max f.deep g.deep - 1) + 1 := by omega
            rw [this, Nat.pow_succ]; simp; omega
          omega
        refine ⟨?_, by omega, fun al tg hs => ?_⟩
        · split
          · exact fun z hz => (meets_ok a1 b1 z hz).mono hp
          · intro z hz
            rw [List.mem_append] at hz
            rcases hz with hz | hz
            · exact (a1 z hz).mono (Nat.le_trans (Nat.le_add_right _ _) hp)
            · exact (b1 z hz).mono (Nat.le_trans (Nat.le_add_left _ _) hp)
        · simp only [Ft.lets]
          rcases ho with rfl | rfl
          · cases t
            · simp [meets_any hs tg a1 b1, a3 al tg hs, b3 al tg hs]
            · simp [a3 al tg hs, b3 al tg hs]
          · cases t
            · simp [a3 al tg hs, b3 al tg hs]
            · simp [meets_any hs tg a1 b1, a3 al tg hs, b3 al tg hs]
    · cases e

/-- Rising texts, each once. -/
def Up (l : List (List UInt8)) : Prop := l.Pairwise (· < ·)

theorem up_ins (a : List UInt8) (l : List (List UInt8)) (h : Up l) : Up (ins a l) := by
  induction l with
  | nil => simp [ins, Up]
  | cons b r ih =>
    unfold Up at *
    rw [List.pairwise_cons] at h
    simp only [ins]
    split
    · rename_i hab
      refine List.pairwise_cons.2 ⟨fun x hx => ?_, List.pairwise_cons.2 h⟩
      rw [List.mem_cons] at hx
      rcases hx with rfl | hx
      · exact hab
      · exact List.lt_trans hab (h.1 x hx)
    · split
      · exact List.pairwise_cons.2 h
      · rename_i h1 h2
        refine List.pairwise_cons.2 ⟨fun x hx => ?_, ih h.2⟩
        rw [mem_ins] at hx
        rcases hx with rfl | hx
        · have h3 : b ≤ x := List.not_lt.1 h1
          rcases Std.le_iff_lt_or_eq.1 h3 with h4 | h4
          · exact h4
          · exact absurd h4.symm h2
        · exact h.1 x hx

theorem up_rise (l : List (List UInt8)) : Up (rise l) := by
  induction l with
  | nil => simp [rise, Up]
  | cons a r ih => exact up_ins a _ ih

theorem up_one : ∀ (a b : List (List UInt8)), Up a → Up b → (∀ x, x ∈ a ↔ x ∈ b) → a = b
  | [], [], _, _, _ => rfl
  | [], y :: s, _, _, h => absurd ((h y).2 List.mem_cons_self) (by simp)
  | x :: r, [], _, _, h => absurd ((h x).1 List.mem_cons_self) (by simp)
  | x :: r, y :: s, ha, hb, h => by
    unfold Up at ha hb
    rw [List.pairwise_cons] at ha hb
    have irr : ∀ z : List UInt8, ¬ z < z := List.lt_irrefl
    have e : x = y := by
      have h1 := (h x).1 List.mem_cons_self
      have h2 := (h y).2 List.mem_cons_self
      rw [List.mem_cons] at h1 h2
      rcases h1 with h1 | h1
      · exact h1
      · rcases h2 with h2 | h2
        · exact h2.symm
        · exact absurd (List.lt_trans (hb.1 x h1) (ha.1 y h2)) (irr _)
    subst e
    have : r = s := up_one r s ha.2 hb.2 (fun z => by
      have := h z
      rw [List.mem_cons, List.mem_cons] at this
      constructor
      · intro hz
        rcases this.1 (.inr hz) with rfl | h'
        · exact absurd (ha.1 _ hz) (irr _)
        · exact h'
      · intro hz
        rcases this.2 (.inr hz) with rfl | h'
        · exact absurd (hb.1 _ hz) (irr _)
        · exact h')
    rw [this]

end Ev
end Go.Proofs.Ytflpdekifkcfkab
