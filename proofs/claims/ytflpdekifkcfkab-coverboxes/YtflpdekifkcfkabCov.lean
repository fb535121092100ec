/- One box within another, one filter within another, as plain mathematics. -/
import Derived.Test.YtflpdekifkcfkabBrow
namespace Go.Proofs.Ytflpdekifkcfkab
set_option linter.unusedVariables false
namespace Ev

/-- One side within another. -/
def withinS (p q : Sd) : Bool :=
  if q.how = 0 then true else if q.how = 1 then (decide (q.lo ≤ p.lo) && decide (p.hi ≤ q.hi)) && decide (p.how = 1) else decide (p.how = q.how)

/-- Neither begins with the other. -/
def apart (a b : ByteArray) : Bool := !begins a b && !begins b a

/-- What a box lets through does not begin with n. -/
def out (x : Bx) (n : List UInt8) : Bool := anyOf (bts n) x.nots || apart (bts n) x.tag

/-- All four sides. -/
def sides (x y : Bx) : Bool := withinS (x.s 0) (y.s 0) && (withinS (x.s 1) (y.s 1) && (withinS (x.s 2) (y.s 2) && withinS (x.s 3) (y.s 3)))

/-- One box within another. -/
def within (x y : Bx) : Bool := sides x y && (begins x.tag y.tag && y.nots.all (out x))

/-- Each box of b is within one of a's. -/
def cov (a b : List Bx) : Bool := b.all fun y => a.any fun x => within y x

/-- One filter's boxes within another one's. -/
def covers (a b : Option (List Bx)) : Bool :=
  match a, b with
  | some a, some b => cov a b
  | _, _ => false

theorem withinS_refl (p : Sd) (h : p.ok) : withinS p p = true := by
  unfold withinS
  split
  · rfl
  · split
    · rename_i h1; simp [h1]
    · simp

theorem withinS_nul (p : Sd) : withinS p nul = true := by simp [withinS, nul]

theorem withinS_trans {p q r : Sd} (h : withinS p q = true) (k : withinS q r = true) : withinS p r = true := by
  unfold withinS at *
  split at k
  · rename_i h0; simp [h0]
  · rename_i h0
    split at k
    · rename_i h1
      simp only [Bool.and_eq_true, decide_eq_true_eq] at k
      rw [k.2] at h
      simp at h
      rw [if_neg h0, if_pos h1]
      simp; omega
    · rename_i h1
      simp only [decide_eq_true_eq] at k
      rw [if_neg (by omega), if_neg (by omega)] at h
      simp only [decide_eq_true_eq] at h
      rw [if_neg h0, if_neg h1]
      simp; omega

theorem withinS_lets {p q : Sd} (h : withinS p q = true) (al : List (Int × Int)) (key : Int) (k : p.lets al key = true) : q.lets al key = true := by
  unfold withinS at h
  split at h
  · rename_i h0; simp [Sd.lets, h0]
  · rename_i h0
    split at h
    · rename_i h1
      simp only [Bool.and_eq_true, decide_eq_true_eq] at h
      unfold Sd.lets at *
      rw [if_neg (by omega), if_neg (by omega), if_pos h.2] at k
      rw [if_neg (by omega), if_neg (by omega), if_pos h1]
      unfold between at *
      cases ha : attr al key with
      | none => rw [ha] at k; exact k
      | some n => rw [ha] at k; simp only [Bool.and_eq_true, decide_eq_true_eq] at k ⊢; omega
    · rename_i h1
      simp only [decide_eq_true_eq] at h
      unfold Sd.lets at *
      rw [if_neg (by omega)] at k
      rw [if_neg (by omega)]
      split at k
      · rw [if_pos (by omega)]; exact k
      · rw [if_neg (by omega)] at k; cases k

theorem begins_refl (a : ByteArray) : begins a a = true := by rw [begins_iff]; exact List.prefix_refl _

theorem apart_iff (a b : ByteArray) : apart a b = true ↔ begins a b = false ∧ begins b a = false := by simp [apart]

theorem begins_or {t a b : ByteArray} (h : begins t a = true) (k : begins t b = true) : begins a b = true ∨ begins b a = true := by
  rw [begins_iff] at *
  rw [begins_iff]
  rcases Nat.le_total a.data.toList.length b.data.toList.length with hl | hl
  · exact .inr (List.prefix_of_prefix_length_le h k hl)
  · exact .inl (List.prefix_of_prefix_length_le k h hl)

theorem out_iff (x : Bx) (n : List UInt8) : out x n = true ↔ (∃ m ∈ x.nots, begins (bts n) (bts m) = true) ∨ (begins (bts n) x.tag = false ∧ begins x.tag (bts n) = false) := by
  unfold out
  rw [Bool.or_eq_true, anyOf_iff, apart_iff]

theorem within_iff (x y : Bx) : within x y = true ↔ (withinS (x.s 0) (y.s 0) = true ∧ withinS (x.s 1) (y.s 1) = true ∧ withinS (x.s 2) (y.s 2) = true ∧ withinS (x.s 3) (y.s 3) = true) ∧ begins x.tag y.tag = true ∧ ∀ n ∈ y.nots, out x n = true := by
  simp [within, sides]

theorem within_refl {x : Bx} {n : Nat} (h : x.ok n) : within x x = true := by
  rw [within_iff]
  exact ⟨⟨withinS_refl _ (h.1 0 (by omega)), withinS_refl _ (h.1 1 (by omega)), withinS_refl _ (h.1 2 (by omega)), withinS_refl _ (h.1 3 (by omega))⟩, begins_refl _, fun n hn => (out_iff _ _).2 (.inl ⟨n, hn, begins_refl _⟩)⟩

theorem within_zero (x : Bx) : within x zero = true := by
  rw [within_iff]
  exact ⟨⟨withinS_nul _, withinS_nul _, withinS_nul _, withinS_nul _⟩, begins_nil _, fun n hn => by cases hn⟩

theorem within_trans {x y z : Bx} (h : within x y = true) (k : within y z = true) : within x z = true := by
  rw [within_iff] at *
  obtain ⟨⟨a0, a1, a2, a3⟩, at', an⟩ := h
  obtain ⟨⟨b0, b1, b2, b3⟩, bt, bn⟩ := k
  refine ⟨⟨withinS_trans a0 b0, withinS_trans a1 b1, withinS_trans a2 b2, withinS_trans a3 b3⟩, begins_trans at' bt, fun n hn => ?_⟩
  rw [out_iff]
  rcases (out_iff _ _).1 (bn n hn) with ⟨m, hm, hb⟩ | ⟨h1, h2⟩
  · rcases (out_iff _ _).1 (an m hm) with ⟨l, hl, hc⟩ | ⟨h1, h2⟩
    · exact .inl ⟨l, hl, begins_trans hb hc⟩
    · refine .inr ⟨?_, ?_⟩
      · rw [← Bool.not_eq_true]; intro hx
        rcases begins_or hb hx with h | h
        · rw [h1] at h; cases h
        · rw [h2] at h; cases h
      · rw [← Bool.not_eq_true]; intro hx
        rw [begins_trans hx hb] at h2; cases h2
  · refine .inr ⟨?_, ?_⟩
    · rw [← Bool.not_eq_true]; intro hx
      rw [begins_trans hx at'] at h1; cases h1
    · rw [← Bool.not_eq_true]; intro hx
      rcases begins_or hx at' with h | h
      · rw [h1] at h; cases h
      · rw [h2] at h; cases h

theorem within_lets {x y : Bx} (h : within x y = true) (al : List (Int × Int)) (t : ByteArray) (k : x.lets al t = true) : y.lets al t = true := by
  rw [within_iff] at h
  obtain ⟨⟨a0, a1, a2, a3⟩, at', an⟩ := h
  unfold Bx.lets at *
  simp only [Bool.and_eq_true] at *
  obtain ⟨⟨k0, k1, k2, k3⟩, kt, kn⟩ := k
  refine ⟨⟨withinS_lets a0 al _ k0, withinS_lets a1 al _ k1, withinS_lets a2 al _ k2, withinS_lets a3 al _ k3⟩, begins_trans kt at', ?_⟩
  rw [Bool.not_eq_true'] at *
  rw [← Bool.not_eq_true] at *
  rw [anyOf_iff] at *
  rintro ⟨n, hn, hb⟩
  rcases (out_iff _ _).1 (an n hn) with ⟨m, hm, hc⟩ | ⟨h1, h2⟩
  · exact kn ⟨m, hm, begins_trans hb hc⟩
  · rcases begins_or hb kt with h | h
    · rw [h1] at h; cases h
    · rw [h2] at h; cases h

theorem cov_iff (a b : List Bx) : cov a b = true ↔ ∀ y ∈ b, ∃ x ∈ a, within y x = true := by simp [cov]

theorem cov_self {a : List Bx} {n : Nat} (h : ∀ x ∈ a, x.ok n) : cov a a = true := by
  rw [cov_iff]; exact fun y hy => ⟨y, hy, within_refl (h y hy)⟩

theorem cov_trans {a b c : List Bx} (h : cov a b = true) (k : cov b c = true) : cov a c = true := by
  rw [cov_iff] at *
  intro z hz
  obtain ⟨y, hy, h1⟩ := k z hz
  obtain ⟨x, hx, h2⟩ := h y hy
  exact ⟨x, hx, within_trans h1 h2⟩

theorem cov_right {a b : List Bx} {n : Nat} (h : ∀ x ∈ b, x.ok n) : cov (a ++ b) b = true := by
  rw [cov_iff]; exact fun y hy => ⟨y, List.mem_append_right _ hy, within_refl (h y hy)⟩

theorem cov_lets {a b : List Bx} (h : cov a b = true) (al : List (Int × Int)) (t : ByteArray) (k : b.any (fun x => x.lets al t) = true) : a.any (fun x => x.lets al t) = true := by
  rw [cov_iff] at h
  rw [List.any_eq_true] at *
  obtain ⟨y, hy, hl⟩ := k
  obtain ⟨x, hx, hw⟩ := h y hy
  exact ⟨x, hx, within_lets hw al t hl⟩

end Ev
end Go.Proofs.Ytflpdekifkcfkab
