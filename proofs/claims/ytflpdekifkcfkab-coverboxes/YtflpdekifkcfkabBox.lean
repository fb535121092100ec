/- Boxes as plain mathematics: what a box lets through, what two boxes let through both, which boxes a filter is. -/
import Derived.Test.YtflpdekifkcfkabPlain
namespace Go.Proofs.Ytflpdekifkcfkab
namespace Ev

/-- What is asked of a key. -/
structure Sd where
  how : Int
  lo : Int
  hi : Int

/-- A box: four sides, a tag, what the tag may not begin with. -/
structure Bx where
  s : Nat → Sd
  tag : ByteArray
  nots : List (List UInt8)

def bts (l : List UInt8) : ByteArray := ⟨l.toArray⟩

/-- What a side lets through. -/
def Sd.lets (al : List (Int × Int)) (key : Int) (p : Sd) : Bool :=
  if p.how = 0 then true else if p.how = 2 then !(between al key (-9223372036854775808) 9223372036854775807) else if p.how = 1 then between al key p.lo p.hi else false

/-- The tag begins with one of these. -/
def anyOf (t : ByteArray) (l : List (List UInt8)) : Bool := l.any fun n => begins t (bts n)

/-- What a box lets through. -/
def Bx.lets (al : List (Int × Int)) (t : ByteArray) (x : Bx) : Bool :=
  ((x.s 0).lets al 0 && ((x.s 1).lets al 1 && ((x.s 2).lets al 2 && (x.s 3).lets al 3))) && (begins t x.tag && !anyOf t x.nots)

/-- A side that may be. -/
def Sd.ok (p : Sd) : Prop := (p.how = 0 ∧ p.lo = 0 ∧ p.hi = 0) ∨ (p.how = 2 ∧ p.lo = 0 ∧ p.hi = 0) ∨ (p.how = 1 ∧ 0 ≤ p.lo ∧ p.lo ≤ p.hi ∧ p.hi ≤ 99)

/-- A box that may be, with at most n of Nots. -/
def Bx.ok (x : Bx) (n : Nat) : Prop := (∀ i, i < 4 → (x.s i).ok) ∧ x.tag.size ≤ 1000 ∧ x.nots.length ≤ n ∧ ∀ a ∈ x.nots, a.length ≤ 1000

/-- The values of attributes that may be. -/
def Small (al : List (Int × Int)) : Prop := ∀ a ∈ al, 0 ≤ a.2 ∧ a.2 ≤ 99

/-- What two sides let through both. -/
def meetS (p q : Sd) : Option Sd :=
  if p.how = 0 then some q else if q.how = 0 then some p else if p.how ≠ q.how then none else if p.how = 2 then some p
  else if min p.hi q.hi < max p.lo q.lo then none else some ⟨1, max p.lo q.lo, min p.hi q.hi⟩

/-- A text laid into a rising row. -/
def ins (a : List UInt8) : List (List UInt8) → List (List UInt8)
  | [] => [a]
  | b :: r => if a < b then a :: b :: r else if a = b then b :: r else b :: ins a r

/-- Texts, rising, each once. -/
def rise (l : List (List UInt8)) : List (List UInt8) := l.foldr ins []

def longer (a b : ByteArray) : ByteArray := if a.size < b.size then b else a

def four (a b c d : Sd) : Nat → Sd
  | 0 => a
  | 1 => b
  | 2 => c
  | _ => d

/-- The tag of two, and all Nots of both, fit. -/
def fits (x y : Bx) : Bool := begins (longer x.tag y.tag) x.tag && (begins (longer x.tag y.tag) y.tag && !anyOf (longer x.tag y.tag) (rise (x.nots ++ y.nots)))

/-- What two boxes let through both. -/
def meet (x y : Bx) : Option Bx :=
  match meetS (x.s 0) (y.s 0), meetS (x.s 1) (y.s 1), meetS (x.s 2) (y.s 2), meetS (x.s 3) (y.s 3) with
  | some a, some b, some c, some d => if fits x y then some ⟨four a b c d, longer x.tag y.tag, rise (x.nots ++ y.nots)⟩ else none
  | _, _, _, _ => none

def nul : Sd := ⟨0, 0, 0⟩
def zero : Bx := ⟨fun _ => nul, ⟨#[]⟩, []⟩
def ofKey (key how lo hi : Int) : Bx := ⟨fun i => if (i : Int) = key then ⟨how, lo, hi⟩ else nul, ⟨#[]⟩, []⟩
def outside (key lo hi : Int) : List Bx :=
  ofKey key 2 0 0 :: ((if 0 < lo then [ofKey key 1 0 (lo - 1)] else []) ++ (if hi < 99 then [ofKey key 1 (hi + 1) 99] else []))

def leafRow (op key lo hi : Int) (tag : ByteArray) (turned : Bool) : List Bx :=
  if op = 1 then (if turned then [] else [zero])
  else if op = 2 ∨ op = 3 then (if turned then outside key lo hi else [ofKey key 1 lo hi])
  else if turned then [⟨fun _ => nul, ⟨#[]⟩, [tag.data.toList]⟩] else [⟨fun _ => nul, tag, []⟩]

def meets (a b : List Bx) : List Bx := a.flatMap fun x => b.filterMap fun y => meet x y
def few (l : List Bx) : Option (List Bx) := if 16 < l.length then none else some l
def both (each : Bool) (a b : Option (List Bx)) : Option (List Bx) :=
  match a, b with
  | some a, some b => few (if each then meets a b else a ++ b)
  | _, _ => none

/-- Which boxes a filter, or, turned, its opposite, is. -/
def Ft.row : Ft → Bool → Option (List Bx)
  | .leaf op key lo hi tag, t => some (leafRow op key lo hi tag t)
  | .non f, t => f.row (!t)
  | .two op f g, t => both (decide (op = 5) != t) (f.row t) (g.row t)

/-- A filter of play's. -/
def Ft.fine : Ft → Prop
  | .leaf op key lo hi tag => 1 ≤ op ∧ op ≤ 4 ∧ tag.size ≤ 1000 ∧ 0 ≤ key ∧ key ≤ 3 ∧ 0 ≤ lo ∧ lo ≤ hi ∧ hi ≤ 99
  | .non f => f.fine
  | .two op f g => (op = 5 ∨ op = 6) ∧ f.fine ∧ g.fine

theorem attr_mem {al : List (Int × Int)} {key n : Int} (h : attr al key = some n) : ∃ a ∈ al, a.2 = n := by
  induction al with
  | nil => simp [attr] at h
  | cons a r ih =>
    simp only [attr] at h
    split at h
    · exact ⟨a, List.mem_cons_self, by simpa using h⟩
    · obtain ⟨b, hb, e⟩ := ih h
      exact ⟨b, List.mem_cons_of_mem _ hb, e⟩

theorem between_wide {al : List (Int × Int)} (hs : Small al) (key : Int) : between al key (-9223372036854775808) 9223372036854775807 = (attr al key).isSome := by
  unfold between
  cases h : attr al key with
  | none => rfl
  | some n =>
    obtain ⟨a, ha, rfl⟩ := attr_mem h
    have := hs a ha
    simp; omega

theorem begins_iff (s p : ByteArray) : begins s p = true ↔ p.data.toList <+: s.data.toList := by
  have ht : ∀ x : ByteArray, x.toList = x.data.toList := fun x => ByteArray.toList_eq x
  have he : (s.extract 0 p.size).data.toList = s.data.toList.take p.size := by simp
  unfold begins
  rw [Bool.and_eq_true, decide_eq_true_eq, beq_iff_eq, ht, ht, he]
  constructor
  · rintro ⟨_, h⟩
    exact ⟨s.data.toList.drop p.size, by rw [← h]; exact List.take_append_drop _ _⟩
  · intro h
    refine ⟨h.length_le, ?_⟩
    have := List.prefix_iff_eq_take.1 h
    rw [this]; simp

theorem lets_meetS {al : List (Int × Int)} (hs : Small al) {key : Int} {p q : Sd} (hp : p.ok) (hq : q.ok) :
    (∀ r, meetS p q = some r → r.lets al key = (p.lets al key && q.lets al key) ∧ r.ok) ∧ (meetS p q = none → (p.lets al key && q.lets al key) = false) := by
  obtain ⟨ph, pl, pu⟩ := p
  obtain ⟨qh, ql, qu⟩ := q
  have hw := between_wide hs key
  rcases hp with ⟨h1, h2, h3⟩ | ⟨h1, h2, h3⟩ | ⟨h1, h2, h3, h4⟩ <;> rcases hq with ⟨k1, k2, k3⟩ | ⟨k1, k2, k3⟩ | ⟨k1, k2, k3, k4⟩ <;> simp only at h1 h2 h3 k1 k2 k3 <;> subst h1 <;> subst k1 <;> refine ⟨fun r hr => ?_, fun hr => ?_⟩ <;> simp [meetS] at hr
  · subst hr; exact ⟨by simp [Sd.lets], .inl ⟨rfl, k2, k3⟩⟩
  · subst hr; exact ⟨by simp [Sd.lets], .inr (.inl ⟨rfl, k2, k3⟩)⟩
  · subst hr; exact ⟨by simp [Sd.lets], .inr (.inr ⟨rfl, k2, k3, k4⟩)⟩
  · subst hr; exact ⟨by simp [Sd.lets], .inr (.inl ⟨rfl, h2, h3⟩)⟩
  · subst hr; exact ⟨by simp [Sd.lets], .inr (.inl ⟨rfl, h2, h3⟩)⟩
  · simp only [Sd.lets, hw]
    simp [between]
    cases attr al key <;> simp
  · subst hr; exact ⟨by simp [Sd.lets], .inr (.inr ⟨rfl, h2, h3, h4⟩)⟩
  · simp only [Sd.lets, hw]
    simp [between]
    cases attr al key <;> simp
  · obtain ⟨hr1, rfl⟩ := hr
    simp only at h4 k4
    refine ⟨?_, .inr (.inr ⟨rfl, by simp only; omega, by simp only; omega, by simp only; omega⟩)⟩
    simp [Sd.lets, between]
    cases attr al key with
    | none => rfl
    | some n => simp only; rw [Bool.eq_iff_iff]; simp; omega
  · simp [Sd.lets, between]
    cases attr al key with
    | none => simp
    | some n => simp; omega

theorem mem_ins (a x : List UInt8) (l : List (List UInt8)) : x ∈ ins a l ↔ x = a ∨ x ∈ l := by
  induction l with
  | nil => simp [ins]
  | cons b r ih =>
    simp only [ins]
    split
    · simp
    · split
      · rename_i h; subst h; simp
      · simp [ih]; constructor <;> (rintro (h | h | h) <;> simp [h])

theorem mem_rise (x : List UInt8) (l : List (List UInt8)) : x ∈ rise l ↔ x ∈ l := by
  induction l with
  | nil => simp [rise]
  | cons b r ih => show x ∈ ins b (rise r) ↔ _; rw [mem_ins, ih]; simp

theorem length_ins (a : List UInt8) (l : List (List UInt8)) : (ins a l).length ≤ l.length + 1 := by
  induction l with
  | nil => simp [ins]
  | cons b r ih => simp only [ins]; split; · simp
                   · split <;> simp <;> omega

theorem length_rise (l : List (List UInt8)) : (rise l).length ≤ l.length := by
  induction l with
  | nil => simp [rise]
  | cons b r ih => have := length_ins b (rise r); show (ins b (rise r)).length ≤ _; simp; omega

theorem anyOf_iff (t : ByteArray) (l : List (List UInt8)) : anyOf t l = true ↔ ∃ n ∈ l, begins t (bts n) = true := by simp [anyOf]

theorem anyOf_rise (t : ByteArray) (a b : List (List UInt8)) : anyOf t (rise (a ++ b)) = (anyOf t a || anyOf t b) := by
  rw [Bool.eq_iff_iff, Bool.or_eq_true, anyOf_iff, anyOf_iff, anyOf_iff]
  constructor
  · rintro ⟨n, hn, h⟩
    rw [mem_rise, List.mem_append] at hn
    rcases hn with hn | hn
    · exact .inl ⟨n, hn, h⟩
    · exact .inr ⟨n, hn, h⟩
  · rintro (⟨n, hn, h⟩ | ⟨n, hn, h⟩)
    · exact ⟨n, (mem_rise _ _).2 (List.mem_append_left _ hn), h⟩
    · exact ⟨n, (mem_rise _ _).2 (List.mem_append_right _ hn), h⟩

theorem begins_trans {a b c : ByteArray} (h : begins a b = true) (k : begins b c = true) : begins a c = true := by
  rw [begins_iff] at *
  exact k.trans h

theorem begins_both {t a b : ByteArray} (h : begins t a = true) (k : begins t b = true) : begins (longer a b) a = true ∧ begins (longer a b) b = true ∧ begins t (longer a b) = true := by
  have hs : ∀ x : ByteArray, x.size = x.data.toList.length := fun x => by simp
  unfold longer
  split
  · rename_i hl
    refine ⟨?_, ?_, k⟩
    · rw [begins_iff] at *
      exact List.prefix_of_prefix_length_le h k (by rw [hs, hs] at hl; omega)
    · rw [begins_iff]; exact List.prefix_refl _
  · rename_i hl
    refine ⟨?_, ?_, h⟩
    · rw [begins_iff]; exact List.prefix_refl _
    · rw [begins_iff] at *
      exact List.prefix_of_prefix_length_le k h (by rw [hs, hs] at hl; omega)

theorem lets_fits {t : ByteArray} {x y : Bx} :
    (fits x y = true → (begins t (longer x.tag y.tag) && !anyOf t (rise (x.nots ++ y.nots))) = ((begins t x.tag && !anyOf t x.nots) && (begins t y.tag && !anyOf t y.nots))) ∧
    (fits x y = false → ((begins t x.tag && !anyOf t x.nots) && (begins t y.tag && !anyOf t y.nots)) = false) := by
  constructor
  · intro h
    unfold fits at h
    simp only [Bool.and_eq_true] at h
    obtain ⟨h1, h2, _⟩ := h
    rw [anyOf_rise]
    have e : begins t (longer x.tag y.tag) = (begins t x.tag && begins t y.tag) := by
      rw [Bool.eq_iff_iff, Bool.and_eq_true]
      exact ⟨fun h => ⟨begins_trans h h1, begins_trans h h2⟩, fun h => (begins_both h.1 h.2).2.2⟩
    rw [e]
    cases begins t x.tag <;> cases begins t y.tag <;> cases anyOf t x.nots <;> cases anyOf t y.nots <;> rfl
  · intro h
    cases hx : begins t x.tag with
    | false => rfl
    | true =>
      cases hy : begins t y.tag with
      | false => simp
      | true =>
        obtain ⟨h1, h2, h3⟩ := begins_both hx hy
        unfold fits at h
        rw [h1, h2] at h
        simp only [Bool.true_and, Bool.not_eq_false'] at h
        rw [anyOf_iff] at h
        obtain ⟨n, hn, hb⟩ := h
        have hb' := begins_trans h3 hb
        rw [mem_rise, List.mem_append] at hn
        rcases hn with hn | hn
        · rw [(anyOf_iff t x.nots).2 ⟨n, hn, hb'⟩]; simp
        · rw [(anyOf_iff t y.nots).2 ⟨n, hn, hb'⟩]; simp

theorem size_longer (a b : ByteArray) (ha : a.size ≤ 1000) (hb : b.size ≤ 1000) : (longer a b).size ≤ 1000 := by unfold longer; split <;> assumption

theorem meet_some {al : List (Int × Int)} (hs : Small al) (t : ByteArray) {x y z : Bx} {n m : Nat} (hx : x.ok n) (hy : y.ok m) (h : meet x y = some z) :
    z.lets al t = (x.lets al t && y.lets al t) ∧ z.ok (n + m) := by
  unfold meet at h
  have m0 := lets_meetS hs (key := 0) (hx.1 0 (by omega)) (hy.1 0 (by omega))
  have m1 := lets_meetS hs (key := 1) (hx.1 1 (by omega)) (hy.1 1 (by omega))
  have m2 := lets_meetS hs (key := 2) (hx.1 2 (by omega)) (hy.1 2 (by omega))
  have m3 := lets_meetS hs (key := 3) (hx.1 3 (by omega)) (hy.1 3 (by omega))
  split at h
  · rename_i a b c d e0 e1 e2 e3
    obtain ⟨l0, o0⟩ := m0.1 a e0
    obtain ⟨l1, o1⟩ := m1.1 b e1
    obtain ⟨l2, o2⟩ := m2.1 c e2
    obtain ⟨l3, o3⟩ := m3.1 d e3
    split at h
    · rename_i hf
      cases h
      refine ⟨?_, ?_, size_longer _ _ hx.2.1 hy.2.1, ?_, fun a ha => ?_⟩
      · have e := (lets_fits (t := t) (x := x) (y := y)).1 hf
        simp only [Bx.lets, four, l0, l1, l2, l3, e]
        cases (x.s 0).lets al 0 <;> cases (x.s 1).lets al 1 <;> cases (x.s 2).lets al 2 <;> cases (x.s 3).lets al 3 <;> simp
        cases (y.s 0).lets al 0 <;> simp
        cases (y.s 1).lets al 1 <;> simp
        cases (y.s 2).lets al 2 <;> simp
        cases (y.s 3).lets al 3 <;> simp
      · intro i hi
        match i, hi with
        | 0, _ => exact o0
        | 1, _ => exact o1
        | 2, _ => exact o2
        | 3, _ => exact o3
      · have := length_rise (x.nots ++ y.nots)
        have h1 := hx.2.2.1
        have h2 := hy.2.2.1
        simp at this
        show (rise (x.nots ++ y.nots)).length ≤ n + m
        omega
      · rw [mem_rise, List.mem_append] at ha
        rcases ha with ha | ha
        · exact hx.2.2.2 a ha
        · exact hy.2.2.2 a ha
    · cases h
  · cases h

theorem meet_none {al : List (Int × Int)} (hs : Small al) (t : ByteArray) {x y : Bx} {n m : Nat} (hx : x.ok n) (hy : y.ok m) (h : meet x y = none) : (x.lets al t && y.lets al t) = false := by
  unfold meet at h
  have m0 := lets_meetS hs (key := 0) (hx.1 0 (by omega)) (hy.1 0 (by omega))
  have m1 := lets_meetS hs (key := 1) (hx.1 1 (by omega)) (hy.1 1 (by omega))
  have m2 := lets_meetS hs (key := 2) (hx.1 2 (by omega)) (hy.1 2 (by omega))
  have m3 := lets_meetS hs (key := 3) (hx.1 3 (by omega)) (hy.1 3 (by omega))
  cases h0 : meetS (x.s 0) (y.s 0) with
  | none =>
    have e := m0.2 h0
    unfold Bx.lets
    revert e
    cases (x.s 0).lets al 0 <;> cases (y.s 0).lets al 0 <;> simp
  | some a =>
  cases h1 : meetS (x.s 1) (y.s 1) with
  | none =>
    have e := m1.2 h1
    unfold Bx.lets
    revert e
    cases (x.s 1).lets al 1 <;> cases (y.s 1).lets al 1 <;> simp
  | some b =>
  cases h2 : meetS (x.s 2) (y.s 2) with
  | none =>
    have e := m2.2 h2
    unfold Bx.lets
    revert e
    cases (x.s 2).lets al 2 <;> cases (y.s 2).lets al 2 <;> simp
  | some c =>
  cases h3 : meetS (x.s 3) (y.s 3) with
  | none =>
    have e := m3.2 h3
    unfold Bx.lets
    revert e
    cases (x.s 3).lets al 3 <;> cases (y.s 3).lets al 3 <;> simp
  | some d =>
    rw [h0, h1, h2, h3] at h
    simp only at h
    split at h
    · cases h
    · rename_i hf
      have e := (lets_fits (t := t) (x := x) (y := y)).2 (by simpa using hf)
      unfold Bx.lets
      revert e
      generalize (begins t x.tag && !anyOf t x.nots) = p
      generalize (begins t y.tag && !anyOf t y.nots) = q
      cases p <;> cases q <;> simp

end Ev
end Go.Proofs.Ytflpdekifkcfkab
