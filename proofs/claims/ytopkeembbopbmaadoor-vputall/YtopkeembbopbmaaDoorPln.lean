/- Texts and versions as bytes: plain mathematics. No Go, no program. -/
import Derived.Test.YtopkeembbopbmaaDoorPlain
namespace Go.Proofs.YtopkeembbopbmaaDoor
/-! Ahead of stage 18: behind Plain17's text (the two are one text when they are laid in a seat's namespace): texts and versions as bytes. -/
/-- Reading on: a number, and what stands behind it. -/
def rd (b : List Nat) : Option (Nat × List Nat) :=
  match take5 b with
  | none => none
  | some (v, n) => some (v, b.drop n)

/-- Reading on: a text, and what stands behind it. -/
def rt (b : List Nat) : Option (List Nat × List Nat) :=
  match rd b with
  | none => none
  | some (v, c) => if v ≤ c.length then some (c.take v, c.drop v) else none

def putx (s : List Nat) : List Nat := put s.length ++ s

theorem rd_put (v : Nat) (h : v < 128 ^ 5) (l : List Nat) : rd (put v ++ l) = some (v, l) := by
  have h1 : take5 (put v ++ l) = some (v, (put v).length) := tk_put 4 false v l h (by intro h; cases h)
  unfold rd
  rw [h1]
  simp

theorem rt_put (s : List Nat) (h : s.length < 128 ^ 5) (l : List Nat) : rt (putx s ++ l) = some (s, l) := by
  unfold rt putx
  rw [List.append_assoc, rd_put _ h]
  simp

/-- A version's parts. -/
structure Vp where
  i : Nat
  l : Nat
  r : Nat
  n : Nat
  d : Nat
  a : List (Nat × Nat)
  t : List Nat
  b : List Nat

def pat (a : List (Nat × Nat)) : List Nat := a.flatMap (fun p => put p.1 ++ put p.2)

theorem pat_nil : pat [] = [] := rfl
theorem pat_cons (p : Nat × Nat) (a : List (Nat × Nat)) : pat (p :: a) = put p.1 ++ (put p.2 ++ pat a) := by
  unfold pat; rw [List.flatMap_cons, List.append_assoc]
theorem pat_snoc (a : List (Nat × Nat)) (p : Nat × Nat) : pat (a ++ [p]) = pat a ++ (put p.1 ++ put p.2) := by
  unfold pat; rw [List.flatMap_append]; simp

/-- A version as bytes. -/
def pv (v : Vp) : List Nat :=
  put v.i ++ (put v.l ++ (put v.r ++ (put v.n ++ (put v.d ++ (put v.a.length ++ (pat v.a ++ (putx v.t ++ putx v.b)))))))

/-- So many attributes. -/
def rat : Nat → List Nat → Option (List (Nat × Nat) × List Nat)
  | 0, b => some ([], b)
  | k + 1, b => (rd b).bind fun x => (rd x.2).bind fun y => (rat k y.2).bind fun z => some ((x.1, y.1) :: z.1, z.2)

theorem rat_pat (a : List (Nat × Nat)) (h : ∀ p ∈ a, p.1 < 128 ^ 5 ∧ p.2 < 128 ^ 5) (l : List Nat) :
    rat a.length (pat a ++ l) = some (a, l) := by
  induction a with
  | nil => rfl
  | cons p a ih =>
    rw [pat_cons]
    show ((rd _).bind fun x => (rd x.2).bind fun y => (rat a.length y.2).bind fun z => some ((x.1, y.1) :: z.1, z.2)) = _
    rw [List.append_assoc, List.append_assoc, rd_put _ (h p (by simp)).1]
    show ((rd _).bind fun y => (rat a.length y.2).bind fun z => some ((p.1, y.1) :: z.1, z.2)) = _
    rw [rd_put _ (h p (by simp)).2]
    show ((rat a.length _).bind fun z => some ((p.1, p.2) :: z.1, z.2)) = _
    rw [ih (fun q hq => h q (by simp [hq]))]
    rfl

/-- A version's parts out of bytes, and what stands behind them; whether they are as they would be put is not asked here. A mark beside the truth is what was there: nought or not. -/
def rv (b : List Nat) : Option (Vp × List Nat) :=
  (rd b).bind fun i => (rd i.2).bind fun l => (rd l.2).bind fun r => (rd r.2).bind fun n => (rd n.2).bind fun d =>
    (rd d.2).bind fun k => (rat k.1 k.2).bind fun a => (rt a.2).bind fun t => (rt t.2).bind fun e =>
      some (⟨i.1, l.1, r.1, n.1, (if d.1 = 0 then 0 else 1), a.1, t.1, e.1⟩, e.2)

/-- No part is too great to be read. -/
structure Fit (v : Vp) : Prop where
  i : v.i < 128 ^ 5
  l : v.l < 128 ^ 5
  r : v.r < 128 ^ 5
  n : v.n < 128 ^ 5
  d : v.d < 2
  k : v.a.length < 128 ^ 5
  a : ∀ p ∈ v.a, p.1 < 128 ^ 5 ∧ p.2 < 128 ^ 5
  t : v.t.length < 128 ^ 5
  b : v.b.length < 128 ^ 5

theorem rv_put (v : Vp) (h : Fit v) (l : List Nat) : rv (pv v ++ l) = some (v, l) := by
  unfold rv pv
  simp only [List.append_assoc]
  rw [rd_put _ h.i]; simp only [Option.bind_some]
  rw [rd_put _ h.l]; simp only [Option.bind_some]
  rw [rd_put _ h.r]; simp only [Option.bind_some]
  rw [rd_put _ h.n]; simp only [Option.bind_some]
  rw [rd_put _ (by have := h.d; omega)]; simp only [Option.bind_some]
  rw [rd_put _ h.k]; simp only [Option.bind_some]
  rw [rat_pat _ h.a]; simp only [Option.bind_some]
  rw [rt_put _ h.t]; simp only [Option.bind_some]
  rw [rt_put _ h.b]; simp only [Option.bind_some]
  have hd : (if v.d = 0 then 0 else 1) = v.d := by
    have := h.d
    split <;> omega
  rw [hd]

/-- What bytes begin with, if it may be and is as it is put: the version's parts, and how many bytes they have. -/
def tv (may : Vp → Bool) (b : List Nat) : Option (Vp × Nat) :=
  match rv b with
  | none => none
  | some (v, c) => if may v = true ∧ pv v = b.take (b.length - c.length) then some (v, b.length - c.length) else none

theorem tv_put (may : Vp → Bool) (v : Vp) (h : Fit v) (hm : may v = true) (l : List Nat) :
    tv may (pv v ++ l) = some (v, (pv v).length) := by
  unfold tv
  rw [rv_put v h l]
  have e : (pv v ++ l).length - l.length = (pv v).length := by simp
  simp only [e]
  rw [if_pos ⟨hm, by simp⟩]

theorem tv_some (may : Vp → Bool) (b : List Nat) (v : Vp) (n : Nat) (h : tv may b = some (v, n)) :
    may v = true ∧ pv v = b.take n ∧ n ≤ b.length := by
  unfold tv at h
  split at h
  · cases h
  · split at h
    · rename_i hh; cases h; exact ⟨hh.1, hh.2, by omega⟩
    · cases h

theorem pv_ne (v : Vp) : 0 < (pv v).length := by
  have := put_ne v.i
  unfold pv
  rw [List.length_append]; omega

/-- None's bytes begin with another one's. -/
theorem pv_apart (v w : Vp) (hv : Fit v) (hw : Fit w) (l : List Nat) (h : pv w = pv v ++ l) : v = w ∧ l = [] := by
  have h1 := rv_put v hv l
  have h2 := rv_put w hw []
  rw [List.append_nil, h, h1] at h2
  cases h2
  exact ⟨rfl, rfl⟩

/-- Cut off it is none. -/
theorem tv_cut (may : Vp → Bool) (hf : ∀ w, may w = true → Fit w) (v : Vp) (h : Fit v) (m : Nat) (hm : m < (pv v).length) :
    tv may ((pv v).take m) = none := by
  cases e : tv may ((pv v).take m) with
  | none => rfl
  | some p =>
    obtain ⟨w, n⟩ := p
    obtain ⟨h1, h2, h3⟩ := tv_some may _ w n e
    have h4 : pv w = (pv v).take (min n m) := by rw [h2, List.take_take]
    have h5 : pv v = pv w ++ (pv v).drop (min n m) := by rw [h4, List.take_append_drop]
    obtain ⟨h6, h7⟩ := pv_apart w v (hf w h1) h _ h5
    have h8 : (pv v).length ≤ min n m := by
      have := congrArg List.length h7
      simp only [List.length_drop, List.length_nil] at this
      omega
    omega

end Go.Proofs.YtopkeembbopbmaaDoor
