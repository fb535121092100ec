/- A filter out of words: fuel enough is fuel enough. -/
import Derived.Test.YtdeojcodbojmoaaGreatDoorPsm
namespace Go.Proofs.YtdeojcodbojmoaaGreatDoor
namespace Ps
set_option linter.unusedVariables false

theorem pars_fuel (ws : List Wd.Word) (hg : Goods ws) (n : Nat) : ∀ (m : Nat) (j : Job) (p : Nat), p ≤ ws.length → need j (ws.length - p) ≤ n → need j (ws.length - p) ≤ m → (∀ f, j = .orM f ∨ j = .andM f → f.wf) → pars ws n j p = pars ws m j p := by
  induction n with
  | zero => intro m j p _ h; cases j <;> simp [need] at h
  | succ n ih =>
    intro m j p hp h1 h2 hw
    cases m with
    | zero => cases j <;> simp [need] at h2
    | succ m =>
      have nw : ∀ j : Job, (j = .or ∨ j = .and ∨ j = .not) → ∀ f, j = .orM f ∨ j = .andM f → f.wf := fun j hj f hf => by
        rcases hj with rfl | rfl | rfl <;> rcases hf with hf | hf <;> cases hf
      cases j with
      | or =>
        simp only [need] at h1 h2
        simp only [pars]
        rw [ih m .and p hp (by simp only [need]; omega) (by simp only [need]; omega) (nw _ (.inr (.inl rfl)))]
        cases e : pars ws m .and p with
        | none => rfl
        | some x =>
          obtain ⟨f, q⟩ := x
          obtain ⟨a1, a2, a3, a4⟩ := pars_some ws hg m .and p p q f e rfl hp
          simp only
          exact ih m (.orM f) q a3 (by simp only [need]; omega) (by simp only [need]; omega) (fun f' hf => by rcases hf with hf | hf <;> cases hf; exact a1)
      | and =>
        simp only [need] at h1 h2
        simp only [pars]
        rw [ih m .not p hp (by simp only [need]; omega) (by simp only [need]; omega) (nw _ (.inr (.inr rfl)))]
        cases e : pars ws m .not p with
        | none => rfl
        | some x =>
          obtain ⟨f, q⟩ := x
          obtain ⟨a1, a2, a3, a4⟩ := pars_some ws hg m .not p p q f e rfl hp
          simp only
          exact ih m (.andM f) q a3 (by simp only [need]; omega) (by simp only [need]; omega) (fun f' hf => by rcases hf with hf | hf <;> cases hf; exact a1)
      | orM g =>
        simp only [need] at h1 h2
        simp only [pars]
        by_cases hm : isMark ws p 124 = true
        · rw [if_pos hm, if_pos hm]
          have hl := isMark_lt hm
          rw [ih m .and (p + 1) (by omega) (by simp only [need]; omega) (by simp only [need]; omega) (nw _ (.inr (.inl rfl)))]
          cases e : pars ws m .and (p + 1) with
          | none => rfl
          | some x =>
            obtain ⟨f, q⟩ := x
            obtain ⟨a1, a2, a3, a4⟩ := pars_some ws hg m .and (p + 1) (p + 1) q f e rfl (by omega)
            simp only
            exact ih m (.orM (.two 6 g f)) q a3 (by simp only [need]; omega) (by simp only [need]; omega) (fun f' hf => by rcases hf with hf | hf <;> cases hf; exact ⟨.inr rfl, hw g (.inl rfl), a1⟩)
        · rw [if_neg hm, if_neg hm]
      | andM g =>
        simp only [need] at h1 h2
        simp only [pars]
        by_cases hm : isMark ws p 38 = true
        · rw [if_pos hm, if_pos hm]
          have hl := isMark_lt hm
          rw [ih m .not (p + 1) (by omega) (by simp only [need]; omega) (by simp only [need]; omega) (nw _ (.inr (.inr rfl)))]
          cases e : pars ws m .not (p + 1) with
          | none => rfl
          | some x =>
            obtain ⟨f, q⟩ := x
            obtain ⟨a1, a2, a3, a4⟩ := pars_some ws hg m .not (p + 1) (p + 1) q f e rfl (by omega)
            simp only
            exact ih m (.andM (.two 5 g f)) q a3 (by simp only [need]; omega) (by simp only [need]; omega) (fun f' hf => by rcases hf with hf | hf <;> cases hf; exact ⟨.inl rfl, hw g (.inr rfl), a1⟩)
        · rw [if_neg hm, if_neg hm]
      | not =>
        simp only [need] at h1 h2
        simp only [pars]
        by_cases h33 : isMark ws p 33 = true
        · rw [if_pos h33, if_pos h33]
          have hl := isMark_lt h33
          rw [ih m .not (p + 1) (by omega) (by simp only [need]; omega) (by simp only [need]; omega) (nw _ (.inr (.inr rfl)))]
        · rw [if_neg h33, if_neg h33]
          by_cases h40 : isMark ws p 40 = true
          · rw [if_pos h40, if_pos h40]
            have hl := isMark_lt h40
            rw [ih m .or (p + 1) (by omega) (by simp only [need]; omega) (by simp only [need]; omega) (nw _ (.inl rfl))]
          · rw [if_neg h40, if_neg h40]

/-- What reading from p on tells. -/
def P (ws : List Wd.Word) (j : Job) (p : Nat) : Option (Ft × Nat) := pars ws 200 j p

/-- One round of it. -/
def step (A : Job → Nat → Option (Ft × Nat)) (ws : List Wd.Word) : Job → Nat → Option (Ft × Nat)
  | .or, p =>
    match A .and p with
    | none => none
    | some (f, q) => A (.orM f) q
  | .orM f, p =>
    if isMark ws p 124 then
      match A .and (p + 1) with
      | none => none
      | some (g, q) => A (.orM (.two 6 f g)) q
    else some (f, p)
  | .and, p =>
    match A .not p with
    | none => none
    | some (f, q) => A (.andM f) q
  | .andM f, p =>
    if isMark ws p 38 then
      match A .not (p + 1) with
      | none => none
      | some (g, q) => A (.andM (.two 5 f g)) q
    else some (f, p)
  | .not, p =>
    if isMark ws p 33 then
      match A .not (p + 1) with
      | none => none
      | some (f, q) => some (.non f, q)
    else if isMark ws p 40 then
      match A .or (p + 1) with
      | none => none
      | some (f, q) => if isMark ws q 41 then some (f, q + 1) else none
    else if isMark ws p 42 then some (.leaf 1 0 0 0 ⟨#[]⟩, p + 1)
    else if isMark ws p 94 then
      match name ws (p + 1) with
      | none => none
      | some t => some (.leaf 4 0 0 0 ⟨t.toArray⟩, p + 2)
    else if isMark ws p 64 then key ws (p + 1)
    else none

theorem pars_step (ws : List Wd.Word) (n : Nat) (j : Job) (p : Nat) : pars ws (n + 1) j p = step (pars ws n) ws j p := by
  cases j <;> simp only [pars, step] <;> rfl

theorem P_step (ws : List Wd.Word) (j : Job) (p : Nat) : P ws j p = step (pars ws 199) ws j p := pars_step ws 199 j p

theorem need_le (ws : List Wd.Word) (hg : Goods ws) (j : Job) (p : Nat) : need j (ws.length - p) ≤ 199 := by
  have := hg.1
  cases j <;> simp only [need] <;> omega

theorem P_199 {ws : List Wd.Word} (hg : Goods ws) (j : Job) (p : Nat) (hp : p ≤ ws.length) (hw : ∀ f, j = .orM f ∨ j = .andM f → f.wf) : pars ws 199 j p = P ws j p := by
  have h := need_le ws hg j p
  exact pars_fuel ws hg 199 200 j p hp h (by omega) hw

theorem P_some {ws : List Wd.Word} (hg : Goods ws) {j : Job} {s p q : Nat} {g : Ft} (h : P ws j p = some (g, q)) (hpre : pre j s p) (hp : p ≤ ws.length) : g.wf ∧ g.deep + s ≤ q ∧ q ≤ ws.length ∧ p ≤ q := pars_some ws hg 200 j s p q g h hpre hp

theorem plain_j (j : Job) (hj : j = .or ∨ j = .and ∨ j = .not) : ∀ f, j = .orM f ∨ j = .andM f → f.wf := fun f hf => by
  rcases hj with rfl | rfl | rfl <;> rcases hf with hf | hf <;> cases hf

theorem P_or {ws : List Wd.Word} (hg : Goods ws) (p : Nat) (hp : p ≤ ws.length) : P ws .or p = match P ws .and p with
    | none => none
    | some (f, q) => P ws (.orM f) q := by
  have e : P ws .or p = match pars ws 199 .and p with
    | none => none
    | some (f, q) => pars ws 199 (.orM f) q := by rw [P_step]; simp only [step]
  rw [e, P_199 hg .and p hp (plain_j _ (.inr (.inl rfl)))]
  cases h : P ws .and p with
  | none => rfl
  | some x =>
    obtain ⟨f, q⟩ := x
    obtain ⟨a1, a2, a3, a4⟩ := P_some hg h (s := p) rfl hp
    simp only
    exact P_199 hg (.orM f) q a3 (fun f' hf => by rcases hf with hf | hf <;> cases hf; exact a1)

theorem P_and {ws : List Wd.Word} (hg : Goods ws) (p : Nat) (hp : p ≤ ws.length) : P ws .and p = match P ws .not p with
    | none => none
    | some (f, q) => P ws (.andM f) q := by
  have e : P ws .and p = match pars ws 199 .not p with
    | none => none
    | some (f, q) => pars ws 199 (.andM f) q := by rw [P_step]; simp only [step]
  rw [e, P_199 hg .not p hp (plain_j _ (.inr (.inr rfl)))]
  cases h : P ws .not p with
  | none => rfl
  | some x =>
    obtain ⟨f, q⟩ := x
    obtain ⟨a1, a2, a3, a4⟩ := P_some hg h (s := p) rfl hp
    simp only
    exact P_199 hg (.andM f) q a3 (fun f' hf => by rcases hf with hf | hf <;> cases hf; exact a1)

theorem P_orM_no {ws : List Wd.Word} (f : Ft) (p : Nat) (h : isMark ws p 124 = false) : P ws (.orM f) p = some (f, p) := by
  rw [P_step]; simp only [step, h, Bool.false_eq_true, if_false]
theorem P_andM_no {ws : List Wd.Word} (f : Ft) (p : Nat) (h : isMark ws p 38 = false) : P ws (.andM f) p = some (f, p) := by
  rw [P_step]; simp only [step, h, Bool.false_eq_true, if_false]
theorem P_orM_bad {ws : List Wd.Word} (hg : Goods ws) (f : Ft) (p : Nat) (h : isMark ws p 124 = true) (hn : P ws .and (p + 1) = none) : P ws (.orM f) p = none := by
  rw [← P_199 hg .and (p + 1) (isMark_lt h) (plain_j _ (.inr (.inl rfl)))] at hn
  rw [P_step]; simp only [step, h, if_true, hn]
theorem P_andM_bad {ws : List Wd.Word} (hg : Goods ws) (f : Ft) (p : Nat) (h : isMark ws p 38 = true) (hn : P ws .not (p + 1) = none) : P ws (.andM f) p = none := by
  rw [← P_199 hg .not (p + 1) (isMark_lt h) (plain_j _ (.inr (.inr rfl)))] at hn
  rw [P_step]; simp only [step, h, if_true, hn]
theorem P_orM_yes {ws : List Wd.Word} (hg : Goods ws) (f g : Ft) (p q : Nat) (hf : f.wf) (h : isMark ws p 124 = true) (hn : P ws .and (p + 1) = some (g, q)) : P ws (.orM f) p = P ws (.orM (.two 6 f g)) q := by
  obtain ⟨a1, a2, a3, a4⟩ := P_some hg hn (s := p + 1) rfl (isMark_lt h)
  rw [← P_199 hg .and (p + 1) (isMark_lt h) (plain_j _ (.inr (.inl rfl)))] at hn
  have e : P ws (.orM f) p = pars ws 199 (.orM (.two 6 f g)) q := by rw [P_step]; simp only [step, h, if_true, hn]
  rw [e]
  exact P_199 hg _ q a3 (fun f' hf' => by rcases hf' with hf' | hf' <;> cases hf'; exact ⟨.inr rfl, hf, a1⟩)
theorem P_andM_yes {ws : List Wd.Word} (hg : Goods ws) (f g : Ft) (p q : Nat) (hf : f.wf) (h : isMark ws p 38 = true) (hn : P ws .not (p + 1) = some (g, q)) : P ws (.andM f) p = P ws (.andM (.two 5 f g)) q := by
  obtain ⟨a1, a2, a3, a4⟩ := P_some hg hn (s := p + 1) rfl (isMark_lt h)
  rw [← P_199 hg .not (p + 1) (isMark_lt h) (plain_j _ (.inr (.inr rfl)))] at hn
  have e : P ws (.andM f) p = pars ws 199 (.andM (.two 5 f g)) q := by rw [P_step]; simp only [step, h, if_true, hn]
  rw [e]
  exact P_199 hg _ q a3 (fun f' hf' => by rcases hf' with hf' | hf' <;> cases hf'; exact ⟨.inl rfl, hf, a1⟩)

/-- What binds most, once. -/
theorem P_not {ws : List Wd.Word} (hg : Goods ws) (p : Nat) (hp : p ≤ ws.length) : P ws .not p =
    if isMark ws p 33 then (match P ws .not (p + 1) with
      | none => none
      | some (f, q) => some (.non f, q))
    else if isMark ws p 40 then (match P ws .or (p + 1) with
      | none => none
      | some (f, q) => if isMark ws q 41 then some (f, q + 1) else none)
    else if isMark ws p 42 then some (.leaf 1 0 0 0 ⟨#[]⟩, p + 1)
    else if isMark ws p 94 then (match name ws (p + 1) with
      | none => none
      | some t => some (.leaf 4 0 0 0 ⟨t.toArray⟩, p + 2))
    else if isMark ws p 64 then key ws (p + 1)
    else none := by
  by_cases h33 : isMark ws p 33 = true
  · rw [← P_199 hg .not (p + 1) (isMark_lt h33) (plain_j _ (.inr (.inr rfl)))]
    rw [P_step]; simp only [step, h33, if_true] <;> rfl
  · by_cases h40 : isMark ws p 40 = true
    · rw [← P_199 hg .or (p + 1) (isMark_lt h40) (plain_j _ (.inl rfl))]
      rw [P_step]; simp only [step, h33, h40, Bool.false_eq_true, if_true, if_false] <;> rfl
    · rw [P_step]; simp only [step, h33, h40, Bool.false_eq_true, if_false] <;> rfl

end Ps
end Go.Proofs.YtdeojcodbojmoaaGreatDoor
