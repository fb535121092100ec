/- ViewEpochs: what the greatest of two rows is, and the two rows as they lie. -/
import Derived.Test.YtdeojcodbojmoaaGreatDoorEpw
namespace Go.Proofs.YtdeojcodbojmoaaGreatDoor
open Go.RowKit
set_option maxRecDepth 100000
set_option linter.unusedVariables false

theorem most_zip (k : Nat) : ∀ (l m : List Vw), l.length = m.length → (∀ (i : Nat) (a b : Vw), l[i]? = some a → m[i]? = some b → tell (pick a b) k = max (tell a k) (tell b k)) → most (List.zipWith pick l m) k = max (most l k) (most m k)
  | [], [], _, _ => by simp [most]
  | [], _ :: _, h, _ => by simp at h
  | _ :: _, [], h, _ => by simp at h
  | a :: l, b :: m, h, hp => by
    have h0 := hp 0 a b rfl rfl
    have ih := most_zip k l m (by simpa using h) (fun i x y hx hy => hp (i + 1) x y (by simpa using hx) (by simpa using hy))
    simp only [List.zipWith_cons_cons, most, ih, h0]
    omega

theorem tell_none {v : Vw} (h : v.ep = []) (k : Nat) : tell v k = 0 := by simp [tell, h]

theorem tell_pick {n i k : Nat} {a b : Vw} (ga : Gw n i a) (gb : Gw n i b) (t : Tt n a b) (hk : k < n) : tell (pick a b) k = max (tell a k) (tell b k) := by
  have pa := tell_pos ga k
  have pb := tell_pos gb k
  have la := ga.lo
  have lb := gb.lo
  unfold pick
  by_cases h1 : 0 < a.Rev
  · by_cases h2 : 0 < b.Rev
    · obtain ⟨t1, t2⟩ := t h1 h2
      by_cases h3 : b.Rev ≤ a.Rev
      · rw [if_pos h3]
        have := t2 (by omega) k hk
        omega
      · rw [if_neg h3]
        have := t1 (by omega) k hk
        omega
    · have := tell_none (gb.none (by omega)) k
      rw [if_pos (by omega)]
      omega
  · have e1 := tell_none (ga.none (by omega)) k
    by_cases h2 : 0 < b.Rev
    · rw [if_neg (by omega)]; omega
    · have e2 := tell_none (gb.none (by omega)) k
      rw [if_pos (by omega)]; omega

/-- The numbers of the merged row are the greater of both rows'. -/
theorem most_mg {n k : Nat} {A B : List (Vc × Vw)} (la : A.length = n) (lb : B.length = n) (ga : Gs n A) (gb : Gs n B) (t : TT n n A B) (hk : k < n) :
    (mg (A.map (·.2)) (B.map (·.2))).length = n ∧ most (mg (A.map (·.2)) (B.map (·.2))) k = max (most (A.map (·.2)) k) (most (B.map (·.2)) k) := by
  have R : ∀ {X : List (Vc × Vw)}, X.length = n → Gs n X → (X.map (·.2)).map (·.R) = (List.range n).map (fun i => ((i : Nat) : Int) + 1) := fun {X} hX hR => by
    apply List.ext_getElem
    · simp [hX]
    · intro i h1 h2
      have hi : i < X.length := by simpa using h1
      have := (hR i _ (List.getElem?_eq_getElem hi)).R
      simpa using this
  rw [mg_zip _ _ ((R la ga).trans (R lb gb).symm)]
  refine ⟨by simp [la, lb], most_zip k _ _ (by simp [la, lb]) (fun i a b ha hb => ?_)⟩
  rw [List.getElem?_map] at ha hb
  cases ea : A[i]? with
  | none => rw [ea] at ha; simp at ha
  | some x =>
    cases eb : B[i]? with
    | none => rw [eb] at hb; simp at hb
    | some y =>
      rw [ea] at ha; rw [eb] at hb
      simp at ha hb
      subst ha hb
      exact tell_pick (ga i x ea) (gb i y eb) (t i x y ea eb (by have := (List.getElem?_eq_some_iff.1 ea).1; omega)) hk

theorem Gs.tells {n : Nat} {A : List (Vc × Vw)} (g : Gs n A) : ∀ v ∈ A.map (·.2), Tells n v := fun v hv => by
  obtain ⟨p, hp, rfl⟩ := List.mem_map.1 hv
  obtain ⟨i, hi⟩ := List.mem_iff_getElem?.1 hp
  have h := g i p hi
  refine ⟨?_, h.pos⟩
  by_cases h0 : 0 < p.2.Rev
  · exact .inr (h.some h0)
  · exact .inl (h.none (by have := h.lo; omega))

theorem mg_tells {n : Nat} {A B : List (Vc × Vw)} (la : A.length = n) (lb : B.length = n) (ga : Gs n A) (gb : Gs n B) : ∀ v ∈ mg (A.map (·.2)) (B.map (·.2)), Tells n v := fun v hv => by
  have R : ∀ {X : List (Vc × Vw)}, X.length = n → Gs n X → (X.map (·.2)).map (·.R) = (List.range n).map (fun i => ((i : Nat) : Int) + 1) := fun {X} hX hR => by
    apply List.ext_getElem
    · simp [hX]
    · intro i h1 h2
      have hi : i < X.length := by simpa using h1
      have := (hR i _ (List.getElem?_eq_getElem hi)).R
      simpa using this
  rw [mg_zip _ _ ((R la ga).trans (R lb gb).symm)] at hv
  obtain ⟨i, hi⟩ := List.mem_iff_getElem?.1 hv
  rw [List.getElem?_zipWith] at hi
  cases ea : (A.map (·.2))[i]? with
  | none => rw [ea] at hi; simp at hi
  | some x =>
    cases eb : (B.map (·.2))[i]? with
    | none => rw [ea, eb] at hi; simp at hi
    | some y =>
      rw [ea, eb] at hi
      simp at hi
      subst hi
      unfold pick
      split
      · exact ga.tells _ (List.mem_of_getElem? ea)
      · exact gb.tells _ (List.mem_of_getElem? eb)

/-- The greatest of the first k views. -/
theorem most_take {A : List (Vc × Vw)} {k j : Nat} {p : Vc × Vw} (h : A[k]? = some p) : most ((A.map (·.2)).take (k + 1)) j = max (most ((A.map (·.2)).take k) j) (tell p.2 j) := by
  have e : (A.map (·.2))[k]? = some p.2 := by simp [h]
  have e2 : (A.map (·.2)).take (k + 1) = (A.map (·.2)).take k ++ [p.2] := by rw [List.take_add_one, e]; rfl
  rw [e2, most_snoc]

theorem Gs.of {n : Nat} {A : List (Vc × Vw)} (h : ∀ i (h : i < A.length), Gd n i (A[i]).2) : Gs n A := fun i a ha => by
  obtain ⟨hi, rfl⟩ := List.getElem?_eq_some_iff.1 ha
  have g := h i hi
  refine ⟨g.R, fun e => (g.none e).2.2, fun e => (g.some e).2.1, g.lo, fun e he => ?_⟩
  by_cases h0 : 0 < (A[i]).2.Rev
  · exact ((g.some h0).2.2.1 e he).1
  · have := (g.none (by have := g.lo; omega)).2.2
    rw [this] at he
    exact (List.not_mem_nil he).elim

/-- Two rows out of numbers, as they lie behind the second. -/
theorem e2_of {pb n : Nat} {w0 W1 W2 : World} {g0 g1 c0 c1 : Nat} {A B : List (Vc × Vw)} (hp : pb < w0.heap.size) (h1 : 1 ≤ n) (h5 : n ≤ 5) (k1 : Kept (But pb) w0 W1) (k2 : Kept (But pb) W1 W2)
    (oA : W1.ownsRow w0.heap.size 25 5 (.slice (some ⟨g0, 0, none⟩) n c0) n (pcells A)) (oB : W2.ownsRow W1.heap.size 25 5 (.slice (some ⟨g1, 0, none⟩) n c1) n (pcells B))
    (lA : Lvs (fun k => w0.heap.size ≤ k ∧ Far (.slice (some ⟨g0, 0, none⟩) n c0) k) W1 A) (lB : Lvs (fun k => W1.heap.size ≤ k ∧ Far (.slice (some ⟨g1, 0, none⟩) n c1) k) W2 B)
    (nA : A.length = n) (nB : B.length = n) (sA : Sep w0.heap.size A W1.heap.size) (sB : Sep W1.heap.size B W2.heap.size) (fA : Fz W1 A) (fB : Fz W2 B) : E2 W2 g0 g1 n w0.heap.size W2.heap.size A B := by
  have s1 := k1.size
  have s2 := k2.size
  have a0 := own_lt oA g0 rfl
  have a1 := own_lt oB g1 rfl
  have fr : ∀ {g n c k : Nat}, Far (.slice (some ⟨g, 0, none⟩) n c) k → k ≠ g := fun hf e => hf (by rw [e]; rfl)
  have l1 : Lvs (fun k => k ≠ pb ∧ k ≠ g0 ∧ k ≠ g1) W1 A := lA.mono (fun b hb h => ⟨by omega, fr h.2, by omega⟩)
  have kk : Kept (fun k => k ≠ pb ∧ k ≠ g0 ∧ k ≠ g1) W1 W2 := k2.mono (fun k _ h => h.1)
  refine ⟨(Rr.of_own oA h1 (by omega)).kept k2 (by unfold But; omega), Rr.of_own oB h1 (by omega), nA, nB, ?_, sA.append (Nat.le_refl _) sB, ?_⟩
  · exact ((l1.kept kk).mono (fun b _ h => h.2)).append (lB.mono (fun b hb h => ⟨by omega, fr h.2⟩))
  · intro p hp'
    rcases List.mem_append.1 hp' with hq | hq
    · exact fA.kept l1 kk p hq
    · exact fB p hq

end Go.Proofs.YtdeojcodbojmoaaGreatDoor
