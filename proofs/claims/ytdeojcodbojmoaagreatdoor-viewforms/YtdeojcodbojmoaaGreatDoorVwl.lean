/- Rows of views out of numbers. -/
import Derived.Test.YtdeojcodbojmoaaGreatDoorWnt
import Derived.Test.YtdeojcodbojmoaaGreatDoorMrg
import Derived.Deep.RegionLaw
namespace Go.Proofs.YtdeojcodbojmoaaGreatDoor
open Go.RowKit
set_option maxRecDepth 100000
set_option linter.unusedVariables false

/-- What a view out of numbers is. -/
structure Gd (n i : Nat) (v : Vw) : Prop where
  R : v.R = (i : Int) + 1
  lo : 0 ≤ v.Rev
  hi : v.Rev ≤ 3
  none : v.Rev = 0 → v.f = ⟨#[]⟩ ∧ v.sn = [] ∧ v.ep = []
  some : 0 < v.Rev → v.f ∈ wants ∧ v.ep.length = n ∧ (∀ e ∈ v.ep, 0 ≤ e ∧ e ≤ 3) ∧ ∃ it L R N, (1 ≤ it ∧ it ≤ 6 ∧ 1 ≤ L ∧ L ≤ 9 ∧ 1 ≤ R ∧ R ≤ 3 ∧ 1 ≤ N ∧ N ≤ L) ∧ v.sn = [⟨it, L, R, N⟩]

/-- A slice that is not empty lies in a block from lo on, below hi. -/
def Bl (ao : Option Addr) (n lo hi : Nat) : Prop := 0 < n → ∃ b off, ao = Option.some ⟨b, off, Option.none⟩ ∧ lo ≤ b ∧ b < hi

/-- Views whose lists lie one behind the other. -/
def Sep : Nat → List (Vc × Vw) → Nat → Prop
  | lo, [], hi => lo ≤ hi
  | lo, p :: r, hi => ∃ m1 m2, lo ≤ m1 ∧ m1 ≤ m2 ∧ Bl p.1.sa p.1.sn lo m1 ∧ Bl p.1.ea p.1.en m1 m2 ∧ Sep m2 r hi

theorem Sep.snoc {qs : List (Vc × Vw)} {p : Vc × Vw} : ∀ {lo hi m0 m1 m2 : Nat}, Sep lo qs hi → hi ≤ m0 → m0 ≤ m1 → m1 ≤ m2 → Bl p.1.sa p.1.sn m0 m1 → Bl p.1.ea p.1.en m1 m2 → Sep lo (qs ++ [p]) m2 := by
  induction qs with
  | nil =>
    intro lo hi m0 m1 m2 h h0 h1 h2 b1 b2
    have h' : lo ≤ hi := h
    refine ⟨m1, m2, by omega, h2, fun hn => ?_, b2, Nat.le_refl _⟩
    obtain ⟨b, off, e, h3, h4⟩ := b1 hn
    exact ⟨b, off, e, by omega, h4⟩
  | cons q r ih =>
    rintro lo hi m0 m1 m2 ⟨k1, k2, a1, a2, a3, a4, a5⟩ h0 h1 h2 b1 b2
    exact ⟨k1, k2, a1, a2, a3, a4, ih a5 h0 h1 h2 b1 b2⟩

theorem own_kept {P : Nat → Prop} {w w' : World} {base : Nat} {e : TypeId} {size : Nat} {v : Value} {n : Nat} {xs : List Value} (h : w.ownsRow base e size v n xs) (hb : Kept P w w') (hp : ∀ g, v.ownBlock = Option.some g → base ≤ g → P g) : w'.ownsRow base e size v n xs := by
  obtain ⟨h1, h2⟩ := h
  refine ⟨h1, ?_⟩
  rcases h2 with h2 | ⟨g, cap, cur, hv, hg, hh, r⟩
  · exact Or.inl h2
  · have hlt : g < w.heap.size := by
      by_cases hlt : g < w.heap.size
      · exact hlt
      · rw [Array.getElem?_eq_none (by omega)] at hh; cases hh
    exact Or.inr ⟨g, cap, cur, hv, hg, by rw [hb.block g hlt (hp g (by rw [hv]; rfl) hg)]; exact hh, r⟩

theorem inner_step {pb vb m6 : Nat} {U wr w7 w8 : World} {c0 c1 c2 c3 : Value} {eo : Option Addr} {ec j gg cap7 : Nat} {eps : List Int} {r : Int} {ob : Obj} (hpv : pb < vb) (hvm : vb < m6) (hm : m6 ≤ wr.heap.size)
    (hke : Kept (fun x => x ≠ pb ∧ x ≠ vb ∧ x < m6) U wr) (vx : ∀ i, wr.cell? ⟨vb, i, none⟩ = (#[c0, c1, c2, c3, .slice eo j ec] : Array Value)[i]?) (yx : ∀ i, wr.frozen? ⟨vb, i, none⟩ = false)
    (hw7 : Went pb wr.drew w7) (hown7 : w7.ownsRow m6 3 1 (.slice eo j ec) j (icells eps)) (hown8 : w8.ownsRow m6 3 1 (.slice (some ⟨gg, 0, none⟩) (j + 1) cap7) (j + 1) (icells eps ++ [.int .i64 r])) (hgrow : (w7.alloc ob).grownBy w8 (Value.slice eo j ec).ownBlock) (X : World) (hX : X = w8.setCell ⟨vb, 4, none⟩ (.slice (some ⟨gg, 0, none⟩) (j + 1) cap7)) :
    X.ownsRow m6 3 1 (.slice (some ⟨gg, 0, none⟩) (j + 1) cap7) (j + 1) (icells (eps ++ [r])) ∧ Kept (fun x => x ≠ pb ∧ x ≠ vb ∧ x < m6) U X ∧ (∀ i, X.cell? ⟨vb, i, none⟩ = (#[c0, c1, c2, c3, .slice (some ⟨gg, 0, none⟩) (j + 1) cap7] : Array Value)[i]?) ∧ (∀ i, X.frozen? ⟨vb, i, none⟩ = false) ∧ Pick X pb ∧ m6 ≤ X.heap.size := by
  have hd : wr.drew.heap.size = wr.heap.size := rfl
  have h7 : m6 ≤ w7.heap.size := Nat.le_trans hm hw7.2.size
  have hlt := own_lt hown7
  have ag : ∀ x, x < m6 → some x ≠ (Value.slice eo j ec).ownBlock := fun x hx e => by have := (hlt x e.symm).1; omega
  have k8 : Kept (fun x => x < m6) w7 w8 := ((Kept.refl _ w7).alloc ob).trans (Kept.grown hgrow (fun x hx => ag x hx))
  have hv7 : vb < w7.heap.size := by omega
  have c8 : ∀ i, w8.cell? ⟨vb, i, none⟩ = wr.cell? ⟨vb, i, none⟩ := fun i => (k8.cell hv7 hvm).trans (hw7.cell (by omega) hpv)
  have z8 : ∀ i, w8.frozen? ⟨vb, i, none⟩ = wr.frozen? ⟨vb, i, none⟩ := fun i => (k8.frozen hv7 hvm).trans (hw7.frozen (by omega) hpv)
  have h8 : m6 ≤ w8.heap.size := Nat.le_trans h7 k8.size
  have p8 : Below (pb + 1) w7 w8 := k8.below (by omega) (fun k hk => by omega)
  subst hX
  refine ⟨?_, ?_, ?_, ?_, ?_, ?_⟩
  · have e : icells (eps ++ [r]) = icells eps ++ [.int .i64 r] := by simp [icells]
    rw [e]
    exact own_kept (P := fun x => x ≠ vb) hown8 ((Kept.refl _ w8).setCell (p := ⟨vb, 4, none⟩) (fun x _ hx => hx) _) (fun x _ hx => by omega)
  · have a1 : Kept (fun x => x ≠ pb ∧ x ≠ vb ∧ x < m6) wr w7 := by
      have a0 : Kept (fun x => x ≠ pb ∧ x ≠ vb ∧ x < m6) wr.drew w7 := hw7.2.mono (fun k _ h => h.1)
      exact ⟨a0.os, a0.tape, a0.output, a0.size, a0.block⟩
    have a2 : Kept (fun x => x ≠ pb ∧ x ≠ vb ∧ x < m6) w7 w8 := k8.mono (fun k _ h => h.2.2)
    exact hke.trans ((a1.trans a2).setCell (p := ⟨vb, 4, none⟩) (fun k hk h => h.2.1) _)
  · intro i
    by_cases hi : i = 4
    · subst hi; exact (World.cell?_setCell_same _ _ _ (u := .slice eo j ec) ((c8 4).trans (vx 4))).trans rfl
    · rw [World.cell?_setCell_other _ _ _ _ (by simp <;> omega), c8, vx i]
      match i, hi with
      | 0, _ => rfl
      | 1, _ => rfl
      | 2, _ => rfl
      | 3, _ => rfl
      | n + 5, _ => rfl
  · intro i
    have := z8 i
    rw [yx i] at this
    simpa using this
  · exact (hw7.1.below p8).below ((Below.refl _ w8).setCell (by show pb + 1 ≤ vb; omega) _)
  · simpa using h8

/-- What is known of the row so far. -/
def Rw (w wr : World) (n k : Nat) (o : Option Addr) (oc : Nat) (qs : List (Vc × Vw)) : Prop :=
  qs.length = k ∧ wr.ownsRow w.heap.size 25 5 (.slice o k oc) k (pcells qs) ∧ Lvs (fun k' => w.heap.size ≤ k' ∧ Far (.slice o k oc) k') wr qs ∧ (∀ i (h : i < qs.length), Gd n i (qs[i]).2) ∧ Sep w.heap.size qs wr.heap.size

theorem outer_step {pb n k : Nat} {w wr Y w9 : World} {o : Option Addr} {oc g' cap' m1 : Nat} {qs : List (Vc × Vw)} {c : Vc} {v : Vw} {ob : Obj} (hpb : pb < w.heap.size) (hwent : Went pb w wr) (hq : Rw w wr n k o oc qs)
    (hK : Kept (fun x => x ≠ pb ∧ x < wr.heap.size) wr Y) (hpY : Pick Y pb) (lv : Lv (fun x => wr.heap.size ≤ x) Y c v) (hm1 : wr.heap.size ≤ m1) (hm2 : m1 ≤ Y.heap.size) (b1 : Bl c.sa c.sn wr.heap.size m1) (b2 : Bl c.ea c.en m1 Y.heap.size) (hG : Gd n k v)
    (hown' : w9.ownsRow w.heap.size 25 5 (.slice (some ⟨g', 0, none⟩) (k + 1) cap') (k + 1) (pcells qs ++ c.vals)) (hgrow : (Y.alloc ob).grownBy w9 (Value.slice o k oc).ownBlock) (hat : (Value.slice o k oc).ownBlock = some g' ∨ g' = Y.heap.size + 1) :
    Rw w w9 n (k + 1) (some ⟨g', 0, none⟩) cap' (qs ++ [(c, v)]) ∧ Went pb w w9 := by
  obtain ⟨h1, h2, h3, h4, h5⟩ := hq
  have hlt := own_lt h2
  have hsw := hwent.2.size
  have hYs : wr.heap.size ≤ Y.heap.size := hK.size
  have kY : Kept (fun x => x ≠ pb ∧ x < wr.heap.size) wr (Y.alloc ob) := hK.alloc ob
  have sz : (Y.alloc ob).heap.size = Y.heap.size + 1 := by simp
  have k9 : Kept (fun x => some x ≠ (Value.slice o k oc).ownBlock) Y w9 := ((Kept.refl _ Y).alloc ob).trans (Kept.grown hgrow (fun x hx => hx))
  refine ⟨⟨by simp [h1], ?_, ?_, ?_, ?_⟩, ?_⟩
  · rw [pcells_append]
    have e : pcells [(c, v)] = c.vals := by simp [pcells]
    rw [e]
    exact hown'
  · have hfar : ∀ b, (w.heap.size ≤ b ∧ Far (.slice o k oc) b) → b < Y.heap.size → w.heap.size ≤ b ∧ Far (.slice (some ⟨g', 0, none⟩) (k + 1) cap') b := by
      rintro b ⟨hb1, hb2⟩ hb3
      refine ⟨hb1, fun e => ?_⟩
      have e' : b = g' := by simpa [Value.ownBlock] using e
      subst e'
      rcases hat with hat | hat
      · exact hb2 hat.symm
      · omega
    refine Lvs.append ?_ ?_
    · intro p hp
      have l1 : Lv (fun b => (w.heap.size ≤ b ∧ Far (.slice o k oc) b) ∧ b < wr.heap.size) wr p.1 p.2 := (h3 p hp).mono (fun b hb h => ⟨h, hb⟩)
      have kk : Kept (fun b => (w.heap.size ≤ b ∧ Far (.slice o k oc) b) ∧ b < wr.heap.size) wr w9 := (hK.mono (fun b _ h => ⟨by omega, h.2⟩)).trans (k9.mono (fun b _ h => h.1.2))
      exact (l1.kept kk).mono (fun b _ h => hfar b h.1 (by omega))
    · intro p hp
      simp only [List.mem_singleton] at hp
      subst hp
      have l1 : Lv (fun b => wr.heap.size ≤ b ∧ b < Y.heap.size) Y c v := lv.mono (fun b hb h => ⟨h, hb⟩)
      have hne : ∀ b, wr.heap.size ≤ b → some b ≠ (Value.slice o k oc).ownBlock := fun b hb e => by have := (hlt b e.symm).2; omega
      exact (l1.kept (k9.mono (fun b _ h => hne b h.1))).mono (fun b _ h => hfar b ⟨by omega, hne b h.1⟩ h.2)
  · intro i hi
    by_cases hik : i < qs.length
    · rw [List.getElem_append_left hik]; exact h4 i hik
    · have e : i = qs.length := by simp at hi; omega
      subst e
      simp only [List.getElem_concat_length]
      rw [h1]; exact hG
  · have s9 : Y.heap.size ≤ w9.heap.size := k9.size
    refine h5.snoc (Nat.le_refl _) hm1 (by omega) b1 (fun hn => ?_)
    obtain ⟨b, off, e, h6, h7⟩ := b2 hn
    exact ⟨b, off, e, h6, by omega⟩
  · have hb0 : ∀ b, b < w.heap.size → some b ≠ (Value.slice o k oc).ownBlock := fun b hb e => by have := (hlt b e.symm).1; omega
    refine ⟨?_, ?_⟩
    · exact hpY.below ((k9.below (B := pb + 1) (by omega) (fun k hk => hb0 k (by omega))))
    · refine (Kept.trans (P := fun x => x ≠ pb ∧ x < w.heap.size) (hwent.2.mono (fun x _ h => h.1)) ((hK.mono (fun x _ h => ⟨h.1, by omega⟩)).trans (k9.mono (fun x _ h => hb0 x h.2)))).mono (fun x hx h => ⟨h, hx⟩)

end Go.Proofs.YtdeojcodbojmoaaGreatDoor
