/- What cardamomplay makes out of numbers: filters. -/
import Derived.Test.YtflpdekifkcfkabMake
namespace Go.Proofs.Ytflpdekifkcfkab
open Go.RowKit
set_option linter.unusedVariables false

def fvals : List Int := [0, 1, 5, 99]
theorem fvals_small : ∀ j : Fin 4, 0 ≤ fvals.getD j 0 ∧ fvals.getD j 0 ≤ 99 := by decide

def ftags : List ByteArray := [⟨#[97]⟩, ⟨#[97, 98]⟩, ⟨#[98]⟩]

/-- What making a filter leaves behind. -/
def FPost (pb : Nat) (D : Int) (w : World) (e : Ending) (w' : World) : Prop :=
  ∃ (f : Ev.Ft) (o k l h : Int) (t : ByteArray) (x : Option Addr) (n : Nat), e = .returned (.agg #[.int .i64 o, .int .i64 k, .int .i64 l, .int .i64 h, .string t, .slice x n n]) ∧ f.fine ∧ ((f.deep : Int) ≤ 1 ∨ (f.deep : Int) ≤ D) ∧ Lies (From w.heap.size) w' f o k l h t x n ∧ Went pb w w'

set_option maxHeartbeats 4000000 in
theorem filter_leaf (pb : Nat) (D : Int) (w : World) (hD : D ≤ 1) (hp : Pick w pb) :
    Calls Try.prog 10 #[.pointer (some ⟨pb, 0, none⟩), .int .i64 D] w (FPost pb D w) := by
  have hlt := hp.lt
  have hd : decide (D ≤ 1) = true := decide_eq_true hD
  unfold FPost
  go_enter Try.func10, Try.ntmps10
  go_wp2_with fail
  have hX : Went pb w (w.alloc (.cells #[.int .i64 0, .int .i64 0, .int .i64 0, .int .i64 0, .string ⟨#[]⟩, .slice none 0 0] 26)) := (Went.refl hp).alloc _
  have zc : ∀ o, (w.alloc (.cells #[.int .i64 0, .int .i64 0, .int .i64 0, .int .i64 0, .string ⟨#[]⟩, .slice none 0 0] 26)).cell? ⟨w.heap.size, o, none⟩ = (w.alloc (.cells #[.int .i64 0, .int .i64 0, .int .i64 0, .int .i64 0, .string ⟨#[]⟩, .slice none 0 0] 26)).cell? ⟨w.heap.size, o, none⟩ := fun _ => rfl
  have zf : ∀ o, (w.alloc (.cells #[.int .i64 0, .int .i64 0, .int .i64 0, .int .i64 0, .string ⟨#[]⟩, .slice none 0 0] 26)).frozen? ⟨w.heap.size, o, none⟩ = (w.alloc (.cells #[.int .i64 0, .int .i64 0, .int .i64 0, .int .i64 0, .string ⟨#[]⟩, .slice none 0 0] 26)).frozen? ⟨w.heap.size, o, none⟩ := fun _ => rfl
  have hlX : w.heap.size < (w.alloc (.cells #[.int .i64 0, .int .i64 0, .int .i64 0, .int .i64 0, .string ⟨#[]⟩, .slice none 0 0] 26)).heap.size := by simp
  refine (num_any pb 6 _ (by omega) (by omega) hX.1).mono ?_
  rintro e w2 ⟨k, hk, rfl, hw2⟩
  have hW2 := hX.trans hw2
  have zw20 : w2.cell? ⟨w.heap.size, 0, none⟩ = some (.int .i64 0) := (hw2.cell hlX hlt).trans ((zc 0).trans (by simp))
  have zw21 : w2.cell? ⟨w.heap.size, 1, none⟩ = some (.int .i64 0) := (hw2.cell hlX hlt).trans ((zc 1).trans (by simp))
  have zw22 : w2.cell? ⟨w.heap.size, 2, none⟩ = some (.int .i64 0) := (hw2.cell hlX hlt).trans ((zc 2).trans (by simp))
  have zw23 : w2.cell? ⟨w.heap.size, 3, none⟩ = some (.int .i64 0) := (hw2.cell hlX hlt).trans ((zc 3).trans (by simp))
  have zw24 : w2.cell? ⟨w.heap.size, 4, none⟩ = some (.string ⟨#[]⟩) := (hw2.cell hlX hlt).trans ((zc 4).trans (by simp))
  have zw25 : w2.cell? ⟨w.heap.size, 5, none⟩ = some (.slice none 0 0) := (hw2.cell hlX hlt).trans ((zc 5).trans (by simp))
  have zfw2 : ∀ o, w2.frozen? ⟨w.heap.size, o, none⟩ = false := fun o => (hw2.frozen hlX hlt).trans ((zf o).trans (by simp))
  have hlw2 : w.heap.size < w2.heap.size := Nat.lt_of_lt_of_le hlX hw2.2.size
  clear hX hw2 zc zf hlX
  have hk6 : k = 0 ∨ k = 1 ∨ k = 2 ∨ k = 3 ∨ k = 4 ∨ k = 5 := by omega
  rcases hk6 with rfl | rfl | rfl | rfl | rfl | rfl
  · go_wp2
    refine bodyPost_ret (v := .agg #[.int .i64 1, .int .i64 0, .int .i64 0, .int .i64 0, .string ⟨#[]⟩, .slice none 0 0]) (by simp [results, Try.results10, go_sem, *]) rfl ⟨.leaf 1 0 0 0 ⟨#[]⟩, 1, 0, 0, 0, ⟨#[]⟩, none, 0, rfl, ⟨by omega, by omega, by decide, by omega, by omega, by omega, by omega, by omega⟩, by simp [Ev.Ft.deep], ⟨rfl, rfl, rfl, rfl, rfl, rfl, rfl⟩, ?_⟩
    repeat (refine Went.setCell ?_ (by simp <;> omega) hlt _)
    exact hW2
  · go_wp2_with fail
    have hT : Went pb w2 (w2.alloc (.cells #[.int .i64 0, .int .i64 1, .int .i64 5, .int .i64 99] 3)) := (Went.refl hW2.1).alloc _
    have ht4 : ∀ k, k < 4 → (w2.alloc (.cells #[.int .i64 0, .int .i64 1, .int .i64 5, .int .i64 99] 3)).cell? ⟨w2.heap.size, k, none⟩ = some (.int .i64 (fvals.getD k 0)) := fun k hk => table_i fvals w2 3 k hk
    refine (num_any pb 4 _ (by omega) (by omega) hT.1).mono ?_
    rintro e w3 ⟨j, hj, rfl, hw3⟩
    have qx : w3.cell? ⟨w2.heap.size, j, none⟩ = some (.int .i64 (fvals.getD j 0)) := (hw3.cell (by simp) (by omega)).trans (ht4 j (by omega))
    have hj4 : j < 4 := by omega
    have hfv : 0 ≤ fvals.getD j 0 ∧ fvals.getD j 0 ≤ 99 := fvals_small ⟨j, hj4⟩
    generalize fvals.getD j 0 = a at *
    have zw30 := (hw3.cell (by simp; omega) hlt).trans ((World.cell?_alloc_past _ _ _ (hn := hlw2)).trans zw20)
    have zw31 := (hw3.cell (by simp; omega) hlt).trans ((World.cell?_alloc_past _ _ _ (hn := hlw2)).trans zw21)
    have zw32 := (hw3.cell (by simp; omega) hlt).trans ((World.cell?_alloc_past _ _ _ (hn := hlw2)).trans zw22)
    have zw33 := (hw3.cell (by simp; omega) hlt).trans ((World.cell?_alloc_past _ _ _ (hn := hlw2)).trans zw23)
    have zw34 := (hw3.cell (by simp; omega) hlt).trans ((World.cell?_alloc_past _ _ _ (hn := hlw2)).trans zw24)
    have zw35 := (hw3.cell (by simp; omega) hlt).trans ((World.cell?_alloc_past _ _ _ (hn := hlw2)).trans zw25)
    have zfw3 : ∀ o, w3.frozen? ⟨w.heap.size, o, none⟩ = false := fun o => (hw3.frozen (by simp; omega) hlt).trans ((World.frozen?_alloc_past _ _ _ (hn := hlw2)).trans (zfw2 o))
    have hlw3 : w.heap.size < w3.heap.size := by have := hw3.2.size; simp at this; omega
    have hW3 := hW2.trans (hT.trans hw3)
    clear hT ht4 hw3 hW2
    clear zw20 zw21 zw22 zw23 zw24 zw25 zfw2
    go_wp2_with fail
    refine (num_any pb 4 _ (by omega) (by omega) hW3.1).mono ?_
    rintro e w4 ⟨key, hkey, rfl, hw4⟩
    have zw40 := (hw4.cell hlw3 hlt).trans zw30
    have zw41 := (hw4.cell hlw3 hlt).trans zw31
    have zw42 := (hw4.cell hlw3 hlt).trans zw32
    have zw43 := (hw4.cell hlw3 hlt).trans zw33
    have zw44 := (hw4.cell hlw3 hlt).trans zw34
    have zw45 := (hw4.cell hlw3 hlt).trans zw35
    have zfw4 : ∀ o, w4.frozen? ⟨w.heap.size, o, none⟩ = false := fun o => (hw4.frozen hlw3 hlt).trans (zfw3 o)
    have hlw4 : w.heap.size < w4.heap.size := Nat.lt_of_lt_of_le hlw3 hw4.2.size
    have hW4 := hW3.trans hw4
    clear hW3 hw4 qx
    clear zw30 zw31 zw32 zw33 zw34 zw35 zfw3
    go_wp2
    refine bodyPost_ret (v := .agg #[.int .i64 2, .int .i64 key, .int .i64 a, .int .i64 a, .string ⟨#[]⟩, .slice none 0 0]) (by simp [results, Try.results10, go_sem, *]) rfl ⟨.leaf 2 key a a ⟨#[]⟩, 2, key, a, a, ⟨#[]⟩, none, 0, rfl, ⟨by omega, by omega, by decide, by omega, by omega, by omega, by omega, by omega⟩, by simp [Ev.Ft.deep], ⟨rfl, rfl, rfl, rfl, rfl, rfl, rfl⟩, ?_⟩
    repeat (refine Went.setCell ?_ (by simp <;> omega) hlt _)
    exact hW4
  · go_wp2_with fail
    have hT : Went pb w2 (w2.alloc (.cells #[.int .i64 0, .int .i64 1, .int .i64 5, .int .i64 99] 3)) := (Went.refl hW2.1).alloc _
    have ht4 : ∀ k, k < 4 → (w2.alloc (.cells #[.int .i64 0, .int .i64 1, .int .i64 5, .int .i64 99] 3)).cell? ⟨w2.heap.size, k, none⟩ = some (.int .i64 (fvals.getD k 0)) := fun k hk => table_i fvals w2 3 k hk
    refine (num_any pb 4 _ (by omega) (by omega) hT.1).mono ?_
    rintro e w3 ⟨j, hj, rfl, hw3⟩
    have qx : w3.cell? ⟨w2.heap.size, j, none⟩ = some (.int .i64 (fvals.getD j 0)) := (hw3.cell (by simp) (by omega)).trans (ht4 j (by omega))
    have hj4 : j < 4 := by omega
    have hfv : 0 ≤ fvals.getD j 0 ∧ fvals.getD j 0 ≤ 99 := fvals_small ⟨j, hj4⟩
    generalize fvals.getD j 0 = a at *
    have zw30 := (hw3.cell (by simp; omega) hlt).trans ((World.cell?_alloc_past _ _ _ (hn := hlw2)).trans zw20)
    have zw31 := (hw3.cell (by simp; omega) hlt).trans ((World.cell?_alloc_past _ _ _ (hn := hlw2)).trans zw21)
    have zw32 := (hw3.cell (by simp; omega) hlt).trans ((World.cell?_alloc_past _ _ _ (hn := hlw2)).trans zw22)
    have zw33 := (hw3.cell (by simp; omega) hlt).trans ((World.cell?_alloc_past _ _ _ (hn := hlw2)).trans zw23)
    have zw34 := (hw3.cell (by simp; omega) hlt).trans ((World.cell?_alloc_past _ _ _ (hn := hlw2)).trans zw24)
    have zw35 := (hw3.cell (by simp; omega) hlt).trans ((World.cell?_alloc_past _ _ _ (hn := hlw2)).trans zw25)
    have zfw3 : ∀ o, w3.frozen? ⟨w.heap.size, o, none⟩ = false := fun o => (hw3.frozen (by simp; omega) hlt).trans ((World.frozen?_alloc_past _ _ _ (hn := hlw2)).trans (zfw2 o))
    have hlw3 : w.heap.size < w3.heap.size := by have := hw3.2.size; simp at this; omega
    have hW3 := hW2.trans (hT.trans hw3)
    clear hT ht4 hw3 hW2
    clear zw20 zw21 zw22 zw23 zw24 zw25 zfw2
    go_wp2_with fail
    refine (num_any pb 4 _ (by omega) (by omega) hW3.1).mono ?_
    rintro e w4 ⟨key, hkey, rfl, hw4⟩
    have zw40 := (hw4.cell hlw3 hlt).trans zw30
    have zw41 := (hw4.cell hlw3 hlt).trans zw31
    have zw42 := (hw4.cell hlw3 hlt).trans zw32
    have zw43 := (hw4.cell hlw3 hlt).trans zw33
    have zw44 := (hw4.cell hlw3 hlt).trans zw34
    have zw45 := (hw4.cell hlw3 hlt).trans zw35
    have zfw4 : ∀ o, w4.frozen? ⟨w.heap.size, o, none⟩ = false := fun o => (hw4.frozen hlw3 hlt).trans (zfw3 o)
    have hlw4 : w.heap.size < w4.heap.size := Nat.lt_of_lt_of_le hlw3 hw4.2.size
    have hW4 := hW3.trans hw4
    clear hW3 hw4 qx
    clear zw30 zw31 zw32 zw33 zw34 zw35 zfw3
    go_wp2
    refine bodyPost_ret (v := .agg #[.int .i64 2, .int .i64 key, .int .i64 a, .int .i64 a, .string ⟨#[]⟩, .slice none 0 0]) (by simp [results, Try.results10, go_sem, *]) rfl ⟨.leaf 2 key a a ⟨#[]⟩, 2, key, a, a, ⟨#[]⟩, none, 0, rfl, ⟨by omega, by omega, by decide, by omega, by omega, by omega, by omega, by omega⟩, by simp [Ev.Ft.deep], ⟨rfl, rfl, rfl, rfl, rfl, rfl, rfl⟩, ?_⟩
    repeat (refine Went.setCell ?_ (by simp <;> omega) hlt _)
    exact hW4
  · go_wp2_with fail
    refine (num_any pb 4 _ (by omega) (by omega) hW2.1).mono ?_
    rintro e w3 ⟨key, hkey, rfl, hw3⟩
    have zw30 := (hw3.cell hlw2 hlt).trans zw20
    have zw31 := (hw3.cell hlw2 hlt).trans zw21
    have zw32 := (hw3.cell hlw2 hlt).trans zw22
    have zw33 := (hw3.cell hlw2 hlt).trans zw23
    have zw34 := (hw3.cell hlw2 hlt).trans zw24
    have zw35 := (hw3.cell hlw2 hlt).trans zw25
    have zfw3 : ∀ o, w3.frozen? ⟨w.heap.size, o, none⟩ = false := fun o => (hw3.frozen hlw2 hlt).trans (zfw2 o)
    have hlw3 : w.heap.size < w3.heap.size := Nat.lt_of_lt_of_le hlw2 hw3.2.size
    have hW3 := hW2.trans hw3
    clear hW2 hw3
    clear zw20 zw21 zw22 zw23 zw24 zw25 zfw2
    go_wp2_with fail
    refine (num_any pb 60 _ (by omega) (by omega) hW3.1).mono ?_
    rintro e w4 ⟨a, ha, rfl, hw4⟩
    have zw40 := (hw4.cell hlw3 hlt).trans zw30
    have zw41 := (hw4.cell hlw3 hlt).trans zw31
    have zw42 := (hw4.cell hlw3 hlt).trans zw32
    have zw43 := (hw4.cell hlw3 hlt).trans zw33
    have zw44 := (hw4.cell hlw3 hlt).trans zw34
    have zw45 := (hw4.cell hlw3 hlt).trans zw35
    have zfw4 : ∀ o, w4.frozen? ⟨w.heap.size, o, none⟩ = false := fun o => (hw4.frozen hlw3 hlt).trans (zfw3 o)
    have hlw4 : w.heap.size < w4.heap.size := Nat.lt_of_lt_of_le hlw3 hw4.2.size
    have hW4 := hW3.trans hw4
    clear hW3 hw4
    clear zw30 zw31 zw32 zw33 zw34 zw35 zfw3
    go_wp2_with fail
    obtain ⟨V, hV⟩ : ∃ V, V = (w4.alloc (.cells #[.int .i64 3, .int .i64 key, .int .i64 a, .int .i64 0, .string ⟨#[]⟩, .slice none 0 0] 26)) := ⟨_, rfl⟩
    rw [← hV]
    have hWV : Went pb w4 V := by rw [hV]; exact (Went.refl hW4.1).alloc _
    have b0 : V.cell? ⟨w4.heap.size, 0, none⟩ = some (.int .i64 3) := by rw [hV]; simp
    have b1 : V.cell? ⟨w4.heap.size, 1, none⟩ = some (.int .i64 key) := by rw [hV]; simp
    have b2 : V.cell? ⟨w4.heap.size, 2, none⟩ = some (.int .i64 a) := by rw [hV]; simp
    have b3 : V.cell? ⟨w4.heap.size, 3, none⟩ = some (.int .i64 0) := by rw [hV]; simp
    have b4 : V.cell? ⟨w4.heap.size, 4, none⟩ = some (.string ⟨#[]⟩) := by rw [hV]; simp
    have b5 : V.cell? ⟨w4.heap.size, 5, none⟩ = some (.slice none 0 0) := by rw [hV]; simp
    have bf : ∀ o, V.frozen? ⟨w4.heap.size, o, none⟩ = false := fun o => by rw [hV]; simp
    have hVs : w4.heap.size < V.heap.size := by rw [hV]; simp
    clear hV
    go_region_held3 (fun w' => w'.cell? ⟨w4.heap.size, 2, none⟩ = some (.int .i64 a))
      (first
        | go_keep
        | (rw [World.cell?_setCell_other _ _ _ _ (by simp)]; simp [*]))
      (first
        | (go_at_call 21; refine (num_any pb 40 _ (by omega) (by omega) hWV.drew.1).mono ?_; rintro e w5 ⟨r, hr, rfl, hw5⟩; have hcl : ∀ o, w5.cell? ⟨w4.heap.size, o, none⟩ = V.cell? ⟨w4.heap.size, o, none⟩ := fun o => hw5.cell hVs (by omega); have hfr : ∀ o, w5.frozen? ⟨w4.heap.size, o, none⟩ = V.frozen? ⟨w4.heap.size, o, none⟩ := fun o => hw5.frozen hVs (by omega)))
    have h45 := hWV.drew.trans hw5
    have zw50 := (h45.cell hlw4 hlt).trans zw40
    have zw51 := (h45.cell hlw4 hlt).trans zw41
    have zw52 := (h45.cell hlw4 hlt).trans zw42
    have zw53 := (h45.cell hlw4 hlt).trans zw43
    have zw54 := (h45.cell hlw4 hlt).trans zw44
    have zw55 := (h45.cell hlw4 hlt).trans zw45
    have zfw5 : ∀ o, w5.frozen? ⟨w.heap.size, o, none⟩ = false := fun o => (h45.frozen hlw4 hlt).trans (zfw4 o)
    have hlw5 : w.heap.size < w5.heap.size := Nat.lt_of_lt_of_le hlw4 h45.2.size
    have hW5 := hW4.trans h45
    have hne : w4.heap.size ≠ w.heap.size := by omega
    have hne' : w.heap.size ≠ w4.heap.size := by omega
    clear hW4 hWV hw5 h45
    clear zw40 zw41 zw42 zw43 zw44 zw45 zfw4
    go_wp2
    refine bodyPost_ret (v := .agg #[.int .i64 3, .int .i64 key, .int .i64 a, .int .i64 (a + r), .string ⟨#[]⟩, .slice none 0 0]) (by simp [results, Try.results10, go_sem, *]) rfl ⟨.leaf 3 key a (a + r) ⟨#[]⟩, 3, key, a, (a + r), ⟨#[]⟩, none, 0, rfl, ⟨by omega, by omega, by decide, by omega, by omega, by omega, by omega, by omega⟩, by simp [Ev.Ft.deep], ⟨rfl, rfl, rfl, rfl, rfl, rfl, rfl⟩, ?_⟩
    repeat (refine Went.setCell ?_ (by simp <;> omega) hlt _)
    exact hW5
  · go_wp2_with fail
    refine (num_any pb 4 _ (by omega) (by omega) hW2.1).mono ?_
    rintro e w3 ⟨key, hkey, rfl, hw3⟩
    have zw30 := (hw3.cell hlw2 hlt).trans zw20
    have zw31 := (hw3.cell hlw2 hlt).trans zw21
    have zw32 := (hw3.cell hlw2 hlt).trans zw22
    have zw33 := (hw3.cell hlw2 hlt).trans zw23
    have zw34 := (hw3.cell hlw2 hlt).trans zw24
    have zw35 := (hw3.cell hlw2 hlt).trans zw25
    have zfw3 : ∀ o, w3.frozen? ⟨w.heap.size, o, none⟩ = false := fun o => (hw3.frozen hlw2 hlt).trans (zfw2 o)
    have hlw3 : w.heap.size < w3.heap.size := Nat.lt_of_lt_of_le hlw2 hw3.2.size
    have hW3 := hW2.trans hw3
    clear hW2 hw3
    clear zw20 zw21 zw22 zw23 zw24 zw25 zfw2
    go_wp2_with fail
    refine (num_any pb 60 _ (by omega) (by omega) hW3.1).mono ?_
    rintro e w4 ⟨a, ha, rfl, hw4⟩
    have zw40 := (hw4.cell hlw3 hlt).trans zw30
    have zw41 := (hw4.cell hlw3 hlt).trans zw31
    have zw42 := (hw4.cell hlw3 hlt).trans zw32
    have zw43 := (hw4.cell hlw3 hlt).trans zw33
    have zw44 := (hw4.cell hlw3 hlt).trans zw34
    have zw45 := (hw4.cell hlw3 hlt).trans zw35
    have zfw4 : ∀ o, w4.frozen? ⟨w.heap.size, o, none⟩ = false := fun o => (hw4.frozen hlw3 hlt).trans (zfw3 o)
    have hlw4 : w.heap.size < w4.heap.size := Nat.lt_of_lt_of_le hlw3 hw4.2.size
    have hW4 := hW3.trans hw4
    clear hW3 hw4
    clear zw30 zw31 zw32 zw33 zw34 zw35 zfw3
    go_wp2_with fail
    obtain ⟨V, hV⟩ : ∃ V, V = (w4.alloc (.cells #[.int .i64 3, .int .i64 key, .int .i64 a, .int .i64 0, .string ⟨#[]⟩, .slice none 0 0] 26)) := ⟨_, rfl⟩
    rw [← hV]
    have hWV : Went pb w4 V := by rw [hV]; exact (Went.refl hW4.1).alloc _
    have b0 : V.cell? ⟨w4.heap.size, 0, none⟩ = some (.int .i64 3) := by rw [hV]; simp
    have b1 : V.cell? ⟨w4.heap.size, 1, none⟩ = some (.int .i64 key) := by rw [hV]; simp
    have b2 : V.cell? ⟨w4.heap.size, 2, none⟩ = some (.int .i64 a) := by rw [hV]; simp
    have b3 : V.cell? ⟨w4.heap.size, 3, none⟩ = some (.int .i64 0) := by rw [hV]; simp
    have b4 : V.cell? ⟨w4.heap.size, 4, none⟩ = some (.string ⟨#[]⟩) := by rw [hV]; simp
    have b5 : V.cell? ⟨w4.heap.size, 5, none⟩ = some (.slice none 0 0) := by rw [hV]; simp
    have bf : ∀ o, V.frozen? ⟨w4.heap.size, o, none⟩ = false := fun o => by rw [hV]; simp
    have hVs : w4.heap.size < V.heap.size := by rw [hV]; simp
    clear hV
    go_region_held3 (fun w' => w'.cell? ⟨w4.heap.size, 2, none⟩ = some (.int .i64 a))
      (first
        | go_keep
        | (rw [World.cell?_setCell_other _ _ _ _ (by simp)]; simp [*]))
      (first
        | (go_at_call 21; refine (num_any pb 40 _ (by omega) (by omega) hWV.drew.1).mono ?_; rintro e w5 ⟨r, hr, rfl, hw5⟩; have hcl : ∀ o, w5.cell? ⟨w4.heap.size, o, none⟩ = V.cell? ⟨w4.heap.size, o, none⟩ := fun o => hw5.cell hVs (by omega); have hfr : ∀ o, w5.frozen? ⟨w4.heap.size, o, none⟩ = V.frozen? ⟨w4.heap.size, o, none⟩ := fun o => hw5.frozen hVs (by omega)))
    have h45 := hWV.drew.trans hw5
    have zw50 := (h45.cell hlw4 hlt).trans zw40
    have zw51 := (h45.cell hlw4 hlt).trans zw41
    have zw52 := (h45.cell hlw4 hlt).trans zw42
    have zw53 := (h45.cell hlw4 hlt).trans zw43
    have zw54 := (h45.cell hlw4 hlt).trans zw44
    have zw55 := (h45.cell hlw4 hlt).trans zw45
    have zfw5 : ∀ o, w5.frozen? ⟨w.heap.size, o, none⟩ = false := fun o => (h45.frozen hlw4 hlt).trans (zfw4 o)
    have hlw5 : w.heap.size < w5.heap.size := Nat.lt_of_lt_of_le hlw4 h45.2.size
    have hW5 := hW4.trans h45
    have hne : w4.heap.size ≠ w.heap.size := by omega
    have hne' : w.heap.size ≠ w4.heap.size := by omega
    clear hW4 hWV hw5 h45
    clear zw40 zw41 zw42 zw43 zw44 zw45 zfw4
    go_wp2
    refine bodyPost_ret (v := .agg #[.int .i64 3, .int .i64 key, .int .i64 a, .int .i64 (a + r), .string ⟨#[]⟩, .slice none 0 0]) (by simp [results, Try.results10, go_sem, *]) rfl ⟨.leaf 3 key a (a + r) ⟨#[]⟩, 3, key, a, (a + r), ⟨#[]⟩, none, 0, rfl, ⟨by omega, by omega, by decide, by omega, by omega, by omega, by omega, by omega⟩, by simp [Ev.Ft.deep], ⟨rfl, rfl, rfl, rfl, rfl, rfl, rfl⟩, ?_⟩
    repeat (refine Went.setCell ?_ (by simp <;> omega) hlt _)
    exact hW5
  · go_wp2_with fail
    have hT : Went pb w2 (w2.alloc (.cells #[.string ⟨#[97]⟩, .string ⟨#[97, 98]⟩, .string ⟨#[98]⟩] 9)) := (Went.refl hW2.1).alloc _
    have ht3 : ∀ k, k < 3 → (w2.alloc (.cells #[.string ⟨#[97]⟩, .string ⟨#[97, 98]⟩, .string ⟨#[98]⟩] 9)).cell? ⟨w2.heap.size, k, none⟩ = some (.string (ftags.getD k ByteArray.empty)) := fun k hk => table_s ftags w2 9 k hk
    refine (num_any pb 3 _ (by omega) (by omega) hT.1).mono ?_
    rintro e w3 ⟨j, hj, rfl, hw3⟩
    have qx : w3.cell? ⟨w2.heap.size, j, none⟩ = some (.string (ftags.getD j ByteArray.empty)) := (hw3.cell (by simp) (by omega)).trans (ht3 j (by omega))
    have hj3 : j < 3 := by omega
    have hts := small_getD ftags 3 (by simp [ftags]; decide) j
    generalize ftags.getD j ByteArray.empty = t at *
    have zw30 := (hw3.cell (by simp; omega) hlt).trans ((World.cell?_alloc_past _ _ _ (hn := hlw2)).trans zw20)
    have zw31 := (hw3.cell (by simp; omega) hlt).trans ((World.cell?_alloc_past _ _ _ (hn := hlw2)).trans zw21)
    have zw32 := (hw3.cell (by simp; omega) hlt).trans ((World.cell?_alloc_past _ _ _ (hn := hlw2)).trans zw22)
    have zw33 := (hw3.cell (by simp; omega) hlt).trans ((World.cell?_alloc_past _ _ _ (hn := hlw2)).trans zw23)
    have zw34 := (hw3.cell (by simp; omega) hlt).trans ((World.cell?_alloc_past _ _ _ (hn := hlw2)).trans zw24)
    have zw35 := (hw3.cell (by simp; omega) hlt).trans ((World.cell?_alloc_past _ _ _ (hn := hlw2)).trans zw25)
    have zfw3 : ∀ o, w3.frozen? ⟨w.heap.size, o, none⟩ = false := fun o => (hw3.frozen (by simp; omega) hlt).trans ((World.frozen?_alloc_past _ _ _ (hn := hlw2)).trans (zfw2 o))
    have hlw3 : w.heap.size < w3.heap.size := by have := hw3.2.size; simp at this; omega
    have hW3 := hW2.trans (hT.trans hw3)
    clear hT ht3 hw3 hW2
    clear zw20 zw21 zw22 zw23 zw24 zw25 zfw2
    go_wp2
    refine bodyPost_ret (v := .agg #[.int .i64 4, .int .i64 0, .int .i64 0, .int .i64 0, .string t, .slice none 0 0]) (by simp [results, Try.results10, go_sem, *]) rfl ⟨.leaf 4 0 0 0 t, 4, 0, 0, 0, t, none, 0, rfl, ⟨by omega, by omega, by omega, by omega, by omega, by omega, by omega, by omega⟩, by simp [Ev.Ft.deep], ⟨rfl, rfl, rfl, rfl, rfl, rfl, rfl⟩, ?_⟩
    repeat (refine Went.setCell ?_ (by simp <;> omega) hlt _)
    exact hW3

set_option maxHeartbeats 4000000 in
theorem filter_step (pb : Nat) (D : Int) (w : World) (hD : 2 ≤ D) (hD6 : D ≤ 6) (hp : Pick w pb)
    (c : ∀ w', Pick w' pb → Calls Try.prog 10 #[.pointer (some ⟨pb, 0, none⟩), .int .i64 (D - 1)] w' (FPost pb (D - 1) w')) :
    Calls Try.prog 10 #[.pointer (some ⟨pb, 0, none⟩), .int .i64 D] w (FPost pb D w) := by
  have hlt := hp.lt
  have hd : decide (D ≤ 1) = false := decide_eq_false (by omega)
  unfold FPost at c ⊢
  go_enter Try.func10, Try.ntmps10
  go_wp2_with fail
  have hW : Went pb w (w.alloc (.cells #[.int .i64 0, .int .i64 0, .int .i64 0, .int .i64 0, .string ⟨#[]⟩, .slice none 0 0] 26)) := (Went.refl hp).alloc _
  refine (num_any pb 3 _ (by omega) (by omega) hW.1).mono ?_
  rintro e w1 ⟨k, hk, rfl, hw1⟩
  have hX : Went pb w w1 := hW.trans hw1
  have zc : ∀ o, w1.cell? ⟨w.heap.size, o, none⟩ = (w.alloc (.cells #[.int .i64 0, .int .i64 0, .int .i64 0, .int .i64 0, .string ⟨#[]⟩, .slice none 0 0] 26)).cell? ⟨w.heap.size, o, none⟩ := fun o => hw1.cell (by simp) hlt
  have zf : ∀ o, w1.frozen? ⟨w.heap.size, o, none⟩ = (w.alloc (.cells #[.int .i64 0, .int .i64 0, .int .i64 0, .int .i64 0, .string ⟨#[]⟩, .slice none 0 0] 26)).frozen? ⟨w.heap.size, o, none⟩ := fun o => hw1.frozen (by simp) hlt
  have hlX : w.heap.size < w1.heap.size := by have := hw1.2.size; simp at this; omega
  clear hW hw1
  by_cases hk0 : k = 0
  · subst hk0
    go_wp2_with fail
    clear c
    refine (num_any pb 6 _ (by omega) (by omega) hX.1).mono ?_
    rintro e w2 ⟨k, hk, rfl, hw2⟩
    have hW2 := hX.trans hw2
    have zw20 : w2.cell? ⟨w.heap.size, 0, none⟩ = some (.int .i64 0) := (hw2.cell hlX hlt).trans ((zc 0).trans (by simp))
    have zw21 : w2.cell? ⟨w.heap.size, 1, none⟩ = some (.int .i64 0) := (hw2.cell hlX hlt).trans ((zc 1).trans (by simp))
    have zw22 : w2.cell? ⟨w.heap.size, 2, none⟩ = some (.int .i64 0) := (hw2.cell hlX hlt).trans ((zc 2).trans (by simp))
    have zw23 : w2.cell? ⟨w.heap.size, 3, none⟩ = some (.int .i64 0) := (hw2.cell hlX hlt).trans ((zc 3).trans (by simp))
    have zw24 : w2.cell? ⟨w.heap.size, 4, none⟩ = some (.string ⟨#[]⟩) := (hw2.cell hlX hlt).trans ((zc 4).trans (by simp))
    have zw25 : w2.cell? ⟨w.heap.size, 5, none⟩ = some (.slice none 0 0) := (hw2.cell hlX hlt).trans ((zc 5).trans (by simp))
    have zfw2 : ∀ o, w2.frozen? ⟨w.heap.size, o, none⟩ = false := fun o => (hw2.frozen hlX hlt).trans ((zf o).trans (by simp))
    have hlw2 : w.heap.size < w2.heap.size := Nat.lt_of_lt_of_le hlX hw2.2.size
    clear hX hw2 zc zf hlX
    have hk6 : k = 0 ∨ k = 1 ∨ k = 2 ∨ k = 3 ∨ k = 4 ∨ k = 5 := by omega
    rcases hk6 with rfl | rfl | rfl | rfl | rfl | rfl
    · go_wp2
      refine bodyPost_ret (v := .agg #[.int .i64 1, .int .i64 0, .int .i64 0, .int .i64 0, .string ⟨#[]⟩, .slice none 0 0]) (by simp [results, Try.results10, go_sem, *]) rfl ⟨.leaf 1 0 0 0 ⟨#[]⟩, 1, 0, 0, 0, ⟨#[]⟩, none, 0, rfl, ⟨by omega, by omega, by decide, by omega, by omega, by omega, by omega, by omega⟩, by simp [Ev.Ft.deep], ⟨rfl, rfl, rfl, rfl, rfl, rfl, rfl⟩, ?_⟩
      repeat (refine Went.setCell ?_ (by simp <;> omega) hlt _)
      exact hW2
    · go_wp2_with fail
      have hT : Went pb w2 (w2.alloc (.cells #[.int .i64 0, .int .i64 1, .int .i64 5, .int .i64 99] 3)) := (Went.refl hW2.1).alloc _
      have ht4 : ∀ k, k < 4 → (w2.alloc (.cells #[.int .i64 0, .int .i64 1, .int .i64 5, .int .i64 99] 3)).cell? ⟨w2.heap.size, k, none⟩ = some (.int .i64 (fvals.getD k 0)) := fun k hk => table_i fvals w2 3 k hk
      refine (num_any pb 4 _ (by omega) (by omega) hT.1).mono ?_
      rintro e w3 ⟨j, hj, rfl, hw3⟩
      have qx : w3.cell? ⟨w2.heap.size, j, none⟩ = some (.int .i64 (fvals.getD j 0)) := (hw3.cell (by simp) (by omega)).trans (ht4 j (by omega))
      have hj4 : j < 4 := by omega
      have hfv : 0 ≤ fvals.getD j 0 ∧ fvals.getD j 0 ≤ 99 := fvals_small ⟨j, hj4⟩
      generalize fvals.getD j 0 = a at *
      have zw30 := (hw3.cell (by simp; omega) hlt).trans ((World.cell?_alloc_past _ _ _ (hn := hlw2)).trans zw20)
      have zw31 := (hw3.cell (by simp; omega) hlt).trans ((World.cell?_alloc_past _ _ _ (hn := hlw2)).trans zw21)
      have zw32 := (hw3.cell (by simp; omega) hlt).trans ((World.cell?_alloc_past _ _ _ (hn := hlw2)).trans zw22)
      have zw33 := (hw3.cell (by simp; omega) hlt).trans ((World.cell?_alloc_past _ _ _ (hn := hlw2)).trans zw23)
      have zw34 := (hw3.cell (by simp; omega) hlt).trans ((World.cell?_alloc_past _ _ _ (hn := hlw2)).trans zw24)
      have zw35 := (hw3.cell (by simp; omega) hlt).trans ((World.cell?_alloc_past _ _ _ (hn := hlw2)).trans zw25)
      have zfw3 : ∀ o, w3.frozen? ⟨w.heap.size, o, none⟩ = false := fun o => (hw3.frozen (by simp; omega) hlt).trans ((World.frozen?_alloc_past _ _ _ (hn := hlw2)).trans (zfw2 o))
      have hlw3 : w.heap.size < w3.heap.size := by have := hw3.2.size; simp at this; omega
      have hW3 := hW2.trans (hT.trans hw3)
      clear hT ht4 hw3 hW2
      clear zw20 zw21 zw22 zw23 zw24 zw25 zfw2
      go_wp2_with fail
      refine (num_any pb 4 _ (by omega) (by omega) hW3.1).mono ?_
      rintro e w4 ⟨key, hkey, rfl, hw4⟩
      have zw40 := (hw4.cell hlw3 hlt).trans zw30
      have zw41 := (hw4.cell hlw3 hlt).trans zw31
      have zw42 := (hw4.cell hlw3 hlt).trans zw32
      have zw43 := (hw4.cell hlw3 hlt).trans zw33
      have zw44 := (hw4.cell hlw3 hlt).trans zw34
      have zw45 := (hw4.cell hlw3 hlt).trans zw35
      have zfw4 : ∀ o, w4.frozen? ⟨w.heap.size, o, none⟩ = false := fun o => (hw4.frozen hlw3 hlt).trans (zfw3 o)
      have hlw4 : w.heap.size < w4.heap.size := Nat.lt_of_lt_of_le hlw3 hw4.2.size
      have hW4 := hW3.trans hw4
      clear hW3 hw4 qx
      clear zw30 zw31 zw32 zw33 zw34 zw35 zfw3
      go_wp2
      refine bodyPost_ret (v := .agg #[.int .i64 2, .int .i64 key, .int .i64 a, .int .i64 a, .string ⟨#[]⟩, .slice none 0 0]) (by simp [results, Try.results10, go_sem, *]) rfl ⟨.leaf 2 key a a ⟨#[]⟩, 2, key, a, a, ⟨#[]⟩, none, 0, rfl, ⟨by omega, by omega, by decide, by omega, by omega, by omega, by omega, by omega⟩, by simp [Ev.Ft.deep], ⟨rfl, rfl, rfl, rfl, rfl, rfl, rfl⟩, ?_⟩
      repeat (refine Went.setCell ?_ (by simp <;> omega) hlt _)
      exact hW4
    · go_wp2_with fail
      have hT : Went pb w2 (w2.alloc (.cells #[.int .i64 0, .int .i64 1, .int .i64 5, .int .i64 99] 3)) := (Went.refl hW2.1).alloc _
      have ht4 : ∀ k, k < 4 → (w2.alloc (.cells #[.int .i64 0, .int .i64 1, .int .i64 5, .int .i64 99] 3)).cell? ⟨w2.heap.size, k, none⟩ = some (.int .i64 (fvals.getD k 0)) := fun k hk => table_i fvals w2 3 k hk
      refine (num_any pb 4 _ (by omega) (by omega) hT.1).mono ?_
      rintro e w3 ⟨j, hj, rfl, hw3⟩
      have qx : w3.cell? ⟨w2.heap.size, j, none⟩ = some (.int .i64 (fvals.getD j 0)) := (hw3.cell (by simp) (by omega)).trans (ht4 j (by omega))
      have hj4 : j < 4 := by omega
      have hfv : 0 ≤ fvals.getD j 0 ∧ fvals.getD j 0 ≤ 99 := fvals_small ⟨j, hj4⟩
      generalize fvals.getD j 0 = a at *
      have zw30 := (hw3.cell (by simp; omega) hlt).trans ((World.cell?_alloc_past _ _ _ (hn := hlw2)).trans zw20)
      have zw31 := (hw3.cell (by simp; omega) hlt).trans ((World.cell?_alloc_past _ _ _ (hn := hlw2)).trans zw21)
      have zw32 := (hw3.cell (by simp; omega) hlt).trans ((World.cell?_alloc_past _ _ _ (hn := hlw2)).trans zw22)
      have zw33 := (hw3.cell (by simp; omega) hlt).trans ((World.cell?_alloc_past _ _ _ (hn := hlw2)).trans zw23)
      have zw34 := (hw3.cell (by simp; omega) hlt).trans ((World.cell?_alloc_past _ _ _ (hn := hlw2)).trans zw24)
      have zw35 := (hw3.cell (by simp; omega) hlt).trans ((World.cell?_alloc_past _ _ _ (hn := hlw2)).trans zw25)
      have zfw3 : ∀ o, w3.frozen? ⟨w.heap.size, o, none⟩ = false := fun o => (hw3.frozen (by simp; omega) hlt).trans ((World.frozen?_alloc_past _ _ _ (hn := hlw2)).trans (zfw2 o))
      have hlw3 : w.heap.size < w3.heap.size := by have := hw3.2.size; simp at this; omega
      have hW3 := hW2.trans (hT.trans hw3)
      clear hT ht4 hw3 hW2
      clear zw20 zw21 zw22 zw23 zw24 zw25 zfw2
      go_wp2_with fail
      refine (num_any pb 4 _ (by omega) (by omega) hW3.1).mono ?_
      rintro e w4 ⟨key, hkey, rfl, hw4⟩
      have zw40 := (hw4.cell hlw3 hlt).trans zw30
      have zw41 := (hw4.cell hlw3 hlt).trans zw31
      have zw42 := (hw4.cell hlw3 hlt).trans zw32
      have zw43 := (hw4.cell hlw3 hlt).trans zw33
      have zw44 := (hw4.cell hlw3 hlt).trans zw34
      have zw45 := (hw4.cell hlw3 hlt).trans zw35
      have zfw4 : ∀ o, w4.frozen? ⟨w.heap.size, o, none⟩ = false := fun o => (hw4.frozen hlw3 hlt).trans (zfw3 o)
      have hlw4 : w.heap.size < w4.heap.size := Nat.lt_of_lt_of_le hlw3 hw4.2.size
      have hW4 := hW3.trans hw4
      clear hW3 hw4 qx
      clear zw30 zw31 zw32 zw33 zw34 zw35 zfw3
      go_wp2
      refine bodyPost_ret (v := .agg #[.int .i64 2, .int .i64 key, .int .i64 a, .int .i64 a, .string ⟨#[]⟩, .slice none 0 0]) (by simp [results, Try.results10, go_sem, *]) rfl ⟨.leaf 2 key a a ⟨#[]⟩, 2, key, a, a, ⟨#[]⟩, none, 0, rfl, ⟨by omega, by omega, by decide, by omega, by omega, by omega, by omega, by omega⟩, by simp [Ev.Ft.deep], ⟨rfl, rfl, rfl, rfl, rfl, rfl, rfl⟩, ?_⟩
      repeat (refine Went.setCell ?_ (by simp <;> omega) hlt _)
      exact hW4
    · go_wp2_with fail
      refine (num_any pb 4 _ (by omega) (by omega) hW2.1).mono ?_
      rintro e w3 ⟨key, hkey, rfl, hw3⟩
      have zw30 := (hw3.cell hlw2 hlt).trans zw20
      have zw31 := (hw3.cell hlw2 hlt).trans zw21
      have zw32 := (hw3.cell hlw2 hlt).trans zw22
      have zw33 := (hw3.cell hlw2 hlt).trans zw23
      have zw34 := (hw3.cell hlw2 hlt).trans zw24
      have zw35 := (hw3.cell hlw2 hlt).trans zw25
      have zfw3 : ∀ o, w3.frozen? ⟨w.heap.size, o, none⟩ = false := fun o => (hw3.frozen hlw2 hlt).trans (zfw2 o)
      have hlw3 : w.heap.size < w3.heap.size := Nat.lt_of_lt_of_le hlw2 hw3.2.size
      have hW3 := hW2.trans hw3
      clear hW2 hw3
      clear zw20 zw21 zw22 zw23 zw24 zw25 zfw2
      go_wp2_with fail
      refine (num_any pb 60 _ (by omega) (by omega) hW3.1).mono ?_
      rintro e w4 ⟨a, ha, rfl, hw4⟩
      have zw40 := (hw4.cell hlw3 hlt).trans zw30
      have zw41 := (hw4.cell hlw3 hlt).trans zw31
      have zw42 := (hw4.cell hlw3 hlt).trans zw32
      have zw43 := (hw4.cell hlw3 hlt).trans zw33
      have zw44 := (hw4.cell hlw3 hlt).trans zw34
      have zw45 := (hw4.cell hlw3 hlt).trans zw35
      have zfw4 : ∀ o, w4.frozen? ⟨w.heap.size, o, none⟩ = false := fun o => (hw4.frozen hlw3 hlt).trans (zfw3 o)
      have hlw4 : w.heap.size < w4.heap.size := Nat.lt_of_lt_of_le hlw3 hw4.2.size
      have hW4 := hW3.trans hw4
      clear hW3 hw4
      clear zw30 zw31 zw32 zw33 zw34 zw35 zfw3
      go_wp2_with fail
      obtain ⟨V, hV⟩ : ∃ V, V = (w4.alloc (.cells #[.int .i64 3, .int .i64 key, .int .i64 a, .int .i64 0, .string ⟨#[]⟩, .slice none 0 0] 26)) := ⟨_, rfl⟩
      rw [← hV]
      have hWV : Went pb w4 V := by rw [hV]; exact (Went.refl hW4.1).alloc _
      have b0 : V.cell? ⟨w4.heap.size, 0, none⟩ = some (.int .i64 3) := by rw [hV]; simp
      have b1 : V.cell? ⟨w4.heap.size, 1, none⟩ = some (.int .i64 key) := by rw [hV]; simp
      have b2 : V.cell? ⟨w4.heap.size, 2, none⟩ = some (.int .i64 a) := by rw [hV]; simp
      have b3 : V.cell? ⟨w4.heap.size, 3, none⟩ = some (.int .i64 0) := by rw [hV]; simp
      have b4 : V.cell? ⟨w4.heap.size, 4, none⟩ = some (.string ⟨#[]⟩) := by rw [hV]; simp
      have b5 : V.cell? ⟨w4.heap.size, 5, none⟩ = some (.slice none 0 0) := by rw [hV]; simp
      have bf : ∀ o, V.frozen? ⟨w4.heap.size, o, none⟩ = false := fun o => by rw [hV]; simp
      have hVs : w4.heap.size < V.heap.size := by rw [hV]; simp
      clear hV
      go_region_held3 (fun w' => w'.cell? ⟨w4.heap.size, 2, none⟩ = some (.int .i64 a))
        (first
          | go_keep
          | (rw [World.cell?_setCell_other _ _ _ _ (by simp)]; simp [*]))
        (first
          | (go_at_call 21; refine (num_any pb 40 _ (by omega) (by omega) hWV.drew.1).mono ?_; rintro e w5 ⟨r, hr, rfl, hw5⟩; have hcl : ∀ o, w5.cell? ⟨w4.heap.size, o, none⟩ = V.cell? ⟨w4.heap.size, o, none⟩ := fun o => hw5.cell hVs (by omega); have hfr : ∀ o, w5.frozen? ⟨w4.heap.size, o, none⟩ = V.frozen? ⟨w4.heap.size, o, none⟩ := fun o => hw5.frozen hVs (by omega)))
      have h45 := hWV.drew.trans hw5
      have zw50 := (h45.cell hlw4 hlt).trans zw40
      have zw51 := (h45.cell hlw4 hlt).trans zw41
      have zw52 := (h45.cell hlw4 hlt).trans zw42
      have zw53 := (h45.cell hlw4 hlt).trans zw43
      have zw54 := (h45.cell hlw4 hlt).trans zw44
      have zw55 := (h45.cell hlw4 hlt).trans zw45
      have zfw5 : ∀ o, w5.frozen? ⟨w.heap.size, o, none⟩ = false := fun o => (h45.frozen hlw4 hlt).trans (zfw4 o)
      have hlw5 : w.heap.size < w5.heap.size := Nat.lt_of_lt_of_le hlw4 h45.2.size
      have hW5 := hW4.trans h45
      have hne : w4.heap.size ≠ w.heap.size := by omega
      have hne' : w.heap.size ≠ w4.heap.size := by omega
      clear hW4 hWV hw5 h45
      clear zw40 zw41 zw42 zw43 zw44 zw45 zfw4
      go_wp2
      refine bodyPost_ret (v := .agg #[.int .i64 3, .int .i64 key, .int .i64 a, .int .i64 (a + r), .string ⟨#[]⟩, .slice none 0 0]) (by simp [results, Try.results10, go_sem, *]) rfl ⟨.leaf 3 key a (a + r) ⟨#[]⟩, 3, key, a, (a + r), ⟨#[]⟩, none, 0, rfl, ⟨by omega, by omega, by decide, by omega, by omega, by omega, by omega, by omega⟩, by simp [Ev.Ft.deep], ⟨rfl, rfl, rfl, rfl, rfl, rfl, rfl⟩, ?_⟩
      repeat (refine Went.setCell ?_ (by simp <;> omega) hlt _)
      exact hW5
    · go_wp2_with fail
      refine (num_any pb 4 _ (by omega) (by omega) hW2.1).mono ?_
      rintro e w3 ⟨key, hkey, rfl, hw3⟩
      have zw30 := (hw3.cell hlw2 hlt).trans zw20
      have zw31 := (hw3.cell hlw2 hlt).trans zw21
      have zw32 := (hw3.cell hlw2 hlt).trans zw22
      have zw33 := (hw3.cell hlw2 hlt).trans zw23
      have zw34 := (hw3.cell hlw2 hlt).trans zw24
      have zw35 := (hw3.cell hlw2 hlt).trans zw25
      have zfw3 : ∀ o, w3.frozen? ⟨w.heap.size, o, none⟩ = false := fun o => (hw3.frozen hlw2 hlt).trans (zfw2 o)
      have hlw3 : w.heap.size < w3.heap.size := Nat.lt_of_lt_of_le hlw2 hw3.2.size
      have hW3 := hW2.trans hw3
      clear hW2 hw3
      clear zw20 zw21 zw22 zw23 zw24 zw25 zfw2
      go_wp2_with fail
      refine (num_any pb 60 _ (by omega) (by omega) hW3.1).mono ?_
      rintro e w4 ⟨a, ha, rfl, hw4⟩
      have zw40 := (hw4.cell hlw3 hlt).trans zw30
      have zw41 := (hw4.cell hlw3 hlt).trans zw31
      have zw42 := (hw4.cell hlw3 hlt).trans zw32
      have zw43 := (hw4.cell hlw3 hlt).trans zw33
      have zw44 := (hw4.cell hlw3 hlt).trans zw34
      have zw45 := (hw4.cell hlw3 hlt).trans zw35
      have zfw4 : ∀ o, w4.frozen? ⟨w.heap.size, o, none⟩ = false := fun o => (hw4.frozen hlw3 hlt).trans (zfw3 o)
      have hlw4 : w.heap.size < w4.heap.size := Nat.lt_of_lt_of_le hlw3 hw4.2.size
      have hW4 := hW3.trans hw4
      clear hW3 hw4
      clear zw30 zw31 zw32 zw33 zw34 zw35 zfw3
      go_wp2_with fail
      obtain ⟨V, hV⟩ : ∃ V, V = (w4.alloc (.cells #[.int .i64 3, .int .i64 key, .int .i64 a, .int .i64 0, .string ⟨#[]⟩, .slice none 0 0] 26)) := ⟨_, rfl⟩
      rw [← hV]
      have hWV : Went pb w4 V := by rw [hV]; exact (Went.refl hW4.1).alloc _
      have b0 : V.cell? ⟨w4.heap.size, 0, none⟩ = some (.int .i64 3) := by rw [hV]; simp
      have b1 : V.cell? ⟨w4.heap.size, 1, none⟩ = some (.int .i64 key) := by rw [hV]; simp
      have b2 : V.cell? ⟨w4.heap.size, 2, none⟩ = some (.int .i64 a) := by rw [hV]; simp
      have b3 : V.cell? ⟨w4.heap.size, 3, none⟩ = some (.int .i64 0) := by rw [hV]; simp
      have b4 : V.cell? ⟨w4.heap.size, 4, none⟩ = some (.string ⟨#[]⟩) := by rw [hV]; simp
      have b5 : V.cell? ⟨w4.heap.size, 5, none⟩ = some (.slice none 0 0) := by rw [hV]; simp
      have bf : ∀ o, V.frozen? ⟨w4.heap.size, o, none⟩ = false := fun o => by rw [hV]; simp
      have hVs : w4.heap.size < V.heap.size := by rw [hV]; simp
      clear hV
      go_region_held3 (fun w' => w'.cell? ⟨w4.heap.size, 2, none⟩ = some (.int .i64 a))
        (first
          | go_keep
          | (rw [World.cell?_setCell_other _ _ _ _ (by simp)]; simp [*]))
        (first
          | (go_at_call 21; refine (num_any pb 40 _ (by omega) (by omega) hWV.drew.1).mono ?_; rintro e w5 ⟨r, hr, rfl, hw5⟩; have hcl : ∀ o, w5.cell? ⟨w4.heap.size, o, none⟩ = V.cell? ⟨w4.heap.size, o, none⟩ := fun o => hw5.cell hVs (by omega); have hfr : ∀ o, w5.frozen? ⟨w4.heap.size, o, none⟩ = V.frozen? ⟨w4.heap.size, o, none⟩ := fun o => hw5.frozen hVs (by omega)))
      have h45 := hWV.drew.trans hw5
      have zw50 := (h45.cell hlw4 hlt).trans zw40
      have zw51 := (h45.cell hlw4 hlt).trans zw41
      have zw52 := (h45.cell hlw4 hlt).trans zw42
      have zw53 := (h45.cell hlw4 hlt).trans zw43
      have zw54 := (h45.cell hlw4 hlt).trans zw44
      have zw55 := (h45.cell hlw4 hlt).trans zw45
      have zfw5 : ∀ o, w5.frozen? ⟨w.heap.size, o, none⟩ = false := fun o => (h45.frozen hlw4 hlt).trans (zfw4 o)
      have hlw5 : w.heap.size < w5.heap.size := Nat.lt_of_lt_of_le hlw4 h45.2.size
      have hW5 := hW4.trans h45
      have hne : w4.heap.size ≠ w.heap.size := by omega
      have hne' : w.heap.size ≠ w4.heap.size := by omega
      clear hW4 hWV hw5 h45
      clear zw40 zw41 zw42 zw43 zw44 zw45 zfw4
      go_wp2
      refine bodyPost_ret (v := .agg #[.int .i64 3, .int .i64 key, .int .i64 a, .int .i64 (a + r), .string ⟨#[]⟩, .slice none 0 0]) (by simp [results, Try.results10, go_sem, *]) rfl ⟨.leaf 3 key a (a + r) ⟨#[]⟩, 3, key, a, (a + r), ⟨#[]⟩, none, 0, rfl, ⟨by omega, by omega, by decide, by omega, by omega, by omega, by omega, by omega⟩, by simp [Ev.Ft.deep], ⟨rfl, rfl, rfl, rfl, rfl, rfl, rfl⟩, ?_⟩
      repeat (refine Went.setCell ?_ (by simp <;> omega) hlt _)
      exact hW5
    · go_wp2_with fail
      have hT : Went pb w2 (w2.alloc (.cells #[.string ⟨#[97]⟩, .string ⟨#[97, 98]⟩, .string ⟨#[98]⟩] 9)) := (Went.refl hW2.1).alloc _
      have ht3 : ∀ k, k < 3 → (w2.alloc (.cells #[.string ⟨#[97]⟩, .string ⟨#[97, 98]⟩, .string ⟨#[98]⟩] 9)).cell? ⟨w2.heap.size, k, none⟩ = some (.string (ftags.getD k ByteArray.empty)) := fun k hk => table_s ftags w2 9 k hk
      refine (num_any pb 3 _ (by omega) (by omega) hT.1).mono ?_
      rintro e w3 ⟨j, hj, rfl, hw3⟩
      have qx : w3.cell? ⟨w2.heap.size, j, none⟩ = some (.string (ftags.getD j ByteArray.empty)) := (hw3.cell (by simp) (by omega)).trans (ht3 j (by omega))
      have hj3 : j < 3 := by omega
      have hts := small_getD ftags 3 (by simp [ftags]; decide) j
      generalize ftags.getD j ByteArray.empty = t at *
      have zw30 := (hw3.cell (by simp; omega) hlt).trans ((World.cell?_alloc_past _ _ _ (hn := hlw2)).trans zw20)
      have zw31 := (hw3.cell (by simp; omega) hlt).trans ((World.cell?_alloc_past _ _ _ (hn := hlw2)).trans zw21)
      have zw32 := (hw3.cell (by simp; omega) hlt).trans ((World.cell?_alloc_past _ _ _ (hn := hlw2)).trans zw22)
      have zw33 := (hw3.cell (by simp; omega) hlt).trans ((World.cell?_alloc_past _ _ _ (hn := hlw2)).trans zw23)
      have zw34 := (hw3.cell (by simp; omega) hlt).trans ((World.cell?_alloc_past _ _ _ (hn := hlw2)).trans zw24)
      have zw35 := (hw3.cell (by simp; omega) hlt).trans ((World.cell?_alloc_past _ _ _ (hn := hlw2)).trans zw25)
      have zfw3 : ∀ o, w3.frozen? ⟨w.heap.size, o, none⟩ = false := fun o => (hw3.frozen (by simp; omega) hlt).trans ((World.frozen?_alloc_past _ _ _ (hn := hlw2)).trans (zfw2 o))
      have hlw3 : w.heap.size < w3.heap.size := by have := hw3.2.size; simp at this; omega
      have hW3 := hW2.trans (hT.trans hw3)
      clear hT ht3 hw3 hW2
      clear zw20 zw21 zw22 zw23 zw24 zw25 zfw2
      go_wp2
      refine bodyPost_ret (v := .agg #[.int .i64 4, .int .i64 0, .int .i64 0, .int .i64 0, .string t, .slice none 0 0]) (by simp [results, Try.results10, go_sem, *]) rfl ⟨.leaf 4 0 0 0 t, 4, 0, 0, 0, t, none, 0, rfl, ⟨by omega, by omega, by omega, by omega, by omega, by omega, by omega, by omega⟩, by simp [Ev.Ft.deep], ⟨rfl, rfl, rfl, rfl, rfl, rfl, rfl⟩, ?_⟩
      repeat (refine Went.setCell ?_ (by simp <;> omega) hlt _)
      exact hW3

  · have hk3 : ((k : Int) == 0) = false := beq_eq_false_iff_ne.2 (by omega)
    go_wp2_with fail
    refine (num_any pb 3 _ (by omega) (by omega) hX.1).mono ?_
    rintro e w2 ⟨q, hq, rfl, hw2⟩
    have hW2 := hX.trans hw2
    have zw20 : w2.cell? ⟨w.heap.size, 0, none⟩ = some (.int .i64 0) := (hw2.cell hlX hlt).trans ((zc 0).trans (by simp))
    have zw21 : w2.cell? ⟨w.heap.size, 1, none⟩ = some (.int .i64 0) := (hw2.cell hlX hlt).trans ((zc 1).trans (by simp))
    have zw22 : w2.cell? ⟨w.heap.size, 2, none⟩ = some (.int .i64 0) := (hw2.cell hlX hlt).trans ((zc 2).trans (by simp))
    have zw23 : w2.cell? ⟨w.heap.size, 3, none⟩ = some (.int .i64 0) := (hw2.cell hlX hlt).trans ((zc 3).trans (by simp))
    have zw24 : w2.cell? ⟨w.heap.size, 4, none⟩ = some (.string ⟨#[]⟩) := (hw2.cell hlX hlt).trans ((zc 4).trans (by simp))
    have zw25 : w2.cell? ⟨w.heap.size, 5, none⟩ = some (.slice none 0 0) := (hw2.cell hlX hlt).trans ((zc 5).trans (by simp))
    have zfw2 : ∀ o, w2.frozen? ⟨w.heap.size, o, none⟩ = false := fun o => (hw2.frozen hlX hlt).trans ((zf o).trans (by simp))
    have hlw2 : w.heap.size < w2.heap.size := Nat.lt_of_lt_of_le hlX hw2.2.size
    clear hX hw2 zc zf hlX
    by_cases hq0 : q = 0
    · subst hq0
      go_wp2_with fail
      refine (c w2 hW2.1).mono ?_
      rintro e w3 ⟨f1, o1, k1, l1, h1, t1, x1, n1, rfl, ok1, dp1, ly1, hw3⟩
      have zw30 := (hw3.cell hlw2 hlt).trans zw20
      have zw31 := (hw3.cell hlw2 hlt).trans zw21
      have zw32 := (hw3.cell hlw2 hlt).trans zw22
      have zw33 := (hw3.cell hlw2 hlt).trans zw23
      have zw34 := (hw3.cell hlw2 hlt).trans zw24
      have zw35 := (hw3.cell hlw2 hlt).trans zw25
      have zfw3 : ∀ o, w3.frozen? ⟨w.heap.size, o, none⟩ = false := fun o => (hw3.frozen hlw2 hlt).trans (zfw2 o)
      have hlw3 : w.heap.size < w3.heap.size := Nat.lt_of_lt_of_le hlw2 hw3.2.size
      have hW3 := hW2.trans hw3
      clear hW2 hw3
      clear zw20 zw21 zw22 zw23 zw24 zw25 zfw2
      obtain ⟨V, hV⟩ : ∃ V, V = w3.alloc (.cells #[.int .i64 o1, .int .i64 k1, .int .i64 l1, .int .i64 h1, .string t1, .slice x1 n1 n1] 26) := ⟨_, rfl⟩
      have hSix : Six V w3.heap.size 0 o1 k1 l1 h1 t1 x1 n1 := by rw [hV]; unfold Six; simp
      have zV0 := (Went.cell (w' := V) (by rw [hV]; exact (Went.refl hW3.1).alloc _) hlw3 hlt (o := 0)).trans zw30
      have zV1 := (Went.cell (w' := V) (by rw [hV]; exact (Went.refl hW3.1).alloc _) hlw3 hlt (o := 1)).trans zw31
      have zV2 := (Went.cell (w' := V) (by rw [hV]; exact (Went.refl hW3.1).alloc _) hlw3 hlt (o := 2)).trans zw32
      have zV3 := (Went.cell (w' := V) (by rw [hV]; exact (Went.refl hW3.1).alloc _) hlw3 hlt (o := 3)).trans zw33
      have zV4 := (Went.cell (w' := V) (by rw [hV]; exact (Went.refl hW3.1).alloc _) hlw3 hlt (o := 4)).trans zw34
      have zV5 := (Went.cell (w' := V) (by rw [hV]; exact (Went.refl hW3.1).alloc _) hlw3 hlt (o := 5)).trans zw35
      have zVf : ∀ o, V.frozen? ⟨w.heap.size, o, none⟩ = false := fun o => (Went.frozen (w' := V) (by rw [hV]; exact (Went.refl hW3.1).alloc _) hlw3 hlt (o := o)).trans (zfw3 o)
      have hWV : Went pb w V := by rw [hV]; exact hW3.alloc _
      have lyV : Lies (From w2.heap.size) V f1 o1 k1 l1 h1 t1 x1 n1 := Lies.kept (by rw [hV]; exact (Kept.refl _ w3).alloc _) f1 ly1
      have hs3 : w.heap.size ≤ w3.heap.size := by omega
      clear hW3 ly1 c
      clear zw30 zw31 zw32 zw33 zw34 zw35 zfw3
      simp only []
      iterate 4 (first | go_skip | go_guarded | go_step | go_upon | go_simp)
      rw [← hV]
      clear hV
      go_wp2
      refine bodyPost_ret (v := .agg #[.int .i64 7, .int .i64 0, .int .i64 0, .int .i64 0, .string ⟨#[]⟩, .slice (some ⟨w3.heap.size, 0, none⟩) 1 1]) (by simp [results, Try.results10, go_sem, *]) rfl ⟨.non f1, 7, 0, 0, 0, ⟨#[]⟩, some ⟨w3.heap.size, 0, none⟩, 1, rfl, ok1, by simp only [Ev.Ft.deep]; omega, ⟨rfl, rfl, rfl, rfl, rfl, w3.heap.size, o1, k1, l1, h1, t1, x1, n1, rfl, rfl, hs3, hSix.of (fun i => ?_), Lies.mono (P := From w2.heap.size) (fun b _ hb => by unfold From at *; omega) f1 (Lies.kept ?_ f1 lyV)⟩, ?_⟩
      · repeat rw [World.cell?_setCell_other _ _ _ _ (fun e => by have := congrArg Addr.block e; simp at this; omega)]
      · repeat (refine Kept.setCell ?_ (fun k hk hq => by unfold From at hq; simp; omega) _)
        exact Kept.refl _ _
      · repeat (refine Went.setCell ?_ (by simp <;> omega) hlt _)
        exact hWV
    · have hq2 : ((q : Int) == 0) = false := beq_eq_false_iff_ne.2 (by omega)
      go_wp2_with fail
      refine (num_any pb 2 _ (by omega) (by omega) hW2.1).mono ?_
      rintro e w3 ⟨op, hop, rfl, hw3⟩
      have zw30 := (hw3.cell hlw2 hlt).trans zw20
      have zw31 := (hw3.cell hlw2 hlt).trans zw21
      have zw32 := (hw3.cell hlw2 hlt).trans zw22
      have zw33 := (hw3.cell hlw2 hlt).trans zw23
      have zw34 := (hw3.cell hlw2 hlt).trans zw24
      have zw35 := (hw3.cell hlw2 hlt).trans zw25
      have zfw3 : ∀ o, w3.frozen? ⟨w.heap.size, o, none⟩ = false := fun o => (hw3.frozen hlw2 hlt).trans (zfw2 o)
      have hlw3 : w.heap.size < w3.heap.size := Nat.lt_of_lt_of_le hlw2 hw3.2.size
      have hW3 := hW2.trans hw3
      clear hW2 hw3
      clear zw20 zw21 zw22 zw23 zw24 zw25 zfw2
      go_wp2_with fail
      refine (c w3 hW3.1).mono ?_
      rintro e w4 ⟨f1, o1, k1, l1, h1, t1, x1, n1, rfl, ok1, dp1, ly1, hw4⟩
      have zw40 := (hw4.cell hlw3 hlt).trans zw30
      have zw41 := (hw4.cell hlw3 hlt).trans zw31
      have zw42 := (hw4.cell hlw3 hlt).trans zw32
      have zw43 := (hw4.cell hlw3 hlt).trans zw33
      have zw44 := (hw4.cell hlw3 hlt).trans zw34
      have zw45 := (hw4.cell hlw3 hlt).trans zw35
      have zfw4 : ∀ o, w4.frozen? ⟨w.heap.size, o, none⟩ = false := fun o => (hw4.frozen hlw3 hlt).trans (zfw3 o)
      have hlw4 : w.heap.size < w4.heap.size := Nat.lt_of_lt_of_le hlw3 hw4.2.size
      have hW4 := hW3.trans hw4
      have hs34 : w3.heap.size ≤ w4.heap.size := hw4.2.size
      clear hW3 hw4
      clear zw30 zw31 zw32 zw33 zw34 zw35 zfw3
      go_wp2_with fail
      refine (c w4 hW4.1).mono ?_
      rintro e w5 ⟨f2, o2, k2, l2, h2, t2, x2, n2, rfl, ok2, dp2, ly2, hw5⟩
      have zw50 := (hw5.cell hlw4 hlt).trans zw40
      have zw51 := (hw5.cell hlw4 hlt).trans zw41
      have zw52 := (hw5.cell hlw4 hlt).trans zw42
      have zw53 := (hw5.cell hlw4 hlt).trans zw43
      have zw54 := (hw5.cell hlw4 hlt).trans zw44
      have zw55 := (hw5.cell hlw4 hlt).trans zw45
      have zfw5 : ∀ o, w5.frozen? ⟨w.heap.size, o, none⟩ = false := fun o => (hw5.frozen hlw4 hlt).trans (zfw4 o)
      have hlw5 : w.heap.size < w5.heap.size := Nat.lt_of_lt_of_le hlw4 hw5.2.size
      have hW5 := hW4.trans hw5
      have ly1' : Lies (From w3.heap.size) w5 f1 o1 k1 l1 h1 t1 x1 n1 := Lies.kept (hw5.from (by omega)) f1 ly1
      have ly2' : Lies (From w3.heap.size) w5 f2 o2 k2 l2 h2 t2 x2 n2 := Lies.mono (fun b _ hb => by unfold From at *; omega) f2 ly2
      clear hW4 hw5 ly1 ly2
      clear zw40 zw41 zw42 zw43 zw44 zw45 zfw4
      obtain ⟨V, hV⟩ : ∃ V, V = w5.alloc (.cells #[.int .i64 o1, .int .i64 k1, .int .i64 l1, .int .i64 h1, .string t1, .slice x1 n1 n1, .int .i64 o2, .int .i64 k2, .int .i64 l2, .int .i64 h2, .string t2, .slice x2 n2 n2] 26) := ⟨_, rfl⟩
      have hSix1 : Six V w5.heap.size 0 o1 k1 l1 h1 t1 x1 n1 := by rw [hV]; unfold Six; simp
      have hSix2 : Six V w5.heap.size 6 o2 k2 l2 h2 t2 x2 n2 := by rw [hV]; unfold Six; simp
      have zV0 := (Went.cell (w' := V) (by rw [hV]; exact (Went.refl hW5.1).alloc _) hlw5 hlt (o := 0)).trans zw50
      have zV1 := (Went.cell (w' := V) (by rw [hV]; exact (Went.refl hW5.1).alloc _) hlw5 hlt (o := 1)).trans zw51
      have zV2 := (Went.cell (w' := V) (by rw [hV]; exact (Went.refl hW5.1).alloc _) hlw5 hlt (o := 2)).trans zw52
      have zV3 := (Went.cell (w' := V) (by rw [hV]; exact (Went.refl hW5.1).alloc _) hlw5 hlt (o := 3)).trans zw53
      have zV4 := (Went.cell (w' := V) (by rw [hV]; exact (Went.refl hW5.1).alloc _) hlw5 hlt (o := 4)).trans zw54
      have zV5 := (Went.cell (w' := V) (by rw [hV]; exact (Went.refl hW5.1).alloc _) hlw5 hlt (o := 5)).trans zw55
      have zVf : ∀ o, V.frozen? ⟨w.heap.size, o, none⟩ = false := fun o => (Went.frozen (w' := V) (by rw [hV]; exact (Went.refl hW5.1).alloc _) hlw5 hlt (o := o)).trans (zfw5 o)
      have hWV : Went pb w V := by rw [hV]; exact hW5.alloc _
      have hK : Kept (From w3.heap.size) w5 V := by rw [hV]; exact (Kept.refl _ w5).alloc _
      have lyV1 := Lies.kept hK f1 ly1'
      have lyV2 := Lies.kept hK f2 ly2'
      have hs5 : w.heap.size ≤ w5.heap.size := by omega
      clear hW5 ly1' ly2' hK c
      clear zw50 zw51 zw52 zw53 zw54 zw55 zfw5
      simp only []
      iterate 4 (first | go_skip | go_guarded | go_step | go_upon | go_simp)
      rw [← hV]
      clear hV
      go_wp2
      refine bodyPost_ret (v := .agg #[.int .i64 (5 + op), .int .i64 0, .int .i64 0, .int .i64 0, .string ⟨#[]⟩, .slice (some ⟨w5.heap.size, 0, none⟩) 2 2]) (by simp [results, Try.results10, go_sem, *]) rfl ⟨.two (5 + op) f1 f2, 5 + op, 0, 0, 0, ⟨#[]⟩, some ⟨w5.heap.size, 0, none⟩, 2, rfl, ⟨by omega, ok1, ok2⟩, by simp only [Ev.Ft.deep]; omega, ⟨rfl, rfl, rfl, rfl, rfl, w5.heap.size, o1, k1, l1, h1, t1, x1, n1, o2, k2, l2, h2, t2, x2, n2, rfl, rfl, hs5, hSix1.of (fun i => ?_), Lies.mono (P := From w3.heap.size) (fun b _ hb => by unfold From at *; omega) f1 (Lies.kept ?_ f1 lyV1), hSix2.of (fun i => ?_), Lies.mono (P := From w3.heap.size) (fun b _ hb => by unfold From at *; omega) f2 (Lies.kept ?_ f2 lyV2)⟩, ?_⟩
      · repeat rw [World.cell?_setCell_other _ _ _ _ (fun e => by have := congrArg Addr.block e; simp at this; omega)]
      · repeat (refine Kept.setCell ?_ (fun k hk hq => by unfold From at hq; simp; omega) _)
        exact Kept.refl _ _
      · repeat rw [World.cell?_setCell_other _ _ _ _ (fun e => by have := congrArg Addr.block e; simp at this; omega)]
      · repeat (refine Kept.setCell ?_ (fun k hk hq => by unfold From at hq; simp; omega) _)
        exact Kept.refl _ _
      · repeat (refine Went.setCell ?_ (by simp <;> omega) hlt _)
        exact hWV

theorem filter11 (pb : Nat) (n : Nat) : ∀ (D : Int) (w : World), D ≤ n → D ≤ 6 → Pick w pb →
    Calls Try.prog 10 #[.pointer (some ⟨pb, 0, none⟩), .int .i64 D] w (FPost pb D w) := by
  induction n with
  | zero => intro D w h1 h2 hp; exact filter_leaf pb D w (by omega) hp
  | succ n ih =>
    intro D w h1 h2 hp
    by_cases hD : D ≤ 1
    · exact filter_leaf pb D w hD hp
    · exact filter_step pb D w (by omega) h2 hp (fun w' hp' => ih (D - 1) w' (by omega) (by omega) hp')

end Go.Proofs.Ytflpdekifkcfkab
