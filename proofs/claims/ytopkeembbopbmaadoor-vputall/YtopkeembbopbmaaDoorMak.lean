/- What cardamomplay makes out of numbers: versions; they may be. -/
import Derived.Test.YtopkeembbopbmaaDoorPly
namespace Go.Proofs.YtopkeembbopbmaaDoor
open Go.RowKit
set_option maxRecDepth 100000
set_option linter.unusedVariables false

theorem Went.from {pb B : Nat} {w w' : World} (h : Went pb w w') (hB : pb < B) : Kept (From B) w w' := h.2.mono (fun k _ hk => by unfold From at hk; unfold But; omega)

theorem ver_may {k : Nat} {L R N : Int} {dead : Bool} {ao : Option Addr} {len cap : Nat} {al : List (Int × Int)} {t bd : ByteArray} (hk : (k : Int) < 6) (hst : stOk L R N = true) (h3 : al.length ≤ 3) (hok : atOk 0 al = true) (ht : tagOk t = true) (hb : bodyOk dead bd = true) : mayI ⟨1 + k, L, R, N, dead, ao, len, cap, t, bd⟩ al = true := by
  unfold mayI atsOk
  simp only
  rw [hst, ht, hb, hok, decide_eq_true h3, decide_eq_true (show (1 : Int) ≤ 1 + k by omega), decide_eq_true (show (1 : Int) + k ≤ 6 by omega)]
  rfl

def bodies : List ByteArray := [⟨#[]⟩, ⟨#[120]⟩, ⟨#[98, 111, 100, 121]⟩, ⟨#[97, 32, 98, 111, 100, 121, 32, 111, 102, 32, 49, 50]⟩]

set_option maxHeartbeats 4000000 in
theorem version10 (pb : Nat) (w : World) (hp : Pick w pb) :
    Calls Tryd.prog 10 #[.pointer (some ⟨pb, 0, none⟩)] w fun e w' => ∃ (v : Vn) (al : List (Int × Int)), e = .returned v.val ∧ (Has w' v al ∧ ∀ b off, v.ao = some ⟨b, off, none⟩ → w.heap.size ≤ b) ∧ mayI v al = true ∧ Went pb w w' := by
  have hlt := hp.lt
  go_enter Tryd.func10, Tryd.ntmps10
  go_wp2_with fail
  have hW : Went pb w (w.alloc (.cells #[.int .i64 0, .int .i64 0, .int .i64 0, .int .i64 0, .bool false, .slice none 0 0, .string ⟨#[]⟩, .string ⟨#[]⟩] 26)) := (Went.refl hp).alloc _
  refine (num_any pb 6 _ (by omega) (by omega) hW.1).mono ?_
  rintro e w1 ⟨k, hk, rfl, hw1⟩
  go_wp2_with fail
  refine (stamp17 pb _ hw1.1).mono ?_
  rintro e w2 ⟨L, R, N, hst, rfl, hw2⟩
  go_wp2_with fail
  refine (attrs18 pb _ hw2.1).mono ?_
  rintro e w3 ⟨ao, cap, al, ⟨hal, hok⟩, rfl, ⟨hrow, hrb⟩, hw3⟩
  go_wp2_with fail
  refine (tag19 pb _ hw3.1).mono ?_
  rintro e w4 ⟨t, ht, rfl, hw4⟩
  have HOK : Hid (stOk L R N = true ∧ atOk 0 al = true ∧ tagOk t = true ∧ At w3 ao al.length al ∧ ∀ b off, ao = some ⟨b, off, none⟩ → w2.heap.size ≤ b) := ⟨hst, hok, ht, hrow, hrb⟩
  clear hst hok ht hrow hrb
  have hs0 : w.heap.size + 1 ≤ w1.heap.size := by have := hw1.2.size; simp at this; omega
  have hs1 : w1.heap.size ≤ w2.heap.size := hw2.2.size
  have hs3 : w2.heap.size ≤ w3.heap.size := hw3.2.size
  have hs4 : w3.heap.size ≤ w4.heap.size := hw4.2.size
  have h14 := hw1.trans (hw2.trans (hw3.trans hw4))
  have hz : ∀ o, w4.cell? ⟨w.heap.size, o, none⟩ = (w.alloc (.cells #[.int .i64 0, .int .i64 0, .int .i64 0, .int .i64 0, .bool false, .slice none 0 0, .string ⟨#[]⟩, .string ⟨#[]⟩] 26)).cell? ⟨w.heap.size, o, none⟩ := fun o => h14.cell (by simp) hlt
  have hf : ∀ o, w4.frozen? ⟨w.heap.size, o, none⟩ = (w.alloc (.cells #[.int .i64 0, .int .i64 0, .int .i64 0, .int .i64 0, .bool false, .slice none 0 0, .string ⟨#[]⟩, .string ⟨#[]⟩] 26)).frozen? ⟨w.heap.size, o, none⟩ := fun o => h14.frozen (by simp) hlt
  have hK : Kept (From w2.heap.size) w3 (w4.alloc (.cells #[.int .i64 (1 + k), .int .i64 L, .int .i64 R, .int .i64 N, .bool false, .slice ao al.length cap, .string t, .string ⟨#[]⟩] 26)) := (hw4.from (by omega)).alloc _
  have hA : Went pb w4 (w4.alloc (.cells #[.int .i64 (1 + k), .int .i64 L, .int .i64 R, .int .i64 N, .bool false, .slice ao al.length cap, .string t, .string ⟨#[]⟩] 26)) := (Went.refl hw4.1).alloc _
  have hWW : Went pb w (w4.alloc (.cells #[.int .i64 (1 + k), .int .i64 L, .int .i64 R, .int .i64 N, .bool false, .slice ao al.length cap, .string t, .string ⟨#[]⟩] 26)) := (hW.trans h14).alloc _
  have hlt4 : w.heap.size < w4.heap.size := by omega
  clear hW hw1 hw2 hw3 hw4 h14
  go_wp2_with fail
  refine (num_any pb 6 _ (by omega) (by omega) hA.1).mono ?_
  rintro e w5 ⟨q, hq, rfl, hw5⟩
  have hs5 : w4.heap.size + 1 ≤ w5.heap.size := by have := hw5.2.size; simp at this; omega
  have c5 : ∀ o, w5.cell? ⟨w4.heap.size, o, none⟩ = (w4.alloc (.cells #[.int .i64 (1 + k), .int .i64 L, .int .i64 R, .int .i64 N, .bool false, .slice ao al.length cap, .string t, .string ⟨#[]⟩] 26)).cell? ⟨w4.heap.size, o, none⟩ := fun o => hw5.cell (by simp) (by omega)
  have f5 : ∀ o, w5.frozen? ⟨w4.heap.size, o, none⟩ = (w4.alloc (.cells #[.int .i64 (1 + k), .int .i64 L, .int .i64 R, .int .i64 N, .bool false, .slice ao al.length cap, .string t, .string ⟨#[]⟩] 26)).frozen? ⟨w4.heap.size, o, none⟩ := fun o => hw5.frozen (by simp) (by omega)
  have c0 : ∀ o, w5.cell? ⟨w.heap.size, o, none⟩ = w4.cell? ⟨w.heap.size, o, none⟩ := fun o => (hA.trans hw5).cell (by omega) hlt
  have f0 : ∀ o, w5.frozen? ⟨w.heap.size, o, none⟩ = w4.frozen? ⟨w.heap.size, o, none⟩ := fun o => (hA.trans hw5).frozen (by omega) hlt
  have hK5 : Kept (From w2.heap.size) w3 w5 := hK.trans (hw5.from (by omega))
  have hW5 : Went pb w w5 := hWW.trans hw5
  have hne : w4.heap.size ≠ w.heap.size := by omega
  have hne' : w.heap.size ≠ w4.heap.size := by omega
  clear hK hA hWW hw5
  by_cases hq1 : q = 1
  · subst hq1
    go_wp2
    refine bodyPost_ret (v := Vn.val ⟨1 + k, L, R, N, true, ao, al.length, cap, t, ⟨#[]⟩⟩) (by simp [results, Tryd.results10, go_sem, c0, hz, Vn.val]) rfl ?_
    refine ⟨_, al, rfl, ⟨At.of HOK.out.2.2.2.1 (P := From w2.heap.size) ?_ (fun b off _ e => HOK.out.2.2.2.2 b off e), fun b off e => by have := HOK.out.2.2.2.2 b off e; omega⟩, ver_may hk HOK.out.1 hal HOK.out.2.1 HOK.out.2.2.1 (by rfl), ?_⟩
    · repeat (refine Kept.setCell ?_ (fun k hk hq => by unfold From at hq; simp; omega) _)
      exact hK5
    · repeat (refine Went.setCell ?_ (by simp <;> omega) hlt _)
      exact hW5
  · have hq2 : ((q : Int) == 1) = false := beq_eq_false_iff_ne.2 (by omega)
    go_wp2_with fail
    obtain ⟨V, hV⟩ : ∃ V, V = w5.setCell ⟨w4.heap.size, 4, none⟩ (.bool false) := ⟨_, rfl⟩
    rw [← hV]
    have d0 : V.cell? ⟨w4.heap.size, 0, none⟩ = some (.int .i64 (1 + k)) := by rw [hV]; simp [World.cell?_setCell_other, c5]
    have d1 : V.cell? ⟨w4.heap.size, 1, none⟩ = some (.int .i64 L) := by rw [hV]; simp [World.cell?_setCell_other, c5]
    have d2 : V.cell? ⟨w4.heap.size, 2, none⟩ = some (.int .i64 R) := by rw [hV]; simp [World.cell?_setCell_other, c5]
    have d3 : V.cell? ⟨w4.heap.size, 3, none⟩ = some (.int .i64 N) := by rw [hV]; simp [World.cell?_setCell_other, c5]
    have d4 : V.cell? ⟨w4.heap.size, 4, none⟩ = some (.bool false) := by rw [hV]; exact World.cell?_setCell_same w5 ⟨w4.heap.size, 4, none⟩ _ (u := .bool false) (by rw [c5]; simp)
    have d5 : V.cell? ⟨w4.heap.size, 5, none⟩ = some (.slice ao al.length cap) := by rw [hV]; simp [World.cell?_setCell_other, c5]
    have d6 : V.cell? ⟨w4.heap.size, 6, none⟩ = some (.string t) := by rw [hV]; simp [World.cell?_setCell_other, c5]
    have d7 : V.cell? ⟨w4.heap.size, 7, none⟩ = some (.string ⟨#[]⟩) := by rw [hV]; simp [World.cell?_setCell_other, c5]
    have dz : ∀ o, V.cell? ⟨w.heap.size, o, none⟩ = (w.alloc (.cells #[.int .i64 0, .int .i64 0, .int .i64 0, .int .i64 0, .bool false, .slice none 0 0, .string ⟨#[]⟩, .string ⟨#[]⟩] 26)).cell? ⟨w.heap.size, o, none⟩ := fun o => by
      rw [hV, World.cell?_setCell_other _ _ _ _ (fun e => hne (congrArg Addr.block e)), c0, hz]
    have df : ∀ o, V.frozen? ⟨w4.heap.size, o, none⟩ = false := fun o => by rw [hV, World.frozen?_setCell, f5]; simp
    have dzf : ∀ o, V.frozen? ⟨w.heap.size, o, none⟩ = false := fun o => by rw [hV, World.frozen?_setCell, f0, hf]; simp
    have hVs : V.heap.size = w5.heap.size := by rw [hV]; simp [World.setCell]
    have hKV : Kept (From w2.heap.size) w3 V := by
      rw [hV]
      exact hK5.setCell (fun k hk hq => by simp; omega) _
    have hWV : Went pb w V := by
      rw [hV]
      exact hW5.setCell (by simp; omega) hlt _
    have hbs : w5.heap.size = V.heap.size := hVs.symm
    clear hV hW5 hK5 c5 f5 c0 f0 hz hf
    have hWT : Went pb V (V.alloc (.cells #[.string ⟨#[]⟩, .string ⟨#[120]⟩, .string ⟨#[98, 111, 100, 121]⟩, .string ⟨#[97, 32, 98, 111, 100, 121, 32, 111, 102, 32, 49, 50]⟩] 9)) := (Went.refl hWV.1).alloc _
    have ht4 : ∀ k, k < 4 → (V.alloc (.cells #[.string ⟨#[]⟩, .string ⟨#[120]⟩, .string ⟨#[98, 111, 100, 121]⟩, .string ⟨#[97, 32, 98, 111, 100, 121, 32, 111, 102, 32, 49, 50]⟩] 9)).cell? ⟨V.heap.size, k, none⟩ = some (.string (bodies.getD k ByteArray.empty)) := fun k hk => table_s bodies V 9 k hk
    refine (num_any pb 4 _ (by omega) (by omega) hWT.1).mono ?_
    rintro e w6 ⟨j, hj, rfl, hw6⟩
    have qx : w6.cell? ⟨w5.heap.size, j, none⟩ = some (.string (bodies.getD j ByteArray.empty)) := by rw [hbs]; exact (hw6.cell (by simp) (by omega)).trans (ht4 j (by omega))
    have hj4 : j < 4 := by omega
    have g0 : w6.cell? ⟨w4.heap.size, 0, none⟩ = some (.int .i64 (1 + k)) := (hw6.cell (by simp; omega) (by omega)).trans ((World.cell?_alloc_past _ _ _ (hn := by omega)).trans d0)
    have g1 : w6.cell? ⟨w4.heap.size, 1, none⟩ = some (.int .i64 L) := (hw6.cell (by simp; omega) (by omega)).trans ((World.cell?_alloc_past _ _ _ (hn := by omega)).trans d1)
    have g2 : w6.cell? ⟨w4.heap.size, 2, none⟩ = some (.int .i64 R) := (hw6.cell (by simp; omega) (by omega)).trans ((World.cell?_alloc_past _ _ _ (hn := by omega)).trans d2)
    have g3 : w6.cell? ⟨w4.heap.size, 3, none⟩ = some (.int .i64 N) := (hw6.cell (by simp; omega) (by omega)).trans ((World.cell?_alloc_past _ _ _ (hn := by omega)).trans d3)
    have g4 : w6.cell? ⟨w4.heap.size, 4, none⟩ = some (.bool false) := (hw6.cell (by simp; omega) (by omega)).trans ((World.cell?_alloc_past _ _ _ (hn := by omega)).trans d4)
    have g5 : w6.cell? ⟨w4.heap.size, 5, none⟩ = some (.slice ao al.length cap) := (hw6.cell (by simp; omega) (by omega)).trans ((World.cell?_alloc_past _ _ _ (hn := by omega)).trans d5)
    have g6 : w6.cell? ⟨w4.heap.size, 6, none⟩ = some (.string t) := (hw6.cell (by simp; omega) (by omega)).trans ((World.cell?_alloc_past _ _ _ (hn := by omega)).trans d6)
    have g7 : w6.cell? ⟨w4.heap.size, 7, none⟩ = some (.string ⟨#[]⟩) := (hw6.cell (by simp; omega) (by omega)).trans ((World.cell?_alloc_past _ _ _ (hn := by omega)).trans d7)
    have z0 : w6.cell? ⟨w.heap.size, 0, none⟩ = some (.int .i64 0) := (hw6.cell (by simp; omega) hlt).trans ((World.cell?_alloc_past _ _ _ (hn := by omega)).trans ((dz 0).trans (by simp)))
    have z1 : w6.cell? ⟨w.heap.size, 1, none⟩ = some (.int .i64 0) := (hw6.cell (by simp; omega) hlt).trans ((World.cell?_alloc_past _ _ _ (hn := by omega)).trans ((dz 1).trans (by simp)))
    have z2 : w6.cell? ⟨w.heap.size, 2, none⟩ = some (.int .i64 0) := (hw6.cell (by simp; omega) hlt).trans ((World.cell?_alloc_past _ _ _ (hn := by omega)).trans ((dz 2).trans (by simp)))
    have z3 : w6.cell? ⟨w.heap.size, 3, none⟩ = some (.int .i64 0) := (hw6.cell (by simp; omega) hlt).trans ((World.cell?_alloc_past _ _ _ (hn := by omega)).trans ((dz 3).trans (by simp)))
    have z4 : w6.cell? ⟨w.heap.size, 4, none⟩ = some (.bool false) := (hw6.cell (by simp; omega) hlt).trans ((World.cell?_alloc_past _ _ _ (hn := by omega)).trans ((dz 4).trans (by simp)))
    have z5 : w6.cell? ⟨w.heap.size, 5, none⟩ = some (.slice none 0 0) := (hw6.cell (by simp; omega) hlt).trans ((World.cell?_alloc_past _ _ _ (hn := by omega)).trans ((dz 5).trans (by simp)))
    have z6 : w6.cell? ⟨w.heap.size, 6, none⟩ = some (.string ⟨#[]⟩) := (hw6.cell (by simp; omega) hlt).trans ((World.cell?_alloc_past _ _ _ (hn := by omega)).trans ((dz 6).trans (by simp)))
    have z7 : w6.cell? ⟨w.heap.size, 7, none⟩ = some (.string ⟨#[]⟩) := (hw6.cell (by simp; omega) hlt).trans ((World.cell?_alloc_past _ _ _ (hn := by omega)).trans ((dz 7).trans (by simp)))
    have r1 : ∀ o, w6.frozen? ⟨w4.heap.size, o, none⟩ = false := fun o => (hw6.frozen (by simp; omega) (by omega)).trans ((World.frozen?_alloc_past _ _ _ (hn := by omega)).trans (df o))
    have r0 : ∀ o, w6.frozen? ⟨w.heap.size, o, none⟩ = false := fun o => (hw6.frozen (by simp; omega) hlt).trans ((World.frozen?_alloc_past _ _ _ (hn := by omega)).trans (dzf o))
    have hK6 : Kept (From w2.heap.size) w3 w6 := (hKV.alloc _).trans (hw6.from (by omega))
    have hW6 : Went pb w w6 := hWV.trans (hWT.trans hw6)
    have HBD : Hid (bodyOk false (bodies.getD j ByteArray.empty) = true) := all_getD bodies (fun s => bodyOk false s = true) (by intro x hx; simp only [bodies, List.mem_cons, List.not_mem_nil, or_false] at hx; rcases hx with rfl | rfl | rfl | rfl <;> decide +kernel) (by decide +kernel) j
    generalize bodies.getD j ByteArray.empty = bd at *
    clear ht4 hWT hw6 hKV hWV hVs hbs d0 d1 d2 d3 d4 d5 d6 d7 dz df dzf
    go_wp2
    refine bodyPost_ret (v := Vn.val ⟨1 + k, L, R, N, false, ao, al.length, cap, t, bd⟩) (by simp [results, Tryd.results10, go_sem, *, Vn.val]) rfl ?_
    refine ⟨_, al, rfl, ⟨At.of HOK.out.2.2.2.1 (P := From w2.heap.size) ?_ (fun b off _ e => HOK.out.2.2.2.2 b off e), fun b off e => by have := HOK.out.2.2.2.2 b off e; omega⟩, ver_may hk HOK.out.1 hal HOK.out.2.1 HOK.out.2.2.1 HBD.out, ?_⟩
    · repeat (refine Kept.setCell ?_ (fun k hk hq => by unfold From at hq; simp; omega) _)
      exact hK6
    · repeat (refine Went.setCell ?_ (by simp <;> omega) hlt _)
      exact hW6

end Go.Proofs.YtopkeembbopbmaaDoor
