/- What cardamomplay makes out of numbers: tags, stamps, attributes; all of them may be. -/
import Derived.Test.YtopkeembbopbmaaDoorPik
import Derived.Test.YtopkeembbopbmaaDoorAts
namespace Go.Proofs.YtopkeembbopbmaaDoor
open Go.RowKit
set_option maxRecDepth 100000
set_option linter.unusedVariables false

/-- A row of numbers that was just laid. -/
theorem table_i (l : List Int) (w : World) (t : TypeId) (k : Nat) (h : k < l.length) : (w.alloc (.cells (l.map (Value.int .i64)).toArray t)).cell? ⟨w.heap.size, k, none⟩ = some (.int .i64 (l.getD k 0)) := by
  rw [World.cell?_alloc_at _ _ _ _ rfl, List.getElem?_toArray, List.getElem?_map, List.getElem?_eq_getElem h, List.getD_eq_getElem?_getD, List.getElem?_eq_getElem h]
  rfl

def tags : List ByteArray := [⟨#[]⟩, ⟨#[97]⟩, ⟨#[97, 98]⟩, ⟨#[97, 98, 99]⟩, ⟨#[98]⟩, ⟨#[98, 97]⟩]

theorem all_getD (l : List ByteArray) (P : ByteArray → Prop) (h : ∀ x ∈ l, P x) (h0 : P ByteArray.empty) (k : Nat) : P (l.getD k ByteArray.empty) := by
  rw [List.getD_eq_getElem?_getD]
  cases e : l[k]? with
  | none => exact h0
  | some x => exact h x (List.mem_of_getElem? e)

theorem st_ok (L R N : Int) (h1 : 1 ≤ L) (h2 : L ≤ 1000) (h3 : 1 ≤ R) (h4 : R ≤ 5) (h5 : 1 ≤ N) (h6 : N ≤ L) : stOk L R N = true := by
  unfold stOk f1
  rw [decide_eq_true h1, decide_eq_true (show L ≤ 5000 by omega), decide_eq_true h3, decide_eq_true h4, decide_eq_true h5, decide_eq_true (show N ≤ min 1000 L by omega)]
  rfl

/-- Keys rise up to below k. -/
def Up (al : List (Int × Int)) (k : Nat) : Prop := atOk 0 al = true ∧ ∀ p ∈ al, p.1 < (k : Int)
theorem up_nil : Up [] 0 := ⟨rfl, fun p hp => by cases hp⟩
theorem up_more {al : List (Int × Int)} {k : Nat} (h : Up al k) : Up al (k + 1) := ⟨h.1, fun p hp => by have := h.2 p hp; omega⟩
theorem atOk_snoc (k x : Int) (hk : 0 ≤ k ∧ k ≤ 3) (hx : 0 ≤ x ∧ x ≤ 99) : ∀ (al : List (Int × Int)) (lo : Int), lo ≤ k → atOk lo al = true → (∀ p ∈ al, p.1 < k) → atOk lo (al ++ [(k, x)]) = true
  | [], lo, hl, _, _ => by
    show ((decide (lo ≤ k) && decide (k ≤ 3)) && ((decide (0 ≤ x) && decide (x ≤ 99)) && true)) = true
    rw [decide_eq_true hl, decide_eq_true hk.2, decide_eq_true hx.1, decide_eq_true hx.2]; rfl
  | p :: r, lo, hl, h, hp => by
    unfold atOk at h
    simp only [Bool.and_eq_true, decide_eq_true_eq] at h
    obtain ⟨⟨a1, a2⟩, ⟨a3, a4⟩, a5⟩ := h
    show ((decide (lo ≤ p.1) && decide (p.1 ≤ 3)) && ((decide (0 ≤ p.2) && decide (p.2 ≤ 99)) && atOk (p.1 + 1) (r ++ [(k, x)]))) = true
    rw [decide_eq_true a1, decide_eq_true a2, decide_eq_true a3, decide_eq_true a4, atOk_snoc k x hk hx r (p.1 + 1) (by have := hp p (by simp); omega) a5 (fun q hq => hp q (by simp [hq]))]; rfl
theorem up_snoc {al : List (Int × Int)} {k : Nat} {x : Int} (h : Up al k) (hk : k < 4) (hx : 0 ≤ x ∧ x ≤ 99) : Up (al ++ [((k : Int), x)]) (k + 1) := by
  refine ⟨atOk_snoc (k : Int) x ⟨by omega, by omega⟩ hx al 0 (by omega) h.1 h.2, fun p hp => ?_⟩
  rcases List.mem_append.1 hp with hp | hp
  · have := h.2 p hp; omega
  · simp at hp; subst hp; simp only; omega

def vals : List Int := [0, 1, 5, 7, 50, 99]

theorem vals_ok (j : Nat) : 0 ≤ vals.getD j 0 ∧ vals.getD j 0 ≤ 99 := by
  rw [List.getD_eq_getElem?_getD]
  cases e : vals[j]? with
  | none => decide
  | some x =>
    have hm := List.mem_of_getElem? e
    simp only [vals, List.mem_cons, List.not_mem_nil, or_false] at hm
    rcases hm with rfl | rfl | rfl | rfl | rfl | rfl <;> decide

theorem at_own {w : World} {base cap : Nat} {ao : Option Addr} {al : List (Int × Int)} (h : w.ownsRow base 42 2 (.slice ao al.length cap) al.length (cellsA al)) (h3 : al.length ≤ 3) : At w ao al.length al ∧ ∀ b off, ao = some ⟨b, off, none⟩ → base ≤ b := by
  obtain ⟨h1, h2⟩ := At.of_own h rfl (by omega)
  exact ⟨h1, fun b off e => (h2 b off e).1⟩

set_option maxHeartbeats 1000000 in
theorem tag19 (pb : Nat) (w : World) (hp : Pick w pb) :
    Calls Tryd.prog 19 #[.pointer (some ⟨pb, 0, none⟩)] w fun e w' => ∃ t : ByteArray, tagOk t = true ∧ e = .returned (.string t) ∧ Went pb w w' := by
  have hlt := hp.lt
  go_enter Tryd.func19, Tryd.ntmps19
  go_wp2_with fail
  have hW : Went pb w (w.alloc (.cells #[.string ⟨#[]⟩, .string ⟨#[97]⟩, .string ⟨#[97, 98]⟩, .string ⟨#[97, 98, 99]⟩, .string ⟨#[98]⟩, .string ⟨#[98, 97]⟩] 9)) := (Went.refl hp).alloc _
  have ht : ∀ k, k < 6 → (w.alloc (.cells #[.string ⟨#[]⟩, .string ⟨#[97]⟩, .string ⟨#[97, 98]⟩, .string ⟨#[97, 98, 99]⟩, .string ⟨#[98]⟩, .string ⟨#[98, 97]⟩] 9)).cell? ⟨w.heap.size, k, none⟩ = some (.string (tags.getD k ByteArray.empty)) := fun k hk => table_s tags w 9 k hk
  refine (num_any pb 6 _ (by omega) (by omega) hW.1).mono ?_
  rintro e w1 ⟨k, hk, rfl, hw1⟩
  have q : w1.cell? ⟨w.heap.size, k, none⟩ = some (.string (tags.getD k ByteArray.empty)) := (hw1.cell (by simp) hlt).trans (ht k (by omega))
  have hk6 : k < 6 := by omega
  have hs := all_getD tags (fun t => tagOk t = true) (by intro x hx; simp only [tags, List.mem_cons, List.not_mem_nil, or_false] at hx; rcases hx with rfl | rfl | rfl | rfl | rfl | rfl <;> decide +kernel) (by decide +kernel) k
  generalize tags.getD k ByteArray.empty = t at *
  have R := hW.trans hw1
  clear ht hW hw1
  go_wp2
  go_ret
  exact ⟨t, hs, rfl, R⟩

set_option maxHeartbeats 1000000 in
theorem stamp17 (pb : Nat) (w : World) (hp : Pick w pb) :
    Calls Tryd.prog 17 #[.pointer (some ⟨pb, 0, none⟩)] w fun e w' => ∃ L R N : Int, stOk L R N = true ∧ e = .returned (.agg #[.int .i64 L, .int .i64 R, .int .i64 N]) ∧ Went pb w w' := by
  have hlt := hp.lt
  go_enter Tryd.func17, Tryd.ntmps17
  go_wp2_with fail
  have hW : Went pb w (w.alloc (.cells #[.int .i64 0, .int .i64 0, .int .i64 0] 23)) := (Went.refl hp).alloc _
  refine (num_any pb 9 _ (by omega) (by omega) hW.1).mono ?_
  rintro e w1 ⟨k1, hk1, rfl, hw1⟩
  go_wp2_with fail
  refine (num_any pb 3 _ (by omega) (by omega) hw1.1).mono ?_
  rintro e w2 ⟨k2, hk2, rfl, hw2⟩
  have hz2 : ∀ o, w2.cell? ⟨w.heap.size, o, none⟩ = (w.alloc (.cells #[.int .i64 0, .int .i64 0, .int .i64 0] 23)).cell? ⟨w.heap.size, o, none⟩ := fun o => (hw1.trans hw2).cell (by simp) hlt
  have hf2 : ∀ o, w2.frozen? ⟨w.heap.size, o, none⟩ = (w.alloc (.cells #[.int .i64 0, .int .i64 0, .int .i64 0] 23)).frozen? ⟨w.heap.size, o, none⟩ := fun o => (hw1.trans hw2).frozen (by simp) hlt
  have hs2 : w.heap.size < w2.heap.size := by have := (hw1.trans hw2).2.size; simp at this; omega
  go_wp2_with fail
  have hW2 : Went pb w2 (w2.alloc (.cells #[.int .i64 (1 + k1), .int .i64 (1 + k2), .int .i64 0] 23)) := (Went.refl hw2.1).alloc _
  refine (num_any pb (1 + k1) _ (by omega) (by omega) hW2.1).mono ?_
  rintro e w3 ⟨k3, hk3, rfl, hw3⟩
  have c0 : ∀ o, w3.cell? ⟨w2.heap.size, o, none⟩ = (w2.alloc (.cells #[.int .i64 (1 + k1), .int .i64 (1 + k2), .int .i64 0] 23)).cell? ⟨w2.heap.size, o, none⟩ := fun o => hw3.cell (by simp) (by omega)
  have f0 : ∀ o, w3.frozen? ⟨w2.heap.size, o, none⟩ = (w2.alloc (.cells #[.int .i64 (1 + k1), .int .i64 (1 + k2), .int .i64 0] 23)).frozen? ⟨w2.heap.size, o, none⟩ := fun o => hw3.frozen (by simp) (by omega)
  have c1 : ∀ o, w3.cell? ⟨w.heap.size, o, none⟩ = w2.cell? ⟨w.heap.size, o, none⟩ := fun o => (hW2.trans hw3).cell hs2 hlt
  have f1 : ∀ o, w3.frozen? ⟨w.heap.size, o, none⟩ = w2.frozen? ⟨w.heap.size, o, none⟩ := fun o => (hW2.trans hw3).frozen hs2 hlt
  have hne : w2.heap.size ≠ w.heap.size := by omega
  have hne' : w.heap.size ≠ w2.heap.size := by omega
  have R : Went pb w w3 := hW.trans ((hw1.trans hw2).trans (hW2.trans hw3))
  clear hW hw1 hw2 hW2 hw3
  go_wp2
  refine bodyPost_ret (v := .agg #[.int .i64 (1 + k1), .int .i64 (1 + k2), .int .i64 (1 + k3)]) (by simp [results, Tryd.results17, go_sem, c1, hz2]) rfl ⟨_, _, _, st_ok _ _ _ (by omega) (by omega) (by omega) (by omega) (by omega) (by omega), rfl, ?_⟩
  exact (((R.setCell (by show w.heap.size ≤ w2.heap.size; omega) hlt _).setCell (Nat.le_refl _) hlt _).setCell (Nat.le_refl _) hlt _).setCell (Nat.le_refl _) hlt _

/-- What is owned stays owned while choices are read. -/
theorem own_went {pb : Nat} {w w' : World} {base : Nat} {e : TypeId} {size : Nat} {v : Value} {n : Nat} {xs : List Value} (h : w.ownsRow base e size v n xs) (hb : Went pb w w') (hp : pb < base) : w'.ownsRow base e size v n xs := by
  obtain ⟨h1, h2⟩ := h
  refine ⟨h1, ?_⟩
  rcases h2 with h2 | ⟨g, cap, cur, hv, hg, hh, r⟩
  · exact Or.inl h2
  · have hlt : g < w.heap.size := by
      by_cases hlt : g < w.heap.size
      · exact hlt
      · rw [Array.getElem?_eq_none (by omega)] at hh; cases hh
    exact Or.inr ⟨g, cap, cur, hv, hg, by rw [hb.2.block g hlt (by unfold But; omega)]; exact hh, r⟩

set_option maxHeartbeats 2000000 in
theorem attrs18 (pb : Nat) (w : World) (hp : Pick w pb) :
    Calls Tryd.prog 18 #[.pointer (some ⟨pb, 0, none⟩)] w fun e w' => ∃ (ao : Option Addr) (cap : Nat) (al : List (Int × Int)), (al.length ≤ 3 ∧ atOk 0 al = true) ∧ e = .returned (.slice ao al.length cap) ∧ (At w' ao al.length al ∧ ∀ b off, ao = some ⟨b, off, none⟩ → w.heap.size ≤ b) ∧ Went pb w w' := by
  have hlt := hp.lt
  go_enter Tryd.func18, Tryd.ntmps18
  go_wp2_with fail
  go_loopw [3, 4] (fun v i wr => ∃ (k : Nat) (al : List (Int × Int)), k ≤ 4 ∧ (al.length ≤ 3 ∧ Up al k) ∧ i = .int .i64 k ∧ wr.ownsRow w.heap.size 42 2 v al.length (cellsA al) ∧ Went pb w wr) (fun _ i _ => 4 - (intOf i).toNat)
  case atStart => exact ⟨0, [], by omega, ⟨by simp, up_nil⟩, rfl, World.ownsRow_nil _ _ _ _, Went.refl hp⟩
  case round =>
    obtain ⟨k, al, hk, ⟨hal, hup⟩, rfl, hown, hwent⟩ := hrel
    have HUP : Hid (Up al k) := hup
    clear hup
    obtain ⟨ao, cap, rfl⟩ := own_slice hown
    by_cases h4 : k < 4
    · by_cases h3 : al.length < 3
      · go_wp2_with fail
        refine (num_any pb 2 _ (by omega) (by omega) hwent.1).mono ?_
        rintro e w1 ⟨q, hq, rfl, hw1⟩
        have hown1 := own_went hown hw1 hlt
        have hwent1 := hwent.trans hw1
        clear hown hwent hw1
        by_cases hq0 : q = 0
        · subst hq0
          go_wp2_with fail
          have hW : Went pb w (w1.alloc (.cells #[.int .i64 0, .int .i64 1, .int .i64 5, .int .i64 7, .int .i64 50, .int .i64 99] 3)) := hwent1.alloc _
          have ht : ∀ k, k < 6 → (w1.alloc (.cells #[.int .i64 0, .int .i64 1, .int .i64 5, .int .i64 7, .int .i64 50, .int .i64 99] 3)).cell? ⟨w1.heap.size, k, none⟩ = some (.int .i64 (vals.getD k 0)) := fun k hk => table_i vals w1 3 k hk
          refine (num_any pb 6 _ (by omega) (by omega) hW.1).mono ?_
          rintro e w2 ⟨j, hj, rfl, hw2⟩
          have hs1 : w.heap.size ≤ w1.heap.size := hwent1.2.size
          have qx : w2.cell? ⟨w1.heap.size, j, none⟩ = some (.int .i64 (vals.getD j 0)) := (hw2.cell (by simp) (by omega)).trans (ht j (by omega))
          have hown2 := own_went (hown1.alloc _) hw2 hlt
          have hwent2 := hW.trans hw2
          have hs2 : w.heap.size ≤ w2.heap.size := hwent2.2.size
          have hj6 : j < 6 := by omega
          have HVL : Hid (0 ≤ vals.getD j 0 ∧ vals.getD j 0 ≤ 99) := vals_ok j
          generalize vals.getD j 0 = x at *
          clear ht hW hw2 hown1 hwent1
          obtain ⟨i0, hi, hz0, hz1, hz2⟩ := info_parts Tryd.info42
          go_wp2_with (at_builtin; refine wpList_append_own _ rfl _ _ 24 rfl w.heap.size 42 i0 _ 2 16 Tryd.underlying24 hi hz0 hz1 hz2 rfl (by decide) _ _ _ rfl (hown2.alloc _) ⟨w2.heap.size, 0, none⟩ 1 1 [.int .i64 k, .int .i64 x] rfl rfl ?c1 ?c2 ?c3 ?c4 ?c5 ?_)
          case c1 =>
            intro j u hj
            match j, hj with
            | 0, hj => simp at hj; subst hj; simp [Addr.add]
            | 1, hj => simp at hj; subst hj; simp [Addr.add]
          case c2 => intro u hu; simp at hu; rcases hu with rfl | rfl <;> rfl
          case c3 => unfold maxLen; omega
          case c4 => omega
          case c5 => simp; omega
          intro v' w3 hown' hgrow _
          have R : w3.ownsRow w.heap.size 42 2 v' (al ++ [((k : Int), x)]).length (cellsA (al ++ [((k : Int), x)])) := by
            rw [cellsA_append, List.length_append]; exact hown'
          have hbel : Below w.heap.size w2 w3 := ((Below.refl _ w2).alloc hs2 _).grown hgrow (by simp; omega) (fun k hk => (hown2.lt k hk).1)
          have hkept : Kept (But pb) w w3 := by
            have a := hwent2.2.alloc (.cells #[.int .i64 k, .int .i64 x] 42)
            have b := hgrow
            refine ⟨?_, ?_, ?_, ?_, ?_⟩
            · exact b.os.trans a.os
            · exact b.tape.trans a.tape
            · exact b.output.trans a.output
            · exact Nat.le_trans a.size b.size
            · intro k hk hk'
              exact (b.block k (Nat.lt_of_lt_of_le hk a.size) (fun e => by have := (hown2.lt k e.symm).1; omega)).trans (a.block k hk hk')
          have R2 : Went pb w w3 := ⟨hwent2.1.below (hbel.mono (by omega)), hkept⟩
          clear hown' hgrow hown2 hwent2 hi hz0 hz1 hz2 hbel hkept
          go_wp2
          go_roundw
          case rel => exact ⟨k + 1, _, by omega, ⟨by simp; omega, up_snoc HUP.out (by omega) HVL.out⟩, by go_num, R, R2⟩
          case measure => simp [intOf]; omega
        · have hq1 : q = 1 := by omega
          subst hq1
          go_wp2
          go_roundw
          case rel => exact ⟨k + 1, al, by omega, ⟨hal, up_more HUP.out⟩, by go_num, hown1, hwent1⟩
          case measure => simp [intOf]; omega
      · go_wp2
        go_ret
        exact ⟨ao, cap, al, ⟨hal, HUP.out.1⟩, rfl, at_own hown hal, hwent⟩
    · go_wp2
      go_ret
      exact ⟨ao, cap, al, ⟨hal, HUP.out.1⟩, rfl, at_own hown hal, hwent⟩

end Go.Proofs.YtopkeembbopbmaaDoor
