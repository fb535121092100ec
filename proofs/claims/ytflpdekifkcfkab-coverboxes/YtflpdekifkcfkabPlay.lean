/- What cardamomplay makes out of numbers: tags, stamps, attributes. -/
import Derived.Test.YtflpdekifkcfkabPick
import Derived.Test.YtflpdekifkcfkabBox
import Derived.Test.YtflpdekifkcfkabHanded
namespace Go.Proofs.Ytflpdekifkcfkab
open Go.RowKit
set_option linter.unusedVariables false

/-- What a choice leaves behind. -/
def Went (pb : Nat) (w w' : World) : Prop := Pick w' pb ∧ Kept (But pb) w w'

theorem Went.trans {pb : Nat} {a b c : World} (h : Went pb a b) (k : Went pb b c) : Went pb a c := ⟨k.1, h.2.trans k.2⟩

theorem Went.alloc {pb : Nat} {a w : World} (h : Went pb a w) (o : Obj) : Went pb a (w.alloc o) :=
  ⟨h.1.below ((Below.refl _ w).alloc (by have := h.1.lt; omega) _), h.2.alloc o⟩

theorem Went.drew {pb : Nat} {a w : World} (h : Went pb a w) : Went pb a w.drew := ⟨h.1.below (Below.refl _ w).drew, h.2.drew⟩

theorem Went.setCell {pb : Nat} {a w : World} (h : Went pb a w) {p : Addr} (hp : a.heap.size ≤ p.block) (ha : pb < a.heap.size) (u : Value) : Went pb a (w.setCell p u) :=
  ⟨h.1.below ((Below.refl _ w).setCell (by omega) _), h.2.setCell (fun k hk _ => by omega) u⟩

theorem Went.refl {pb : Nat} {w : World} (h : Pick w pb) : Went pb w w := ⟨h, Kept.refl _ w⟩

/-- A cell of a block that is not pb's. -/
theorem Went.cell {pb : Nat} {w w' : World} (h : Went pb w w') {b o : Nat} (hb : b < w.heap.size) (hp : pb < b) : w'.cell? ⟨b, o, none⟩ = w.cell? ⟨b, o, none⟩ := h.2.cell hb (by unfold But; omega)
theorem Went.frozen {pb : Nat} {w w' : World} (h : Went pb w w') {b o : Nat} (hb : b < w.heap.size) (hp : pb < b) : w'.frozen? ⟨b, o, none⟩ = w.frozen? ⟨b, o, none⟩ := h.2.frozen hb (by unfold But; omega)

theorem num_any (pb : Nat) (m : Int) (w : World) (h1 : 1 ≤ m) (h2 : m ≤ 1000) (hp : Pick w pb) :
    Calls Try.prog 21 #[.pointer (some ⟨pb, 0, none⟩), .int .i64 m] w fun e w' => ∃ k : Nat, (k : Int) < m ∧ e = .returned (.int .i64 k) ∧ Went pb w w' := num16 pb m w h1 h2 hp

set_option maxHeartbeats 400000 in
theorem made10 (ao : Option Addr) (len cap : Nat) (w : World) :
    Calls Try.prog 9 #[.slice ao len cap] w fun e w' => e = .returned (.pointer (some ⟨w.heap.size, 0, none⟩)) ∧ w' = w.alloc (.cells #[.slice ao len cap, .int .i64 0] 57) := by
  go_enter Try.func9, Try.ntmps9
  go_wp2
  go_ret
  exact ⟨rfl, rfl⟩

theorem pick_made {w : World} {ao : Option Addr} {len cap : Nat} (h : Reads8 w ao len) (hl : len ≤ 1000) : Pick (w.alloc (.cells #[.slice ao len cap, .int .i64 0] 57)) w.heap.size := by
  obtain ⟨_, b, off, zs, hao, hc⟩ := h
  refine ⟨by simp, ao, len, cap, 0, b, off, fun j => (zs j).toNat, by simp, by simp, by omega, hl, hao, fun j hj => ?_⟩
  obtain ⟨q, q1, q2⟩ := hc j hj
  obtain ⟨_, hb⟩ := hao (by omega)
  refine ⟨?_, by show (zs j).toNat ≤ 255; omega⟩
  show _ = some (Value.int .u8 ((zs j).toNat : Int))
  rw [World.cell?_alloc_past _ _ _ (hn := hb), q, Int.toNat_of_nonneg q1]

/-- A row of texts that was just laid. -/
theorem table_s (l : List ByteArray) (w : World) (t : TypeId) (k : Nat) (h : k < l.length) : (w.alloc (.cells (l.map Value.string).toArray t)).cell? ⟨w.heap.size, k, none⟩ = some (.string (l.getD k ByteArray.empty)) := by
  rw [World.cell?_alloc_at _ _ _ _ rfl, List.getElem?_toArray, List.getElem?_map, List.getElem?_eq_getElem h, List.getD_eq_getElem?_getD, List.getElem?_eq_getElem h]
  rfl

/-- A row of numbers that was just laid. -/
theorem table_i (l : List Int) (w : World) (t : TypeId) (k : Nat) (h : k < l.length) : (w.alloc (.cells (l.map (Value.int .i64)).toArray t)).cell? ⟨w.heap.size, k, none⟩ = some (.int .i64 (l.getD k 0)) := by
  rw [World.cell?_alloc_at _ _ _ _ rfl, List.getElem?_toArray, List.getElem?_map, List.getElem?_eq_getElem h, List.getD_eq_getElem?_getD, List.getElem?_eq_getElem h]
  rfl

def tags : List ByteArray := [⟨#[]⟩, ⟨#[97]⟩, ⟨#[97, 98]⟩, ⟨#[97, 98, 99]⟩, ⟨#[98]⟩, ⟨#[98, 97]⟩]

theorem small_getD (l : List ByteArray) (n : Nat) (h : ∀ x ∈ l, x.size ≤ n) (k : Nat) : (l.getD k ByteArray.empty).size ≤ n := by
  rw [List.getD_eq_getElem?_getD]
  cases e : l[k]? with
  | none => exact Nat.zero_le _
  | some x => exact h x (List.mem_of_getElem? e)

set_option maxHeartbeats 1000000 in
theorem tag19 (pb : Nat) (w : World) (hp : Pick w pb) :
    Calls Try.prog 31 #[.pointer (some ⟨pb, 0, none⟩)] w fun e w' => ∃ t : ByteArray, t.size ≤ 3 ∧ e = .returned (.string t) ∧ Went pb w w' := by
  have hlt := hp.lt
  go_enter Try.func31, Try.ntmps31
  go_wp2_with fail
  have hW : Went pb w (w.alloc (.cells #[.string ⟨#[]⟩, .string ⟨#[97]⟩, .string ⟨#[97, 98]⟩, .string ⟨#[97, 98, 99]⟩, .string ⟨#[98]⟩, .string ⟨#[98, 97]⟩] 9)) := (Went.refl hp).alloc _
  have ht : ∀ k, k < 6 → (w.alloc (.cells #[.string ⟨#[]⟩, .string ⟨#[97]⟩, .string ⟨#[97, 98]⟩, .string ⟨#[97, 98, 99]⟩, .string ⟨#[98]⟩, .string ⟨#[98, 97]⟩] 9)).cell? ⟨w.heap.size, k, none⟩ = some (.string (tags.getD k ByteArray.empty)) := fun k hk => table_s tags w 9 k hk
  refine (num_any pb 6 _ (by omega) (by omega) hW.1).mono ?_
  rintro e w1 ⟨k, hk, rfl, hw1⟩
  have q : w1.cell? ⟨w.heap.size, k, none⟩ = some (.string (tags.getD k ByteArray.empty)) := (hw1.cell (by simp) hlt).trans (ht k (by omega))
  have hk6 : k < 6 := by omega
  have hs := small_getD tags 3 (by simp [tags]; decide) k
  generalize tags.getD k ByteArray.empty = t at *
  have R := hW.trans hw1
  clear ht hW hw1
  go_wp2
  go_ret
  exact ⟨t, hs, rfl, R⟩

set_option maxHeartbeats 1000000 in
theorem stamp17 (pb : Nat) (w : World) (hp : Pick w pb) :
    Calls Try.prog 29 #[.pointer (some ⟨pb, 0, none⟩)] w fun e w' => ∃ L R N : Int, e = .returned (.agg #[.int .i64 L, .int .i64 R, .int .i64 N]) ∧ Went pb w w' := by
  have hlt := hp.lt
  go_enter Try.func29, Try.ntmps29
  go_wp2_with fail
  have hW : Went pb w (w.alloc (.cells #[.int .i64 0, .int .i64 0, .int .i64 0] 45)) := (Went.refl hp).alloc _
  refine (num_any pb 9 _ (by omega) (by omega) hW.1).mono ?_
  rintro e w1 ⟨k1, hk1, rfl, hw1⟩
  go_wp2_with fail
  refine (num_any pb 3 _ (by omega) (by omega) hw1.1).mono ?_
  rintro e w2 ⟨k2, hk2, rfl, hw2⟩
  have hz2 : ∀ o, w2.cell? ⟨w.heap.size, o, none⟩ = (w.alloc (.cells #[.int .i64 0, .int .i64 0, .int .i64 0] 45)).cell? ⟨w.heap.size, o, none⟩ := fun o => (hw1.trans hw2).cell (by simp) hlt
  have hf2 : ∀ o, w2.frozen? ⟨w.heap.size, o, none⟩ = (w.alloc (.cells #[.int .i64 0, .int .i64 0, .int .i64 0] 45)).frozen? ⟨w.heap.size, o, none⟩ := fun o => (hw1.trans hw2).frozen (by simp) hlt
  have hs2 : w.heap.size < w2.heap.size := by have := (hw1.trans hw2).2.size; simp at this; omega
  go_wp2_with fail
  have hW2 : Went pb w2 (w2.alloc (.cells #[.int .i64 (1 + k1), .int .i64 (1 + k2), .int .i64 0] 45)) := (Went.refl hw2.1).alloc _
  refine (num_any pb (1 + k1) _ (by omega) (by omega) hW2.1).mono ?_
  rintro e w3 ⟨k3, hk3, rfl, hw3⟩
  have c0 : ∀ o, w3.cell? ⟨w2.heap.size, o, none⟩ = (w2.alloc (.cells #[.int .i64 (1 + k1), .int .i64 (1 + k2), .int .i64 0] 45)).cell? ⟨w2.heap.size, o, none⟩ := fun o => hw3.cell (by simp) (by omega)
  have f0 : ∀ o, w3.frozen? ⟨w2.heap.size, o, none⟩ = (w2.alloc (.cells #[.int .i64 (1 + k1), .int .i64 (1 + k2), .int .i64 0] 45)).frozen? ⟨w2.heap.size, o, none⟩ := fun o => hw3.frozen (by simp) (by omega)
  have c1 : ∀ o, w3.cell? ⟨w.heap.size, o, none⟩ = w2.cell? ⟨w.heap.size, o, none⟩ := fun o => (hW2.trans hw3).cell hs2 hlt
  have f1 : ∀ o, w3.frozen? ⟨w.heap.size, o, none⟩ = w2.frozen? ⟨w.heap.size, o, none⟩ := fun o => (hW2.trans hw3).frozen hs2 hlt
  have hne : w2.heap.size ≠ w.heap.size := by omega
  have hne' : w.heap.size ≠ w2.heap.size := by omega
  have R : Went pb w w3 := hW.trans ((hw1.trans hw2).trans (hW2.trans hw3))
  clear hW hw1 hw2 hW2 hw3
  go_wp2
  refine bodyPost_ret (v := .agg #[.int .i64 (1 + k1), .int .i64 (1 + k2), .int .i64 (1 + k3)]) (by simp [results, Try.results29, go_sem, c1, hz2]) rfl ⟨_, _, _, rfl, ?_⟩
  exact (((R.setCell (by show w.heap.size ≤ w2.heap.size; omega) hlt _).setCell (Nat.le_refl _) hlt _).setCell (Nat.le_refl _) hlt _).setCell (Nat.le_refl _) hlt _

/-- What is owned stays owned while choices are read. -/
theorem own_went {pb : Nat} {w w' : World} {base : Nat} {e : TypeId} {size : Nat} {v : Value} {n : Nat} {xs : List Value} (h : w.ownsRow base e size v n xs) (hb : Went pb w w') (hp : pb < base) : w'.ownsRow base e size v n xs := by
  obtain ⟨h1, h2⟩ := h
  refine ⟨h1, ?_⟩
  rcases h2 with h2 | ⟨g, cap, cur, hv, hg, hh, r⟩
  · exact Or.inl h2
  · have hlt : g < w.heap.size := by
      by_cases hlt : g < w.heap.size
      · exact hlt
      · rw [Array.getElem?_eq_none (by omega)] at hh; cases hh
    exact Or.inr ⟨g, cap, cur, hv, hg, by rw [hb.2.block g hlt (by unfold But; omega)]; exact hh, r⟩

theorem own_form {w : World} {base size n : Nat} {e : TypeId} {v : Value} {xs : List Value} (h : w.ownsRow base e size v n xs) : (v = .slice none 0 0 ∧ n = 0) ∨ ∃ g cap, v = .slice (some ⟨g, 0, none⟩) n cap := by
  rcases h.2 with h | ⟨g, cap, cur, hv, r⟩
  · exact .inl h
  · exact .inr ⟨g, cap, hv⟩

theorem own_slice {w : World} {base size n : Nat} {e : TypeId} {v : Value} {xs : List Value} (h : w.ownsRow base e size v n xs) : ∃ ao cap, v = .slice ao n cap := by
  rcases own_form h with ⟨rfl, rfl⟩ | ⟨g, cap, rfl⟩
  · exact ⟨none, 0, rfl⟩
  · exact ⟨_, cap, rfl⟩

/-- Attributes' cells. -/
def cellsA : List (Int × Int) → List Value
  | [] => []
  | a :: r => .int .i64 a.1 :: .int .i64 a.2 :: cellsA r

theorem cellsA_append (l m : List (Int × Int)) : cellsA (l ++ m) = cellsA l ++ cellsA m := by
  induction l with
  | nil => rfl
  | cons x r ih => simp [cellsA, ih]

theorem cellsA_get (l : List (Int × Int)) (j : Nat) (h : j < l.length) : (cellsA l)[j * 2]? = some (.int .i64 (l[j]).1) ∧ (cellsA l)[j * 2 + 1]? = some (.int .i64 (l[j]).2) := by
  induction l generalizing j with
  | nil => simp at h
  | cons y r ih =>
    cases j with
    | zero => simp [cellsA]
    | succ j =>
      have e : (j + 1) * 2 = j * 2 + 2 := by omega
      rw [e]
      simp only [cellsA, List.getElem_cons_succ]
      exact ih j (by simpa using h)

/-- All blocks from B on. -/
def From (B : Nat) : Nat → Prop := fun b => B ≤ b

/-- A row of attributes lies in a block of P. -/
def Row (P : Nat → Prop) (w : World) (ao : Option Addr) (al : List (Int × Int)) : Prop :=
  0 < al.length → ∃ b, ao = some ⟨b, 0, none⟩ ∧ P b ∧ b < w.heap.size ∧ ∀ j (hj : j < al.length), w.cell? ⟨b, j * 2, none⟩ = some (.int .i64 (al[j]).1) ∧ w.cell? ⟨b, j * 2 + 1, none⟩ = some (.int .i64 (al[j]).2)

theorem row_of_own {w : World} {base cap : Nat} {ao : Option Addr} {al : List (Int × Int)} (h : w.ownsRow base 87 2 (.slice ao al.length cap) al.length (cellsA al)) : Row (From base) w ao al := by
  intro hl
  rcases own_form h with ⟨_, h0⟩ | ⟨g, cap', e⟩
  · omega
  · cases e
    have hg := h.lt g rfl
    refine ⟨g, rfl, hg.1, hg.2, fun j hj => ?_⟩
    obtain ⟨e1, e2⟩ := cellsA_get al j hj
    exact ⟨(h.cellAt (j * 2) (by omega)).trans e1, (h.cellAt (j * 2 + 1) (by omega)).trans e2⟩

theorem Try.info87 : (Try.prog.info? 87).map (fun i => (i.zero, i.size, i.bytes)) = some (some (.agg #[.int .i64 0, .int .i64 0]), 2, 16) := by kernel_rfl

def vals : List Int := [0, 1, 5, 7, 50, 99]

theorem vals_small : ∀ j : Fin 6, 0 ≤ vals.getD j 0 ∧ vals.getD j 0 ≤ 99 := by decide

theorem small_snoc {al : List (Int × Int)} {k x : Int} (h : Ev.Small al) (hx : 0 ≤ x ∧ x ≤ 99) : Ev.Small (al ++ [(k, x)]) := by
  intro a ha
  rw [List.mem_append] at ha
  rcases ha with ha | ha
  · exact h a ha
  · simp at ha; subst ha; exact hx

set_option maxHeartbeats 2000000 in
theorem attrs18 (pb : Nat) (w : World) (hp : Pick w pb) :
    Calls Try.prog 30 #[.pointer (some ⟨pb, 0, none⟩)] w fun e w' => ∃ (ao : Option Addr) (cap : Nat) (al : List (Int × Int)), al.length ≤ 3 ∧ Ev.Small al ∧ e = .returned (.slice ao al.length cap) ∧ Row (From w.heap.size) w' ao al ∧ Went pb w w' := by
  have hlt := hp.lt
  go_enter Try.func30, Try.ntmps30
  go_wp2_with fail
  go_loopw [3, 4] (fun v i wr => ∃ (k : Nat) (al : List (Int × Int)), k ≤ 4 ∧ al.length ≤ 3 ∧ Ev.Small al ∧ i = .int .i64 k ∧ wr.ownsRow w.heap.size 87 2 v al.length (cellsA al) ∧ Went pb w wr) (fun _ i _ => 4 - (intOf i).toNat)
  case atStart => exact ⟨0, [], by omega, by simp, fun _ h => (by cases h), rfl, World.ownsRow_nil _ _ _ _, Went.refl hp⟩
  case round =>
    obtain ⟨k, al, hk, hal, hsm, rfl, hown, hwent⟩ := hrel
    obtain ⟨ao, cap, rfl⟩ := own_slice hown
    by_cases h4 : k < 4
    · by_cases h3 : al.length < 3
      · go_wp2_with fail
        refine (num_any pb 2 _ (by omega) (by omega) hwent.1).mono ?_
        rintro e w1 ⟨q, hq, rfl, hw1⟩
        have hown1 := own_went hown hw1 hlt
        have hwent1 := hwent.trans hw1
        clear hown hwent hw1
        by_cases hq0 : q = 0
        · subst hq0
          go_wp2_with fail
          have hW : Went pb w (w1.alloc (.cells #[.int .i64 0, .int .i64 1, .int .i64 5, .int .i64 7, .int .i64 50, .int .i64 99] 3)) := hwent1.alloc _
          have ht : ∀ k, k < 6 → (w1.alloc (.cells #[.int .i64 0, .int .i64 1, .int .i64 5, .int .i64 7, .int .i64 50, .int .i64 99] 3)).cell? ⟨w1.heap.size, k, none⟩ = some (.int .i64 (vals.getD k 0)) := fun k hk => table_i vals w1 3 k hk
          refine (num_any pb 6 _ (by omega) (by omega) hW.1).mono ?_
          rintro e w2 ⟨j, hj, rfl, hw2⟩
          have hs1 : w.heap.size ≤ w1.heap.size := hwent1.2.size
          have qx : w2.cell? ⟨w1.heap.size, j, none⟩ = some (.int .i64 (vals.getD j 0)) := (hw2.cell (by simp) (by omega)).trans (ht j (by omega))
          have hown2 := own_went (hown1.alloc _) hw2 hlt
          have hwent2 := hW.trans hw2
          have hs2 : w.heap.size ≤ w2.heap.size := hwent2.2.size
          have hj6 : j < 6 := by omega
          have hx99 : 0 ≤ vals.getD j 0 ∧ vals.getD j 0 ≤ 99 := vals_small ⟨j, hj6⟩
          generalize vals.getD j 0 = x at *
          clear ht hW hw2 hown1 hwent1
          obtain ⟨i0, hi, hz0, hz1, hz2⟩ := info_parts Try.info87
          go_wp2_with (at_builtin; refine wpList_append_own _ rfl _ _ 46 rfl w.heap.size 87 i0 _ 2 16 Try.underlying46 hi hz0 hz1 hz2 rfl (by decide) _ _ _ rfl (hown2.alloc _) ⟨w2.heap.size, 0, none⟩ 1 1 [.int .i64 k, .int .i64 x] rfl rfl ?c1 ?c2 ?c3 ?c4 ?c5 ?_)
          case c1 =>
            intro j u hj
            match j, hj with
            | 0, hj => simp at hj; subst hj; simp [Addr.add]
            | 1, hj => simp at hj; subst hj; simp [Addr.add]
          case c2 => intro u hu; simp at hu; rcases hu with rfl | rfl <;> rfl
          case c3 => unfold maxLen; omega
          case c4 => omega
          case c5 => simp; omega
          intro v' w3 hown' hgrow _
          have R : w3.ownsRow w.heap.size 87 2 v' (al ++ [((k : Int), x)]).length (cellsA (al ++ [((k : Int), x)])) := by
            rw [cellsA_append, List.length_append]; exact hown'
          have hbel : Below w.heap.size w2 w3 := ((Below.refl _ w2).alloc hs2 _).grown hgrow (by simp; omega) (fun k hk => (hown2.lt k hk).1)
          have hkept : Kept (But pb) w w3 := by
            have a := hwent2.2.alloc (.cells #[.int .i64 k, .int .i64 x] 87)
            have b := hgrow
            refine ⟨?_, ?_, ?_, ?_, ?_⟩
            · exact b.os.trans a.os
            · exact b.tape.trans a.tape
            · exact b.output.trans a.output
            · exact Nat.le_trans a.size b.size
            · intro k hk hk'
              exact (b.block k (Nat.lt_of_lt_of_le hk a.size) (fun e => by have := (hown2.lt k e.symm).1; omega)).trans (a.block k hk hk')
          have R2 : Went pb w w3 := ⟨hwent2.1.below (hbel.mono (by omega)), hkept⟩
          clear hown' hgrow hown2 hwent2 hi hz0 hz1 hz2 hbel hkept
          go_wp2
          go_roundw
          case rel => exact ⟨k + 1, _, by omega, by simp; omega, small_snoc hsm hx99, by go_num, R, R2⟩
          case measure => simp [intOf]; omega
        · have hq1 : q = 1 := by omega
          subst hq1
          go_wp2
          go_roundw
          case rel => exact ⟨k + 1, al, by omega, hal, hsm, by go_num, hown1, hwent1⟩
          case measure => simp [intOf]; omega
      · go_wp2
        go_ret
        exact ⟨ao, cap, al, hal, hsm, rfl, row_of_own hown, hwent⟩
    · go_wp2
      go_ret
      exact ⟨ao, cap, al, hal, hsm, rfl, row_of_own hown, hwent⟩

end Go.Proofs.Ytflpdekifkcfkab
