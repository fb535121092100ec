/- word.first: the word that a text begins with. -/
import Derived.Test.YtdeojcodbojmoaaGreatDoorLeaves
import Derived.Test.YtdeojcodbojmoaaGreatDoorLib
namespace Go.Proofs.YtdeojcodbojmoaaGreatDoor
open Go.RowKit
set_option maxRecDepth 100000

/-- A word's cells, without its place. -/
def oneV (o : Wd.One) : Value := .agg #[.int .i64 o.kind, .string ⟨o.text.toArray⟩, .int .i64 o.num, .int .i64 0]

theorem bcell {W w1 : World} (hb : Below W.heap.size W w1) : (∀ b o, b < W.heap.size → w1.cell? ⟨b, o, none⟩ = W.cell? ⟨b, o, none⟩) ∧ (∀ b o, b < W.heap.size → w1.frozen? ⟨b, o, none⟩ = W.frozen? ⟨b, o, none⟩) :=
  ⟨fun b o h => hb.cell (p := ⟨b, o, none⟩) h, fun b o h => hb.frozen (p := ⟨b, o, none⟩) h⟩

set_option maxHeartbeats 400000 in
theorem first_many (s : ByteArray) (w : World) (hs : s.size ≤ maxLen) (h : 6 < Wd.cnt 97 122 s.data.toList) :
    Calls Tryz.prog 66 #[.string s] w fun e w' => e = .returned (.tuple #[oneV Wd.nothing, .int .i64 0]) ∧ Below w.heap.size w w' := by
  have c1 := fun w => run_any s 97 122 w hs
  have c2 := fun w => run_any s 48 57 w hs
  generalize Wd.cnt 97 122 s.data.toList = a at *
  generalize Wd.cnt 48 57 s.data.toList = d at *
  go_enter Tryz.func66, Tryz.ntmps66
  go_wp2_with fail
  refine (c1 _).mono ?_
  rintro e w' ⟨rfl, rfl⟩
  go_wp2_with fail
  refine (c2 _).mono ?_
  rintro e w' ⟨rfl, rfl⟩
  clear c1 c2
  go_wp2_with fail
  refine bodyPost_ret (v := .tuple #[oneV Wd.nothing, .int .i64 0]) (by simp [results, Tryz.results66, go_sem, oneV, Wd.nothing]) rfl ⟨rfl, ?_⟩
  exact (Below.refl _ _).alloc (Nat.le_refl _) _

set_option maxHeartbeats 400000 in
theorem first_long (s : ByteArray) (w : World) (hs : s.size ≤ maxLen) (h : Wd.cnt 97 122 s.data.toList ≤ 6) (h2 : 2 < Wd.cnt 48 57 s.data.toList) :
    Calls Tryz.prog 66 #[.string s] w fun e w' => e = .returned (.tuple #[oneV Wd.nothing, .int .i64 0]) ∧ Below w.heap.size w w' := by
  have c1 := fun w => run_any s 97 122 w hs
  have c2 := fun w => run_any s 48 57 w hs
  generalize Wd.cnt 97 122 s.data.toList = a at *
  generalize Wd.cnt 48 57 s.data.toList = d at *
  go_enter Tryz.func66, Tryz.ntmps66
  go_wp2_with fail
  refine (c1 _).mono ?_
  rintro e w' ⟨rfl, rfl⟩
  go_wp2_with fail
  refine (c2 _).mono ?_
  rintro e w' ⟨rfl, rfl⟩
  clear c1 c2
  go_wp2_with fail
  refine bodyPost_ret (v := .tuple #[oneV Wd.nothing, .int .i64 0]) (by simp [results, Tryz.results66, go_sem, oneV, Wd.nothing]) rfl ⟨rfl, ?_⟩
  exact (Below.refl _ _).alloc (Nat.le_refl _) _

set_option maxHeartbeats 400000 in
theorem first_name (s : ByteArray) (w : World) (hs : s.size ≤ maxLen) (h : Wd.cnt 97 122 s.data.toList ≤ 6) (h0 : 0 < Wd.cnt 97 122 s.data.toList) (h2 : Wd.cnt 48 57 s.data.toList ≤ 2) :
    Calls Tryz.prog 66 #[.string s] w fun e w' => e = .returned (.tuple #[.agg #[.int .i64 1, .string (s.extract 0 (Wd.cnt 97 122 s.data.toList)), .int .i64 0, .int .i64 0], .int .i64 (Wd.cnt 97 122 s.data.toList)]) ∧ Below w.heap.size w w' := by
  have c1 := fun w => run_any s 97 122 w hs
  have c2 := fun w => run_any s 48 57 w hs
  have hl := Wd.cnt_le 97 122 s.data.toList
  have c3 := fun w => piece13 s (Wd.cnt 97 122 s.data.toList) w h0 (by simpa using hl) (by omega)
  clear hl
  generalize Wd.cnt 97 122 s.data.toList = a at *
  generalize Wd.cnt 48 57 s.data.toList = d at *
  go_enter Tryz.func66, Tryz.ntmps66
  go_wp2_with fail
  refine (c1 _).mono ?_
  rintro e w' ⟨rfl, rfl⟩
  go_wp2_with fail
  refine (c2 _).mono ?_
  rintro e w' ⟨rfl, rfl⟩
  clear c1 c2
  go_wp2_with fail
  refine (c3 _).mono ?_
  rintro e w1 ⟨rfl, hb⟩
  obtain ⟨hc, hf⟩ := bcell hb
  clear c3
  go_wp2
  refine bodyPost_ret (v := .tuple #[.agg #[.int .i64 1, .string (s.extract 0 a), .int .i64 0, .int .i64 0], .int .i64 a]) (by simp [results, Tryz.results66, go_sem, hc]) rfl ⟨rfl, ?_⟩
  exact ((((((Below.refl _ _).alloc (Nat.le_refl _) _).trans (hb.mono (by simp))).setCell (by simp) _).setCell (by simp) _).setCell (by simp) _).setCell (by simp) _

set_option maxHeartbeats 400000 in
theorem first_number (s : ByteArray) (w : World) (hs : s.size ≤ maxLen) (h : Wd.cnt 97 122 s.data.toList = 0) (h0 : 0 < Wd.cnt 48 57 s.data.toList) (h2 : Wd.cnt 48 57 s.data.toList ≤ 2) :
    Calls Tryz.prog 66 #[.string s] w fun e w' => e = .returned (.tuple #[.agg #[.int .i64 2, .string ⟨#[]⟩, .int .i64 (Wd.value (s.data.toList.take (Wd.cnt 48 57 s.data.toList))), .int .i64 0], .int .i64 (Wd.cnt 48 57 s.data.toList)]) ∧ Below w.heap.size w w' := by
  have c1 := fun w => run_any s 97 122 w hs
  have c2 := fun w => run_any s 48 57 w hs
  rw [h] at c1
  have hl : Wd.cnt 48 57 s.data.toList ≤ s.size := by simpa using Wd.cnt_le 48 57 s.data.toList
  have hx : (s.extract 0 (Wd.cnt 48 57 s.data.toList)).data.toList = s.data.toList.take (Wd.cnt 48 57 s.data.toList) := by simp
  have hz : (s.extract 0 (Wd.cnt 48 57 s.data.toList)).size = Wd.cnt 48 57 s.data.toList := by simp; omega
  have c3 := fun w => value_any (s.extract 0 (Wd.cnt 48 57 s.data.toList)) w (fun c hc => by
    rw [hx] at hc
    obtain ⟨j, hj, rfl⟩ := List.mem_iff_getElem.1 hc
    rw [List.getElem_take]
    simp only [List.length_take] at hj
    exact Wd.cnt_all 48 57 _ j (by omega) (by omega)) (by omega) (by omega)
  rw [hx] at c3
  clear hx hz h
  generalize Wd.value (s.data.toList.take (Wd.cnt 48 57 s.data.toList)) = n at *
  generalize Wd.cnt 48 57 s.data.toList = d at *
  go_enter Tryz.func66, Tryz.ntmps66
  go_wp2_with fail
  refine (c1 _).mono ?_
  rintro e w' ⟨rfl, rfl⟩
  go_wp2_with fail
  refine (c2 _).mono ?_
  rintro e w' ⟨rfl, rfl⟩
  clear c1 c2
  go_wp2_with fail
  refine (c3 _).mono ?_
  rintro e w' ⟨rfl, rfl⟩
  clear c3
  go_wp2
  refine bodyPost_ret (v := .tuple #[.agg #[.int .i64 2, .string ⟨#[]⟩, .int .i64 n, .int .i64 0], .int .i64 d]) (by simp [results, Tryz.results66, go_sem]) rfl ⟨rfl, ?_⟩
  exact (Below.refl _ _).alloc (Nat.le_refl _) _

theorem index_in (l : List UInt8) (c : UInt8) : 0 ≤ Lib.indexByte l c ↔ c ∈ l := by
  induction l with
  | nil => simp [Lib.indexByte]
  | cons b r ih =>
    have hg := Lib.indexByte_ge r c
    unfold Lib.indexByte
    by_cases e : b = c
    · subst e; simp
    · have e' : ¬ c = b := fun x => e x.symm
      simp only [beq_eq_false_iff_ne.2 e, Bool.false_eq_true, if_false, List.mem_cons, e', false_or]
      rw [← ih]
      by_cases hm : Lib.indexByte r c = -1
      · simp [hm]
      · simp [hm]; omega

theorem first_byte (c : UInt8) : ((c.toNat : Int)).toNat.toUInt8 = c := by simp

set_option maxHeartbeats 400000 in
theorem first_mark (s : ByteArray) (w : World) (hs : s.size ≤ maxLen) (hp : 0 < s.size) (h : Wd.cnt 97 122 s.data.toList = 0) (h2 : Wd.cnt 48 57 s.data.toList = 0) (hm : s[0] ∈ Wd.marks) :
    Calls Tryz.prog 66 #[.string s] w fun e w' => e = .returned (.tuple #[.agg #[.int .i64 3, .string (s.extract 0 1), .int .i64 0, .int .i64 0], .int .i64 1]) ∧ Below w.heap.size w w' := by
  have c1 := fun w => run_any s 97 122 w hs
  have c2 := fun w => run_any s 48 57 w hs
  rw [h] at c1
  rw [h2] at c2
  clear h h2
  have c3 := fun w => index15 ⟨#[40, 41, 33, 38, 124, 42, 61, 58, 45, 64, 94]⟩ (s[0].toNat : Int) w
  rw [first_byte] at c3
  have hi : 0 ≤ Lib.indexByte (⟨#[40, 41, 33, 38, 124, 42, 61, 58, 45, 64, 94]⟩ : ByteArray).data.toList s[0] := (index_in _ _).2 hm
  generalize Lib.indexByte (⟨#[40, 41, 33, 38, 124, 42, 61, 58, 45, 64, 94]⟩ : ByteArray).data.toList s[0] = n at *
  have c4 := fun w => piece13 s 1 w (by omega) (by omega) (by omega)
  clear hm
  go_enter Tryz.func66, Tryz.ntmps66
  go_wp2_with fail
  refine (c1 _).mono ?_
  rintro e w' ⟨rfl, rfl⟩
  go_wp2_with fail
  refine (c2 _).mono ?_
  rintro e w' ⟨rfl, rfl⟩
  clear c1 c2
  go_wp2_with fail
  refine (c3 _).mono ?_
  rintro e w' ⟨rfl, rfl⟩
  go_wp2_with fail
  refine (c4 _).mono ?_
  rintro e w1 ⟨rfl, hb⟩
  obtain ⟨hc, hf⟩ := bcell hb
  clear c3 c4
  go_wp2
  refine bodyPost_ret (v := .tuple #[.agg #[.int .i64 3, .string (s.extract 0 1), .int .i64 0, .int .i64 0], .int .i64 1]) (by simp [results, Tryz.results66, go_sem, hc]) rfl ⟨rfl, ?_⟩
  exact ((((((Below.refl _ _).alloc (Nat.le_refl _) _).trans (hb.mono (by simp))).setCell (by simp) _).setCell (by simp) _).setCell (by simp) _).setCell (by simp) _

set_option maxHeartbeats 400000 in
theorem first_none (s : ByteArray) (w : World) (hs : s.size ≤ maxLen) (hp : 0 < s.size) (h : Wd.cnt 97 122 s.data.toList = 0) (h2 : Wd.cnt 48 57 s.data.toList = 0) (hm : ¬ s[0] ∈ Wd.marks) :
    Calls Tryz.prog 66 #[.string s] w fun e w' => e = .returned (.tuple #[oneV Wd.nothing, .int .i64 0]) ∧ Below w.heap.size w w' := by
  have c1 := fun w => run_any s 97 122 w hs
  have c2 := fun w => run_any s 48 57 w hs
  rw [h] at c1
  rw [h2] at c2
  clear h h2
  have c3 := fun w => index15 ⟨#[40, 41, 33, 38, 124, 42, 61, 58, 45, 64, 94]⟩ (s[0].toNat : Int) w
  rw [first_byte] at c3
  have hi : ¬ 0 ≤ Lib.indexByte (⟨#[40, 41, 33, 38, 124, 42, 61, 58, 45, 64, 94]⟩ : ByteArray).data.toList s[0] := fun x => hm ((index_in _ _).1 x)
  generalize Lib.indexByte (⟨#[40, 41, 33, 38, 124, 42, 61, 58, 45, 64, 94]⟩ : ByteArray).data.toList s[0] = n at *
  clear hm
  go_enter Tryz.func66, Tryz.ntmps66
  go_wp2_with fail
  refine (c1 _).mono ?_
  rintro e w' ⟨rfl, rfl⟩
  go_wp2_with fail
  refine (c2 _).mono ?_
  rintro e w' ⟨rfl, rfl⟩
  clear c1 c2
  go_wp2_with fail
  refine (c3 _).mono ?_
  rintro e w' ⟨rfl, rfl⟩
  clear c3
  go_wp2
  refine bodyPost_ret (v := .tuple #[oneV Wd.nothing, .int .i64 0]) (by simp [results, Tryz.results66, go_sem, oneV, Wd.nothing]) rfl ⟨rfl, ?_⟩
  exact (Below.refl _ _).alloc (Nat.le_refl _) _

/-- word.first tells what Wd.first tells. -/
theorem first_any (s : ByteArray) (w : World) (hs : s.size ≤ maxLen) (hp : 0 < s.size) :
    Calls Tryz.prog 66 #[.string s] w fun e w' => e = .returned (.tuple #[oneV (Wd.first s.data.toList), .int .i64 (Wd.first s.data.toList).size]) ∧ Below w.heap.size w w' := by
  obtain ⟨c, r, hl⟩ : ∃ c r, s.data.toList = c :: r := by
    cases e : s.data.toList with
    | nil => have : s.data.toList.length = s.size := by simp
             rw [e] at this; simp at this; omega
    | cons c r => exact ⟨c, r, rfl⟩
  have h0 : s[0] = c := by rw [← byteAt s 0 hp]; simp [hl]
  have hx : ∀ n, s.extract 0 n = ⟨((c :: r).take n).toArray⟩ := fun n => by
    apply ByteArray.ext; apply Array.ext'; simp [← hl]
  by_cases h1 : 6 < Wd.cnt 97 122 s.data.toList
  · have k := first_many s w hs h1
    rw [hl] at h1 ⊢
    rw [Wd.first_many (.inl h1)]
    exact k
  · by_cases h2 : 2 < Wd.cnt 48 57 s.data.toList
    · have k := first_long s w hs (by omega) h2
      rw [hl] at h2 ⊢
      rw [Wd.first_many (.inr h2)]
      exact k
    · by_cases h3 : 0 < Wd.cnt 97 122 s.data.toList
      · have k := first_name s w hs (by omega) h3 (by omega)
        rw [hx] at k
        rw [hl] at h1 h2 h3 k ⊢
        rw [Wd.first_name (by omega) h3]
        exact k
      · by_cases h4 : 0 < Wd.cnt 48 57 s.data.toList
        · have k := first_number s w hs (by omega) h4 (by omega)
          rw [hl] at h1 h2 h3 h4 k ⊢
          rw [Wd.first_number (by omega) h3 h4]
          exact k
        · by_cases h5 : c ∈ Wd.marks
          · have k := first_mark s w hs hp (by omega) (by omega) (by rw [h0]; exact h5)
            rw [hx] at k
            rw [hl] at h1 h2 h3 h4 ⊢
            rw [Wd.first_mark (by omega) h3 h4 h5]
            exact k
          · have k := first_none s w hs hp (by omega) (by omega) (by rw [h0]; exact h5)
            rw [hl] at h1 h2 h3 h4 ⊢
            rw [Wd.first_none (by omega) h3 h4 h5]
            exact k

end Go.Proofs.YtdeojcodbojmoaaGreatDoor
