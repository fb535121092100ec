/- word.first: the word that a text begins with. -/
/- word.All: the words of a text. -/
import Derived.Test.YtdeojcodbojmoaaGreatDoorJac
import Derived.Test.YtdeojcodbojmoaaGreatDoorJag
import Derived.Test.YtdeojcodbojmoaaGreatDoorJab
namespace Go.Proofs.YtdeojcodbojmoaaGreatDoor
open Go.RowKit
set_option maxRecDepth 100000

/-- A word's cells, without its place. -/
def oneV (o : Wd.One) : Value := .agg #[.int .i64 o.kind, .string ⟨o.text.toArray⟩, .int .i64 o.num, .int .i64 0]

theorem bcell {W w1 : World} (hb : Below W.heap.size W w1) : (∀ b o, b < W.heap.size → w1.cell? ⟨b, o, none⟩ = W.cell? ⟨b, o, none⟩) ∧ (∀ b o, b < W.heap.size → w1.frozen? ⟨b, o, none⟩ = W.frozen? ⟨b, o, none⟩) :=
  ⟨fun b o h => hb.cell (p := ⟨b, o, none⟩) h, fun b o h => hb.frozen (p := ⟨b, o, none⟩) h⟩

set_option maxHeartbeats 400000 in
theorem first_many (s : ByteArray) (w : World) (hs : s.size ≤ maxLen) (h : 6 < Wd.cnt 97 122 s.data.toList) :
    Calls Tryz.prog 66 #[.string s] w fun e w' => e = .returned (.tuple #[oneV Wd.nothing, .int .i64 0]) ∧ Below w.heap.size w w' := by
  have c1 := fun w => run_any s 97 122 w hs
  have c2 := fun w => run_any s 48 57 w hs
  generalize Wd.cnt 97 122 s.data.toList = a at *
  generalize Wd.cnt 48 57 s.data.toList = d at *
  go_enter Tryz.func66, Tryz.ntmps66
  go_wp2_with fail
  refine (c1 _).mono ?_
  rintro e w' ⟨rfl, rfl⟩
  go_wp2_with fail
  refine (c2 _).mono ?_
  rintro e w' ⟨rfl, rfl⟩
  clear c1 c2
  go_wp2_with fail
  refine bodyPost_ret (v := .tuple #[oneV Wd.nothing, .int .i64 0]) (by simp [results, Tryz.results66, go_sem, oneV, Wd.nothing]) rfl ⟨rfl, ?_⟩
  exact (Below.refl _ _).alloc (Nat.le_refl _) _

set_option maxHeartbeats 400000 in
theorem first_long (s : ByteArray) (w : World) (hs : s.size ≤ maxLen) (h : Wd.cnt 97 122 s.data.toList ≤ 6) (h2 : 2 < Wd.cnt 48 57 s.data.toList) :
    Calls Tryz.prog 66 #[.string s] w fun e w' => e = .returned (.tuple #[oneV Wd.nothing, .int .i64 0]) ∧ Below w.heap.size w w' := by
  have c1 := fun w => run_any s 97 122 w hs
  have c2 := fun w => run_any s 48 57 w hs
  generalize Wd.cnt 97 122 s.data.toList = a at *
  generalize Wd.cnt 48 57 s.data.toList = d at *
  go_enter Tryz.func66, Tryz.ntmps66
  go_wp2_with fail
  refine (c1 _).mono ?_
  rintro e w' ⟨rfl, rfl⟩
  go_wp2_with fail
  refine (c2 _).mono ?_
  rintro e w' ⟨rfl, rfl⟩
  clear c1 c2
  go_wp2_with fail
  refine bodyPost_ret (v := .tuple #[oneV Wd.nothing, .int .i64 0]) (by simp [results, Tryz.results66, go_sem, oneV, Wd.nothing]) rfl ⟨rfl, ?_⟩
  exact (Below.refl _ _).alloc (Nat.le_refl _) _

set_option maxHeartbeats 400000 in
theorem first_name (s : ByteArray) (w : World) (hs : s.size ≤ maxLen) (h : Wd.cnt 97 122 s.data.toList ≤ 6) (h0 : 0 < Wd.cnt 97 122 s.data.toList) (h2 : Wd.cnt 48 57 s.data.toList ≤ 2) :
    Calls Tryz.prog 66 #[.string s] w fun e w' => e = .returned (.tuple #[.agg #[.int .i64 1, .string (s.extract 0 (Wd.cnt 97 122 s.data.toList)), .int .i64 0, .int .i64 0], .int .i64 (Wd.cnt 97 122 s.data.toList)]) ∧ Below w.heap.size w w' := by
  have c1 := fun w => run_any s 97 122 w hs
  have c2 := fun w => run_any s 48 57 w hs
  have hl := Wd.cnt_le 97 122 s.data.toList
  have c3 := fun w => piece13 s (Wd.cnt 97 122 s.data.toList) w h0 (by simpa using hl) (by omega)
  clear hl
  generalize Wd.cnt 97 122 s.data.toList = a at *
  generalize Wd.cnt 48 57 s.data.toList = d at *
  go_enter Tryz.func66, Tryz.ntmps66
  go_wp2_with fail
  refine (c1 _).mono ?_
  rintro e w' ⟨rfl, rfl⟩
  go_wp2_with fail
  refine (c2 _).mono ?_
  rintro e w' ⟨rfl, rfl⟩
  clear c1 c2
  go_wp2_with fail
  refine (c3 _).mono ?_
  rintro e w1 ⟨rfl, hb⟩
  obtain ⟨hc, hf⟩ := bcell hb
  clear c3
  go_wp2
  refine bodyPost_ret (v := .tuple #[.agg #[.int .i64 1, .string (s.extract 0 a), .int .i64 0, .int .i64 0], .int .i64 a]) (by simp [results, Tryz.results66, go_sem, hc]) rfl ⟨rfl, ?_⟩
  exact ((((((Below.refl _ _).alloc (Nat.le_refl _) _).trans (hb.mono (by simp))).setCell (by simp) _).setCell (by simp) _).setCell (by simp) _).setCell (by simp) _

set_option maxHeartbeats 400000 in
theorem first_number (s : ByteArray) (w : World) (hs : s.size ≤ maxLen) (h : Wd.cnt 97 122 s.data.toList = 0) (h0 : 0 < Wd.cnt 48 57 s.data.toList) (h2 : Wd.cnt 48 57 s.data.toList ≤ 2) :
    Calls Tryz.prog 66 #[.string s] w fun e w' => e = .returned (.tuple #[.agg #[.int .i64 2, .string ⟨#[]⟩, .int .i64 (Wd.value (s.data.toList.take (Wd.cnt 48 57 s.data.toList))), .int .i64 0], .int .i64 (Wd.cnt 48 57 s.data.toList)]) ∧ Below w.heap.size w w' := by
  have c1 := fun w => run_any s 97 122 w hs
  have c2 := fun w => run_any s 48 57 w hs
  rw [h] at c1
  have hl : Wd.cnt 48 57 s.data.toList ≤ s.size := by simpa using Wd.cnt_le 48 57 s.data.toList
  have hx : (s.extract 0 (Wd.cnt 48 57 s.data.toList)).data.toList = s.data.toList.take (Wd.cnt 48 57 s.data.toList) := by simp
  have hz : (s.extract 0 (Wd.cnt 48 57 s.data.toList)).size = Wd.cnt 48 57 s.data.toList := by simp; omega
  have c3 := fun w => value_any (s.extract 0 (Wd.cnt 48 57 s.data.toList)) w (fun c hc => by
    rw [hx] at hc
    obtain ⟨j, hj, rfl⟩ := List.mem_iff_getElem.1 hc
    rw [List.getElem_take]
    simp only [List.length_take] at hj
    exact Wd.cnt_all 48 57 _ j (by omega) (by omega)) (by omega) (by omega)
  rw [hx] at c3
  clear hx hz h
  generalize Wd.value (s.data.toList.take (Wd.cnt 48 57 s.data.toList)) = n at *
  generalize Wd.cnt 48 57 s.data.toList = d at *
  go_enter Tryz.func66, Tryz.ntmps66
  go_wp2_with fail
  refine (c1 _).mono ?_
  rintro e w' ⟨rfl, rfl⟩
  go_wp2_with fail
  refine (c2 _).mono ?_
  rintro e w' ⟨rfl, rfl⟩
  clear c1 c2
  go_wp2_with fail
  refine (c3 _).mono ?_
  rintro e w' ⟨rfl, rfl⟩
  clear c3
  go_wp2
  refine bodyPost_ret (v := .tuple #[.agg #[.int .i64 2, .string ⟨#[]⟩, .int .i64 n, .int .i64 0], .int .i64 d]) (by simp [results, Tryz.results66, go_sem]) rfl ⟨rfl, ?_⟩
  exact (Below.refl _ _).alloc (Nat.le_refl _) _

theorem index_in (l : List UInt8) (c : UInt8) : 0 ≤ Lib.indexByte l c ↔ c ∈ l := by
  induction l with
  | nil => simp [Lib.indexByte]
  | cons b r ih =>
    have hg := Lib.indexByte_ge r c
    unfold Lib.indexByte
    by_cases e : b = c
    · subst e; simp
    · have e' : ¬ c = b := fun x => e x.symm
      simp only [beq_eq_false_iff_ne.2 e, Bool.false_eq_true, if_false, List.mem_cons, e', false_or]
      rw [← ih]
      by_cases hm : Lib.indexByte r c = -1
      · simp [hm]
      · simp [hm]; omega

theorem first_byte (c : UInt8) : ((c.toNat : Int)).toNat.toUInt8 = c := by simp

set_option maxHeartbeats 400000 in
theorem first_mark (s : ByteArray) (w : World) (hs : s.size ≤ maxLen) (hp : 0 < s.size) (h : Wd.cnt 97 122 s.data.toList = 0) (h2 : Wd.cnt 48 57 s.data.toList = 0) (hm : s[0] ∈ Wd.marks) :
    Calls Tryz.prog 66 #[.string s] w fun e w' => e = .returned (.tuple #[.agg #[.int .i64 3, .string (s.extract 0 1), .int .i64 0, .int .i64 0], .int .i64 1]) ∧ Below w.heap.size w w' := by
  have c1 := fun w => run_any s 97 122 w hs
  have c2 := fun w => run_any s 48 57 w hs
  rw [h] at c1
  rw [h2] at c2
  clear h h2
  have c3 := fun w => index15 ⟨#[40, 41, 33, 38, 124, 42, 61, 58, 45, 64, 94]⟩ (s[0].toNat : Int) w
  rw [first_byte] at c3
  have hi : 0 ≤ Lib.indexByte (⟨#[40, 41, 33, 38, 124, 42, 61, 58, 45, 64, 94]⟩ : ByteArray).data.toList s[0] := (index_in _ _).2 hm
  generalize Lib.indexByte (⟨#[40, 41, 33, 38, 124, 42, 61, 58, 45, 64, 94]⟩ : ByteArray).data.toList s[0] = n at *
  have c4 := fun w => piece13 s 1 w (by omega) (by omega) (by omega)
  clear hm
  go_enter Tryz.func66, Tryz.ntmps66
  go_wp2_with fail
  refine (c1 _).mono ?_
  rintro e w' ⟨rfl, rfl⟩
  go_wp2_with fail
  refine (c2 _).mono ?_
  rintro e w' ⟨rfl, rfl⟩
  clear c1 c2
  go_wp2_with fail
  refine (c3 _).mono ?_
  rintro e w' ⟨rfl, rfl⟩
  go_wp2_with fail
  refine (c4 _).mono ?_
  rintro e w1 ⟨rfl, hb⟩
  obtain ⟨hc, hf⟩ := bcell hb
  clear c3 c4
  go_wp2
  refine bodyPost_ret (v := .tuple #[.agg #[.int .i64 3, .string (s.extract 0 1), .int .i64 0, .int .i64 0], .int .i64 1]) (by simp [results, Tryz.results66, go_sem, hc]) rfl ⟨rfl, ?_⟩
  exact ((((((Below.refl _ _).alloc (Nat.le_refl _) _).trans (hb.mono (by simp))).setCell (by simp) _).setCell (by simp) _).setCell (by simp) _).setCell (by simp) _

set_option maxHeartbeats 400000 in
theorem first_none (s : ByteArray) (w : World) (hs : s.size ≤ maxLen) (hp : 0 < s.size) (h : Wd.cnt 97 122 s.data.toList = 0) (h2 : Wd.cnt 48 57 s.data.toList = 0) (hm : ¬ s[0] ∈ Wd.marks) :
    Calls Tryz.prog 66 #[.string s] w fun e w' => e = .returned (.tuple #[oneV Wd.nothing, .int .i64 0]) ∧ Below w.heap.size w w' := by
  have c1 := fun w => run_any s 97 122 w hs
  have c2 := fun w => run_any s 48 57 w hs
  rw [h] at c1
  rw [h2] at c2
  clear h h2
  have c3 := fun w => index15 ⟨#[40, 41, 33, 38, 124, 42, 61, 58, 45, 64, 94]⟩ (s[0].toNat : Int) w
  rw [first_byte] at c3
  have hi : ¬ 0 ≤ Lib.indexByte (⟨#[40, 41, 33, 38, 124, 42, 61, 58, 45, 64, 94]⟩ : ByteArray).data.toList s[0] := fun x => hm ((index_in _ _).1 x)
  generalize Lib.indexByte (⟨#[40, 41, 33, 38, 124, 42, 61, 58, 45, 64, 94]⟩ : ByteArray).data.toList s[0] = n at *
  clear hm
  go_enter Tryz.func66, Tryz.ntmps66
  go_wp2_with fail
  refine (c1 _).mono ?_
  rintro e w' ⟨rfl, rfl⟩
  go_wp2_with fail
  refine (c2 _).mono ?_
  rintro e w' ⟨rfl, rfl⟩
  clear c1 c2
  go_wp2_with fail
  refine (c3 _).mono ?_
  rintro e w' ⟨rfl, rfl⟩
  clear c3
  go_wp2
  refine bodyPost_ret (v := .tuple #[oneV Wd.nothing, .int .i64 0]) (by simp [results, Tryz.results66, go_sem, oneV, Wd.nothing]) rfl ⟨rfl, ?_⟩
  exact (Below.refl _ _).alloc (Nat.le_refl _) _

/-- word.first tells what Wd.first tells. -/
theorem first_any (s : ByteArray) (w : World) (hs : s.size ≤ maxLen) (hp : 0 < s.size) :
    Calls Tryz.prog 66 #[.string s] w fun e w' => e = .returned (.tuple #[oneV (Wd.first s.data.toList), .int .i64 (Wd.first s.data.toList).size]) ∧ Below w.heap.size w w' := by
  obtain ⟨c, r, hl⟩ : ∃ c r, s.data.toList = c :: r := by
    cases e : s.data.toList with
    | nil => have : s.data.toList.length = s.size := by simp
             rw [e] at this; simp at this; omega
    | cons c r => exact ⟨c, r, rfl⟩
  have h0 : s[0] = c := by rw [← byteAt s 0 hp]; simp [hl]
  have hx : ∀ n, s.extract 0 n = ⟨((c :: r).take n).toArray⟩ := fun n => by
    apply ByteArray.ext; apply Array.ext'; simp [← hl]
  by_cases h1 : 6 < Wd.cnt 97 122 s.data.toList
  · have k := first_many s w hs h1
    rw [hl] at h1 ⊢
    rw [Wd.first_many (.inl h1)]
    exact k
  · by_cases h2 : 2 < Wd.cnt 48 57 s.data.toList
    · have k := first_long s w hs (by omega) h2
      rw [hl] at h2 ⊢
      rw [Wd.first_many (.inr h2)]
      exact k
    · by_cases h3 : 0 < Wd.cnt 97 122 s.data.toList
      · have k := first_name s w hs (by omega) h3 (by omega)
        rw [hx] at k
        rw [hl] at h1 h2 h3 k ⊢
        rw [Wd.first_name (by omega) h3]
        exact k
      · by_cases h4 : 0 < Wd.cnt 48 57 s.data.toList
        · have k := first_number s w hs (by omega) h4 (by omega)
          rw [hl] at h1 h2 h3 h4 k ⊢
          rw [Wd.first_number (by omega) h3 h4]
          exact k
        · by_cases h5 : c ∈ Wd.marks
          · have k := first_mark s w hs hp (by omega) (by omega) (by rw [h0]; exact h5)
            rw [hx] at k
            rw [hl] at h1 h2 h3 h4 ⊢
            rw [Wd.first_mark (by omega) h3 h4 h5]
            exact k
          · have k := first_none s w hs hp (by omega) (by omega) (by rw [h0]; exact h5)
            rw [hl] at h1 h2 h3 h4 ⊢
            rw [Wd.first_none (by omega) h3 h4 h5]
            exact k

end Go.Proofs.YtdeojcodbojmoaaGreatDoor
namespace Go.Proofs.YtdeojcodbojmoaaGreatDoor
open Go.RowKit
set_option maxRecDepth 100000

theorem Tryz.info120 : (Tryz.prog.info? 120).map (fun i => (i.zero, i.size, i.bytes)) = some (some (.agg #[.int .i64 0, .string ⟨#[]⟩, .int .i64 0, .int .i64 0]), 4, 40) := by kernel_rfl

set_option maxHeartbeats 400000 in
theorem all_great (s : ByteArray) (w : World) (h : 80 < s.size) (hs : s.size ≤ maxLen) :
    Calls Tryz.prog 50 #[.string s] w fun e w' => e = .returned (.tuple #[.slice none 0 0, .int .i64 0, .bool false]) ∧ w' = w := by
  unfold maxLen at hs
  go_enter Tryz.func50, Tryz.ntmps50
  go_wp2
  go_ret3
  exact ⟨rfl, rfl⟩

set_option maxHeartbeats 1000000 in
theorem all_small (s : ByteArray) (w : World) (h : s.size ≤ 80) :
    Calls Tryz.prog 50 #[.string s] w fun e w' => ∃ v ws n ok, Wd.rest s.data.toList 0 [] = (ws, n, ok) ∧ e = .returned (.tuple #[v, .int .i64 n, .bool ok]) ∧ w'.ownsRow w.heap.size 120 4 v ws.length (cellsOf ws) ∧ Below w.heap.size w w' := by
  go_enter Tryz.func50, Tryz.ntmps50
  go_wp2
  go_loopw [2, 3] (fun v i wr => ∃ (p : Nat) (acc : List Wd.Word), p ≤ s.size ∧ acc.length ≤ p ∧ i = .int .i64 p ∧ Wd.rest s.data.toList p acc = Wd.rest s.data.toList 0 [] ∧ wr.ownsRow w.heap.size 120 4 v acc.length (cellsOf acc) ∧ Below w.heap.size w wr) (fun _ i _ => s.size - (intOf i).toNat)
  case atStart => exact ⟨0, [], by omega, by simp, rfl, rfl, World.ownsRow_nil _ _ _ _, Below.refl _ _⟩
  case round =>
    obtain ⟨p, acc, hp, hacc, rfl, hrest, hown, hbel⟩ := hrel
    have HR : Hid (Wd.rest s.data.toList p acc = Wd.rest s.data.toList 0 []) := hrest
    clear hrest
    obtain ⟨ao, cap, rfl⟩ := own_slice hown
    by_cases hlt : p < s.size
    · obtain ⟨r, hd, hx⟩ := drop_at s p hlt
      have c1 := fun w => first_any (s.extract p s.size) w (by simp; unfold maxLen; omega) (by simp; omega)
      have hsz := Wd.first_size (s.extract p s.size).data.toList
      have hstep := Wd.rest_step s.data.toList p acc _ _ hd
      have hxl : (s.extract p s.size).data.toList.length = s.size - p := by simp
      rw [hx] at c1 hsz hxl
      rw [hxl] at hsz
      clear hxl
      have HS : Hid _ := hstep
      clear hstep hd hx
      generalize Wd.first (s[p] :: r) = o at *
      by_cases hc : s[p] = 32
      · have hb : ((s[p].toNat : Int) == 32) = true := by rw [hc]; rfl
        rw [if_pos hc] at HS
        clear hc
        go_wp2_with fail
        refine (c1 _).mono ?_
        rintro e w1 ⟨rfl, hb1⟩
        unfold oneV
        clear c1
        go_wp2
        go_roundw
        case rel =>
          have hb2 := hbel.size
          have hb3 := hb1.size
          exact ⟨p + 1, acc, by omega, by omega, by go_num, by rw [← HS.out]; exact HR.out, (own_below hown hb1).alloc _, (hbel.trans (hb1.mono hb2)).alloc (by omega) _⟩
        case measure => simp [intOf]; omega
      · have hb : ((s[p].toNat : Int) == 32) = false := beq_eq_false_iff_ne.2 (fun x => hc (UInt8.toNat_inj.1 (by simpa using Int.ofNat_inj.1 x)))
        rw [if_neg hc] at HS
        clear hc
        by_cases h0 : o.size = 0
        · have hz : ((o.size : Int) == 0) = true := by rw [h0]; rfl
          rw [if_pos (.inl h0)] at HS
          clear h0
          go_wp2_with fail
          refine (c1 _).mono ?_
          rintro e w1 ⟨rfl, hb1⟩
          unfold oneV
          clear c1
          go_wp2
          go_ret3
          have hb2 := hbel.size
          have hb3 := hb1.size
          exact ⟨_, [], p, false, by rw [← HS.out]; exact HR.out.symm, rfl, World.ownsRow_nil _ _ _ _, (hbel.trans (hb1.mono hb2)).alloc (by omega) _⟩
        · have hz : ((o.size : Int) == 0) = false := beq_eq_false_iff_ne.2 (by omega)
          by_cases h60 : acc.length = 60
          · have hy : ((acc.length : Int) == 60) = true := by rw [h60]; rfl
            rw [if_pos (.inr h60)] at HS
            clear h60 h0
            go_wp2_with fail
            refine (c1 _).mono ?_
            rintro e w1 ⟨rfl, hb1⟩
            unfold oneV
            clear c1
            go_wp2
            go_ret3
            have hb2 := hbel.size
            have hb3 := hb1.size
            exact ⟨_, [], p, false, by rw [← HS.out]; exact HR.out.symm, rfl, World.ownsRow_nil _ _ _ _, (hbel.trans (hb1.mono hb2)).alloc (by omega) _⟩
          · have hy : ((acc.length : Int) == 60) = false := beq_eq_false_iff_ne.2 (by omega)
            rw [if_neg (by omega)] at HS
            clear h60
            obtain ⟨i0, hi, hz0, hz1, hz2⟩ := info_parts Tryz.info120
            have hpos : 0 < o.size := by omega
            have hle : p + o.size ≤ s.size := by omega
            clear hsz h0
            go_wp2_with fail
            refine (c1 _).mono ?_
            rintro e w1 ⟨rfl, hb1⟩
            unfold oneV
            clear c1
            have hb2 := hbel.size
            have hb3 := hb1.size
            have hown1 := own_below hown hb1
            go_wp2_with (at_builtin; refine wpList_append_own _ rfl _ _ 87 rfl w.heap.size 120 i0 _ 4 40 Tryz.underlying87 hi hz0 hz1 hz2 rfl (by decide) _ _ _ rfl ((hown1.alloc _).alloc _) ⟨w1.heap.size + 1, 0, none⟩ 1 1 [.int .i64 o.kind, .string ⟨o.text.toArray⟩, .int .i64 o.num, .int .i64 p] rfl rfl ?c1 ?c2 ?c3 ?c4 ?c5 ?_)
            case c1 =>
              intro j u hj
              match j, hj with
              | 0, hj => simp at hj; subst hj; simp [Addr.add]
              | 1, hj => simp at hj; subst hj; simp [Addr.add]
              | 2, hj => simp at hj; subst hj; simp [Addr.add]
              | 3, hj => simp at hj; subst hj; simp [Addr.add]
            case c2 => intro u hu; simp at hu; rcases hu with rfl | rfl | rfl | rfl <;> rfl
            case c3 => unfold maxLen; omega
            case c4 => omega
            case c5 => simp; omega
            intro v' w2 hown' hgrow _
            have R : w2.ownsRow w.heap.size 120 4 v' (acc ++ [(⟨o.kind, o.text, o.num, p⟩ : Wd.Word)]).length (cellsOf (acc ++ [(⟨o.kind, o.text, o.num, p⟩ : Wd.Word)])) ∧ Below w.heap.size w w2 :=
              ⟨by rw [cellsOf_append, cellsOf_one, List.length_append]; exact hown', (((hbel.trans (hb1.mono hb2)).alloc (by omega) _).alloc (by simp; omega) _).grown hgrow (by simp; omega) (fun k hk => (hown1.lt k hk).1)⟩
            clear hown' hgrow hown1 hown hb1 hbel hi hz0 hz1 hz2
            go_wp2
            go_roundw
            case rel => exact ⟨p + o.size, _, hle, by simp; omega, by go_num, by rw [← HS.out]; exact HR.out, R.1, R.2⟩
            case measure => simp [intOf]; omega
    · go_wp2
      go_ret3
      exact ⟨_, acc, 0, true, by rw [← HR.out]; exact Wd.rest_end _ _ _ (by simp; omega), rfl, hown, hbel⟩

/-- word.All tells what Wd.all tells, its words in memory of its own; nothing that was there has turned. -/
theorem all_any (s : ByteArray) (w : World) (hs : s.size ≤ maxLen) :
    Calls Tryz.prog 50 #[.string s] w fun e w' => ∃ v, e = .returned (.tuple #[v, .int .i64 (Wd.all s.data.toList).2.1, .bool (Wd.all s.data.toList).2.2]) ∧ w'.ownsRow w.heap.size 120 4 v (Wd.all s.data.toList).1.length (cellsOf (Wd.all s.data.toList).1) ∧ Below w.heap.size w w' := by
  by_cases h : 80 < s.size
  · have e : Wd.all s.data.toList = ([], 0, false) := by unfold Wd.all; rw [if_pos (by simpa using h)]
    rw [e]
    refine (all_great s w h hs).mono ?_
    rintro e w' ⟨rfl, rfl⟩
    exact ⟨_, rfl, World.ownsRow_nil _ _ _ _, Below.refl _ _⟩
  · rw [Wd.all_small _ (by simpa using h)]
    refine (all_small s w (by omega)).mono ?_
    rintro e w' ⟨v, ws, n, ok, hr, rfl, hown, hbel⟩
    rw [hr]
    exact ⟨v, rfl, hown, hbel⟩

end Go.Proofs.YtdeojcodbojmoaaGreatDoor
