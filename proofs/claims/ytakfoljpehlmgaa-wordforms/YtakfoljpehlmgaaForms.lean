/- WordForms: what is no word, and where. -/
import Derived.Test.YtakfoljpehlmgaaBegun
namespace Go.Proofs.Ytakfoljpehlmgaa
open Go.RowKit

def bads : List ByteArray := [⟨#[63]⟩, ⟨#[97, 32, 63]⟩, ⟨#[49, 50, 51]⟩, ⟨#[64, 32, 49, 61, 49, 48, 48]⟩, ⟨#[97, 98, 99, 100, 101, 102, 103]⟩, ⟨#[32, 32, 65]⟩, ⟨#[97, 95, 98]⟩, ⟨#[49, 46, 53]⟩]
def ats : List Nat := [0, 2, 0, 4, 0, 2, 1, 1]
def bad (k : Nat) : ByteArray := bads.getD k ByteArray.empty
def atOf (k : Nat) : Nat := ats.getD k 0

theorem bad_all (k : Nat) (h : k < 8) : Wd.all (bad k).data.toList = ([], atOf k, false) := by
  match k, h with
  | 0, _ => rfl
  | 1, _ => rfl
  | 2, _ => rfl
  | 3, _ => rfl
  | 4, _ => rfl
  | 5, _ => rfl
  | 6, _ => rfl
  | 7, _ => rfl

theorem bad_size (k : Nat) (h : k < 8) : (bad k).size ≤ 7 := by
  match k, h with
  | 0, _ => decide
  | 1, _ => decide
  | 2, _ => decide
  | 3, _ => decide
  | 4, _ => decide
  | 5, _ => decide
  | 6, _ => decide
  | 7, _ => decide

/-- The two rows that WordForms lays first. -/
def laid (w : World) : World := (w.alloc (.cells #[.string ⟨#[63]⟩, .string ⟨#[97, 32, 63]⟩, .string ⟨#[49, 50, 51]⟩, .string ⟨#[64, 32, 49, 61, 49, 48, 48]⟩, .string ⟨#[97, 98, 99, 100, 101, 102, 103]⟩, .string ⟨#[32, 32, 65]⟩, .string ⟨#[97, 95, 98]⟩, .string ⟨#[49, 46, 53]⟩] 9)).alloc (.cells #[.int .i64 0, .int .i64 2, .int .i64 0, .int .i64 4, .int .i64 0, .int .i64 2, .int .i64 1, .int .i64 1] 3)

theorem laid_size (w : World) : (laid w).heap.size = w.heap.size + 2 := by simp [laid]

theorem laid_bad (w : World) (k : Nat) (h : k < 8) : (laid w).cell? ⟨w.heap.size, k, none⟩ = some (.string (bad k)) := by
  match k, h with
  | 0, _ => simp [laid]; rfl
  | 1, _ => simp [laid]; rfl
  | 2, _ => simp [laid]; rfl
  | 3, _ => simp [laid]; rfl
  | 4, _ => simp [laid]; rfl
  | 5, _ => simp [laid]; rfl
  | 6, _ => simp [laid]; rfl
  | 7, _ => simp [laid]; rfl

theorem laid_at (w : World) (k : Nat) (h : k < 8) : (laid w).cell? ⟨w.heap.size + 1, k, none⟩ = some (.int .i64 (atOf k)) := by
  match k, h with
  | 0, _ => simp [laid]; rfl
  | 1, _ => simp [laid]; rfl
  | 2, _ => simp [laid]; rfl
  | 3, _ => simp [laid]; rfl
  | 4, _ => simp [laid]; rfl
  | 5, _ => simp [laid]; rfl
  | 6, _ => simp [laid]; rfl
  | 7, _ => simp [laid]; rfl

theorem laid_below (w : World) : Below w.heap.size w (laid w) := ((Below.refl _ w).alloc (Nat.le_refl _) _).alloc (by simp) _

/-- So many exclamation marks. -/
def bangs (k : Nat) : ByteArray := ⟨(List.replicate k (33 : UInt8)).toArray⟩

theorem bangs_size (k : Nat) : (bangs k).size = k := by simp [bangs, ByteArray.size]

theorem bangs_succ (k : Nat) : bangs k ++ ⟨#[33]⟩ = bangs (k + 1) := by
  apply ByteArray.ext
  apply Array.ext'
  simp [bangs, List.replicate_succ']

/-- Sixty marks, and so many blanks. -/
def wide (k : Nat) : ByteArray := ⟨(List.replicate 60 (33 : UInt8) ++ List.replicate k (32 : UInt8)).toArray⟩

theorem wide_zero : bangs 60 = wide 0 := rfl
theorem wide_size (k : Nat) : (wide k).size = 60 + k := by
  show (List.replicate 60 (33 : UInt8) ++ List.replicate k (32 : UInt8)).toArray.size = 60 + k
  rw [List.size_toArray, List.length_append, List.length_replicate, List.length_replicate]

/-- A text's length, for a measure. -/
def lenOf : Value → Nat
  | .string s => s.size
  | _ => 0

theorem wide_succ (k : Nat) : wide k ++ ⟨#[32]⟩ = wide (k + 1) := by
  apply ByteArray.ext
  apply Array.ext'
  simp [wide, List.replicate_succ']

theorem all_c1 : (Wd.all (bangs 60).data.toList).1.length = 60 := by decide +kernel
theorem all_c3 : (Wd.all (bangs 60).data.toList).2.2 = true := by decide +kernel
theorem all_d1 : (Wd.all (bangs 60 ++ ⟨#[32, 42]⟩).data.toList).2.1 = 61 := by decide +kernel
theorem all_d2 : (Wd.all (bangs 60 ++ ⟨#[32, 42]⟩).data.toList).2.2 = false := by decide +kernel
theorem all_e1 : (Wd.all (wide 21).data.toList).2.1 = 0 := by decide +kernel
theorem all_e2 : (Wd.all (wide 21).data.toList).2.2 = false := by decide +kernel
theorem all_f : Wd.all [97, 98, 49, 50, 99, 100, 32, 51, 45, 48, 52] = ([⟨1, [97, 98], 0, 0⟩, ⟨2, [], 12, 2⟩, ⟨1, [99, 100], 0, 4⟩, ⟨2, [], 3, 7⟩, ⟨3, [45], 0, 8⟩, ⟨2, [], 4, 9⟩], 0, true) := by rfl

set_option maxHeartbeats 1000000 in
theorem forms_walk (w : World) : Calls Try.prog 4 #[] w fun e w' => e = .returned (.bool true) ∧ Below w.heap.size w w' := by
  go_enter Try.func4, Try.ntmps4
  go_wp2_with fail
  refine (begun_any _).mono ?_
  rintro e w1 ⟨rfl, hb1⟩
  go_wp2_with fail
  have hbW : Below w.heap.size w (laid w1) := hb1.trans ((laid_below w1).mono hb1.size)
  have hs1 := hb1.size
  have hcs := laid_bad w1
  have hat := laid_at w1
  have hsz := laid_size w1
  obtain ⟨W, hW⟩ : ∃ W, W = laid w1 := ⟨_, rfl⟩
  rw [← hW] at hbW hcs hat hsz
  unfold laid at hW
  rw [← hW]
  clear hW hb1
  have hsz' : w1.heap.size + 2 ≤ W.heap.size := by omega
  clear hsz
  go_loopw [3] (fun i wr => ∃ k : Nat, k ≤ 8 ∧ i = .int .i64 k ∧ Below W.heap.size W wr) (fun i _ => 8 - (intOf i).toNat)
  case atStart => exact ⟨0, by omega, rfl, Below.refl _ _⟩
  case round =>
    obtain ⟨k, hk, rfl, hbel⟩ := hrel
    by_cases hlt : k < 8
    · have q0 : wr.cell? ⟨w1.heap.size, k, none⟩ = some (.string (bad k)) := (hbel.cell (by show w1.heap.size < _; omega)).trans (hcs k hlt)
      have q1 : ∀ w2, Below wr.heap.size wr w2 → w2.cell? ⟨w1.heap.size + 1, k, none⟩ = some (.int .i64 (atOf k)) := fun w2 h2 =>
        (h2.cell (by have := hbel.size; show w1.heap.size + 1 < _; omega)).trans ((hbel.cell (by show w1.heap.size + 1 < _; omega)).trans (hat k hlt))
      have c1 := fun w => all_any (bad k) w (by have := bad_size k hlt; unfold maxLen; omega)
      simp only [bad_all k hlt, List.length_nil, cellsOf] at c1
      clear hcs hat
      go_wp2_with fail
      refine (c1 _).mono ?_
      rintro e w2 ⟨v, rfl, hown, hb2⟩
      obtain ⟨ao, cap, rfl⟩ := own_slice hown
      have q2 := q1 w2 hb2
      clear c1 q0 q1 hown
      go_wp2
      go_roundw
      case rel => exact ⟨k + 1, by omega, by go_num, hbel.trans (hb2.mono hbel.size)⟩
      case measure => simp [intOf]; omega
    · have hbw : Below w.heap.size w wr := hbW.trans (hbel.mono hbW.size)
      clear hcs hat hbW hbel
      go_wp2_with fail
      go_loop [7, 8] (fun m i => ∃ k : Nat, k ≤ 60 ∧ i = .int .i64 k ∧ m = .string (bangs k)) (fun _ i => 60 - (intOf i).toNat)
      case atStart => exact ⟨0, by omega, rfl, rfl⟩
      case round =>
        obtain ⟨j, hj, rfl, rfl⟩ := hrel
        have hbs := bangs_size j
        by_cases hlj : j < 60
        · go_wp2
          go_round
          case rel => exact ⟨j + 1, by omega, by go_num, by rw [bangs_succ]⟩
          case measure => simp [intOf]; omega
        · have e : j = 60 := by omega
          subst e
          have c1 := fun w => all_any (bangs 60) w (by rw [bangs_size]; decide)
          have c2 := fun w => all_any (bangs 60 ++ ⟨#[32, 42]⟩) w (by decide)
          have c3 := fun w => all_any (wide 21) w (by rw [wide_size]; decide)
          have c4 := fun w => all_any ⟨#[97, 98, 49, 50, 99, 100, 32, 51, 45, 48, 52]⟩ w (by decide)
          simp only [all_c1, all_c3] at c1
          simp only [all_d1, all_d2] at c2
          simp only [all_e1, all_e2] at c3
          simp only [all_f] at c4
          go_wp2_with fail
          refine (c1 _).mono ?_
          rintro e w2 ⟨v2, rfl, hown2, hb2⟩
          obtain ⟨ao2, cap2, rfl⟩ := own_slice hown2
          clear c1 hown2
          go_wp2_with fail
          refine (c2 _).mono ?_
          rintro e w3 ⟨v3, rfl, hown3, hb3⟩
          clear c2 hown3
          go_wp2_with fail
          have hbw3 : Below w.heap.size w w3 := (hbw.trans (hb2.mono hbw.size)).trans (hb3.mono (Nat.le_trans hbw.size hb2.size))
          clear hb2 hb3 hbw
          go_loop [15] (fun m => ∃ k : Nat, k ≤ 21 ∧ m = .string (wide k)) (fun m => 81 - lenOf m)
          case atStart => exact ⟨0, by omega, rfl⟩
          case round =>
            obtain ⟨q, hq, rfl⟩ := hrel
            have hws := wide_size q
            by_cases hlq : q < 21
            · have hle : (wide q).size ≤ 80 := by omega
              have HW : Hid ((wide q).size = 60 + q) := hws
              clear hws
              go_wp2
              go_round
              case rel => exact ⟨q + 1, by omega, by rw [wide_succ]⟩
              case measure => simp only [lenOf, wide_succ, wide_size]; omega
            · have e : q = 21 := by omega
              subst e
              have hle : 80 < (wide 21).size := by omega
              clear hws
              go_wp2_with fail
              refine (c3 _).mono ?_
              rintro e w4 ⟨v4, rfl, hown4, hb4⟩
              clear c3 hown4
              go_wp2_with fail
              refine (c4 _).mono ?_
              rintro e w5 ⟨v5, rfl, hown5, hb5⟩
              obtain ⟨g, cap5, rfl, hg1, hg2, hcell⟩ := own_cells hown5 (by simp)
              have q6 : w5.cell? ⟨g, 6, none⟩ = some (.int .i64 12) := hcell 6 (by simp)
              have q9 : w5.cell? ⟨g, 9, none⟩ = some (.string ⟨#[99, 100]⟩) := hcell 9 (by simp)
              have q11 : w5.cell? ⟨g, 11, none⟩ = some (.int .i64 4) := hcell 11 (by simp)
              have q22 : w5.cell? ⟨g, 22, none⟩ = some (.int .i64 4) := hcell 22 (by simp)
              have hbw5 : Below w.heap.size w w5 := (hbw3.trans (hb4.mono hbw3.size)).trans (hb5.mono (Nat.le_trans hbw3.size hb4.size))
              clear c4 hown5 hcell hb4 hb5 hbw3
              go_wp2
              go_ret
              exact ⟨rfl, hbw5⟩

end Go.Proofs.Ytakfoljpehlmgaa
