/- WordAll: which words a text has, or where it has none. -/
import Derived.Test.YtakfoljpehlmgaaSame
import Derived.Test.YtakfoljpehlmgaaWords
namespace Go.Proofs.Ytakfoljpehlmgaa
open Go.RowKit

theorem scan_len (l : List UInt8) (f : Nat) : ∀ (p : Nat) (acc : List Wd.Word), acc.length ≤ 60 → (Wd.scan l f p acc).1.length ≤ 60 := by
  induction f with
  | zero => intro p acc h; exact h
  | succ f ih =>
    intro p acc h
    unfold Wd.scan
    split
    · exact h
    · rename_i c r _
      split
      · exact ih _ _ h
      · split
        · simp
        · have h' : ¬ ((Wd.first (c :: r)).size = 0 ∨ acc.length = 60) := by assumption
          exact ih _ _ (by simp; omega)

theorem all_len (l : List UInt8) : (Wd.all l).1.length ≤ 60 := by
  unfold Wd.all
  split
  · simp
  · exact scan_len l _ _ _ (by simp)

/-- The pieces that WordAll lays. -/
def pieces : List ByteArray := [⟨#[97]⟩, ⟨#[97, 98, 99]⟩, ⟨#[32]⟩, ⟨#[55]⟩, ⟨#[49, 50]⟩, ⟨#[49, 50, 51]⟩, ⟨#[97, 98, 99, 100, 101, 102, 103]⟩, ⟨#[40]⟩, ⟨#[41]⟩, ⟨#[33]⟩, ⟨#[38]⟩, ⟨#[124]⟩, ⟨#[42]⟩, ⟨#[61]⟩, ⟨#[58]⟩, ⟨#[45]⟩, ⟨#[64]⟩, ⟨#[94]⟩, ⟨#[65]⟩, ⟨#[63]⟩, ⟨#[10]⟩]
def pieceAt (k : Nat) : ByteArray := pieces.getD k ByteArray.empty

theorem pieceAt_size (k : Nat) : (pieceAt k).size ≤ 7 := by
  by_cases h : k < 21
  · have : ∀ k : Fin 21, (pieceAt k).size ≤ 7 := by decide
    exact this ⟨k, h⟩
  · unfold pieceAt
    rw [List.getD_eq_getElem?_getD, List.getElem?_eq_none (by simp [pieces]; omega)]
    decide

/-- The row of pieces. -/
def laidPieces (w : World) : World := w.alloc (.cells #[.string ⟨#[97]⟩, .string ⟨#[97, 98, 99]⟩, .string ⟨#[32]⟩, .string ⟨#[55]⟩, .string ⟨#[49, 50]⟩, .string ⟨#[49, 50, 51]⟩, .string ⟨#[97, 98, 99, 100, 101, 102, 103]⟩, .string ⟨#[40]⟩, .string ⟨#[41]⟩, .string ⟨#[33]⟩, .string ⟨#[38]⟩, .string ⟨#[124]⟩, .string ⟨#[42]⟩, .string ⟨#[61]⟩, .string ⟨#[58]⟩, .string ⟨#[45]⟩, .string ⟨#[64]⟩, .string ⟨#[94]⟩, .string ⟨#[65]⟩, .string ⟨#[63]⟩, .string ⟨#[10]⟩] 9)

theorem laidPieces_cell (w : World) (k : Nat) (h : k < 21) : (laidPieces w).cell? ⟨w.heap.size, k, none⟩ = some (.string (pieceAt k)) := by
  have hk : k < pieces.length := by simpa [pieces] using h
  unfold laidPieces
  rw [World.cell?_alloc_at _ _ _ _ rfl]
  show ((pieces.map Value.string).toArray)[k]? = _
  rw [List.getElem?_toArray, List.getElem?_map, List.getElem?_eq_getElem hk]
  unfold pieceAt
  rw [List.getD_eq_getElem?_getD, List.getElem?_eq_getElem hk]
  rfl

theorem laidPieces_size (w : World) : (laidPieces w).heap.size = w.heap.size + 1 := by simp [laidPieces]
theorem laidPieces_below (w : World) : Below w.heap.size w (laidPieces w) := (Below.refl _ w).alloc (Nat.le_refl _) _

/-- The row of the two texts. -/
def laidTwo (w : World) (s t : ByteArray) : World := w.alloc (.cells #[.string s, .string t] 9)
def twoAt (s t : ByteArray) (k : Nat) : ByteArray := if k = 0 then s else t
theorem laidTwo_cell (w : World) (s t : ByteArray) (k : Nat) (h : k < 2) : (laidTwo w s t).cell? ⟨w.heap.size, k, none⟩ = some (.string (twoAt s t k)) := by
  match k, h with
  | 0, _ => simp [laidTwo, twoAt]
  | 1, _ => simp [laidTwo, twoAt]
theorem laidTwo_size (w : World) (s t : ByteArray) : (laidTwo w s t).heap.size = w.heap.size + 1 := by simp [laidTwo]
theorem laidTwo_below (w : World) (s t : ByteArray) : Below w.heap.size w (laidTwo w s t) := (Below.refl _ w).alloc (Nat.le_refl _) _

/-- What the walk is told of a slice of bytes that came in. -/
def IsRow (k : IntKind) (w : World) (a : Option Addr) (len cap : Nat) (zs : List Int) : Prop :=
  (a = none ∧ len = 0 ∧ cap = 0 ∧ zs = []) ∨
  ∃ x, a = some x ∧ len ≤ cap ∧ cap ≤ maxLen ∧ zs.length = cap ∧ (∀ i, i < zs.length → w.cell? (x.add i) = some (.int k (zs.getD i 0))) ∧ ∀ n ∈ zs, (Lit.int k n).wf = true

/-- What the first loop asks of it: each element is a byte that is read. -/
def Reads (w : World) (a : Option Addr) (len : Nat) (zs : Nat → Int) : Prop := ∃ b off, (0 < len → a = some ⟨b, off, none⟩ ∧ b < w.heap.size) ∧ ∀ j, j < len → w.cell? ⟨b, off + j, none⟩ = some (.int .u8 (zs j)) ∧ 0 ≤ zs j ∧ zs j ≤ 255

set_option maxHeartbeats 1000000 in
/-- The texts are too long: true at once. -/
theorem agree_long (s : ByteArray) (ao : Option Addr) (len cap : Nat) (w : World) (hs : s.size ≤ maxLen) (hl : len ≤ maxLen) (h : 90 < s.size ∨ 60 < len) :
    Calls Try.prog 3 #[.string s, .slice ao len cap] w fun e w' => e = .returned (.bool true) ∧ Below w.heap.size w w' := by
  unfold maxLen at hs hl
  by_cases h9 : 90 < s.size
  · clear h
    go_enter Try.func3, Try.ntmps3
    go_wp2_with fail
    refine (begun_any _).mono ?_
    rintro e w1 ⟨rfl, hb1⟩
    go_wp2
    go_ret
    exact ⟨rfl, hb1⟩
  · have h6 : 60 < len := by omega
    clear h
    go_enter Try.func3, Try.ntmps3
    go_wp2_with fail
    refine (begun_any _).mono ?_
    rintro e w1 ⟨rfl, hb1⟩
    go_wp2
    go_ret
    exact ⟨rfl, hb1⟩

set_option maxHeartbeats 1000000 in
theorem agree_short (s : ByteArray) (ao : Option Addr) (len cap : Nat) (zs : Nat → Int) (w : World) (hs : s.size ≤ 90) (hl : len ≤ 60) (hr : Reads w ao len zs) :
    Calls Try.prog 3 #[.string s, .slice ao len cap] w fun e w' => e = .returned (.bool true) ∧ Below w.heap.size w w' := by
  obtain ⟨b, off, hao, hcell⟩ := hr
  go_enter Try.func3, Try.ntmps3
  go_wp2_with fail
  refine (begun_any _).mono ?_
  rintro e w1 ⟨rfl, hb1⟩
  go_wp2_with fail
  have hbW : Below w.heap.size w (laidPieces w1) := hb1.trans ((laidPieces_below w1).mono hb1.size)
  have hs1 := hb1.size
  have hcs := laidPieces_cell w1
  have hsz := laidPieces_size w1
  obtain ⟨W, hW⟩ : ∃ W, W = laidPieces w1 := ⟨_, rfl⟩
  rw [← hW] at hbW hcs hsz
  unfold laidPieces at hW
  rw [← hW]
  clear hW hb1
  have hsz' : w1.heap.size + 1 ≤ W.heap.size := by omega
  clear hsz
  go_loop [6, 7] (fun m i => ∃ (k : Nat) (t : ByteArray), k ≤ len ∧ i = .int .i64 k ∧ m = .string t ∧ t.size ≤ 7 * k) (fun _ i => len - (intOf i).toNat)
  case atStart => exact ⟨0, ⟨#[]⟩, by omega, rfl, rfl, by decide⟩
  case round =>
    obtain ⟨k, t, hk, rfl, rfl, hts⟩ := hrel
    by_cases hlt : k < len
    · obtain ⟨rfl, hbs⟩ := hao (by omega)
      have hc1 := hcell k hlt
      obtain ⟨hc1, hz0, hz1⟩ := hc1
      have hc2 : W.cell? ⟨b, off + k, none⟩ = some (.int .u8 (zs k)) := (hbW.cell hbs).trans hc1
      have hpk : W.cell? ⟨w1.heap.size, (zs k % 21).toNat, none⟩ = some (.string (pieceAt (zs k % 21).toNat)) := hcs _ (by omega)
      have hps := pieceAt_size (zs k % 21).toNat
      clear hcs hcell hc1 hbW
      generalize zs k = z at *
      go_wp2
      go_round
      case rel => exact ⟨k + 1, _, by omega, by go_num, rfl, by rw [ByteArray.size_append]; omega⟩
      case measure => simp [intOf]; omega
    · have ht : t.size ≤ 420 := by omega
      clear hcs hcell hao hts
      go_wp2_with fail
      have hbV : Below w.heap.size w (laidTwo W s t) := hbW.trans ((laidTwo_below W s t).mono hbW.size)
      have hct := laidTwo_cell W s t
      have hszV := laidTwo_size W s t
      obtain ⟨V, hV⟩ : ∃ V, V = laidTwo W s t := ⟨_, rfl⟩
      rw [← hV] at hbV hct hszV
      unfold laidTwo at hV
      rw [← hV]
      clear hV hbW
      have hszV' : W.heap.size + 1 ≤ V.heap.size := by omega
      clear hszV
      go_loopw [9] (fun i wr => ∃ k : Nat, k ≤ 2 ∧ i = .int .i64 k ∧ Below V.heap.size V wr) (fun i _ => 2 - (intOf i).toNat)
      case atStart => exact ⟨0, by omega, rfl, Below.refl _ _⟩
      case round =>
        obtain ⟨q, hq, rfl, hbel⟩ := hrel
        by_cases hlq : q < 2
        · have hus : (twoAt s t q).size ≤ maxLen := by unfold twoAt maxLen; split <;> omega
          have q0 : wr.cell? ⟨W.heap.size, q, none⟩ = some (.string (twoAt s t q)) := (hbel.cell (by show W.heap.size < _; omega)).trans (hct q hlq)
          have q1 : ∀ w2, Below wr.heap.size wr w2 → w2.cell? ⟨W.heap.size, q, none⟩ = some (.string (twoAt s t q)) := fun w2 h2 =>
            (h2.cell (by have := hbel.size; show W.heap.size < _; omega)).trans q0
          generalize twoAt s t q = u at *
          have c1 := fun w => all_any u w hus
          have c2 := fun w => words_any u w hus
          have hlen := all_len u.data.toList
          generalize Wd.all u.data.toList = A at *
          obtain ⟨ws, n, ok⟩ := A
          simp only at c1 c2 hlen
          clear hct hus
          go_wp2_with fail
          refine (c1 _).mono ?_
          rintro e w2 ⟨va, rfl, howna, hb2⟩
          have q2 := q1 w2 hb2
          clear c1 q0 q1
          go_wp2_with fail
          refine (c2 _).mono ?_
          rintro e w3 ⟨vb, rfl, hownb, hb3⟩
          have c3 := same_any ws va vb _ _ w3 (own_below howna hb3) hownb (by omega)
          have hb4 := (hbel.trans (hb2.mono hbel.size)).trans (hb3.mono (Nat.le_trans hbel.size hb2.size))
          clear c2 q2 howna hownb
          go_wp2_with fail
          refine c3.mono ?_
          rintro e w4 ⟨rfl, hb5⟩
          clear c3
          go_wp2
          go_roundw
          case rel => exact ⟨q + 1, by omega, by go_num, hb4.trans (hb5.mono hb4.size)⟩
          case measure => simp [intOf]; omega
        · clear hct
          go_wp2
          go_ret
          exact ⟨rfl, hbV.trans (hbel.mono hbV.size)⟩

end Go.Proofs.Ytakfoljpehlmgaa
