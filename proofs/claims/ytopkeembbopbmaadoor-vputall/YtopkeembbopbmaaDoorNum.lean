/- Bits of numbers as natural numbers; rows of bytes as cells and as texts. -/
import Derived.Test.YtopkeembbopbmaaDoorProg
import Derived.Test.YtopkeembbopbmaaDoorPlain
import Derived.Laws.BitsAllLaws
import Derived.Laws.BytesArg
import Derived.Lib.AppendStr
import Derived.Below
import Derived.WalkKit
import Derived.ProofKit
import Derived.OpenShut
import Derived.Handy
namespace Go.Proofs.YtopkeembbopbmaaDoor
open Go.ChangeShapes Go.WideShapes Go.ChangeAt Go.RowKit
set_option maxRecDepth 100000
set_option linter.unusedVariables false

theorem wrap8 (m : Nat) : IntKind.u8.wrap (m : Int) = ((m % 256 : Nat) : Int) := by rw [IntKind.wrap_u8']; omega

theorem or_128 (a : Nat) (h : a < 256) : a ||| 128 = a % 128 + 128 := by
  have key : ∀ x : Fin 256, x.val ||| 128 = x.val % 128 + 128 := by decide +kernel
  exact key ⟨a, h⟩

/-- 'byte(left) | 128'. -/
theorem or128 (m : Nat) : bits .or .u8 (IntKind.u8.wrap (m : Int)) 128 = ((m % 128 + 128 : Nat) : Int) := by
  rw [wrap8]
  have e : (128 : Int) = ((128 : Nat) : Int) := rfl
  rw [e, u8_or_nat _ _ (by omega) (by decide), or_128 _ (by omega)]
  congr 2
  omega

theorem or_i64 (a b : Nat) (ha : a < 4611686018427387904) (hb : b < 4611686018427387904) : bits .or .i64 (a : Int) (b : Int) = ((a ||| b : Nat) : Int) := by
  have hx : a ||| b < 2 ^ 62 := Nat.or_lt_two_pow (by omega) (by omega)
  show IntKind.i64.wrap ((BitVec.ofInt 64 (a : Int) ||| BitVec.ofInt 64 (b : Int)).toNat : Int) = _
  rw [BitVec.toNat_or, ofInt_u64 a (by omega), ofInt_u64 b (by omega), IntKind.wrap_i64]
  omega

theorem pow_128 (k : Nat) : 128 ^ k = 2 ^ (7 * k) := by
  have e : (128 : Nat) = 2 ^ 7 := rfl
  rw [e, ← Nat.pow_mul]

theorem pow_le5 (k : Nat) (hk : k ≤ 5) : 128 ^ k ≤ 34359738368 := by
  have h5 : (128 : Nat) ^ 5 = 34359738368 := rfl
  rw [← h5]
  exact Nat.pow_le_pow_right (by decide) hk

/-- 'v |= d << (7 * k)', v below 128 ^ k. -/
theorem or_more (acc d k : Nat) (hk : k < 5) (ha : acc < 128 ^ k) (hd : d < 128) : bits .or .i64 (acc : Int) ((128 ^ k * d : Nat) : Int) = ((acc + 128 ^ k * d : Nat) : Int) := by
  have h1 := pow_le5 k (by omega)
  have h2 : 128 ^ k * d ≤ 34359738368 * 127 := Nat.mul_le_mul h1 (by omega)
  rw [or_i64 _ _ (by omega) (by omega)]
  congr 1
  rw [pow_128] at ha ⊢
  have e : 2 ^ (7 * k) * d = d <<< (7 * k) := by rw [Nat.shiftLeft_eq, Nat.mul_comm]
  rw [e, Nat.or_comm, ← Nat.shiftLeft_add_eq_or_of_lt ha, Nat.add_comm]

/-- 'd << (7 * k)'. -/
theorem shl_more (d k : Nat) (hk : k < 5) (hd : d < 128) : IntKind.i64.wrap ((d : Int) * 2 ^ (7 * k)) = ((128 ^ k * d : Nat) : Int) := by
  have h1 := pow_le5 k (by omega)
  have h2 : 128 ^ k * d ≤ 34359738368 * 127 := Nat.mul_le_mul h1 (by omega)
  have e : (d : Int) * 2 ^ (7 * k) = ((128 ^ k * d : Nat) : Int) := by
    rw [pow_128]; push_cast; exact Int.mul_comm _ _
  rw [e, IntKind.wrap_i64]
  omega

/-- A row of bytes as cells. -/
def cells (l : List Nat) : List Value := l.map fun (n : Nat) => Value.int .u8 (n : Int)
/-- A row of bytes as a text. -/
def strs (l : List Nat) : ByteArray := ⟨(l.map fun n => UInt8.ofNat n).toArray⟩
/-- A text's bytes. -/
def bl (s : ByteArray) : List Nat := s.data.toList.map fun b => b.toNat

theorem cells_len (l : List Nat) : (cells l).length = l.length := by simp [cells]
theorem cells_append (l m : List Nat) : cells (l ++ m) = cells l ++ cells m := by simp [cells]
theorem cells_one (l : List Nat) : ∀ u ∈ cells l, u.oneCell' = true := by
  intro u hu
  obtain ⟨_, _, rfl⟩ := List.mem_map.1 hu
  rfl
theorem cells_get (l : List Nat) (j : Nat) (h : j < l.length) : (cells l)[j]? = some (.int .u8 ((l.getD j 0 : Nat) : Int)) := by
  simp [cells, List.getD, h]
theorem strCells_bl (s : ByteArray) : Lib.strCells s = cells (bl s) := by simp [Lib.strCells, cells, bl]
theorem bl_len (s : ByteArray) : (bl s).length = s.size := by simp [bl]
theorem bl_lt (s : ByteArray) : ∀ x ∈ bl s, x < 256 := by
  intro x hx
  obtain ⟨b, _, rfl⟩ := List.mem_map.1 hx
  exact b.toNat_lt
theorem strs_size (l : List Nat) : (strs l).size = l.length := by simp [strs, ByteArray.size]
theorem strs_bl (s : ByteArray) : strs (bl s) = s := by
  apply ByteArray.ext; apply Array.ext'
  have e : ((fun n => UInt8.ofNat n) ∘ fun b : UInt8 => b.toNat) = id := by funext b; simp
  simp only [strs, bl, List.map_map, e, List.map_id]
theorem bl_strs (l : List Nat) (h : ∀ x ∈ l, x < 256) : bl (strs l) = l := by
  simp only [bl, strs, List.map_map]
  induction l with
  | nil => rfl
  | cons x r ih =>
    have hx : (UInt8.ofNat x).toNat = x := by rw [UInt8.toNat_ofNat']; exact Nat.mod_eq_of_lt (h x (by simp))
    have := ih (fun y hy => h y (by simp [hy]))
    simp only [List.map_cons, Function.comp, hx] at this ⊢
    rw [this]
theorem strs_inj (l m : List Nat) (hl : ∀ x ∈ l, x < 256) (hm : ∀ x ∈ m, x < 256) (h : strs l = strs m) : l = m := by rw [← bl_strs l hl, h, bl_strs m hm]
theorem strOf_strs (l : List Nat) : strOfNums (l.map fun (n : Nat) => (n : Int)) = strs l := by simp [strOfNums, strs, Function.comp_def]

/-- A slice reads as these bytes. -/
structure Rb (w : World) (ao : Option Addr) (n cap : Nat) (l : List Nat) : Prop where
  lt : ∀ x ∈ l, x < 256
  len : l.length = n
  le : n ≤ cap
  max : cap ≤ maxLen
  nil : ao = none → cap = 0
  at_ : 0 < n → ∃ b off, ao = some ⟨b, off, none⟩ ∧ ∀ j, j < n → w.cell? ⟨b, off + j, none⟩ = some (.int .u8 ((l.getD j 0 : Nat) : Int))

theorem Rb.below {w w' : World} {ao : Option Addr} {n cap : Nat} {l : List Nat} (h : Rb w ao n cap l) {B : Nat} (hb : Below B w w') (hB : ∀ b off, ao = some ⟨b, off, none⟩ → b < B) : Rb w' ao n cap l := by
  refine ⟨h.lt, h.len, h.le, h.max, h.nil, fun h0 => ?_⟩
  obtain ⟨b, off, e, hc⟩ := h.at_ h0
  exact ⟨b, off, e, fun j hj => (hb.cell (p := ⟨b, off + j, none⟩) (hB b off e)).trans (hc j hj)⟩

theorem Rb.kept {w w' : World} {ao : Option Addr} {n cap : Nat} {l : List Nat} (h : Rb w ao n cap l) (hb : Below w.heap.size w w') : Rb w' ao n cap l := by
  refine ⟨h.lt, h.len, h.le, h.max, h.nil, fun h0 => ?_⟩
  obtain ⟨b, off, e, hc⟩ := h.at_ h0
  refine ⟨b, off, e, fun j hj => ?_⟩
  exact (hb.cell (p := ⟨b, off + j, none⟩) (World.block_lt_of_cell? w ⟨b, off + j, none⟩ (hc j hj))).trans (hc j hj)

theorem Rb.none (w : World) : Rb w none 0 0 [] := ⟨by simp, rfl, Nat.le_refl _, Nat.zero_le _, fun _ => rfl, fun h => by omega⟩

theorem Rb.of_own {w : World} {base : Nat} {ao : Option Addr} {n cap : Nat} {l : List Nat} (h : w.ownsRow base 5 1 (.slice ao n cap) n (cells l)) (hl : ∀ x ∈ l, x < 256) : Rb w ao n cap l := by
  obtain ⟨h0, h⟩ := h
  have hn : l.length = n := by simpa [cells] using h0
  rcases h with ⟨e1, rfl⟩ | ⟨g, c, cur, e1, hg, hh, h1, h2, h3, h4⟩
  · cases e1
    exact ⟨hl, hn, Nat.le_refl _, Nat.zero_le _, fun _ => rfl, fun h => by omega⟩
  · cases e1
    refine ⟨hl, hn, h1, h2, (fun h => by cases h), fun h0 => ⟨g, 0, rfl, fun j hj => ?_⟩⟩
    rw [Nat.zero_add]
    have hu := cells_get l j (by omega)
    have e2 : w.cell? ⟨g, j, Option.none⟩ = cur[j]? := by simp [World.cell?, hh]
    rw [e2, ← Array.getElem?_toList]
    rw [← h4, List.getElem?_take, if_pos (by omega)] at hu
    exact hu

/-- A slice of integers that came in. -/
def IsRow (k : IntKind) (w : World) (a : Option Addr) (len cap : Nat) (zs : List Int) : Prop :=
  (a = none ∧ len = 0 ∧ cap = 0 ∧ zs = []) ∨
  ∃ x, a = some x ∧ len ≤ cap ∧ cap ≤ maxLen ∧ zs.length = cap ∧ (∀ i, i < zs.length → w.cell? (x.add i) = some (.int k (zs.getD i 0))) ∧ ∀ n ∈ zs, (Lit.int k n).wf = true

/-- What came in. -/
theorem Rb.of_row {w : World} {a : Option Addr} {len cap : Nat} {zs : List Int} (h : IsRow .u8 w a len cap zs) : ∃ l, Rb w a len cap l := by
  rcases h with ⟨rfl, rfl, rfl, rfl⟩ | ⟨x, rfl, h1, h2, h3, h4, h5⟩
  · exact ⟨[], Rb.none w⟩
  · have hb : ∀ n ∈ zs, 0 ≤ n ∧ n ≤ 255 := fun n hn => bounds_u8 (h5 n hn)
    refine ⟨(zs.take len).map Int.toNat, ?_, by simp; omega, h1, h2, (fun h => by cases h), fun h0 => ?_⟩
    · intro y hy
      obtain ⟨z, hz, rfl⟩ := List.mem_map.1 hy
      have := hb z (List.mem_of_mem_take hz)
      omega
    · obtain ⟨b, off, rfl, hc⟩ := ints_at h4 (by omega)
      refine ⟨b, off, rfl, fun j hj => ?_⟩
      rw [hc j (by omega)]
      congr 2
      have hz : j < zs.length := by omega
      have := hb _ (List.getElem_mem hz)
      simp [List.getD, hj, hz]
      omega

/-- 'string(b)'. -/
theorem conv_rb {w : World} {ao : Option Addr} {n cap : Nat} {l : List Nat} (h : Rb w ao n cap l) : (convert 27 9 (.slice ao n cap)).run Tryd.prog w = .ok (.string (strs l)) w := by
  rcases Nat.eq_zero_or_pos n with h0 | h0
  · subst h0
    obtain rfl : l = [] := List.eq_nil_of_length_eq_zero h.len
    cases ao with
    | none =>
      rw [run_convert_bytes_nil w 27 5 Tryd.underlying27 Tryd.underlying5 0 cap 9 Tryd.underlying9]
      rfl
    | some a =>
      rw [run_convert_bytes_string w 27 9 5 (some a) 0 cap Tryd.underlying27 Tryd.underlying5 Tryd.underlying9, run_bytesToString w a 0 cap [] (by simp [loadCells, loadCellsFrom])]
      rfl
  · obtain ⟨b, off, rfl, hc⟩ := h.at_ h0
    rw [run_convert_bytes_arg w 27 5 Tryd.underlying27 Tryd.underlying5 b off n cap (l.map fun (n : Nat) => (n : Int)) (by simpa using h.len) (fun i hi => ?_) 9 Tryd.underlying9, strOf_strs]
    rw [hc i hi]
    have : i < l.length := by rw [h.len]; exact hi
    simp [List.getD, this]

end Go.Proofs.YtopkeembbopbmaaDoor
