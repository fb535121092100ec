/- Numbers from which choices are read; bytes that came in. -/
import Derived.Test.YtopkeembbopbmaaDoorKp
import Derived.Test.YtopkeembbopbmaaDoorNum
import Derived.Deep.RegionHeld3
import Derived.BigQuiet
import Derived.Deep.QuietTactic
import Derived.ProofKit
import Derived.OpenShut
import Derived.Handy
namespace Go.Proofs.YtopkeembbopbmaaDoor
open Go.ChangeShapes Go.WideShapes Go.ChangeAt Go.RowKit
set_option maxRecDepth 100000
set_option linter.unusedVariables false

/-- Block pb holds numbers from which choices are read. -/
def Pick (w : World) (pb : Nat) : Prop :=
  w.frozen? ⟨pb, 1, none⟩ = false ∧ ∃ (ao : Option Addr) (len cap n b off : Nat) (zs : Nat → Nat),
    w.cell? ⟨pb, 0, none⟩ = some (.slice ao len cap) ∧ w.cell? ⟨pb, 1, none⟩ = some (.int .i64 n) ∧ n ≤ len ∧ len ≤ 1000 ∧
    (0 < len → ao = some ⟨b, off, none⟩ ∧ b < pb) ∧ ∀ j, j < len → w.cell? ⟨b, off + j, none⟩ = some (.int .u8 (zs j)) ∧ zs j ≤ 255

set_option maxHeartbeats 1000000 in
theorem num_over (pb : Nat) (m : Int) (w : World) (h1 : 1 ≤ m) (h2 : m ≤ 1000) (ao : Option Addr) (len cap n : Nat) (q0 : w.cell? ⟨pb, 0, none⟩ = some (.slice ao len cap)) (q1 : w.cell? ⟨pb, 1, none⟩ = some (.int .i64 n)) (hn : len ≤ n) (hn' : n ≤ 1000) (hl : len ≤ 1000) :
    Calls Tryd.prog 16 #[.pointer (some ⟨pb, 0, none⟩), .int .i64 m] w fun e w' => e = .returned (.int .i64 0) ∧ ∃ q, w' = w.drewN q := by
  have hg : decide ((len : Int) ≤ (n : Int)) = true := decide_eq_true (by omega)
  go_enter Tryd.func16, Tryd.ntmps16
  go_wp2_with fail
  go_quiet (fail)
  go_wp2
  go_ret
  exact ⟨rfl, _, rfl⟩

set_option maxHeartbeats 1000000 in
theorem num_more (pb : Nat) (m : Int) (w : World) (h1 : 1 ≤ m) (h2 : m ≤ 1000) (ao : Option Addr) (len cap n b off : Nat) (z : Nat) (hz : z ≤ 255) (hne : b ≠ pb) (q0 : w.cell? ⟨pb, 0, none⟩ = some (.slice (some ⟨b, off, none⟩) len cap)) (q1 : w.cell? ⟨pb, 1, none⟩ = some (.int .i64 n)) (hf : w.frozen? ⟨pb, 1, none⟩ = false) (hn : n < len) (hl : len ≤ 1000)
    (hc : w.cell? ⟨b, off + n, none⟩ = some (.int .u8 z)) :
    Calls Tryd.prog 16 #[.pointer (some ⟨pb, 0, none⟩), .int .i64 m] w fun e w' => e = .returned (.int .i64 ((z : Int) % m)) ∧ ∃ q q', w' = ((w.drewN q).setCell ⟨pb, 1, none⟩ (.int .i64 (n + 1))).drewN q' := by
  have hg : decide ((len : Int) ≤ (n : Int)) = false := decide_eq_false (by omega)
  have hg2 : decide (m < 1) = false := decide_eq_false (by omega)
  go_enter Tryd.func16, Tryd.ntmps16
  go_wp2_with fail
  go_quiet (fail)
  go_wp2_with fail
  obtain ⟨V, hV⟩ : ∃ V, V = ((w.drewN nq).setCell ⟨pb, 1, none⟩ (.int .i64 ((n : Int) + 1))) := ⟨_, rfl⟩
  rw [← hV]
  have r0 : V.cell? ⟨pb, 0, none⟩ = some (.slice (some ⟨b, off, none⟩) len cap) := by rw [hV, World.cell?_setCell_other _ _ _ _ (by simp)]; exact q0
  have r1 : V.cell? ⟨pb, 1, none⟩ = some (.int .i64 ((n : Int) + 1)) := by rw [hV]; exact World.cell?_setCell_same _ _ _ (u := .int .i64 n) q1
  have r2 : V.cell? ⟨b, off + n, none⟩ = some (.int .u8 z) := by rw [hV, World.cell?_setCell_other _ _ _ _ (fun e => hne (congrArg Addr.block e).symm)]; exact hc
  have HV : Hid (V = ((w.drewN nq).setCell ⟨pb, 1, none⟩ (.int .i64 ((n : Int) + 1)))) := hV
  clear hV q0 q1 hc hf
  have hwr : IntKind.i64.wrap ((n : Int) + 1 - 1) = (n : Int) := by simp only [IntKind.wrap, IntKind.signed, IntKind.bits]; simp; omega
  have htm : (z : Int).tmod m = (z : Int) % m := Int.tmod_eq_emod_of_nonneg (by omega)
  have hm0 : (m == 0) = false := beq_eq_false_iff_ne.2 (by omega)
  have hn0 : (0 : Int) ≤ (n : Int) := by omega
  have hn1 : (n : Int) < (len : Int) := by omega
  go_quiet (fail)
  go_wp2
  go_ret
  exact ⟨rfl, _, _, by rw [HV.out]⟩

theorem Pick.lt {w : World} {pb : Nat} (h : Pick w pb) : pb < w.heap.size := by
  obtain ⟨_, ao, len, cap, n, b, off, zs, q0, _⟩ := h
  exact World.block_lt_of_cell? w ⟨pb, 0, none⟩ q0

/-- What is changed lies behind. -/
theorem Pick.below {w w' : World} {pb : Nat} (h : Pick w pb) (hb : Below (pb + 1) w w') : Pick w' pb := by
  obtain ⟨hf, ao, len, cap, n, b, off, zs, q0, q1, h1, h2, h3, h4⟩ := h
  refine ⟨(hb.frozen (by simp)).trans hf, ao, len, cap, n, b, off, zs, (hb.cell (by simp)).trans q0, (hb.cell (by simp)).trans q1, h1, h2, h3, fun j hj => ⟨?_, (h4 j hj).2⟩⟩
  obtain ⟨_, hlt⟩ := h3 (by omega)
  exact (hb.cell (by show b < pb + 1; omega)).trans (h4 j hj).1

/-- A choice below m. -/
theorem pnum16 (pb : Nat) (m : Int) (w : World) (h1 : 1 ≤ m) (h2 : m ≤ 1000) (hp : Pick w pb) :
    Calls Tryd.prog 16 #[.pointer (some ⟨pb, 0, none⟩), .int .i64 m] w fun e w' => ∃ k : Nat, (k : Int) < m ∧ e = .returned (.int .i64 k) ∧ Pick w' pb ∧ Kept (But pb) w w' := by
  have hlt := hp.lt
  have hp' := hp
  obtain ⟨hf, ao, len, cap, n, b, off, zs, q0, q1, l1, l2, l3, l4⟩ := hp
  by_cases h : n < len
  · obtain ⟨rfl, hb⟩ := l3 (by omega)
    refine (num_more pb m w h1 h2 none len cap n b off (zs n) (l4 n h).2 (by omega) q0 q1 hf h l2 (l4 n h).1).mono ?_
    rintro e w' ⟨rfl, q, q', rfl⟩
    have e1 := Int.emod_nonneg (zs n : Int) (b := m) (by omega)
    have e2 := Int.emod_lt_of_pos (zs n : Int) (b := m) (by omega)
    refine ⟨((zs n : Int) % m).toNat, by omega, by rw [Int.toNat_of_nonneg e1], ?_, ?_⟩
    · refine ⟨?_, some ⟨b, off, none⟩, len, cap, n + 1, b, off, zs, ?_, ?_, by omega, l2, l3, fun j hj => ⟨?_, (l4 j hj).2⟩⟩
      · simpa using hf
      · simpa [World.cell?_setCell_other] using q0
      · show ((w.drewN q).setCell ⟨pb, 1, none⟩ (.int .i64 ((n : Int) + 1))).cell? ⟨pb, 1, none⟩ = _
        exact (World.cell?_setCell_same (w.drewN q) ⟨pb, 1, none⟩ _ (u := .int .i64 n) q1).trans rfl
      · show ((w.drewN q).setCell ⟨pb, 1, none⟩ (.int .i64 ((n : Int) + 1))).cell? ⟨b, off + j, none⟩ = _
        rw [World.cell?_setCell_other _ _ _ _ (fun e => by have := congrArg Addr.block e; simp at this; omega)]
        exact (l4 j hj).1
    · exact (((Kept.refl (But pb) w).drewN q).setCell (p := ⟨pb, 1, none⟩) (fun k _ hk => hk) _).drewN q'
  · refine (num_over pb m w h1 h2 ao len cap n q0 q1 (by omega) (by omega) l2).mono ?_
    rintro e w' ⟨rfl, q, rfl⟩
    exact ⟨0, by omega, rfl, hp'.below ⟨rfl, rfl, rfl, Nat.le_refl _, fun _ _ => rfl⟩, (Kept.refl _ w).drewN q⟩

/-- Each element is a byte that is read. -/
def Reads8 (w : World) (a : Option Addr) (len : Nat) : Prop :=
  len ≤ maxLen ∧ ∃ (b off : Nat) (zs : Nat → Int), (0 < len → a = some ⟨b, off, none⟩ ∧ b < w.heap.size) ∧ ∀ j, j < len → w.cell? ⟨b, off + j, none⟩ = some (.int .u8 (zs j)) ∧ 0 ≤ zs j ∧ zs j ≤ 255

theorem reads_of {w : World} {a : Option Addr} {len cap : Nat} {zs : List Int} (h : IsRow .u8 w a len cap zs) : Reads8 w a len := by
  rcases h with ⟨_, rfl, _, _⟩ | ⟨x, rfl, h1, h2, h3, h4, h5⟩
  · exact ⟨Nat.zero_le _, 0, 0, fun _ => 0, fun h => by omega, fun j hj => by omega⟩
  · refine ⟨Nat.le_trans h1 h2, ?_⟩
    by_cases h0 : 0 < len
    · obtain ⟨b, off, rfl, hc⟩ := ints_at h4 (by omega)
      refine ⟨b, off, fun j => zs.getD j 0, fun _ => ⟨rfl, ?_⟩, fun j hj => ⟨hc j (by omega), ?_⟩⟩
      · have := World.block_lt_of_cell? w ⟨b, off + 0, none⟩ (hc 0 (by omega)); exact this
      · have hj' : j < zs.length := by omega
        have e : zs.getD j 0 = zs[j] := by rw [List.getD_eq_getElem?_getD, List.getElem?_eq_getElem hj']; rfl
        show 0 ≤ zs.getD j 0 ∧ zs.getD j 0 ≤ 255
        rw [e]
        exact bounds_u8 (h5 _ (List.getElem_mem hj'))
    · exact ⟨0, 0, fun _ => 0, fun h => by omega, fun j hj => by omega⟩

/-- What a choice leaves behind. -/
def Went (pb : Nat) (w w' : World) : Prop := Pick w' pb ∧ Kept (But pb) w w'

theorem Went.trans {pb : Nat} {a b c : World} (h : Went pb a b) (k : Went pb b c) : Went pb a c := ⟨k.1, h.2.trans k.2⟩

theorem Went.alloc {pb : Nat} {a w : World} (h : Went pb a w) (o : Obj) : Went pb a (w.alloc o) :=
  ⟨h.1.below ((Below.refl _ w).alloc (by have := h.1.lt; omega) _), h.2.alloc o⟩

theorem Went.drew {pb : Nat} {a w : World} (h : Went pb a w) : Went pb a w.drew := ⟨h.1.below (Below.refl _ w).drew, h.2.drew⟩

theorem Went.setCell {pb : Nat} {a w : World} (h : Went pb a w) {p : Addr} (hp : a.heap.size ≤ p.block) (ha : pb < a.heap.size) (u : Value) : Went pb a (w.setCell p u) :=
  ⟨h.1.below ((Below.refl _ w).setCell (by omega) _), h.2.setCell (fun k hk _ => by omega) u⟩

theorem Went.refl {pb : Nat} {w : World} (h : Pick w pb) : Went pb w w := ⟨h, Kept.refl _ w⟩

/-- A cell of a block that is not pb's. -/
theorem Went.cell {pb : Nat} {w w' : World} (h : Went pb w w') {b o : Nat} (hb : b < w.heap.size) (hp : pb < b) : w'.cell? ⟨b, o, none⟩ = w.cell? ⟨b, o, none⟩ := h.2.cell hb (by unfold But; omega)
theorem Went.frozen {pb : Nat} {w w' : World} (h : Went pb w w') {b o : Nat} (hb : b < w.heap.size) (hp : pb < b) : w'.frozen? ⟨b, o, none⟩ = w.frozen? ⟨b, o, none⟩ := h.2.frozen hb (by unfold But; omega)

theorem num_any (pb : Nat) (m : Int) (w : World) (h1 : 1 ≤ m) (h2 : m ≤ 1000) (hp : Pick w pb) :
    Calls Tryd.prog 16 #[.pointer (some ⟨pb, 0, none⟩), .int .i64 m] w fun e w' => ∃ k : Nat, (k : Int) < m ∧ e = .returned (.int .i64 k) ∧ Went pb w w' := pnum16 pb m w h1 h2 hp

set_option maxHeartbeats 400000 in
theorem made10 (ao : Option Addr) (len cap : Nat) (w : World) :
    Calls Tryd.prog 9 #[.slice ao len cap] w fun e w' => e = .returned (.pointer (some ⟨w.heap.size, 0, none⟩)) ∧ w' = w.alloc (.cells #[.slice ao len cap, .int .i64 0] 44) := by
  go_enter Tryd.func9, Tryd.ntmps9
  go_wp2
  go_ret
  exact ⟨rfl, rfl⟩

theorem pick_made {w : World} {ao : Option Addr} {len cap : Nat} (h : Reads8 w ao len) (hl : len ≤ 1000) : Pick (w.alloc (.cells #[.slice ao len cap, .int .i64 0] 44)) w.heap.size := by
  obtain ⟨_, b, off, zs, hao, hc⟩ := h
  refine ⟨by simp, ao, len, cap, 0, b, off, fun j => (zs j).toNat, by simp, by simp, by omega, hl, hao, fun j hj => ?_⟩
  obtain ⟨q, q1, q2⟩ := hc j hj
  obtain ⟨_, hb⟩ := hao (by omega)
  refine ⟨?_, by show (zs j).toNat ≤ 255; omega⟩
  show _ = some (Value.int .u8 ((zs j).toNat : Int))
  rw [World.cell?_alloc_past _ _ _ (hn := hb), q, Int.toNat_of_nonneg q1]

/-- A row of texts that was just laid. -/
theorem table_s (l : List ByteArray) (w : World) (t : TypeId) (k : Nat) (h : k < l.length) : (w.alloc (.cells (l.map Value.string).toArray t)).cell? ⟨w.heap.size, k, none⟩ = some (.string (l.getD k ByteArray.empty)) := by
  rw [World.cell?_alloc_at _ _ _ _ rfl, List.getElem?_toArray, List.getElem?_map, List.getElem?_eq_getElem h, List.getD_eq_getElem?_getD, List.getElem?_eq_getElem h]
  rfl


end Go.Proofs.YtopkeembbopbmaaDoor
