/- slices.Grow of nothing, slices.Concat of two: at texts and at boxes. -/
import Derived.Test.YtflpdekifkcfkabShelf
import Derived.Test.YtflpdekifkcfkabLeaves
import Derived.Laws.AppendOwnNone
namespace Go.Proofs.Ytflpdekifkcfkab
open Go.RowKit
set_option linter.unusedVariables false

theorem Try.info9 : (Try.prog.info? 9).map (fun i => (i.zero, i.size, i.bytes)) = some (some (.string ⟨#[]⟩), 1, 16) := by kernel_rfl
theorem Try.info40 : (Try.prog.info? 40).map (fun i => (i.zero, i.size, i.bytes)) = some (some (.agg #[.int .i64 0, .int .i64 0, .int .i64 0, .int .i64 0, .int .i64 0, .int .i64 0, .int .i64 0, .int .i64 0, .int .i64 0, .int .i64 0, .int .i64 0, .int .i64 0, .string ⟨#[]⟩, .slice none 0 0]), 14, 136) := by kernel_rfl

/-- A slice and the cells that it shows. -/
structure Src (w : World) (S : Nat) (ao : Option Addr) (n c : Nat) (xs : List Value) : Prop where
  len : xs.length = n * S
  nil : ao = none → n = 0 ∧ c = 0
  cell : ∀ ad, ao = some ad → ∀ j u, xs[j]? = some u → w.cell? (ad.add j) = some u
  lt : ∀ ad, ao = some ad → 0 < n → ad.block < w.heap.size
  one : ∀ u ∈ xs, u.oneCell' = true

theorem Src.below {w w' : World} {S : Nat} {ao : Option Addr} {n c : Nat} {xs : List Value} (h : Src w S ao n c xs) (hb : Below w.heap.size w w') : Src w' S ao n c xs := by
  refine ⟨h.len, h.nil, fun ad e j u hj => ?_, fun ad e h0 => Nat.lt_of_lt_of_le (h.lt ad e h0) hb.size, h.one⟩
  have hn : 0 < n := by
    cases n with
    | zero => have := h.len; simp at this; subst this; simp at hj
    | succ n => omega
  exact (hb.cell (p := ad.add j) (by have := h.lt ad e hn; simp only [Addr.add]; split <;> exact this)).trans (h.cell ad e j u hj)

theorem own_sl {w : World} {base size n : Nat} {e : TypeId} {v : Value} {xs : List Value} (h : w.ownsRow base e size v n xs) : ∃ ao cap, v = .slice ao n cap := by
  rcases h.2 with ⟨rfl, rfl⟩ | ⟨g, cap, cur, hv, r⟩
  · exact ⟨none, 0, rfl⟩
  · exact ⟨_, cap, hv⟩

/-- 'append(out, src...)', src nil or not. -/
theorem append_src {P : Program} (w : World) {ops : Array Oper} {rest : List Oper} {o : Oper} {a : Act} {Q : Exit → Act → World → Prop} (hgd : o.guard = none) (s x : Operand) (t : TypeId)
    (ho : o.op = .call { callee := .builtin .append, args := #[s, x], argTypes := #[t, t] })
    (base : Nat) (e : TypeId) (i : TypeInfo) (z : Value) (size bytes : Nat) (ht : P.underlying t = some (.slice e)) (hi : P.info? e = some i) (hz : i.zero = some z)
    (hsize : i.size = size) (hby : i.bytes = bytes) (hzs : z.cells.size = size) (hsz : 0 < size)
    (v : Value) (n : Nat) (xs : List Value) (hs : a.eval s = v) (hown : w.ownsRow base e size v n xs)
    (ao : Option Addr) (m c : Nat) (news : List Value) (hx : a.eval x = .slice ao m c) (src : Src w size ao m c news)
    (h63 : n + m ≤ maxLen) (hbytes : (n + m) * bytes ≤ 140737488355328) (hbase : base ≤ w.heap.size)
    (h : ∀ v' w', w'.ownsRow base e size v' (n + m) (xs ++ news) → w.grownBy w' v.ownBlock → wpList P ops Q rest (a.put o.dst v') w') : wpList P ops Q (o :: rest) a w := by
  cases ao with
  | none =>
    obtain ⟨rfl, rfl⟩ := src.nil rfl
    have hx' : news = [] := List.eq_nil_of_length_eq_zero (by simpa using src.len)
    subst hx'
    exact wpList_append_own_none hgd s x t ho base e i size ht hi v n xs hs hown hx (h v w (by simpa using hown) (World.grownBy.refl _ _))
  | some ad => exact wpList_append_own w hgd s x t ho base e i z size bytes ht hi hz hsize hby hzs hsz v n xs hs hown ad m c news hx src.len (src.cell ad rfl) src.one h63 hbytes hbase (fun v' w' h1 h2 _ => h v' w' h1 h2)

/-- What is shown so far. -/
def part (a b : List Value) : Nat → List Value
  | 0 => []
  | 1 => a
  | _ => a ++ b
def partN (a b : Nat) : Nat → Nat
  | 0 => 0
  | 1 => a
  | _ => a + b

theorem grow66 (n : Nat) (w : World) (hn : n ≤ 100000) :
    Calls Try.prog 78 #[.slice none 0 0, .int .i64 n] w fun e w' => ∃ v, e = .returned v ∧ w'.ownsRow w.heap.size 9 1 v 0 [] ∧ Below w.heap.size w w' := by
  obtain ⟨i0, hi, hz0, hz1, hz2⟩ := info_parts Try.info9
  by_cases h0 : n = 0
  · subst h0
    refine (Any8.slices_Grow_room Try.laysGrowS none 0 0 0 w (by omega) (by omega) (by omega) (by omega)).mono ?_
    rintro e w' ⟨rfl, rfl⟩
    exact ⟨_, rfl, World.ownsRow_nil _ _ _ _, Below.refl _ _⟩
  · refine (Any8.slices_Grow_grow Try.laysGrowS i0 (.string ⟨#[]⟩) hi hz0 (by omega) none 0 0 n [] w (by omega) (by omega) (by rw [hz2]; omega) (by omega) (by simp) (fun _ => rfl) (fun a h => by cases h)).mono ?_
    rintro e w' ⟨rfl, rfl⟩
    refine ⟨_, rfl, ⟨by simp, .inr ⟨w.heap.size, _, _, rfl, Nat.le_refl _, heap_alloc_new _ _, by omega, ?_, ?_, by simp⟩⟩, (Below.refl _ w).drew.alloc (by simp) _⟩
    · exact grownCap_le_maxLen _ _ _ _ (by unfold maxLen; omega)
    · have := grownCap_ge w (0 + n) 0 (Try.laysGrowS_ren.t 25)
      simp only [Array.size_append, size_zeroCells, List.size_toArray, List.length_nil]
      have e : (Value.cells (.string ⟨#[]⟩)).size = 1 := rfl
      rw [e]
      generalize grownCap w (0 + n) 0 (Try.laysGrowS_ren.t 25) = q at *
      omega

set_option maxHeartbeats 4000000 in
/-- slices.Concat of two. -/
theorem concat53 (tb : Nat) (ao bo : Option Addr) (na ca nb cb : Nat) (xa xb : List Value) (w : World) (h0 : w.cell? ⟨tb, 0, none⟩ = some (.slice ao na ca)) (h1 : w.cell? ⟨tb, 1, none⟩ = some (.slice bo nb cb))
    (ha : Src w 1 ao na ca xa) (hb : Src w 1 bo nb cb xb) (la : na ≤ 10000) (lb : nb ≤ 10000) :
    Calls Try.prog 74 #[.slice (some ⟨tb, 0, none⟩) 2 2] w fun e w' => ∃ v, e = .returned v ∧ w'.ownsRow w.heap.size 9 1 v (na + nb) (xa ++ xb) ∧ Below w.heap.size w w' := by
  have hlt := World.block_lt_of_cell? w ⟨tb, 0, none⟩ h0
  simp only at hlt
  obtain ⟨i0, hi, hz0, hz1, hz2⟩ := info_parts Try.info9
  have HI : Hid (Try.prog.info? 9 = some i0 ∧ i0.zero = some (.string ⟨#[]⟩) ∧ i0.size = 1 ∧ i0.bytes = 16) := ⟨hi, hz0, hz1, hz2⟩
  clear hi hz0 hz1 hz2
  go_enter Try.func74, Try.ntmps74
  go_wp2_with fail
  go_loop [3, 11] (fun s i => ∃ k : Nat, k ≤ 2 ∧ i = .int .i64 k ∧ s = .int .i64 (partN na nb k)) (fun _ i => 2 - (intOf i).toNat)
  case atStart => exact ⟨0, by omega, rfl, rfl⟩
  case round =>
    obtain ⟨k, hk, rfl, rfl⟩ := hrel
    have hcase : k = 0 ∨ k = 1 ∨ k = 2 := by omega
    rcases hcase with rfl | rfl | rfl
    · simp only [partN]
      go_wp2_with fail
      go_round
      case rel => exact ⟨1, by omega, by go_num, by simp⟩
      case measure => simp [intOf]
    · simp only [partN]
      go_wp2_with fail
      go_round
      case rel => exact ⟨2, by omega, by go_num, by simp⟩
      case measure => simp [intOf]
    · simp only [partN]
      go_wp2_with fail
      refine (grow66 (na + nb) _ (by omega)).mono ?_
      rintro e w1 ⟨v0, rfl, hown, hb1⟩
      have hs1 := hb1.size
      go_wp2_with fail
      go_loopw [6, 27] (fun v i wr => ∃ k : Nat, k ≤ 2 ∧ i = .int .i64 k ∧ wr.ownsRow w.heap.size 9 1 v (partN na nb k) (part xa xb k) ∧ Below w.heap.size w wr) (fun _ i _ => 2 - (intOf i).toNat)
      case atStart => exact ⟨0, by omega, rfl, hown, hb1⟩
      case round =>
        obtain ⟨k, hk, rfl, ho, hbr⟩ := hrel
        have q0 : wr.cell? ⟨tb, 0, none⟩ = some (.slice ao na ca) := (hbr.cell hlt).trans h0
        have q1 : wr.cell? ⟨tb, 1, none⟩ = some (.slice bo nb cb) := (hbr.cell hlt).trans h1
        have sa := ha.below hbr
        have sb := hb.below hbr
        have hsr := hbr.size
        clear h0 h1 ha hb hown hb1 hs1
        have hcase : k = 0 ∨ k = 1 ∨ k = 2 := by omega
        rcases hcase with rfl | rfl | rfl
        · simp only [partN, part] at ho
          obtain ⟨hi, hz0, hz1, hz2⟩ := HI.out
          go_wp2_with (at_builtin; refine append_src _ rfl _ _ 38 rfl w.heap.size 9 i0 (.string ⟨#[]⟩) 1 16 Try.underlying38 hi hz0 hz1 hz2 rfl (by decide) _ _ _ rfl ho ao na ca xa rfl sa ?c1 ?c2 hsr ?_)
          case c1 => unfold maxLen; omega
          case c2 => omega
          intro v' w2 hown' hgrow
          have hb2 : Below w.heap.size w w2 := hbr.grown hgrow hsr (fun k hk => (ho.lt k hk).1)
          have S : w2.ownsRow w.heap.size 9 1 v' (partN na nb 1) (part xa xb 1) := by simpa [partN, part] using hown'
          clear hown' hgrow ho hbr sa sb
          go_wp2
          go_roundw
          case rel => exact ⟨1, by omega, by go_num, S, hb2⟩
          case measure => simp [intOf]
        · simp only [partN, part] at ho
          obtain ⟨hi, hz0, hz1, hz2⟩ := HI.out
          go_wp2_with (at_builtin; refine append_src _ rfl _ _ 38 rfl w.heap.size 9 i0 (.string ⟨#[]⟩) 1 16 Try.underlying38 hi hz0 hz1 hz2 rfl (by decide) _ _ _ rfl ho bo nb cb xb rfl sb ?c1 ?c2 hsr ?_)
          case c1 => unfold maxLen; omega
          case c2 => omega
          intro v' w2 hown' hgrow
          have hb2 : Below w.heap.size w w2 := hbr.grown hgrow hsr (fun k hk => (ho.lt k hk).1)
          have S : w2.ownsRow w.heap.size 9 1 v' (partN na nb 2) (part xa xb 2) := by simpa [partN, part] using hown'
          clear hown' hgrow ho hbr sa sb
          go_wp2
          go_roundw
          case rel => exact ⟨2, by omega, by go_num, S, hb2⟩
          case measure => simp [intOf]
        · clear sa sb
          simp only [partN, part] at ho
          obtain ⟨go, gcap, rfl⟩ := own_sl ho
          go_wp2
          go_ret
          exact ⟨_, rfl, ho, hbr⟩

theorem grow72 (n : Nat) (w : World) (hn : n ≤ 100000) :
    Calls Try.prog 65 #[.slice none 0 0, .int .i64 n] w fun e w' => ∃ v, e = .returned v ∧ w'.ownsRow w.heap.size 40 14 v 0 [] ∧ Below w.heap.size w w' := by
  obtain ⟨i0, hi, hz0, hz1, hz2⟩ := info_parts Try.info40
  by_cases h0 : n = 0
  · subst h0
    refine (Any8.slices_Grow_room Try.laysGrowB none 0 0 0 w (by omega) (by omega) (by omega) (by omega)).mono ?_
    rintro e w' ⟨rfl, rfl⟩
    exact ⟨_, rfl, World.ownsRow_nil _ _ _ _, Below.refl _ _⟩
  · refine (Any8.slices_Grow_grow Try.laysGrowB i0 (.agg #[.int .i64 0, .int .i64 0, .int .i64 0, .int .i64 0, .int .i64 0, .int .i64 0, .int .i64 0, .int .i64 0, .int .i64 0, .int .i64 0, .int .i64 0, .int .i64 0, .string ⟨#[]⟩, .slice none 0 0]) hi hz0 (by omega) none 0 0 n [] w (by omega) (by omega) (by rw [hz2]; omega) (by omega) (by simp) (fun _ => rfl) (fun a h => by cases h)).mono ?_
    rintro e w' ⟨rfl, rfl⟩
    refine ⟨_, rfl, ⟨by simp, .inr ⟨w.heap.size, _, _, rfl, Nat.le_refl _, heap_alloc_new _ _, by omega, ?_, ?_, by simp⟩⟩, (Below.refl _ w).drew.alloc (by simp) _⟩
    · exact grownCap_le_maxLen _ _ _ _ (by unfold maxLen; omega)
    · have := grownCap_ge w (0 + n) 0 (Try.laysGrowB_ren.t 25)
      simp only [Array.size_append, size_zeroCells, List.size_toArray, List.length_nil]
      have e : (Value.cells (.agg #[.int .i64 0, .int .i64 0, .int .i64 0, .int .i64 0, .int .i64 0, .int .i64 0, .int .i64 0, .int .i64 0, .int .i64 0, .int .i64 0, .int .i64 0, .int .i64 0, .string ⟨#[]⟩, .slice none 0 0])).size = 14 := rfl
      rw [e]
      generalize grownCap w (0 + n) 0 (Try.laysGrowB_ren.t 25) = q at *
      omega

set_option maxHeartbeats 4000000 in
/-- slices.Concat of two. -/
theorem concat60 (tb : Nat) (ao bo : Option Addr) (na ca nb cb : Nat) (xa xb : List Value) (w : World) (h0 : w.cell? ⟨tb, 0, none⟩ = some (.slice ao na ca)) (h1 : w.cell? ⟨tb, 1, none⟩ = some (.slice bo nb cb))
    (ha : Src w 14 ao na ca xa) (hb : Src w 14 bo nb cb xb) (la : na ≤ 10000) (lb : nb ≤ 10000) :
    Calls Try.prog 58 #[.slice (some ⟨tb, 0, none⟩) 2 2] w fun e w' => ∃ v, e = .returned v ∧ w'.ownsRow w.heap.size 40 14 v (na + nb) (xa ++ xb) ∧ Below w.heap.size w w' := by
  have hlt := World.block_lt_of_cell? w ⟨tb, 0, none⟩ h0
  simp only at hlt
  obtain ⟨i0, hi, hz0, hz1, hz2⟩ := info_parts Try.info40
  have HI : Hid (Try.prog.info? 40 = some i0 ∧ i0.zero = some (.agg #[.int .i64 0, .int .i64 0, .int .i64 0, .int .i64 0, .int .i64 0, .int .i64 0, .int .i64 0, .int .i64 0, .int .i64 0, .int .i64 0, .int .i64 0, .int .i64 0, .string ⟨#[]⟩, .slice none 0 0]) ∧ i0.size = 14 ∧ i0.bytes = 136) := ⟨hi, hz0, hz1, hz2⟩
  clear hi hz0 hz1 hz2
  go_enter Try.func58, Try.ntmps58
  go_wp2_with fail
  go_loop [3, 11] (fun s i => ∃ k : Nat, k ≤ 2 ∧ i = .int .i64 k ∧ s = .int .i64 (partN na nb k)) (fun _ i => 2 - (intOf i).toNat)
  case atStart => exact ⟨0, by omega, rfl, rfl⟩
  case round =>
    obtain ⟨k, hk, rfl, rfl⟩ := hrel
    have hcase : k = 0 ∨ k = 1 ∨ k = 2 := by omega
    rcases hcase with rfl | rfl | rfl
    · simp only [partN]
      go_wp2_with fail
      go_round
      case rel => exact ⟨1, by omega, by go_num, by simp⟩
      case measure => simp [intOf]
    · simp only [partN]
      go_wp2_with fail
      go_round
      case rel => exact ⟨2, by omega, by go_num, by simp⟩
      case measure => simp [intOf]
    · simp only [partN]
      go_wp2_with fail
      refine (grow72 (na + nb) _ (by omega)).mono ?_
      rintro e w1 ⟨v0, rfl, hown, hb1⟩
      have hs1 := hb1.size
      go_wp2_with fail
      go_loopw [6, 27] (fun v i wr => ∃ k : Nat, k ≤ 2 ∧ i = .int .i64 k ∧ wr.ownsRow w.heap.size 40 14 v (partN na nb k) (part xa xb k) ∧ Below w.heap.size w wr) (fun _ i _ => 2 - (intOf i).toNat)
      case atStart => exact ⟨0, by omega, rfl, hown, hb1⟩
      case round =>
        obtain ⟨k, hk, rfl, ho, hbr⟩ := hrel
        have q0 : wr.cell? ⟨tb, 0, none⟩ = some (.slice ao na ca) := (hbr.cell hlt).trans h0
        have q1 : wr.cell? ⟨tb, 1, none⟩ = some (.slice bo nb cb) := (hbr.cell hlt).trans h1
        have sa := ha.below hbr
        have sb := hb.below hbr
        have hsr := hbr.size
        clear h0 h1 ha hb hown hb1 hs1
        have hcase : k = 0 ∨ k = 1 ∨ k = 2 := by omega
        rcases hcase with rfl | rfl | rfl
        · simp only [partN, part] at ho
          obtain ⟨hi, hz0, hz1, hz2⟩ := HI.out
          go_wp2_with (at_builtin; refine append_src _ rfl _ _ 32 rfl w.heap.size 40 i0 (.agg #[.int .i64 0, .int .i64 0, .int .i64 0, .int .i64 0, .int .i64 0, .int .i64 0, .int .i64 0, .int .i64 0, .int .i64 0, .int .i64 0, .int .i64 0, .int .i64 0, .string ⟨#[]⟩, .slice none 0 0]) 14 136 Try.underlying32 hi hz0 hz1 hz2 rfl (by decide) _ _ _ rfl ho ao na ca xa rfl sa ?c1 ?c2 hsr ?_)
          case c1 => unfold maxLen; omega
          case c2 => omega
          intro v' w2 hown' hgrow
          have hb2 : Below w.heap.size w w2 := hbr.grown hgrow hsr (fun k hk => (ho.lt k hk).1)
          have S : w2.ownsRow w.heap.size 40 14 v' (partN na nb 1) (part xa xb 1) := by simpa [partN, part] using hown'
          clear hown' hgrow ho hbr sa sb
          go_wp2
          go_roundw
          case rel => exact ⟨1, by omega, by go_num, S, hb2⟩
          case measure => simp [intOf]
        · simp only [partN, part] at ho
          obtain ⟨hi, hz0, hz1, hz2⟩ := HI.out
          go_wp2_with (at_builtin; refine append_src _ rfl _ _ 32 rfl w.heap.size 40 i0 (.agg #[.int .i64 0, .int .i64 0, .int .i64 0, .int .i64 0, .int .i64 0, .int .i64 0, .int .i64 0, .int .i64 0, .int .i64 0, .int .i64 0, .int .i64 0, .int .i64 0, .string ⟨#[]⟩, .slice none 0 0]) 14 136 Try.underlying32 hi hz0 hz1 hz2 rfl (by decide) _ _ _ rfl ho bo nb cb xb rfl sb ?c1 ?c2 hsr ?_)
          case c1 => unfold maxLen; omega
          case c2 => omega
          intro v' w2 hown' hgrow
          have hb2 : Below w.heap.size w w2 := hbr.grown hgrow hsr (fun k hk => (ho.lt k hk).1)
          have S : w2.ownsRow w.heap.size 40 14 v' (partN na nb 2) (part xa xb 2) := by simpa [partN, part] using hown'
          clear hown' hgrow ho hbr sa sb
          go_wp2
          go_roundw
          case rel => exact ⟨2, by omega, by go_num, S, hb2⟩
          case measure => simp [intOf]
        · clear sa sb
          simp only [partN, part] at ho
          obtain ⟨go, gcap, rfl⟩ := own_sl ho
          go_wp2
          go_ret
          exact ⟨_, rfl, ho, hbr⟩

end Go.Proofs.Ytflpdekifkcfkab
