/- norm.allNots: those of both, rising, each once. -/
import Derived.Test.YtflpdekifkcfkabTb
namespace Go.Proofs.Ytflpdekifkcfkab
open Go.RowKit Go.Sort
set_option linter.unusedVariables false

theorem rise_small {l : List (List UInt8)} (h : ∀ a ∈ l, a.length ≤ 1000) : ∀ a ∈ Ev.rise l, a.length ≤ 1000 := fun a ha => h a ((Ev.mem_rise a l).1 ha)

/-- slices.Sort, then what slices.Compact leaves. -/
theorem sort54 (g cap : Nat) (l : List (List UInt8)) (w : World) (ht : Tb w g l) (hl : l.length ≤ 10000) :
    Calls Try.prog 75 #[.slice (some ⟨g, 0, none⟩) l.length cap] w fun e w' => e = .returned (.tuple #[]) ∧ Tb w' g (l.mergeSort fun x y => decide (x ≤ y)) ∧ ∀ B, B ≤ g → Below B w w' := by
  refine (Any.slices_Sort_string Try.laysSort g 0 cap l w ht.holds ht.lt (by omega)).mono ?_
  rintro e w' ⟨rfl, n, os, rfl⟩
  have ht' : Tb (Go.Sort.ahead w n) g l := ht
  refine ⟨rfl, (ht'.put _ (by simp)).grow os, fun B hB => ?_⟩
  exact below_growS (below_put (below_ahead (Below.refl B w) n) hB _) (by have := ht.lt; simp; omega) os

theorem compact55 (g cap : Nat) (l : List (List UInt8)) (w : World) (ht : Tb w g l) (hl : l.length ≤ 10000) (hcap : l.length ≤ cap) :
    Calls Try.prog 76 #[.slice (some ⟨g, 0, none⟩) l.length cap] w fun e w' => e = .returned (.slice (some ⟨g, 0, none⟩) (Lib.compact l).length cap) ∧ Tb w' g (Lib.compact l) ∧ ∀ B, B ≤ g → Below B w w' := by
  refine (Any.slices_Compact_string Try.laysCompact g 0 cap l w ht.holds (by omega) hcap).mono ?_
  rintro e w' ⟨rfl, n, rfl⟩
  have ht' : Tb (Go.Sort.ahead w n) g l := ht
  have hle : (Lib.compact l).length ≤ l.length := by
    unfold Lib.compact Lib.compactUpTo
    rw [List.length_map]
    exact Nat.le_trans (List.length_filter_le _ _) (by simp)
  refine ⟨rfl, (ht'.put _ (by simp; omega)).pre, fun B hB => below_put (below_ahead (Below.refl B w) n) hB _⟩

set_option maxHeartbeats 4000000 in
theorem nots_any (ao bo : Option Addr) (ca cb : Nat) (la lb l r : List (List UInt8)) (w : World) (A B : Nat) (ha : Nt A w ao ca la) (hb : Nt B w bo cb lb) (hla : la.length ≤ 1000) (hlb : lb.length ≤ 1000) (HL : Hid (l = la ++ lb)) (HR : Hid (r = Ev.rise l)) (hsmall : ∀ a ∈ r, a.length ≤ 1000) :
    Calls Try.prog 71 #[.slice ao la.length ca, .slice bo lb.length cb] w fun e w' => ∃ o cap, e = .returned (.slice o r.length cap) ∧ Nt w.heap.size w' o cap r ∧ Below w.heap.size w w' := by
  obtain ⟨W, hW⟩ : ∃ W, W = w.alloc (.cells #[.slice ao la.length ca, .slice bo lb.length cb] 38) := ⟨_, rfl⟩
  have hbW : Below w.heap.size w W := by rw [hW]; exact (Below.refl _ _).alloc (Nat.le_refl _) _
  have hsW : w.heap.size < W.heap.size := by rw [hW]; simp
  have c := concat53 w.heap.size ao bo la.length ca lb.length cb _ _ W (by rw [hW]; simp) (by rw [hW]; simp) (ha.below hbW).src (hb.below hbW).src (by omega) (by omega)
  rw [hW] at c
  have HW : Hid (W = w.alloc (.cells #[.slice ao la.length ca, .slice bo lb.length cb] 38)) := hW
  clear hW ha hb
  go_enter Try.func71, Try.ntmps71
  go_wp2_with fail
  refine c.mono ?_
  rintro e w1 ⟨v, rfl, hown, hb1⟩
  rw [← HW.out] at hown hb1
  rw [← List.map_append, ← List.length_append, ← HL.out] at hown
  have hl1 : l.length ≤ 2000 := by rw [HL.out]; simp; omega
  have hrl := Ev.length_rise l
  rw [← HR.out] at hrl
  clear c HW HL
  have hbw1 : Below w.heap.size w w1 := hbW.trans (hb1.mono (by omega))
  have hg0 : w.heap.size < w1.heap.size := Nat.lt_of_lt_of_le hsW hb1.size
  clear hb1 hbW
  by_cases h0 : l.length = 0
  · obtain rfl : r = [] := List.eq_nil_of_length_eq_zero (by omega)
    rw [h0] at hown
    obtain ⟨go, gcap, rfl, hn⟩ : ∃ go gcap, v = .slice go 0 gcap ∧ Nt w.heap.size w1 go gcap [] := by
      rcases hown.2 with ⟨rfl, _⟩ | ⟨g, cap, cur, rfl, _⟩
      · exact ⟨none, 0, rfl, Nt.empty _ _⟩
      · exact ⟨_, cap, rfl, ⟨fun h => (by cases h), fun h => (by simp at h)⟩⟩
    clear hown h0 hsmall hl1 hrl HR
    go_wp2_with fail
    refine (Any.slices_Sort_string_none Try.laysSort go gcap _).mono ?_
    rintro e w2 ⟨rfl, rfl⟩
    go_wp2_with fail
    refine (Any.slices_Compact_string_empty Try.laysCompact go gcap _).mono ?_
    rintro e w3 ⟨rfl, rfl⟩
    go_wp2_with fail
    refine wp_loop_rounds 1 ?_
    rw [rounds_succ]
    go_wp2
    go_ret
    exact ⟨_, _, rfl, hn, hbw1⟩
  · obtain ⟨g, gcap, rfl, hgB, htb, hgc⟩ : ∃ g gcap, v = .slice (some ⟨g, 0, none⟩) l.length gcap ∧ W.heap.size ≤ g ∧ Tb w1 g l ∧ l.length ≤ gcap := by
      rcases hown with ⟨hx, ⟨_, h⟩ | ⟨g, cap, cur, rfl, hg, hh, hc1, hc2, hc3, hc4⟩⟩
      · exact absurd h h0
      · refine ⟨g, cap, rfl, hg, ⟨cur, hh, fun j hj => ?_⟩, hc1⟩
        have e : (cur.toList.take (l.length * 1))[j]? = (l.map encStr)[j]? := by rw [hc4]
        rw [List.getElem?_take_of_lt (by omega), List.getElem?_map, List.getElem?_eq_getElem hj] at e
        simpa using e
    clear hown
    have c1 := sort54 g gcap l w1 htb (by omega)
    go_wp2_with fail
    refine c1.mono ?_
    rintro e w2 ⟨rfl, ht2, hb2⟩
    clear c1
    have hl2 : (l.mergeSort fun x y => decide (x ≤ y)).length = l.length := by simp
    have c2 := compact55 g gcap _ w2 ht2 (by omega) (by omega)
    rw [hl2] at c2
    clear ht2 htb hl2
    rw [Ev.compact_sorted, ← HR.out] at c2
    clear HR
    go_wp2_with fail
    refine c2.mono ?_
    rintro e w3 ⟨rfl, ht3, hb3⟩
    clear c2
    have hbw3 : Below w.heap.size w w3 := (hbw1.trans (hb2 _ (by omega))).trans (hb3 _ (by omega))
    clear hb2 hb3 hbw1
    go_wp2_with fail
    go_loopw [18] (fun i wr => ∃ k : Nat, k ≤ r.length ∧ i = .int .i64 k ∧ Tb wr g r ∧ Below w.heap.size w wr) (fun i _ => r.length - (intOf i).toNat)
    case atStart => exact ⟨0, by omega, rfl, ht3, hbw3⟩
    case round =>
      obtain ⟨k, hk, rfl, ht, hbr⟩ := hrel
      by_cases hlt : k < r.length
      · have q := ht.cell k hlt
        have hz : (encStr r[k] = .string (Ev.bts r[k])) := rfl
        rw [hz] at q
        have hs1 : (Ev.bts r[k]).size ≤ 1000 := by rw [bts_size]; exact hsmall _ (List.getElem_mem hlt)
        have hset := fun w' (h : Tb w' g r) => h.set k hlt
        simp only [hz] at hset
        generalize Ev.bts r[k] = s at *
        have c3 := clone38 s wr hs1
        clear hz
        have hkr : (k : Int) < (r.length : Int) := by omega
        go_wp2_with fail
        refine c3.mono ?_
        rintro e w4 ⟨rfl, hb4⟩
        have hgw : g < wr.heap.size := ht.lt
        have ht4 : Tb w4 g r := ht.block (hb4.block g hgw)
        have q4 : w4.cell? ⟨g, k, none⟩ = some (.string s) := (hb4.cell (p := ⟨g, k, none⟩) hgw).trans q
        have f4 : w4.frozen? ⟨g, k, none⟩ = false := ht4.free k
        have R1 := hset w4 ht4
        have R2 : Below w.heap.size w (w4.setCell ⟨g, k, none⟩ (.string s)) := (hbr.trans (hb4.mono hbr.size)).setCell (by simp; omega) _
        clear c3 hset ht ht4 hb4 hbr q
        go_wp2
        go_roundw
        case rel => exact ⟨k + 1, by omega, by go_num, R1, R2⟩
        case measure => simp [intOf]; omega
      · have : k = r.length := by omega
        subst this
        go_wp2
        go_ret
        exact ⟨_, _, rfl, ⟨fun h => (by cases h), fun _ => ⟨g, rfl, by omega, ht⟩⟩, hbr⟩

/-- norm.allNots. -/
theorem nots37 (ao bo : Option Addr) (ca cb : Nat) (la lb : List (List UInt8)) (w : World) (A B : Nat) (ha : Nt A w ao ca la) (hb : Nt B w bo cb lb) (hla : la.length ≤ 1000) (hlb : lb.length ≤ 1000) (sa : ∀ a ∈ la, a.length ≤ 1000) (sb : ∀ a ∈ lb, a.length ≤ 1000) :
    Calls Try.prog 71 #[.slice ao la.length ca, .slice bo lb.length cb] w fun e w' => ∃ o cap, e = .returned (.slice o (Ev.rise (la ++ lb)).length cap) ∧ Nt w.heap.size w' o cap (Ev.rise (la ++ lb)) ∧ Below w.heap.size w w' :=
  nots_any ao bo ca cb la lb _ _ w A B ha hb hla hlb (show Hid (la ++ lb = la ++ lb) from rfl) (show Hid (Ev.rise (la ++ lb) = _) from rfl) (rise_small (fun a h => by
    rw [List.mem_append] at h
    rcases h with h | h
    · exact sa a h
    · exact sb a h))

end Go.Proofs.Ytflpdekifkcfkab
