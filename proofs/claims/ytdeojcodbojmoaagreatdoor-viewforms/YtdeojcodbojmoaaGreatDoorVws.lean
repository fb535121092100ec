/- Rows of views out of numbers. -/
import Derived.Test.YtdeojcodbojmoaaGreatDoorVwl
import Derived.Deep.RegionLaw
namespace Go.Proofs.YtdeojcodbojmoaaGreatDoor
open Go.RowKit
set_option maxRecDepth 100000
set_option linter.unusedVariables false

set_option maxHeartbeats 4000000 in
theorem views11 (pb n : Nat) (w : World) (hp : Pick w pb) (hn1 : 1 ≤ n) (hn5 : n ≤ 5) :
    Calls Tryz.prog 11 #[.pointer (some ⟨pb, 0, none⟩), .int .i64 n] w fun e w' => ∃ o oc ps, e = .returned (.slice o n oc) ∧ List.length ps = n ∧ w'.ownsRow w.heap.size 25 5 (.slice o n oc) n (pcells ps) ∧ Lvs (fun k => w.heap.size ≤ k ∧ Far (.slice o n oc) k) w' ps ∧ (∀ i (h : i < ps.length), Gd n i (ps[i]).2) ∧ Sep w.heap.size ps w'.heap.size ∧ Went pb w w' := by
  have hlt := hp.lt
  go_enter Tryz.func11, Tryz.ntmps11
  go_wp2_with fail
  go_loopw [5, 6] (fun v i wr => ∃ (k : Nat) (o : Option Addr) (oc : Nat) (qs : List (Vc × Vw)), k ≤ n ∧ i = .int .i64 ((k : Int) + 1) ∧ v = .slice o k oc ∧ Hid (Rw w wr n k o oc qs) ∧ Went pb w wr) (fun _ i _ => n + 1 - (intOf i).toNat)
  case atStart => exact ⟨0, none, 0, [], Nat.zero_le _, rfl, rfl, ⟨rfl, World.ownsRow_nil _ _ _ _, fun p hp => (List.not_mem_nil hp).elim, fun i h => absurd h (by simp), Nat.le_refl _⟩, Went.refl hp⟩
  case round =>
    obtain ⟨k, o, oc, qs, hk, rfl, rfl, HQ, hwent⟩ := hrel
    obtain ⟨V0, hV0⟩ : ∃ V0, V0 = wr := ⟨_, rfl⟩
    subst hV0
    have hsV : w.heap.size ≤ V0.heap.size := hwent.2.size
    have HWt : Hid (Went pb w V0) := hwent
    by_cases hkn : k < n
    · have hg1 : decide ((k : Int) + 1 ≤ (n : Int)) = true := decide_eq_true (by omega)
      go_wp2_with fail
      refine (num_any pb 4 _ (by omega) (by omega) hwent.1).mono ?_
      rintro e w1 ⟨q, hq, rfl, hw1⟩
      have hwent1 := hwent.trans hw1
      have HW1 : Hid (Went pb V0 w1) := hw1
      have hs01 : V0.heap.size ≤ w1.heap.size := hw1.2.size
      have hs1 : w.heap.size ≤ w1.heap.size := hwent1.2.size
      clear hw1
      by_cases hq0 : q = 0
      · subst hq0
        obtain ⟨i25, k1, k2, k3, k4⟩ := info_parts Tryz.info25
        have HKY : Hid (Kept (fun x => x ≠ pb ∧ x < V0.heap.size) V0 (w1.alloc (.cells #[.int .i64 ((k : Int) + 1), .int .i64 0, .string ⟨#[]⟩, .slice none 0 0, .slice none 0 0] 25))) := Kept.alloc (HW1.out.2.mono (fun x _ h => h.1)) _
        have hpY : Pick (w1.alloc (.cells #[.int .i64 ((k : Int) + 1), .int .i64 0, .string ⟨#[]⟩, .slice none 0 0, .slice none 0 0] 25)) pb := (HW1.out.alloc _).1
        have HLV : Hid (Lv (fun x => V0.heap.size ≤ x) (w1.alloc (.cells #[.int .i64 ((k : Int) + 1), .int .i64 0, .string ⟨#[]⟩, .slice none 0 0, .slice none 0 0] 25)) ⟨(k : Int) + 1, 0, ⟨#[]⟩, none, 0, 0, none, 0, 0⟩ ⟨(k : Int) + 1, 0, ⟨#[]⟩, [], []⟩ ∧ Bl none 0 V0.heap.size w1.heap.size ∧ Bl none 0 w1.heap.size ((w1.alloc (.cells #[.int .i64 ((k : Int) + 1), .int .i64 0, .string ⟨#[]⟩, .slice none 0 0, .slice none 0 0] 25))).heap.size ∧ Gd n k ⟨(k : Int) + 1, 0, ⟨#[]⟩, [], []⟩) := by
          have z1 : (⟨#[]⟩ : ByteArray).size ≤ 1000 := by decide
          have z2 : (0 : Int) ≤ 3 := by decide
          have z3 : ¬ (0 : Int) < 0 := by decide
          exact ⟨⟨rfl, rfl, rfl, z1, rfl, rfl, Rds.nil _ _ _, Rds.nil _ _ _⟩, fun h => by omega, fun h => by omega, ⟨rfl, Int.le_refl _, z2, fun _ => ⟨rfl, rfl, rfl⟩, fun h => absurd h z3⟩⟩
        have hoY : ((w1.alloc (.cells #[.int .i64 ((k : Int) + 1), .int .i64 0, .string ⟨#[]⟩, .slice none 0 0, .slice none 0 0] 25))).ownsRow w.heap.size 25 5 (.slice o k oc) k (pcells qs) := own_kept HQ.out.2.1 HKY.out (fun x hx _ => ⟨by have := (own_lt HQ.out.2.1 x hx).1; omega, (own_lt HQ.out.2.1 x hx).2⟩)
        have HoY : Hid _ := hoY
        clear hoY
        go_wp2_with (at_builtin; refine wpList_append_lies _ rfl _ _ 31 rfl w.heap.size 25 i25 _ 5 80 Tryz.underlying31 k1 k2 k3 k4 rfl (by decide) (.slice o k oc) _ (pcells qs) rfl (World.ownsRow.alloc HoY.out _) ⟨w1.heap.size + 1, 0, none⟩ 1 1 (Vc.vals ⟨(k : Int) + 1, 0, ⟨#[]⟩, none, 0, 0, none, 0, 0⟩) rfl rfl ?c1 ?c2 (by decide) ?c3 ?c4 ?c5 (w1.heap.size + 1 + 1) (by simp) ?_)
        case c1 =>
          intro j u hj
          match j, hj with
          | 0, hj => simp [Vc.vals] at hj; subst hj; simp [Addr.add]
          | 1, hj => simp [Vc.vals] at hj; subst hj; simp [Addr.add]
          | 2, hj => simp [Vc.vals] at hj; subst hj; simp [Addr.add]
          | 3, hj => simp [Vc.vals] at hj; subst hj; simp [Addr.add]
          | 4, hj => simp [Vc.vals] at hj; subst hj; simp [Addr.add]
        case c2 => intro u hu; simp [Vc.vals] at hu; rcases hu with rfl | rfl | rfl | rfl | rfl <;> rfl
        case c3 => unfold maxLen; omega
        case c4 => omega
        case c5 => simp; omega
        intro g' cap' w9 hown9 hgrow hat hlt9
        have hm : w1.heap.size ≤ ((w1.alloc (.cells #[.int .i64 ((k : Int) + 1), .int .i64 0, .string ⟨#[]⟩, .slice none 0 0, .slice none 0 0] 25))).heap.size := by simp
        have hz := outer_step (m1 := w1.heap.size) hlt HWt.out HQ.out HKY.out hpY HLV.out.1 hs01 hm HLV.out.2.1 HLV.out.2.2.1 HLV.out.2.2.2 hown9 hgrow (by simpa using hat)
        have HF : Hid (Rw w w9 n (k + 1) (some ⟨g', 0, none⟩) cap' (qs ++ [(⟨(k : Int) + 1, 0, ⟨#[]⟩, none, 0, 0, none, 0, 0⟩, ⟨(k : Int) + 1, 0, ⟨#[]⟩, [], []⟩)])) := hz.1
        have HG : Went pb w w9 := hz.2
        clear hown9 hgrow hat HLV HKY HQ HWt HoY hz
        go_wp2
        go_roundw
        case rel => exact ⟨k + 1, some ⟨g', 0, none⟩, cap', _, by omega, by go_num, rfl, HF, HG⟩
        case measure => simp [intOf]; omega
      · have hqp : decide ((0 : Int) < (q : Int)) = true := decide_eq_true (by omega)
        go_wp2_with fail
        have hW2 : Went pb w1 (w1.alloc (.cells #[.int .i64 ((k : Int) + 1), .int .i64 q, .string ⟨#[]⟩, .slice none 0 0, .slice none 0 0] 25)) := (Went.refl hwent1.1).alloc _
        refine (want23 pb _ hW2.1).mono ?_
        rintro e w2 ⟨t, ht, rfl, hw2⟩
        go_wp2_with fail
        refine (num_any pb 6 _ (by omega) (by omega) hw2.1).mono ?_
        rintro e w3 ⟨z0, hz0, rfl, hw3⟩
        go_wp2_with fail
        refine (num_any pb 9 _ (by omega) (by omega) hw3.1).mono ?_
        rintro e w4 ⟨z1, hz1, rfl, hw4⟩
        go_wp2_with fail
        refine (num_any pb 3 _ (by omega) (by omega) hw4.1).mono ?_
        rintro e w5 ⟨z2, hz2, rfl, hw5⟩
        have hw15 : Went pb w1 w5 := hW2.trans (hw2.trans (hw3.trans (hw4.trans hw5)))
        have hw25 : Went pb (w1.alloc (.cells #[.int .i64 ((k : Int) + 1), .int .i64 q, .string ⟨#[]⟩, .slice none 0 0, .slice none 0 0] 25)) w5 := hw2.trans (hw3.trans (hw4.trans hw5))
        have hpb1 : pb < w1.heap.size := by omega
        have hs5 : w1.heap.size < w5.heap.size := by have := hw25.2.size; simp at this; omega
        have v5 : ∀ i, w5.cell? ⟨w1.heap.size, i, none⟩ = (#[.int .i64 ((k : Int) + 1), .int .i64 q, .string ⟨#[]⟩, .slice none 0 0, .slice none 0 0] : Array Value)[i]? := fun i => by rw [hw25.cell (by simp) hpb1]; simp
        have y5 : ∀ i, w5.frozen? ⟨w1.heap.size, i, none⟩ = false := fun i => by rw [hw25.frozen (by simp) hpb1]; simp
        have HW5 : Hid (Went pb w1 w5) := hw15
        have hc5 := heads24 (w5.alloc (.cells #[.int .u8 z0, .int .u8 z1, .int .u8 z2, .int .u8 1] 5)) w5.heap.size z0 z1 z2 1 4 (by simp) (by simp) (by simp) (by simp) (by simp) (by omega) (by omega) (by omega) (by omega)
        clear hw2 hw3 hw4 hw5 hw15 hw25 hW2
        go_wp2_with fail
        refine hc5.mono ?_
        rintro e w6 ⟨g, c, it, L, R, N', b1, b2, b3, b4, b5, b6, b7, b8, rfl, hown6, hb6⟩
        clear hc5
        have hs6 : w5.heap.size + 1 ≤ w6.heap.size := by have := hb6.size; simp at this; omega
        have v6 : ∀ i, w6.cell? ⟨w1.heap.size, i, none⟩ = (#[.int .i64 ((k : Int) + 1), .int .i64 q, .string ⟨#[]⟩, .slice none 0 0, .slice none 0 0] : Array Value)[i]? := fun i => by
          rw [hb6.cell (p := ⟨w1.heap.size, i, none⟩) (by simp; omega), World.cell?_alloc_past _ _ _ (hn := hs5)]; exact v5 i
        have y6 : ∀ i, w6.frozen? ⟨w1.heap.size, i, none⟩ = false := fun i => by
          rw [hb6.frozen (p := ⟨w1.heap.size, i, none⟩) (by simp; omega), World.frozen?_alloc_past _ _ _ (hn := hs5)]; exact y5 i
        have HW6 : Hid (Went pb w1 w6) := by
          refine ⟨?_, ?_⟩
          · exact (HW5.out.alloc _).1.below (hb6.mono (by simp; omega))
          · exact (HW5.out.alloc _).2.trans (Kept.of_below hb6)
        have HO6 : Hid (w6.ownsRow (w5.heap.size + 1) 45 4 (.slice (some ⟨g, 0, none⟩) 1 c) 1 (hcells [⟨it, L, R, N'⟩])) := by
          have := hown6
          simp only [World.size_alloc] at this
          exact this
        clear v5 y5 hb6 hown6 HW5
        go_wp2_with fail
        obtain ⟨U, hU⟩ : ∃ U, U = (w6.setCell ⟨w1.heap.size, 2, none⟩ (.string t)).setCell ⟨w1.heap.size, 3, none⟩ (.slice (some ⟨g, 0, none⟩) 1 c) := ⟨_, rfl⟩
        rw [← hU]
        have hUs : U.heap.size = w6.heap.size := by rw [hU]; simp
        have vU : ∀ i, U.cell? ⟨w1.heap.size, i, none⟩ = (#[.int .i64 ((k : Int) + 1), .int .i64 q, .string t, .slice (some ⟨g, 0, none⟩) 1 c, .slice none 0 0] : Array Value)[i]? := fun i => by
          rw [hU]
          match i with
          | 0 => rw [World.cell?_setCell_other _ _ _ _ (by simp), World.cell?_setCell_other _ _ _ _ (by simp)]; exact v6 0
          | 1 => rw [World.cell?_setCell_other _ _ _ _ (by simp), World.cell?_setCell_other _ _ _ _ (by simp)]; exact v6 1
          | 2 => rw [World.cell?_setCell_other _ _ _ _ (by simp)]; exact (World.cell?_setCell_same _ _ _ (u := .string ⟨#[]⟩) (v6 2)).trans rfl
          | 3 => exact (World.cell?_setCell_same _ _ _ (u := .slice none 0 0) (by rw [World.cell?_setCell_other _ _ _ _ (by simp)]; exact v6 3)).trans rfl
          | 4 => rw [World.cell?_setCell_other _ _ _ _ (by simp), World.cell?_setCell_other _ _ _ _ (by simp)]; exact v6 4
          | m + 5 => rw [World.cell?_setCell_other _ _ _ _ (by simp), World.cell?_setCell_other _ _ _ _ (by simp)]; exact v6 (m + 5)
        have yU : ∀ i, U.frozen? ⟨w1.heap.size, i, none⟩ = false := fun i => by rw [hU]; simpa using y6 i
        have HU : Hid (Went pb w1 U ∧ U.ownsRow (w5.heap.size + 1) 45 4 (.slice (some ⟨g, 0, none⟩) 1 c) 1 (hcells [⟨it, L, R, N'⟩])) := by
          refine ⟨by rw [hU]; exact (HW6.out.setCell (p := ⟨w1.heap.size, 2, none⟩) (Nat.le_refl _) hpb1 _).setCell (p := ⟨w1.heap.size, 3, none⟩) (Nat.le_refl _) hpb1 _, ?_⟩
          refine own_kept (P := fun x => x ≠ w1.heap.size) HO6.out ?_ (fun x _ hx => by omega)
          rw [hU]
          exact ((Kept.refl _ w6).setCell (p := ⟨w1.heap.size, 2, none⟩) (fun x _ hx => hx) _).setCell (p := ⟨w1.heap.size, 3, none⟩) (fun x _ hx => hx) _
        have hpU : Pick U pb := HU.out.1.1
        have hs16 : w1.heap.size < w6.heap.size := by omega
        clear hU v6 y6 HO6 HW6
        go_loopw [8] (fun i wx => ∃ (j : Nat) (eo : Option Addr) (ec : Nat) (eps : List Int), j ≤ n ∧ i = .int .i64 j ∧ Hid (eps.length = j ∧ (∀ e ∈ eps, 0 ≤ e ∧ e ≤ 3) ∧ wx.ownsRow w6.heap.size 3 1 (.slice eo j ec) j (icells eps) ∧ Kept (fun x => x ≠ pb ∧ x ≠ w1.heap.size ∧ x < w6.heap.size) U wx) ∧
            (∀ i, wx.cell? ⟨w1.heap.size, i, none⟩ = (#[.int .i64 ((k : Int) + 1), .int .i64 q, .string t, .slice (some ⟨g, 0, none⟩) 1 c, .slice eo j ec] : Array Value)[i]?) ∧ (∀ i, wx.frozen? ⟨w1.heap.size, i, none⟩ = false) ∧ Pick wx pb ∧ w6.heap.size ≤ wx.heap.size) (fun i _ => n - (intOf i).toNat)
        case atStart => exact ⟨0, none, 0, [], Nat.zero_le _, rfl, ⟨rfl, fun e he => (List.not_mem_nil he).elim, World.ownsRow_nil _ _ _ _, Kept.refl _ _⟩, vU, yU, hpU, by omega⟩
        case round =>
          clear vU yU hpU
          obtain ⟨j, eo, ec, eps, hj, rfl, HE, vx, yx, hpx, hsx⟩ := hrel
          by_cases hjn : j < n
          · have vx4 : wr.cell? ⟨w1.heap.size, 4, none⟩ = some (.slice eo j ec) := vx 4
            have yx4 : wr.frozen? ⟨w1.heap.size, 4, none⟩ = false := yx 4
            have hlx : w1.heap.size < wr.heap.size := by omega
            have hcn := num_any pb 4 wr.drew (by omega) (by omega) (hpx.below (Below.refl _ wr).drew)
            obtain ⟨i3, m1, m2, m3, m4⟩ := info_parts Tryz.info3
            have ag : (Value.slice eo j ec).ownBlock ≠ some w1.heap.size := fun e => by have := (own_lt HE.out.2.2.1 _ e).1; omega
            have hp6 : pb < w6.heap.size := by omega
            go_wp2_with fail
            go_region_law (first
              | (refine step_append_lies _ (by rfl) _ _ _ (by rfl) w6.heap.size 3 i3 _ 1 8 Tryz.underlying23 m1 m2 m3 m4 rfl (by omega) _ _ _ (by rfl) (hown7.alloc _) ⟨w7.heap.size, 0, none⟩ 1 1 [.int .i64 r] (by rfl) (by rfl) (World.news_of_block (cs := #[.int .i64 r]) (t := 3) (fr := (0, 0)) (heap_alloc_new w7 _)) (by simp [Value.oneCell']) (by omega) (by unfold maxLen; omega) (by omega) (by simp; omega) (w7.heap.size + 1) (by simp) ?_; intro gg cap7 w8 hown8 hgrow hat hlt8; have v8 : w8.cell? ⟨w1.heap.size, 4, none⟩ = some (.slice eo j ec) := (hgrow.cell_far _ (by simp; omega) (Ne.symm ag)).trans ((World.cell?_alloc_past _ _ _ (hn := hs7)).trans v7); have y8 : w8.frozen? ⟨w1.heap.size, 4, none⟩ = false := (hgrow.frozen_far _ (by simp; omega) (Ne.symm ag)).trans ((World.frozen?_alloc_past _ _ _ (hn := hs7)).trans y7))
              | (go_simp; go_wp2_with (go_at_call 22; refine hcn.mono ?_; rintro e w7 ⟨r, hr, rfl, hw7⟩; have v7 : w7.cell? ⟨w1.heap.size, 4, none⟩ = some (.slice eo j ec) := (hw7.cell hlx hpb1).trans vx4; have y7 : w7.frozen? ⟨w1.heap.size, 4, none⟩ = false := (hw7.frozen hlx hpb1).trans yx4; have hs7 : w1.heap.size < w7.heap.size := Nat.lt_of_lt_of_le hlx hw7.2.size; have hown7 : w7.ownsRow w6.heap.size 3 1 (.slice eo j ec) j (icells eps) := own_kept (w := wr.drew) HE.out.2.2.1 hw7.2 (fun x _ hx => by unfold But; omega); have hz7 : w6.heap.size ≤ w7.heap.size := Nat.le_trans hsx hw7.2.size)))
            all_goals (
              obtain ⟨X, hX⟩ : ∃ X, X = w8.setCell ⟨w1.heap.size, 4, none⟩ (.slice (some ⟨gg, 0, none⟩) (j + 1) cap7) := ⟨_, rfl⟩
              obtain ⟨S1, S2, S3, S4, S5, S6⟩ := inner_step hpb1 hs16 hsx HE.out.2.2.2 vx yx hw7 hown7 (by simpa using hown8) hgrow X hX
              have HS : Hid ((eps ++ [(r : Int)]).length = j + 1 ∧ (∀ e ∈ eps ++ [(r : Int)], 0 ≤ e ∧ e ≤ 3) ∧ X.ownsRow w6.heap.size 3 1 (.slice (some ⟨gg, 0, none⟩) (j + 1) cap7) (j + 1) (icells (eps ++ [(r : Int)])) ∧ Kept (fun x => x ≠ pb ∧ x ≠ w1.heap.size ∧ x < w6.heap.size) U X) := by
                refine ⟨by simp [HE.out.1], fun e he => ?_, S1, S2⟩
                rcases List.mem_append.1 he with he | he
                · exact HE.out.2.1 e he
                · simp at he; omega
              rw [← hX]
              clear hX S1 S2 hw7 hown7 hown8 hgrow hat v7 y7 v8 y8 vx yx vx4 yx4 hcn HE hpx
              go_wp2
              go_roundw
              case rel => exact ⟨j + 1, some ⟨gg, 0, none⟩, cap7, eps ++ [(r : Int)], by omega, by go_num, HS, S3, S4, S5, S6⟩
              case measure => simp [intOf]; omega)
          · have e : j = n := by omega
            subst e
            have vx0 := vx 0
            have HKY : Hid (Kept (fun x => x ≠ pb ∧ x < V0.heap.size) V0 wr) := by
              have a1 : Kept (fun x => x ≠ pb ∧ x < V0.heap.size) V0 U := (HW1.out.2.trans HU.out.1.2).mono (fun x _ h => h.1)
              exact a1.trans (HE.out.2.2.2.mono (fun x _ h => ⟨h.1, by omega, by omega⟩))
            have HLV : Hid (Lv (fun x => V0.heap.size ≤ x) wr ⟨(k : Int) + 1, q, t, some ⟨g, 0, none⟩, 1, c, eo, j, ec⟩ ⟨(k : Int) + 1, q, t, [⟨it, L, R, N'⟩], eps⟩ ∧ Bl (some ⟨g, 0, none⟩) 1 V0.heap.size w6.heap.size ∧ Bl eo j w6.heap.size wr.heap.size ∧ Gd j k ⟨(k : Int) + 1, q, t, [⟨it, L, R, N'⟩], eps⟩) := by
              have ho := HU.out.2
              have hg := own_lt ho g rfl
              have hoY := own_kept ho HE.out.2.2.2 (fun x hx hb => by
                have ex : g = x := by simpa [Value.ownBlock] using hx
                subst ex
                exact ⟨by omega, by omega, by omega⟩)
              have he := HE.out.2.2.1
              have hz : (0 : Nat) < j := by omega
              refine ⟨⟨rfl, rfl, rfl, want_size ht, rfl, HE.out.1.symm, ?_, ?_⟩, ?_, ?_, ?_⟩
              · exact (Rds.of_own hoY (by omega) (.inl (by omega))).mono (fun b _ hb => by have hb' : w5.heap.size + 1 ≤ b := hb; omega)
              · exact (Rds.of_own he (by omega) (.inl hz)).mono (fun b _ hb => by have hb' : w6.heap.size ≤ b := hb; omega)
              · exact fun _ => ⟨g, 0, rfl, by omega, by omega⟩
              · intro _
                obtain ⟨gb, gc, e1, e2, e3⟩ := he.form hz
                cases e1
                exact ⟨gb, 0, rfl, e2, e3⟩
              · exact ⟨rfl, by show (0 : Int) ≤ (q : Int); omega, by show (q : Int) ≤ 3; omega, fun h => by have h' : (q : Int) = 0 := h; omega, fun _ => ⟨ht, HE.out.1, HE.out.2.1, it, L, R, N', ⟨b1, b2, b3, b4, b5, b6, b7, b8⟩, rfl⟩⟩
            clear HE HU
            obtain ⟨i25, k1, k2, k3, k4⟩ := info_parts Tryz.info25
            have hoY : (wr).ownsRow w.heap.size 25 5 (.slice o k oc) k (pcells qs) := own_kept HQ.out.2.1 HKY.out (fun x hx _ => ⟨by have := (own_lt HQ.out.2.1 x hx).1; omega, (own_lt HQ.out.2.1 x hx).2⟩)
            have hsY : w.heap.size ≤ (wr).heap.size := Nat.le_trans hsV HKY.out.size
            have HoY : Hid _ := hoY
            clear hoY
            go_wp2_with (at_builtin; refine wpList_append_lies _ rfl _ _ 31 rfl w.heap.size 25 i25 _ 5 80 Tryz.underlying31 k1 k2 k3 k4 rfl (by decide) (.slice o k oc) _ (pcells qs) rfl (World.ownsRow.alloc HoY.out _) ⟨(wr).heap.size, 0, none⟩ 1 1 (Vc.vals ⟨(k : Int) + 1, q, t, some ⟨g, 0, none⟩, 1, c, eo, j, ec⟩) rfl rfl ?c1 ?c2 (by decide) ?c3 ?c4 ?c5 ((wr).heap.size + 1) (by simp) ?_)
            case c1 =>
              intro j u hj
              match j, hj with
              | 0, hj => simp [Vc.vals] at hj; subst hj; simp [Addr.add]
              | 1, hj => simp [Vc.vals] at hj; subst hj; simp [Addr.add]
              | 2, hj => simp [Vc.vals] at hj; subst hj; simp [Addr.add]
              | 3, hj => simp [Vc.vals] at hj; subst hj; simp [Addr.add]
              | 4, hj => simp [Vc.vals] at hj; subst hj; simp [Addr.add]
            case c2 => intro u hu; simp [Vc.vals] at hu; rcases hu with rfl | rfl | rfl | rfl | rfl <;> rfl
            case c3 => unfold maxLen; omega
            case c4 => omega
            case c5 => simp; omega
            intro g' cap' w9 hown9 hgrow hat hlt9
            have HF : Hid (Rw w w9 j (k + 1) (some ⟨g', 0, none⟩) cap' (qs ++ [(⟨(k : Int) + 1, q, t, some ⟨g, 0, none⟩, 1, c, eo, j, ec⟩, ⟨(k : Int) + 1, q, t, [⟨it, L, R, N'⟩], eps⟩)])) := (outer_step (m1 := w6.heap.size) hlt HWt.out HQ.out HKY.out hpx HLV.out.1 (by omega) (by omega) HLV.out.2.1 HLV.out.2.2.1 HLV.out.2.2.2 hown9 hgrow hat).1
            have HG : Went pb w w9 := (outer_step (m1 := w6.heap.size) hlt HWt.out HQ.out HKY.out hpx HLV.out.1 (by omega) (by omega) HLV.out.2.1 HLV.out.2.2.1 HLV.out.2.2.2 hown9 hgrow hat).2
            clear hown9 hgrow hat HLV HKY HQ HWt HoY
            go_wp2
            go_roundw
            case rel => exact ⟨k + 1, some ⟨g', 0, none⟩, cap', _, by omega, by go_num, rfl, HF, HG⟩
            case measure => simp [intOf]; omega
    · have hg1 : decide ((k : Int) + 1 ≤ (n : Int)) = false := decide_eq_false (by omega)
      have e : k = n := by omega
      subst e
      have HWt2 := HWt.out
      clear hwent HWt
      go_wp2
      go_ret
      obtain ⟨h1, h2, h3, h4, h5⟩ := HQ.out
      exact ⟨o, oc, qs, rfl, h1, h2, h3, h4, h5, HWt2⟩

end Go.Proofs.YtdeojcodbojmoaaGreatDoor
