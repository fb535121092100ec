/- ViewForms: which views may be. -/
import Derived.Test.YtdeojcodbojmoaaGreatDoorFrq
namespace Go.Proofs.YtdeojcodbojmoaaGreatDoor
open Go.RowKit
set_option maxRecDepth 100000
set_option linter.unusedVariables false

set_option maxHeartbeats 8000000 in
theorem forms5 (w : World) (hv : Vars w) : Calls Tryz.prog 5 #[] w fun r w' => r = .returned (.bool true) ∧ Below w.heap.size w w' := by
  have h2 := hv.lt
  obtain ⟨a, ha⟩ := hv.seen
  obtain ⟨i4, k1, k2, k3, k4⟩ := info_parts Tryz.info45
  have cb := begun8 a w ha
  go_enter Tryz.func5, Tryz.ntmps5
  go_wp2_with fail
  refine cb.mono ?_
  rintro r w1 ⟨rfl, hb1⟩
  clear cb ha
  go_wp2_with (at_builtin; refine wpList_append_grows _ rfl _ _ 22 rfl 45 i4 _ 4 32 Tryz.underlying22 k1 k2 k3 k4 rfl (by decide) (some ⟨w1.heap.size, 0, none⟩) 1 1 (hcells [h0]) rfl (fun h => by cases h) rfl (fun b hb => by cases hb; exact w1_h w1) ⟨w1.heap.size, 0, none⟩ 1 1 (hcells [h0]) rfl rfl (w1_h w1) (hcells_one _) (by decide) (by decide) (by decide) ?_)
  intro v' w2 hown hgr
  obtain ⟨g, cap, rfl, hg1, hg2⟩ := hown.form (by decide)
  have hS := forms_start w w1 w2 hv hb1 g cap hg1 hg2 hown hgr
  have HS : Hid (RG w (some ⟨w1.heap.size + 1 + 1 + 1, 0, none⟩) (some ⟨w2.heap.size + 1, 0, none⟩) ((w2.alloc (.cells #[.int .i64 0, .int .i64 0] 3)).alloc (.cells (pcells (psB w1.heap.size g cap w2.heap.size)).toArray 25))) := hS
  clear hS hown hgr hg1 hg2 k1 k2 k3 k4
  go_wp2_with fail
  go_loopw [4] (fun i wr => ∃ k : Nat, k ≤ 3 ∧ i = .int .i64 k ∧ RG w (some ⟨w1.heap.size + 1 + 1 + 1, 0, none⟩) (some ⟨w2.heap.size + 1, 0, none⟩) wr) (fun i _ => 3 - (intOf i).toNat)
  case atStart => exact ⟨0, by omega, rfl, HS.out⟩
  case round =>
    obtain ⟨k, hk, rfl, hR⟩ := hrel
    by_cases hlt : k < 3
    · obtain ⟨b, off, c, e, hb, lv, u0, u1, u2, u3, u4⟩ := hR.good.at k hlt
      cases e
      simp only [Nat.zero_add] at u0 u1 u2 u3 u4
      have cm := may12 _ c goods[k] 2 wr hR.vars lv
      rw [good_may k hlt] at cm
      have HR : Hid _ := hR
      clear hR lv HS
      go_wp2_with fail
      refine cm.mono ?_
      rintro r w3 ⟨rfl, hb3⟩
      have HR3 : Hid (RG w (some ⟨w1.heap.size + 1 + 1 + 1, 0, none⟩) (some ⟨w2.heap.size + 1, 0, none⟩) w3) := HR.out.below hb3
      clear cm hb3 HR u0 u1 u2 u3 u4
      go_wp2
      go_roundw
      case rel => exact ⟨k + 1, by omega, by go_num, HR3.out⟩
      case measure => simp [intOf]; omega
    · have HR : Hid _ := hR
      clear hR HS
      go_wp2_with fail
      go_loopw [5] (fun i wr => ∃ k : Nat, k ≤ 14 ∧ i = .int .i64 k ∧ RG w (some ⟨w1.heap.size + 1 + 1 + 1, 0, none⟩) (some ⟨w2.heap.size + 1, 0, none⟩) wr) (fun i _ => 14 - (intOf i).toNat)
      case atStart => exact ⟨0, by omega, rfl, HR.out⟩
      case round =>
        obtain ⟨k, hk, rfl, hR⟩ := hrel
        by_cases hlt : k < 14
        · obtain ⟨b, off, c, e, hb, lv, u0, u1, u2, u3, u4⟩ := hR.bad.at k hlt
          cases e
          simp only [Nat.zero_add] at u0 u1 u2 u3 u4
          have cm := may12 _ c bads[k] 2 _ hR.vars lv
          rw [bad_may k hlt] at cm
          have HR2 : Hid _ := hR
          clear hR lv HR
          go_wp2_with fail
          refine cm.mono ?_
          rintro r w3 ⟨rfl, hb3⟩
          have HR3 : Hid (RG w (some ⟨w1.heap.size + 1 + 1 + 1, 0, none⟩) (some ⟨w2.heap.size + 1, 0, none⟩) w3) := HR2.out.below hb3
          clear cm hb3 HR2 u0 u1 u2 u3 u4
          go_wp2
          go_roundw
          case rel => exact ⟨k + 1, by omega, by go_num, HR3.out⟩
          case measure => simp [intOf]; omega
        · have HR2 : Hid _ := hR
          clear hR HR
          go_wp2_with fail
          refine (epochs_nil _).mono ?_
          rintro r w4 ⟨⟨ea, rfl⟩, hb4⟩
          go_wp2
          go_ret
          exact ⟨rfl, HR2.out.bel.trans (hb4.mono HR2.out.bel.size)⟩

end Go.Proofs.YtdeojcodbojmoaaGreatDoor
