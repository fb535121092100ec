/- Two rows of views that are alike. -/
import Derived.Test.YtdeojcodbojmoaaGreatDoorSam
import Derived.Test.YtdeojcodbojmoaaGreatDoorAdd
import Derived.Deep.RegionHeld3
namespace Go.Proofs.YtdeojcodbojmoaaGreatDoor
open Go.RowKit
set_option maxRecDepth 100000
set_option linter.unusedVariables false

theorem callee_old {w w' : World} (h : Below w.drew.heap.size w.drew w') :
    (∀ b o, b < w.heap.size → w'.cell? ⟨b, o, none⟩ = w.cell? ⟨b, o, none⟩) ∧ (∀ b o, b < w.heap.size → w'.frozen? ⟨b, o, none⟩ = w.frozen? ⟨b, o, none⟩) ∧ w.heap.size ≤ w'.heap.size :=
  ⟨fun b o hb => h.cell (p := ⟨b, o, none⟩) hb, fun b o hb => h.frozen (p := ⟨b, o, none⟩) hb, h.size⟩

theorem snd_at {ps qs : List (Vc × Vw)} (h : ps.map (·.2) = qs.map (·.2)) (k : Nat) (h1 : k < ps.length) (h2 : k < qs.length) : (ps[k]).2 = (qs[k]).2 := by
  have e : (ps.map (·.2))[k]? = (qs.map (·.2))[k]? := by rw [h]
  simpa [h1, h2] using e

set_option maxHeartbeats 2000000 in
theorem sameviews16 (w : World) (P1 P2 : Nat → Prop) (a1 a2 : Option Addr) (n1 c1 n2 c2 : Nat) (ps qs : List (Vc × Vw)) (e1 : n1 = ps.length) (e2 : n2 = qs.length) (h : ps.map (·.2) = qs.map (·.2)) (r1 : Rdz P1 w 5 a1 n1 (pcells ps)) (r2 : Rdz P2 w 5 a2 n2 (pcells qs)) (l1 : Lvs P1 w ps) (l2 : Lvs P2 w qs) :
    Calls Tryz.prog 16 #[.slice a1 n1 c1, .slice a2 n2 c2] w fun e w' => e = .returned (.bool true) ∧ Below w.heap.size w w' := by
  have hl : n1 = n2 := by have := congrArg List.length h; simp at this; omega
  subst hl
  have hl1 := r1.2.1
  have HE : Hid (n1 = ps.length ∧ n1 = qs.length) := ⟨e1, e2⟩
  clear e1 e2
  go_enter Tryz.func16, Tryz.ntmps16
  go_wp2
  go_loopw [5] (fun i wr => ∃ k : Nat, k ≤ n1 ∧ i = .int .i64 k ∧ Below w.heap.size w wr) (fun i _ => n1 - (intOf i).toNat)
  case atStart => exact ⟨0, Nat.zero_le _, rfl, Below.refl _ _⟩
  case round =>
    obtain ⟨k, hk, rfl, hbel⟩ := hrel
    by_cases hlt : k < n1
    · have k1 : k < ps.length := by rw [← HE.out.1]; exact hlt
      have k2 : k < qs.length := by rw [← HE.out.2]; exact hlt
      obtain ⟨b1, o1, rfl, _, hb1, hc1⟩ := r1.2.2 (by omega)
      obtain ⟨b2, o2, rfl, _, hb2, hc2⟩ := r2.2.2 (by omega)
      obtain ⟨f0, f1, f2, f3, f4⟩ := view_at (P := Any) (w := wr) (b := b1) (off := o1) (ps := ps) (fun j u hu => (hbel.cell (p := ⟨b1, o1 + j, none⟩) hb1).trans (hc1 j u hu)) k k1
      obtain ⟨g0, g1, g2, g3, g4⟩ := view_at (P := Any) (w := wr) (b := b2) (off := o2) (ps := qs) (fun j u hu => (hbel.cell (p := ⟨b2, o2 + j, none⟩) hb2).trans (hc2 j u hu)) k k2
      have hbd : Below wr.heap.size wr wr.drew := (Below.refl _ wr).drew
      have lx := ((l1 _ (List.getElem_mem k1)).below hbel).below hbd
      have ly := ((l2 _ (List.getElem_mem k2)).below hbel).below hbd
      have c := same15 P1 P2 _ _ _ _ _ lx ly
      rw [snd_at h k k1 k2, sv_self] at c
      have hb1' : b1 < wr.heap.size := Nat.lt_of_lt_of_le hb1 hbel.size
      have hb2' : b2 < wr.heap.size := Nat.lt_of_lt_of_le hb2 hbel.size
      have HB : Hid (Below w.heap.size w wr) := hbel
      clear lx ly hbd hc1 hc2 hbel
      generalize (ps[k]).1 = x at *
      generalize (qs[k]).1 = y at *
      go_wp2_with fail
      go_region_held3 (fun w' => w'.cell? ⟨b1, o1 + k * 5, none⟩ = some (.int .i64 x.R) ∧ w'.cell? ⟨b1, o1 + k * 5 + 1, none⟩ = some (.int .i64 x.Rev) ∧ w'.cell? ⟨b1, o1 + k * 5 + 2, none⟩ = some (.string x.f) ∧ w'.cell? ⟨b1, o1 + k * 5 + 3, none⟩ = some (.slice x.sa x.sn x.sc) ∧ w'.cell? ⟨b1, o1 + k * 5 + 4, none⟩ = some (.slice x.ea x.en x.ec) ∧ w'.cell? ⟨b2, o2 + k * 5, none⟩ = some (.int .i64 y.R) ∧ w'.cell? ⟨b2, o2 + k * 5 + 1, none⟩ = some (.int .i64 y.Rev) ∧ w'.cell? ⟨b2, o2 + k * 5 + 2, none⟩ = some (.string y.f) ∧ w'.cell? ⟨b2, o2 + k * 5 + 3, none⟩ = some (.slice y.sa y.sn y.sc) ∧ w'.cell? ⟨b2, o2 + k * 5 + 4, none⟩ = some (.slice y.ea y.en y.ec))
        (go_keep)
        (first
          | (go_at_call 15; refine c.mono ?_; rintro e w5 ⟨rfl, hb5⟩; obtain ⟨hcl, hfl, z1⟩ := callee_old hb5))
      have hB5 : Below w.heap.size w w5 := HB.out.trans ((Below.trans (b := wr.drew) (Below.refl _ wr).drew hb5).mono HB.out.size)
      clear hcl hfl c hb5
      go_wp2
      go_roundw
      case rel => exact ⟨k + 1, by omega, by go_num, hB5⟩
      case measure => simp [intOf]; omega
    · go_wp2
      go_ret
      exact ⟨rfl, hbel⟩

end Go.Proofs.YtdeojcodbojmoaaGreatDoor
