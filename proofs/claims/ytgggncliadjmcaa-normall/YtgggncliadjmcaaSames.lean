/- cardamomref4.SameBoxes of what is the same. -/
import Derived.Test.YtgggncliadjmcaaSame
namespace Go.Proofs.Ytgggncliadjmcaa
open Go.RowKit
set_option linter.unusedVariables false

set_option maxRecDepth 100000 in
set_option maxHeartbeats 4000000 in
/-- cardamomref4.SameBoxes of what is the same. -/
theorem sames14 (l : List Ev.Bx) (v v' : Value) (A B : Nat) (w : World) (hl : l.length ≤ 10000) (ok : ∀ x ∈ l, x.nots.length ≤ 1000) (ra : RowB A w v l) (rb : RowB B w v' l) :
    Calls Try.prog 14 #[v, v'] w fun e w' => e = .returned (.bool true) ∧ Below w.heap.size w w' := by
  obtain ⟨a1, z1, rfl⟩ := ra.slice
  obtain ⟨a2, z2, rfl⟩ := rb.slice
  have HRR : Hid (RowB A w (.slice a1 l.length z1) l ∧ RowB B w (.slice a2 l.length z2) l) := ⟨ra, rb⟩
  clear ra rb
  go_enter Try.func14, Try.ntmps14
  go_wp2_with fail
  go_loopg [5] l.length (fun gg ii wr => ∃ i : Nat, i ≤ l.length ∧ gg = l.length - i ∧ ii = .int .i64 i ∧ Below w.heap.size w wr)
  case atStart => exact ⟨0, by omega, rfl, rfl, Below.refl _ _⟩
  case round =>
    obtain ⟨i, hi, hgi, rfl, hbr⟩ := hrel
    have HGI : Hid (gk = l.length - i) := hgi
    clear hgi
    by_cases hlt : i < l.length
    · have hii : (i : Int) < (l.length : Int) := by omega
      obtain ⟨g1, xo, xc, rfl, _, hg1, nx, hc1⟩ := (HRR.out.1.below hbr).at i hlt
      obtain ⟨g2, yo, yc, rfl, _, hg2, ny, hc2⟩ := (HRR.out.2.below hbr).at i hlt
      have ox := ok _ (List.getElem_mem hlt)
      obtain ⟨x, hx⟩ : ∃ x, x = l[i] := ⟨_, rfl⟩
      rw [← hx] at nx hc1 ox ny hc2
      clear hx
      have q0 : wr.cell? ⟨g1, i * 14, none⟩ = some (.int .i64 (x.s 0).how) := hc1 0 _ rfl
      have q1 : wr.cell? ⟨g1, i * 14 + 1, none⟩ = some (.int .i64 (x.s 0).lo) := hc1 1 _ rfl
      have q2 : wr.cell? ⟨g1, i * 14 + 2, none⟩ = some (.int .i64 (x.s 0).hi) := hc1 2 _ rfl
      have q3 : wr.cell? ⟨g1, i * 14 + 3, none⟩ = some (.int .i64 (x.s 1).how) := hc1 3 _ rfl
      have q4 : wr.cell? ⟨g1, i * 14 + 4, none⟩ = some (.int .i64 (x.s 1).lo) := hc1 4 _ rfl
      have q5 : wr.cell? ⟨g1, i * 14 + 5, none⟩ = some (.int .i64 (x.s 1).hi) := hc1 5 _ rfl
      have q6 : wr.cell? ⟨g1, i * 14 + 6, none⟩ = some (.int .i64 (x.s 2).how) := hc1 6 _ rfl
      have q7 : wr.cell? ⟨g1, i * 14 + 7, none⟩ = some (.int .i64 (x.s 2).lo) := hc1 7 _ rfl
      have q8 : wr.cell? ⟨g1, i * 14 + 8, none⟩ = some (.int .i64 (x.s 2).hi) := hc1 8 _ rfl
      have q9 : wr.cell? ⟨g1, i * 14 + 9, none⟩ = some (.int .i64 (x.s 3).how) := hc1 9 _ rfl
      have q10 : wr.cell? ⟨g1, i * 14 + 10, none⟩ = some (.int .i64 (x.s 3).lo) := hc1 10 _ rfl
      have q11 : wr.cell? ⟨g1, i * 14 + 11, none⟩ = some (.int .i64 (x.s 3).hi) := hc1 11 _ rfl
      have q12 : wr.cell? ⟨g1, i * 14 + 12, none⟩ = some (.string x.tag) := hc1 12 _ rfl
      have q13 : wr.cell? ⟨g1, i * 14 + 13, none⟩ = some (.slice xo x.nots.length xc) := hc1 13 _ rfl
      have s0 : wr.cell? ⟨g2, i * 14, none⟩ = some (.int .i64 (x.s 0).how) := hc2 0 _ rfl
      have s1 : wr.cell? ⟨g2, i * 14 + 1, none⟩ = some (.int .i64 (x.s 0).lo) := hc2 1 _ rfl
      have s2 : wr.cell? ⟨g2, i * 14 + 2, none⟩ = some (.int .i64 (x.s 0).hi) := hc2 2 _ rfl
      have s3 : wr.cell? ⟨g2, i * 14 + 3, none⟩ = some (.int .i64 (x.s 1).how) := hc2 3 _ rfl
      have s4 : wr.cell? ⟨g2, i * 14 + 4, none⟩ = some (.int .i64 (x.s 1).lo) := hc2 4 _ rfl
      have s5 : wr.cell? ⟨g2, i * 14 + 5, none⟩ = some (.int .i64 (x.s 1).hi) := hc2 5 _ rfl
      have s6 : wr.cell? ⟨g2, i * 14 + 6, none⟩ = some (.int .i64 (x.s 2).how) := hc2 6 _ rfl
      have s7 : wr.cell? ⟨g2, i * 14 + 7, none⟩ = some (.int .i64 (x.s 2).lo) := hc2 7 _ rfl
      have s8 : wr.cell? ⟨g2, i * 14 + 8, none⟩ = some (.int .i64 (x.s 2).hi) := hc2 8 _ rfl
      have s9 : wr.cell? ⟨g2, i * 14 + 9, none⟩ = some (.int .i64 (x.s 3).how) := hc2 9 _ rfl
      have s10 : wr.cell? ⟨g2, i * 14 + 10, none⟩ = some (.int .i64 (x.s 3).lo) := hc2 10 _ rfl
      have s11 : wr.cell? ⟨g2, i * 14 + 11, none⟩ = some (.int .i64 (x.s 3).hi) := hc2 11 _ rfl
      have s12 : wr.cell? ⟨g2, i * 14 + 12, none⟩ = some (.string x.tag) := hc2 12 _ rfl
      have s13 : wr.cell? ⟨g2, i * 14 + 13, none⟩ = some (.slice yo x.nots.length yc) := hc2 13 _ rfl
      clear hc1 hc2
      have cm := fun w' (hb : Below wr.heap.size wr w') => same21 x xo yo xc yc _ _ w' ox (nx.below hb) (ny.below hb)
      unfold Bval at cm
      have hbD : Below wr.heap.size wr wr.drew := (Below.refl _ _).drew
      have HI : Hid (Below w.heap.size w wr ∧ Below wr.heap.size wr wr.drew) := ⟨hbr, hbD⟩
      clear nx ny ox hbr hbD
      go_wp2_with fail
      go_region_held3 (fun w' => w'.cell? ⟨g1, i * 14, none⟩ = some (.int .i64 (x.s 0).how) ∧ w'.cell? ⟨g1, i * 14 + 1, none⟩ = some (.int .i64 (x.s 0).lo) ∧ w'.cell? ⟨g1, i * 14 + 2, none⟩ = some (.int .i64 (x.s 0).hi) ∧ w'.cell? ⟨g1, i * 14 + 3, none⟩ = some (.int .i64 (x.s 1).how) ∧ w'.cell? ⟨g1, i * 14 + 4, none⟩ = some (.int .i64 (x.s 1).lo) ∧ w'.cell? ⟨g1, i * 14 + 5, none⟩ = some (.int .i64 (x.s 1).hi) ∧ w'.cell? ⟨g1, i * 14 + 6, none⟩ = some (.int .i64 (x.s 2).how) ∧ w'.cell? ⟨g1, i * 14 + 7, none⟩ = some (.int .i64 (x.s 2).lo) ∧ w'.cell? ⟨g1, i * 14 + 8, none⟩ = some (.int .i64 (x.s 2).hi) ∧ w'.cell? ⟨g1, i * 14 + 9, none⟩ = some (.int .i64 (x.s 3).how) ∧ w'.cell? ⟨g1, i * 14 + 10, none⟩ = some (.int .i64 (x.s 3).lo) ∧ w'.cell? ⟨g1, i * 14 + 11, none⟩ = some (.int .i64 (x.s 3).hi) ∧ w'.cell? ⟨g1, i * 14 + 12, none⟩ = some (.string x.tag) ∧ w'.cell? ⟨g1, i * 14 + 13, none⟩ = some (.slice xo x.nots.length xc) ∧ w'.cell? ⟨g2, i * 14, none⟩ = some (.int .i64 (x.s 0).how) ∧ w'.cell? ⟨g2, i * 14 + 1, none⟩ = some (.int .i64 (x.s 0).lo) ∧ w'.cell? ⟨g2, i * 14 + 2, none⟩ = some (.int .i64 (x.s 0).hi) ∧ w'.cell? ⟨g2, i * 14 + 3, none⟩ = some (.int .i64 (x.s 1).how) ∧ w'.cell? ⟨g2, i * 14 + 4, none⟩ = some (.int .i64 (x.s 1).lo) ∧ w'.cell? ⟨g2, i * 14 + 5, none⟩ = some (.int .i64 (x.s 1).hi) ∧ w'.cell? ⟨g2, i * 14 + 6, none⟩ = some (.int .i64 (x.s 2).how) ∧ w'.cell? ⟨g2, i * 14 + 7, none⟩ = some (.int .i64 (x.s 2).lo) ∧ w'.cell? ⟨g2, i * 14 + 8, none⟩ = some (.int .i64 (x.s 2).hi) ∧ w'.cell? ⟨g2, i * 14 + 9, none⟩ = some (.int .i64 (x.s 3).how) ∧ w'.cell? ⟨g2, i * 14 + 10, none⟩ = some (.int .i64 (x.s 3).lo) ∧ w'.cell? ⟨g2, i * 14 + 11, none⟩ = some (.int .i64 (x.s 3).hi) ∧ w'.cell? ⟨g2, i * 14 + 12, none⟩ = some (.string x.tag) ∧ w'.cell? ⟨g2, i * 14 + 13, none⟩ = some (.slice yo x.nots.length yc))
        (go_keep)
        (first
          | (go_at_call 21; refine (cm wr.drew HI.out.2).mono ?_; rintro e w3 ⟨rfl, hb3⟩; obtain ⟨hcl, hfl, z1'⟩ := callee_old hb3))
      all_goals
        have hbx : Below w.heap.size w w3 := HI.out.1.trans ((HI.out.2.trans (hb3.mono (by exact Nat.le_refl _))).mono HI.out.1.size)
        have HB : Hid (Below w.heap.size w w3) := hbx
        clear hcl hfl z1' hbx hb3 cm HI q0 q1 q2 q3 q4 q5 q6 q7 q8 q9 q10 q11 q12 q13 s0 s1 s2 s3 s4 s5 s6 s7 s8 s9 s10 s11 s12 s13
        go_wp2
        go_roundg (l.length - (i + 1))
        case measure => have := HGI.out; omega
        case rel => exact ⟨i + 1, by omega, rfl, by go_num, ⟨HB.out.os, HB.out.tape, HB.out.output, HB.out.size, HB.out.block⟩⟩
    · obtain rfl : i = l.length := by omega
      have HB : Hid (Below w.heap.size w wr) := hbr
      clear hbr
      go_wp2
      go_ret
      exact ⟨rfl, HB.out⟩

end Go.Proofs.Ytgggncliadjmcaa
