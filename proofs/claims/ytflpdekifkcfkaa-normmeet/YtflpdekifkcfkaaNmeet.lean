/- NormMeet: what two boxes let through both, and what one does, as the document says. -/
import Derived.Test.YtflpdekifkcfkaaBoxes
import Derived.Test.YtflpdekifkcfkaaLbox
import Derived.Test.YtflpdekifkcfkaaSame
import Derived.Deep.DeepCutAuto
import Derived.Deep.RegionHeld3
import Derived.Deep.RegionWith
namespace Go.Proofs.Ytflpdekifkcfkaa
open Go.RowKit
set_option linter.unusedVariables false

set_option maxHeartbeats 1000000 in
theorem nmeet_long (a0 a1 : Option Addr) (l0 c0 l1 c1 : Nat) (w : World) (h0 : l0 ≤ maxLen) (h1 : l1 ≤ maxLen) (h : 60 < l0 ∨ 40 < l1) :
    Calls Try.prog 4 #[.slice a0 l0 c0, .slice a1 l1 c1] w fun e w' => e = .returned (.bool true) ∧ Below w.heap.size w w' := by
  unfold maxLen at h0 h1
  by_cases h9 : 60 < l0
  · clear h
    go_enter Try.func4, Try.ntmps4
    go_wp2_with fail
    refine (begun9 _).mono ?_
    rintro e w1 ⟨rfl, hb1⟩
    go_wp2
    go_ret
    exact ⟨rfl, hb1⟩
  · have h6 : 40 < l1 := by omega
    clear h
    go_enter Try.func4, Try.ntmps4
    go_wp2_with fail
    refine (begun9 _).mono ?_
    rintro e w1 ⟨rfl, hb1⟩
    go_wp2
    go_ret
    exact ⟨rfl, hb1⟩

set_option maxRecDepth 100000 in
set_option maxHeartbeats 16000000 in
theorem nmeet_short (a0 a1 : Option Addr) (l0 c0 l1 c1 : Nat) (w : World) (h0 : l0 ≤ 60) (h1 : l1 ≤ 40) (r0 : Reads8 w a0 l0) (r1 : Reads8 w a1 l1) :
    Calls Try.prog 4 #[.slice a0 l0 c0, .slice a1 l1 c1] w fun e w' => e = .returned (.bool true) ∧ Below w.heap.size w w' := by
  go_enter Try.func4, Try.ntmps4
  go_wp2_with fail
  refine (begun9 _).mono ?_
  rintro e w1 ⟨rfl, hb1⟩
  replace r0 := reads_below r0 hb1
  replace r1 := reads_below r1 hb1
  go_wp2_with fail
  refine (boxes15 a0 l0 c0 w1 (by omega) r0).mono ?_
  rintro e w2 ⟨vL, L, rfl, rowL, lenL, okL, hb2⟩
  obtain ⟨lo, lc, rfl⟩ := rowL.slice
  replace r1 := reads_below r1 hb2
  have hbw2 : Below w.heap.size w w2 := hb1.trans (hb2.mono hb1.size)
  clear r0 hb1 hb2
  go_wp2_with fail
  refine (made10 _ _ _ _).mono ?_
  rintro e W ⟨rfl, hW⟩
  have hp1 : Pick W w2.heap.size := by rw [hW]; exact pick_made r1 (by omega)
  have hbW : Below w2.heap.size w2 W := by rw [hW]; exact (Below.refl _ _).alloc (Nat.le_refl _) _
  have hsW : w2.heap.size < W.heap.size := by rw [hW]; simp
  clear hW r1
  have HR : Hid (RowB w1.heap.size w2 (.slice lo L.length lc) L ∧ (∀ x ∈ L, x.ok 32) ∧ Below w.heap.size w w2) := ⟨rowL, okL, hbw2⟩
  clear rowL okL hbw2
  go_wp2_with fail
  refine (version12 w2.heap.size W hp1).mono ?_
  rintro e w5 ⟨v, al, rfl, hsm, hhas, hw5⟩
  go_wp2_with fail
  refine (version12 w2.heap.size w5 hw5.1).mono ?_
  rintro e w6 ⟨v', al', rfl, hsm', hhas', hw6⟩
  have hs5 : W.heap.size ≤ w5.heap.size := hw5.2.size
  have hs6 : w5.heap.size ≤ w6.heap.size := hw6.2.size
  have hb6 : Below w2.heap.size w2 w6 := (hbW.trans (hw5.2.below hbW.size (fun k hk => by unfold But; omega))).trans (hw6.2.below (by omega) (fun k hk => by unfold But; omega))
  have hh5 : Has Any w6 v al := (hhas.kept (hw6.from (by omega))).mono (fun _ _ _ => trivial)
  have hh6 : Has Any w6 v' al' := hhas'.mono (fun _ _ _ => trivial)
  clear hp1 hbW hhas hhas' hw5 hw6
  unfold Vs.val
  go_wp2_with fail
  obtain ⟨U, hU⟩ : ∃ U, U = (w6.alloc (.cells #[.int .i64 v.it, .int .i64 v.L, .int .i64 v.R, .int .i64 v.N, .bool v.dead, .slice v.ao v.len v.cap, .string v.tag, .string v.body] 40)).alloc (.cells #[.int .i64 v'.it, .int .i64 v'.L, .int .i64 v'.R, .int .i64 v'.N, .bool v'.dead, .slice v'.ao v'.len v'.cap, .string v'.tag, .string v'.body] 40) := ⟨_, rfl⟩
  rw [← hU]
  have hbU : Below w6.heap.size w6 U := by rw [hU]; exact ((Below.refl _ _).alloc (Nat.le_refl _) _).alloc (by simp) _
  have hsU : w6.heap.size + 1 < U.heap.size := by rw [hU]; simp
  have vc : ∀ i, U.cell? ⟨w6.heap.size, i, none⟩ = (#[.int .i64 v.it, .int .i64 v.L, .int .i64 v.R, .int .i64 v.N, .bool v.dead, .slice v.ao v.len v.cap, .string v.tag, .string v.body] : Array Value)[i]? := fun i => by rw [hU, World.cell?_alloc_past _ _ _ (hn := by simp)]; simp
  have vc' : ∀ i, U.cell? ⟨w6.heap.size + 1, i, none⟩ = (#[.int .i64 v'.it, .int .i64 v'.L, .int .i64 v'.R, .int .i64 v'.N, .bool v'.dead, .slice v'.ao v'.len v'.cap, .string v'.tag, .string v'.body] : Array Value)[i]? := fun i => by rw [hU, World.cell?_alloc_at _ _ _ _ (by simp)]
  have H5 : Hid (Below w2.heap.size w2 U ∧ Has Any U v al ∧ Has Any U v' al' ∧ (∀ i, U.cell? ⟨w6.heap.size, i, none⟩ = (#[.int .i64 v.it, .int .i64 v.L, .int .i64 v.R, .int .i64 v.N, .bool v.dead, .slice v.ao v.len v.cap, .string v.tag, .string v.body] : Array Value)[i]?) ∧ (∀ i, U.cell? ⟨w6.heap.size + 1, i, none⟩ = (#[.int .i64 v'.it, .int .i64 v'.L, .int .i64 v'.R, .int .i64 v'.N, .bool v'.dead, .slice v'.ao v'.len v'.cap, .string v'.tag, .string v'.body] : Array Value)[i]?) ∧ Ev.Small al ∧ Ev.Small al') := ⟨hb6.trans (hbU.mono hb6.size), hh5.below hbU, hh6.below hbU, vc, vc', hsm, hsm'⟩
  clear hU hbU hb6 hh5 hh6 vc vc' hs5 hs6 hsm hsm' hsW
  have hsU0 : w6.heap.size < U.heap.size := by omega
  generalize w6.heap.size + 1 = N' at *
  generalize w6.heap.size = N at *
  clear w6
  go_loopg [9] L.length (fun gg ii wr => ∃ i : Nat, i ≤ L.length ∧ gg = L.length - i ∧ ii = .int .i64 i ∧ Below U.heap.size U wr)
  case atStart => exact ⟨0, by omega, rfl, rfl, Below.refl _ _⟩
  case round =>
    obtain ⟨i, hi, hgi, rfl, hbi⟩ := hrel
    have HGI : Hid (gk = L.length - i) := hgi
    clear hgi
    by_cases hit : i < L.length
    · have hii : (i : Int) < (L.length : Int) := by omega
      have hb2i : Below w2.heap.size w2 wr := H5.out.1.trans (hbi.mono H5.out.1.size)
      obtain ⟨g, xo, xc, rfl, _, hg, nx, hc⟩ := (HR.out.1.below hb2i).at i hit
      have ox := HR.out.2.1 _ (List.getElem_mem hit)
      obtain ⟨x, hx⟩ : ∃ x, x = L[i] := ⟨_, rfl⟩
      rw [← hx] at nx hc ox
      clear hx
      have hsi := hbi.size
      have hNr : N < wr.heap.size := by omega
      have hNr' : N' < wr.heap.size := by omega
      have q0 : wr.cell? ⟨g, i * 14, none⟩ = some (.int .i64 (x.s 0).how) := hc 0 _ rfl
      have q1 : wr.cell? ⟨g, i * 14 + 1, none⟩ = some (.int .i64 (x.s 0).lo) := hc 1 _ rfl
      have q2 : wr.cell? ⟨g, i * 14 + 2, none⟩ = some (.int .i64 (x.s 0).hi) := hc 2 _ rfl
      have q3 : wr.cell? ⟨g, i * 14 + 3, none⟩ = some (.int .i64 (x.s 1).how) := hc 3 _ rfl
      have q4 : wr.cell? ⟨g, i * 14 + 4, none⟩ = some (.int .i64 (x.s 1).lo) := hc 4 _ rfl
      have q5 : wr.cell? ⟨g, i * 14 + 5, none⟩ = some (.int .i64 (x.s 1).hi) := hc 5 _ rfl
      have q6 : wr.cell? ⟨g, i * 14 + 6, none⟩ = some (.int .i64 (x.s 2).how) := hc 6 _ rfl
      have q7 : wr.cell? ⟨g, i * 14 + 7, none⟩ = some (.int .i64 (x.s 2).lo) := hc 7 _ rfl
      have q8 : wr.cell? ⟨g, i * 14 + 8, none⟩ = some (.int .i64 (x.s 2).hi) := hc 8 _ rfl
      have q9 : wr.cell? ⟨g, i * 14 + 9, none⟩ = some (.int .i64 (x.s 3).how) := hc 9 _ rfl
      have q10 : wr.cell? ⟨g, i * 14 + 10, none⟩ = some (.int .i64 (x.s 3).lo) := hc 10 _ rfl
      have q11 : wr.cell? ⟨g, i * 14 + 11, none⟩ = some (.int .i64 (x.s 3).hi) := hc 11 _ rfl
      have q12 : wr.cell? ⟨g, i * 14 + 12, none⟩ = some (.string x.tag) := hc 12 _ rfl
      have q13 : wr.cell? ⟨g, i * 14 + 13, none⟩ = some (.slice xo x.nots.length xc) := hc 13 _ rfl
      have a0 : wr.cell? ⟨N, 0, none⟩ = some (.int .i64 v.it) := (hbi.cell (p := ⟨N, 0, none⟩) hsU0).trans ((H5.out.2.2.2.1 0).trans rfl)
      have a1 : wr.cell? ⟨N, 1, none⟩ = some (.int .i64 v.L) := (hbi.cell (p := ⟨N, 1, none⟩) hsU0).trans ((H5.out.2.2.2.1 1).trans rfl)
      have a2 : wr.cell? ⟨N, 2, none⟩ = some (.int .i64 v.R) := (hbi.cell (p := ⟨N, 2, none⟩) hsU0).trans ((H5.out.2.2.2.1 2).trans rfl)
      have a3 : wr.cell? ⟨N, 3, none⟩ = some (.int .i64 v.N) := (hbi.cell (p := ⟨N, 3, none⟩) hsU0).trans ((H5.out.2.2.2.1 3).trans rfl)
      have a4 : wr.cell? ⟨N, 4, none⟩ = some (.bool v.dead) := (hbi.cell (p := ⟨N, 4, none⟩) hsU0).trans ((H5.out.2.2.2.1 4).trans rfl)
      have a5 : wr.cell? ⟨N, 5, none⟩ = some (.slice v.ao v.len v.cap) := (hbi.cell (p := ⟨N, 5, none⟩) hsU0).trans ((H5.out.2.2.2.1 5).trans rfl)
      have a6 : wr.cell? ⟨N, 6, none⟩ = some (.string v.tag) := (hbi.cell (p := ⟨N, 6, none⟩) hsU0).trans ((H5.out.2.2.2.1 6).trans rfl)
      have a7 : wr.cell? ⟨N, 7, none⟩ = some (.string v.body) := (hbi.cell (p := ⟨N, 7, none⟩) hsU0).trans ((H5.out.2.2.2.1 7).trans rfl)
      have b0 : wr.cell? ⟨N', 0, none⟩ = some (.int .i64 v'.it) := (hbi.cell (p := ⟨N', 0, none⟩) hsU).trans ((H5.out.2.2.2.2.1 0).trans rfl)
      have b1 : wr.cell? ⟨N', 1, none⟩ = some (.int .i64 v'.L) := (hbi.cell (p := ⟨N', 1, none⟩) hsU).trans ((H5.out.2.2.2.2.1 1).trans rfl)
      have b2 : wr.cell? ⟨N', 2, none⟩ = some (.int .i64 v'.R) := (hbi.cell (p := ⟨N', 2, none⟩) hsU).trans ((H5.out.2.2.2.2.1 2).trans rfl)
      have b3 : wr.cell? ⟨N', 3, none⟩ = some (.int .i64 v'.N) := (hbi.cell (p := ⟨N', 3, none⟩) hsU).trans ((H5.out.2.2.2.2.1 3).trans rfl)
      have b4 : wr.cell? ⟨N', 4, none⟩ = some (.bool v'.dead) := (hbi.cell (p := ⟨N', 4, none⟩) hsU).trans ((H5.out.2.2.2.2.1 4).trans rfl)
      have b5 : wr.cell? ⟨N', 5, none⟩ = some (.slice v'.ao v'.len v'.cap) := (hbi.cell (p := ⟨N', 5, none⟩) hsU).trans ((H5.out.2.2.2.2.1 5).trans rfl)
      have b6 : wr.cell? ⟨N', 6, none⟩ = some (.string v'.tag) := (hbi.cell (p := ⟨N', 6, none⟩) hsU).trans ((H5.out.2.2.2.2.1 6).trans rfl)
      have b7 : wr.cell? ⟨N', 7, none⟩ = some (.string v'.body) := (hbi.cell (p := ⟨N', 7, none⟩) hsU).trans ((H5.out.2.2.2.2.1 7).trans rfl)
      have c1 := fun w' (hb : Below wr.heap.size wr w') => lets17 x xo xc 32 v al w' ox (by omega) (nx.below hb).txts ((H5.out.2.1.below hbi).below hb)
      have c2 := fun w' (hb : Below wr.heap.size wr w') => lbox18 x xo xc 32 v al w' H5.out.2.2.2.2.2.1 ox (by omega) (nx.below hb).txts ((H5.out.2.1.below hbi).below hb)
      have c3 := fun w' (hb : Below wr.heap.size wr w') => lets17 x xo xc 32 v' al' w' ox (by omega) (nx.below hb).txts ((H5.out.2.2.1.below hbi).below hb)
      have c4 := fun w' (hb : Below wr.heap.size wr w') => lbox18 x xo xc 32 v' al' w' H5.out.2.2.2.2.2.2 ox (by omega) (nx.below hb).txts ((H5.out.2.2.1.below hbi).below hb)
      unfold Bval Vs.val at c1 c2 c3 c4
      generalize x.lets al v.tag = rv at *
      generalize x.lets al' v'.tag = rw' at *
      have HBI : Hid (Below U.heap.size U wr) := hbi
      have HX : Hid (Nt w1.heap.size wr xo xc x.nots ∧ x.ok 32 ∧ (∀ i' u, (bcells (x, xo, xc))[i']? = some u → wr.cell? ⟨g, i * 14 + i', none⟩ = some u)) := ⟨nx, ox, hc⟩
      clear hbi hb2i nx ox hc
      have hbD : Below wr.heap.size wr wr.drew := (Below.refl _ wr).drew
      go_wp2_with fail
      go_cut [66] (fun s66 wx => s66 = .bool false ∧ Below wr.heap.size wr wx)
      case first =>
        · go_region_held3 (fun w' => w'.cell? ⟨g, i * 14, none⟩ = some (.int .i64 (x.s 0).how) ∧ w'.cell? ⟨g, i * 14 + 1, none⟩ = some (.int .i64 (x.s 0).lo) ∧ w'.cell? ⟨g, i * 14 + 2, none⟩ = some (.int .i64 (x.s 0).hi) ∧ w'.cell? ⟨g, i * 14 + 3, none⟩ = some (.int .i64 (x.s 1).how) ∧ w'.cell? ⟨g, i * 14 + 4, none⟩ = some (.int .i64 (x.s 1).lo) ∧ w'.cell? ⟨g, i * 14 + 5, none⟩ = some (.int .i64 (x.s 1).hi) ∧ w'.cell? ⟨g, i * 14 + 6, none⟩ = some (.int .i64 (x.s 2).how) ∧ w'.cell? ⟨g, i * 14 + 7, none⟩ = some (.int .i64 (x.s 2).lo) ∧ w'.cell? ⟨g, i * 14 + 8, none⟩ = some (.int .i64 (x.s 2).hi) ∧ w'.cell? ⟨g, i * 14 + 9, none⟩ = some (.int .i64 (x.s 3).how) ∧ w'.cell? ⟨g, i * 14 + 10, none⟩ = some (.int .i64 (x.s 3).lo) ∧ w'.cell? ⟨g, i * 14 + 11, none⟩ = some (.int .i64 (x.s 3).hi) ∧ w'.cell? ⟨g, i * 14 + 12, none⟩ = some (.string x.tag) ∧ w'.cell? ⟨g, i * 14 + 13, none⟩ = some (.slice xo x.nots.length xc) ∧ w'.cell? ⟨N, 0, none⟩ = some (.int .i64 v.it) ∧ w'.cell? ⟨N, 1, none⟩ = some (.int .i64 v.L) ∧ w'.cell? ⟨N, 2, none⟩ = some (.int .i64 v.R) ∧ w'.cell? ⟨N, 3, none⟩ = some (.int .i64 v.N) ∧ w'.cell? ⟨N, 4, none⟩ = some (.bool v.dead) ∧ w'.cell? ⟨N, 5, none⟩ = some (.slice v.ao v.len v.cap) ∧ w'.cell? ⟨N, 6, none⟩ = some (.string v.tag) ∧ w'.cell? ⟨N, 7, none⟩ = some (.string v.body) ∧ w'.cell? ⟨N', 0, none⟩ = some (.int .i64 v'.it) ∧ w'.cell? ⟨N', 1, none⟩ = some (.int .i64 v'.L) ∧ w'.cell? ⟨N', 2, none⟩ = some (.int .i64 v'.R) ∧ w'.cell? ⟨N', 3, none⟩ = some (.int .i64 v'.N) ∧ w'.cell? ⟨N', 4, none⟩ = some (.bool v'.dead) ∧ w'.cell? ⟨N', 5, none⟩ = some (.slice v'.ao v'.len v'.cap) ∧ w'.cell? ⟨N', 6, none⟩ = some (.string v'.tag) ∧ w'.cell? ⟨N', 7, none⟩ = some (.string v'.body))
            (go_keep)
            (first
              | (go_at_call_of 17 (v.it); refine (c1 wr.drew hbD).mono ?_; rintro e y1 ⟨rfl, hy1⟩; obtain ⟨hcl, hfl, zz1⟩ := callee_old hy1; have hbY1 := hbD.trans (hy1.mono (Nat.le_refl _)); have g1 := Nat.lt_of_lt_of_le hg zz1; have n1 := Nat.lt_of_lt_of_le hNr zz1; have n1' := Nat.lt_of_lt_of_le hNr' zz1)
              | (go_at_call_of 18 (v.it); refine (c2 y1 hbY1).mono ?_; rintro e y2 ⟨rfl, hy2⟩; have hcl2 := fun b o (h : b < y1.heap.size) => hy2.cell (p := ⟨b, o, none⟩) h; have zz2 := hy2.size; have hbY2 := hbY1.trans (hy2.mono zz1); have g2 := Nat.lt_of_lt_of_le g1 zz2; have n2 := Nat.lt_of_lt_of_le n1 zz2; have n2' := Nat.lt_of_lt_of_le n1' zz2)
              | (go_at_call_of 17 (v'.it); refine (c3 y2 hbY2).mono ?_; rintro e y3 ⟨rfl, hy3⟩; have hcl3 := fun b o (h : b < y2.heap.size) => hy3.cell (p := ⟨b, o, none⟩) h; have zz3 := hy3.size; have hbY3 := hbY2.trans (hy3.mono hbY2.size); have g3 := Nat.lt_of_lt_of_le g2 zz3; have n3 := Nat.lt_of_lt_of_le n2 zz3; have n3' := Nat.lt_of_lt_of_le n2' zz3)
              | (go_at_call_of 18 (v'.it); refine (c4 y3 hbY3).mono ?_; rintro e y4 ⟨rfl, hy4⟩; have hcl4 := fun b o (h : b < y3.heap.size) => hy4.cell (p := ⟨b, o, none⟩) h))
          go_wp2_with fail
          go_meet
          exact ⟨by simp, hbY3.trans (hy4.mono hbY3.size)⟩
      case rest =>
        obtain ⟨rfl, hbc⟩ := hcut
        clear c1 c2 c3 c4 q0 q1 q2 q3 q4 q5 q6 q7 q8 q9 q10 q11 q12 q13 a0 a1 a2 a3 a4 a5 a6 a7 b0 b1 b2 b3 b4 b5 b6 b7
        have hbUc : Below U.heap.size U wc := HBI.out.trans (hbc.mono HBI.out.size)
        have HC : Hid (Below wr.heap.size wr wc ∧ Below U.heap.size U wc) := ⟨hbc, hbUc⟩
        clear hbc hbUc
        obtain ⟨V, hV⟩ : ∃ V, V = wr := ⟨_, rfl⟩
        subst hV
        go_wp2_with fail
        go_loopg [10] L.length (fun gg ii wr => ∃ k : Nat, k ≤ L.length ∧ gg = L.length - k ∧ ii = .int .i64 k ∧ Below V.heap.size V wr)
        case atStart => exact ⟨0, by omega, rfl, rfl, HC.out.1⟩
        case round =>
          clear HC
          obtain ⟨k, hk, hgk, rfl, hbk⟩ := hrel
          have HGK : Hid (gk = L.length - k) := hgk
          clear hgk
          by_cases hkt : k < L.length
          · have hki : (k : Int) < (L.length : Int) := by omega
            have hsk := hbk.size
            have hb2k : Below w2.heap.size w2 wr := (H5.out.1.trans (HBI.out.mono H5.out.1.size)).trans (hbk.mono (by have := H5.out.1.size; have := HBI.out.size; omega))
            obtain ⟨g2, yo, yc, e2, _, hg2, ny, hc2⟩ := (HR.out.1.below hb2k).at k hkt
            obtain rfl : g = g2 := by simpa using e2
            clear e2 hg2
            have oy := HR.out.2.1 _ (List.getElem_mem hkt)
            obtain ⟨y, hy⟩ : ∃ y, y = L[k] := ⟨_, rfl⟩
            rw [← hy] at ny hc2 oy
            clear hy
            have nx := HX.out.1.below hbk
            have hgk1 : g < wr.heap.size := by omega
            have n1' : wr.heap.size ≠ g := by omega
            have q0 : wr.cell? ⟨g, i * 14, none⟩ = some (.int .i64 (x.s 0).how) := (hbk.cell (p := ⟨g, i * 14, none⟩) hg).trans (HX.out.2.2 0 _ rfl)
            have q1 : wr.cell? ⟨g, i * 14 + 1, none⟩ = some (.int .i64 (x.s 0).lo) := (hbk.cell (p := ⟨g, i * 14 + 1, none⟩) hg).trans (HX.out.2.2 1 _ rfl)
            have q2 : wr.cell? ⟨g, i * 14 + 2, none⟩ = some (.int .i64 (x.s 0).hi) := (hbk.cell (p := ⟨g, i * 14 + 2, none⟩) hg).trans (HX.out.2.2 2 _ rfl)
            have q3 : wr.cell? ⟨g, i * 14 + 3, none⟩ = some (.int .i64 (x.s 1).how) := (hbk.cell (p := ⟨g, i * 14 + 3, none⟩) hg).trans (HX.out.2.2 3 _ rfl)
            have q4 : wr.cell? ⟨g, i * 14 + 4, none⟩ = some (.int .i64 (x.s 1).lo) := (hbk.cell (p := ⟨g, i * 14 + 4, none⟩) hg).trans (HX.out.2.2 4 _ rfl)
            have q5 : wr.cell? ⟨g, i * 14 + 5, none⟩ = some (.int .i64 (x.s 1).hi) := (hbk.cell (p := ⟨g, i * 14 + 5, none⟩) hg).trans (HX.out.2.2 5 _ rfl)
            have q6 : wr.cell? ⟨g, i * 14 + 6, none⟩ = some (.int .i64 (x.s 2).how) := (hbk.cell (p := ⟨g, i * 14 + 6, none⟩) hg).trans (HX.out.2.2 6 _ rfl)
            have q7 : wr.cell? ⟨g, i * 14 + 7, none⟩ = some (.int .i64 (x.s 2).lo) := (hbk.cell (p := ⟨g, i * 14 + 7, none⟩) hg).trans (HX.out.2.2 7 _ rfl)
            have q8 : wr.cell? ⟨g, i * 14 + 8, none⟩ = some (.int .i64 (x.s 2).hi) := (hbk.cell (p := ⟨g, i * 14 + 8, none⟩) hg).trans (HX.out.2.2 8 _ rfl)
            have q9 : wr.cell? ⟨g, i * 14 + 9, none⟩ = some (.int .i64 (x.s 3).how) := (hbk.cell (p := ⟨g, i * 14 + 9, none⟩) hg).trans (HX.out.2.2 9 _ rfl)
            have q10 : wr.cell? ⟨g, i * 14 + 10, none⟩ = some (.int .i64 (x.s 3).lo) := (hbk.cell (p := ⟨g, i * 14 + 10, none⟩) hg).trans (HX.out.2.2 10 _ rfl)
            have q11 : wr.cell? ⟨g, i * 14 + 11, none⟩ = some (.int .i64 (x.s 3).hi) := (hbk.cell (p := ⟨g, i * 14 + 11, none⟩) hg).trans (HX.out.2.2 11 _ rfl)
            have q12 : wr.cell? ⟨g, i * 14 + 12, none⟩ = some (.string x.tag) := (hbk.cell (p := ⟨g, i * 14 + 12, none⟩) hg).trans (HX.out.2.2 12 _ rfl)
            have q13 : wr.cell? ⟨g, i * 14 + 13, none⟩ = some (.slice xo x.nots.length xc) := (hbk.cell (p := ⟨g, i * 14 + 13, none⟩) hg).trans (HX.out.2.2 13 _ rfl)
            have s0 : wr.cell? ⟨g, k * 14, none⟩ = some (.int .i64 (y.s 0).how) := hc2 0 _ rfl
            have s1 : wr.cell? ⟨g, k * 14 + 1, none⟩ = some (.int .i64 (y.s 0).lo) := hc2 1 _ rfl
            have s2 : wr.cell? ⟨g, k * 14 + 2, none⟩ = some (.int .i64 (y.s 0).hi) := hc2 2 _ rfl
            have s3 : wr.cell? ⟨g, k * 14 + 3, none⟩ = some (.int .i64 (y.s 1).how) := hc2 3 _ rfl
            have s4 : wr.cell? ⟨g, k * 14 + 4, none⟩ = some (.int .i64 (y.s 1).lo) := hc2 4 _ rfl
            have s5 : wr.cell? ⟨g, k * 14 + 5, none⟩ = some (.int .i64 (y.s 1).hi) := hc2 5 _ rfl
            have s6 : wr.cell? ⟨g, k * 14 + 6, none⟩ = some (.int .i64 (y.s 2).how) := hc2 6 _ rfl
            have s7 : wr.cell? ⟨g, k * 14 + 7, none⟩ = some (.int .i64 (y.s 2).lo) := hc2 7 _ rfl
            have s8 : wr.cell? ⟨g, k * 14 + 8, none⟩ = some (.int .i64 (y.s 2).hi) := hc2 8 _ rfl
            have s9 : wr.cell? ⟨g, k * 14 + 9, none⟩ = some (.int .i64 (y.s 3).how) := hc2 9 _ rfl
            have s10 : wr.cell? ⟨g, k * 14 + 10, none⟩ = some (.int .i64 (y.s 3).lo) := hc2 10 _ rfl
            have s11 : wr.cell? ⟨g, k * 14 + 11, none⟩ = some (.int .i64 (y.s 3).hi) := hc2 11 _ rfl
            have s12 : wr.cell? ⟨g, k * 14 + 12, none⟩ = some (.string y.tag) := hc2 12 _ rfl
            have s13 : wr.cell? ⟨g, k * 14 + 13, none⟩ = some (.slice yo y.nots.length yc) := hc2 13 _ rfl
            have cm := fun w' (hb : Below wr.heap.size wr w') => meet19 x y xo yo xc yc 32 32 _ _ w' HX.out.2.1 oy (by omega) (by omega) (nx.below hb) (ny.below hb)
            have cm2 := fun w' (hb : Below wr.heap.size wr w') => rmeet20 x y xo yo xc yc 32 32 _ _ w' HX.out.2.1 oy (by omega) (by omega) (nx.below hb) (ny.below hb)
            obtain ⟨mr, hmr⟩ : ∃ mr, mr = Ev.meet x y := ⟨_, rfl⟩
            have hzl : (mr.getD Ev.zero).nots.length ≤ 1000 := by
              cases hm : Ev.meet x y with
              | none => rw [hmr, hm]; simp [Ev.zero]
              | some z' =>
                rw [hmr, hm]
                have := (Ev.meet_some (al := []) (fun _ h => by cases h) ⟨#[]⟩ HX.out.2.1 oy hm).2.2.2.1
                show z'.nots.length ≤ 1000
                omega
            rw [← hmr] at cm cm2
            obtain ⟨z, hz⟩ : ∃ z, z = mr.getD Ev.zero := ⟨_, rfl⟩
            obtain ⟨mk, hmk⟩ : ∃ mk, mk = mr.isSome := ⟨_, rfl⟩
            unfold MPost at cm cm2
            rw [← hz, ← hmk] at cm cm2
            rw [← hz] at hzl
            unfold Bval at cm cm2
            have hbA : Below wr.heap.size wr (wr.alloc (.cells #[.int .i64 0, .int .i64 0, .int .i64 0, .int .i64 0, .int .i64 0, .int .i64 0, .int .i64 0, .int .i64 0, .int .i64 0, .int .i64 0, .int .i64 0, .int .i64 0, .string ⟨#[]⟩, .slice none 0 0] 48)).drew := ((Below.refl _ _).alloc (Nat.le_refl _) _).drew
            have hbD : Below wr.heap.size wr wr.drew := (Below.refl _ _).drew
            have HC : Hid ((∀ i' u, (bcells (x, xo, xc))[i']? = some u → wr.cell? ⟨g, i * 14 + i', none⟩ = some u) ∧ (∀ i' u, (bcells (y, yo, yc))[i']? = some u → wr.cell? ⟨g, k * 14 + i', none⟩ = some u) ∧ Below V.heap.size V wr ∧ (∀ w' (hb : Below wr.heap.size wr w'), Calls Try.prog 20 #[.agg #[.int .i64 (x.s 0).how, .int .i64 (x.s 0).lo, .int .i64 (x.s 0).hi, .int .i64 (x.s 1).how, .int .i64 (x.s 1).lo, .int .i64 (x.s 1).hi, .int .i64 (x.s 2).how, .int .i64 (x.s 2).lo, .int .i64 (x.s 2).hi, .int .i64 (x.s 3).how, .int .i64 (x.s 3).lo, .int .i64 (x.s 3).hi, .string x.tag, .slice xo x.nots.length xc], .agg #[.int .i64 (y.s 0).how, .int .i64 (y.s 0).lo, .int .i64 (y.s 0).hi, .int .i64 (y.s 1).how, .int .i64 (y.s 1).lo, .int .i64 (y.s 1).hi, .int .i64 (y.s 2).how, .int .i64 (y.s 2).lo, .int .i64 (y.s 2).hi, .int .i64 (y.s 3).how, .int .i64 (y.s 3).lo, .int .i64 (y.s 3).hi, .string y.tag, .slice yo y.nots.length yc]] w' fun e w'' => Below w'.heap.size w' w'' ∧ ∃ o cap, e = .returned (.tuple #[.agg #[.int .i64 (z.s 0).how, .int .i64 (z.s 0).lo, .int .i64 (z.s 0).hi, .int .i64 (z.s 1).how, .int .i64 (z.s 1).lo, .int .i64 (z.s 1).hi, .int .i64 (z.s 2).how, .int .i64 (z.s 2).lo, .int .i64 (z.s 2).hi, .int .i64 (z.s 3).how, .int .i64 (z.s 3).lo, .int .i64 (z.s 3).hi, .string z.tag, .slice o z.nots.length cap], .bool mk]) ∧ Nt w'.heap.size w'' o cap z.nots)) := ⟨fun i' u h => (hbk.cell (p := ⟨g, i * 14 + i', none⟩) hg).trans (HX.out.2.2 i' u h), hc2, hbk, cm2⟩
            clear hmr hz hmk nx ny oy hbk hb2k hc2 cm2
            go_wp2_with fail
            go_cut [11, 12] (fun sA sB wx => ∃ nn o cap, sA = .pointer (some ⟨nn, 0, none⟩) ∧ sB = .bool mk ∧ wx.heap[nn]? = some (.cells #[.int .i64 (z.s 0).how, .int .i64 (z.s 0).lo, .int .i64 (z.s 0).hi, .int .i64 (z.s 1).how, .int .i64 (z.s 1).lo, .int .i64 (z.s 1).hi, .int .i64 (z.s 2).how, .int .i64 (z.s 2).lo, .int .i64 (z.s 2).hi, .int .i64 (z.s 3).how, .int .i64 (z.s 3).lo, .int .i64 (z.s 3).hi, .string z.tag, .slice o z.nots.length cap] 48 (0, 0)) ∧ Nt wr.heap.size wx o cap z.nots ∧ Below wr.heap.size wr wx)
            case first =>
              go_region_held3 (fun w' => w'.cell? ⟨g, i * 14, none⟩ = some (.int .i64 (x.s 0).how) ∧ w'.cell? ⟨g, i * 14 + 1, none⟩ = some (.int .i64 (x.s 0).lo) ∧ w'.cell? ⟨g, i * 14 + 2, none⟩ = some (.int .i64 (x.s 0).hi) ∧ w'.cell? ⟨g, i * 14 + 3, none⟩ = some (.int .i64 (x.s 1).how) ∧ w'.cell? ⟨g, i * 14 + 4, none⟩ = some (.int .i64 (x.s 1).lo) ∧ w'.cell? ⟨g, i * 14 + 5, none⟩ = some (.int .i64 (x.s 1).hi) ∧ w'.cell? ⟨g, i * 14 + 6, none⟩ = some (.int .i64 (x.s 2).how) ∧ w'.cell? ⟨g, i * 14 + 7, none⟩ = some (.int .i64 (x.s 2).lo) ∧ w'.cell? ⟨g, i * 14 + 8, none⟩ = some (.int .i64 (x.s 2).hi) ∧ w'.cell? ⟨g, i * 14 + 9, none⟩ = some (.int .i64 (x.s 3).how) ∧ w'.cell? ⟨g, i * 14 + 10, none⟩ = some (.int .i64 (x.s 3).lo) ∧ w'.cell? ⟨g, i * 14 + 11, none⟩ = some (.int .i64 (x.s 3).hi) ∧ w'.cell? ⟨g, i * 14 + 12, none⟩ = some (.string x.tag) ∧ w'.cell? ⟨g, i * 14 + 13, none⟩ = some (.slice xo x.nots.length xc) ∧ w'.cell? ⟨g, k * 14, none⟩ = some (.int .i64 (y.s 0).how) ∧ w'.cell? ⟨g, k * 14 + 1, none⟩ = some (.int .i64 (y.s 0).lo) ∧ w'.cell? ⟨g, k * 14 + 2, none⟩ = some (.int .i64 (y.s 0).hi) ∧ w'.cell? ⟨g, k * 14 + 3, none⟩ = some (.int .i64 (y.s 1).how) ∧ w'.cell? ⟨g, k * 14 + 4, none⟩ = some (.int .i64 (y.s 1).lo) ∧ w'.cell? ⟨g, k * 14 + 5, none⟩ = some (.int .i64 (y.s 1).hi) ∧ w'.cell? ⟨g, k * 14 + 6, none⟩ = some (.int .i64 (y.s 2).how) ∧ w'.cell? ⟨g, k * 14 + 7, none⟩ = some (.int .i64 (y.s 2).lo) ∧ w'.cell? ⟨g, k * 14 + 8, none⟩ = some (.int .i64 (y.s 2).hi) ∧ w'.cell? ⟨g, k * 14 + 9, none⟩ = some (.int .i64 (y.s 3).how) ∧ w'.cell? ⟨g, k * 14 + 10, none⟩ = some (.int .i64 (y.s 3).lo) ∧ w'.cell? ⟨g, k * 14 + 11, none⟩ = some (.int .i64 (y.s 3).hi) ∧ w'.cell? ⟨g, k * 14 + 12, none⟩ = some (.string y.tag) ∧ w'.cell? ⟨g, k * 14 + 13, none⟩ = some (.slice yo y.nots.length yc))
                (go_keep)
                (first
                  | (go_at_call 19; refine (cm (wr.alloc (.cells #[.int .i64 0, .int .i64 0, .int .i64 0, .int .i64 0, .int .i64 0, .int .i64 0, .int .i64 0, .int .i64 0, .int .i64 0, .int .i64 0, .int .i64 0, .int .i64 0, .string ⟨#[]⟩, .slice none 0 0] 48)).drew hbA).mono ?_; rintro e w3 ⟨hb3, o, cap, rfl, hnt⟩; obtain ⟨hcl, hfl, zz1⟩ := callee_new hb3; obtain ⟨hn1, hf1⟩ := callee_own hb3)
                  | (go_at_call 19; refine (cm wr.drew hbD).mono ?_; rintro e w3 ⟨hb3, o, cap, rfl, hnt⟩; obtain ⟨hcl, hfl, zz1⟩ := callee_old hb3; have o1' := callee_ne zz1 hgk1))
              · go_wp2_with fail
                go_meet
                have hbx : Below wr.heap.size wr w3 := hbD.trans (hb3.mono (by exact Nat.le_refl _))
                exact ⟨w3.heap.size, o, cap, rfl, rfl, heap_alloc_new _ _, (hnt.below ((Below.refl _ _).alloc (Nat.le_refl _) _)), hbx.alloc hbx.size _⟩
              · go_wp2_with fail
                go_meet
                have hbx : Below wr.heap.size wr w3 := hbA.trans (hb3.mono hbA.size)
                have KK : w3.heap[wr.heap.size]? = some (.cells #[.int .i64 0, .int .i64 0, .int .i64 0, .int .i64 0, .int .i64 0, .int .i64 0, .int .i64 0, .int .i64 0, .int .i64 0, .int .i64 0, .int .i64 0, .int .i64 0, .string ⟨#[]⟩, .slice none 0 0] 48 (0, 0)) := (hb3.block _ (by simp)).trans (heap_at _ _ rfl)
                exact ⟨wr.heap.size, o, cap, rfl, rfl, set14 KK _ _ _ _ _ _ _ _ _ _ _ _ _ _, (hnt.mono hbA.size).keep (fun b c _ hc => far14 (by intro e; rw [← e, KK] at hc; simp at hc) _ _ _ _ _ _ _ _ _ _ _ _ _ _), below14 hbx (Nat.le_refl _) _ _ _ _ _ _ _ _ _ _ _ _ _ _⟩
            case rest =>
              obtain ⟨nn, o, cap, rfl, rfl, hnn, hnz, hbx⟩ := hcut
              clear q0 q1 q2 q3 q4 q5 q6 q7 q8 q9 q10 q11 q12 q13 s0 s1 s2 s3 s4 s5 s6 s7 s8 s9 s10 s11 s12 s13 cm hbA hbD n1'
              obtain ⟨X, hX⟩ : ∃ X, X = wc := ⟨_, rfl⟩
              subst hX
              have hszx := hbx.size
              have q0 : X.cell? ⟨g, i * 14, none⟩ = some (.int .i64 (x.s 0).how) := (hbx.cell (p := ⟨g, i * 14, none⟩) hgk1).trans (HC.out.1 0 _ rfl)
              have q1 : X.cell? ⟨g, i * 14 + 1, none⟩ = some (.int .i64 (x.s 0).lo) := (hbx.cell (p := ⟨g, i * 14 + 1, none⟩) hgk1).trans (HC.out.1 1 _ rfl)
              have q2 : X.cell? ⟨g, i * 14 + 2, none⟩ = some (.int .i64 (x.s 0).hi) := (hbx.cell (p := ⟨g, i * 14 + 2, none⟩) hgk1).trans (HC.out.1 2 _ rfl)
              have q3 : X.cell? ⟨g, i * 14 + 3, none⟩ = some (.int .i64 (x.s 1).how) := (hbx.cell (p := ⟨g, i * 14 + 3, none⟩) hgk1).trans (HC.out.1 3 _ rfl)
              have q4 : X.cell? ⟨g, i * 14 + 4, none⟩ = some (.int .i64 (x.s 1).lo) := (hbx.cell (p := ⟨g, i * 14 + 4, none⟩) hgk1).trans (HC.out.1 4 _ rfl)
              have q5 : X.cell? ⟨g, i * 14 + 5, none⟩ = some (.int .i64 (x.s 1).hi) := (hbx.cell (p := ⟨g, i * 14 + 5, none⟩) hgk1).trans (HC.out.1 5 _ rfl)
              have q6 : X.cell? ⟨g, i * 14 + 6, none⟩ = some (.int .i64 (x.s 2).how) := (hbx.cell (p := ⟨g, i * 14 + 6, none⟩) hgk1).trans (HC.out.1 6 _ rfl)
              have q7 : X.cell? ⟨g, i * 14 + 7, none⟩ = some (.int .i64 (x.s 2).lo) := (hbx.cell (p := ⟨g, i * 14 + 7, none⟩) hgk1).trans (HC.out.1 7 _ rfl)
              have q8 : X.cell? ⟨g, i * 14 + 8, none⟩ = some (.int .i64 (x.s 2).hi) := (hbx.cell (p := ⟨g, i * 14 + 8, none⟩) hgk1).trans (HC.out.1 8 _ rfl)
              have q9 : X.cell? ⟨g, i * 14 + 9, none⟩ = some (.int .i64 (x.s 3).how) := (hbx.cell (p := ⟨g, i * 14 + 9, none⟩) hgk1).trans (HC.out.1 9 _ rfl)
              have q10 : X.cell? ⟨g, i * 14 + 10, none⟩ = some (.int .i64 (x.s 3).lo) := (hbx.cell (p := ⟨g, i * 14 + 10, none⟩) hgk1).trans (HC.out.1 10 _ rfl)
              have q11 : X.cell? ⟨g, i * 14 + 11, none⟩ = some (.int .i64 (x.s 3).hi) := (hbx.cell (p := ⟨g, i * 14 + 11, none⟩) hgk1).trans (HC.out.1 11 _ rfl)
              have q12 : X.cell? ⟨g, i * 14 + 12, none⟩ = some (.string x.tag) := (hbx.cell (p := ⟨g, i * 14 + 12, none⟩) hgk1).trans (HC.out.1 12 _ rfl)
              have q13 : X.cell? ⟨g, i * 14 + 13, none⟩ = some (.slice xo x.nots.length xc) := (hbx.cell (p := ⟨g, i * 14 + 13, none⟩) hgk1).trans (HC.out.1 13 _ rfl)
              have s0 : X.cell? ⟨g, k * 14, none⟩ = some (.int .i64 (y.s 0).how) := (hbx.cell (p := ⟨g, k * 14, none⟩) hgk1).trans (HC.out.2.1 0 _ rfl)
              have s1 : X.cell? ⟨g, k * 14 + 1, none⟩ = some (.int .i64 (y.s 0).lo) := (hbx.cell (p := ⟨g, k * 14 + 1, none⟩) hgk1).trans (HC.out.2.1 1 _ rfl)
              have s2 : X.cell? ⟨g, k * 14 + 2, none⟩ = some (.int .i64 (y.s 0).hi) := (hbx.cell (p := ⟨g, k * 14 + 2, none⟩) hgk1).trans (HC.out.2.1 2 _ rfl)
              have s3 : X.cell? ⟨g, k * 14 + 3, none⟩ = some (.int .i64 (y.s 1).how) := (hbx.cell (p := ⟨g, k * 14 + 3, none⟩) hgk1).trans (HC.out.2.1 3 _ rfl)
              have s4 : X.cell? ⟨g, k * 14 + 4, none⟩ = some (.int .i64 (y.s 1).lo) := (hbx.cell (p := ⟨g, k * 14 + 4, none⟩) hgk1).trans (HC.out.2.1 4 _ rfl)
              have s5 : X.cell? ⟨g, k * 14 + 5, none⟩ = some (.int .i64 (y.s 1).hi) := (hbx.cell (p := ⟨g, k * 14 + 5, none⟩) hgk1).trans (HC.out.2.1 5 _ rfl)
              have s6 : X.cell? ⟨g, k * 14 + 6, none⟩ = some (.int .i64 (y.s 2).how) := (hbx.cell (p := ⟨g, k * 14 + 6, none⟩) hgk1).trans (HC.out.2.1 6 _ rfl)
              have s7 : X.cell? ⟨g, k * 14 + 7, none⟩ = some (.int .i64 (y.s 2).lo) := (hbx.cell (p := ⟨g, k * 14 + 7, none⟩) hgk1).trans (HC.out.2.1 7 _ rfl)
              have s8 : X.cell? ⟨g, k * 14 + 8, none⟩ = some (.int .i64 (y.s 2).hi) := (hbx.cell (p := ⟨g, k * 14 + 8, none⟩) hgk1).trans (HC.out.2.1 8 _ rfl)
              have s9 : X.cell? ⟨g, k * 14 + 9, none⟩ = some (.int .i64 (y.s 3).how) := (hbx.cell (p := ⟨g, k * 14 + 9, none⟩) hgk1).trans (HC.out.2.1 9 _ rfl)
              have s10 : X.cell? ⟨g, k * 14 + 10, none⟩ = some (.int .i64 (y.s 3).lo) := (hbx.cell (p := ⟨g, k * 14 + 10, none⟩) hgk1).trans (HC.out.2.1 10 _ rfl)
              have s11 : X.cell? ⟨g, k * 14 + 11, none⟩ = some (.int .i64 (y.s 3).hi) := (hbx.cell (p := ⟨g, k * 14 + 11, none⟩) hgk1).trans (HC.out.2.1 11 _ rfl)
              have s12 : X.cell? ⟨g, k * 14 + 12, none⟩ = some (.string y.tag) := (hbx.cell (p := ⟨g, k * 14 + 12, none⟩) hgk1).trans (HC.out.2.1 12 _ rfl)
              have s13 : X.cell? ⟨g, k * 14 + 13, none⟩ = some (.slice yo y.nots.length yc) := (hbx.cell (p := ⟨g, k * 14 + 13, none⟩) hgk1).trans (HC.out.2.1 13 _ rfl)
              have cm := fun w' (hb : Below X.heap.size X w') => HC.out.2.2.2 w' (hbx.trans (hb.mono hszx))
              have hnl : nn < X.heap.size := by
                by_cases hlt : nn < X.heap.size
                · exact hlt
                · rw [Array.getElem?_eq_none (by omega)] at hnn; cases hnn
              have HNN : Hid (X.heap[nn]? = some (.cells #[.int .i64 (z.s 0).how, .int .i64 (z.s 0).lo, .int .i64 (z.s 0).hi, .int .i64 (z.s 1).how, .int .i64 (z.s 1).lo, .int .i64 (z.s 1).hi, .int .i64 (z.s 2).how, .int .i64 (z.s 2).lo, .int .i64 (z.s 2).hi, .int .i64 (z.s 3).how, .int .i64 (z.s 3).lo, .int .i64 (z.s 3).hi, .string z.tag, .slice o z.nots.length cap] 48 (0, 0)) ∧ Nt wr.heap.size X o cap z.nots ∧ Below V.heap.size V X) := ⟨hnn, hnz, HC.out.2.2.1.trans (hbx.mono (by omega))⟩
              clear HC hnn hnz hbx
              obtain ⟨o1, cap1, ho1, hcap1⟩ : ∃ o1 cap1, o1 = o ∧ cap1 = cap := ⟨_, _, rfl, rfl⟩
              subst ho1
              subst hcap1
              have hgk0 := hgk1
              clear hgk1
              have hgk1 : g < X.heap.size := by omega
              have n1' : X.heap.size ≠ g := by omega
              have n2' : X.heap.size ≠ nn := by omega
              have hbA : Below X.heap.size X (X.alloc (.cells #[.int .i64 0, .int .i64 0, .int .i64 0, .int .i64 0, .int .i64 0, .int .i64 0, .int .i64 0, .int .i64 0, .int .i64 0, .int .i64 0, .int .i64 0, .int .i64 0, .string ⟨#[]⟩, .slice none 0 0] 48)).drew := ((Below.refl _ _).alloc (Nat.le_refl _) _).drew
              have hbD : Below X.heap.size X X.drew := (Below.refl _ _).drew
              go_wp2_with fail
              go_cut [13, 14] (fun sA sB wx => ∃ nn o cap, sA = .pointer (some ⟨nn, 0, none⟩) ∧ sB = .bool mk ∧ wx.heap[nn]? = some (.cells #[.int .i64 (z.s 0).how, .int .i64 (z.s 0).lo, .int .i64 (z.s 0).hi, .int .i64 (z.s 1).how, .int .i64 (z.s 1).lo, .int .i64 (z.s 1).hi, .int .i64 (z.s 2).how, .int .i64 (z.s 2).lo, .int .i64 (z.s 2).hi, .int .i64 (z.s 3).how, .int .i64 (z.s 3).lo, .int .i64 (z.s 3).hi, .string z.tag, .slice o z.nots.length cap] 48 (0, 0)) ∧ Nt X.heap.size wx o cap z.nots ∧ Below X.heap.size X wx)
              case first =>
                go_region_held3 (fun w' => w'.cell? ⟨g, i * 14, none⟩ = some (.int .i64 (x.s 0).how) ∧ w'.cell? ⟨g, i * 14 + 1, none⟩ = some (.int .i64 (x.s 0).lo) ∧ w'.cell? ⟨g, i * 14 + 2, none⟩ = some (.int .i64 (x.s 0).hi) ∧ w'.cell? ⟨g, i * 14 + 3, none⟩ = some (.int .i64 (x.s 1).how) ∧ w'.cell? ⟨g, i * 14 + 4, none⟩ = some (.int .i64 (x.s 1).lo) ∧ w'.cell? ⟨g, i * 14 + 5, none⟩ = some (.int .i64 (x.s 1).hi) ∧ w'.cell? ⟨g, i * 14 + 6, none⟩ = some (.int .i64 (x.s 2).how) ∧ w'.cell? ⟨g, i * 14 + 7, none⟩ = some (.int .i64 (x.s 2).lo) ∧ w'.cell? ⟨g, i * 14 + 8, none⟩ = some (.int .i64 (x.s 2).hi) ∧ w'.cell? ⟨g, i * 14 + 9, none⟩ = some (.int .i64 (x.s 3).how) ∧ w'.cell? ⟨g, i * 14 + 10, none⟩ = some (.int .i64 (x.s 3).lo) ∧ w'.cell? ⟨g, i * 14 + 11, none⟩ = some (.int .i64 (x.s 3).hi) ∧ w'.cell? ⟨g, i * 14 + 12, none⟩ = some (.string x.tag) ∧ w'.cell? ⟨g, i * 14 + 13, none⟩ = some (.slice xo x.nots.length xc) ∧ w'.cell? ⟨g, k * 14, none⟩ = some (.int .i64 (y.s 0).how) ∧ w'.cell? ⟨g, k * 14 + 1, none⟩ = some (.int .i64 (y.s 0).lo) ∧ w'.cell? ⟨g, k * 14 + 2, none⟩ = some (.int .i64 (y.s 0).hi) ∧ w'.cell? ⟨g, k * 14 + 3, none⟩ = some (.int .i64 (y.s 1).how) ∧ w'.cell? ⟨g, k * 14 + 4, none⟩ = some (.int .i64 (y.s 1).lo) ∧ w'.cell? ⟨g, k * 14 + 5, none⟩ = some (.int .i64 (y.s 1).hi) ∧ w'.cell? ⟨g, k * 14 + 6, none⟩ = some (.int .i64 (y.s 2).how) ∧ w'.cell? ⟨g, k * 14 + 7, none⟩ = some (.int .i64 (y.s 2).lo) ∧ w'.cell? ⟨g, k * 14 + 8, none⟩ = some (.int .i64 (y.s 2).hi) ∧ w'.cell? ⟨g, k * 14 + 9, none⟩ = some (.int .i64 (y.s 3).how) ∧ w'.cell? ⟨g, k * 14 + 10, none⟩ = some (.int .i64 (y.s 3).lo) ∧ w'.cell? ⟨g, k * 14 + 11, none⟩ = some (.int .i64 (y.s 3).hi) ∧ w'.cell? ⟨g, k * 14 + 12, none⟩ = some (.string y.tag) ∧ w'.cell? ⟨g, k * 14 + 13, none⟩ = some (.slice yo y.nots.length yc))
                  (go_keep)
                  (first
                    | (go_at_call 20; refine (cm (X.alloc (.cells #[.int .i64 0, .int .i64 0, .int .i64 0, .int .i64 0, .int .i64 0, .int .i64 0, .int .i64 0, .int .i64 0, .int .i64 0, .int .i64 0, .int .i64 0, .int .i64 0, .string ⟨#[]⟩, .slice none 0 0] 48)).drew hbA).mono ?_; rintro e w3 ⟨hb3, o, cap, rfl, hnt⟩; obtain ⟨hcl, hfl, zz1⟩ := callee_new hb3; obtain ⟨hn1, hf1⟩ := callee_own hb3)
                    | (go_at_call 20; refine (cm X.drew hbD).mono ?_; rintro e w3 ⟨hb3, o, cap, rfl, hnt⟩; obtain ⟨hcl, hfl, zz1⟩ := callee_old hb3; have o1' := callee_ne zz1 hgk1))
                · go_wp2_with fail
                  go_meet
                  have hbx : Below X.heap.size X w3 := hbD.trans (hb3.mono (by exact Nat.le_refl _))
                  exact ⟨w3.heap.size, o, cap, rfl, rfl, heap_alloc_new _ _, (hnt.below ((Below.refl _ _).alloc (Nat.le_refl _) _)), hbx.alloc hbx.size _⟩
                · go_wp2_with fail
                  go_meet
                  have hbx : Below X.heap.size X w3 := hbA.trans (hb3.mono hbA.size)
                  have KK : w3.heap[X.heap.size]? = some (.cells #[.int .i64 0, .int .i64 0, .int .i64 0, .int .i64 0, .int .i64 0, .int .i64 0, .int .i64 0, .int .i64 0, .int .i64 0, .int .i64 0, .int .i64 0, .int .i64 0, .string ⟨#[]⟩, .slice none 0 0] 48 (0, 0)) := (hb3.block _ (by simp)).trans (heap_at _ _ rfl)
                  exact ⟨X.heap.size, o, cap, rfl, rfl, set14 KK _ _ _ _ _ _ _ _ _ _ _ _ _ _, (hnt.mono hbA.size).keep (fun b c _ hc => far14 (by intro e; rw [← e, KK] at hc; simp at hc) _ _ _ _ _ _ _ _ _ _ _ _ _ _), below14 hbx (Nat.le_refl _) _ _ _ _ _ _ _ _ _ _ _ _ _ _⟩
              case rest =>
                obtain ⟨nm, o2, cap2, rfl, rfl, hnm, hnz2, hby⟩ := hcut
                clear q0 q1 q2 q3 q4 q5 q6 q7 q8 q9 q10 q11 q12 q13 s0 s1 s2 s3 s4 s5 s6 s7 s8 s9 s10 s11 s12 s13 cm hbA hbD n1' n2'
                have C1 := (cells_of ((hby.block _ hnl).trans HNN.out.1)).1
                have C2 := (cells_of hnm).1
                have hszy := hby.size
                have hnl' : nn < wc.heap.size := by omega
                have hml : nm < wc.heap.size := by
                  by_cases hlt : nm < wc.heap.size
                  · exact hlt
                  · rw [Array.getElem?_eq_none (by omega)] at hnm; cases hnm
                have cs := same21 z o1 o2 cap1 cap2 _ _ wc hzl (HNN.out.2.1.below hby) hnz2
                unfold Bval at cs
                have HBY : Hid (Below V.heap.size V wc) := HNN.out.2.2.trans (hby.mono HNN.out.2.2.size)
                clear HNN hnm hnz2 hby
                cases mk <;>
                · go_wp2_with fail
                  refine cs.mono ?_
                  rintro e w8 ⟨rfl, hb8⟩
                  clear cs C1 C2
                  go_wp2
                  go_roundg (L.length - (k + 1))
                  case measure => have := HGK.out; omega
                  case rel => exact ⟨k + 1, by omega, rfl, by go_num, HBY.out.trans (hb8.mono HBY.out.size)⟩
          · obtain rfl : k = L.length := by omega
            have HB : Hid (Below U.heap.size U wr) := HBI.out.trans (hbk.mono HBI.out.size)
            clear hbk
            go_wp2
            go_roundg (L.length - (i + 1))
            case measure => have := HGI.out; omega
            case rel => exact ⟨i + 1, by omega, rfl, by go_num, HB.out⟩
    · obtain rfl : i = L.length := by omega
      have HB : Hid (Below w.heap.size w wr) := HR.out.2.2.trans ((H5.out.1.trans (hbi.mono H5.out.1.size)).mono HR.out.2.2.size)
      clear hbi
      go_wp2
      go_ret
      exact ⟨rfl, HB.out⟩

/-- NormMeet's walk. -/
theorem nmeet_any (a0 : Option Addr) (l0 c0 : Nat) (a1 : Option Addr) (l1 c1 : Nat) (w : World) (r0 : Reads8 w a0 l0) (r1 : Reads8 w a1 l1) :
    Calls Try.prog 4 #[.slice a0 l0 c0, .slice a1 l1 c1] w fun e w' => e = .returned (.bool true) ∧ Below w.heap.size w w' := by
  by_cases h : 60 < l0 ∨ 40 < l1
  · exact nmeet_long a0 a1 l0 c0 l1 c1 w r0.1 r1.1 h
  · exact nmeet_short a0 a1 l0 c0 l1 c1 w (by omega) (by omega) r0 r1

end Go.Proofs.Ytflpdekifkcfkaa
