/- CoverBoxes: a box within another one lets through nothing that that one does not. -/
import Derived.Test.YtflpdekifkcfkabCbeg
import Derived.Test.YtflpdekifkcfkabLbox
import Derived.Test.YtflpdekifkcfkabBoxes
import Derived.Deep.DeepCutAuto
import Derived.Deep.RegionHeld3
import Derived.Deep.RegionWith
namespace Go.Proofs.Ytflpdekifkcfkab
open Go.RowKit
set_option linter.unusedVariables false

set_option maxHeartbeats 1000000 in
theorem cbx_long (a0 a1 : Option Addr) (l0 c0 l1 c1 : Nat) (w : World) (h0 : l0 ≤ maxLen) (h1 : l1 ≤ maxLen) (h : 60 < l0 ∨ 60 < l1) :
    Calls Try.prog 7 #[.slice a0 l0 c0, .slice a1 l1 c1] w fun e w' => e = .returned (.bool true) ∧ Below w.heap.size w w' := by
  unfold maxLen at h0 h1
  by_cases h9 : 60 < l0
  · clear h
    go_enter Try.func7, Try.ntmps7
    go_wp2_with fail
    refine (begun8 _).mono ?_
    rintro e w1 ⟨rfl, hb1⟩
    go_wp2
    go_ret
    exact ⟨rfl, hb1⟩
  · have h6 : 60 < l1 := by omega
    clear h
    go_enter Try.func7, Try.ntmps7
    go_wp2_with fail
    refine (begun8 _).mono ?_
    rintro e w1 ⟨rfl, hb1⟩
    go_wp2
    go_ret
    exact ⟨rfl, hb1⟩

theorem zero_ok : Ev.zero.ok 32 := ⟨fun i hi => Ev.nul_ok, Ev.nil_size, by simp [Ev.zero], by simp [Ev.zero]⟩

set_option maxRecDepth 100000 in
set_option maxHeartbeats 16000000 in
theorem cbx_short (a0 a1 : Option Addr) (l0 c0 l1 c1 : Nat) (w : World) (h0 : l0 ≤ 60) (h1 : l1 ≤ 60) (r0 : Reads8 w a0 l0) (r1 : Reads8 w a1 l1) :
    Calls Try.prog 7 #[.slice a0 l0 c0, .slice a1 l1 c1] w fun e w' => e = .returned (.bool true) ∧ Below w.heap.size w w' := by
  go_enter Try.func7, Try.ntmps7
  go_wp2_with fail
  refine (begun8 _).mono ?_
  rintro e w1 ⟨rfl, hb1⟩
  replace r0 := reads_below r0 hb1
  replace r1 := reads_below r1 hb1
  go_wp2_with fail
  refine (boxes15 a0 l0 c0 w1 (by omega) r0).mono ?_
  rintro e w2 ⟨vL, L, rfl, rowL, lenL, okL, hb2⟩
  obtain ⟨lo, lc, rfl⟩ := rowL.slice
  replace r1 := reads_below r1 hb2
  have hbw2 : Below w.heap.size w w2 := hb1.trans (hb2.mono hb1.size)
  clear r0 hb1 hb2
  go_wp2_with fail
  refine (made10 _ _ _ _).mono ?_
  rintro e W ⟨rfl, hW⟩
  have hp1 : Pick W w2.heap.size := by rw [hW]; exact pick_made r1 (by omega)
  have hbW : Below w2.heap.size w2 W := by rw [hW]; exact (Below.refl _ _).alloc (Nat.le_refl _) _
  clear hW r1
  have HR : Hid (RowB w1.heap.size w2 (.slice lo L.length lc) L ∧ (∀ x ∈ L, x.ok 32) ∧ Below w.heap.size w w2) := ⟨rowL, okL, hbw2⟩
  clear rowL okL hbw2
  go_wp2_with fail
  go_loopg [7] 3 (fun gg ii wr => ∃ q : Nat, q ≤ 3 ∧ gg = 3 - q ∧ ii = .int .i64 q ∧ Pick wr w2.heap.size ∧ Below w2.heap.size w2 wr)
  case atStart => exact ⟨0, by omega, rfl, rfl, hp1, hbW⟩
  case round =>
    clear hp1 hbW
    obtain ⟨q, hq, hgq, rfl, hp, hbr⟩ := hrel
    have HGQ : Hid (gk = 3 - q) := hgq
    clear hgq
    by_cases hqt : q < 3
    · have hqi : (q : Int) < 3 := by omega
      go_wp2_with fail
      refine (version12 w2.heap.size wr hp).mono ?_
      rintro e w5 ⟨v, al, rfl, hsm, hhas, hw5⟩
      have hb5 : Below w2.heap.size w2 w5 := hbr.trans (hw5.2.below hbr.size (fun k hk => by unfold But; omega))
      have hh5 : Has Any w5 v al := hhas.mono (fun _ _ _ => trivial)
      have hp5 := hw5.1
      clear hp hbr hhas hw5
      unfold Vs.val
      go_wp2_with fail
      obtain ⟨U, hU⟩ : ∃ U, U = w5.alloc (.cells #[.int .i64 v.it, .int .i64 v.L, .int .i64 v.R, .int .i64 v.N, .bool v.dead, .slice v.ao v.len v.cap, .string v.tag, .string v.body] 48) := ⟨_, rfl⟩
      rw [← hU]
      have hbU : Below w5.heap.size w5 U := by rw [hU]; exact (Below.refl _ _).alloc (Nat.le_refl _) _
      have hsU : w5.heap.size < U.heap.size := by rw [hU]; simp
      have vc : ∀ i, U.cell? ⟨w5.heap.size, i, none⟩ = (#[.int .i64 v.it, .int .i64 v.L, .int .i64 v.R, .int .i64 v.N, .bool v.dead, .slice v.ao v.len v.cap, .string v.tag, .string v.body] : Array Value)[i]? := fun i => by rw [hU]; simp
      have H5 : Hid (Below w2.heap.size w2 U ∧ Has Any U v al ∧ Pick U w2.heap.size ∧ Ev.Small al ∧ ∀ i, U.cell? ⟨w5.heap.size, i, none⟩ = (#[.int .i64 v.it, .int .i64 v.L, .int .i64 v.R, .int .i64 v.N, .bool v.dead, .slice v.ao v.len v.cap, .string v.tag, .string v.body] : Array Value)[i]?) := ⟨hb5.trans (hbU.mono hb5.size), hh5.below hbU, Below.pick hp5 hbU, hsm, vc⟩
      clear hU hbU hb5 hh5 hp5 vc hsm
      generalize w5.heap.size = N at *
      clear w5
      go_loopg [9] L.length (fun gg ii wr => ∃ i : Nat, i ≤ L.length ∧ gg = L.length - i ∧ ii = .int .i64 i ∧ Below U.heap.size U wr)
      case atStart => exact ⟨0, by omega, rfl, rfl, Below.refl _ _⟩
      case round =>
        obtain ⟨i, hi, hgi, rfl, hbi⟩ := hrel
        have HGI : Hid (gk = L.length - i) := hgi
        clear hgi
        by_cases hit : i < L.length
        · have hii : (i : Int) < (L.length : Int) := by omega
          have hb2i : Below w2.heap.size w2 wr := H5.out.1.trans (hbi.mono H5.out.1.size)
          obtain ⟨g, xo, xc, rfl, _, hg, nx, hc⟩ := (HR.out.1.below hb2i).at i hit
          have ox := HR.out.2.1 _ (List.getElem_mem hit)
          obtain ⟨x, hx⟩ : ∃ x, x = L[i] := ⟨_, rfl⟩
          rw [← hx] at nx hc ox
          clear hx
          have hsi := hbi.size
          have q0 : wr.cell? ⟨g, i * 14, none⟩ = some (.int .i64 (x.s 0).how) := hc 0 _ rfl
          have q1 : wr.cell? ⟨g, i * 14 + 1, none⟩ = some (.int .i64 (x.s 0).lo) := hc 1 _ rfl
          have q2 : wr.cell? ⟨g, i * 14 + 2, none⟩ = some (.int .i64 (x.s 0).hi) := hc 2 _ rfl
          have q3 : wr.cell? ⟨g, i * 14 + 3, none⟩ = some (.int .i64 (x.s 1).how) := hc 3 _ rfl
          have q4 : wr.cell? ⟨g, i * 14 + 4, none⟩ = some (.int .i64 (x.s 1).lo) := hc 4 _ rfl
          have q5 : wr.cell? ⟨g, i * 14 + 5, none⟩ = some (.int .i64 (x.s 1).hi) := hc 5 _ rfl
          have q6 : wr.cell? ⟨g, i * 14 + 6, none⟩ = some (.int .i64 (x.s 2).how) := hc 6 _ rfl
          have q7 : wr.cell? ⟨g, i * 14 + 7, none⟩ = some (.int .i64 (x.s 2).lo) := hc 7 _ rfl
          have q8 : wr.cell? ⟨g, i * 14 + 8, none⟩ = some (.int .i64 (x.s 2).hi) := hc 8 _ rfl
          have q9 : wr.cell? ⟨g, i * 14 + 9, none⟩ = some (.int .i64 (x.s 3).how) := hc 9 _ rfl
          have q10 : wr.cell? ⟨g, i * 14 + 10, none⟩ = some (.int .i64 (x.s 3).lo) := hc 10 _ rfl
          have q11 : wr.cell? ⟨g, i * 14 + 11, none⟩ = some (.int .i64 (x.s 3).hi) := hc 11 _ rfl
          have q12 : wr.cell? ⟨g, i * 14 + 12, none⟩ = some (.string x.tag) := hc 12 _ rfl
          have q13 : wr.cell? ⟨g, i * 14 + 13, none⟩ = some (.slice xo x.nots.length xc) := hc 13 _ rfl
          have cxx := fun w' (hb : Below wr.heap.size wr w') => within_any x x xo xo xc xc 32 32 w' ox ox (by omega) (by omega) (nx.below hb).txts (nx.below hb).txts
          have cxz := fun w' (hb : Below wr.heap.size wr w') => within_any x Ev.zero xo none xc 0 32 32 w' ox zero_ok (by omega) (by omega) (nx.below hb).txts (fun h => absurd h (by decide))
          rw [Ev.within_refl ox] at cxx
          rw [Ev.within_zero x] at cxz
          unfold Ev.zero Ev.nul at cxz
          simp only [List.length_nil] at cxz
          have HBI : Hid (Below U.heap.size U wr) := hbi
          have HX : Hid (Nt w1.heap.size wr xo xc x.nots ∧ x.ok 32 ∧ (∀ i' u, (bcells (x, xo, xc))[i']? = some u → wr.cell? ⟨g, i * 14 + i', none⟩ = some u)) := ⟨nx, ox, hc⟩
          clear hbi hb2i nx ox hc
          have hbD : Below wr.heap.size wr wr.drew := (Below.refl _ wr).drew
          go_wp2_with fail
          go_region_held3 (fun w' => w'.cell? ⟨g, i * 14, none⟩ = some (.int .i64 (x.s 0).how) ∧ w'.cell? ⟨g, i * 14 + 1, none⟩ = some (.int .i64 (x.s 0).lo) ∧ w'.cell? ⟨g, i * 14 + 2, none⟩ = some (.int .i64 (x.s 0).hi) ∧ w'.cell? ⟨g, i * 14 + 3, none⟩ = some (.int .i64 (x.s 1).how) ∧ w'.cell? ⟨g, i * 14 + 4, none⟩ = some (.int .i64 (x.s 1).lo) ∧ w'.cell? ⟨g, i * 14 + 5, none⟩ = some (.int .i64 (x.s 1).hi) ∧ w'.cell? ⟨g, i * 14 + 6, none⟩ = some (.int .i64 (x.s 2).how) ∧ w'.cell? ⟨g, i * 14 + 7, none⟩ = some (.int .i64 (x.s 2).lo) ∧ w'.cell? ⟨g, i * 14 + 8, none⟩ = some (.int .i64 (x.s 2).hi) ∧ w'.cell? ⟨g, i * 14 + 9, none⟩ = some (.int .i64 (x.s 3).how) ∧ w'.cell? ⟨g, i * 14 + 10, none⟩ = some (.int .i64 (x.s 3).lo) ∧ w'.cell? ⟨g, i * 14 + 11, none⟩ = some (.int .i64 (x.s 3).hi) ∧ w'.cell? ⟨g, i * 14 + 12, none⟩ = some (.string x.tag) ∧ w'.cell? ⟨g, i * 14 + 13, none⟩ = some (.slice xo x.nots.length xc))
            (go_keep)
            (first
              | (go_at_call_of 14 (Value.slice none 0 0); refine (cxz y1 hbY1).mono ?_; rintro e y2 ⟨rfl, hy2⟩; have hcl2 := fun b o (h : b < y1.heap.size) => hy2.cell (p := ⟨b, o, none⟩) h)
              | (go_at_call 14; refine (cxx wr.drew hbD).mono ?_; rintro e y1 ⟨rfl, hy1⟩; obtain ⟨hcl, hfl, zz1⟩ := callee_old hy1; have hbY1 := hbD.trans (hy1.mono (Nat.le_refl _)); have g1 := Nat.lt_of_lt_of_le hg zz1))
          have HBY : Hid (Below wr.heap.size wr y2) := hbY1.trans (hy2.mono zz1)
          clear cxx cxz hcl hfl hcl2 hy1 hy2 hbY1 g1 zz1 hbD q0 q1 q2 q3 q4 q5 q6 q7 q8 q9 q10 q11 q12 q13
          obtain ⟨V, hV⟩ : ∃ V, V = wr := ⟨_, rfl⟩
          subst hV
          go_wp2_with fail
          go_loopg [10] L.length (fun gg ii wr => ∃ k : Nat, k ≤ L.length ∧ gg = L.length - k ∧ ii = .int .i64 k ∧ Below V.heap.size V wr)
          case atStart => exact ⟨0, by omega, rfl, rfl, HBY.out⟩
          case round =>
            clear HBY
            obtain ⟨k, hk, hgk, rfl, hbk⟩ := hrel
            have HGK : Hid (gk = L.length - k) := hgk
            clear hgk
            by_cases hkt : k < L.length
            · have hki : (k : Int) < (L.length : Int) := by omega
              have hsk := hbk.size
              have hUk : Below U.heap.size U wr := HBI.out.trans (hbk.mono HBI.out.size)
              have hb2k : Below w2.heap.size w2 wr := H5.out.1.trans (hUk.mono H5.out.1.size)
              obtain ⟨g2, yo, yc, e2, _, hg2, ny, hc2⟩ := (HR.out.1.below hb2k).at k hkt
              obtain rfl : g = g2 := by simpa using e2
              clear e2
              have oy := HR.out.2.1 _ (List.getElem_mem hkt)
              obtain ⟨y, hy⟩ : ∃ y, y = L[k] := ⟨_, rfl⟩
              rw [← hy] at ny hc2 oy
              clear hy
              have nx := HX.out.1.below hbk
              have hgk1 : g < wr.heap.size := hg2
              have hNr : N < wr.heap.size := Nat.lt_of_lt_of_le hsU hUk.size
              have q0 : wr.cell? ⟨g, i * 14, none⟩ = some (.int .i64 (x.s 0).how) := (hbk.cell (p := ⟨g, i * 14, none⟩) hg).trans (HX.out.2.2 0 _ rfl)
              have q1 : wr.cell? ⟨g, i * 14 + 1, none⟩ = some (.int .i64 (x.s 0).lo) := (hbk.cell (p := ⟨g, i * 14 + 1, none⟩) hg).trans (HX.out.2.2 1 _ rfl)
              have q2 : wr.cell? ⟨g, i * 14 + 2, none⟩ = some (.int .i64 (x.s 0).hi) := (hbk.cell (p := ⟨g, i * 14 + 2, none⟩) hg).trans (HX.out.2.2 2 _ rfl)
              have q3 : wr.cell? ⟨g, i * 14 + 3, none⟩ = some (.int .i64 (x.s 1).how) := (hbk.cell (p := ⟨g, i * 14 + 3, none⟩) hg).trans (HX.out.2.2 3 _ rfl)
              have q4 : wr.cell? ⟨g, i * 14 + 4, none⟩ = some (.int .i64 (x.s 1).lo) := (hbk.cell (p := ⟨g, i * 14 + 4, none⟩) hg).trans (HX.out.2.2 4 _ rfl)
              have q5 : wr.cell? ⟨g, i * 14 + 5, none⟩ = some (.int .i64 (x.s 1).hi) := (hbk.cell (p := ⟨g, i * 14 + 5, none⟩) hg).trans (HX.out.2.2 5 _ rfl)
              have q6 : wr.cell? ⟨g, i * 14 + 6, none⟩ = some (.int .i64 (x.s 2).how) := (hbk.cell (p := ⟨g, i * 14 + 6, none⟩) hg).trans (HX.out.2.2 6 _ rfl)
              have q7 : wr.cell? ⟨g, i * 14 + 7, none⟩ = some (.int .i64 (x.s 2).lo) := (hbk.cell (p := ⟨g, i * 14 + 7, none⟩) hg).trans (HX.out.2.2 7 _ rfl)
              have q8 : wr.cell? ⟨g, i * 14 + 8, none⟩ = some (.int .i64 (x.s 2).hi) := (hbk.cell (p := ⟨g, i * 14 + 8, none⟩) hg).trans (HX.out.2.2 8 _ rfl)
              have q9 : wr.cell? ⟨g, i * 14 + 9, none⟩ = some (.int .i64 (x.s 3).how) := (hbk.cell (p := ⟨g, i * 14 + 9, none⟩) hg).trans (HX.out.2.2 9 _ rfl)
              have q10 : wr.cell? ⟨g, i * 14 + 10, none⟩ = some (.int .i64 (x.s 3).lo) := (hbk.cell (p := ⟨g, i * 14 + 10, none⟩) hg).trans (HX.out.2.2 10 _ rfl)
              have q11 : wr.cell? ⟨g, i * 14 + 11, none⟩ = some (.int .i64 (x.s 3).hi) := (hbk.cell (p := ⟨g, i * 14 + 11, none⟩) hg).trans (HX.out.2.2 11 _ rfl)
              have q12 : wr.cell? ⟨g, i * 14 + 12, none⟩ = some (.string x.tag) := (hbk.cell (p := ⟨g, i * 14 + 12, none⟩) hg).trans (HX.out.2.2 12 _ rfl)
              have q13 : wr.cell? ⟨g, i * 14 + 13, none⟩ = some (.slice xo x.nots.length xc) := (hbk.cell (p := ⟨g, i * 14 + 13, none⟩) hg).trans (HX.out.2.2 13 _ rfl)
              have s0 : wr.cell? ⟨g, k * 14, none⟩ = some (.int .i64 (y.s 0).how) := hc2 0 _ rfl
              have s1 : wr.cell? ⟨g, k * 14 + 1, none⟩ = some (.int .i64 (y.s 0).lo) := hc2 1 _ rfl
              have s2 : wr.cell? ⟨g, k * 14 + 2, none⟩ = some (.int .i64 (y.s 0).hi) := hc2 2 _ rfl
              have s3 : wr.cell? ⟨g, k * 14 + 3, none⟩ = some (.int .i64 (y.s 1).how) := hc2 3 _ rfl
              have s4 : wr.cell? ⟨g, k * 14 + 4, none⟩ = some (.int .i64 (y.s 1).lo) := hc2 4 _ rfl
              have s5 : wr.cell? ⟨g, k * 14 + 5, none⟩ = some (.int .i64 (y.s 1).hi) := hc2 5 _ rfl
              have s6 : wr.cell? ⟨g, k * 14 + 6, none⟩ = some (.int .i64 (y.s 2).how) := hc2 6 _ rfl
              have s7 : wr.cell? ⟨g, k * 14 + 7, none⟩ = some (.int .i64 (y.s 2).lo) := hc2 7 _ rfl
              have s8 : wr.cell? ⟨g, k * 14 + 8, none⟩ = some (.int .i64 (y.s 2).hi) := hc2 8 _ rfl
              have s9 : wr.cell? ⟨g, k * 14 + 9, none⟩ = some (.int .i64 (y.s 3).how) := hc2 9 _ rfl
              have s10 : wr.cell? ⟨g, k * 14 + 10, none⟩ = some (.int .i64 (y.s 3).lo) := hc2 10 _ rfl
              have s11 : wr.cell? ⟨g, k * 14 + 11, none⟩ = some (.int .i64 (y.s 3).hi) := hc2 11 _ rfl
              have s12 : wr.cell? ⟨g, k * 14 + 12, none⟩ = some (.string y.tag) := hc2 12 _ rfl
              have s13 : wr.cell? ⟨g, k * 14 + 13, none⟩ = some (.slice yo y.nots.length yc) := hc2 13 _ rfl
              have a0 : wr.cell? ⟨N, 0, none⟩ = some (.int .i64 v.it) := (hUk.cell (p := ⟨N, 0, none⟩) hsU).trans ((H5.out.2.2.2.2 0).trans rfl)
              have a1 : wr.cell? ⟨N, 1, none⟩ = some (.int .i64 v.L) := (hUk.cell (p := ⟨N, 1, none⟩) hsU).trans ((H5.out.2.2.2.2 1).trans rfl)
              have a2 : wr.cell? ⟨N, 2, none⟩ = some (.int .i64 v.R) := (hUk.cell (p := ⟨N, 2, none⟩) hsU).trans ((H5.out.2.2.2.2 2).trans rfl)
              have a3 : wr.cell? ⟨N, 3, none⟩ = some (.int .i64 v.N) := (hUk.cell (p := ⟨N, 3, none⟩) hsU).trans ((H5.out.2.2.2.2 3).trans rfl)
              have a4 : wr.cell? ⟨N, 4, none⟩ = some (.bool v.dead) := (hUk.cell (p := ⟨N, 4, none⟩) hsU).trans ((H5.out.2.2.2.2 4).trans rfl)
              have a5 : wr.cell? ⟨N, 5, none⟩ = some (.slice v.ao v.len v.cap) := (hUk.cell (p := ⟨N, 5, none⟩) hsU).trans ((H5.out.2.2.2.2 5).trans rfl)
              have a6 : wr.cell? ⟨N, 6, none⟩ = some (.string v.tag) := (hUk.cell (p := ⟨N, 6, none⟩) hsU).trans ((H5.out.2.2.2.2 6).trans rfl)
              have a7 : wr.cell? ⟨N, 7, none⟩ = some (.string v.body) := (hUk.cell (p := ⟨N, 7, none⟩) hsU).trans ((H5.out.2.2.2.2 7).trans rfl)
              have hasr := H5.out.2.1.below hUk
              have c1 := fun w' (hb : Below wr.heap.size wr w') => within_any x y xo yo xc yc 32 32 w' HX.out.2.1 oy (by omega) (by omega) (nx.below hb).txts (ny.below hb).txts
              have c2 := fun w' (hb : Below wr.heap.size wr w') => lbox18 x xo xc 32 v al w' H5.out.2.2.2.1 HX.out.2.1 (by omega) (nx.below hb).txts (hasr.below hb)
              have c3 := fun w' (hb : Below wr.heap.size wr w') => lbox18 y yo yc 32 v al w' H5.out.2.2.2.1 oy (by omega) (ny.below hb).txts (hasr.below hb)
              have hkey : Ev.within x y = true → x.lets al v.tag = true → y.lets al v.tag = true := fun h1 h2 => Ev.within_lets h1 al v.tag h2
              unfold Bval Vs.val at c2 c3
              generalize Ev.within x y = rw at *
              generalize x.lets al v.tag = rx at *
              generalize y.lets al v.tag = ry at *
              have HB : Hid (Below V.heap.size V wr) := hbk
              clear hbk hUk hb2k nx ny oy hc2 hasr
              have hbD : Below wr.heap.size wr wr.drew := (Below.refl _ wr).drew
              go_wp2_with fail
              go_cut [87] (fun s87 wx => s87 = .bool false ∧ Below wr.heap.size wr wx)
              case first =>
                cases rw with
                | false =>
                  clear c2 c3 hkey a0 a1 a2 a3 a4 a5 a6 a7
                  refine wp_region_held_drew (S := (fun w' => w'.cell? ⟨g, i * 14, none⟩ = some (.int .i64 (x.s 0).how) ∧ w'.cell? ⟨g, i * 14 + 1, none⟩ = some (.int .i64 (x.s 0).lo) ∧ w'.cell? ⟨g, i * 14 + 2, none⟩ = some (.int .i64 (x.s 0).hi) ∧ w'.cell? ⟨g, i * 14 + 3, none⟩ = some (.int .i64 (x.s 1).how) ∧ w'.cell? ⟨g, i * 14 + 4, none⟩ = some (.int .i64 (x.s 1).lo) ∧ w'.cell? ⟨g, i * 14 + 5, none⟩ = some (.int .i64 (x.s 1).hi) ∧ w'.cell? ⟨g, i * 14 + 6, none⟩ = some (.int .i64 (x.s 2).how) ∧ w'.cell? ⟨g, i * 14 + 7, none⟩ = some (.int .i64 (x.s 2).lo) ∧ w'.cell? ⟨g, i * 14 + 8, none⟩ = some (.int .i64 (x.s 2).hi) ∧ w'.cell? ⟨g, i * 14 + 9, none⟩ = some (.int .i64 (x.s 3).how) ∧ w'.cell? ⟨g, i * 14 + 10, none⟩ = some (.int .i64 (x.s 3).lo) ∧ w'.cell? ⟨g, i * 14 + 11, none⟩ = some (.int .i64 (x.s 3).hi) ∧ w'.cell? ⟨g, i * 14 + 12, none⟩ = some (.string x.tag) ∧ w'.cell? ⟨g, i * 14 + 13, none⟩ = some (.slice xo x.nots.length xc) ∧ w'.cell? ⟨g, k * 14, none⟩ = some (.int .i64 (y.s 0).how) ∧ w'.cell? ⟨g, k * 14 + 1, none⟩ = some (.int .i64 (y.s 0).lo) ∧ w'.cell? ⟨g, k * 14 + 2, none⟩ = some (.int .i64 (y.s 0).hi) ∧ w'.cell? ⟨g, k * 14 + 3, none⟩ = some (.int .i64 (y.s 1).how) ∧ w'.cell? ⟨g, k * 14 + 4, none⟩ = some (.int .i64 (y.s 1).lo) ∧ w'.cell? ⟨g, k * 14 + 5, none⟩ = some (.int .i64 (y.s 1).hi) ∧ w'.cell? ⟨g, k * 14 + 6, none⟩ = some (.int .i64 (y.s 2).how) ∧ w'.cell? ⟨g, k * 14 + 7, none⟩ = some (.int .i64 (y.s 2).lo) ∧ w'.cell? ⟨g, k * 14 + 8, none⟩ = some (.int .i64 (y.s 2).hi) ∧ w'.cell? ⟨g, k * 14 + 9, none⟩ = some (.int .i64 (y.s 3).how) ∧ w'.cell? ⟨g, k * 14 + 10, none⟩ = some (.int .i64 (y.s 3).lo) ∧ w'.cell? ⟨g, k * 14 + 11, none⟩ = some (.int .i64 (y.s 3).hi) ∧ w'.cell? ⟨g, k * 14 + 12, none⟩ = some (.string y.tag) ∧ w'.cell? ⟨g, k * 14 + 13, none⟩ = some (.slice yo y.nots.length yc))) (by kernel_rfl) ?_ (fun hHeld => ?_)
                  · (try dsimp only)
                    go_keep
                  refine wpAnyH_take (i := 0) (oi := { dst := some 62, op := Op.move (Operand.tmp 5), type := 32, pos := "law.go:122", after := #[], guard := none }) (v := ?_) rfl (by kernel_rfl) (by kernel_rfl) (by kernel_rfl) (fun _ _ _ h => h) (Or.inl ⟨by rfl, ?_⟩) (by assumption) ?_
                  rotate_left
                  · intro w hSw
                    (try dsimp only at hSw)
                    go_simp
                    try with_reducible rfl
                  simp only [Act.put, List.setIfInBounds_toArray, List.set_cons_zero, List.set_cons_succ]
                  refine wpAnyH_take (i := 1) (oi := { dst := some 63, op := Op.move (Operand.tmp 9), type := 3, pos := "law.go:122", after := #[], guard := none }) (v := ?_) rfl (by kernel_rfl) (by kernel_rfl) (by kernel_rfl) (fun _ _ _ h => h) (Or.inl ⟨by rfl, ?_⟩) (by assumption) ?_
                  rotate_left
                  · intro w hSw
                    (try dsimp only at hSw)
                    go_simp
                    try with_reducible rfl
                  simp only [Act.put, List.setIfInBounds_toArray, List.set_cons_zero, List.set_cons_succ]
                  refine wpAnyH_take (i := 2) (oi := { dst := some 64, op := Op.indexAddr 32 (Operand.tmp 62) (Operand.tmp 63), type := 0, pos := "law.go:122", after := #[{ on := 0, ground := Ground.data }, { on := 1, ground := Ground.data }], guard := none }) (v := ?_) rfl (by kernel_rfl) (by kernel_rfl) (by kernel_rfl) (fun _ _ _ h => h) (Or.inl ⟨by rfl, ?_⟩) (by assumption) ?_
                  rotate_left
                  · intro w hSw
                    (try dsimp only at hSw)
                    go_simp
                    try with_reducible rfl
                  simp only [Act.put, List.setIfInBounds_toArray, List.set_cons_zero, List.set_cons_succ]
                  refine wpAnyH_take (i := 3) (oi := { dst := some 65, op := Op.load 40 (Operand.tmp 64), type := 40, pos := "law.go:122", after := #[{ on := 2, ground := Ground.data }], guard := none }) (v := ?_) rfl (by kernel_rfl) (by kernel_rfl) (by kernel_rfl) (fun _ _ _ h => h) (Or.inl ⟨by rfl, ?_⟩) (by assumption) ?_
                  rotate_left
                  · intro w hSw
                    (try dsimp only at hSw)
                    go_simp
                    try with_reducible rfl
                  simp only [Act.put, List.setIfInBounds_toArray, List.set_cons_zero, List.set_cons_succ]
                  refine wpAnyH_take (i := 4) (oi := { dst := some 66, op := Op.move (Operand.tmp 5), type := 32, pos := "law.go:122", after := #[], guard := none }) (v := ?_) rfl (by kernel_rfl) (by kernel_rfl) (by kernel_rfl) (fun _ _ _ h => h) (Or.inl ⟨by rfl, ?_⟩) (by assumption) ?_
                  rotate_left
                  · intro w hSw
                    (try dsimp only at hSw)
                    go_simp
                    try with_reducible rfl
                  simp only [Act.put, List.setIfInBounds_toArray, List.set_cons_zero, List.set_cons_succ]
                  refine wpAnyH_take (i := 5) (oi := { dst := some 67, op := Op.move (Operand.tmp 10), type := 3, pos := "law.go:122", after := #[], guard := none }) (v := ?_) rfl (by kernel_rfl) (by kernel_rfl) (by kernel_rfl) (fun _ _ _ h => h) (Or.inl ⟨by rfl, ?_⟩) (by assumption) ?_
                  rotate_left
                  · intro w hSw
                    (try dsimp only at hSw)
                    go_simp
                    try with_reducible rfl
                  simp only [Act.put, List.setIfInBounds_toArray, List.set_cons_zero, List.set_cons_succ]
                  refine wpAnyH_take (i := 6) (oi := { dst := some 68, op := Op.indexAddr 32 (Operand.tmp 66) (Operand.tmp 67), type := 0, pos := "law.go:122", after := #[{ on := 4, ground := Ground.data }, { on := 5, ground := Ground.data }], guard := none }) (v := ?_) rfl (by kernel_rfl) (by kernel_rfl) (by kernel_rfl) (fun _ _ _ h => h) (Or.inl ⟨by rfl, ?_⟩) (by assumption) ?_
                  rotate_left
                  · intro w hSw
                    (try dsimp only at hSw)
                    go_simp
                    try with_reducible rfl
                  simp only [Act.put, List.setIfInBounds_toArray, List.set_cons_zero, List.set_cons_succ]
                  refine wpAnyH_take (i := 7) (oi := { dst := some 69, op := Op.load 40 (Operand.tmp 68), type := 40, pos := "law.go:122", after := #[{ on := 6, ground := Ground.data }], guard := none }) (v := ?_) rfl (by kernel_rfl) (by kernel_rfl) (by kernel_rfl) (fun _ _ _ h => h) (Or.inl ⟨by rfl, ?_⟩) (by assumption) ?_
                  rotate_left
                  · intro w hSw
                    (try dsimp only at hSw)
                    go_simp
                    try with_reducible rfl
                  simp only [Act.put, List.setIfInBounds_toArray, List.set_cons_zero, List.set_cons_succ]
                  refine wpAnyH_ready (rs := [8]) (by kernel_rfl) (by simp) ?_
                  refine AllReadyH.cons (o := { dst := some 70, op := Op.call { callee := Callee.value (Operand.func 14), args := #[Operand.tmp 65, Operand.tmp 69], argTypes := #[40, 40] }, type := 4, pos := "law.go:122", after := #[{ on := 3, ground := Ground.data }, { on := 7, ground := Ground.data }], guard := none }) rfl (fun K hK => ?_) AllReadyH.nil
                  go_simp
                  refine (c1 wr.drew hbD).mono ?_
                  rintro e w6 ⟨rfl, hb6⟩
                  obtain ⟨hcl, hfl, zz1⟩ := callee_old hb6
                  refine hK.out _ _ ?_ (fun hHeld => ?_)
                  · (try dsimp only)
                    go_keep
                  clear hK K
                  try simp only [Act.put, List.setIfInBounds_toArray, List.set_cons_zero, List.set_cons_succ]
                  refine wpAnyH_take (i := 9) (oi := { dst := some 71, op := Op.move (Operand.tmp 70), type := 4, pos := "law.go:122", after := #[{ on := 8, ground := Ground.data }, { on := 8, ground := Ground.chain }], guard := none }) (v := ?_) rfl (by kernel_rfl) (by kernel_rfl) (by kernel_rfl) (fun _ _ _ h => h) (Or.inl ⟨by rfl, ?_⟩) (by assumption) ?_
                  rotate_left
                  · intro w hSw
                    (try dsimp only at hSw)
                    go_simp
                    try with_reducible rfl
                  simp only [Act.put, List.setIfInBounds_toArray, List.set_cons_zero, List.set_cons_succ]
                  refine wpAnyH_take (i := 10) (oi := { dst := some 72, op := Op.move (Operand.tmp 5), type := 32, pos := "law.go:122", after := #[{ on := 9, ground := Ground.guard }], guard := some (9, true) }) (v := undef) rfl (by kernel_rfl) (by kernel_rfl) (by kernel_rfl) (fun _ _ _ h => h) (Or.inr ⟨by rfl, rfl⟩) (by assumption) ?_
                  simp only [Act.put, List.setIfInBounds_toArray, List.set_cons_zero, List.set_cons_succ]
                  refine wpAnyH_take (i := 11) (oi := { dst := some 73, op := Op.move (Operand.tmp 9), type := 3, pos := "law.go:122", after := #[{ on := 9, ground := Ground.guard }], guard := some (9, true) }) (v := undef) rfl (by kernel_rfl) (by kernel_rfl) (by kernel_rfl) (fun _ _ _ h => h) (Or.inr ⟨by rfl, rfl⟩) (by assumption) ?_
                  simp only [Act.put, List.setIfInBounds_toArray, List.set_cons_zero, List.set_cons_succ]
                  refine wpAnyH_take (i := 12) (oi := { dst := some 74, op := Op.indexAddr 32 (Operand.tmp 72) (Operand.tmp 73), type := 0, pos := "law.go:122", after := #[{ on := 10, ground := Ground.data }, { on := 11, ground := Ground.data }, { on := 9, ground := Ground.guard }], guard := some (9, true) }) (v := undef) rfl (by kernel_rfl) (by kernel_rfl) (by kernel_rfl) (fun _ _ _ h => h) (Or.inr ⟨by rfl, rfl⟩) (by assumption) ?_
                  simp only [Act.put, List.setIfInBounds_toArray, List.set_cons_zero, List.set_cons_succ]
                  refine wpAnyH_take (i := 13) (oi := { dst := some 75, op := Op.load 40 (Operand.tmp 74), type := 40, pos := "law.go:122", after := #[{ on := 12, ground := Ground.data }, { on := 9, ground := Ground.guard }], guard := some (9, true) }) (v := undef) rfl (by kernel_rfl) (by kernel_rfl) (by kernel_rfl) (fun _ _ _ h => h) (Or.inr ⟨by rfl, rfl⟩) (by assumption) ?_
                  simp only [Act.put, List.setIfInBounds_toArray, List.set_cons_zero, List.set_cons_succ]
                  refine wpAnyH_take (i := 14) (oi := { dst := some 76, op := Op.load 48 (Operand.tmp 8), type := 48, pos := "law.go:122", after := #[{ on := 9, ground := Ground.guard }], guard := some (9, true) }) (v := undef) rfl (by kernel_rfl) (by kernel_rfl) (by kernel_rfl) (fun _ _ _ h => h) (Or.inr ⟨by rfl, rfl⟩) (by assumption) ?_
                  simp only [Act.put, List.setIfInBounds_toArray, List.set_cons_zero, List.set_cons_succ]
                  refine wpAnyH_take (i := 15) (oi := { dst := some 77, op := Op.call { callee := Callee.value (Operand.func 20), args := #[Operand.tmp 75, Operand.tmp 76], argTypes := #[40, 48] }, type := 4, pos := "law.go:122", after := #[{ on := 13, ground := Ground.data }, { on := 14, ground := Ground.data }, { on := 9, ground := Ground.chain }, { on := 9, ground := Ground.guard }], guard := some (9, true) }) (v := undef) rfl (by kernel_rfl) (by kernel_rfl) (by kernel_rfl) (fun _ _ _ h => h) (Or.inr ⟨by rfl, rfl⟩) (by assumption) ?_
                  simp only [Act.put, List.setIfInBounds_toArray, List.set_cons_zero, List.set_cons_succ]
                  refine wpAnyH_take (i := 16) (oi := { dst := some 78, op := Op.pick (Operand.tmp 71) (Operand.tmp 77) (Operand.const (Value.bool false)), type := 4, pos := "law.go:122", after := #[{ on := 9, ground := Ground.data }, { on := 15, ground := Ground.data }], guard := none }) (v := ?_) rfl (by kernel_rfl) (by kernel_rfl) (by kernel_rfl) (fun _ _ _ h => h) (Or.inl ⟨by rfl, ?_⟩) (by assumption) ?_
                  rotate_left
                  · intro w hSw
                    (try dsimp only at hSw)
                    go_simp
                    try with_reducible rfl
                  simp only [Act.put, List.setIfInBounds_toArray, List.set_cons_zero, List.set_cons_succ]
                  refine wpAnyH_take (i := 17) (oi := { dst := some 79, op := Op.move (Operand.tmp 78), type := 4, pos := "law.go:122", after := #[{ on := 16, ground := Ground.data }, { on := 15, ground := Ground.chain }], guard := none }) (v := ?_) rfl (by kernel_rfl) (by kernel_rfl) (by kernel_rfl) (fun _ _ _ h => h) (Or.inl ⟨by rfl, ?_⟩) (by assumption) ?_
                  rotate_left
                  · intro w hSw
                    (try dsimp only at hSw)
                    go_simp
                    try with_reducible rfl
                  simp only [Act.put, List.setIfInBounds_toArray, List.set_cons_zero, List.set_cons_succ]
                  refine wpAnyH_take (i := 18) (oi := { dst := some 80, op := Op.move (Operand.tmp 5), type := 32, pos := "law.go:122", after := #[{ on := 17, ground := Ground.guard }], guard := some (17, true) }) (v := undef) rfl (by kernel_rfl) (by kernel_rfl) (by kernel_rfl) (fun _ _ _ h => h) (Or.inr ⟨by rfl, rfl⟩) (by assumption) ?_
                  simp only [Act.put, List.setIfInBounds_toArray, List.set_cons_zero, List.set_cons_succ]
                  refine wpAnyH_take (i := 19) (oi := { dst := some 81, op := Op.move (Operand.tmp 10), type := 3, pos := "law.go:122", after := #[{ on := 17, ground := Ground.guard }], guard := some (17, true) }) (v := undef) rfl (by kernel_rfl) (by kernel_rfl) (by kernel_rfl) (fun _ _ _ h => h) (Or.inr ⟨by rfl, rfl⟩) (by assumption) ?_
                  simp only [Act.put, List.setIfInBounds_toArray, List.set_cons_zero, List.set_cons_succ]
                  refine wpAnyH_take (i := 20) (oi := { dst := some 82, op := Op.indexAddr 32 (Operand.tmp 80) (Operand.tmp 81), type := 0, pos := "law.go:122", after := #[{ on := 18, ground := Ground.data }, { on := 19, ground := Ground.data }, { on := 17, ground := Ground.guard }], guard := some (17, true) }) (v := undef) rfl (by kernel_rfl) (by kernel_rfl) (by kernel_rfl) (fun _ _ _ h => h) (Or.inr ⟨by rfl, rfl⟩) (by assumption) ?_
                  simp only [Act.put, List.setIfInBounds_toArray, List.set_cons_zero, List.set_cons_succ]
                  refine wpAnyH_take (i := 21) (oi := { dst := some 83, op := Op.load 40 (Operand.tmp 82), type := 40, pos := "law.go:122", after := #[{ on := 20, ground := Ground.data }, { on := 17, ground := Ground.guard }], guard := some (17, true) }) (v := undef) rfl (by kernel_rfl) (by kernel_rfl) (by kernel_rfl) (fun _ _ _ h => h) (Or.inr ⟨by rfl, rfl⟩) (by assumption) ?_
                  simp only [Act.put, List.setIfInBounds_toArray, List.set_cons_zero, List.set_cons_succ]
                  refine wpAnyH_take (i := 22) (oi := { dst := some 84, op := Op.load 48 (Operand.tmp 8), type := 48, pos := "law.go:122", after := #[{ on := 17, ground := Ground.guard }], guard := some (17, true) }) (v := undef) rfl (by kernel_rfl) (by kernel_rfl) (by kernel_rfl) (fun _ _ _ h => h) (Or.inr ⟨by rfl, rfl⟩) (by assumption) ?_
                  simp only [Act.put, List.setIfInBounds_toArray, List.set_cons_zero, List.set_cons_succ]
                  refine wpAnyH_take (i := 23) (oi := { dst := some 85, op := Op.call { callee := Callee.value (Operand.func 20), args := #[Operand.tmp 83, Operand.tmp 84], argTypes := #[40, 48] }, type := 4, pos := "law.go:122", after := #[{ on := 21, ground := Ground.data }, { on := 22, ground := Ground.data }, { on := 17, ground := Ground.chain }, { on := 17, ground := Ground.guard }], guard := some (17, true) }) (v := undef) rfl (by kernel_rfl) (by kernel_rfl) (by kernel_rfl) (fun _ _ _ h => h) (Or.inr ⟨by rfl, rfl⟩) (by assumption) ?_
                  simp only [Act.put, List.setIfInBounds_toArray, List.set_cons_zero, List.set_cons_succ]
                  refine wpAnyH_take (i := 24) (oi := { dst := some 86, op := Op.unOp UnOp.not 4 (Operand.tmp 85), type := 4, pos := "law.go:122", after := #[{ on := 23, ground := Ground.data }, { on := 17, ground := Ground.guard }], guard := some (17, true) }) (v := undef) rfl (by kernel_rfl) (by kernel_rfl) (by kernel_rfl) (fun _ _ _ h => h) (Or.inr ⟨by rfl, rfl⟩) (by assumption) ?_
                  simp only [Act.put, List.setIfInBounds_toArray, List.set_cons_zero, List.set_cons_succ]
                  refine wpAnyH_take (i := 25) (oi := { dst := some 87, op := Op.pick (Operand.tmp 79) (Operand.tmp 86) (Operand.const (Value.bool false)), type := 4, pos := "law.go:122", after := #[{ on := 17, ground := Ground.data }, { on := 24, ground := Ground.data }], guard := none }) (v := ?_) rfl (by kernel_rfl) (by kernel_rfl) (by kernel_rfl) (fun _ _ _ h => h) (Or.inl ⟨by rfl, ?_⟩) (by assumption) ?_
                  rotate_left
                  · intro w hSw
                    (try dsimp only at hSw)
                    go_simp
                    try with_reducible rfl
                  simp only [Act.put, List.setIfInBounds_toArray, List.set_cons_zero, List.set_cons_succ]
                  refine wpAnyH_done (by kernel_rfl) ?_ _
                  go_wp2_with fail
                  go_meet
                  exact ⟨rfl, hbD.trans (hb6.mono (Nat.le_refl _))⟩
                | true =>
                  cases rx with
                  | false =>
                    clear c3 hkey
                    refine wp_region_held_drew (S := (fun w' => w'.cell? ⟨g, i * 14, none⟩ = some (.int .i64 (x.s 0).how) ∧ w'.cell? ⟨g, i * 14 + 1, none⟩ = some (.int .i64 (x.s 0).lo) ∧ w'.cell? ⟨g, i * 14 + 2, none⟩ = some (.int .i64 (x.s 0).hi) ∧ w'.cell? ⟨g, i * 14 + 3, none⟩ = some (.int .i64 (x.s 1).how) ∧ w'.cell? ⟨g, i * 14 + 4, none⟩ = some (.int .i64 (x.s 1).lo) ∧ w'.cell? ⟨g, i * 14 + 5, none⟩ = some (.int .i64 (x.s 1).hi) ∧ w'.cell? ⟨g, i * 14 + 6, none⟩ = some (.int .i64 (x.s 2).how) ∧ w'.cell? ⟨g, i * 14 + 7, none⟩ = some (.int .i64 (x.s 2).lo) ∧ w'.cell? ⟨g, i * 14 + 8, none⟩ = some (.int .i64 (x.s 2).hi) ∧ w'.cell? ⟨g, i * 14 + 9, none⟩ = some (.int .i64 (x.s 3).how) ∧ w'.cell? ⟨g, i * 14 + 10, none⟩ = some (.int .i64 (x.s 3).lo) ∧ w'.cell? ⟨g, i * 14 + 11, none⟩ = some (.int .i64 (x.s 3).hi) ∧ w'.cell? ⟨g, i * 14 + 12, none⟩ = some (.string x.tag) ∧ w'.cell? ⟨g, i * 14 + 13, none⟩ = some (.slice xo x.nots.length xc) ∧ w'.cell? ⟨g, k * 14, none⟩ = some (.int .i64 (y.s 0).how) ∧ w'.cell? ⟨g, k * 14 + 1, none⟩ = some (.int .i64 (y.s 0).lo) ∧ w'.cell? ⟨g, k * 14 + 2, none⟩ = some (.int .i64 (y.s 0).hi) ∧ w'.cell? ⟨g, k * 14 + 3, none⟩ = some (.int .i64 (y.s 1).how) ∧ w'.cell? ⟨g, k * 14 + 4, none⟩ = some (.int .i64 (y.s 1).lo) ∧ w'.cell? ⟨g, k * 14 + 5, none⟩ = some (.int .i64 (y.s 1).hi) ∧ w'.cell? ⟨g, k * 14 + 6, none⟩ = some (.int .i64 (y.s 2).how) ∧ w'.cell? ⟨g, k * 14 + 7, none⟩ = some (.int .i64 (y.s 2).lo) ∧ w'.cell? ⟨g, k * 14 + 8, none⟩ = some (.int .i64 (y.s 2).hi) ∧ w'.cell? ⟨g, k * 14 + 9, none⟩ = some (.int .i64 (y.s 3).how) ∧ w'.cell? ⟨g, k * 14 + 10, none⟩ = some (.int .i64 (y.s 3).lo) ∧ w'.cell? ⟨g, k * 14 + 11, none⟩ = some (.int .i64 (y.s 3).hi) ∧ w'.cell? ⟨g, k * 14 + 12, none⟩ = some (.string y.tag) ∧ w'.cell? ⟨g, k * 14 + 13, none⟩ = some (.slice yo y.nots.length yc) ∧ w'.cell? ⟨N, 0, none⟩ = some (.int .i64 v.it) ∧ w'.cell? ⟨N, 1, none⟩ = some (.int .i64 v.L) ∧ w'.cell? ⟨N, 2, none⟩ = some (.int .i64 v.R) ∧ w'.cell? ⟨N, 3, none⟩ = some (.int .i64 v.N) ∧ w'.cell? ⟨N, 4, none⟩ = some (.bool v.dead) ∧ w'.cell? ⟨N, 5, none⟩ = some (.slice v.ao v.len v.cap) ∧ w'.cell? ⟨N, 6, none⟩ = some (.string v.tag) ∧ w'.cell? ⟨N, 7, none⟩ = some (.string v.body))) (by kernel_rfl) ?_ (fun hHeld => ?_)
                    · (try dsimp only)
                      go_keep
                    refine wpAnyH_take (i := 0) (oi := { dst := some 62, op := Op.move (Operand.tmp 5), type := 32, pos := "law.go:122", after := #[], guard := none }) (v := ?_) rfl (by kernel_rfl) (by kernel_rfl) (by kernel_rfl) (fun _ _ _ h => h) (Or.inl ⟨by rfl, ?_⟩) (by assumption) ?_
                    rotate_left
                    · intro w hSw
                      (try dsimp only at hSw)
                      go_simp
                      try with_reducible rfl
                    simp only [Act.put, List.setIfInBounds_toArray, List.set_cons_zero, List.set_cons_succ]
                    refine wpAnyH_take (i := 1) (oi := { dst := some 63, op := Op.move (Operand.tmp 9), type := 3, pos := "law.go:122", after := #[], guard := none }) (v := ?_) rfl (by kernel_rfl) (by kernel_rfl) (by kernel_rfl) (fun _ _ _ h => h) (Or.inl ⟨by rfl, ?_⟩) (by assumption) ?_
                    rotate_left
                    · intro w hSw
                      (try dsimp only at hSw)
                      go_simp
                      try with_reducible rfl
                    simp only [Act.put, List.setIfInBounds_toArray, List.set_cons_zero, List.set_cons_succ]
                    refine wpAnyH_take (i := 2) (oi := { dst := some 64, op := Op.indexAddr 32 (Operand.tmp 62) (Operand.tmp 63), type := 0, pos := "law.go:122", after := #[{ on := 0, ground := Ground.data }, { on := 1, ground := Ground.data }], guard := none }) (v := ?_) rfl (by kernel_rfl) (by kernel_rfl) (by kernel_rfl) (fun _ _ _ h => h) (Or.inl ⟨by rfl, ?_⟩) (by assumption) ?_
                    rotate_left
                    · intro w hSw
                      (try dsimp only at hSw)
                      go_simp
                      try with_reducible rfl
                    simp only [Act.put, List.setIfInBounds_toArray, List.set_cons_zero, List.set_cons_succ]
                    refine wpAnyH_take (i := 3) (oi := { dst := some 65, op := Op.load 40 (Operand.tmp 64), type := 40, pos := "law.go:122", after := #[{ on := 2, ground := Ground.data }], guard := none }) (v := ?_) rfl (by kernel_rfl) (by kernel_rfl) (by kernel_rfl) (fun _ _ _ h => h) (Or.inl ⟨by rfl, ?_⟩) (by assumption) ?_
                    rotate_left
                    · intro w hSw
                      (try dsimp only at hSw)
                      go_simp
                      try with_reducible rfl
                    simp only [Act.put, List.setIfInBounds_toArray, List.set_cons_zero, List.set_cons_succ]
                    refine wpAnyH_take (i := 4) (oi := { dst := some 66, op := Op.move (Operand.tmp 5), type := 32, pos := "law.go:122", after := #[], guard := none }) (v := ?_) rfl (by kernel_rfl) (by kernel_rfl) (by kernel_rfl) (fun _ _ _ h => h) (Or.inl ⟨by rfl, ?_⟩) (by assumption) ?_
                    rotate_left
                    · intro w hSw
                      (try dsimp only at hSw)
                      go_simp
                      try with_reducible rfl
                    simp only [Act.put, List.setIfInBounds_toArray, List.set_cons_zero, List.set_cons_succ]
                    refine wpAnyH_take (i := 5) (oi := { dst := some 67, op := Op.move (Operand.tmp 10), type := 3, pos := "law.go:122", after := #[], guard := none }) (v := ?_) rfl (by kernel_rfl) (by kernel_rfl) (by kernel_rfl) (fun _ _ _ h => h) (Or.inl ⟨by rfl, ?_⟩) (by assumption) ?_
                    rotate_left
                    · intro w hSw
                      (try dsimp only at hSw)
                      go_simp
                      try with_reducible rfl
                    simp only [Act.put, List.setIfInBounds_toArray, List.set_cons_zero, List.set_cons_succ]
                    refine wpAnyH_take (i := 6) (oi := { dst := some 68, op := Op.indexAddr 32 (Operand.tmp 66) (Operand.tmp 67), type := 0, pos := "law.go:122", after := #[{ on := 4, ground := Ground.data }, { on := 5, ground := Ground.data }], guard := none }) (v := ?_) rfl (by kernel_rfl) (by kernel_rfl) (by kernel_rfl) (fun _ _ _ h => h) (Or.inl ⟨by rfl, ?_⟩) (by assumption) ?_
                    rotate_left
                    · intro w hSw
                      (try dsimp only at hSw)
                      go_simp
                      try with_reducible rfl
                    simp only [Act.put, List.setIfInBounds_toArray, List.set_cons_zero, List.set_cons_succ]
                    refine wpAnyH_take (i := 7) (oi := { dst := some 69, op := Op.load 40 (Operand.tmp 68), type := 40, pos := "law.go:122", after := #[{ on := 6, ground := Ground.data }], guard := none }) (v := ?_) rfl (by kernel_rfl) (by kernel_rfl) (by kernel_rfl) (fun _ _ _ h => h) (Or.inl ⟨by rfl, ?_⟩) (by assumption) ?_
                    rotate_left
                    · intro w hSw
                      (try dsimp only at hSw)
                      go_simp
                      try with_reducible rfl
                    simp only [Act.put, List.setIfInBounds_toArray, List.set_cons_zero, List.set_cons_succ]
                    refine wpAnyH_ready (rs := [8]) (by kernel_rfl) (by simp) ?_
                    refine AllReadyH.cons (o := { dst := some 70, op := Op.call { callee := Callee.value (Operand.func 14), args := #[Operand.tmp 65, Operand.tmp 69], argTypes := #[40, 40] }, type := 4, pos := "law.go:122", after := #[{ on := 3, ground := Ground.data }, { on := 7, ground := Ground.data }], guard := none }) rfl (fun K hK => ?_) AllReadyH.nil
                    go_simp
                    refine (c1 wr.drew hbD).mono ?_
                    rintro e w6 ⟨rfl, hb6⟩
                    obtain ⟨hcl, hfl, zz1⟩ := callee_old hb6
                    have hb6' := hbD.trans (hb6.mono (Nat.le_refl _))
                    have g6 := Nat.lt_of_lt_of_le hgk1 zz1
                    have n6 := Nat.lt_of_lt_of_le hNr zz1
                    refine hK.out _ _ ?_ (fun hHeld => ?_)
                    · (try dsimp only)
                      go_keep
                    clear hK K
                    try simp only [Act.put, List.setIfInBounds_toArray, List.set_cons_zero, List.set_cons_succ]
                    refine wpAnyH_take (i := 9) (oi := { dst := some 71, op := Op.move (Operand.tmp 70), type := 4, pos := "law.go:122", after := #[{ on := 8, ground := Ground.data }, { on := 8, ground := Ground.chain }], guard := none }) (v := ?_) rfl (by kernel_rfl) (by kernel_rfl) (by kernel_rfl) (fun _ _ _ h => h) (Or.inl ⟨by rfl, ?_⟩) (by assumption) ?_
                    rotate_left
                    · intro w hSw
                      (try dsimp only at hSw)
                      go_simp
                      try with_reducible rfl
                    simp only [Act.put, List.setIfInBounds_toArray, List.set_cons_zero, List.set_cons_succ]
                    refine wpAnyH_take (i := 10) (oi := { dst := some 72, op := Op.move (Operand.tmp 5), type := 32, pos := "law.go:122", after := #[{ on := 9, ground := Ground.guard }], guard := some (9, true) }) (v := ?_) rfl (by kernel_rfl) (by kernel_rfl) (by kernel_rfl) (fun _ _ _ h => h) (Or.inl ⟨by rfl, ?_⟩) (by assumption) ?_
                    rotate_left
                    · intro w hSw
                      (try dsimp only at hSw)
                      go_simp
                      try with_reducible rfl
                    simp only [Act.put, List.setIfInBounds_toArray, List.set_cons_zero, List.set_cons_succ]
                    refine wpAnyH_take (i := 11) (oi := { dst := some 73, op := Op.move (Operand.tmp 9), type := 3, pos := "law.go:122", after := #[{ on := 9, ground := Ground.guard }], guard := some (9, true) }) (v := ?_) rfl (by kernel_rfl) (by kernel_rfl) (by kernel_rfl) (fun _ _ _ h => h) (Or.inl ⟨by rfl, ?_⟩) (by assumption) ?_
                    rotate_left
                    · intro w hSw
                      (try dsimp only at hSw)
                      go_simp
                      try with_reducible rfl
                    simp only [Act.put, List.setIfInBounds_toArray, List.set_cons_zero, List.set_cons_succ]
                    refine wpAnyH_take (i := 12) (oi := { dst := some 74, op := Op.indexAddr 32 (Operand.tmp 72) (Operand.tmp 73), type := 0, pos := "law.go:122", after := #[{ on := 10, ground := Ground.data }, { on := 11, ground := Ground.data }, { on := 9, ground := Ground.guard }], guard := some (9, true) }) (v := ?_) rfl (by kernel_rfl) (by kernel_rfl) (by kernel_rfl) (fun _ _ _ h => h) (Or.inl ⟨by rfl, ?_⟩) (by assumption) ?_
                    rotate_left
                    · intro w hSw
                      (try dsimp only at hSw)
                      go_simp
                      try with_reducible rfl
                    simp only [Act.put, List.setIfInBounds_toArray, List.set_cons_zero, List.set_cons_succ]
                    refine wpAnyH_take (i := 13) (oi := { dst := some 75, op := Op.load 40 (Operand.tmp 74), type := 40, pos := "law.go:122", after := #[{ on := 12, ground := Ground.data }, { on := 9, ground := Ground.guard }], guard := some (9, true) }) (v := ?_) rfl (by kernel_rfl) (by kernel_rfl) (by kernel_rfl) (fun _ _ _ h => h) (Or.inl ⟨by rfl, ?_⟩) (by assumption) ?_
                    rotate_left
                    · intro w hSw
                      (try dsimp only at hSw)
                      go_simp
                      try with_reducible rfl
                    simp only [Act.put, List.setIfInBounds_toArray, List.set_cons_zero, List.set_cons_succ]
                    refine wpAnyH_take (i := 14) (oi := { dst := some 76, op := Op.load 48 (Operand.tmp 8), type := 48, pos := "law.go:122", after := #[{ on := 9, ground := Ground.guard }], guard := some (9, true) }) (v := ?_) rfl (by kernel_rfl) (by kernel_rfl) (by kernel_rfl) (fun _ _ _ h => h) (Or.inl ⟨by rfl, ?_⟩) (by assumption) ?_
                    rotate_left
                    · intro w hSw
                      (try dsimp only at hSw)
                      go_simp
                      try with_reducible rfl
                    simp only [Act.put, List.setIfInBounds_toArray, List.set_cons_zero, List.set_cons_succ]
                    refine wpAnyH_ready (rs := [15]) (by kernel_rfl) (by simp) ?_
                    refine AllReadyH.cons (o := { dst := some 77, op := Op.call { callee := Callee.value (Operand.func 20), args := #[Operand.tmp 75, Operand.tmp 76], argTypes := #[40, 48] }, type := 4, pos := "law.go:122", after := #[{ on := 13, ground := Ground.data }, { on := 14, ground := Ground.data }, { on := 9, ground := Ground.chain }, { on := 9, ground := Ground.guard }], guard := some (9, true) }) rfl (fun K hK => ?_) AllReadyH.nil
                    go_simp
                    refine (c2 w6 hb6').mono ?_
                    rintro e w7 ⟨rfl, hb7⟩
                    have hcl7 := fun b o (h : b < w6.heap.size) => hb7.cell (p := ⟨b, o, none⟩) h
                    refine hK.out _ _ ?_ (fun hHeld => ?_)
                    · (try dsimp only)
                      go_keep
                    clear hK K
                    try simp only [Act.put, List.setIfInBounds_toArray, List.set_cons_zero, List.set_cons_succ]
                    refine wpAnyH_take (i := 16) (oi := { dst := some 78, op := Op.pick (Operand.tmp 71) (Operand.tmp 77) (Operand.const (Value.bool false)), type := 4, pos := "law.go:122", after := #[{ on := 9, ground := Ground.data }, { on := 15, ground := Ground.data }], guard := none }) (v := ?_) rfl (by kernel_rfl) (by kernel_rfl) (by kernel_rfl) (fun _ _ _ h => h) (Or.inl ⟨by rfl, ?_⟩) (by assumption) ?_
                    rotate_left
                    · intro w hSw
                      (try dsimp only at hSw)
                      go_simp
                      try with_reducible rfl
                    simp only [Act.put, List.setIfInBounds_toArray, List.set_cons_zero, List.set_cons_succ]
                    refine wpAnyH_take (i := 17) (oi := { dst := some 79, op := Op.move (Operand.tmp 78), type := 4, pos := "law.go:122", after := #[{ on := 16, ground := Ground.data }, { on := 15, ground := Ground.chain }], guard := none }) (v := ?_) rfl (by kernel_rfl) (by kernel_rfl) (by kernel_rfl) (fun _ _ _ h => h) (Or.inl ⟨by rfl, ?_⟩) (by assumption) ?_
                    rotate_left
                    · intro w hSw
                      (try dsimp only at hSw)
                      go_simp
                      try with_reducible rfl
                    simp only [Act.put, List.setIfInBounds_toArray, List.set_cons_zero, List.set_cons_succ]
                    refine wpAnyH_take (i := 18) (oi := { dst := some 80, op := Op.move (Operand.tmp 5), type := 32, pos := "law.go:122", after := #[{ on := 17, ground := Ground.guard }], guard := some (17, true) }) (v := undef) rfl (by kernel_rfl) (by kernel_rfl) (by kernel_rfl) (fun _ _ _ h => h) (Or.inr ⟨by rfl, rfl⟩) (by assumption) ?_
                    simp only [Act.put, List.setIfInBounds_toArray, List.set_cons_zero, List.set_cons_succ]
                    refine wpAnyH_take (i := 19) (oi := { dst := some 81, op := Op.move (Operand.tmp 10), type := 3, pos := "law.go:122", after := #[{ on := 17, ground := Ground.guard }], guard := some (17, true) }) (v := undef) rfl (by kernel_rfl) (by kernel_rfl) (by kernel_rfl) (fun _ _ _ h => h) (Or.inr ⟨by rfl, rfl⟩) (by assumption) ?_
                    simp only [Act.put, List.setIfInBounds_toArray, List.set_cons_zero, List.set_cons_succ]
                    refine wpAnyH_take (i := 20) (oi := { dst := some 82, op := Op.indexAddr 32 (Operand.tmp 80) (Operand.tmp 81), type := 0, pos := "law.go:122", after := #[{ on := 18, ground := Ground.data }, { on := 19, ground := Ground.data }, { on := 17, ground := Ground.guard }], guard := some (17, true) }) (v := undef) rfl (by kernel_rfl) (by kernel_rfl) (by kernel_rfl) (fun _ _ _ h => h) (Or.inr ⟨by rfl, rfl⟩) (by assumption) ?_
                    simp only [Act.put, List.setIfInBounds_toArray, List.set_cons_zero, List.set_cons_succ]
                    refine wpAnyH_take (i := 21) (oi := { dst := some 83, op := Op.load 40 (Operand.tmp 82), type := 40, pos := "law.go:122", after := #[{ on := 20, ground := Ground.data }, { on := 17, ground := Ground.guard }], guard := some (17, true) }) (v := undef) rfl (by kernel_rfl) (by kernel_rfl) (by kernel_rfl) (fun _ _ _ h => h) (Or.inr ⟨by rfl, rfl⟩) (by assumption) ?_
                    simp only [Act.put, List.setIfInBounds_toArray, List.set_cons_zero, List.set_cons_succ]
                    refine wpAnyH_take (i := 22) (oi := { dst := some 84, op := Op.load 48 (Operand.tmp 8), type := 48, pos := "law.go:122", after := #[{ on := 17, ground := Ground.guard }], guard := some (17, true) }) (v := undef) rfl (by kernel_rfl) (by kernel_rfl) (by kernel_rfl) (fun _ _ _ h => h) (Or.inr ⟨by rfl, rfl⟩) (by assumption) ?_
                    simp only [Act.put, List.setIfInBounds_toArray, List.set_cons_zero, List.set_cons_succ]
                    refine wpAnyH_take (i := 23) (oi := { dst := some 85, op := Op.call { callee := Callee.value (Operand.func 20), args := #[Operand.tmp 83, Operand.tmp 84], argTypes := #[40, 48] }, type := 4, pos := "law.go:122", after := #[{ on := 21, ground := Ground.data }, { on := 22, ground := Ground.data }, { on := 17, ground := Ground.chain }, { on := 17, ground := Ground.guard }], guard := some (17, true) }) (v := undef) rfl (by kernel_rfl) (by kernel_rfl) (by kernel_rfl) (fun _ _ _ h => h) (Or.inr ⟨by rfl, rfl⟩) (by assumption) ?_
                    simp only [Act.put, List.setIfInBounds_toArray, List.set_cons_zero, List.set_cons_succ]
                    refine wpAnyH_take (i := 24) (oi := { dst := some 86, op := Op.unOp UnOp.not 4 (Operand.tmp 85), type := 4, pos := "law.go:122", after := #[{ on := 23, ground := Ground.data }, { on := 17, ground := Ground.guard }], guard := some (17, true) }) (v := undef) rfl (by kernel_rfl) (by kernel_rfl) (by kernel_rfl) (fun _ _ _ h => h) (Or.inr ⟨by rfl, rfl⟩) (by assumption) ?_
                    simp only [Act.put, List.setIfInBounds_toArray, List.set_cons_zero, List.set_cons_succ]
                    refine wpAnyH_take (i := 25) (oi := { dst := some 87, op := Op.pick (Operand.tmp 79) (Operand.tmp 86) (Operand.const (Value.bool false)), type := 4, pos := "law.go:122", after := #[{ on := 17, ground := Ground.data }, { on := 24, ground := Ground.data }], guard := none }) (v := ?_) rfl (by kernel_rfl) (by kernel_rfl) (by kernel_rfl) (fun _ _ _ h => h) (Or.inl ⟨by rfl, ?_⟩) (by assumption) ?_
                    rotate_left
                    · intro w hSw
                      (try dsimp only at hSw)
                      go_simp
                      try with_reducible rfl
                    simp only [Act.put, List.setIfInBounds_toArray, List.set_cons_zero, List.set_cons_succ]
                    refine wpAnyH_done (by kernel_rfl) ?_ _
                    go_wp2_with fail
                    go_meet
                    exact ⟨rfl, hb6'.trans (hb7.mono zz1)⟩
                  | true =>
                    obtain rfl : ry = true := hkey rfl rfl
                    clear hkey
                    go_region_held3 (fun w' => w'.cell? ⟨g, i * 14, none⟩ = some (.int .i64 (x.s 0).how) ∧ w'.cell? ⟨g, i * 14 + 1, none⟩ = some (.int .i64 (x.s 0).lo) ∧ w'.cell? ⟨g, i * 14 + 2, none⟩ = some (.int .i64 (x.s 0).hi) ∧ w'.cell? ⟨g, i * 14 + 3, none⟩ = some (.int .i64 (x.s 1).how) ∧ w'.cell? ⟨g, i * 14 + 4, none⟩ = some (.int .i64 (x.s 1).lo) ∧ w'.cell? ⟨g, i * 14 + 5, none⟩ = some (.int .i64 (x.s 1).hi) ∧ w'.cell? ⟨g, i * 14 + 6, none⟩ = some (.int .i64 (x.s 2).how) ∧ w'.cell? ⟨g, i * 14 + 7, none⟩ = some (.int .i64 (x.s 2).lo) ∧ w'.cell? ⟨g, i * 14 + 8, none⟩ = some (.int .i64 (x.s 2).hi) ∧ w'.cell? ⟨g, i * 14 + 9, none⟩ = some (.int .i64 (x.s 3).how) ∧ w'.cell? ⟨g, i * 14 + 10, none⟩ = some (.int .i64 (x.s 3).lo) ∧ w'.cell? ⟨g, i * 14 + 11, none⟩ = some (.int .i64 (x.s 3).hi) ∧ w'.cell? ⟨g, i * 14 + 12, none⟩ = some (.string x.tag) ∧ w'.cell? ⟨g, i * 14 + 13, none⟩ = some (.slice xo x.nots.length xc) ∧ w'.cell? ⟨g, k * 14, none⟩ = some (.int .i64 (y.s 0).how) ∧ w'.cell? ⟨g, k * 14 + 1, none⟩ = some (.int .i64 (y.s 0).lo) ∧ w'.cell? ⟨g, k * 14 + 2, none⟩ = some (.int .i64 (y.s 0).hi) ∧ w'.cell? ⟨g, k * 14 + 3, none⟩ = some (.int .i64 (y.s 1).how) ∧ w'.cell? ⟨g, k * 14 + 4, none⟩ = some (.int .i64 (y.s 1).lo) ∧ w'.cell? ⟨g, k * 14 + 5, none⟩ = some (.int .i64 (y.s 1).hi) ∧ w'.cell? ⟨g, k * 14 + 6, none⟩ = some (.int .i64 (y.s 2).how) ∧ w'.cell? ⟨g, k * 14 + 7, none⟩ = some (.int .i64 (y.s 2).lo) ∧ w'.cell? ⟨g, k * 14 + 8, none⟩ = some (.int .i64 (y.s 2).hi) ∧ w'.cell? ⟨g, k * 14 + 9, none⟩ = some (.int .i64 (y.s 3).how) ∧ w'.cell? ⟨g, k * 14 + 10, none⟩ = some (.int .i64 (y.s 3).lo) ∧ w'.cell? ⟨g, k * 14 + 11, none⟩ = some (.int .i64 (y.s 3).hi) ∧ w'.cell? ⟨g, k * 14 + 12, none⟩ = some (.string y.tag) ∧ w'.cell? ⟨g, k * 14 + 13, none⟩ = some (.slice yo y.nots.length yc) ∧ w'.cell? ⟨N, 0, none⟩ = some (.int .i64 v.it) ∧ w'.cell? ⟨N, 1, none⟩ = some (.int .i64 v.L) ∧ w'.cell? ⟨N, 2, none⟩ = some (.int .i64 v.R) ∧ w'.cell? ⟨N, 3, none⟩ = some (.int .i64 v.N) ∧ w'.cell? ⟨N, 4, none⟩ = some (.bool v.dead) ∧ w'.cell? ⟨N, 5, none⟩ = some (.slice v.ao v.len v.cap) ∧ w'.cell? ⟨N, 6, none⟩ = some (.string v.tag) ∧ w'.cell? ⟨N, 7, none⟩ = some (.string v.body))
                      (go_keep)
                      (first
                        | (go_at_call 14; refine (c1 wr.drew hbD).mono ?_; rintro e w6 ⟨rfl, hb6⟩; obtain ⟨hcl, hfl, zz1⟩ := callee_old hb6; have hb6' := hbD.trans (hb6.mono (Nat.le_refl _)); have g6 := Nat.lt_of_lt_of_le hgk1 zz1; have n6 := Nat.lt_of_lt_of_le hNr zz1)
                        | (go_at_call_of 20 (xo); refine (c2 w6 hb6').mono ?_; rintro e w7 ⟨rfl, hb7⟩; have hcl7 := fun b o (h : b < w6.heap.size) => hb7.cell (p := ⟨b, o, none⟩) h; have zz7 := hb7.size; have hb7' := hb6'.trans (hb7.mono zz1); have g7 := Nat.lt_of_lt_of_le g6 zz7; have n7 := Nat.lt_of_lt_of_le n6 zz7)
                        | (go_at_call_of 20 (yo); refine (c3 w7 hb7').mono ?_; rintro e w8 ⟨rfl, hb8⟩; have hcl8 := fun b o (h : b < w7.heap.size) => hb8.cell (p := ⟨b, o, none⟩) h))
                    go_wp2_with fail
                    go_meet
                    exact ⟨rfl, hb7'.trans (hb8.mono hb7'.size)⟩
              case rest =>
                obtain ⟨rfl, hbc⟩ := hcut
                have HC : Hid (Below V.heap.size V wc) := HB.out.trans (hbc.mono hsk)
                clear c1 c2 c3 hkey hbc hbD q0 q1 q2 q3 q4 q5 q6 q7 q8 q9 q10 q11 q12 q13 s0 s1 s2 s3 s4 s5 s6 s7 s8 s9 s10 s11 s12 s13 a0 a1 a2 a3 a4 a5 a6 a7
                go_wp2
                go_roundg (L.length - (k + 1))
                case measure => have := HGK.out; omega
                case rel => exact ⟨k + 1, by omega, rfl, by go_num, HC.out⟩
            · obtain rfl : k = L.length := by omega
              have HB : Hid (Below U.heap.size U wr) := HBI.out.trans (hbk.mono HBI.out.size)
              clear hbk
              go_wp2
              go_roundg (L.length - (i + 1))
              case measure => have := HGI.out; omega
              case rel => exact ⟨i + 1, by omega, rfl, by go_num, HB.out⟩
        · obtain rfl : i = L.length := by omega
          have HB : Hid (Below U.heap.size U wr) := hbi
          clear hbi
          go_wp2
          go_roundg (3 - (q + 1))
          case measure => have := HGQ.out; omega
          case rel => exact ⟨q + 1, by omega, rfl, by go_num, Below.pick H5.out.2.2.1 HB.out, H5.out.1.trans (HB.out.mono H5.out.1.size)⟩
    · obtain rfl : q = 3 := by omega
      have HB : Hid (Below w.heap.size w wr) := HR.out.2.2.trans (hbr.mono HR.out.2.2.size)
      clear hbr hp
      go_wp2
      go_ret
      exact ⟨rfl, HB.out⟩

/-- CoverBoxes' walk. -/
theorem cbx_any (a0 : Option Addr) (l0 c0 : Nat) (a1 : Option Addr) (l1 c1 : Nat) (w : World) (r0 : Reads8 w a0 l0) (r1 : Reads8 w a1 l1) :
    Calls Try.prog 7 #[.slice a0 l0 c0, .slice a1 l1 c1] w fun e w' => e = .returned (.bool true) ∧ Below w.heap.size w w' := by
  by_cases h : 60 < l0 ∨ 60 < l1
  · exact cbx_long a0 a1 l0 c0 l1 c1 w r0.1 r1.1 h
  · exact cbx_short a0 a1 l0 c0 l1 c1 w (by omega) (by omega) r0 r1

end Go.Proofs.Ytflpdekifkcfkab
