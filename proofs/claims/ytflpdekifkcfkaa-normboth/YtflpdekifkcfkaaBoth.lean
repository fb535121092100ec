/- NormBoth: where two boxes meet just that is let through that both let through. -/
import Derived.Test.YtflpdekifkcfkaaBoxes
import Derived.Deep.DeepCutAuto
import Derived.Deep.RegionHeld3
import Derived.Deep.RegionWith
namespace Go.Proofs.Ytflpdekifkcfkaa
open Go.RowKit
set_option linter.unusedVariables false

set_option maxHeartbeats 1000000 in
theorem both_long (a0 a1 : Option Addr) (l0 c0 l1 c1 : Nat) (w : World) (h0 : l0 ≤ maxLen) (h1 : l1 ≤ maxLen) (h : 60 < l0 ∨ 60 < l1) :
    Calls Try.prog 6 #[.slice a0 l0 c0, .slice a1 l1 c1] w fun e w' => e = .returned (.bool true) ∧ Below w.heap.size w w' := by
  unfold maxLen at h0 h1
  by_cases h9 : 60 < l0
  · clear h
    go_enter Try.func6, Try.ntmps6
    go_wp2_with fail
    refine (begun9 _).mono ?_
    rintro e w1 ⟨rfl, hb1⟩
    go_wp2
    go_ret
    exact ⟨rfl, hb1⟩
  · have h6 : 60 < l1 := by omega
    clear h
    go_enter Try.func6, Try.ntmps6
    go_wp2_with fail
    refine (begun9 _).mono ?_
    rintro e w1 ⟨rfl, hb1⟩
    go_wp2
    go_ret
    exact ⟨rfl, hb1⟩

set_option maxRecDepth 100000 in
set_option maxHeartbeats 8000000 in
theorem both_short (a0 a1 : Option Addr) (l0 c0 l1 c1 : Nat) (w : World) (h0 : l0 ≤ 60) (h1 : l1 ≤ 60) (r0 : Reads8 w a0 l0) (r1 : Reads8 w a1 l1) :
    Calls Try.prog 6 #[.slice a0 l0 c0, .slice a1 l1 c1] w fun e w' => e = .returned (.bool true) ∧ Below w.heap.size w w' := by
  go_enter Try.func6, Try.ntmps6
  go_wp2_with fail
  refine (begun9 _).mono ?_
  rintro e w1 ⟨rfl, hb1⟩
  replace r0 := reads_below r0 hb1
  replace r1 := reads_below r1 hb1
  go_wp2_with fail
  refine (boxes15 a0 l0 c0 w1 (by omega) r0).mono ?_
  rintro e w2 ⟨vL, L, rfl, rowL, lenL, okL, hb2⟩
  obtain ⟨lo, lc, rfl⟩ := rowL.slice
  replace r1 := reads_below r1 hb2
  have hbw2 : Below w.heap.size w w2 := hb1.trans (hb2.mono hb1.size)
  clear r0 hb1 hb2
  go_wp2_with fail
  refine (made10 _ _ _ _).mono ?_
  rintro e W ⟨rfl, hW⟩
  have hp1 : Pick W w2.heap.size := by rw [hW]; exact pick_made r1 (by omega)
  have hbW : Below w2.heap.size w2 W := by rw [hW]; exact (Below.refl _ _).alloc (Nat.le_refl _) _
  clear hW r1
  have HR : Hid (RowB w1.heap.size w2 (.slice lo L.length lc) L ∧ (∀ x ∈ L, x.ok 32) ∧ Below w.heap.size w w2) := ⟨rowL, okL, hbw2⟩
  clear rowL okL hbw2
  go_wp2_with fail
  go_loopg [7] 3 (fun gg ii wr => ∃ q : Nat, q ≤ 3 ∧ gg = 3 - q ∧ ii = .int .i64 q ∧ Pick wr w2.heap.size ∧ Below w2.heap.size w2 wr)
  case atStart => exact ⟨0, by omega, rfl, rfl, hp1, hbW⟩
  case round =>
    clear hp1 hbW
    obtain ⟨q, hq, hgq, rfl, hp, hbr⟩ := hrel
    have HGQ : Hid (gk = 3 - q) := hgq
    clear hgq
    by_cases hqt : q < 3
    · have hqi : (q : Int) < 3 := by omega
      go_wp2_with fail
      refine (version12 w2.heap.size wr hp).mono ?_
      rintro e w5 ⟨v, al, rfl, hsm, hhas, hw5⟩
      have hb5 : Below w2.heap.size w2 w5 := hbr.trans (hw5.2.below hbr.size (fun k hk => by unfold But; omega))
      have hh5 : Has Any w5 v al := hhas.mono (fun _ _ _ => trivial)
      have hp5 := hw5.1
      clear hp hbr hhas hw5
      unfold Vs.val
      go_wp2_with fail
      obtain ⟨U, hU⟩ : ∃ U, U = w5.alloc (.cells #[.int .i64 v.it, .int .i64 v.L, .int .i64 v.R, .int .i64 v.N, .bool v.dead, .slice v.ao v.len v.cap, .string v.tag, .string v.body] 40) := ⟨_, rfl⟩
      rw [← hU]
      have hbU : Below w5.heap.size w5 U := by rw [hU]; exact (Below.refl _ _).alloc (Nat.le_refl _) _
      have hsU : w5.heap.size < U.heap.size := by rw [hU]; simp
      have vc : ∀ i, U.cell? ⟨w5.heap.size, i, none⟩ = (#[.int .i64 v.it, .int .i64 v.L, .int .i64 v.R, .int .i64 v.N, .bool v.dead, .slice v.ao v.len v.cap, .string v.tag, .string v.body] : Array Value)[i]? := fun i => by rw [hU]; simp
      have H5 : Hid (Below w2.heap.size w2 U ∧ Has Any U v al ∧ Pick U w2.heap.size ∧ w5.heap.size < U.heap.size ∧ ∀ i, U.cell? ⟨w5.heap.size, i, none⟩ = (#[.int .i64 v.it, .int .i64 v.L, .int .i64 v.R, .int .i64 v.N, .bool v.dead, .slice v.ao v.len v.cap, .string v.tag, .string v.body] : Array Value)[i]?) := ⟨hb5.trans (hbU.mono hb5.size), hh5.below hbU, Below.pick hp5 hbU, hsU, vc⟩
      clear hU hbU hb5 hh5 hp5 hsU vc
      generalize w5.heap.size = N at *
      clear w5
      go_loopg [9] L.length (fun gg ii wr => ∃ i : Nat, i ≤ L.length ∧ gg = L.length - i ∧ ii = .int .i64 i ∧ Below U.heap.size U wr)
      case atStart => exact ⟨0, by omega, rfl, rfl, Below.refl _ _⟩
      case round =>
        obtain ⟨i, hi, hgi, rfl, hbi⟩ := hrel
        have HGI : Hid (gk = L.length - i) := hgi
        clear hgi
        by_cases hit : i < L.length
        · have hii : (i : Int) < (L.length : Int) := by omega
          go_wp2_with fail
          go_loopg [10] L.length (fun gg ii wr => ∃ k : Nat, k ≤ L.length ∧ gg = L.length - k ∧ ii = .int .i64 k ∧ Below U.heap.size U wr)
          case atStart => exact ⟨0, by omega, rfl, rfl, hbi⟩
          case round =>
            clear hbi
            obtain ⟨k, hk, hgk, rfl, hbk⟩ := hrel
            have HGK : Hid (gk = L.length - k) := hgk
            clear hgk
            by_cases hkt : k < L.length
            · have hki : (k : Int) < (L.length : Int) := by omega
              have hb2k : Below w2.heap.size w2 wr := H5.out.1.trans (hbk.mono H5.out.1.size)
              obtain ⟨g1, xo, xc, rfl, _, hg1, nx, hc1⟩ := (HR.out.1.below hb2k).at i hit
              obtain ⟨g2, yo, yc, e2, _, hg2, ny, hc2⟩ := (HR.out.1.below hb2k).at k hkt
              obtain rfl : g1 = g2 := by simpa using e2
              clear e2 hg2
              have ox := HR.out.2.1 _ (List.getElem_mem hit)
              have oy := HR.out.2.1 _ (List.getElem_mem hkt)
              obtain ⟨x, hx⟩ : ∃ x, x = L[i] := ⟨_, rfl⟩
              obtain ⟨y, hy⟩ : ∃ y, y = L[k] := ⟨_, rfl⟩
              rw [← hx] at nx hc1 ox
              rw [← hy] at ny hc2 oy
              clear hx hy
              have q0 : wr.cell? ⟨g1, i * 14, none⟩ = some (.int .i64 (x.s 0).how) := hc1 0 _ rfl
              have q1 : wr.cell? ⟨g1, i * 14 + 1, none⟩ = some (.int .i64 (x.s 0).lo) := hc1 1 _ rfl
              have q2 : wr.cell? ⟨g1, i * 14 + 2, none⟩ = some (.int .i64 (x.s 0).hi) := hc1 2 _ rfl
              have q3 : wr.cell? ⟨g1, i * 14 + 3, none⟩ = some (.int .i64 (x.s 1).how) := hc1 3 _ rfl
              have q4 : wr.cell? ⟨g1, i * 14 + 4, none⟩ = some (.int .i64 (x.s 1).lo) := hc1 4 _ rfl
              have q5 : wr.cell? ⟨g1, i * 14 + 5, none⟩ = some (.int .i64 (x.s 1).hi) := hc1 5 _ rfl
              have q6 : wr.cell? ⟨g1, i * 14 + 6, none⟩ = some (.int .i64 (x.s 2).how) := hc1 6 _ rfl
              have q7 : wr.cell? ⟨g1, i * 14 + 7, none⟩ = some (.int .i64 (x.s 2).lo) := hc1 7 _ rfl
              have q8 : wr.cell? ⟨g1, i * 14 + 8, none⟩ = some (.int .i64 (x.s 2).hi) := hc1 8 _ rfl
              have q9 : wr.cell? ⟨g1, i * 14 + 9, none⟩ = some (.int .i64 (x.s 3).how) := hc1 9 _ rfl
              have q10 : wr.cell? ⟨g1, i * 14 + 10, none⟩ = some (.int .i64 (x.s 3).lo) := hc1 10 _ rfl
              have q11 : wr.cell? ⟨g1, i * 14 + 11, none⟩ = some (.int .i64 (x.s 3).hi) := hc1 11 _ rfl
              have q12 : wr.cell? ⟨g1, i * 14 + 12, none⟩ = some (.string x.tag) := hc1 12 _ rfl
              have q13 : wr.cell? ⟨g1, i * 14 + 13, none⟩ = some (.slice xo x.nots.length xc) := hc1 13 _ rfl
              have s0 : wr.cell? ⟨g1, k * 14, none⟩ = some (.int .i64 (y.s 0).how) := hc2 0 _ rfl
              have s1 : wr.cell? ⟨g1, k * 14 + 1, none⟩ = some (.int .i64 (y.s 0).lo) := hc2 1 _ rfl
              have s2 : wr.cell? ⟨g1, k * 14 + 2, none⟩ = some (.int .i64 (y.s 0).hi) := hc2 2 _ rfl
              have s3 : wr.cell? ⟨g1, k * 14 + 3, none⟩ = some (.int .i64 (y.s 1).how) := hc2 3 _ rfl
              have s4 : wr.cell? ⟨g1, k * 14 + 4, none⟩ = some (.int .i64 (y.s 1).lo) := hc2 4 _ rfl
              have s5 : wr.cell? ⟨g1, k * 14 + 5, none⟩ = some (.int .i64 (y.s 1).hi) := hc2 5 _ rfl
              have s6 : wr.cell? ⟨g1, k * 14 + 6, none⟩ = some (.int .i64 (y.s 2).how) := hc2 6 _ rfl
              have s7 : wr.cell? ⟨g1, k * 14 + 7, none⟩ = some (.int .i64 (y.s 2).lo) := hc2 7 _ rfl
              have s8 : wr.cell? ⟨g1, k * 14 + 8, none⟩ = some (.int .i64 (y.s 2).hi) := hc2 8 _ rfl
              have s9 : wr.cell? ⟨g1, k * 14 + 9, none⟩ = some (.int .i64 (y.s 3).how) := hc2 9 _ rfl
              have s10 : wr.cell? ⟨g1, k * 14 + 10, none⟩ = some (.int .i64 (y.s 3).lo) := hc2 10 _ rfl
              have s11 : wr.cell? ⟨g1, k * 14 + 11, none⟩ = some (.int .i64 (y.s 3).hi) := hc2 11 _ rfl
              have s12 : wr.cell? ⟨g1, k * 14 + 12, none⟩ = some (.string y.tag) := hc2 12 _ rfl
              have s13 : wr.cell? ⟨g1, k * 14 + 13, none⟩ = some (.slice yo y.nots.length yc) := hc2 13 _ rfl
              have cm := fun w' (hb : Below wr.heap.size wr w') => meet19 x y xo yo xc yc 32 32 _ _ w' ox oy (by omega) (by omega) (nx.below hb) (ny.below hb)
              obtain ⟨mr, hmr⟩ : ∃ mr, mr = Ev.meet x y := ⟨_, rfl⟩
              rw [← hmr] at cm
              have HMR : Hid (mr = Ev.meet x y) := hmr
              obtain ⟨z, hz⟩ : ∃ z, z = mr.getD Ev.zero := ⟨_, rfl⟩
              obtain ⟨mk, hmk⟩ : ∃ mk, mk = mr.isSome := ⟨_, rfl⟩
              unfold MPost at cm
              rw [← hz, ← hmk] at cm
              have HZ : Hid (z = mr.getD Ev.zero ∧ mk = mr.isSome) := ⟨hz, hmk⟩
              unfold Bval at cm
              have hbA : Below wr.heap.size wr (wr.alloc (.cells #[.int .i64 0, .int .i64 0, .int .i64 0, .int .i64 0, .int .i64 0, .int .i64 0, .int .i64 0, .int .i64 0, .int .i64 0, .int .i64 0, .int .i64 0, .int .i64 0, .string ⟨#[]⟩, .slice none 0 0] 48)).drew := ((Below.refl _ _).alloc (Nat.le_refl _) _).drew
              have hbD : Below wr.heap.size wr wr.drew := (Below.refl _ _).drew
              have HI : Hid (Below U.heap.size U wr ∧ Nt w1.heap.size wr xo xc x.nots ∧ Below wr.heap.size wr (wr.alloc (.cells #[.int .i64 0, .int .i64 0, .int .i64 0, .int .i64 0, .int .i64 0, .int .i64 0, .int .i64 0, .int .i64 0, .int .i64 0, .int .i64 0, .int .i64 0, .int .i64 0, .string ⟨#[]⟩, .slice none 0 0] 48)).drew ∧ Below wr.heap.size wr wr.drew ∧ Nt w1.heap.size wr yo yc y.nots ∧ x.ok 32 ∧ y.ok 32) := ⟨hbk, nx, hbA, hbD, ny, ox, oy⟩
              have HC : Hid ((∀ i' u, (bcells (x, xo, xc))[i']? = some u → wr.cell? ⟨g1, i * 14 + i', none⟩ = some u) ∧ (∀ i' u, (bcells (y, yo, yc))[i']? = some u → wr.cell? ⟨g1, k * 14 + i', none⟩ = some u)) := ⟨hc1, hc2⟩
              have n1' : wr.heap.size ≠ g1 := by omega
              clear hmr hz hmk nx ny ox oy hbk hb2k hbA hbD hc1 hc2
              go_wp2_with fail
              go_cut [11, 12] (fun s16 s17 wx => ∃ nn o cap, s16 = .pointer (some ⟨nn, 0, none⟩) ∧ s17 = .bool mk ∧ wx.heap[nn]? = some (.cells #[.int .i64 (z.s 0).how, .int .i64 (z.s 0).lo, .int .i64 (z.s 0).hi, .int .i64 (z.s 1).how, .int .i64 (z.s 1).lo, .int .i64 (z.s 1).hi, .int .i64 (z.s 2).how, .int .i64 (z.s 2).lo, .int .i64 (z.s 2).hi, .int .i64 (z.s 3).how, .int .i64 (z.s 3).lo, .int .i64 (z.s 3).hi, .string z.tag, .slice o z.nots.length cap] 48 (0, 0)) ∧ Nt wr.heap.size wx o cap z.nots ∧ Below wr.heap.size wr wx)
              case first =>
                go_region_held3 (fun w' => w'.cell? ⟨g1, i * 14, none⟩ = some (.int .i64 (x.s 0).how) ∧ w'.cell? ⟨g1, i * 14 + 1, none⟩ = some (.int .i64 (x.s 0).lo) ∧ w'.cell? ⟨g1, i * 14 + 2, none⟩ = some (.int .i64 (x.s 0).hi) ∧ w'.cell? ⟨g1, i * 14 + 3, none⟩ = some (.int .i64 (x.s 1).how) ∧ w'.cell? ⟨g1, i * 14 + 4, none⟩ = some (.int .i64 (x.s 1).lo) ∧ w'.cell? ⟨g1, i * 14 + 5, none⟩ = some (.int .i64 (x.s 1).hi) ∧ w'.cell? ⟨g1, i * 14 + 6, none⟩ = some (.int .i64 (x.s 2).how) ∧ w'.cell? ⟨g1, i * 14 + 7, none⟩ = some (.int .i64 (x.s 2).lo) ∧ w'.cell? ⟨g1, i * 14 + 8, none⟩ = some (.int .i64 (x.s 2).hi) ∧ w'.cell? ⟨g1, i * 14 + 9, none⟩ = some (.int .i64 (x.s 3).how) ∧ w'.cell? ⟨g1, i * 14 + 10, none⟩ = some (.int .i64 (x.s 3).lo) ∧ w'.cell? ⟨g1, i * 14 + 11, none⟩ = some (.int .i64 (x.s 3).hi) ∧ w'.cell? ⟨g1, i * 14 + 12, none⟩ = some (.string x.tag) ∧ w'.cell? ⟨g1, i * 14 + 13, none⟩ = some (.slice xo x.nots.length xc) ∧ w'.cell? ⟨g1, k * 14, none⟩ = some (.int .i64 (y.s 0).how) ∧ w'.cell? ⟨g1, k * 14 + 1, none⟩ = some (.int .i64 (y.s 0).lo) ∧ w'.cell? ⟨g1, k * 14 + 2, none⟩ = some (.int .i64 (y.s 0).hi) ∧ w'.cell? ⟨g1, k * 14 + 3, none⟩ = some (.int .i64 (y.s 1).how) ∧ w'.cell? ⟨g1, k * 14 + 4, none⟩ = some (.int .i64 (y.s 1).lo) ∧ w'.cell? ⟨g1, k * 14 + 5, none⟩ = some (.int .i64 (y.s 1).hi) ∧ w'.cell? ⟨g1, k * 14 + 6, none⟩ = some (.int .i64 (y.s 2).how) ∧ w'.cell? ⟨g1, k * 14 + 7, none⟩ = some (.int .i64 (y.s 2).lo) ∧ w'.cell? ⟨g1, k * 14 + 8, none⟩ = some (.int .i64 (y.s 2).hi) ∧ w'.cell? ⟨g1, k * 14 + 9, none⟩ = some (.int .i64 (y.s 3).how) ∧ w'.cell? ⟨g1, k * 14 + 10, none⟩ = some (.int .i64 (y.s 3).lo) ∧ w'.cell? ⟨g1, k * 14 + 11, none⟩ = some (.int .i64 (y.s 3).hi) ∧ w'.cell? ⟨g1, k * 14 + 12, none⟩ = some (.string y.tag) ∧ w'.cell? ⟨g1, k * 14 + 13, none⟩ = some (.slice yo y.nots.length yc))
                  (go_keep)
                  (first
                    | (go_at_call 19; refine (cm (wr.alloc (.cells #[.int .i64 0, .int .i64 0, .int .i64 0, .int .i64 0, .int .i64 0, .int .i64 0, .int .i64 0, .int .i64 0, .int .i64 0, .int .i64 0, .int .i64 0, .int .i64 0, .string ⟨#[]⟩, .slice none 0 0] 48)).drew HI.out.2.2.1).mono ?_; rintro e w3 ⟨hb3, o, cap, rfl, hnt⟩; obtain ⟨hcl, hfl, zz1⟩ := callee_new hb3; obtain ⟨hn1, hf1⟩ := callee_own hb3)
                    | (go_at_call 19; refine (cm wr.drew HI.out.2.2.2.1).mono ?_; rintro e w3 ⟨hb3, o, cap, rfl, hnt⟩; obtain ⟨hcl, hfl, zz1⟩ := callee_old hb3; have o1' := callee_ne zz1 hg1))
                · go_wp2_with fail
                  go_meet
                  have hbx : Below wr.heap.size wr w3 := (HI.out.2.2.2.1).trans (hb3.mono (by exact Nat.le_refl _))
                  exact ⟨w3.heap.size, o, cap, rfl, rfl, heap_alloc_new _ _, (hnt.below ((Below.refl _ _).alloc (Nat.le_refl _) _)), hbx.alloc hbx.size _⟩
                · go_wp2_with fail
                  go_meet
                  have hbx : Below wr.heap.size wr w3 := (HI.out.2.2.1).trans (hb3.mono HI.out.2.2.1.size)
                  have KK : w3.heap[wr.heap.size]? = some (.cells #[.int .i64 0, .int .i64 0, .int .i64 0, .int .i64 0, .int .i64 0, .int .i64 0, .int .i64 0, .int .i64 0, .int .i64 0, .int .i64 0, .int .i64 0, .int .i64 0, .string ⟨#[]⟩, .slice none 0 0] 48 (0, 0)) := (hb3.block _ (by simp)).trans (heap_at _ _ rfl)
                  exact ⟨wr.heap.size, o, cap, rfl, rfl, set14 KK _ _ _ _ _ _ _ _ _ _ _ _ _ _, (hnt.mono HI.out.2.2.1.size).keep (fun b c _ hc => far14 (by intro e; rw [← e, KK] at hc; simp at hc) _ _ _ _ _ _ _ _ _ _ _ _ _ _), below14 hbx (Nat.le_refl _) _ _ _ _ _ _ _ _ _ _ _ _ _ _⟩
              case rest =>
                obtain ⟨nn, o, cap, rfl, rfl, hnn, hnz, hbx⟩ := hcut
                obtain ⟨X, hX⟩ : ∃ X, X = wc := ⟨_, rfl⟩
                subst hX
                have hszx := hbx.size
                have hUX : Below U.heap.size U X := HI.out.1.trans (hbx.mono HI.out.1.size)
                have hNX : N < X.heap.size := Nat.lt_of_lt_of_le H5.out.2.2.2.1 hUX.size
                have hgX : g1 < X.heap.size := by omega
                clear q0 q1 q2 q3 q4 q5 q6 q7 q8 q9 q10 q11 q12 q13 s0 s1 s2 s3 s4 s5 s6 s7 s8 s9 s10 s11 s12 s13
                have q0 : X.cell? ⟨g1, i * 14, none⟩ = some (.int .i64 (x.s 0).how) := (hbx.cell (p := ⟨g1, i * 14, none⟩) hg1).trans (HC.out.1 0 _ rfl)
                have q1 : X.cell? ⟨g1, i * 14 + 1, none⟩ = some (.int .i64 (x.s 0).lo) := (hbx.cell (p := ⟨g1, i * 14 + 1, none⟩) hg1).trans (HC.out.1 1 _ rfl)
                have q2 : X.cell? ⟨g1, i * 14 + 2, none⟩ = some (.int .i64 (x.s 0).hi) := (hbx.cell (p := ⟨g1, i * 14 + 2, none⟩) hg1).trans (HC.out.1 2 _ rfl)
                have q3 : X.cell? ⟨g1, i * 14 + 3, none⟩ = some (.int .i64 (x.s 1).how) := (hbx.cell (p := ⟨g1, i * 14 + 3, none⟩) hg1).trans (HC.out.1 3 _ rfl)
                have q4 : X.cell? ⟨g1, i * 14 + 4, none⟩ = some (.int .i64 (x.s 1).lo) := (hbx.cell (p := ⟨g1, i * 14 + 4, none⟩) hg1).trans (HC.out.1 4 _ rfl)
                have q5 : X.cell? ⟨g1, i * 14 + 5, none⟩ = some (.int .i64 (x.s 1).hi) := (hbx.cell (p := ⟨g1, i * 14 + 5, none⟩) hg1).trans (HC.out.1 5 _ rfl)
                have q6 : X.cell? ⟨g1, i * 14 + 6, none⟩ = some (.int .i64 (x.s 2).how) := (hbx.cell (p := ⟨g1, i * 14 + 6, none⟩) hg1).trans (HC.out.1 6 _ rfl)
                have q7 : X.cell? ⟨g1, i * 14 + 7, none⟩ = some (.int .i64 (x.s 2).lo) := (hbx.cell (p := ⟨g1, i * 14 + 7, none⟩) hg1).trans (HC.out.1 7 _ rfl)
                have q8 : X.cell? ⟨g1, i * 14 + 8, none⟩ = some (.int .i64 (x.s 2).hi) := (hbx.cell (p := ⟨g1, i * 14 + 8, none⟩) hg1).trans (HC.out.1 8 _ rfl)
                have q9 : X.cell? ⟨g1, i * 14 + 9, none⟩ = some (.int .i64 (x.s 3).how) := (hbx.cell (p := ⟨g1, i * 14 + 9, none⟩) hg1).trans (HC.out.1 9 _ rfl)
                have q10 : X.cell? ⟨g1, i * 14 + 10, none⟩ = some (.int .i64 (x.s 3).lo) := (hbx.cell (p := ⟨g1, i * 14 + 10, none⟩) hg1).trans (HC.out.1 10 _ rfl)
                have q11 : X.cell? ⟨g1, i * 14 + 11, none⟩ = some (.int .i64 (x.s 3).hi) := (hbx.cell (p := ⟨g1, i * 14 + 11, none⟩) hg1).trans (HC.out.1 11 _ rfl)
                have q12 : X.cell? ⟨g1, i * 14 + 12, none⟩ = some (.string x.tag) := (hbx.cell (p := ⟨g1, i * 14 + 12, none⟩) hg1).trans (HC.out.1 12 _ rfl)
                have q13 : X.cell? ⟨g1, i * 14 + 13, none⟩ = some (.slice xo x.nots.length xc) := (hbx.cell (p := ⟨g1, i * 14 + 13, none⟩) hg1).trans (HC.out.1 13 _ rfl)
                have s0 : X.cell? ⟨g1, k * 14, none⟩ = some (.int .i64 (y.s 0).how) := (hbx.cell (p := ⟨g1, k * 14, none⟩) hg1).trans (HC.out.2 0 _ rfl)
                have s1 : X.cell? ⟨g1, k * 14 + 1, none⟩ = some (.int .i64 (y.s 0).lo) := (hbx.cell (p := ⟨g1, k * 14 + 1, none⟩) hg1).trans (HC.out.2 1 _ rfl)
                have s2 : X.cell? ⟨g1, k * 14 + 2, none⟩ = some (.int .i64 (y.s 0).hi) := (hbx.cell (p := ⟨g1, k * 14 + 2, none⟩) hg1).trans (HC.out.2 2 _ rfl)
                have s3 : X.cell? ⟨g1, k * 14 + 3, none⟩ = some (.int .i64 (y.s 1).how) := (hbx.cell (p := ⟨g1, k * 14 + 3, none⟩) hg1).trans (HC.out.2 3 _ rfl)
                have s4 : X.cell? ⟨g1, k * 14 + 4, none⟩ = some (.int .i64 (y.s 1).lo) := (hbx.cell (p := ⟨g1, k * 14 + 4, none⟩) hg1).trans (HC.out.2 4 _ rfl)
                have s5 : X.cell? ⟨g1, k * 14 + 5, none⟩ = some (.int .i64 (y.s 1).hi) := (hbx.cell (p := ⟨g1, k * 14 + 5, none⟩) hg1).trans (HC.out.2 5 _ rfl)
                have s6 : X.cell? ⟨g1, k * 14 + 6, none⟩ = some (.int .i64 (y.s 2).how) := (hbx.cell (p := ⟨g1, k * 14 + 6, none⟩) hg1).trans (HC.out.2 6 _ rfl)
                have s7 : X.cell? ⟨g1, k * 14 + 7, none⟩ = some (.int .i64 (y.s 2).lo) := (hbx.cell (p := ⟨g1, k * 14 + 7, none⟩) hg1).trans (HC.out.2 7 _ rfl)
                have s8 : X.cell? ⟨g1, k * 14 + 8, none⟩ = some (.int .i64 (y.s 2).hi) := (hbx.cell (p := ⟨g1, k * 14 + 8, none⟩) hg1).trans (HC.out.2 8 _ rfl)
                have s9 : X.cell? ⟨g1, k * 14 + 9, none⟩ = some (.int .i64 (y.s 3).how) := (hbx.cell (p := ⟨g1, k * 14 + 9, none⟩) hg1).trans (HC.out.2 9 _ rfl)
                have s10 : X.cell? ⟨g1, k * 14 + 10, none⟩ = some (.int .i64 (y.s 3).lo) := (hbx.cell (p := ⟨g1, k * 14 + 10, none⟩) hg1).trans (HC.out.2 10 _ rfl)
                have s11 : X.cell? ⟨g1, k * 14 + 11, none⟩ = some (.int .i64 (y.s 3).hi) := (hbx.cell (p := ⟨g1, k * 14 + 11, none⟩) hg1).trans (HC.out.2 11 _ rfl)
                have s12 : X.cell? ⟨g1, k * 14 + 12, none⟩ = some (.string y.tag) := (hbx.cell (p := ⟨g1, k * 14 + 12, none⟩) hg1).trans (HC.out.2 12 _ rfl)
                have s13 : X.cell? ⟨g1, k * 14 + 13, none⟩ = some (.slice yo y.nots.length yc) := (hbx.cell (p := ⟨g1, k * 14 + 13, none⟩) hg1).trans (HC.out.2 13 _ rfl)
                have a0 : X.cell? ⟨N, 0, none⟩ = some (.int .i64 v.it) := (hUX.cell (p := ⟨N, 0, none⟩) H5.out.2.2.2.1).trans ((H5.out.2.2.2.2 0).trans rfl)
                have a1 : X.cell? ⟨N, 1, none⟩ = some (.int .i64 v.L) := (hUX.cell (p := ⟨N, 1, none⟩) H5.out.2.2.2.1).trans ((H5.out.2.2.2.2 1).trans rfl)
                have a2 : X.cell? ⟨N, 2, none⟩ = some (.int .i64 v.R) := (hUX.cell (p := ⟨N, 2, none⟩) H5.out.2.2.2.1).trans ((H5.out.2.2.2.2 2).trans rfl)
                have a3 : X.cell? ⟨N, 3, none⟩ = some (.int .i64 v.N) := (hUX.cell (p := ⟨N, 3, none⟩) H5.out.2.2.2.1).trans ((H5.out.2.2.2.2 3).trans rfl)
                have a4 : X.cell? ⟨N, 4, none⟩ = some (.bool v.dead) := (hUX.cell (p := ⟨N, 4, none⟩) H5.out.2.2.2.1).trans ((H5.out.2.2.2.2 4).trans rfl)
                have a5 : X.cell? ⟨N, 5, none⟩ = some (.slice v.ao v.len v.cap) := (hUX.cell (p := ⟨N, 5, none⟩) H5.out.2.2.2.1).trans ((H5.out.2.2.2.2 5).trans rfl)
                have a6 : X.cell? ⟨N, 6, none⟩ = some (.string v.tag) := (hUX.cell (p := ⟨N, 6, none⟩) H5.out.2.2.2.1).trans ((H5.out.2.2.2.2 6).trans rfl)
                have a7 : X.cell? ⟨N, 7, none⟩ = some (.string v.body) := (hUX.cell (p := ⟨N, 7, none⟩) H5.out.2.2.2.1).trans ((H5.out.2.2.2.2 7).trans rfl)
                have cx := fun w' (hb : Below X.heap.size X w') => lets17 x xo xc 32 v al w' HI.out.2.2.2.2.2.1 (by omega) (((HI.out.2.1.below hbx).below hb).txts) ((H5.out.2.1.below hUX).below hb)
                have cy := fun w' (hb : Below X.heap.size X w') => lets17 y yo yc 32 v al w' HI.out.2.2.2.2.2.2 (by omega) (((HI.out.2.2.2.2.1.below hbx).below hb).txts) ((H5.out.2.1.below hUX).below hb)
                have hzl : (mk = true → z.ok 64 ∧ z.lets al v.tag = (x.lets al v.tag && y.lets al v.tag)) ∧ (mk = false → (x.lets al v.tag && y.lets al v.tag) = false) := by
                  obtain ⟨e1, e2⟩ := HZ.out
                  have e3 := HMR.out
                  cases mr with
                  | none => exact ⟨fun h => (by rw [h] at e2; cases e2), fun _ => Ev.meet_none hsm v.tag HI.out.2.2.2.2.2.1 HI.out.2.2.2.2.2.2 e3.symm⟩
                  | some z' =>
                    have := Ev.meet_some hsm v.tag HI.out.2.2.2.2.2.1 HI.out.2.2.2.2.2.2 e3.symm
                    rw [e1]
                    exact ⟨fun _ => ⟨this.2, this.1⟩, fun h => (by rw [h] at e2; cases e2)⟩
                have cz := fun (h : mk = true) w' (hb : Below X.heap.size X w') => lets17 z o cap 64 v al w' (hzl.1 h).1 (by omega) (hnz.below hb).txts ((H5.out.2.1.below hUX).below hb)
                have HCZ : Hid (∀ (h : mk = true) w' (hb : Below X.heap.size X w'), Calls Try.prog 17 #[Bval z o cap, v.val] w' fun e w'' => e = .returned (.bool (z.lets al v.tag)) ∧ Below w'.heap.size w' w'') := cz
                have HZL : Hid _ := hzl
                have HZC : Hid (∀ i, X.cell? ⟨nn, i, none⟩ = (#[.int .i64 (z.s 0).how, .int .i64 (z.s 0).lo, .int .i64 (z.s 0).hi, .int .i64 (z.s 1).how, .int .i64 (z.s 1).lo, .int .i64 (z.s 1).hi, .int .i64 (z.s 2).how, .int .i64 (z.s 2).lo, .int .i64 (z.s 2).hi, .int .i64 (z.s 3).how, .int .i64 (z.s 3).lo, .int .i64 (z.s 3).hi, .string z.tag, .slice o z.nots.length cap] : Array Value)[i]?) := (cells_of hnn).1
                have HVC : Hid (∀ i u, (#[.int .i64 v.it, .int .i64 v.L, .int .i64 v.R, .int .i64 v.N, .bool v.dead, .slice v.ao v.len v.cap, .string v.tag, .string v.body] : Array Value)[i]? = some u → X.cell? ⟨N, i, none⟩ = some u) := fun i u h => (hUX.cell (p := ⟨N, i, none⟩) H5.out.2.2.2.1).trans ((H5.out.2.2.2.2 i).trans h)
                have hnl : nn < X.heap.size := by
                  by_cases hlt : nn < X.heap.size
                  · exact hlt
                  · rw [Array.getElem?_eq_none (by omega)] at hnn; cases hnn
                have HUX : Hid (Below U.heap.size U X) := hUX
                unfold Bval Vs.val at cx cy
                clear cz hzl hnn hnz hUX hbx HMR HZ cm HC
                obtain ⟨rx, hrx⟩ : ∃ rx, rx = x.lets al v.tag := ⟨_, rfl⟩
                obtain ⟨ry, hry⟩ : ∃ ry, ry = y.lets al v.tag := ⟨_, rfl⟩
                rw [← hrx] at cx HZL
                rw [← hry] at cy HZL
                clear hrx hry
                have hbXd : Below X.heap.size X X.drew := (Below.refl _ X).drew
                go_wp2_with fail
                go_cut [13] (fun s13 wx => s13 = .bool (rx && ry) ∧ Below X.heap.size X wx)
                case first =>
                  cases rx with
                  | false =>
                    clear cy s0 s1 s2 s3 s4 s5 s6 s7 s8 s9 s10 s11 s12 s13
                    first
                      | (go_region_with (first
                          | (go_at_call 17; refine (cx _ hbXd).mono ?_; rintro e w6 ⟨rfl, hb6⟩; obtain ⟨hcl, hfl, zz1⟩ := callee_old hb6)))
                      | fail
                    all_goals
                      go_wp2_with fail
                      go_meet
                      exact ⟨rfl, hbXd.trans (hb6.mono (Nat.le_refl _))⟩
                  | true =>
                    go_region_held3 (fun w' => w'.cell? ⟨g1, i * 14, none⟩ = some (.int .i64 (x.s 0).how) ∧ w'.cell? ⟨g1, i * 14 + 1, none⟩ = some (.int .i64 (x.s 0).lo) ∧ w'.cell? ⟨g1, i * 14 + 2, none⟩ = some (.int .i64 (x.s 0).hi) ∧ w'.cell? ⟨g1, i * 14 + 3, none⟩ = some (.int .i64 (x.s 1).how) ∧ w'.cell? ⟨g1, i * 14 + 4, none⟩ = some (.int .i64 (x.s 1).lo) ∧ w'.cell? ⟨g1, i * 14 + 5, none⟩ = some (.int .i64 (x.s 1).hi) ∧ w'.cell? ⟨g1, i * 14 + 6, none⟩ = some (.int .i64 (x.s 2).how) ∧ w'.cell? ⟨g1, i * 14 + 7, none⟩ = some (.int .i64 (x.s 2).lo) ∧ w'.cell? ⟨g1, i * 14 + 8, none⟩ = some (.int .i64 (x.s 2).hi) ∧ w'.cell? ⟨g1, i * 14 + 9, none⟩ = some (.int .i64 (x.s 3).how) ∧ w'.cell? ⟨g1, i * 14 + 10, none⟩ = some (.int .i64 (x.s 3).lo) ∧ w'.cell? ⟨g1, i * 14 + 11, none⟩ = some (.int .i64 (x.s 3).hi) ∧ w'.cell? ⟨g1, i * 14 + 12, none⟩ = some (.string x.tag) ∧ w'.cell? ⟨g1, i * 14 + 13, none⟩ = some (.slice xo x.nots.length xc) ∧ w'.cell? ⟨g1, k * 14, none⟩ = some (.int .i64 (y.s 0).how) ∧ w'.cell? ⟨g1, k * 14 + 1, none⟩ = some (.int .i64 (y.s 0).lo) ∧ w'.cell? ⟨g1, k * 14 + 2, none⟩ = some (.int .i64 (y.s 0).hi) ∧ w'.cell? ⟨g1, k * 14 + 3, none⟩ = some (.int .i64 (y.s 1).how) ∧ w'.cell? ⟨g1, k * 14 + 4, none⟩ = some (.int .i64 (y.s 1).lo) ∧ w'.cell? ⟨g1, k * 14 + 5, none⟩ = some (.int .i64 (y.s 1).hi) ∧ w'.cell? ⟨g1, k * 14 + 6, none⟩ = some (.int .i64 (y.s 2).how) ∧ w'.cell? ⟨g1, k * 14 + 7, none⟩ = some (.int .i64 (y.s 2).lo) ∧ w'.cell? ⟨g1, k * 14 + 8, none⟩ = some (.int .i64 (y.s 2).hi) ∧ w'.cell? ⟨g1, k * 14 + 9, none⟩ = some (.int .i64 (y.s 3).how) ∧ w'.cell? ⟨g1, k * 14 + 10, none⟩ = some (.int .i64 (y.s 3).lo) ∧ w'.cell? ⟨g1, k * 14 + 11, none⟩ = some (.int .i64 (y.s 3).hi) ∧ w'.cell? ⟨g1, k * 14 + 12, none⟩ = some (.string y.tag) ∧ w'.cell? ⟨g1, k * 14 + 13, none⟩ = some (.slice yo y.nots.length yc) ∧ w'.cell? ⟨N, 0, none⟩ = some (.int .i64 v.it) ∧ w'.cell? ⟨N, 1, none⟩ = some (.int .i64 v.L) ∧ w'.cell? ⟨N, 2, none⟩ = some (.int .i64 v.R) ∧ w'.cell? ⟨N, 3, none⟩ = some (.int .i64 v.N) ∧ w'.cell? ⟨N, 4, none⟩ = some (.bool v.dead) ∧ w'.cell? ⟨N, 5, none⟩ = some (.slice v.ao v.len v.cap) ∧ w'.cell? ⟨N, 6, none⟩ = some (.string v.tag) ∧ w'.cell? ⟨N, 7, none⟩ = some (.string v.body))
                      (go_keep)
                      (first
                        | (go_at_call_of 17 (xo); refine (cx X.drew hbXd).mono ?_; rintro e w6 ⟨rfl, hb6⟩; obtain ⟨hcl, hfl, zz1⟩ := callee_old hb6; have hg6 := Nat.lt_of_lt_of_le hgX zz1; have hN6 := Nat.lt_of_lt_of_le hNX zz1; have hbX6 := hbXd.trans (hb6.mono (Nat.le_refl _)))
                        | (go_at_call_of 17 (yo); refine (cy w6 hbX6).mono ?_; rintro e w7 ⟨rfl, hb7⟩; have hcl7 := fun b o (h : b < w6.heap.size) => hb7.cell (p := ⟨b, o, none⟩) h))
                    go_wp2_with fail
                    go_meet
                    exact ⟨rfl, hbX6.trans (hb7.mono zz1)⟩
                case rest =>
                  obtain ⟨rfl, hbY⟩ := hcut
                  clear q0 q1 q2 q3 q4 q5 q6 q7 q8 q9 q10 q11 q12 q13 s0 s1 s2 s3 s4 s5 s6 s7 s8 s9 s10 s11 s12 s13 a0 a1 a2 a3 a4 a5 a6 a7 cx cy
                  have z0 : wc.cell? ⟨nn, 0, none⟩ = some (.int .i64 (z.s 0).how) := (hbY.cell (p := ⟨nn, 0, none⟩) hnl).trans ((HZC.out 0).trans rfl)
                  have z1 : wc.cell? ⟨nn, 1, none⟩ = some (.int .i64 (z.s 0).lo) := (hbY.cell (p := ⟨nn, 1, none⟩) hnl).trans ((HZC.out 1).trans rfl)
                  have z2 : wc.cell? ⟨nn, 2, none⟩ = some (.int .i64 (z.s 0).hi) := (hbY.cell (p := ⟨nn, 2, none⟩) hnl).trans ((HZC.out 2).trans rfl)
                  have z3 : wc.cell? ⟨nn, 3, none⟩ = some (.int .i64 (z.s 1).how) := (hbY.cell (p := ⟨nn, 3, none⟩) hnl).trans ((HZC.out 3).trans rfl)
                  have z4 : wc.cell? ⟨nn, 4, none⟩ = some (.int .i64 (z.s 1).lo) := (hbY.cell (p := ⟨nn, 4, none⟩) hnl).trans ((HZC.out 4).trans rfl)
                  have z5 : wc.cell? ⟨nn, 5, none⟩ = some (.int .i64 (z.s 1).hi) := (hbY.cell (p := ⟨nn, 5, none⟩) hnl).trans ((HZC.out 5).trans rfl)
                  have z6 : wc.cell? ⟨nn, 6, none⟩ = some (.int .i64 (z.s 2).how) := (hbY.cell (p := ⟨nn, 6, none⟩) hnl).trans ((HZC.out 6).trans rfl)
                  have z7 : wc.cell? ⟨nn, 7, none⟩ = some (.int .i64 (z.s 2).lo) := (hbY.cell (p := ⟨nn, 7, none⟩) hnl).trans ((HZC.out 7).trans rfl)
                  have z8 : wc.cell? ⟨nn, 8, none⟩ = some (.int .i64 (z.s 2).hi) := (hbY.cell (p := ⟨nn, 8, none⟩) hnl).trans ((HZC.out 8).trans rfl)
                  have z9 : wc.cell? ⟨nn, 9, none⟩ = some (.int .i64 (z.s 3).how) := (hbY.cell (p := ⟨nn, 9, none⟩) hnl).trans ((HZC.out 9).trans rfl)
                  have z10 : wc.cell? ⟨nn, 10, none⟩ = some (.int .i64 (z.s 3).lo) := (hbY.cell (p := ⟨nn, 10, none⟩) hnl).trans ((HZC.out 10).trans rfl)
                  have z11 : wc.cell? ⟨nn, 11, none⟩ = some (.int .i64 (z.s 3).hi) := (hbY.cell (p := ⟨nn, 11, none⟩) hnl).trans ((HZC.out 11).trans rfl)
                  have z12 : wc.cell? ⟨nn, 12, none⟩ = some (.string z.tag) := (hbY.cell (p := ⟨nn, 12, none⟩) hnl).trans ((HZC.out 12).trans rfl)
                  have z13 : wc.cell? ⟨nn, 13, none⟩ = some (.slice o z.nots.length cap) := (hbY.cell (p := ⟨nn, 13, none⟩) hnl).trans ((HZC.out 13).trans rfl)
                  have a0 : wc.cell? ⟨N, 0, none⟩ = some (.int .i64 v.it) := (hbY.cell (p := ⟨N, 0, none⟩) hNX).trans (HVC.out 0 _ rfl)
                  have a1 : wc.cell? ⟨N, 1, none⟩ = some (.int .i64 v.L) := (hbY.cell (p := ⟨N, 1, none⟩) hNX).trans (HVC.out 1 _ rfl)
                  have a2 : wc.cell? ⟨N, 2, none⟩ = some (.int .i64 v.R) := (hbY.cell (p := ⟨N, 2, none⟩) hNX).trans (HVC.out 2 _ rfl)
                  have a3 : wc.cell? ⟨N, 3, none⟩ = some (.int .i64 v.N) := (hbY.cell (p := ⟨N, 3, none⟩) hNX).trans (HVC.out 3 _ rfl)
                  have a4 : wc.cell? ⟨N, 4, none⟩ = some (.bool v.dead) := (hbY.cell (p := ⟨N, 4, none⟩) hNX).trans (HVC.out 4 _ rfl)
                  have a5 : wc.cell? ⟨N, 5, none⟩ = some (.slice v.ao v.len v.cap) := (hbY.cell (p := ⟨N, 5, none⟩) hNX).trans (HVC.out 5 _ rfl)
                  have a6 : wc.cell? ⟨N, 6, none⟩ = some (.string v.tag) := (hbY.cell (p := ⟨N, 6, none⟩) hNX).trans (HVC.out 6 _ rfl)
                  have a7 : wc.cell? ⟨N, 7, none⟩ = some (.string v.body) := (hbY.cell (p := ⟨N, 7, none⟩) hNX).trans (HVC.out 7 _ rfl)
                  have hszY := hbY.size
                  have hNY : N < wc.heap.size := by omega
                  have hnY : nn < wc.heap.size := by omega
                  have HBY : Hid (Below U.heap.size U wc) := HUX.out.trans (hbY.mono HUX.out.size)
                  generalize (rx && ry) = rb at *
                  cases mk with
                  | false =>
                    obtain rfl : rb = false := HZL.out.2 rfl
                    go_wp2
                    go_roundg (L.length - (k + 1))
                    case measure => have := HGK.out; omega
                    case rel => exact ⟨k + 1, by omega, rfl, by go_num, HBY.out⟩
                  | true =>
                    have cz := HCZ.out rfl wc hbY
                    rw [(HZL.out.1 rfl).2] at cz
                    unfold Bval Vs.val at cz
                    clear hbY
                    cases rb with
                    | false =>
                      go_wp2_with fail
                      refine cz.mono ?_
                      rintro e w8 ⟨rfl, hb8⟩
                      clear cz
                      go_wp2
                      go_roundg (L.length - (k + 1))
                      case measure => have := HGK.out; omega
                      case rel => exact ⟨k + 1, by omega, rfl, by go_num, HBY.out.trans (hb8.mono HBY.out.size)⟩
                    | true =>
                      go_wp2_with fail
                      refine cz.mono ?_
                      rintro e w8 ⟨rfl, hb8⟩
                      clear cz
                      go_wp2
                      go_roundg (L.length - (k + 1))
                      case measure => have := HGK.out; omega
                      case rel => exact ⟨k + 1, by omega, rfl, by go_num, HBY.out.trans (hb8.mono HBY.out.size)⟩
            · obtain rfl : k = L.length := by omega
              have HB : Hid (Below U.heap.size U wr) := hbk
              clear hbk
              go_wp2
              go_roundg (L.length - (i + 1))
              case measure => have := HGI.out; omega
              case rel => exact ⟨i + 1, by omega, rfl, by go_num, HB.out⟩
        · obtain rfl : i = L.length := by omega
          have HB : Hid (Below U.heap.size U wr) := hbi
          clear hbi
          go_wp2
          go_roundg (3 - (q + 1))
          case measure => have := HGQ.out; omega
          case rel =>
            exact ⟨q + 1, by omega, rfl, by go_num, Below.pick H5.out.2.2.1 HB.out, H5.out.1.trans (HB.out.mono H5.out.1.size)⟩
    · obtain rfl : q = 3 := by omega
      have HB : Hid (Below w.heap.size w wr) := HR.out.2.2.trans (hbr.mono HR.out.2.2.size)
      clear hbr hp
      go_wp2
      go_ret
      exact ⟨rfl, HB.out⟩

/-- NormBoth's walk. -/
theorem both_any (a0 : Option Addr) (l0 c0 : Nat) (a1 : Option Addr) (l1 c1 : Nat) (w : World) (r0 : Reads8 w a0 l0) (r1 : Reads8 w a1 l1) :
    Calls Try.prog 6 #[.slice a0 l0 c0, .slice a1 l1 c1] w fun e w' => e = .returned (.bool true) ∧ Below w.heap.size w w' := by
  by_cases h : 60 < l0 ∨ 60 < l1
  · exact both_long a0 a1 l0 c0 l1 c1 w r0.1 r1.1 h
  · exact both_short a0 a1 l0 c0 l1 c1 w (by omega) (by omega) r0 r1

end Go.Proofs.Ytflpdekifkcfkaa
