/- CoverAll: what is told to be covered, as the document says. -/
import Derived.Test.YtflpdekifkcfkabCbeg
import Derived.Test.YtflpdekifkcfkabCrc
import Derived.Test.YtflpdekifkcfkabBoxes
namespace Go.Proofs.Ytflpdekifkcfkab
open Go.RowKit
set_option linter.unusedVariables false

set_option maxHeartbeats 2000000 in
theorem call_long (a0 a1 a2 : Option Addr) (l0 c0 l1 c1 l2 c2 : Nat) (w : World) (h0 : l0 ≤ maxLen) (h1 : l1 ≤ maxLen) (h2 : l2 ≤ maxLen) (h : (40 < l0 ∨ 40 < l1) ∨ 60 < l2) :
    Calls Try.prog 3 #[.slice a0 l0 c0, .slice a1 l1 c1, .slice a2 l2 c2] w fun e w' => e = .returned (.bool true) ∧ Below w.heap.size w w' := by
  unfold maxLen at h0 h1 h2
  by_cases g0 : 40 < l0
  · clear h
    go_enter Try.func3, Try.ntmps3
    go_wp2_with fail
    refine (begun8 _).mono ?_
    rintro e w1 ⟨rfl, hb1⟩
    go_wp2
    go_ret
    exact ⟨rfl, hb1⟩
  · by_cases g1 : 40 < l1
    · clear h
      go_enter Try.func3, Try.ntmps3
      go_wp2_with fail
      refine (begun8 _).mono ?_
      rintro e w1 ⟨rfl, hb1⟩
      go_wp2
      go_ret
      exact ⟨rfl, hb1⟩
    · have g2 : 60 < l2 := by omega
      clear h
      go_enter Try.func3, Try.ntmps3
      go_wp2_with fail
      refine (begun8 _).mono ?_
      rintro e w1 ⟨rfl, hb1⟩
      go_wp2
      go_ret
      exact ⟨rfl, hb1⟩

set_option maxRecDepth 100000 in
set_option maxHeartbeats 8000000 in
theorem call_short (a0 a1 a2 : Option Addr) (l0 c0 l1 c1 l2 c2 : Nat) (w : World) (h0 : l0 ≤ 40) (h1 : l1 ≤ 40) (h2 : l2 ≤ 60) (r0 : Reads8 w a0 l0) (r1 : Reads8 w a1 l1) (r2 : Reads8 w a2 l2) :
    Calls Try.prog 3 #[.slice a0 l0 c0, .slice a1 l1 c1, .slice a2 l2 c2] w fun e w' => e = .returned (.bool true) ∧ Below w.heap.size w w' := by
  go_enter Try.func3, Try.ntmps3
  go_wp2_with fail
  refine (begun8 _).mono ?_
  rintro e w1 ⟨rfl, hb0⟩
  replace r0 := reads_below r0 hb0
  replace r1 := reads_below r1 hb0
  replace r2 := reads_below r2 hb0
  go_wp2_with fail
  refine (made10 _ _ _ _).mono ?_
  rintro e W1 ⟨rfl, hW1⟩
  have hp1 : Pick W1 w1.heap.size := by rw [hW1]; exact pick_made r0 (by omega)
  have hbW1 : Below w1.heap.size w1 W1 := by rw [hW1]; exact (Below.refl _ _).alloc (Nat.le_refl _) _
  have hsW1 : w1.heap.size < W1.heap.size := by rw [hW1]; simp
  clear hW1
  go_wp2_with fail
  refine (filter11 w1.heap.size 3 3 W1 (by omega) (by omega) hp1).mono ?_
  rintro e w2 ⟨f, o1, k1, l1', h1, t1, x1, n1, rfl, ok1, dp1, ly1, hw1⟩
  have hb1 : Below w1.heap.size w1 w2 := hbW1.trans (hw1.2.below (by omega) (fun k hk => by unfold But; omega))
  have lf1 : Lies Any w2 f o1 k1 l1' h1 t1 x1 n1 := Lies.mono (fun _ _ _ => trivial) f ly1
  clear hp1 ly1 hw1 hbW1 hsW1
  replace r1 := reads_below r1 hb1
  replace r2 := reads_below r2 hb1
  go_wp2_with fail
  refine (made10 _ _ _ _).mono ?_
  rintro e W2 ⟨rfl, hW2⟩
  have hp2 : Pick W2 w2.heap.size := by rw [hW2]; exact pick_made r1 (by omega)
  have hbW2 : Below w2.heap.size w2 W2 := by rw [hW2]; exact (Below.refl _ _).alloc (Nat.le_refl _) _
  have hsW2 : w2.heap.size < W2.heap.size := by rw [hW2]; simp
  clear hW2
  go_wp2_with fail
  refine (filter11 w2.heap.size 3 3 W2 (by omega) (by omega) hp2).mono ?_
  rintro e w3 ⟨g, o2, k2, l2', h2, t2, x2, n2, rfl, ok2, dp2, ly2, hw2⟩
  have hb2 : Below w2.heap.size w2 w3 := hbW2.trans (hw2.2.below (by omega) (fun k hk => by unfold But; omega))
  have lf2 : Lies Any w3 g o2 k2 l2' h2 t2 x2 n2 := Lies.mono (fun _ _ _ => trivial) g ly2
  clear hp2 ly2 hw2 hbW2 hsW2
  replace r2 := reads_below r2 hb2
  have lf1' := lf1.below hb2
  clear lf1
  have lf1 := lf1'
  clear lf1'
  have hs12 := hb1.size
  have hbw3 : Below w.heap.size w w3 := hb0.trans ((hb1.trans (hb2.mono hs12)).mono hb0.size)
  go_wp2_with fail
  obtain ⟨U, hU⟩ : ∃ U, U = (w3.alloc (.cells #[.int .i64 o1, .int .i64 k1, .int .i64 l1', .int .i64 h1, .string t1, .slice x1 n1 n1] 26)).alloc (.cells #[.int .i64 o2, .int .i64 k2, .int .i64 l2', .int .i64 h2, .string t2, .slice x2 n2 n2] 26) := ⟨_, rfl⟩
  rw [← hU]
  have hbU : Below w3.heap.size w3 U := by rw [hU]; exact ((Below.refl _ _).alloc (Nat.le_refl _) _).alloc (by simp) _
  have hsU : w3.heap.size + 1 < U.heap.size := by rw [hU]; simp
  have d1 : ∀ i, U.cell? ⟨w3.heap.size, i, none⟩ = (#[.int .i64 o1, .int .i64 k1, .int .i64 l1', .int .i64 h1, .string t1, .slice x1 n1 n1] : Array Value)[i]? := fun i => by rw [hU, World.cell?_alloc_past _ _ _ (hn := by simp)]; simp
  have d2 : ∀ i, U.cell? ⟨w3.heap.size + 1, i, none⟩ = (#[.int .i64 o2, .int .i64 k2, .int .i64 l2', .int .i64 h2, .string t2, .slice x2 n2 n2] : Array Value)[i]? := fun i => by rw [hU, World.cell?_alloc_at _ _ _ _ (by simp)]
  have HU : Hid (Below w.heap.size w U ∧ Lies Any U f o1 k1 l1' h1 t1 x1 n1 ∧ Lies Any U g o2 k2 l2' h2 t2 x2 n2 ∧ (∀ i, U.cell? ⟨w3.heap.size, i, none⟩ = (#[.int .i64 o1, .int .i64 k1, .int .i64 l1', .int .i64 h1, .string t1, .slice x1 n1 n1] : Array Value)[i]?) ∧ (∀ i, U.cell? ⟨w3.heap.size + 1, i, none⟩ = (#[.int .i64 o2, .int .i64 k2, .int .i64 l2', .int .i64 h2, .string t2, .slice x2 n2 n2] : Array Value)[i]?) ∧ Reads8 U a2 l2) := ⟨hbw3.trans (hbU.mono hbw3.size), lf1.below hbU, lf2.below hbU, d1, d2, reads_below r2 hbU⟩
  clear hU hbU hbw3 lf1 lf2 hb0 hb1 hb2 hs12 r0 r1 r2 d1 d2
  have j2 : w3.heap.size + 1 < U.heap.size := hsU
  have j1 : w3.heap.size < U.heap.size := by omega
  generalize w3.heap.size + 1 = N2 at *
  generalize w3.heap.size = N1 at *
  clear hsU
  have cc1 := covers11 f g U o1 k1 l1' h1 t1 x1 n1 o2 k2 l2' h2 t2 x2 n2 (by omega) (by omega) ok1 ok2 HU.out.2.1 HU.out.2.2.1
  have cc2 := fun w' (hb : Below U.heap.size U w') => rcovers12 f g w' o1 k1 l1' h1 t1 x1 n1 o2 k2 l2' h2 t2 x2 n2 (by omega) (by omega) ok1 ok2 (HU.out.2.1.below hb) (HU.out.2.2.1.below hb)
  unfold CPost at cc1 cc2
  clear ok1 ok2 dp1 dp2
  generalize Ev.covers (f.row false) (g.row false) = cy at *
  generalize ((f.row false).isSome && (g.row false).isSome) = co at *
  refine cc1.mono ?_
  rintro e u1 ⟨rfl, hu1⟩
  clear cc1
  have g1 : ∀ i, u1.cell? ⟨N1, i, none⟩ = (#[.int .i64 o1, .int .i64 k1, .int .i64 l1', .int .i64 h1, .string t1, .slice x1 n1 n1] : Array Value)[i]? := fun i => (hu1.cell (p := ⟨N1, i, none⟩) j1).trans (HU.out.2.2.2.1 i)
  have g2 : ∀ i, u1.cell? ⟨N2, i, none⟩ = (#[.int .i64 o2, .int .i64 k2, .int .i64 l2', .int .i64 h2, .string t2, .slice x2 n2 n2] : Array Value)[i]? := fun i => (hu1.cell (p := ⟨N2, i, none⟩) j2).trans (HU.out.2.2.2.2.1 i)
  have m1 : N1 < u1.heap.size := Nat.lt_of_lt_of_le j1 hu1.size
  have m2 : N2 < u1.heap.size := Nat.lt_of_lt_of_le j2 hu1.size
  have K2 := cc2 u1 hu1
  clear cc2
  go_wp2_with fail
  refine K2.mono ?_
  rintro e u2 ⟨rfl, hu2⟩
  have hU2 : Below U.heap.size U u2 := hu1.trans (hu2.mono hu1.size)
  have r2 := reads_below HU.out.2.2.2.2.2 hU2
  have HE : Hid (Below w.heap.size w u2) := HU.out.1.trans (hU2.mono HU.out.1.size)
  clear K2 g1 g2 m1 m2 hu1 hu2 hU2 HU
  go_wp2_with fail
  refine (boxes15 a2 l2 c2 u2 (by omega) r2).mono ?_
  rintro e w2 ⟨vL, L, rfl, rowL, lenL, okL, hb2⟩
  obtain ⟨lo, lc, rfl⟩ := rowL.slice
  have HR : Hid (RowB u2.heap.size w2 (.slice lo L.length lc) L ∧ (∀ x ∈ L, x.ok 32) ∧ Below w.heap.size w w2) := ⟨rowL, okL, HE.out.trans (hb2.mono HE.out.size)⟩
  clear rowL okL hb2 r2 HE
  go_wp2_with fail
  go_loopg [14] L.length (fun gg ii wr => ∃ i : Nat, i ≤ L.length ∧ gg = L.length - i ∧ ii = .int .i64 i ∧ Below w2.heap.size w2 wr)
  case atStart => exact ⟨0, by omega, rfl, rfl, Below.refl _ _⟩
  case round =>
    obtain ⟨i, hi, hgi, rfl, hbi⟩ := hrel
    have HGI : Hid (gk = L.length - i) := hgi
    clear hgi
    by_cases hit : i < L.length
    · have hii : (i : Int) < (L.length : Int) := by omega
      go_wp2_with fail
      go_loopg [15] L.length (fun gg ii wr => ∃ k : Nat, k ≤ L.length ∧ gg = L.length - k ∧ ii = .int .i64 k ∧ Below w2.heap.size w2 wr)
      case atStart => exact ⟨0, by omega, rfl, rfl, hbi⟩
      case round =>
        clear hbi
        obtain ⟨k, hk, hgk, rfl, hbk⟩ := hrel
        have HGK : Hid (gk = L.length - k) := hgk
        clear hgk
        by_cases hkt : k < L.length
        · have hki : (k : Int) < (L.length : Int) := by omega
          have hsk := hbk.size
          obtain ⟨gb, xo, xc, rfl, _, hg, nx, hc1⟩ := (HR.out.1.below hbk).at i hit
          obtain ⟨gb2, yo, yc, e2, _, hg2, ny, hc2⟩ := (HR.out.1.below hbk).at k hkt
          obtain rfl : gb = gb2 := by simpa using e2
          clear e2 hg2
          have ox := HR.out.2.1 _ (List.getElem_mem hit)
          have oy := HR.out.2.1 _ (List.getElem_mem hkt)
          obtain ⟨x, hx⟩ : ∃ x, x = L[i] := ⟨_, rfl⟩
          obtain ⟨y, hy⟩ : ∃ y, y = L[k] := ⟨_, rfl⟩
          rw [← hx] at nx hc1 ox
          rw [← hy] at ny hc2 oy
          clear hx hy
          have q0 : wr.cell? ⟨gb, i * 14, none⟩ = some (.int .i64 (x.s 0).how) := hc1 0 _ rfl
          have q1 : wr.cell? ⟨gb, i * 14 + 1, none⟩ = some (.int .i64 (x.s 0).lo) := hc1 1 _ rfl
          have q2 : wr.cell? ⟨gb, i * 14 + 2, none⟩ = some (.int .i64 (x.s 0).hi) := hc1 2 _ rfl
          have q3 : wr.cell? ⟨gb, i * 14 + 3, none⟩ = some (.int .i64 (x.s 1).how) := hc1 3 _ rfl
          have q4 : wr.cell? ⟨gb, i * 14 + 4, none⟩ = some (.int .i64 (x.s 1).lo) := hc1 4 _ rfl
          have q5 : wr.cell? ⟨gb, i * 14 + 5, none⟩ = some (.int .i64 (x.s 1).hi) := hc1 5 _ rfl
          have q6 : wr.cell? ⟨gb, i * 14 + 6, none⟩ = some (.int .i64 (x.s 2).how) := hc1 6 _ rfl
          have q7 : wr.cell? ⟨gb, i * 14 + 7, none⟩ = some (.int .i64 (x.s 2).lo) := hc1 7 _ rfl
          have q8 : wr.cell? ⟨gb, i * 14 + 8, none⟩ = some (.int .i64 (x.s 2).hi) := hc1 8 _ rfl
          have q9 : wr.cell? ⟨gb, i * 14 + 9, none⟩ = some (.int .i64 (x.s 3).how) := hc1 9 _ rfl
          have q10 : wr.cell? ⟨gb, i * 14 + 10, none⟩ = some (.int .i64 (x.s 3).lo) := hc1 10 _ rfl
          have q11 : wr.cell? ⟨gb, i * 14 + 11, none⟩ = some (.int .i64 (x.s 3).hi) := hc1 11 _ rfl
          have q12 : wr.cell? ⟨gb, i * 14 + 12, none⟩ = some (.string x.tag) := hc1 12 _ rfl
          have q13 : wr.cell? ⟨gb, i * 14 + 13, none⟩ = some (.slice xo x.nots.length xc) := hc1 13 _ rfl
          have s0 : wr.cell? ⟨gb, k * 14, none⟩ = some (.int .i64 (y.s 0).how) := hc2 0 _ rfl
          have s1 : wr.cell? ⟨gb, k * 14 + 1, none⟩ = some (.int .i64 (y.s 0).lo) := hc2 1 _ rfl
          have s2 : wr.cell? ⟨gb, k * 14 + 2, none⟩ = some (.int .i64 (y.s 0).hi) := hc2 2 _ rfl
          have s3 : wr.cell? ⟨gb, k * 14 + 3, none⟩ = some (.int .i64 (y.s 1).how) := hc2 3 _ rfl
          have s4 : wr.cell? ⟨gb, k * 14 + 4, none⟩ = some (.int .i64 (y.s 1).lo) := hc2 4 _ rfl
          have s5 : wr.cell? ⟨gb, k * 14 + 5, none⟩ = some (.int .i64 (y.s 1).hi) := hc2 5 _ rfl
          have s6 : wr.cell? ⟨gb, k * 14 + 6, none⟩ = some (.int .i64 (y.s 2).how) := hc2 6 _ rfl
          have s7 : wr.cell? ⟨gb, k * 14 + 7, none⟩ = some (.int .i64 (y.s 2).lo) := hc2 7 _ rfl
          have s8 : wr.cell? ⟨gb, k * 14 + 8, none⟩ = some (.int .i64 (y.s 2).hi) := hc2 8 _ rfl
          have s9 : wr.cell? ⟨gb, k * 14 + 9, none⟩ = some (.int .i64 (y.s 3).how) := hc2 9 _ rfl
          have s10 : wr.cell? ⟨gb, k * 14 + 10, none⟩ = some (.int .i64 (y.s 3).lo) := hc2 10 _ rfl
          have s11 : wr.cell? ⟨gb, k * 14 + 11, none⟩ = some (.int .i64 (y.s 3).hi) := hc2 11 _ rfl
          have s12 : wr.cell? ⟨gb, k * 14 + 12, none⟩ = some (.string y.tag) := hc2 12 _ rfl
          have s13 : wr.cell? ⟨gb, k * 14 + 13, none⟩ = some (.slice yo y.nots.length yc) := hc2 13 _ rfl
          have cw := fun w' (hb : Below wr.heap.size wr w') => within_any x y xo yo xc yc 32 32 w' ox oy (by omega) (by omega) (nx.below hb).txts (ny.below hb).txts
          have cr := fun w' (hb : Below wr.heap.size wr w') => rwithin_any x y xo yo xc yc 32 32 w' ox oy (by omega) (by omega) (nx.below hb).txts (ny.below hb).txts
          have HBK : Hid (Below w2.heap.size w2 wr) := hbk
          clear hbk nx ny ox oy hc1 hc2
          generalize Ev.within x y = rk at *
          have hbD : Below wr.heap.size wr wr.drew := (Below.refl _ wr).drew
          go_wp2_with fail
          go_region_held3 (fun w' => w'.cell? ⟨gb, i * 14, none⟩ = some (.int .i64 (x.s 0).how) ∧ w'.cell? ⟨gb, i * 14 + 1, none⟩ = some (.int .i64 (x.s 0).lo) ∧ w'.cell? ⟨gb, i * 14 + 2, none⟩ = some (.int .i64 (x.s 0).hi) ∧ w'.cell? ⟨gb, i * 14 + 3, none⟩ = some (.int .i64 (x.s 1).how) ∧ w'.cell? ⟨gb, i * 14 + 4, none⟩ = some (.int .i64 (x.s 1).lo) ∧ w'.cell? ⟨gb, i * 14 + 5, none⟩ = some (.int .i64 (x.s 1).hi) ∧ w'.cell? ⟨gb, i * 14 + 6, none⟩ = some (.int .i64 (x.s 2).how) ∧ w'.cell? ⟨gb, i * 14 + 7, none⟩ = some (.int .i64 (x.s 2).lo) ∧ w'.cell? ⟨gb, i * 14 + 8, none⟩ = some (.int .i64 (x.s 2).hi) ∧ w'.cell? ⟨gb, i * 14 + 9, none⟩ = some (.int .i64 (x.s 3).how) ∧ w'.cell? ⟨gb, i * 14 + 10, none⟩ = some (.int .i64 (x.s 3).lo) ∧ w'.cell? ⟨gb, i * 14 + 11, none⟩ = some (.int .i64 (x.s 3).hi) ∧ w'.cell? ⟨gb, i * 14 + 12, none⟩ = some (.string x.tag) ∧ w'.cell? ⟨gb, i * 14 + 13, none⟩ = some (.slice xo x.nots.length xc) ∧ w'.cell? ⟨gb, k * 14, none⟩ = some (.int .i64 (y.s 0).how) ∧ w'.cell? ⟨gb, k * 14 + 1, none⟩ = some (.int .i64 (y.s 0).lo) ∧ w'.cell? ⟨gb, k * 14 + 2, none⟩ = some (.int .i64 (y.s 0).hi) ∧ w'.cell? ⟨gb, k * 14 + 3, none⟩ = some (.int .i64 (y.s 1).how) ∧ w'.cell? ⟨gb, k * 14 + 4, none⟩ = some (.int .i64 (y.s 1).lo) ∧ w'.cell? ⟨gb, k * 14 + 5, none⟩ = some (.int .i64 (y.s 1).hi) ∧ w'.cell? ⟨gb, k * 14 + 6, none⟩ = some (.int .i64 (y.s 2).how) ∧ w'.cell? ⟨gb, k * 14 + 7, none⟩ = some (.int .i64 (y.s 2).lo) ∧ w'.cell? ⟨gb, k * 14 + 8, none⟩ = some (.int .i64 (y.s 2).hi) ∧ w'.cell? ⟨gb, k * 14 + 9, none⟩ = some (.int .i64 (y.s 3).how) ∧ w'.cell? ⟨gb, k * 14 + 10, none⟩ = some (.int .i64 (y.s 3).lo) ∧ w'.cell? ⟨gb, k * 14 + 11, none⟩ = some (.int .i64 (y.s 3).hi) ∧ w'.cell? ⟨gb, k * 14 + 12, none⟩ = some (.string y.tag) ∧ w'.cell? ⟨gb, k * 14 + 13, none⟩ = some (.slice yo y.nots.length yc))
            (go_keep)
            (first
              | (go_at_call 14; refine (cw wr.drew hbD).mono ?_; rintro e y1 ⟨rfl, hy1⟩; obtain ⟨hcl, hfl, zz1⟩ := callee_old hy1; have hbY1 := hbD.trans (hy1.mono (Nat.le_refl _)); have g1 := Nat.lt_of_lt_of_le hg zz1)
              | (go_at_call 15; refine (cr y1 hbY1).mono ?_; rintro e y2 ⟨rfl, hy2⟩; have hcl2 := fun b o (h : b < y1.heap.size) => hy2.cell (p := ⟨b, o, none⟩) h))
          have HB2 : Hid (Below w2.heap.size w2 y2) := HBK.out.trans ((hbY1.trans (hy2.mono zz1)).mono hsk)
          clear cw cr hcl hfl hcl2 hy1 hy2 hbY1 q0 q1 q2 q3 q4 q5 q6 q7 q8 q9 q10 q11 q12 q13 s0 s1 s2 s3 s4 s5 s6 s7 s8 s9 s10 s11 s12 s13
          go_wp2
          go_roundg (L.length - (k + 1))
          case measure => have := HGK.out; omega
          case rel => exact ⟨k + 1, by omega, rfl, by go_num, HB2.out⟩
        · obtain rfl : k = L.length := by omega
          have HB : Hid (Below w2.heap.size w2 wr) := hbk
          clear hbk
          go_wp2
          go_roundg (L.length - (i + 1))
          case measure => have := HGI.out; omega
          case rel => exact ⟨i + 1, by omega, rfl, by go_num, HB.out⟩
    · obtain rfl : i = L.length := by omega
      have HB : Hid (Below w.heap.size w wr) := HR.out.2.2.trans (hbi.mono HR.out.2.2.size)
      clear hbi
      go_wp2
      go_ret
      exact ⟨rfl, HB.out⟩

/-- CoverAll's walk. -/
theorem call_any (a0 : Option Addr) (l0 c0 : Nat) (a1 : Option Addr) (l1 c1 : Nat) (a2 : Option Addr) (l2 c2 : Nat) (w : World) (r0 : Reads8 w a0 l0) (r1 : Reads8 w a1 l1) (r2 : Reads8 w a2 l2) :
    Calls Try.prog 3 #[.slice a0 l0 c0, .slice a1 l1 c1, .slice a2 l2 c2] w fun e w' => e = .returned (.bool true) ∧ Below w.heap.size w w' := by
  by_cases h : (40 < l0 ∨ 40 < l1) ∨ 60 < l2
  · exact call_long a0 a1 a2 l0 c0 l1 c1 l2 c2 w r0.1 r1.1 r2.1 h
  · exact call_short a0 a1 a2 l0 c0 l1 c1 l2 c2 w (by omega) (by omega) (by omega) r0 r1 r2

end Go.Proofs.Ytflpdekifkcfkab
