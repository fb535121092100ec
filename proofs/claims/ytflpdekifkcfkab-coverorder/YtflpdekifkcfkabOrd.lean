/- CoverOrder: each covers itself, and what covers what covers covers. -/
import Derived.Test.YtflpdekifkcfkabCbeg
namespace Go.Proofs.Ytflpdekifkcfkab
open Go.RowKit
set_option linter.unusedVariables false

namespace Ev
theorem covers_key {ra rb rc : Option (List Bx)} {n : Nat} (h : ∀ a, ra = some a → ∀ x ∈ a, x.ok n) :
    covers ra ra = (ra.isSome && ra.isSome) ∧ ((ra.isSome && rb.isSome) = true → (rb.isSome && rc.isSome) = true → (ra.isSome && rc.isSome) = true → covers ra rb = true → covers rb rc = true → covers ra rc = true) := by
  refine ⟨?_, ?_⟩
  · cases ra with
    | none => rfl
    | some a => exact cov_self (h a rfl)
  · intro h1 h2 h3 h4 h5
    cases ra with
    | none => cases h1
    | some a =>
      cases rb with
      | none => cases h1
      | some b =>
        cases rc with
        | none => cases h2
        | some c => exact cov_trans h4 h5
end Ev

set_option maxHeartbeats 2000000 in
theorem ord_long (a0 a1 a2 : Option Addr) (l0 c0 l1 c1 l2 c2 : Nat) (w : World) (h0 : l0 ≤ maxLen) (h1 : l1 ≤ maxLen) (h2 : l2 ≤ maxLen) (h : (30 < l0 ∨ 30 < l1) ∨ 30 < l2) :
    Calls Try.prog 5 #[.slice a0 l0 c0, .slice a1 l1 c1, .slice a2 l2 c2] w fun e w' => e = .returned (.bool true) ∧ Below w.heap.size w w' := by
  unfold maxLen at h0 h1 h2
  by_cases g0 : 30 < l0
  · clear h
    go_enter Try.func5, Try.ntmps5
    go_wp2_with fail
    refine (begun8 _).mono ?_
    rintro e w1 ⟨rfl, hb1⟩
    go_wp2
    go_ret
    exact ⟨rfl, hb1⟩
  · by_cases g1 : 30 < l1
    · clear h
      go_enter Try.func5, Try.ntmps5
      go_wp2_with fail
      refine (begun8 _).mono ?_
      rintro e w1 ⟨rfl, hb1⟩
      go_wp2
      go_ret
      exact ⟨rfl, hb1⟩
    · have g2 : 30 < l2 := by omega
      clear h
      go_enter Try.func5, Try.ntmps5
      go_wp2_with fail
      refine (begun8 _).mono ?_
      rintro e w1 ⟨rfl, hb1⟩
      go_wp2
      go_ret
      exact ⟨rfl, hb1⟩

set_option maxRecDepth 100000 in
set_option maxHeartbeats 8000000 in
theorem ord_short (a0 a1 a2 : Option Addr) (l0 c0 l1 c1 l2 c2 : Nat) (w : World) (h0 : l0 ≤ 30) (h1 : l1 ≤ 30) (h2 : l2 ≤ 30) (r0 : Reads8 w a0 l0) (r1 : Reads8 w a1 l1) (r2 : Reads8 w a2 l2) :
    Calls Try.prog 5 #[.slice a0 l0 c0, .slice a1 l1 c1, .slice a2 l2 c2] w fun e w' => e = .returned (.bool true) ∧ Below w.heap.size w w' := by
  go_enter Try.func5, Try.ntmps5
  go_wp2_with fail
  refine (begun8 _).mono ?_
  rintro e w1 ⟨rfl, hb0⟩
  replace r0 := reads_below r0 hb0
  replace r1 := reads_below r1 hb0
  replace r2 := reads_below r2 hb0
  go_wp2_with fail
  refine (made10 _ _ _ _).mono ?_
  rintro e W1 ⟨rfl, hW1⟩
  have hp1 : Pick W1 w1.heap.size := by rw [hW1]; exact pick_made r0 (by omega)
  have hbW1 : Below w1.heap.size w1 W1 := by rw [hW1]; exact (Below.refl _ _).alloc (Nat.le_refl _) _
  have hsW1 : w1.heap.size < W1.heap.size := by rw [hW1]; simp
  clear hW1
  go_wp2_with fail
  refine (filter11 w1.heap.size 3 3 W1 (by omega) (by omega) hp1).mono ?_
  rintro e w2 ⟨f, o1, k1, l1', h1, t1, x1, n1, rfl, ok1, dp1, ly1, hw1⟩
  have hb1 : Below w1.heap.size w1 w2 := hbW1.trans (hw1.2.below (by omega) (fun k hk => by unfold But; omega))
  have lf1 : Lies Any w2 f o1 k1 l1' h1 t1 x1 n1 := Lies.mono (fun _ _ _ => trivial) f ly1
  clear hp1 ly1 hw1 hbW1 hsW1
  replace r1 := reads_below r1 hb1
  replace r2 := reads_below r2 hb1
  go_wp2_with fail
  refine (made10 _ _ _ _).mono ?_
  rintro e W2 ⟨rfl, hW2⟩
  have hp2 : Pick W2 w2.heap.size := by rw [hW2]; exact pick_made r1 (by omega)
  have hbW2 : Below w2.heap.size w2 W2 := by rw [hW2]; exact (Below.refl _ _).alloc (Nat.le_refl _) _
  have hsW2 : w2.heap.size < W2.heap.size := by rw [hW2]; simp
  clear hW2
  go_wp2_with fail
  refine (filter11 w2.heap.size 3 3 W2 (by omega) (by omega) hp2).mono ?_
  rintro e w3 ⟨g, o2, k2, l2', h2, t2, x2, n2, rfl, ok2, dp2, ly2, hw2⟩
  have hb2 : Below w2.heap.size w2 w3 := hbW2.trans (hw2.2.below (by omega) (fun k hk => by unfold But; omega))
  have lf2 : Lies Any w3 g o2 k2 l2' h2 t2 x2 n2 := Lies.mono (fun _ _ _ => trivial) g ly2
  clear hp2 ly2 hw2 hbW2 hsW2
  replace r2 := reads_below r2 hb2
  have lf1' := lf1.below hb2
  clear lf1
  have lf1 := lf1'
  clear lf1'
  go_wp2_with fail
  refine (made10 _ _ _ _).mono ?_
  rintro e W3 ⟨rfl, hW3⟩
  have hp3 : Pick W3 w3.heap.size := by rw [hW3]; exact pick_made r2 (by omega)
  have hbW3 : Below w3.heap.size w3 W3 := by rw [hW3]; exact (Below.refl _ _).alloc (Nat.le_refl _) _
  have hsW3 : w3.heap.size < W3.heap.size := by rw [hW3]; simp
  clear hW3
  go_wp2_with fail
  refine (filter11 w3.heap.size 3 3 W3 (by omega) (by omega) hp3).mono ?_
  rintro e w4 ⟨h, o3, k3, l3', h3, t3, x3, n3, rfl, ok3, dp3, ly3, hw3⟩
  have hb3 : Below w3.heap.size w3 w4 := hbW3.trans (hw3.2.below (by omega) (fun k hk => by unfold But; omega))
  have lf3 : Lies Any w4 h o3 k3 l3' h3 t3 x3 n3 := Lies.mono (fun _ _ _ => trivial) h ly3
  clear hp3 ly3 hw3 hbW3 hsW3
  have lf1' := lf1.below hb3
  clear lf1
  have lf1 := lf1'
  clear lf1'
  have lf2' := lf2.below hb3
  clear lf2
  have lf2 := lf2'
  clear lf2'
  have hs12 := hb1.size
  have hs23 := hb2.size
  have hbw4 : Below w.heap.size w w4 := hb0.trans ((hb1.trans ((hb2.trans (hb3.mono hs23)).mono hs12)).mono hb0.size)
  go_wp2_with fail
  obtain ⟨U, hU⟩ : ∃ U, U = ((w4.alloc (.cells #[.int .i64 o1, .int .i64 k1, .int .i64 l1', .int .i64 h1, .string t1, .slice x1 n1 n1] 26)).alloc (.cells #[.int .i64 o2, .int .i64 k2, .int .i64 l2', .int .i64 h2, .string t2, .slice x2 n2 n2] 26)).alloc (.cells #[.int .i64 o3, .int .i64 k3, .int .i64 l3', .int .i64 h3, .string t3, .slice x3 n3 n3] 26) := ⟨_, rfl⟩
  rw [← hU]
  have hbU : Below w4.heap.size w4 U := by rw [hU]; exact (((Below.refl _ _).alloc (Nat.le_refl _) _).alloc (by simp) _).alloc (by simp <;> omega) _
  have hsU : w4.heap.size + 1 + 1 < U.heap.size := by rw [hU]; simp
  have d1 : ∀ i, U.cell? ⟨w4.heap.size, i, none⟩ = (#[.int .i64 o1, .int .i64 k1, .int .i64 l1', .int .i64 h1, .string t1, .slice x1 n1 n1] : Array Value)[i]? := fun i => by rw [hU, World.cell?_alloc_past _ _ _ (hn := by simp <;> omega), World.cell?_alloc_past _ _ _ (hn := by simp)]; simp
  have d2 : ∀ i, U.cell? ⟨w4.heap.size + 1, i, none⟩ = (#[.int .i64 o2, .int .i64 k2, .int .i64 l2', .int .i64 h2, .string t2, .slice x2 n2 n2] : Array Value)[i]? := fun i => by rw [hU, World.cell?_alloc_past _ _ _ (hn := by simp), World.cell?_alloc_at _ _ _ _ (by simp)]
  have d3 : ∀ i, U.cell? ⟨w4.heap.size + 1 + 1, i, none⟩ = (#[.int .i64 o3, .int .i64 k3, .int .i64 l3', .int .i64 h3, .string t3, .slice x3 n3 n3] : Array Value)[i]? := fun i => by rw [hU, World.cell?_alloc_at _ _ _ _ (by simp)]
  have HU : Hid (Below w.heap.size w U ∧ Lies Any U f o1 k1 l1' h1 t1 x1 n1 ∧ Lies Any U g o2 k2 l2' h2 t2 x2 n2 ∧ Lies Any U h o3 k3 l3' h3 t3 x3 n3 ∧ (∀ i, U.cell? ⟨w4.heap.size, i, none⟩ = (#[.int .i64 o1, .int .i64 k1, .int .i64 l1', .int .i64 h1, .string t1, .slice x1 n1 n1] : Array Value)[i]?) ∧ (∀ i, U.cell? ⟨w4.heap.size + 1, i, none⟩ = (#[.int .i64 o2, .int .i64 k2, .int .i64 l2', .int .i64 h2, .string t2, .slice x2 n2 n2] : Array Value)[i]?) ∧ (∀ i, U.cell? ⟨w4.heap.size + 1 + 1, i, none⟩ = (#[.int .i64 o3, .int .i64 k3, .int .i64 l3', .int .i64 h3, .string t3, .slice x3 n3 n3] : Array Value)[i]?)) := ⟨hbw4.trans (hbU.mono hbw4.size), lf1.below hbU, lf2.below hbU, lf3.below hbU, d1, d2, d3⟩
  clear hU hbU hbw4 lf1 lf2 lf3 hb0 hb1 hb2 hb3 hs12 hs23 r0 r1 r2 d1 d2 d3
  have j3 : w4.heap.size + 1 + 1 < U.heap.size := hsU
  have j2 : w4.heap.size + 1 < U.heap.size := by omega
  have j1 : w4.heap.size < U.heap.size := by omega
  generalize w4.heap.size + 1 + 1 = N3 at *
  generalize w4.heap.size + 1 = N2 at *
  generalize w4.heap.size = N1 at *
  clear w4 hsU
  have cc1 := fun w' (hb : Below U.heap.size U w') => covers11 f g w' o1 k1 l1' h1 t1 x1 n1 o2 k2 l2' h2 t2 x2 n2 (by omega) (by omega) ok1 ok2 (HU.out.2.1.below hb) (HU.out.2.2.1.below hb)
  have cc2 := fun w' (hb : Below U.heap.size U w') => covers11 g h w' o2 k2 l2' h2 t2 x2 n2 o3 k3 l3' h3 t3 x3 n3 (by omega) (by omega) ok2 ok3 (HU.out.2.2.1.below hb) (HU.out.2.2.2.1.below hb)
  have cc3 := fun w' (hb : Below U.heap.size U w') => covers11 f h w' o1 k1 l1' h1 t1 x1 n1 o3 k3 l3' h3 t3 x3 n3 (by omega) (by omega) ok1 ok3 (HU.out.2.1.below hb) (HU.out.2.2.2.1.below hb)
  have cc4 := fun w' (hb : Below U.heap.size U w') => covers11 f f w' o1 k1 l1' h1 t1 x1 n1 o1 k1 l1' h1 t1 x1 n1 (by omega) (by omega) ok1 ok1 (HU.out.2.1.below hb) (HU.out.2.1.below hb)
  have fits := fits_row f false ok1 (by omega)
  unfold CPost at cc1 cc2 cc3 cc4
  clear ok1 ok2 ok3 dp1 dp2 dp3
  generalize f.row false = ra at *
  generalize g.row false = rb at *
  generalize h.row false = rc at *
  have hkey := Ev.covers_key (ra := ra) (rb := rb) (rc := rc) (n := 32) (fun a ha => (fits a ha).2)
  obtain ⟨x, hx⟩ : ∃ x, x = Ev.covers ra rb := ⟨_, rfl⟩
  obtain ⟨p, hp⟩ : ∃ p, p = (ra.isSome && rb.isSome) := ⟨_, rfl⟩
  obtain ⟨y, hy⟩ : ∃ y, y = Ev.covers rb rc := ⟨_, rfl⟩
  obtain ⟨q, hq⟩ : ∃ q, q = (rb.isSome && rc.isSome) := ⟨_, rfl⟩
  obtain ⟨z, hz⟩ : ∃ z, z = Ev.covers ra rc := ⟨_, rfl⟩
  obtain ⟨r, hr⟩ : ∃ r, r = (ra.isSome && rc.isSome) := ⟨_, rfl⟩
  obtain ⟨s, hs⟩ : ∃ s, s = Ev.covers ra ra := ⟨_, rfl⟩
  obtain ⟨t, ht⟩ : ∃ t, t = (ra.isSome && ra.isSome) := ⟨_, rfl⟩
  rw [← hx, ← hp] at cc1
  rw [← hy, ← hq] at cc2
  rw [← hz, ← hr] at cc3
  rw [← hs, ← ht] at cc4
  rw [← hx, ← hp, ← hy, ← hq, ← hz, ← hr, ← hs, ← ht] at hkey
  obtain ⟨hst, hk⟩ := hkey
  have HK : Hid (p = true → q = true → r = true → x = true → y = true → z = true) := hk
  subst hst
  clear hx hp hy hq hz hr hs ht hk fits
  have F1 : ∀ w', Below U.heap.size U w' → ∀ i, w'.cell? ⟨N1, i, none⟩ = (#[.int .i64 o1, .int .i64 k1, .int .i64 l1', .int .i64 h1, .string t1, .slice x1 n1 n1] : Array Value)[i]? := fun w' hb i => (hb.cell (p := ⟨N1, i, none⟩) j1).trans (HU.out.2.2.2.2.1 i)
  have F2 : ∀ w', Below U.heap.size U w' → ∀ i, w'.cell? ⟨N2, i, none⟩ = (#[.int .i64 o2, .int .i64 k2, .int .i64 l2', .int .i64 h2, .string t2, .slice x2 n2 n2] : Array Value)[i]? := fun w' hb i => (hb.cell (p := ⟨N2, i, none⟩) j2).trans (HU.out.2.2.2.2.2.1 i)
  have F3 : ∀ w', Below U.heap.size U w' → ∀ i, w'.cell? ⟨N3, i, none⟩ = (#[.int .i64 o3, .int .i64 k3, .int .i64 l3', .int .i64 h3, .string t3, .slice x3 n3 n3] : Array Value)[i]? := fun w' hb i => (hb.cell (p := ⟨N3, i, none⟩) j3).trans (HU.out.2.2.2.2.2.2 i)
  have HF : Hid (_ ∧ _ ∧ _) := ⟨F1, F2, F3⟩
  have g1 := F1 U (Below.refl _ _)
  have g2 := F2 U (Below.refl _ _)
  clear F1 F2 F3
  have K1 := cc1 U (Below.refl _ _)
  have HK2 : Hid (_ ∧ _ ∧ _) := ⟨cc2, cc3, cc4⟩
  clear cc1 cc2 cc3 cc4
  refine K1.mono ?_
  rintro e u1 ⟨rfl, hu1⟩
  clear K1 g1 g2
  have m2 : N2 < u1.heap.size := Nat.lt_of_lt_of_le j2 hu1.size
  have m3 : N3 < u1.heap.size := Nat.lt_of_lt_of_le j3 hu1.size
  have g2 := HF.out.2.1 u1 hu1
  have g3 := HF.out.2.2 u1 hu1
  have K2 := HK2.out.1 u1 hu1
  go_wp2_with fail
  refine K2.mono ?_
  rintro e u2 ⟨rfl, hu2⟩
  clear K2 g2 g3 m2 m3
  have hU2 : Below U.heap.size U u2 := hu1.trans (hu2.mono hu1.size)
  have m1 : N1 < u2.heap.size := Nat.lt_of_lt_of_le j1 hU2.size
  have m3 : N3 < u2.heap.size := Nat.lt_of_lt_of_le j3 hU2.size
  have g1 := HF.out.1 u2 hU2
  have g3 := HF.out.2.2 u2 hU2
  have K3 := HK2.out.2.1 u2 hU2
  clear hu1 hu2
  go_wp2_with fail
  refine K3.mono ?_
  rintro e u3 ⟨rfl, hu3⟩
  clear K3 g1 g3 m1 m3
  have hU3 : Below U.heap.size U u3 := hU2.trans (hu3.mono hU2.size)
  have m1 : N1 < u3.heap.size := Nat.lt_of_lt_of_le j1 hU3.size
  have g1 := HF.out.1 u3 hU3
  have K4 := HK2.out.2.2 u3 hU3
  clear hU2 hu3
  go_wp2_with fail
  refine K4.mono ?_
  rintro e u4 ⟨rfl, hu4⟩
  have HE : Hid (Below w.heap.size w u4) := HU.out.1.trans ((hU3.trans (hu4.mono hU3.size)).mono HU.out.1.size)
  clear K4 g1 m1 hU3 hu4 HK2 HF
  cases s with
  | false =>
    cases p with
    | false =>
      go_wp2
      go_ret
      exact ⟨rfl, HE.out⟩
    | true =>
      cases q with
      | false =>
        go_wp2
        go_ret
        exact ⟨rfl, HE.out⟩
      | true =>
        cases r with
        | false =>
          go_wp2
          go_ret
          exact ⟨rfl, HE.out⟩
        | true =>
          cases x with
          | false =>
            go_wp2
            go_ret
            exact ⟨rfl, HE.out⟩
          | true =>
            cases y with
            | false =>
              go_wp2
              go_ret
              exact ⟨rfl, HE.out⟩
            | true =>
              obtain rfl : z = true := HK.out rfl rfl rfl rfl rfl
              go_wp2
              go_ret
              exact ⟨rfl, HE.out⟩
  | true =>
    cases p with
    | false =>
      go_wp2
      go_ret
      exact ⟨rfl, HE.out⟩
    | true =>
      cases q with
      | false =>
        go_wp2
        go_ret
        exact ⟨rfl, HE.out⟩
      | true =>
        cases r with
        | false =>
          go_wp2
          go_ret
          exact ⟨rfl, HE.out⟩
        | true =>
          cases x with
          | false =>
            go_wp2
            go_ret
            exact ⟨rfl, HE.out⟩
          | true =>
            cases y with
            | false =>
              go_wp2
              go_ret
              exact ⟨rfl, HE.out⟩
            | true =>
              obtain rfl : z = true := HK.out rfl rfl rfl rfl rfl
              go_wp2
              go_ret
              exact ⟨rfl, HE.out⟩

/-- CoverOrder's walk. -/
theorem ord_any (a0 : Option Addr) (l0 c0 : Nat) (a1 : Option Addr) (l1 c1 : Nat) (a2 : Option Addr) (l2 c2 : Nat) (w : World) (r0 : Reads8 w a0 l0) (r1 : Reads8 w a1 l1) (r2 : Reads8 w a2 l2) :
    Calls Try.prog 5 #[.slice a0 l0 c0, .slice a1 l1 c1, .slice a2 l2 c2] w fun e w' => e = .returned (.bool true) ∧ Below w.heap.size w w' := by
  by_cases h : (30 < l0 ∨ 30 < l1) ∨ 30 < l2
  · exact ord_long a0 a1 a2 l0 c0 l1 c1 l2 c2 w r0.1 r1.1 r2.1 h
  · exact ord_short a0 a1 a2 l0 c0 l1 c1 l2 c2 w (by omega) (by omega) (by omega) r0 r1 r2

end Go.Proofs.Ytflpdekifkcfkab
