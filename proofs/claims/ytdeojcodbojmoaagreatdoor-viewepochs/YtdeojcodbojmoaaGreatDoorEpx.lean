/- ViewEpochs: the walk. -/
import Derived.Test.YtdeojcodbojmoaaGreatDoorEpp
import Derived.BigRegion
namespace Go.Proofs.YtdeojcodbojmoaaGreatDoor
open Go.RowKit
set_option maxRecDepth 100000
set_option linter.unusedVariables false

theorem Lvs.left {P : Nat → Prop} {w : World} {ps qs : List (Vc × Vw)} (h : Lvs P w (ps ++ qs)) : Lvs P w ps := fun p hp => h p (List.mem_append_left _ hp)
theorem Lvs.right {P : Nat → Prop} {w : World} {ps qs : List (Vc × Vw)} (h : Lvs P w (ps ++ qs)) : Lvs P w qs := fun p hp => h p (List.mem_append_right _ hp)

theorem Ro.next {w0 w : World} {g0 g1 n lo hi r k : Nat} {A B : List (Vc × Vw)} (h : Ro w0 w g0 g1 n lo hi r k A B) (e : ∀ a b, A[r]? = some a → B[r]? = some b → Tt n a.2 b.2) : Ro w0 w g0 g1 n lo hi (r + 1) 0 A B :=
  ⟨h.e, h.ga, h.gb, h.t.succ e, fun a b _ _ _ _ => ⟨fun _ j h => absurd h (by omega), fun _ j h => absurd h (by omega)⟩, h.bel⟩

set_option maxHeartbeats 2000000 in
theorem epochs_long (a : Addr) (ao : Option Addr) (len cap : Nat) (z : Int) (w : World) (hg : w.cell? ⟨0, 0, none⟩ = some (.iface 185 (.pointer (some a)))) (h0 : len ≤ maxLen) (h : 100 < len) :
    Calls Tryz.prog 6 #[.slice ao len cap, .int .u8 z] w fun e w' => e = .returned (.bool true) ∧ Below w.heap.size w w' := by
  unfold maxLen at h0
  go_enter Tryz.func6, Tryz.ntmps6
  go_wp2_with fail
  refine (begun8 a _ hg).mono ?_
  rintro e w1 ⟨rfl, hb1⟩
  go_wp2
  go_ret
  exact ⟨rfl, hb1⟩

set_option maxHeartbeats 8000000 in
theorem epochs_short (a : Addr) (ao : Option Addr) (len cap : Nat) (z : Int) (w : World) (hg : w.cell? ⟨0, 0, none⟩ = some (.iface 185 (.pointer (some a)))) (h0 : len ≤ 100) (hz0 : 0 ≤ z) (hz1 : z ≤ 255) (r0 : Reads8 w ao len) :
    Calls Tryz.prog 6 #[.slice ao len cap, .int .u8 z] w fun e w' => e = .returned (.bool true) ∧ Below w.heap.size w w' := by
  obtain ⟨n, hn1, hn5, hn⟩ : ∃ n : Nat, 1 ≤ n ∧ n ≤ 5 ∧ 1 + z % 5 = (n : Int) := ⟨(1 + z % 5).toNat, by omega, by omega, by omega⟩
  go_enter Tryz.func6, Tryz.ntmps6
  go_wp2_with fail
  refine (begun8 a _ hg).mono ?_
  rintro e w1 ⟨rfl, hb0⟩
  replace r0 := reads_below r0 hb0
  go_wp2_with fail
  refine (made10 _ _ _ _).mono ?_
  rintro e W0 ⟨rfl, hW0⟩
  have hp0 : Pick W0 w1.heap.size := by rw [hW0]; exact pick_made r0 (by omega)
  have hbW0 : Below w1.heap.size w1 W0 := by rw [hW0]; exact (Below.refl _ _).alloc (Nat.le_refl _) _
  have hsW0 : w1.heap.size < W0.heap.size := by rw [hW0]; simp
  clear hW0
  go_wp2_with fail
  refine (views11f w1.heap.size n W0 hp0 hn1 hn5).mono ?_
  rintro e W1 ⟨oa, c0, A, rfl, nA, oA, lA, gA, sA, fA, hw1⟩
  go_wp2_with fail
  refine (views11f w1.heap.size n W1 hw1.1 hn1 hn5).mono ?_
  rintro e W2 ⟨ob, c1, B, rfl, nB, oB, lB, gB, sB, fB, hw2⟩
  obtain ⟨g0, c0', e0, u0, t0⟩ := oA.form (by omega)
  obtain ⟨g1, c1', e1, u1, t1⟩ := oB.form (by omega)
  cases e0
  cases e1
  have hst := e2_of hsW0 hn1 hn5 hw1.2 hw2.2 oA oB lA lB nA nB sA sB fA fB
  have HC : Hid ((n ≤ c0 ∧ c0 ≤ maxLen) ∧ n ≤ c1 ∧ c1 ≤ maxLen) := ⟨cap_of_own oA, cap_of_own oB⟩
  have hBW : Below w.heap.size w W2 := hb0.trans ((hbW0.trans ((hw1.trans hw2).2.below (by omega) (fun k hk => by unfold But; omega))).mono hb0.size)
  have hlo : w.heap.size ≤ W0.heap.size := by have := hb0.size; omega
  have HR : Hid (Ro w W2 g0 g1 n W0.heap.size W2.heap.size 0 0 A B) := ⟨hst, Gs.of gA, Gs.of gB, fun i a b _ _ h => absurd h (by omega), fun a b _ _ _ _ => ⟨fun _ j h => absurd h (by omega), fun _ j h => absurd h (by omega)⟩, hBW⟩
  generalize W0.heap.size = lo at *
  generalize W2.heap.size = hi at HR
  clear oA oB lA lB gA gB sA sB fA fB hw1 hw2 hp0 hbW0 hsW0 hb0 r0 hBW u0 u1 t0 t1 nA nB hst
  go_wp2_with fail
  go_loopw [9] (fun i wr => ∃ (r : Nat) (A B : List (Vc × Vw)), r ≤ n ∧ i = .int .i64 r ∧ Hid (Ro w wr g0 g1 n lo hi r 0 A B)) (fun i _ => n - (intOf i).toNat)
  case atStart => exact ⟨0, A, B, Nat.zero_le _, rfl, HR⟩
  case round =>
    clear HR A B
    obtain ⟨r, A, B, hr, rfl, HR⟩ := hrel
    by_cases hlt : r < n
    · go_wp2_with fail
      go_loopw [10] (fun i wr => ∃ (k : Nat) (A B : List (Vc × Vw)), k ≤ n ∧ i = .int .i64 k ∧ Hid (Ro w wr g0 g1 n lo hi r k A B)) (fun i _ => n - (intOf i).toNat)
      case atStart => exact ⟨0, A, B, Nat.zero_le _, rfl, HR⟩
      case round =>
        clear HR A B
        obtain ⟨k, A, B, hk, rfl, HR⟩ := hrel
        obtain ⟨x, xv, hx, lx, a0, a1, a2, a3, a4⟩ := HR.out.e.a.get (HR.out.e.v.left) r (by rw [HR.out.e.la]; exact hlt)
        obtain ⟨y, yv, hy, ly, b0, b1, b2, b3, b4⟩ := HR.out.e.b.get (HR.out.e.v.right) r (by rw [HR.out.e.lb]; exact hlt)
        have ex := lx.Rev
        have ey := ly.Rev
        have m0 := HR.out.e.a.lt
        have m1 := HR.out.e.b.lt
        by_cases hkn : k < n
        · by_cases hx0 : 0 < x.Rev
          · by_cases hy0 : 0 < y.Rev
            · have hxl : k < xv.ep.length := by rw [(HR.out.ga r _ hx).some (by rw [← ex]; exact hx0)]; exact hkn
              have hyl : k < yv.ep.length := by rw [(HR.out.gb r _ hy).some (by rw [← ey]; exact hy0)]; exact hkn
              have hxm : (x, xv) ∈ A ++ B := List.mem_append_left _ (List.mem_of_getElem? hx)
              have hym : (y, yv) ∈ A ++ B := List.mem_append_right _ (List.mem_of_getElem? hy)
              obtain ⟨bx, ox, eex, px, sx, nx, qx, cx⟩ := E2.ep lx k hxl
              obtain ⟨by', oy, eey, py, sy, ny, qy, cy⟩ := E2.ep ly k hyl
              have fx := (HR.out.e.f _ hxm bx ox eex).2
              have fy := (HR.out.e.f _ hym by' oy eey).2
              have hkx : k < x.en := by omega
              have hky : k < y.en := by omega
              rw [eex] at a4
              rw [eey] at b4
              have HX : Hid (A[r]? = some (x, xv) ∧ B[r]? = some (y, yv) ∧ x.ea = some ⟨bx, ox, none⟩ ∧ y.ea = some ⟨by', oy, none⟩ ∧ k < xv.ep.length ∧ k < yv.ep.length ∧ 0 < xv.Rev ∧ 0 < yv.Rev ∧ 0 ≤ tell xv k) := ⟨hx, hy, eex, eey, hxl, hyl, by omega, by omega, tell_pos (HR.out.ga r _ hx) k⟩
              have HE : Hid (x.Rev = xv.Rev ∧ y.Rev = yv.Rev) := ⟨ex, ey⟩
              clear hx hy lx ly ex ey hxl hyl hxm hym eex eey px py nx ny a0 a2 a3 b0 b2 b3
              generalize hTx : tell xv k = tx at *
              generalize hTy : tell yv k = ty at *
              have HT : Hid (tell xv k = tx ∧ tell yv k = ty) := ⟨hTx, hTy⟩
              clear hTx hTy
              by_cases hv : x.Rev < y.Rev
              · go_wp2_with fail
                go_quiet (fail)
                go_wp2_with fail
                go_region
                have HN : Hid (Ro w ((wr.drewN (nq + 1)).setCell ⟨by', oy + k, none⟩ (.int .i64 (max tx ty))) g0 g1 n lo hi r (k + 1) A (B.set r (y, { yv with ep := yv.ep.set k (max tx ty) }))) := by
                  obtain ⟨x1, x2, x3, x4, x5, x6, x7, x8, x9⟩ := HX.out
                  have := (HR.out.below (bel_dN (Below.refl _ _) (nq + 1))).putB x1 x2 x4 x6 x8 hlo (by have := HE.out; omega) (by rw [HT.out.1]; exact x9)
                  rw [HT.out.1, HT.out.2] at this
                  exact this
                generalize ((wr.drewN (nq + 1)).setCell ⟨by', oy + k, none⟩ (.int .i64 (max tx ty))) = X at HN ⊢
                clear HR a1 a4 b1 b4 cx cy fx fy sx sy qx qy
                go_wp2_with fail
                go_roundw
                case rel => exact ⟨k + 1, A, _, by omega, by go_num, HN⟩
                case measure => simp [intOf]; omega
              · go_wp2_with fail
                go_quiet (fail)
                go_wp2_with fail
                go_region
                have HN : Hid (Ro w ((wr.drewN (nq + 1)).setCell ⟨bx, ox + k, none⟩ (.int .i64 (max tx ty))) g0 g1 n lo hi r (k + 1) (A.set r (x, { xv with ep := xv.ep.set k (max tx ty) })) B) := by
                  obtain ⟨x1, x2, x3, x4, x5, x6, x7, x8, x9⟩ := HX.out
                  have := (HR.out.below (bel_dN (Below.refl _ _) (nq + 1))).putA x1 x2 x3 x5 x7 hlo (by have := HE.out; omega) (by rw [HT.out.1]; exact x9)
                  rw [HT.out.1, HT.out.2] at this
                  exact this
                generalize ((wr.drewN (nq + 1)).setCell ⟨bx, ox + k, none⟩ (.int .i64 (max tx ty))) = X at HN ⊢
                clear HR a1 a4 b1 b4 cx cy fx fy sx sy qx qy
                go_wp2_with fail
                go_roundw
                case rel => exact ⟨k + 1, _, B, by omega, by go_num, HN⟩
                case measure => simp [intOf]; omega
            · have HN : Hid (Ro w wr g0 g1 n lo hi (r + 1) 0 A B) := HR.out.next (fun a b ha hb h1 h2 => by rw [hy] at hb; cases hb; simp only at h2; omega)
              go_wp2_with fail
              go_roundw
              case rel => exact ⟨r + 1, A, B, by omega, by go_num, HN⟩
              case measure => simp [intOf]; omega
          · have HN : Hid (Ro w wr g0 g1 n lo hi (r + 1) 0 A B) := HR.out.next (fun a b ha hb h1 h2 => by rw [hx] at ha; cases ha; simp only at h1; omega)
            go_wp2_with fail
            go_roundw
            case rel => exact ⟨r + 1, A, B, by omega, by go_num, HN⟩
            case measure => simp [intOf]; omega
        · have HN : Hid (Ro w wr g0 g1 n lo hi (r + 1) 0 A B) := HR.out.next (fun a b ha hb => by
            have ek : k = n := by omega
            rw [← ek]
            exact HR.out.tk a b ha hb)
          go_wp2_with fail
          go_roundw
          case rel => exact ⟨r + 1, A, B, by omega, by go_num, HN⟩
          case measure => simp [intOf]; omega
    · -- TAIL
      obtain rfl : r = n := by omega
      have hbw : Below w.heap.size w wr := HR.out.bel
      have rA : RVw wr (some ⟨g0, 0, none⟩) r c0 (A.map (·.2)) := HR.out.e.a.rvw HR.out.e.v.left HR.out.e.la (by omega) HC.out.1.1 HC.out.1.2
      have rB : RVw wr (some ⟨g1, 0, none⟩) r c1 (B.map (·.2)) := HR.out.e.b.rvw HR.out.e.v.right HR.out.e.lb (by omega) HC.out.2.1 HC.out.2.2
      go_wp2_with fail
      refine (epochs20 wr _ r c0 (A.map (·.2)) hn1 hn5 rA HR.out.ga.tells).mono ?_
      rintro e w3 ⟨rfl, q3, hb3⟩
      have s3 : wr.heap.size < w3.heap.size := World.block_lt_of_cell? _ ⟨_, 0, none⟩ (q3 0 (by omega))
      have rA3 := rA.below hb3
      have rB3 := rB.below hb3
      clear rA rB
      go_wp2_with fail
      refine (epochs20 w3 _ r c1 (B.map (·.2)) hn1 hn5 rB3 HR.out.gb.tells).mono ?_
      rintro e w4 ⟨rfl, q4, hb4⟩
      have s4 : w3.heap.size < w4.heap.size := World.block_lt_of_cell? _ ⟨_, 0, none⟩ (q4 0 (by omega))
      have rA4 := rA3.below hb4
      have rB4 := rB3.below hb4
      clear rA3 rB3
      have hml : (mg (A.map (·.2)) (B.map (·.2))).length = r := (most_mg HR.out.e.la HR.out.e.lb HR.out.ga HR.out.gb HR.out.t (k := 0) (by omega)).1
      have hmm : Hid (∀ k, k < r → most (mg (A.map (·.2)) (B.map (·.2))) k = max (most (A.map (·.2)) k) (most (B.map (·.2)) k)) := fun k hk => (most_mg HR.out.e.la HR.out.e.lb HR.out.ga HR.out.gb HR.out.t hk).2
      have hmt : Hid (∀ v ∈ mg (A.map (·.2)) (B.map (·.2)), Tells r v) := mg_tells HR.out.e.la HR.out.e.lb HR.out.ga HR.out.gb
      go_wp2_with fail
      refine (rmerge w4 _ _ r c0 r c1 _ _ rA4 rB4 (by omega) (by omega)).mono ?_
      rintro e w5 ⟨o, oc, rfl, rM, hb5⟩
      rw [hml] at rM ⊢
      go_wp2_with fail
      refine (epochs20 w5 _ r oc _ hn1 hn5 rM hmt.out).mono ?_
      rintro e w6 ⟨rfl, q6, hb6⟩
      have s5 := hb5.size
      have s6 : w5.heap.size < w6.heap.size := World.block_lt_of_cell? _ ⟨_, 0, none⟩ (q6 0 (by omega))
      have B36 : Below w3.heap.size w3 w6 := hb4.trans ((hb5.trans (hb6.mono hb5.size)).mono (by omega))
      have B46 : Below w4.heap.size w4 w6 := hb5.trans (hb6.mono hb5.size)
      have HR6 : Hid (Ro w w6 g0 g1 r lo hi r 0 A B) := HR.out.below (hb3.trans (B36.mono (by omega)))
      have Q3 : ∀ j, j < r → w6.cell? ⟨wr.heap.size, j, none⟩ = some (.int .i64 (most (A.map (·.2)) j)) := fun j hj => (B36.cell (p := ⟨wr.heap.size, j, none⟩) s3).trans (q3 j hj)
      have Q4 : ∀ j, j < r → w6.cell? ⟨w3.heap.size, j, none⟩ = some (.int .i64 (most (B.map (·.2)) j)) := fun j hj => (B46.cell (p := ⟨w3.heap.size, j, none⟩) s4).trans (q4 j hj)
      have Q6 : ∀ j, j < r → w6.cell? ⟨w5.heap.size, j, none⟩ = some (.int .i64 (max (most (A.map (·.2)) j) (most (B.map (·.2)) j))) := fun j hj => by rw [← hmm.out j hj]; exact q6 j hj
      have l3 : wr.heap.size < w6.heap.size := by omega
      have l4 : w3.heap.size < w6.heap.size := by omega
      generalize wr.heap.size = b3 at *
      generalize w3.heap.size = b4 at *
      generalize w5.heap.size = b6 at *
      clear q3 q4 q6 hb3 hb4 hb5 hb6 B36 B46 s3 s4 s5 rA4 rB4 rM HR hmm hmt hml hbw
      clear wr w3 w4 w5
      go_wp2_with fail
      go_loopw [14] (fun i wr => ∃ (j : Nat), j ≤ r ∧ i = .int .i64 j ∧ Hid (Ro w wr g0 g1 r lo hi r 0 A B) ∧ Hid (Below w6.heap.size w6 wr)) (fun i _ => r - (intOf i).toNat)
      case atStart => exact ⟨0, Nat.zero_le _, rfl, HR6, Below.refl _ _⟩
      case round =>
        obtain ⟨j, hj, rfl, HR, HB⟩ := hrel
        by_cases hjr : j < r
        · have p3 := (HB.out.cell (p := ⟨b3, j, none⟩) l3).trans (Q3 j hjr)
          have p4 := (HB.out.cell (p := ⟨b4, j, none⟩) l4).trans (Q4 j hjr)
          have p6 := (HB.out.cell (p := ⟨b6, j, none⟩) s6).trans (Q6 j hjr)
          have z3 := Nat.lt_of_lt_of_le l3 HB.out.size
          have z4 := Nat.lt_of_lt_of_le l4 HB.out.size
          have z6 := Nat.lt_of_lt_of_le s6 HB.out.size
          go_wp2_with fail
          go_region
          have HRd : Hid (Ro w wr.drew g0 g1 r lo hi r 0 A B) := HR.out.below (bel_dN (Below.refl _ _) 1)
          have HBd : Hid (Below w6.heap.size w6 wr.drew) := bel_dN HB.out 1
          have p3' : wr.drew.cell? ⟨b3, j, none⟩ = some (.int .i64 (most (A.map (·.2)) j)) := p3
          clear p3 p4 p6 z3 z4 z6 HR HB
          generalize wr.drew = W at HRd HBd p3' ⊢
          clear wr
          go_wp2_with fail
          go_loopw [15, 16] (fun m i wr => ∃ (k : Nat), k ≤ r ∧ i = .int .i64 k ∧ m = .int .i64 (most ((A.map (·.2)).take k) j) ∧ wr = W) (fun _ i _ => r - (intOf i).toNat)
          case atStart => exact ⟨0, Nat.zero_le _, rfl, rfl, rfl⟩
          case round =>
            obtain ⟨k, hk, rfl, rfl, hwr⟩ := hrel
            subst hwr
            by_cases hkr : k < r
            · obtain ⟨x, xv, hx, lx, a0, a1, a2, a3, a4⟩ := HRd.out.e.a.get (HRd.out.e.v.left) k (by rw [HRd.out.e.la]; exact hkr)
              have hms := most_take (j := j) hx
              have ex := lx.Rev
              have m0 := HRd.out.e.a.lt
              have gx := HRd.out.ga k _ hx
              have mn := most_nonneg ((A.map (·.2)).take k) j
              by_cases hx0 : 0 < x.Rev
              · have hxl : j < xv.ep.length := by rw [gx.some (by rw [← ex]; exact hx0)]; exact hjr
                obtain ⟨bx, ox, eex, px, sx, nx, qx, cx⟩ := E2.ep lx j hxl
                have hkx : j < x.en := by omega
                rw [eex] at a4
                have HM : Hid (most ((A.map (·.2)).take (k + 1)) j = max (most ((A.map (·.2)).take k) j) (tell xv j)) := hms
                clear hms lx gx hx px nx eex ex hxl a0 a2 a3
                generalize tell xv j = tx at *
                generalize most ((A.map (·.2)).take k) j = mk at *
                go_wp2_with fail
                go_roundw
                case rel => exact ⟨k + 1, by omega, by go_num, by rw [HM.out], trivial⟩
                case measure => simp [intOf]; omega
              · have HM : Hid (most ((A.map (·.2)).take (k + 1)) j = most ((A.map (·.2)).take k) j) := by
                  have h1 := tell_none (gx.none (by have := gx.lo; simp only at ex this ⊢; omega)) j
                  rw [hms, h1]; exact Int.max_eq_left mn
                clear hms lx gx hx ex a0 a2 a3
                go_wp2_with fail
                go_roundw
                case rel => exact ⟨k + 1, by omega, by go_num, by rw [HM.out], trivial⟩
                case measure => simp [intOf]; omega
            · have et : (A.map (·.2)).take k = A.map (·.2) := List.take_of_length_le (by rw [List.length_map, HRd.out.e.la]; omega)
              have z3 := Nat.lt_of_lt_of_le l3 HBd.out.size
              rw [et]
              go_wp2_with fail
              go_roundw
              case rel => exact ⟨j + 1, by omega, by go_num, HRd, HBd⟩
              case measure => simp [intOf]; omega
        · go_wp2_with fail
          go_ret
          exact ⟨rfl, HR.out.bel⟩


/-- The law. -/
theorem epochs6 (a : Addr) (ao : Option Addr) (len cap : Nat) (z : Int) (w : World) (hg : w.cell? ⟨0, 0, none⟩ = some (.iface 185 (.pointer (some a)))) (r0 : Reads8 w ao len) (hz : 0 ≤ z ∧ z ≤ 255) :
    Calls Tryz.prog 6 #[.slice ao len cap, .int .u8 z] w fun e w' => e = .returned (.bool true) ∧ Below w.heap.size w w' := by
  by_cases h : 100 < len
  · exact epochs_long a ao len cap z w hg r0.1 h
  · exact epochs_short a ao len cap z w hg (by omega) hz.1 hz.2 r0

end Go.Proofs.YtdeojcodbojmoaaGreatDoor
