/- ViewOrder: it does not matter in which order views come. -/
import Derived.Test.YtdeojcodbojmoaaGreatDoorOrp
import Derived.BigRegion
import Derived.Test.YtdeojcodbojmoaaGreatDoorMor
namespace Go.Proofs.YtdeojcodbojmoaaGreatDoor
open Go.RowKit
set_option maxRecDepth 100000
set_option linter.unusedVariables false

theorem Rr.of_own {w : World} {base g n cap : Nat} {ps : List (Vc × Vw)} (h : w.ownsRow base 25 5 (.slice (some ⟨g, 0, none⟩) n cap) n (pcells ps)) (h1 : 1 ≤ n) (h2 : n ≤ 1000) : Rr w g ps := by
  have hr := Rds.of_own h h2 (.inl h1)
  have hlt := (own_lt h g rfl).2
  refine ⟨hlt, ?_, ?_⟩
  · rcases hr with hr | ⟨_, _, _, _, b, off, e, _, _, hc⟩
    · omega
    · cases e
      intro j u hu
      have := hc j u hu
      rwa [Nat.zero_add] at this
  · intro j
    rcases h.2 with ⟨e, _⟩ | ⟨g', c', cur, e, _, hh, _⟩
    · cases e
    · cases e
      simp [World.frozen?, hh]

theorem cap_of_own {w : World} {base : Nat} {o : Option Addr} {n cap : Nat} {xs : List Value} (h : w.ownsRow base 25 5 (.slice o n cap) n xs) : n ≤ cap ∧ cap ≤ maxLen := by
  rcases h.2 with ⟨e, _⟩ | ⟨g, c, cur, e, _, _, h1, h2, _⟩
  · cases e; exact ⟨Nat.le_refl _, Nat.zero_le _⟩
  · cases e; exact ⟨h1, h2⟩

/-- Three rows out of numbers, as they lie behind the third. -/
theorem st_of {pb n : Nat} {w0 W1 W2 W3 : World} {g0 g1 g2 c0 c1 c2 : Nat} {A B C : List (Vc × Vw)} (hp : pb < w0.heap.size) (h1 : 1 ≤ n) (h5 : n ≤ 5) (k1 : Kept (But pb) w0 W1) (k2 : Kept (But pb) W1 W2) (k3 : Kept (But pb) W2 W3)
    (oA : W1.ownsRow w0.heap.size 25 5 (.slice (some ⟨g0, 0, none⟩) n c0) n (pcells A)) (oB : W2.ownsRow W1.heap.size 25 5 (.slice (some ⟨g1, 0, none⟩) n c1) n (pcells B)) (oC : W3.ownsRow W2.heap.size 25 5 (.slice (some ⟨g2, 0, none⟩) n c2) n (pcells C))
    (lA : Lvs (fun k => w0.heap.size ≤ k ∧ Far (.slice (some ⟨g0, 0, none⟩) n c0) k) W1 A) (lB : Lvs (fun k => W1.heap.size ≤ k ∧ Far (.slice (some ⟨g1, 0, none⟩) n c1) k) W2 B) (lC : Lvs (fun k => W2.heap.size ≤ k ∧ Far (.slice (some ⟨g2, 0, none⟩) n c2) k) W3 C)
    (nA : A.length = n) (nB : B.length = n) (nC : C.length = n) : St W3 g0 g1 g2 n A B C := by
  have s1 := k1.size
  have s2 := k2.size
  have s3 := k3.size
  have a0 := own_lt oA g0 rfl
  have a1 := own_lt oB g1 rfl
  have a2 := own_lt oC g2 rfl
  have kA : Kept (But pb) W1 W3 := k2.trans k3
  have fr : ∀ {g n c k : Nat}, Far (.slice (some ⟨g, 0, none⟩) n c) k → k ≠ g := fun hf e => hf (by rw [e]; rfl)
  refine ⟨(Rr.of_own oA h1 (by omega)).kept kA (by unfold But; omega), (Rr.of_own oB h1 (by omega)).kept k3 (by unfold But; omega), Rr.of_own oC h1 (by omega), nA, nB, nC, ?_, ?_, ?_, by omega, by omega, by omega⟩
  · have l1 : Lvs (fun k => k ≠ pb ∧ k ≠ g0 ∧ k ≠ g1 ∧ k ≠ g2) W1 A := lA.mono (fun b hb h => ⟨by omega, fr h.2, by omega, by omega⟩)
    exact (l1.kept (kA.mono (fun k _ h => h.1))).mono (fun b _ h => h.2)
  · have l1 : Lvs (fun k => k ≠ pb ∧ k ≠ g0 ∧ k ≠ g1 ∧ k ≠ g2) W2 B := lB.mono (fun b hb h => ⟨by omega, by omega, fr h.2, by omega⟩)
    exact (l1.kept (k3.mono (fun k _ h => h.1))).mono (fun b _ h => h.2)
  · exact lC.mono (fun b hb h => ⟨by omega, by omega, fr h.2⟩)

/-- One view of a row, with its cells. -/
theorem Rr.get {P : Nat → Prop} {w : World} {g : Nat} {ps : List (Vc × Vw)} (h : Rr w g ps) (lv : Lvs P w ps) (i : Nat) (hi : i < ps.length) : ∃ (c : Vc) (v : Vw), ps[i]? = some (c, v) ∧ Lv P w c v ∧
    w.cell? ⟨g, i * 5, none⟩ = some (.int .i64 c.R) ∧ w.cell? ⟨g, i * 5 + 1, none⟩ = some (.int .i64 c.Rev) ∧ w.cell? ⟨g, i * 5 + 2, none⟩ = some (.string c.f) ∧ w.cell? ⟨g, i * 5 + 3, none⟩ = some (.slice c.sa c.sn c.sc) ∧ w.cell? ⟨g, i * 5 + 4, none⟩ = some (.slice c.ea c.en c.ec) := by
  refine ⟨(ps[i]).1, (ps[i]).2, List.getElem?_eq_getElem hi, lv _ (List.getElem_mem hi), h.at i hi⟩

/-- Views of one number in two rows are alike, below r. -/
def Al (r : Nat) (A B : List (Vc × Vw)) : Prop := ∀ (i : Nat) (a b : Vc × Vw), A[i]? = some a → B[i]? = some b → i < r → a.2.Rev = b.2.Rev → a.2 = b.2
def Rs (A : List (Vc × Vw)) : Prop := ∀ (i : Nat) (a : Vc × Vw), A[i]? = some a → a.2.R = (i : Int) + 1

theorem Rs.of {A : List (Vc × Vw)} (h : ∀ i (h : i < A.length), (A[i]).2.R = (i : Int) + 1) : Rs A := fun i a ha => by
  obtain ⟨hi, rfl⟩ := List.getElem?_eq_some_iff.1 ha
  exact h i hi

theorem Rs.set {A : List (Vc × Vw)} (h : Rs A) (r : Nat) (p : Vc × Vw) (hp : p.2.R = (r : Int) + 1) : Rs (A.set r p) := fun i a ha => by
  rw [List.getElem?_set] at ha
  by_cases e : r = i
  · subst e
    rw [if_pos rfl] at ha
    split at ha
    · cases ha; exact hp
    · cases ha
  · rw [if_neg e] at ha
    exact h i a ha

theorem Al.stay {r : Nat} {A B : List (Vc × Vw)} {a b : Vc × Vw} (h : Al r A B) (ha : A[r]? = some a) (hb : B[r]? = some b) (e : a.2.Rev = b.2.Rev → a.2 = b.2) : Al (r + 1) A B := fun i x y hx hy hi hr => by
  by_cases hir : i < r
  · exact h i x y hx hy hir hr
  · have : i = r := by omega
    subst this
    rw [ha] at hx
    rw [hb] at hy
    cases hx
    cases hy
    exact e hr

theorem Al.set {r : Nat} {A B : List (Vc × Vw)} (h : Al r A B) (hr : r < B.length) (p : Vc × Vw) (e : ∀ a, A[r]? = some a → a.2.Rev = p.2.Rev → a.2 = p.2) : Al (r + 1) A (B.set r p) := fun i x y hx hy hi hv => by
  rw [List.getElem?_set] at hy
  by_cases e1 : r = i
  · subst e1
    rw [if_pos rfl, if_pos hr] at hy
    cases hy
    exact e x hx hv
  · rw [if_neg e1] at hy
    exact h i x y hx hy (by omega) hv

theorem Al.set0 {r : Nat} {A B : List (Vc × Vw)} (h : Al r A B) (p : Vc × Vw) : Al r A (B.set r p) := fun i x y hx hy hi hv => by
  rw [List.getElem?_set, if_neg (by omega)] at hy
  exact h i x y hx hy hi hv

theorem Al.less {r : Nat} {A B : List (Vc × Vw)} (h : Al (r + 1) A B) : Al r A B := fun i x y hx hy hi hv => h i x y hx hy (by omega) hv

theorem Al.zero (A B : List (Vc × Vw)) : Al 0 A B := fun i a b _ _ h => absurd h (by omega)

/-- What three such rows come to. -/
theorem ord_facts {n : Nat} {A B C : List (Vc × Vw)} (la : A.length = n) (lb : B.length = n) (lc : C.length = n) (ra : Rs A) (rb : Rs B) (rc : Rs C) (ab : Al n A B) (ac : Al n A C) (bc : Al n B C) :
    (mg (A.map (·.2)) (B.map (·.2))).length = n ∧ (mg (B.map (·.2)) (A.map (·.2))).length = n ∧ (mg (mg (A.map (·.2)) (B.map (·.2))) (C.map (·.2))).length = n ∧ mg (C.map (·.2)) (mg (B.map (·.2)) (A.map (·.2))) = mg (mg (A.map (·.2)) (B.map (·.2))) (C.map (·.2)) ∧
    mg (mg (mg (A.map (·.2)) (B.map (·.2))) (C.map (·.2))) (B.map (·.2)) = mg (mg (A.map (·.2)) (B.map (·.2))) (C.map (·.2)) ∧
    (∀ (i : Nat) (a b c : Vc × Vw), A[i]? = some a → B[i]? = some b → C[i]? = some c → ∃ v : Vw, (mg (mg (A.map (·.2)) (B.map (·.2))) (C.map (·.2)))[i]? = some v ∧ v.R = (i : Int) + 1 ∧ v.Rev = max (max a.2.Rev b.2.Rev) c.2.Rev) := by
  have R : ∀ {X : List (Vc × Vw)}, X.length = n → Rs X → (X.map (·.2)).map (·.R) = (List.range n).map (fun i => ((i : Nat) : Int) + 1) := fun {X} hX hR => by
    apply List.ext_getElem
    · simp [hX]
    · intro i h1 h2
      have hi : i < X.length := by simpa using h1
      have := hR i _ (List.getElem?_eq_getElem hi)
      simpa using this
  have RA := R la ra
  have RB := R lb rb
  have RC := R lc rc
  have e1 : mg (A.map (·.2)) (B.map (·.2)) = List.zipWith pick (A.map (·.2)) (B.map (·.2)) := mg_zip _ _ (RA.trans RB.symm)
  have e2 : mg (B.map (·.2)) (A.map (·.2)) = List.zipWith pick (B.map (·.2)) (A.map (·.2)) := mg_zip _ _ (RB.trans RA.symm)
  have z1 := zip_R (A.map (·.2)) (B.map (·.2)) (RA.trans RB.symm)
  have z2 := zip_R (B.map (·.2)) (A.map (·.2)) (RB.trans RA.symm)
  have e3 : mg (mg (A.map (·.2)) (B.map (·.2))) (C.map (·.2)) = List.zipWith pick (List.zipWith pick (A.map (·.2)) (B.map (·.2))) (C.map (·.2)) := by rw [e1]; exact mg_zip _ _ (z1.trans (RA.trans RC.symm))
  have e4 : mg (C.map (·.2)) (mg (B.map (·.2)) (A.map (·.2))) = List.zipWith pick (C.map (·.2)) (List.zipWith pick (B.map (·.2)) (A.map (·.2))) := by rw [e2]; exact mg_zip _ _ (RC.trans (z2.trans RB).symm)
  have z3 := zip_R (List.zipWith pick (A.map (·.2)) (B.map (·.2))) (C.map (·.2)) (z1.trans (RA.trans RC.symm))
  have q : ∀ i (h : i < (A.map (·.2)).length), Q3 (A.map (·.2))[i] ((B.map (·.2))[i]'(by simp at h ⊢; omega)) ((C.map (·.2))[i]'(by simp at h ⊢; omega)) := fun i h => by
    have hA : i < A.length := by simpa using h
    have hB : i < B.length := by omega
    have hC : i < C.length := by omega
    simp only [List.getElem_map]
    exact ⟨ab i _ _ (List.getElem?_eq_getElem hA) (List.getElem?_eq_getElem hB) (by omega), ac i _ _ (List.getElem?_eq_getElem hA) (List.getElem?_eq_getElem hC) (by omega), bc i _ _ (List.getElem?_eq_getElem hB) (List.getElem?_eq_getElem hC) (by omega)⟩
  refine ⟨by rw [e1]; simp [la, lb], by rw [e2]; simp [la, lb], by rw [e3]; simp [la, lb, lc], ?_, ?_, ?_⟩
  · rw [e4, e3]
    exact (zip3 _ _ _ (by simp [la, lb]) (by simp [la, lc]) q).symm
  · rw [e3, mg_zip _ _ (z3.trans (z1.trans (RA.trans RB.symm)))]
    exact zip_mid _ _ _ (by simp [la, lb]) (by simp [la, lc])
  · intro i a b c ha hb hc
    rw [e3]
    refine ⟨pick (pick a.2 b.2) c.2, ?_, ?_, ?_⟩
    · simp [List.getElem?_zipWith, ha, hb, hc]
    · have h1 := ra i a ha
      have h2 := rb i b hb
      have h3 := rc i c hc
      rw [pick_R (by rw [pick_R (h1.trans h2.symm)]; exact h1.trans h3.symm), pick_R (h1.trans h2.symm)]
      exact h1
    · rw [pick_Rev, pick_Rev]

/-- One of three rows as it is handed about. -/
theorem Rr.rvw {P : Nat → Prop} {w : World} {g n cap : Nat} {ps : List (Vc × Vw)} (h : Rr w g ps) (lv : Lvs P w ps) (hl : ps.length = n) (hn : n ≤ 1000) (hc : n ≤ cap) (hm : cap ≤ maxLen) : RVw w (some ⟨g, 0, none⟩) n cap (ps.map (·.2)) := by
  refine ⟨ps, rfl, hl.symm, hc, hm, ⟨by rw [pcells_length, hl], hn, fun _ => ⟨g, 0, rfl, h.lt, h.lt, fun j u hu => ?_⟩⟩, lv.mono (fun b hb _ => hb)⟩
  rw [Nat.zero_add]; exact h.cells j u hu

set_option maxHeartbeats 2000000 in
theorem order_long (a : Addr) (ao : Option Addr) (len cap : Nat) (z : Int) (w : World) (hg : w.cell? ⟨0, 0, none⟩ = some (.iface 185 (.pointer (some a)))) (h0 : len ≤ maxLen) (h : 150 < len) :
    Calls Tryz.prog 4 #[.slice ao len cap, .int .u8 z] w fun e w' => e = .returned (.bool true) ∧ Below w.heap.size w w' := by
  unfold maxLen at h0
  go_enter Tryz.func4, Tryz.ntmps4
  go_wp2_with fail
  refine (begun8 a _ hg).mono ?_
  rintro e w1 ⟨rfl, hb1⟩
  go_wp2
  go_ret
  exact ⟨rfl, hb1⟩

set_option maxHeartbeats 8000000 in
theorem order_short (a : Addr) (ao : Option Addr) (len cap : Nat) (z : Int) (w : World) (hg : w.cell? ⟨0, 0, none⟩ = some (.iface 185 (.pointer (some a)))) (h0 : len ≤ 150) (hz0 : 0 ≤ z) (hz1 : z ≤ 255) (r0 : Reads8 w ao len) :
    Calls Tryz.prog 4 #[.slice ao len cap, .int .u8 z] w fun e w' => e = .returned (.bool true) ∧ Below w.heap.size w w' := by
  obtain ⟨n, hn1, hn5, hn⟩ : ∃ n : Nat, 1 ≤ n ∧ n ≤ 5 ∧ 1 + z % 5 = (n : Int) := ⟨(1 + z % 5).toNat, by omega, by omega, by omega⟩
  go_enter Tryz.func4, Tryz.ntmps4
  go_wp2_with fail
  refine (begun8 a _ hg).mono ?_
  rintro e w1 ⟨rfl, hb0⟩
  replace r0 := reads_below r0 hb0
  go_wp2_with fail
  refine (made10 _ _ _ _).mono ?_
  rintro e W0 ⟨rfl, hW0⟩
  have hp0 : Pick W0 w1.heap.size := by rw [hW0]; exact pick_made r0 (by omega)
  have hbW0 : Below w1.heap.size w1 W0 := by rw [hW0]; exact (Below.refl _ _).alloc (Nat.le_refl _) _
  have hsW0 : w1.heap.size < W0.heap.size := by rw [hW0]; simp
  clear hW0
  go_wp2_with fail
  refine (views11 w1.heap.size n W0 hp0 hn1 hn5).mono ?_
  rintro e W1 ⟨oa, c0, A, rfl, nA, oA, lA, gA, _, hw1⟩
  go_wp2_with fail
  refine (views11 w1.heap.size n W1 hw1.1 hn1 hn5).mono ?_
  rintro e W2 ⟨ob, c1, B, rfl, nB, oB, lB, gB, _, hw2⟩
  go_wp2_with fail
  refine (views11 w1.heap.size n W2 hw2.1 hn1 hn5).mono ?_
  rintro e W3 ⟨oc, c2, C, rfl, nC, oC, lC, gC, _, hw3⟩
  obtain ⟨g0, c0', e0, u0, t0⟩ := oA.form (by omega)
  obtain ⟨g1, c1', e1, u1, t1⟩ := oB.form (by omega)
  obtain ⟨g2, c2', e2, u2, t2⟩ := oC.form (by omega)
  cases e0
  cases e1
  cases e2
  have hst := st_of hsW0 hn1 hn5 hw1.2 hw2.2 hw3.2 oA oB oC lA lB lC nA nB nC
  have hc0 := cap_of_own oA
  have hc1 := cap_of_own oB
  have hc2 := cap_of_own oC
  have hBW : Below w.heap.size w W3 := hb0.trans ((hbW0.trans ((hw1.trans (hw2.trans hw3)).2.below (by omega) (fun k hk => by unfold But; omega))).mono hb0.size)
  have hsz : W0.heap.size ≤ W3.heap.size := (hw1.trans (hw2.trans hw3)).2.size
  have hg0 : w.heap.size ≤ g0 ∧ w.heap.size ≤ g1 ∧ w.heap.size ≤ g2 := by
    have := hb0.size
    have := hw1.2.size
    have := hw2.2.size
    omega
  have HR : Hid (Rs A ∧ Rs B ∧ Rs C) := ⟨Rs.of (fun i h => (gA i h).R), Rs.of (fun i h => (gB i h).R), Rs.of (fun i h => (gC i h).R)⟩
  have HC : Hid (_ ∧ _ ∧ _) := ⟨hc0, hc1, hc2⟩
  have HB : Hid (Below w.heap.size w W3) := hBW
  have HG : Hid (w.heap.size ≤ g0 ∧ w.heap.size ≤ g1 ∧ w.heap.size ≤ g2) := hg0
  clear oA oB oC lA lB lC gA gB gC hw1 hw2 hw3 hp0 hbW0 hsW0 hb0 r0 hBW hc0 hc1 hc2 hsz u0 u1 u2 t0 t1 t2 nA nB nC hg0
  go_wp2_with fail
  obtain ⟨V, hV⟩ : ∃ V, V = W3.alloc (.cells #[.slice (some ⟨g0, 0, none⟩) n c0, .slice (some ⟨g1, 0, none⟩) n c1, .slice (some ⟨g2, 0, none⟩) n c2] 31) := ⟨_, rfl⟩
  rw [← hV]
  have hbV : Below W3.heap.size W3 V := by rw [hV]; exact (Below.refl _ _).alloc (Nat.le_refl _) _
  have hsV : W3.heap.size < V.heap.size := by rw [hV]; simp
  have tV : ∀ i, V.cell? ⟨W3.heap.size, i, none⟩ = (#[.slice (some ⟨g0, 0, none⟩) n c0, .slice (some ⟨g1, 0, none⟩) n c1, .slice (some ⟨g2, 0, none⟩) n c2] : Array Value)[i]? := fun i => by rw [hV]; simp
  have hbw : Below w.heap.size w V := HB.out.trans (hbV.mono HB.out.size)
  have l0 := hst.a.lt
  have l1 := hst.b.lt
  have l2 := hst.c.lt
  have HS : Hid (St V g0 g1 g2 n A B C) := hst.below hbV
  have HBV : Hid (Below w.heap.size w V) := hbw
  have hsw : w.heap.size ≤ W3.heap.size := HB.out.size
  generalize W3.heap.size = tb at *
  clear hV hbV hst HB hbw W3
  -- i = 0
  refine wp_loop_rounds 4 ?_
  rw [rounds_succ]
  go_wp2_with fail
  go_loopw [9] (fun i wr => ∃ r : Nat, r ≤ n ∧ i = .int .i64 r ∧ wr = V) (fun i _ => n - (intOf i).toNat)
  case atStart => exact ⟨0, Nat.zero_le _, rfl, rfl⟩
  case round =>
    obtain ⟨r, hr, rfl, hwr⟩ := hrel
    subst hwr
    by_cases hlt : r < n
    · go_wp2_with fail
      refine wp_loop_rounds 1 ?_
      rw [rounds_succ]
      go_wp2
      go_roundw
      case rel => exact ⟨r + 1, by omega, by go_num, trivial⟩
      case measure => simp [intOf]; omega
    · go_wp2_with fail
      -- i = 1
      rw [rounds_succ]
      go_wp2_with fail
      go_loopw [9] (fun i wr => ∃ (r : Nat) (B' : List (Vc × Vw)), r ≤ n ∧ i = .int .i64 r ∧ Hid (St wr g0 g1 g2 n A B' C ∧ Rs B' ∧ Al r A B' ∧ Below w.heap.size w wr) ∧ (∀ i, wr.cell? ⟨tb, i, none⟩ = (#[.slice (some ⟨g0, 0, none⟩) n c0, .slice (some ⟨g1, 0, none⟩) n c1, .slice (some ⟨g2, 0, none⟩) n c2] : Array Value)[i]?) ∧ tb < wr.heap.size) (fun i _ => n - (intOf i).toNat)
      case atStart => exact ⟨0, B, Nat.zero_le _, rfl, ⟨HS.out, HR.out.2.1, Al.zero _ _, HBV.out⟩, tV, hsV⟩
      case round =>
        clear hr hlt
        obtain ⟨r, B', hr, rfl, HI, tw, htb⟩ := hrel
        by_cases hlt : r < n
        · obtain ⟨x, xv, hx, lx, a0, a1, a2, a3, a4⟩ := HI.out.1.a.get HI.out.1.va r (by rw [HI.out.1.la]; exact hlt)
          obtain ⟨y, yv, hy, ly, b0, b1, b2, b3, b4⟩ := HI.out.1.b.get HI.out.1.vb r (by rw [HI.out.1.lb]; exact hlt)
          have q0 : wr.cell? ⟨tb, 0, none⟩ = some (.slice (some ⟨g0, 0, none⟩) n c0) := tw 0
          have q1 : wr.cell? ⟨tb, 1, none⟩ = some (.slice (some ⟨g1, 0, none⟩) n c1) := tw 1
          have HX : Hid (A[r]? = some (x, xv) ∧ B'[r]? = some (y, yv) ∧ Lv (fun k => k ≠ g0 ∧ k ≠ g1 ∧ k ≠ g2) wr x xv ∧ x.Rev = xv.Rev ∧ y.Rev = yv.Rev) := ⟨hx, hy, lx, lx.Rev, ly.Rev⟩
          have ff : ∀ j, wr.frozen? ⟨g1, j, none⟩ = false := HI.out.1.b.free
          have m0 : g0 < wr.heap.size := HI.out.1.a.lt
          have m1 : g1 < wr.heap.size := HI.out.1.b.lt
          clear hx hy lx ly
          by_cases hv : x.Rev = y.Rev
          · have hd : (x.Rev == y.Rev) = true := beq_iff_eq.2 hv
            have HV : Hid (x.Rev = y.Rev) := hv
            clear hv
            go_wp2_with fail
            refine wp_loop_rounds 2 ?_
            rw [rounds_succ]
            go_wp2_with fail
            go_quiet (fail)
            go_wp2_with fail
            go_region
            go_wp2_with fail
            obtain ⟨X, hX⟩ : ∃ X, X = (((((wr.drewN (nq + 1)).setCell ⟨g1, r * 5, none⟩ (.int .i64 x.R)).setCell ⟨g1, r * 5 + 1, none⟩ (.int .i64 x.Rev)).setCell ⟨g1, r * 5 + 2, none⟩ (.string x.f)).setCell ⟨g1, r * 5 + 3, none⟩ (.slice x.sa x.sn x.sc)).setCell ⟨g1, r * 5 + 4, none⟩ (.slice x.ea x.en x.ec) := ⟨_, rfl⟩
            rw [← hX]
            have hX' : X = put5 (wr.drewN (nq + 1)) g1 (r * 5) x := hX
            clear hX
            have hbd : Below wr.heap.size wr (wr.drewN (nq + 1)) := bel_dN (Below.refl _ _) _
            have hkp : Kept (fun k => k ≠ g1) wr X := by rw [hX']; exact ((Kept.refl _ wr).drewN _).trans (put5_kept _ _ _ _)
            have hSX : St X g0 g1 g2 n A (B'.set r (x, xv)) C := by rw [hX']; exact (HI.out.1.below hbd).putB r hlt (x, xv) (HX.out.2.2.1.below hbd)
            have htX : ∀ i, X.cell? ⟨tb, i, none⟩ = (#[.slice (some ⟨g0, 0, none⟩) n c0, .slice (some ⟨g1, 0, none⟩) n c1, .slice (some ⟨g2, 0, none⟩) n c2] : Array Value)[i]? := fun i => (hkp.cell htb (by show tb ≠ g1; omega)).trans (tw i)
            have hsX : tb < X.heap.size := Nat.lt_of_lt_of_le htb hkp.size
            have hIX : Hid (St X g0 g1 g2 n A (B'.set r (x, xv)) C ∧ Rs (B'.set r (x, xv)) ∧ Al (r + 1) A (B'.set r (x, xv)) ∧ Below w.heap.size w X) := by
              obtain ⟨i1, i2, i3, i4⟩ := HI.out
              refine ⟨hSX, i2.set r _ ?_, i3.set (by rw [i1.lb]; exact hlt) _ (fun a ha _ => ?_), i4.trans (hkp.below i4.size (fun k hk => by have := HG.out.2.1; omega))⟩
              · have := HR.out.1 r _ HX.out.1
                exact this
              · rw [HX.out.1] at ha; cases ha; rfl
            clear hX' hkp hSX hbd a0 a1 a2 a3 a4 b0 b1 b2 b3 b4 q0 q1 HI tw htb ff m0 m1
            rw [rounds_succ]
            go_wp2
            go_roundw
            case rel => exact ⟨r + 1, B'.set r (x, xv), by omega, by go_num, hIX, htX, hsX⟩
            case measure => simp [intOf]; omega
          · have hd : (x.Rev == y.Rev) = false := beq_eq_false_iff_ne.2 hv
            have HV : Hid (¬ x.Rev = y.Rev) := hv
            clear hv
            go_wp2_with fail
            refine wp_loop_rounds 2 ?_
            rw [rounds_succ]
            go_wp2_with fail
            go_quiet (fail)
            go_wp2_with fail
            obtain ⟨X, hX⟩ : ∃ X, X = wr.drewN nq := ⟨_, rfl⟩
            rw [← hX]
            have hbd : Below wr.heap.size wr X := by rw [hX]; exact bel_dN (Below.refl _ _) _
            have htX : ∀ i, X.cell? ⟨tb, i, none⟩ = (#[.slice (some ⟨g0, 0, none⟩) n c0, .slice (some ⟨g1, 0, none⟩) n c1, .slice (some ⟨g2, 0, none⟩) n c2] : Array Value)[i]? := fun i => (hbd.cell (p := ⟨tb, i, none⟩) htb).trans (tw i)
            have hsX : tb < X.heap.size := Nat.lt_of_lt_of_le htb hbd.size
            have hIX : Hid (St X g0 g1 g2 n A B' C ∧ Rs B' ∧ Al (r + 1) A B' ∧ Below w.heap.size w X) := by
              obtain ⟨i1, i2, i3, i4⟩ := HI.out
              refine ⟨i1.below hbd, i2, i3.stay HX.out.1 HX.out.2.1 (fun e => absurd ?_ HV.out), i4.trans (hbd.mono i4.size)⟩
              rw [HX.out.2.2.2.1, HX.out.2.2.2.2]; exact e
            clear hX hbd a0 a1 a2 a3 a4 b0 b1 b2 b3 b4 q0 q1 HI tw htb ff m0 m1
            rw [rounds_succ]
            go_wp2
            go_roundw
            case rel => exact ⟨r + 1, B', by omega, by go_num, hIX, htX, hsX⟩
            case measure => simp [intOf]; omega
        · have HI2 : Hid (St wr g0 g1 g2 n A B' C ∧ Below w.heap.size w wr) := ⟨HI.out.1, HI.out.2.2.2⟩
          have HAB : Hid (Al n A B') := by
            have er : r = n := by omega
            rw [← er]; exact HI.out.2.2.1
          have HRB : Hid (Rs B') := HI.out.2.1
          go_wp2_with fail
          -- i = 2
          rw [rounds_succ]
          go_wp2_with fail
          go_loopw [9] (fun i wr => ∃ (r : Nat) (C' : List (Vc × Vw)), r ≤ n ∧ i = .int .i64 r ∧ Hid (St wr g0 g1 g2 n A B' C' ∧ Rs C' ∧ Al r A C' ∧ Al r B' C' ∧ Below w.heap.size w wr) ∧ (∀ i, wr.cell? ⟨tb, i, none⟩ = (#[.slice (some ⟨g0, 0, none⟩) n c0, .slice (some ⟨g1, 0, none⟩) n c1, .slice (some ⟨g2, 0, none⟩) n c2] : Array Value)[i]?) ∧ tb < wr.heap.size) (fun i _ => n - (intOf i).toNat)
          case atStart => exact ⟨0, C, Nat.zero_le _, rfl, ⟨HI2.out.1, HR.out.2.2, Al.zero _ _, Al.zero _ _, HI2.out.2⟩, tw, htb⟩
          case round =>
            clear hr hlt HI HI2 tw htb
            obtain ⟨r, C', hr, rfl, HI, tw, htb⟩ := hrel
            by_cases hlt : r < n
            · obtain ⟨x, xv, hx, lx, a0, a1, a2, a3, a4⟩ := HI.out.1.a.get HI.out.1.va r (by rw [HI.out.1.la]; exact hlt)
              obtain ⟨t, tv, ht, lt, d0, d1, d2, d3, d4⟩ := HI.out.1.c.get HI.out.1.vc r (by rw [HI.out.1.lc]; exact hlt)
              have q0 : wr.cell? ⟨tb, 0, none⟩ = some (.slice (some ⟨g0, 0, none⟩) n c0) := tw 0
              have q2 : wr.cell? ⟨tb, 2, none⟩ = some (.slice (some ⟨g2, 0, none⟩) n c2) := tw 2
              have HX : Hid (A[r]? = some (x, xv) ∧ C'[r]? = some (t, tv) ∧ Lv (fun k => k ≠ g0 ∧ k ≠ g1 ∧ k ≠ g2) wr x xv ∧ x.Rev = xv.Rev ∧ t.Rev = tv.Rev) := ⟨hx, ht, lx, lx.Rev, lt.Rev⟩
              have ff : ∀ j, wr.frozen? ⟨g2, j, none⟩ = false := HI.out.1.c.free
              have m0 : g0 < wr.heap.size := HI.out.1.a.lt
              have m2 : g2 < wr.heap.size := HI.out.1.c.lt
              clear hx ht lx lt
              by_cases hv : x.Rev = t.Rev
              · have hd : (x.Rev == t.Rev) = true := beq_iff_eq.2 hv
                clear hv
                go_wp2_with fail
                refine wp_loop_rounds 3 ?_
                rw [rounds_succ]
                go_wp2_with fail
                go_quiet (fail)
                go_wp2_with fail
                go_region
                go_wp2_with fail
                obtain ⟨X, hX⟩ : ∃ X, X = (((((wr.drewN (nq + 1)).setCell ⟨g2, r * 5, none⟩ (.int .i64 x.R)).setCell ⟨g2, r * 5 + 1, none⟩ (.int .i64 x.Rev)).setCell ⟨g2, r * 5 + 2, none⟩ (.string x.f)).setCell ⟨g2, r * 5 + 3, none⟩ (.slice x.sa x.sn x.sc)).setCell ⟨g2, r * 5 + 4, none⟩ (.slice x.ea x.en x.ec) := ⟨_, rfl⟩
                rw [← hX]
                have hX' : X = put5 (wr.drewN (nq + 1)) g2 (r * 5) x := hX
                clear hX
                obtain ⟨C1, hC1⟩ : ∃ C1, C1 = C'.set r (x, xv) := ⟨_, rfl⟩
                have hbd : Below wr.heap.size wr (wr.drewN (nq + 1)) := bel_dN (Below.refl _ _) _
                have hkp : Kept (fun k => k ≠ g2) wr X := by rw [hX']; exact ((Kept.refl _ wr).drewN _).trans (put5_kept _ _ _ _)
                have tX : ∀ i, X.cell? ⟨tb, i, none⟩ = (#[.slice (some ⟨g0, 0, none⟩) n c0, .slice (some ⟨g1, 0, none⟩) n c1, .slice (some ⟨g2, 0, none⟩) n c2] : Array Value)[i]? := fun i => (hkp.cell htb (by show tb ≠ g2; omega)).trans (tw i)
                have sX : tb < X.heap.size := Nat.lt_of_lt_of_le htb hkp.size
                have HJ : Hid (St X g0 g1 g2 n A B' C1 ∧ Rs C1 ∧ Al (r + 1) A C1 ∧ Al r B' C1 ∧ Below w.heap.size w X) := by
                  obtain ⟨i1, i2, i3, i4, i5⟩ := HI.out
                  rw [hC1]
                  refine ⟨by rw [hX']; exact (i1.below hbd).putC r hlt (x, xv) (HX.out.2.2.1.below hbd), i2.set r _ (HR.out.1 r _ HX.out.1), i3.set (by rw [i1.lc]; exact hlt) _ (fun a ha _ => ?_), i4.set0 _, i5.trans (hkp.below i5.size (fun k hk => by have := HG.out.2.2; omega))⟩
                  rw [HX.out.1] at ha; cases ha; rfl
                clear hX' hkp hbd hC1 a0 a1 a2 a3 a4 d0 d1 d2 d3 d4 q0 q2 HI tw htb ff m0 m2 HX hd
                rw [rounds_succ]
                go_wp2_with fail
                obtain ⟨y, yv, hy, ly, b0, b1, b2, b3, b4⟩ := HJ.out.1.b.get HJ.out.1.vb r (by rw [HJ.out.1.lb]; exact hlt)
                obtain ⟨u, uv, hu, lu, d0, d1, d2, d3, d4⟩ := HJ.out.1.c.get HJ.out.1.vc r (by rw [HJ.out.1.lc]; exact hlt)
                have q1 : X.cell? ⟨tb, 1, none⟩ = some (.slice (some ⟨g1, 0, none⟩) n c1) := tX 1
                have q2 : X.cell? ⟨tb, 2, none⟩ = some (.slice (some ⟨g2, 0, none⟩) n c2) := tX 2
                have HY : Hid (B'[r]? = some (y, yv) ∧ C1[r]? = some (u, uv) ∧ Lv (fun k => k ≠ g0 ∧ k ≠ g1 ∧ k ≠ g2) X y yv ∧ y.Rev = yv.Rev ∧ u.Rev = uv.Rev) := ⟨hy, hu, ly, ly.Rev, lu.Rev⟩
                have ff : ∀ j, X.frozen? ⟨g2, j, none⟩ = false := HJ.out.1.c.free
                have m1 : g1 < X.heap.size := HJ.out.1.b.lt
                have m2 : g2 < X.heap.size := HJ.out.1.c.lt
                clear hy hu ly lu
                by_cases hv : y.Rev = u.Rev
                · have hd : (y.Rev == u.Rev) = true := beq_iff_eq.2 hv
                  have HV : Hid (y.Rev = u.Rev) := hv
                  clear hv
                  go_wp2_with fail
                  go_quiet (fail)
                  go_wp2_with fail
                  go_region
                  go_wp2_with fail
                  obtain ⟨Y, hY⟩ : ∃ Y, Y = (((((X.drewN (nq + 1)).setCell ⟨g2, r * 5, none⟩ (.int .i64 y.R)).setCell ⟨g2, r * 5 + 1, none⟩ (.int .i64 y.Rev)).setCell ⟨g2, r * 5 + 2, none⟩ (.string y.f)).setCell ⟨g2, r * 5 + 3, none⟩ (.slice y.sa y.sn y.sc)).setCell ⟨g2, r * 5 + 4, none⟩ (.slice y.ea y.en y.ec) := ⟨_, rfl⟩
                  rw [← hY]
                  have hY' : Y = put5 (X.drewN (nq + 1)) g2 (r * 5) y := hY
                  clear hY
                  have hbd : Below X.heap.size X (X.drewN (nq + 1)) := bel_dN (Below.refl _ _) _
                  have hkp : Kept (fun k => k ≠ g2) X Y := by rw [hY']; exact ((Kept.refl _ X).drewN _).trans (put5_kept _ _ _ _)
                  have htY : ∀ i, Y.cell? ⟨tb, i, none⟩ = (#[.slice (some ⟨g0, 0, none⟩) n c0, .slice (some ⟨g1, 0, none⟩) n c1, .slice (some ⟨g2, 0, none⟩) n c2] : Array Value)[i]? := fun i => (hkp.cell sX (by show tb ≠ g2; omega)).trans (tX i)
                  have hsY : tb < Y.heap.size := Nat.lt_of_lt_of_le sX hkp.size
                  have hIY : Hid (St Y g0 g1 g2 n A B' (C1.set r (y, yv)) ∧ Rs (C1.set r (y, yv)) ∧ Al (r + 1) A (C1.set r (y, yv)) ∧ Al (r + 1) B' (C1.set r (y, yv)) ∧ Below w.heap.size w Y) := by
                    obtain ⟨i1, i2, i3, i4, i5⟩ := HJ.out
                    refine ⟨by rw [hY']; exact (i1.below hbd).putC r hlt (y, yv) (HY.out.2.2.1.below hbd), i2.set r _ (HRB.out r _ HY.out.1), i3.less.set (by rw [i1.lc]; exact hlt) _ (fun a ha e => ?_), i4.set (by rw [i1.lc]; exact hlt) _ (fun b hb _ => ?_), i5.trans (hkp.below i5.size (fun k hk => by have := HG.out.2.2; omega))⟩
                    · exact HAB.out r a _ ha HY.out.1 hlt e
                    · rw [HY.out.1] at hb; cases hb; rfl
                  clear hY' hkp hbd b0 b1 b2 b3 b4 d0 d1 d2 d3 d4 q1 q2 HJ tX sX ff m1 m2
                  rw [rounds_succ]
                  go_wp2
                  go_roundw
                  case rel => exact ⟨r + 1, C1.set r (y, yv), by omega, by go_num, hIY, htY, hsY⟩
                  case measure => simp [intOf]; omega
                · have hd : (y.Rev == u.Rev) = false := beq_eq_false_iff_ne.2 hv
                  have HV : Hid (¬ y.Rev = u.Rev) := hv
                  clear hv
                  go_wp2_with fail
                  go_quiet (fail)
                  go_wp2_with fail
                  obtain ⟨Y, hY⟩ : ∃ Y, Y = X.drewN nq := ⟨_, rfl⟩
                  rw [← hY]
                  have hbd : Below X.heap.size X Y := by rw [hY]; exact bel_dN (Below.refl _ _) _
                  have htY : ∀ i, Y.cell? ⟨tb, i, none⟩ = (#[.slice (some ⟨g0, 0, none⟩) n c0, .slice (some ⟨g1, 0, none⟩) n c1, .slice (some ⟨g2, 0, none⟩) n c2] : Array Value)[i]? := fun i => (hbd.cell (p := ⟨tb, i, none⟩) sX).trans (tX i)
                  have hsY : tb < Y.heap.size := Nat.lt_of_lt_of_le sX hbd.size
                  have hIY : Hid (St Y g0 g1 g2 n A B' C1 ∧ Rs C1 ∧ Al (r + 1) A C1 ∧ Al (r + 1) B' C1 ∧ Below w.heap.size w Y) := by
                    obtain ⟨i1, i2, i3, i4, i5⟩ := HJ.out
                    refine ⟨i1.below hbd, i2, i3, i4.stay HY.out.1 HY.out.2.1 (fun e => absurd ?_ HV.out), i5.trans (hbd.mono i5.size)⟩
                    rw [HY.out.2.2.2.1, HY.out.2.2.2.2]; exact e
                  clear hY hbd b0 b1 b2 b3 b4 d0 d1 d2 d3 d4 q1 q2 HJ tX sX ff m1 m2
                  rw [rounds_succ]
                  go_wp2
                  go_roundw
                  case rel => exact ⟨r + 1, C1, by omega, by go_num, hIY, htY, hsY⟩
                  case measure => simp [intOf]; omega
              · have hd : (x.Rev == t.Rev) = false := beq_eq_false_iff_ne.2 hv
                have HV0 : Hid (¬ x.Rev = t.Rev) := hv
                clear hv
                go_wp2_with fail
                refine wp_loop_rounds 3 ?_
                rw [rounds_succ]
                go_wp2_with fail
                go_quiet (fail)
                go_wp2_with fail
                obtain ⟨X, hX⟩ : ∃ X, X = wr.drewN nq := ⟨_, rfl⟩
                rw [← hX]
                obtain ⟨C1, hC1⟩ : ∃ C1, C1 = C' := ⟨_, rfl⟩
                have hbd : Below wr.heap.size wr X := by rw [hX]; exact bel_dN (Below.refl _ _) _
                have tX : ∀ i, X.cell? ⟨tb, i, none⟩ = (#[.slice (some ⟨g0, 0, none⟩) n c0, .slice (some ⟨g1, 0, none⟩) n c1, .slice (some ⟨g2, 0, none⟩) n c2] : Array Value)[i]? := fun i => (hbd.cell (p := ⟨tb, i, none⟩) htb).trans (tw i)
                have sX : tb < X.heap.size := Nat.lt_of_lt_of_le htb hbd.size
                have HJ : Hid (St X g0 g1 g2 n A B' C1 ∧ Rs C1 ∧ Al (r + 1) A C1 ∧ Al r B' C1 ∧ Below w.heap.size w X) := by
                  obtain ⟨i1, i2, i3, i4, i5⟩ := HI.out
                  rw [hC1]
                  refine ⟨i1.below hbd, i2, i3.stay HX.out.1 HX.out.2.1 (fun e => absurd ?_ HV0.out), i4, i5.trans (hbd.mono i5.size)⟩
                  rw [HX.out.2.2.2.1, HX.out.2.2.2.2]; exact e
                clear hX hbd hC1 a0 a1 a2 a3 a4 d0 d1 d2 d3 d4 q0 q2 HI tw htb ff m0 m2 HX hd HV0
                rw [rounds_succ]
                go_wp2_with fail
                obtain ⟨y, yv, hy, ly, b0, b1, b2, b3, b4⟩ := HJ.out.1.b.get HJ.out.1.vb r (by rw [HJ.out.1.lb]; exact hlt)
                obtain ⟨u, uv, hu, lu, d0, d1, d2, d3, d4⟩ := HJ.out.1.c.get HJ.out.1.vc r (by rw [HJ.out.1.lc]; exact hlt)
                have q1 : X.cell? ⟨tb, 1, none⟩ = some (.slice (some ⟨g1, 0, none⟩) n c1) := tX 1
                have q2 : X.cell? ⟨tb, 2, none⟩ = some (.slice (some ⟨g2, 0, none⟩) n c2) := tX 2
                have HY : Hid (B'[r]? = some (y, yv) ∧ C1[r]? = some (u, uv) ∧ Lv (fun k => k ≠ g0 ∧ k ≠ g1 ∧ k ≠ g2) X y yv ∧ y.Rev = yv.Rev ∧ u.Rev = uv.Rev) := ⟨hy, hu, ly, ly.Rev, lu.Rev⟩
                have ff : ∀ j, X.frozen? ⟨g2, j, none⟩ = false := HJ.out.1.c.free
                have m1 : g1 < X.heap.size := HJ.out.1.b.lt
                have m2 : g2 < X.heap.size := HJ.out.1.c.lt
                clear hy hu ly lu
                by_cases hv : y.Rev = u.Rev
                · have hd : (y.Rev == u.Rev) = true := beq_iff_eq.2 hv
                  have HV : Hid (y.Rev = u.Rev) := hv
                  clear hv
                  go_wp2_with fail
                  go_quiet (fail)
                  go_wp2_with fail
                  go_region
                  go_wp2_with fail
                  obtain ⟨Y, hY⟩ : ∃ Y, Y = (((((X.drewN (nq + 1)).setCell ⟨g2, r * 5, none⟩ (.int .i64 y.R)).setCell ⟨g2, r * 5 + 1, none⟩ (.int .i64 y.Rev)).setCell ⟨g2, r * 5 + 2, none⟩ (.string y.f)).setCell ⟨g2, r * 5 + 3, none⟩ (.slice y.sa y.sn y.sc)).setCell ⟨g2, r * 5 + 4, none⟩ (.slice y.ea y.en y.ec) := ⟨_, rfl⟩
                  rw [← hY]
                  have hY' : Y = put5 (X.drewN (nq + 1)) g2 (r * 5) y := hY
                  clear hY
                  have hbd : Below X.heap.size X (X.drewN (nq + 1)) := bel_dN (Below.refl _ _) _
                  have hkp : Kept (fun k => k ≠ g2) X Y := by rw [hY']; exact ((Kept.refl _ X).drewN _).trans (put5_kept _ _ _ _)
                  have htY : ∀ i, Y.cell? ⟨tb, i, none⟩ = (#[.slice (some ⟨g0, 0, none⟩) n c0, .slice (some ⟨g1, 0, none⟩) n c1, .slice (some ⟨g2, 0, none⟩) n c2] : Array Value)[i]? := fun i => (hkp.cell sX (by show tb ≠ g2; omega)).trans (tX i)
                  have hsY : tb < Y.heap.size := Nat.lt_of_lt_of_le sX hkp.size
                  have hIY : Hid (St Y g0 g1 g2 n A B' (C1.set r (y, yv)) ∧ Rs (C1.set r (y, yv)) ∧ Al (r + 1) A (C1.set r (y, yv)) ∧ Al (r + 1) B' (C1.set r (y, yv)) ∧ Below w.heap.size w Y) := by
                    obtain ⟨i1, i2, i3, i4, i5⟩ := HJ.out
                    refine ⟨by rw [hY']; exact (i1.below hbd).putC r hlt (y, yv) (HY.out.2.2.1.below hbd), i2.set r _ (HRB.out r _ HY.out.1), i3.less.set (by rw [i1.lc]; exact hlt) _ (fun a ha e => ?_), i4.set (by rw [i1.lc]; exact hlt) _ (fun b hb _ => ?_), i5.trans (hkp.below i5.size (fun k hk => by have := HG.out.2.2; omega))⟩
                    · exact HAB.out r a _ ha HY.out.1 hlt e
                    · rw [HY.out.1] at hb; cases hb; rfl
                  clear hY' hkp hbd b0 b1 b2 b3 b4 d0 d1 d2 d3 d4 q1 q2 HJ tX sX ff m1 m2
                  rw [rounds_succ]
                  go_wp2
                  go_roundw
                  case rel => exact ⟨r + 1, C1.set r (y, yv), by omega, by go_num, hIY, htY, hsY⟩
                  case measure => simp [intOf]; omega
                · have hd : (y.Rev == u.Rev) = false := beq_eq_false_iff_ne.2 hv
                  have HV : Hid (¬ y.Rev = u.Rev) := hv
                  clear hv
                  go_wp2_with fail
                  go_quiet (fail)
                  go_wp2_with fail
                  obtain ⟨Y, hY⟩ : ∃ Y, Y = X.drewN nq := ⟨_, rfl⟩
                  rw [← hY]
                  have hbd : Below X.heap.size X Y := by rw [hY]; exact bel_dN (Below.refl _ _) _
                  have htY : ∀ i, Y.cell? ⟨tb, i, none⟩ = (#[.slice (some ⟨g0, 0, none⟩) n c0, .slice (some ⟨g1, 0, none⟩) n c1, .slice (some ⟨g2, 0, none⟩) n c2] : Array Value)[i]? := fun i => (hbd.cell (p := ⟨tb, i, none⟩) sX).trans (tX i)
                  have hsY : tb < Y.heap.size := Nat.lt_of_lt_of_le sX hbd.size
                  have hIY : Hid (St Y g0 g1 g2 n A B' C1 ∧ Rs C1 ∧ Al (r + 1) A C1 ∧ Al (r + 1) B' C1 ∧ Below w.heap.size w Y) := by
                    obtain ⟨i1, i2, i3, i4, i5⟩ := HJ.out
                    refine ⟨i1.below hbd, i2, i3, i4.stay HY.out.1 HY.out.2.1 (fun e => absurd ?_ HV.out), i5.trans (hbd.mono i5.size)⟩
                    rw [HY.out.2.2.2.1, HY.out.2.2.2.2]; exact e
                  clear hY hbd b0 b1 b2 b3 b4 d0 d1 d2 d3 d4 q1 q2 HJ tX sX ff m1 m2
                  rw [rounds_succ]
                  go_wp2
                  go_roundw
                  case rel => exact ⟨r + 1, C1, by omega, by go_num, hIY, htY, hsY⟩
                  case measure => simp [intOf]; omega
            · go_wp2_with fail
              rw [rounds_succ]
              go_wp2_with fail
              have hrn : r = n := by omega
              have hSt := HI.out.1
              have hf := ord_facts hSt.la hSt.lb hSt.lc HR.out.1 HRB.out HI.out.2.1 HAB.out (by rw [← hrn]; exact HI.out.2.2.1) (by rw [← hrn]; exact HI.out.2.2.2.1)
              have rA := hSt.a.rvw hSt.va hSt.la (by omega) HC.out.1.1 HC.out.1.2
              have rB := hSt.b.rvw hSt.vb hSt.lb (by omega) HC.out.2.1.1 HC.out.2.1.2
              have rC := hSt.c.rvw hSt.vc hSt.lc (by omega) HC.out.2.2.1 HC.out.2.2.2
              have HST : Hid (St wr g0 g1 g2 n A B' C' ∧ Below w.heap.size w wr) := ⟨hSt, HI.out.2.2.2.2⟩
              obtain ⟨f1, f2, f3, f4, f5, f6⟩ := hf
              have HF : Hid _ := f6
              clear f6 hrn hSt HI HAB HRB HR HC hlt hr
              generalize A.map (·.2) = LA at *
              generalize B'.map (·.2) = LB at *
              generalize C'.map (·.2) = LC at *
              obtain ⟨M1, hM1⟩ : ∃ M1, M1 = mg LA LB := ⟨_, rfl⟩
              obtain ⟨M2, hM2⟩ : ∃ M2, M2 = mg LB LA := ⟨_, rfl⟩
              obtain ⟨M, hM⟩ : ∃ M, M = mg M1 LC := ⟨_, rfl⟩
              have p0 : wr.cell? ⟨tb, 0, none⟩ = some (.slice (some ⟨g0, 0, none⟩) n c0) := tw 0
              have p1 : wr.cell? ⟨tb, 1, none⟩ = some (.slice (some ⟨g1, 0, none⟩) n c1) := tw 1
              have p2 : wr.cell? ⟨tb, 2, none⟩ = some (.slice (some ⟨g2, 0, none⟩) n c2) := tw 2
              have hdr : Below wr.heap.size wr wr.drew := (Below.refl _ wr).drew
              have k1 := rmerge wr.drew _ _ _ _ _ _ LA LB (rA.below hdr) (rB.below hdr) (by omega) (by omega)
              rw [f1, ← hM1] at k1
              have k2 : ∀ w' o oc, Below wr.drew.heap.size wr.drew w' → RVw w' o n oc M1 → Calls Tryz.prog 17 #[.slice o n oc, .slice (some ⟨g2, 0, none⟩) n c2] w' fun e w'' => ∃ o2 oc2, e = .returned (.slice o2 n oc2) ∧ RVw w'' o2 n oc2 M ∧ Below w'.heap.size w' w'' := fun w' o oc hb hr => by
                have h := rmerge w' _ _ _ _ _ _ M1 LC hr ((rC.below hdr).below hb) (by rw [hM1]; omega) (by rw [hM1]; omega)
                rw [hM1, f3, ← hM1, ← hM] at h
                exact h
              have HK2 : Hid (∀ w' o oc, Below wr.drew.heap.size wr.drew w' → RVw w' o n oc M1 → Calls Tryz.prog 17 #[.slice o n oc, .slice (some ⟨g2, 0, none⟩) n c2] w' fun e w'' => ∃ o2 oc2, e = .returned (.slice o2 n oc2) ∧ RVw w'' o2 n oc2 M ∧ Below w'.heap.size w' w'') := k2
              clear k2
              go_region_held3 (fun w' => w'.cell? ⟨tb, 0, none⟩ = some (.slice (some ⟨g0, 0, none⟩) n c0) ∧ w'.cell? ⟨tb, 1, none⟩ = some (.slice (some ⟨g1, 0, none⟩) n c1) ∧ w'.cell? ⟨tb, 2, none⟩ = some (.slice (some ⟨g2, 0, none⟩) n c2))
                (go_keep)
                (first
                  | (go_at_call_of 17 (g0); refine k1.mono ?_; rintro e w5 ⟨o5, c5, rfl, r5, hb5⟩; obtain ⟨hcl, hfl, z1⟩ := callee_old hb5; have hs5 : tb < w5.heap.size := Nat.lt_of_lt_of_le htb z1)
                  | (go_at_call_of 17 (g2); refine (HK2.out w5 o5 c5 hb5 r5).mono ?_; rintro e w6 ⟨o6, c6, rfl, r6, hb6⟩; obtain ⟨hcl6, hfl6, z6⟩ := callee_w hb6))
              clear hcl hfl hcl6 hfl6
              have hB6 : Below wr.heap.size wr w6 := (Below.trans (b := wr.drew) hdr hb5).trans (hb6.mono z1)
              have hs6 : tb < w6.heap.size := Nat.lt_of_lt_of_le htb hB6.size
              have v0 : w6.cell? ⟨tb, 0, none⟩ = some (.slice (some ⟨g0, 0, none⟩) n c0) := (hB6.cell (p := ⟨tb, 0, none⟩) htb).trans p0
              have v1 : w6.cell? ⟨tb, 1, none⟩ = some (.slice (some ⟨g1, 0, none⟩) n c1) := (hB6.cell (p := ⟨tb, 1, none⟩) htb).trans p1
              have v2 : w6.cell? ⟨tb, 2, none⟩ = some (.slice (some ⟨g2, 0, none⟩) n c2) := (hB6.cell (p := ⟨tb, 2, none⟩) htb).trans p2
              have HA : Hid (RVw w6 (some ⟨g0, 0, none⟩) n c0 LA ∧ RVw w6 (some ⟨g1, 0, none⟩) n c1 LB ∧ RVw w6 (some ⟨g2, 0, none⟩) n c2 LC ∧ RVw w6 o6 n c6 M ∧ St w6 g0 g1 g2 n A B' C' ∧ Below w.heap.size w w6) := ⟨rA.below hB6, rB.below hB6, rC.below hB6, r6, HST.out.1.below hB6, HST.out.2.trans (hB6.mono HST.out.2.size)⟩
              clear hB6 hb5 hb6 p0 p1 p2 k1 HK2 r5 r6 rA rB rC HST hdr z1 z6 hs5 tw
              have hd6 : Below w6.heap.size w6 w6.drew := (Below.refl _ w6).drew
              have k3 := rmerge w6.drew _ _ _ _ _ _ LB LA (HA.out.2.1.below hd6) (HA.out.1.below hd6) (by omega) (by omega)
              rw [f2, ← hM2] at k3
              have HK4 : Hid (∀ w' o oc, Below w6.drew.heap.size w6.drew w' → RVw w' o n oc M2 → Calls Tryz.prog 17 #[.slice (some ⟨g2, 0, none⟩) n c2, .slice o n oc] w' fun e w'' => ∃ o2 oc2, e = .returned (.slice o2 n oc2) ∧ RVw w'' o2 n oc2 M ∧ Below w'.heap.size w' w'') := fun w' o oc hb hr => by
                have e4 : mg LC M2 = M := by rw [hM2, hM, hM1]; exact f4
                have e5 : M.length = n := by rw [hM, hM1]; exact f3
                have h := rmerge w' _ _ _ _ _ _ LC M2 ((HA.out.2.2.1.below hd6).below hb) hr (by rw [e4, e5]; omega) (by rw [e4, e5]; omega)
                rw [e4, e5] at h
                exact h
              go_wp2_with fail
              go_region_held3 (fun w' => w'.cell? ⟨tb, 0, none⟩ = some (.slice (some ⟨g0, 0, none⟩) n c0) ∧ w'.cell? ⟨tb, 1, none⟩ = some (.slice (some ⟨g1, 0, none⟩) n c1) ∧ w'.cell? ⟨tb, 2, none⟩ = some (.slice (some ⟨g2, 0, none⟩) n c2))
                (go_keep)
                (first
                  | (go_at_call_of 17 (g0); refine k3.mono ?_; rintro e w7 ⟨o7, c7, rfl, r7, hb7⟩; obtain ⟨hcl, hfl, z1⟩ := callee_old hb7; have hs7 : tb < w7.heap.size := Nat.lt_of_lt_of_le hs6 z1)
                  | (go_at_call_of 17 (g2); refine (HK4.out w7 o7 c7 hb7 r7).mono ?_; rintro e w8 ⟨o8, c8, rfl, r8, hb8⟩; obtain ⟨hcl8, hfl8, z8⟩ := callee_w hb8))
              clear hcl hfl hcl8 hfl8
              have hB8 : Below w6.heap.size w6 w8 := (Below.trans (b := w6.drew) hd6 hb7).trans (hb8.mono z1)
              have hs8 : tb < w8.heap.size := Nat.lt_of_lt_of_le hs6 hB8.size
              have x1 : w8.cell? ⟨tb, 1, none⟩ = some (.slice (some ⟨g1, 0, none⟩) n c1) := (hB8.cell (p := ⟨tb, 1, none⟩) hs6).trans v1
              have e5 : M.length = n := by rw [hM, hM1]; exact f3
              have e6 : mg M LB = M := by rw [hM, hM1]; exact f5
              have k5 := rsame w8 _ _ _ _ _ _ M (HA.out.2.2.2.1.below hB8) r8
              have HT8 : Hid ((∀ i, w8.cell? ⟨tb, i, none⟩ = w6.cell? ⟨tb, i, none⟩) ∧ w6.cell? ⟨tb, 0, none⟩ = some (.slice (some ⟨g0, 0, none⟩) n c0) ∧ w6.cell? ⟨tb, 1, none⟩ = some (.slice (some ⟨g1, 0, none⟩) n c1) ∧ w6.cell? ⟨tb, 2, none⟩ = some (.slice (some ⟨g2, 0, none⟩) n c2)) := ⟨fun i => hB8.cell (p := ⟨tb, i, none⟩) hs6, v0, v1, v2⟩
              have HA8 : Hid (RVw w8 (some ⟨g1, 0, none⟩) n c1 LB ∧ RVw w8 o6 n c6 M ∧ St w8 g0 g1 g2 n A B' C' ∧ Below w.heap.size w w8) := ⟨HA.out.2.1.below hB8, HA.out.2.2.2.1.below hB8, HA.out.2.2.2.2.1.below hB8, HA.out.2.2.2.2.2.trans (hB8.mono HA.out.2.2.2.2.2.size)⟩
              have HM : Hid (M.length = n ∧ mg M LB = M) := ⟨e5, e6⟩
              have HMM : Hid (M = mg (mg LA LB) LC) := by show M = _; rw [hM, hM1]
              clear hB8 hb7 hb8 v0 v1 v2 k3 HK4 r7 r8 HA hd6 z1 z8 hs7 e5 e6 f1 f2 f3 f4 f5 hM hM1 hM2
              go_wp2_with fail
              refine k5.mono ?_
              rintro e w9 ⟨rfl, hb9⟩
              clear k5
              have y1 : w9.cell? ⟨tb, 1, none⟩ = some (.slice (some ⟨g1, 0, none⟩) n c1) := (hb9.cell (p := ⟨tb, 1, none⟩) hs8).trans x1
              have hs9 : tb < w9.heap.size := Nat.lt_of_lt_of_le hs8 hb9.size
              have k6 := rmerge w9 _ _ _ _ _ _ M LB (HA8.out.2.1.below hb9) (HA8.out.1.below hb9) (by rw [HM.out.2, HM.out.1]; omega) (by rw [HM.out.2, HM.out.1]; omega)
              rw [HM.out.2, HM.out.1] at k6
              have HB9 : Hid (Below w8.heap.size w8 w9) := hb9
              clear hb9 x1
              go_wp2_with fail
              refine k6.mono ?_
              rintro e w10 ⟨o10, c10, rfl, r10, hb10⟩
              clear k6
              have HB10 : Hid (Below w8.heap.size w8 w10) := HB9.out.trans (hb10.mono HB9.out.size)
              have k7 := rsame w10 _ _ _ _ _ _ M r10 (HA8.out.2.1.below HB10.out)
              clear r10 y1 hb10 HB9
              go_wp2_with fail
              refine k7.mono ?_
              rintro e w11 ⟨rfl, hb11⟩
              clear k7
              have HB11 : Hid (Below w8.heap.size w8 w11) := HB10.out.trans (hb11.mono HB10.out.size)
              clear hb11 HB10
              go_wp2_with fail
              go_loopw [13] (fun i wr => ∃ k : Nat, k ≤ n ∧ i = .int .i64 k ∧ Hid (Below w8.heap.size w8 wr)) (fun i _ => n - (intOf i).toNat)
              case atStart => exact ⟨0, Nat.zero_le _, rfl, HB11⟩
              case round =>
                obtain ⟨k, hk, rfl, HBL⟩ := hrel
                by_cases hlt : k < n
                · have hSt := HA8.out.2.2.1.below HBL.out
                  obtain ⟨x, xv, hx, lx, a0, a1, a2, a3, a4⟩ := hSt.a.get hSt.va k (by rw [hSt.la]; exact hlt)
                  obtain ⟨y, yv, hy, ly, b0, b1, b2, b3, b4⟩ := hSt.b.get hSt.vb k (by rw [hSt.lb]; exact hlt)
                  obtain ⟨t, tv, ht, lt, d0, d1, d2, d3, d4⟩ := hSt.c.get hSt.vc k (by rw [hSt.lc]; exact hlt)
                  obtain ⟨mv, hm1, hm2, hm3⟩ := HF.out k _ _ _ hx hy ht
                  rw [← HMM.out] at hm1
                  obtain ⟨hkM, hmk⟩ := List.getElem?_eq_some_iff.1 hm1
                  obtain ⟨bm, fm, xm, e6, hbm, lxm, n0, n1, n2, n3, n4⟩ := (HA8.out.2.1.below HBL.out).at k hkM
                  rw [hmk] at lxm
                  cases e6
                  have hR : (xm.R != (k : Int) + 1) = false := by rw [lxm.R, hm2]; simp
                  have hV : (xm.Rev != max (max x.Rev y.Rev) t.Rev) = false := by rw [lxm.Rev, lx.Rev, ly.Rev, lt.Rev, hm3]; simp
                  have u0 : wr.cell? ⟨tb, 0, none⟩ = some (.slice (some ⟨g0, 0, none⟩) n c0) := (HBL.out.cell (p := ⟨tb, 0, none⟩) hs8).trans ((HT8.out.1 0).trans HT8.out.2.1)
                  have u1 : wr.cell? ⟨tb, 1, none⟩ = some (.slice (some ⟨g1, 0, none⟩) n c1) := (HBL.out.cell (p := ⟨tb, 1, none⟩) hs8).trans ((HT8.out.1 1).trans HT8.out.2.2.1)
                  have u2 : wr.cell? ⟨tb, 2, none⟩ = some (.slice (some ⟨g2, 0, none⟩) n c2) := (HBL.out.cell (p := ⟨tb, 2, none⟩) hs8).trans ((HT8.out.1 2).trans HT8.out.2.2.2)
                  clear hSt hx hy ht lx ly lt hm1 hm2 hm3 hkM hmk lxm a2 a3 a4 b2 b3 b4 d2 d3 d4 n2 n3 n4 a0 b0 d0
                  go_wp2_with fail
                  go_quiet (fail)
                  go_wp2
                  go_roundw
                  case rel => exact ⟨k + 1, by omega, by go_num, bel_dN HBL.out _⟩
                  case measure => simp [intOf]; omega
                · go_wp2
                  go_ret
                  exact ⟨rfl, HA8.out.2.2.2.trans (HBL.out.mono HA8.out.2.2.2.size)⟩

/-- The law. -/
theorem order4 (a : Addr) (ao : Option Addr) (len cap : Nat) (z : Int) (w : World) (hg : w.cell? ⟨0, 0, none⟩ = some (.iface 185 (.pointer (some a)))) (r0 : Reads8 w ao len) (hz : 0 ≤ z ∧ z ≤ 255) :
    Calls Tryz.prog 4 #[.slice ao len cap, .int .u8 z] w fun e w' => e = .returned (.bool true) ∧ Below w.heap.size w w' := by
  by_cases h : 150 < len
  · exact order_long a ao len cap z w hg r0.1 h
  · exact order_short a ao len cap z w hg (by omega) hz.1 hz.2 r0

end Go.Proofs.YtdeojcodbojmoaaGreatDoor
