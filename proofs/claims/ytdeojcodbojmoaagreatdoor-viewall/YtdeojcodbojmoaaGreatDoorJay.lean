/- Views out of numbers may be, and what they tell: plain mathematics. -/
/- ViewAll: which views may be, what is known of all, and how often filters were set. -/
import Derived.Test.YtdeojcodbojmoaaGreatDoorJax
import Derived.Test.YtdeojcodbojmoaaGreatDoorJas
import Derived.Test.YtdeojcodbojmoaaGreatDoorJau
import Derived.Test.YtdeojcodbojmoaaGreatDoorJaw
namespace Go.Proofs.YtdeojcodbojmoaaGreatDoor
set_option maxRecDepth 100000
set_option linter.unusedVariables false

theorem want_ok {t : ByteArray} (h : t ∈ wants) : Ps.okP t.data.toList = true := by
  have : (wants.all fun t => Ps.okP t.data.toList) = true := by decide +kernel
  exact List.all_eq_true.1 this t h

/-- A view out of numbers may be. -/
theorem gd_may {n i : Nat} {v : Vw} (g : Gd n i v) (hi : i < n) : mayV v n = true := by
  have h1 := g.R
  have h2 := g.lo
  have h3 := g.hi
  unfold mayV
  rw [decide_eq_true (show 1 ≤ v.R by omega), decide_eq_true (show v.R ≤ (n : Int) by omega)]
  simp only [Bool.true_and]
  by_cases hz : v.Rev = 0
  · rw [if_pos hz]
    obtain ⟨e1, e2, e3⟩ := g.none hz
    simp [sv, e1, e2, e3, hz]
  · rw [if_neg hz]
    obtain ⟨a1, a2, a3, it, L, R, N, ⟨b1, b2, b3, b4, b5, b6, b7, b8⟩, e⟩ := g.some (by omega)
    have t1 : tms v.Rev = true := by simp [tms]; omega
    have t2 : hsOk [⟨it, L, R, N⟩] 0 = true := by
      have := (stOk_iff L R N).2 ⟨b3, by omega, b5, by omega, b7, by omega, b8⟩
      simp [hsOk, hOk, this]; omega
    have t3 : v.ep.all tms = true := List.all_eq_true.2 fun e he => by have := a3 e he; simp [tms]; omega
    rw [want_ok a1, e, t1, t2, t3, a2]
    simp

theorem gd_tells {n i : Nat} {v : Vw} (g : Gd n i v) : Tells n v := by
  by_cases hz : v.Rev = 0
  · obtain ⟨_, _, e3⟩ := g.none hz
    exact ⟨.inl e3, by simp [e3]⟩
  · have := g.lo
    obtain ⟨_, a2, a3, _⟩ := g.some (by omega)
    exact ⟨.inr a2, fun e he => (a3 e he).1⟩

end Go.Proofs.YtdeojcodbojmoaaGreatDoor
namespace Go.Proofs.YtdeojcodbojmoaaGreatDoor
open Go.RowKit
set_option maxRecDepth 100000
set_option linter.unusedVariables false

theorem reads_stay {w w' : World} {ao : Option Addr} {len : Nat} (h : Reads8 w ao len) (hb : Below w.heap.size w w') : Reads8 w' ao len := by
  obtain ⟨hl, b, off, zs, hao, hc⟩ := h
  refine ⟨hl, b, off, zs, fun h0 => ⟨(hao h0).1, Nat.lt_of_lt_of_le (hao h0).2 hb.size⟩, fun j hj => ⟨?_, (hc j hj).2⟩⟩
  exact (hb.cell (hao (by omega)).2).trans (hc j hj).1

/-- A row of numbers out of its cells. -/
theorem row_of {W : World} {g n : Nat} {F : Nat → Int} (hg : g < W.heap.size) (h1 : 1 ≤ n) (h2 : n ≤ 1000) (h : ∀ i, i < n → W.cell? ⟨g, i, none⟩ = some (.int .i64 (F i))) : Rdz Any W 1 (some ⟨g, 0, none⟩) ((List.range n).map F).length (icells ((List.range n).map F)) := by
  refine ⟨by rw [icells_length]; simp, by simpa using h2, fun _ => ⟨g, 0, rfl, trivial, hg, fun j u hu => ?_⟩⟩
  have hj : j < n := by have := (List.getElem?_eq_some_iff.1 hu).1; rw [icells_length] at this; simpa using this
  have e : (icells ((List.range n).map F))[j]? = some (.int .i64 (F j)) := by simp [icells, hj]
  rw [e] at hu
  rw [Nat.zero_add, h j hj]
  exact hu

/-- Light. -/
def lightC (c : Vc) : Bool := decide (c.f.size ≤ 90) && (decide (c.sn ≤ 10) && decide (c.en ≤ 8))

set_option maxHeartbeats 2000000 in
theorem light9 (c : Vc) (w : World) : Calls Tryz.prog 9 #[.agg #[.int .i64 c.R, .int .i64 c.Rev, .string c.f, .slice c.sa c.sn c.sc, .slice c.ea c.en c.ec]] w fun r w' => r = .returned (.bool (lightC c)) ∧ Below w.heap.size w w' := by
  obtain ⟨R, Rev, f, sa, sn, sc, ea, en, ec⟩ := c
  unfold lightC
  simp only
  by_cases g1 : f.size ≤ 90
  · have d1 : decide ((f.size : Int) ≤ 90) = true := decide_eq_true (by omega)
    by_cases g2 : sn ≤ 10
    · have d2 : decide ((sn : Int) ≤ 10) = true := decide_eq_true (by omega)
      by_cases g3 : en ≤ 8
      · have d3 : decide ((en : Int) ≤ 8) = true := decide_eq_true (by omega)
        go_enter Tryz.func9, Tryz.ntmps9
        go_wp2
        go_ret
        exact ⟨by simp [*], (Below.refl _ w).alloc (Nat.le_refl _) _⟩
      · have d3 : decide ((en : Int) ≤ 8) = false := decide_eq_false (by omega)
        go_enter Tryz.func9, Tryz.ntmps9
        go_wp2
        go_ret
        exact ⟨by simp [*], (Below.refl _ w).alloc (Nat.le_refl _) _⟩
    · have d2 : decide ((sn : Int) ≤ 10) = false := decide_eq_false (by omega)
      go_enter Tryz.func9, Tryz.ntmps9
      go_wp2
      go_ret
      exact ⟨by simp [*], (Below.refl _ w).alloc (Nat.le_refl _) _⟩
  · have d1 : decide ((f.size : Int) ≤ 90) = false := decide_eq_false (by omega)
    go_enter Tryz.func9, Tryz.ntmps9
    go_wp2
    go_ret
    exact ⟨by simp [*], (Below.refl _ w).alloc (Nat.le_refl _) _⟩

theorem box_cells (w : World) (c : Vc) : ∀ i, (w.alloc (.cells #[.int .i64 c.R, .int .i64 c.Rev, .string c.f, .slice c.sa c.sn c.sc, .slice c.ea c.en c.ec] 25)).cell? ⟨w.heap.size, i, none⟩ = (#[.int .i64 c.R, .int .i64 c.Rev, .string c.f, .slice c.sa c.sn c.sc, .slice c.ea c.en c.ec] : Array Value)[i]? := fun i => by simp

set_option maxHeartbeats 2000000 in
theorem all_heavy (a : Addr) (c : Vc) (ao : Option Addr) (len cap : Nat) (z : Int) (w : World) (hg : w.cell? ⟨0, 0, none⟩ = some (.iface 185 (.pointer (some a)))) (h0 : len ≤ maxLen) (h : lightC c = false ∨ 100 < len) :
    Calls Tryz.prog 3 #[.agg #[.int .i64 c.R, .int .i64 c.Rev, .string c.f, .slice c.sa c.sn c.sc, .slice c.ea c.en c.ec], .slice ao len cap, .int .u8 z] w fun e w' => e = .returned (.bool true) ∧ Below w.heap.size w w' := by
  unfold maxLen at h0
  have hlt : 0 < w.heap.size := World.block_lt_of_cell? w ⟨0, 0, none⟩ hg
  have cb := begun8 a (w.alloc (.cells #[.int .i64 c.R, .int .i64 c.Rev, .string c.f, .slice c.sa c.sn c.sc, .slice c.ea c.en c.ec] 25)) (by rw [World.cell?_alloc_past _ _ _ (hn := hlt)]; exact hg)
  have HB0 : Hid (Below w.heap.size w (w.alloc (.cells #[.int .i64 c.R, .int .i64 c.Rev, .string c.f, .slice c.sa c.sn c.sc, .slice c.ea c.en c.ec] 25))) := (Below.refl _ w).alloc (Nat.le_refl _) _
  clear hg
  go_enter Tryz.func3, Tryz.ntmps3
  go_wp2_with fail
  refine cb.mono ?_
  rintro e w1 ⟨rfl, hb1⟩
  clear cb
  have z1 : ∀ i, w1.cell? ⟨w.heap.size, i, none⟩ = (#[.int .i64 c.R, .int .i64 c.Rev, .string c.f, .slice c.sa c.sn c.sc, .slice c.ea c.en c.ec] : Array Value)[i]? := fun i => by rw [hb1.cell (p := ⟨w.heap.size, i, none⟩) (by simp)]; exact box_cells w c i
  have HB1 : Hid (Below w.heap.size w w1) := HB0.out.trans (hb1.mono (by simp))
  clear hb1 HB0
  have cl := light9 c w1
  go_wp2_with fail
  refine cl.mono ?_
  rintro e w2 ⟨rfl, hb2⟩
  have HB2 : Hid (Below w.heap.size w w2) := HB1.out.trans (hb2.mono HB1.out.size)
  clear hb2 cl z1
  generalize lightC c = bl at *
  cases bl with
  | false =>
    go_wp2
    go_ret
    exact ⟨rfl, HB2.out⟩
  | true =>
    have h' : 100 < len := by rcases h with h | h; cases h; exact h
    clear h
    go_wp2
    go_ret
    exact ⟨rfl, HB2.out⟩

set_option maxHeartbeats 16000000 in
theorem all_light (c : Vc) (v : Vw) (ao : Option Addr) (len cap : Nat) (z : Int) (w : World) (hv : Vars w) (hl : Lz (fun b => b < w.heap.size) w c v) (hc : lightC c = true) (h0 : len ≤ 100) (hz0 : 0 ≤ z) (hz1 : z ≤ 255) (r0 : Reads8 w ao len) :
    Calls Tryz.prog 3 #[.agg #[.int .i64 c.R, .int .i64 c.Rev, .string c.f, .slice c.sa c.sn c.sc, .slice c.ea c.en c.ec], .slice ao len cap, .int .u8 z] w fun e w' => e = .returned (.bool true) ∧ Below w.heap.size w w' := by
  obtain ⟨n, hn1, hn5, hn⟩ : ∃ n : Nat, 1 ≤ n ∧ n ≤ 5 ∧ 1 + z % 5 = (n : Int) := ⟨(1 + z % 5).toNat, by omega, by omega, by omega⟩
  have h2 := hv.lt
  obtain ⟨a, ha⟩ := hv.seen
  have hlt : 0 < w.heap.size := by omega
  have cb := begun8 a (w.alloc (.cells #[.int .i64 c.R, .int .i64 c.Rev, .string c.f, .slice c.sa c.sn c.sc, .slice c.ea c.en c.ec] 25)) (by rw [World.cell?_alloc_past _ _ _ (hn := hlt)]; exact ha)
  have HB0 : Hid (Below w.heap.size w (w.alloc (.cells #[.int .i64 c.R, .int .i64 c.Rev, .string c.f, .slice c.sa c.sn c.sc, .slice c.ea c.en c.ec] 25))) := (Below.refl _ w).alloc (Nat.le_refl _) _
  have HV : Hid (∀ w', Below w.heap.size w w' → Vars w' ∧ Lz (fun b => b < w'.heap.size) w' c v ∧ Reads8 w' ao len) := fun w' hb => ⟨hv.below hb h2, (hl.below hb).mono (fun b hb' _ => hb'), reads_stay r0 hb⟩
  clear ha hv hl r0
  go_enter Tryz.func3, Tryz.ntmps3
  go_wp2_with fail
  refine cb.mono ?_
  rintro e w1 ⟨rfl, hb1⟩
  clear cb
  have z1 : ∀ i, w1.cell? ⟨w.heap.size, i, none⟩ = (#[.int .i64 c.R, .int .i64 c.Rev, .string c.f, .slice c.sa c.sn c.sc, .slice c.ea c.en c.ec] : Array Value)[i]? := fun i => by rw [hb1.cell (p := ⟨w.heap.size, i, none⟩) (by simp)]; exact box_cells w c i
  have HB1 : Hid (Below w.heap.size w w1) := HB0.out.trans (hb1.mono (by simp))
  have hs1 : w.heap.size < w1.heap.size := by have := hb1.size; simp at this; omega
  clear hb1 HB0
  have cl := light9 c w1
  rw [hc] at cl
  go_wp2_with fail
  refine cl.mono ?_
  rintro e w2 ⟨rfl, hb2⟩
  have HB2 : Hid (Below w.heap.size w w2) := HB1.out.trans (hb2.mono HB1.out.size)
  have HZ2 : Hid ((∀ i, w2.cell? ⟨w.heap.size, i, none⟩ = (#[.int .i64 c.R, .int .i64 c.Rev, .string c.f, .slice c.sa c.sn c.sc, .slice c.ea c.en c.ec] : Array Value)[i]?) ∧ w.heap.size < w2.heap.size) := ⟨fun i => (hb2.cell (p := ⟨w.heap.size, i, none⟩) hs1).trans (z1 i), Nat.lt_of_lt_of_le hs1 hb2.size⟩
  clear hb2 cl z1 HB1 hs1 hc
  go_wp2_with fail
  refine (made10 _ _ _ _).mono ?_
  rintro e W1 ⟨rfl, hW1⟩
  have r2 := (HV.out w2 HB2.out).2.2
  have hp1 : Pick W1 w2.heap.size := by rw [hW1]; exact pick_made r2 (by omega)
  have hbW1 : Below w2.heap.size w2 W1 := by rw [hW1]; exact (Below.refl _ _).alloc (Nat.le_refl _) _
  have hsW1 : w2.heap.size < W1.heap.size := by rw [hW1]; simp
  clear hW1 r2
  go_wp2_with fail
  refine (rviews w2.heap.size n W1 hp1 hn1 hn5).mono ?_
  rintro e W2 ⟨oa, ca, la, rfl, hla, hga, hra, hw2⟩
  go_wp2_with fail
  refine (rviews w2.heap.size n W2 hw2.1 hn1 hn5).mono ?_
  rintro e W3 ⟨ob, cb, lb, rfl, hlb, hgb, hrb, hw3⟩
  have rA : RVw W3 oa n ca la := hra W3 hw3.2
  have rB : RVw W3 ob n cb lb := hrb W3 (Kept.refl _ _)
  have hb23 : Below w2.heap.size w2 W3 := hbW1.trans ((hw2.trans hw3).2.below (by omega) (fun k hk => by unfold But; omega))
  have hBW : Below w.heap.size w W3 := HB2.out.trans (hb23.mono HB2.out.size)
  obtain ⟨vb, hvb⟩ : ∃ vb, vb = w.heap.size := ⟨_, rfl⟩
  have HZ : Hid ((∀ i, W3.cell? ⟨vb, i, none⟩ = (#[.int .i64 c.R, .int .i64 c.Rev, .string c.f, .slice c.sa c.sn c.sc, .slice c.ea c.en c.ec] : Array Value)[i]?) ∧ vb < W3.heap.size) := by rw [hvb]; exact ⟨fun i => (hb23.cell (p := ⟨w.heap.size, i, none⟩) HZ2.out.2).trans (HZ2.out.1 i), Nat.lt_of_lt_of_le HZ2.out.2 hb23.size⟩
  have HB : Hid (Below w.heap.size w W3) := hBW
  have hvb3 : vb < W3.heap.size := HZ.out.2
  have HG : Hid ((∀ i (h : i < la.length), Gd n i la[i]) ∧ (∀ i (h : i < lb.length), Gd n i lb[i]) ∧ la.length = n ∧ lb.length = n) := ⟨hga, hgb, hla, hlb⟩
  clear hga hgb hra hrb hw2 hw3 hbW1 hp1 hBW hb23 HB2 HZ2 hla hlb hsW1
  have v0 : W3.cell? ⟨vb, 0, none⟩ = some (.int .i64 c.R) := HZ.out.1 0
  have v1 : W3.cell? ⟨vb, 1, none⟩ = some (.int .i64 c.Rev) := HZ.out.1 1
  have v2 : W3.cell? ⟨vb, 2, none⟩ = some (.string c.f) := HZ.out.1 2
  have v3 : W3.cell? ⟨vb, 3, none⟩ = some (.slice c.sa c.sn c.sc) := HZ.out.1 3
  have v4 : W3.cell? ⟨vb, 4, none⟩ = some (.slice c.ea c.en c.ec) := HZ.out.1 4
  have hbD : Below W3.heap.size W3 W3.drew := (Below.refl _ W3).drew
  have c12 := fun (w' : World) (hb : Below W3.heap.size W3 w') => zmay12 _ c v (n : Int) w' (HV.out w' (HB.out.trans (hb.mono HB.out.size))).1 (HV.out w' (HB.out.trans (hb.mono HB.out.size))).2.1
  have c13 := fun (w' : World) (hb : Below W3.heap.size W3 w') => rmv13 _ c v (n : Int) w' (HV.out w' (HB.out.trans (hb.mono HB.out.size))).2.1
  generalize mayV v (n : Int) = mv at *
  rw [← hvb]
  clear hvb
  go_wp2_with fail
  go_region_held3 (fun w' => w'.cell? ⟨vb, 0, none⟩ = some (.int .i64 c.R) ∧ w'.cell? ⟨vb, 1, none⟩ = some (.int .i64 c.Rev) ∧ w'.cell? ⟨vb, 2, none⟩ = some (.string c.f) ∧ w'.cell? ⟨vb, 3, none⟩ = some (.slice c.sa c.sn c.sc) ∧ w'.cell? ⟨vb, 4, none⟩ = some (.slice c.ea c.en c.ec))
    (go_keep)
    (first
      | (go_at_call 12; refine (c12 W3.drew hbD).mono ?_; rintro e y1 ⟨rfl, hy1⟩; obtain ⟨hcl, hfl, zz1⟩ := callee_old hy1; have hbY1 := hbD.trans (hy1.mono (Nat.le_refl _)); have gw1 := Nat.lt_of_lt_of_le hvb3 zz1)
      | (go_at_call 13; refine (c13 y1 hbY1).mono ?_; rintro e y2 ⟨rfl, hy2⟩; have hcl2 := fun b o (h : b < y1.heap.size) => hy2.cell (p := ⟨b, o, none⟩) h))
  have HY : Hid (Below W3.heap.size W3 y2) := hbY1.trans (hy2.mono hbY1.size)
  have HZY : Hid (∀ i, y2.cell? ⟨vb, i, none⟩ = (#[.int .i64 c.R, .int .i64 c.Rev, .string c.f, .slice c.sa c.sn c.sc, .slice c.ea c.en c.ec] : Array Value)[i]?) := fun i => (HY.out.cell (p := ⟨vb, i, none⟩) hvb3).trans (HZ.out.1 i)
  have rA2 := rA.below HY.out
  have rB2 := rB.below HY.out
  have HBY : Hid (Below w.heap.size w y2) := HB.out.trans (HY.out.mono HB.out.size)
  have hvbY : vb < y2.heap.size := Nat.lt_of_lt_of_le hvb3 HY.out.size
  clear hcl hfl hcl2 hy1 hy2 hbY1 gw1 zz1 hbD v0 v1 v2 v3 v4 c12 c13 rA rB HZ hvb3 HB
  go_wp2_with fail
  go_loopw [11] (fun i wr => ∃ k : Nat, k ≤ n ∧ i = .int .i64 k ∧ Hid (Below y2.heap.size y2 wr)) (fun i _ => n - (intOf i).toNat)
  case atStart => exact ⟨0, Nat.zero_le _, rfl, Below.refl _ _⟩
  case round =>
    obtain ⟨k, hk, rfl, HL⟩ := hrel
    by_cases hlt' : k < n
    · have hka : k < la.length := by have := HG.out.2.2.1; omega
      have hkb : k < lb.length := by have := HG.out.2.2.2; omega
      obtain ⟨ba, fa, xa, rfl, hba, lxa, a0, a1, a2, a3, a4⟩ := (rA2.below HL.out).at k hka
      obtain ⟨bb, fb, xb, rfl, hbb, lxb, b0, b1, b2, b3, b4⟩ := (rB2.below HL.out).at k hkb
      have hbw : Below w.heap.size w wr := HBY.out.trans (HL.out.mono HBY.out.size)
      have hvbr : vb < wr.heap.size := Nat.lt_of_lt_of_le hvbY HL.out.size
      have HZR : Hid (∀ i, wr.cell? ⟨vb, i, none⟩ = (#[.int .i64 c.R, .int .i64 c.Rev, .string c.f, .slice c.sa c.sn c.sc, .slice c.ea c.en c.ec] : Array Value)[i]?) := fun i => (HL.out.cell (p := ⟨vb, i, none⟩) hvbY).trans (HZY.out i)
      have v0 : wr.cell? ⟨vb, 0, none⟩ = some (.int .i64 c.R) := HZR.out 0
      have v1 : wr.cell? ⟨vb, 1, none⟩ = some (.int .i64 c.Rev) := HZR.out 1
      have v2 : wr.cell? ⟨vb, 2, none⟩ = some (.string c.f) := HZR.out 2
      have v3 : wr.cell? ⟨vb, 3, none⟩ = some (.slice c.sa c.sn c.sc) := HZR.out 3
      have v4 : wr.cell? ⟨vb, 4, none⟩ = some (.slice c.ea c.en c.ec) := HZR.out 4
      have hmay : mayV la[k] (n : Int) = true := gd_may (HG.out.1 k hka) hlt'
      have q12 := fun (w' : World) (hb : Below wr.heap.size wr w') => zmay12 _ xa la[k] (n : Int) w' (HV.out w' (hbw.trans (hb.mono hbw.size))).1 (lxa.lz.below hb)
      have q14a := fun (w' : World) (hb : Below wr.heap.size wr w') => zsame14 _ _ xa xb la[k] lb[k] w' (lxa.lz.below hb) (lxb.lz.below hb)
      have q15a := fun (w' : World) (hb : Below wr.heap.size wr w') => zsame15 _ _ xa xb la[k] lb[k] w' (lxa.lz.below hb) (lxb.lz.below hb)
      have q14b := fun (w' : World) (hb : Below wr.heap.size wr w') => zsame14 _ _ c xa v la[k] w' (HV.out w' (hbw.trans (hb.mono hbw.size))).2.1 (lxa.lz.below hb)
      have q15b := fun (w' : World) (hb : Below wr.heap.size wr w') => zsame15 _ _ c xa v la[k] w' (HV.out w' (hbw.trans (hb.mono hbw.size))).2.1 (lxa.lz.below hb)
      rw [hmay] at q12
      generalize sv la[k] lb[k] = sa at *
      generalize sv v la[k] = sb at *
      have HBR : Hid (Below w.heap.size w wr) := hbw
      have HC : Hid (_ ∧ _ ∧ _ ∧ _ ∧ _) := ⟨q12, q14a, q15a, q14b, q15b⟩
      clear hmay lxa lxb hbw q12 q14a q15a q14b q15b
      have hbD : Below wr.heap.size wr wr.drew := (Below.refl _ wr).drew
      go_wp2_with fail
      go_region_held3 (fun w' => w'.cell? ⟨ba, fa + k * 5, none⟩ = some (.int .i64 xa.R) ∧ w'.cell? ⟨ba, fa + k * 5 + 1, none⟩ = some (.int .i64 xa.Rev) ∧ w'.cell? ⟨ba, fa + k * 5 + 2, none⟩ = some (.string xa.f) ∧ w'.cell? ⟨ba, fa + k * 5 + 3, none⟩ = some (.slice xa.sa xa.sn xa.sc) ∧ w'.cell? ⟨ba, fa + k * 5 + 4, none⟩ = some (.slice xa.ea xa.en xa.ec) ∧ w'.cell? ⟨bb, fb + k * 5, none⟩ = some (.int .i64 xb.R) ∧ w'.cell? ⟨bb, fb + k * 5 + 1, none⟩ = some (.int .i64 xb.Rev) ∧ w'.cell? ⟨bb, fb + k * 5 + 2, none⟩ = some (.string xb.f) ∧ w'.cell? ⟨bb, fb + k * 5 + 3, none⟩ = some (.slice xb.sa xb.sn xb.sc) ∧ w'.cell? ⟨bb, fb + k * 5 + 4, none⟩ = some (.slice xb.ea xb.en xb.ec) ∧ w'.cell? ⟨vb, 0, none⟩ = some (.int .i64 c.R) ∧ w'.cell? ⟨vb, 1, none⟩ = some (.int .i64 c.Rev) ∧ w'.cell? ⟨vb, 2, none⟩ = some (.string c.f) ∧ w'.cell? ⟨vb, 3, none⟩ = some (.slice c.sa c.sn c.sc) ∧ w'.cell? ⟨vb, 4, none⟩ = some (.slice c.ea c.en c.ec))
        (go_keep)
        (first
          | (go_at_call 12; refine (HC.out.1 wr.drew hbD).mono ?_; rintro e y1 ⟨rfl, hy1⟩; obtain ⟨hcl, hfl, zz1⟩ := callee_old hy1; have hbY1 := hbD.trans (hy1.mono (Nat.le_refl _)); have ga1 := Nat.lt_of_lt_of_le hba zz1; have gb1 := Nat.lt_of_lt_of_le hbb zz1; have gw1 := Nat.lt_of_lt_of_le hvbr zz1)
          | (go_at_call_of 14 (xb.f); refine (HC.out.2.1 y1 hbY1).mono ?_; rintro e z2 ⟨rfl, hy2⟩; have hcl2 := fun b o (h : b < y1.heap.size) => hy2.cell (p := ⟨b, o, none⟩) h; have hbY2 := hbY1.trans (hy2.mono hbY1.size); have ga2 := Nat.lt_of_lt_of_le ga1 hy2.size; have gb2 := Nat.lt_of_lt_of_le gb1 hy2.size; have gw2 := Nat.lt_of_lt_of_le gw1 hy2.size)
          | (go_at_call_of 15 (xb.f); refine (HC.out.2.2.1 z2 hbY2).mono ?_; rintro e z3 ⟨rfl, hy3⟩; have hcl3 := fun b o (h : b < z2.heap.size) => hy3.cell (p := ⟨b, o, none⟩) h; have hbY3 := hbY2.trans (hy3.mono hbY2.size); have ga3 := Nat.lt_of_lt_of_le ga2 hy3.size; have gb3 := Nat.lt_of_lt_of_le gb2 hy3.size; have gw3 := Nat.lt_of_lt_of_le gw2 hy3.size)
          | (go_at_call_of 14 (c.f); refine (HC.out.2.2.2.1 z3 hbY3).mono ?_; rintro e z4 ⟨rfl, hy4⟩; have hcl4 := fun b o (h : b < z3.heap.size) => hy4.cell (p := ⟨b, o, none⟩) h; have hbY4 := hbY3.trans (hy4.mono hbY3.size); have ga4 := Nat.lt_of_lt_of_le ga3 hy4.size; have gb4 := Nat.lt_of_lt_of_le gb3 hy4.size; have gw4 := Nat.lt_of_lt_of_le gw3 hy4.size)
          | (go_at_call_of 15 (c.f); refine (HC.out.2.2.2.2 z4 hbY4).mono ?_; rintro e z5 ⟨rfl, hy5⟩; have hcl5 := fun b o (h : b < z4.heap.size) => hy5.cell (p := ⟨b, o, none⟩) h))
      have HN : Hid (Below y2.heap.size y2 z5) := HL.out.trans ((hbY4.trans (hy5.mono hbY4.size)).mono HL.out.size)
      clear hcl hfl hy1 hbY1 ga1 gb1 gw1 zz1 hbD hcl2 hy2 hbY2 hcl3 hy3 hbY3 hcl4 hy4 hbY4 hcl5 hy5 HC
      go_wp2
      go_roundw
      case rel => exact ⟨k + 1, by omega, by go_num, HN⟩
      case measure => simp [intOf]; omega
    · obtain ⟨V, hV⟩ : ∃ V, V = wr := ⟨_, rfl⟩
      subst hV
      have rA3 := rA2.below HL.out
      have rB3 := rB2.below HL.out
      have HB3 : Hid (Below w.heap.size w V) := HBY.out.trans (HL.out.mono HBY.out.size)
      have hRR : la.map (·.R) = lb.map (·.R) := (gd_R HG.out.2.2.1 HG.out.1).trans (gd_R HG.out.2.2.2 HG.out.2.1).symm
      have hm : mg la lb = List.zipWith pick la lb := mg_zip la lb hRR
      have hml : (mg la lb).length = n := by rw [hm, zip_len la lb (HG.out.2.2.1.trans HG.out.2.2.2.symm), HG.out.2.2.1]
      have c17 := rmerge V oa ob n ca n cb la lb rA3 rB3 (by omega) (by omega)
      rw [hml, hm] at c17
      have c18 := fun (w' : World) (hb : Below V.heap.size V w') => rmerge18 w' oa ob n ca cb la lb (rA3.below hb) (rB3.below hb) hn1 (by omega) (fun i h => (HG.out.1 i h).R) (fun i h => (HG.out.2.1 i h).R)
      have HT : Hid (∀ u ∈ la, Tells n u) := fun u hu => by
        obtain ⟨i, hi, rfl⟩ := List.getElem_of_mem hu
        exact gd_tells (HG.out.1 i hi)
      have HC : Hid _ := c18
      have HA : Hid (RVw V oa n ca la) := rA3
      clear hm hml hRR c18 rA3 rB3 HL rA2 rB2 HG
      go_wp2_with fail
      refine c17.mono ?_
      rintro e x1 ⟨o1, oc1, rfl, r1, hx1⟩
      clear c17
      have c18 := HC.out x1 hx1
      have HX1 : Hid (Below V.heap.size V x1) := hx1
      clear HC hx1
      go_wp2_with fail
      refine c18.mono ?_
      rintro e x2 ⟨o2, oc2, rfl, r2, hx2⟩
      clear c18
      have r12 := r1.below hx2
      have HX2 : Hid (Below V.heap.size V x2) := HX1.out.trans (hx2.mono HX1.out.size)
      have c16 := rsame x2 o1 o2 n oc1 n oc2 _ r12 r2
      clear r1 hx2 HX1
      go_wp2_with fail
      refine c16.mono ?_
      rintro e x3 ⟨rfl, hx3⟩
      clear c16 r12 r2
      have HX3 : Hid (Below V.heap.size V x3) := HX2.out.trans (hx3.mono HX2.out.size)
      have c20 := epochs20 x3 oa n ca la hn1 hn5 (HA.out.below HX3.out) HT.out
      clear hx3 HX2
      go_wp2_with fail
      refine c20.mono ?_
      rintro e x4 ⟨rfl, he4, hx4⟩
      clear c20
      have HX4 : Hid (Below V.heap.size V x4) := HX3.out.trans (hx4.mono HX3.out.size)
      have hg4 : x3.heap.size < x4.heap.size := World.block_lt_of_cell? x4 ⟨x3.heap.size, 0, none⟩ (he4 0 (by omega))
      have c21 := repochs21 x4 oa n ca la hn1 hn5 (HA.out.below HX4.out) HT.out
      have HE4 : Hid (x3.heap.size < x4.heap.size ∧ ∀ i, i < n → x4.cell? ⟨x3.heap.size, i, none⟩ = some (.int .i64 (most la i))) := ⟨hg4, he4⟩
      clear hx4 he4 hg4
      go_wp2_with fail
      refine c21.mono ?_
      rintro e x5 ⟨rfl, he5, hx5⟩
      clear c21
      have HX5 : Hid (Below V.heap.size V x5) := HX4.out.trans (hx5.mono HX4.out.size)
      have hg5 : x4.heap.size < x5.heap.size := World.block_lt_of_cell? x5 ⟨x4.heap.size, 0, none⟩ (he5 0 (by omega))
      have ra := row_of (W := x5) (g := x3.heap.size) (n := n) (F := most la) (by have := HE4.out.1; omega) hn1 (by omega) (fun i hi => (hx5.cell (p := ⟨x3.heap.size, i, none⟩) HE4.out.1).trans (HE4.out.2 i hi))
      have rb := row_of (W := x5) (g := x4.heap.size) (n := n) (F := most la) hg5 hn1 (by omega) he5
      have c19 := ints19 x5 Any Any _ _ n n _ _ ra rb
      rw [decide_eq_true rfl, List.length_map, List.length_range] at c19
      clear hx5 he5 hg5 ra rb HE4
      go_wp2_with fail
      refine c19.mono ?_
      rintro e x6 ⟨rfl, hx6⟩
      clear c19
      have HX6 : Hid (Below V.heap.size V x6) := HX5.out.trans (hx6.mono HX5.out.size)
      clear hx6
      go_wp2
      go_ret
      exact ⟨rfl, HB3.out.trans (HX6.out.mono HB3.out.size)⟩

/-- The law. -/
theorem all3 (c : Vc) (ao : Option Addr) (len cap : Nat) (z : Int) (w : World) (hv : Vars w) (hl : c.f.size ≤ 1000 → c.sn ≤ 1000 → c.en ≤ 1000 → ∃ v, Lz (fun b => b < w.heap.size) w c v) (r0 : Reads8 w ao len) (hz : 0 ≤ z ∧ z ≤ 255) :
    Calls Tryz.prog 3 #[.agg #[.int .i64 c.R, .int .i64 c.Rev, .string c.f, .slice c.sa c.sn c.sc, .slice c.ea c.en c.ec], .slice ao len cap, .int .u8 z] w fun e w' => e = .returned (.bool true) ∧ Below w.heap.size w w' := by
  by_cases h : lightC c = false ∨ 100 < len
  · obtain ⟨a, ha⟩ := hv.seen
    exact all_heavy a c ao len cap z w ha r0.1 h
  · have hc : lightC c = true := by
      cases e : lightC c with
      | true => rfl
      | false => exact absurd (.inl e) h
    have hc' := hc
    unfold lightC at hc'
    simp at hc'
    obtain ⟨v, hv'⟩ := hl (by omega) (by omega) (by omega)
    exact all_light c v ao len cap z w hv hv' hc (by omega) hz.1 hz.2 r0

end Go.Proofs.YtdeojcodbojmoaaGreatDoor
