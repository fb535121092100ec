/- cardamomref4.of: the boxes of a range's opposite. -/
import Derived.Test.YtflpdekifkcfkabRleaf
namespace Go.Proofs.Ytflpdekifkcfkab
open Go.RowKit
set_option linter.unusedVariables false

theorem RowB.setLow {B b o : Nat} {w : World} {v : Value} {l : List Ev.Bx} (h : RowB B w v l) (hb : b < B) (u : Value) : RowB B (w.setCell ⟨b, o, none⟩ u) v l := by
  obtain ⟨es, h1, h2, h3, h4⟩ := h
  refine ⟨es, h1, fun e he => (h2 e he).keep (fun b' c hb' _ => set_far (by omega) u), h3, ?_⟩
  rcases h4 with h4 | ⟨g, cap, cur, hv, hg, hh, r⟩
  · exact Or.inl h4
  · exact Or.inr ⟨g, cap, cur, hv, hg, by rw [set_far (by omega)]; exact hh, r⟩

theorem one_cells (w : World) (x : El) : ∀ i u, (bcells x)[i]? = some u → (w.alloc (.cells (bcells x).toArray 40)).cell? ⟨w.heap.size, i, none⟩ = some u := by
  intro i u hi
  rw [World.cell?_alloc_at _ _ _ _ rfl, List.getElem?_toArray]
  exact hi

/-- Where the walk stands: the box of one key, the filter, the row so far. -/
structure St (w : World) (F : Array Value) (k : Nat) (X : World) (v : Value) (cur : List Ev.Bx) (h l u : Int) : Prop where
  key : KeyAt X (w.heap.size + 1) k h l u
  fil : ∀ i, X.cell? ⟨w.heap.size, i, none⟩ = F[i]?
  row : RowB (w.heap.size + 1 + 1) X v cur
  bel : Below w.heap.size w X
  size : w.heap.size + 1 + 1 ≤ X.heap.size

theorem St.set {w X : World} {F : Array Value} {k : Nat} {v : Value} {cur : List Ev.Bx} {h0 l0 u0 : Int} (s : St w F k X v cur h0 l0 u0) (hk : k ≤ 3) (h l u : Int) :
    St w F k (((X.setCell ⟨w.heap.size + 1, k * 3, none⟩ (.int .i64 h)).setCell ⟨w.heap.size + 1, k * 3 + 1, none⟩ (.int .i64 l)).setCell ⟨w.heap.size + 1, k * 3 + 2, none⟩ (.int .i64 u)) v cur h l u := by
  refine ⟨s.key.set hk _ _ _, fun i => ?_, ((s.row.setLow (by omega) _).setLow (by omega) _).setLow (by omega) _, ((s.bel.setCell (by simp) _).setCell (by simp) _).setCell (by simp) _, by simpa [World.setCell] using s.size⟩
  rw [set_cell_far' (by omega), set_cell_far' (by omega), set_cell_far' (by omega)]
  exact s.fil i

theorem St.grow {w X y : World} {F : Array Value} {k : Nat} {v v' : Value} {cur cur' : List Ev.Bx} {h l u : Int} (s : St w F k X v cur h l u) (r : RowB (w.heap.size + 1 + 1) y v' cur') (hB : Below (w.heap.size + 1 + 1) X y) : St w F k y v' cur' h l u :=
  ⟨s.key.keep (hB.block _ (by omega)), fun i => (hB.cell (by show w.heap.size < _; omega)).trans (s.fil i), r, s.bel.trans (hB.mono (by omega)), Nat.le_trans s.size hB.size⟩

theorem St.shut {w X : World} {F : Array Value} {k : Nat} {v : Value} {cur L : List Ev.Bx} {h l u : Int} (s : St w F k X v cur h l u) (e : L = cur) : RowB w.heap.size X v L ∧ Below w.heap.size w X := by
  subst e; exact ⟨s.row.mono (by omega), s.bel⟩

set_option maxRecDepth 100000 in
set_option maxHeartbeats 4000000 in
theorem rleaf_key2_not (k : Nat) (lo hi : Int) (t : ByteArray) (w : World) (hk : k ≤ 3) (h1 : 0 ≤ lo) (h2 : lo ≤ hi) (h3 : hi ≤ 99) :
    Calls Try.prog 28 #[.agg #[.int .i64 2, .int .i64 (k : Int), .int .i64 lo, .int .i64 hi, .string t, .slice none 0 0], .bool true] w (RPost w (some (Ev.outside k lo hi))) := by
  unfold RPost
  have hki : (k : Int) < 4 := by omega
  go_enter Try.func28, Try.ntmps28
  go_upto_region 12 with fail
  obtain ⟨W, hW⟩ : ∃ W, W = (w.alloc (.cells #[.int .i64 2, .int .i64 (k : Int), .int .i64 lo, .int .i64 hi, .string t, .slice none 0 0] 26)).alloc (.cells #[.int .i64 0, .int .i64 0, .int .i64 0, .int .i64 0, .int .i64 0, .int .i64 0, .int .i64 0, .int .i64 0, .int .i64 0, .int .i64 0, .int .i64 0, .int .i64 0, .string ⟨#[]⟩, .slice none 0 0] 40) := ⟨_, rfl⟩
  rw [← hW]
  have fc : ∀ i, W.cell? ⟨w.heap.size, i, none⟩ = (#[.int .i64 2, .int .i64 (k : Int), .int .i64 lo, .int .i64 hi, .string t, .slice none 0 0] : Array Value)[i]? := fun i => by rw [hW, World.cell?_alloc_past _ _ _ (hn := by simp)]; simp
  have K : KeyAt W (w.heap.size + 1) k 0 0 0 := ⟨by rw [key_none k hk, hW]; exact heap_at _ _ (by simp)⟩
  have hsW : w.heap.size + 1 < W.heap.size := by rw [hW]; simp
  have hbW : Below w.heap.size w W := by rw [hW]; exact ((Below.refl _ _).alloc (Nat.le_refl _) _).alloc (by simp) _
  clear hW
  obtain ⟨c0, c1, c2, fz⟩ := K.facts hk
  have HK : Hid (KeyAt W (w.heap.size + 1) k 0 0 0) := K
  clear K
  go_upto_region 13 with fail
  obtain ⟨V, hV⟩ : ∃ V, V = ((W.setCell ⟨w.heap.size + 1, k * 3, none⟩ (.int .i64 2)).setCell ⟨w.heap.size + 1, k * 3 + 1, none⟩ (.int .i64 0)).setCell ⟨w.heap.size + 1, k * 3 + 2, none⟩ (.int .i64 0) := ⟨_, rfl⟩
  rw [← hV]
  have KV : KeyAt V (w.heap.size + 1) k 2 0 0 := by rw [hV]; exact HK.out.set hk _ _ _
  have fcV : ∀ i, V.cell? ⟨w.heap.size, i, none⟩ = (#[.int .i64 2, .int .i64 (k : Int), .int .i64 lo, .int .i64 hi, .string t, .slice none 0 0] : Array Value)[i]? := fun i => by rw [hV, set_cell_far' (by omega), set_cell_far' (by omega), set_cell_far' (by omega)]; exact fc i
  have hsV : w.heap.size + 1 < V.heap.size := by rw [hV]; simpa [World.setCell] using hsW
  have belV : Below w.heap.size w V := by rw [hV]; exact ((hbW.setCell (by simp) _).setCell (by simp) _).setCell (by simp) _
  obtain ⟨z0, hz0, CZ0, NZ0⟩ := KV.cells
  have HZ0 : Hid (z0 = Ev.ofKey k 2 0 0) := hz0
  have U1 : RowB (w.heap.size + 1 + 1) (V.alloc (.cells (bcells (z0, none, 0)).toArray 40)) (.slice (some ⟨V.heap.size, 0, none⟩) 1 1) [z0] := RowB.one (z0, none, 0) (by omega) (NZ0 _ _)
  have KU : KeyAt (V.alloc (.cells (bcells (z0, none, 0)).toArray 40)) (w.heap.size + 1) k 2 0 0 := KV.keep (heap_old _ _ hsV)
  have fU : ∀ i, (V.alloc (.cells (bcells (z0, none, 0)).toArray 40)).cell? ⟨w.heap.size, i, none⟩ = (#[.int .i64 2, .int .i64 (k : Int), .int .i64 lo, .int .i64 hi, .string t, .slice none 0 0] : Array Value)[i]? := fun i => (World.cell?_alloc_past _ _ _ (hn := by omega)).trans (fcV i)
  have bU : Below w.heap.size w (V.alloc (.cells (bcells (z0, none, 0)).toArray 40)) := belV.alloc (by omega) _
  have sU : w.heap.size + 1 + 1 ≤ (V.alloc (.cells (bcells (z0, none, 0)).toArray 40)).heap.size := by simp; omega
  obtain ⟨X0, hX0⟩ : ∃ X0, X0 = V.alloc (.cells (bcells (z0, none, 0)).toArray 40) := ⟨_, rfl⟩
  have ST : St w #[.int .i64 2, .int .i64 (k : Int), .int .i64 lo, .int .i64 hi, .string t, .slice none 0 0] k X0 (.slice (some ⟨V.heap.size, 0, none⟩) 1 1) [z0] 2 0 0 := by rw [hX0]; exact ⟨KU, fU, U1, bU, sU⟩
  have HX0 : Hid (X0 = V.alloc (.cells (bcells (z0, none, 0)).toArray 40)) := hX0
  have szV : w.heap.size < V.heap.size := by omega
  clear hX0 hV hz0 KV HK c0 c1 c2 fz fc hbW belV U1 KU fU bU sU
  have hx := HX0.out
  unfold bcells at hx
  go_upto_region 14 with fail
  rw [← hx]
  have HT0 : Hid (St w #[.int .i64 2, .int .i64 (k : Int), .int .i64 lo, .int .i64 hi, .string t, .slice none 0 0] k X0 (.slice (some ⟨V.heap.size, 0, none⟩) 1 1) [z0] 2 0 0) := ST
  generalize V.heap.size = g0 at *
  clear hx HX0 ST CZ0 NZ0 fcV hsV szV V
  by_cases hlo : 0 < lo
  · by_cases hhi : hi < 99
    · obtain ⟨c0, c1, c2, fz⟩ := HT0.out.key.facts hk
      have fc := HT0.out.fil
      have sz : w.heap.size + 1 < X0.heap.size := HT0.out.size
      go_upto_region 16 with fail
      obtain ⟨Y1, hY1⟩ : ∃ Y1, Y1 = ((X0.setCell ⟨w.heap.size + 1, k * 3, none⟩ (.int .i64 1)).setCell ⟨w.heap.size + 1, k * 3 + 1, none⟩ (.int .i64 0)).setCell ⟨w.heap.size + 1, k * 3 + 2, none⟩ (.int .i64 (lo - 1)) := ⟨_, rfl⟩
      rw [← hY1]
      have SY : St w #[.int .i64 2, .int .i64 (k : Int), .int .i64 lo, .int .i64 hi, .string t, .slice none 0 0] k Y1 (.slice (some ⟨g0, 0, none⟩) 1 1) [z0] 1 0 (lo - 1) := by rw [hY1]; exact HT0.out.set hk _ _ _
      clear hY1 c0 c1 c2 fz fc sz
      obtain ⟨z1, hz1, CZ1, NZ1⟩ := SY.key.cells
      have HZ1 : Hid (z1 = Ev.ofKey k 1 0 (lo - 1)) := hz1
      have fcY := SY.fil
      have szY : w.heap.size + 1 + 1 ≤ Y1.heap.size := SY.size
      have szY' : w.heap.size < Y1.heap.size := by omega
      have HS1 : Hid (St w #[.int .i64 2, .int .i64 (k : Int), .int .i64 lo, .int .i64 hi, .string t, .slice none 0 0] k Y1 (.slice (some ⟨g0, 0, none⟩) 1 1) [z0] 1 0 (lo - 1)) := SY
      clear hz1 SY
      go_wp2_with (at_builtin; refine append_box rfl _ _ rfl (w.heap.size + 1 + 1) _ [z0] rfl (HS1.out.row.below ((Below.refl _ _).alloc (Nat.le_refl _) _)) (z1, none, 0) (NZ1 _ _) Y1.heap.size rfl (one_cells Y1 (z1, none, 0)) (by simp) (by simp; omega) ?_)
      intro v1 X1 R1 bw
      have HT1 : Hid (St w #[.int .i64 2, .int .i64 (k : Int), .int .i64 lo, .int .i64 hi, .string t, .slice none 0 0] k X1 v1 ([z0] ++ [z1]) 1 0 (lo - 1)) := HS1.out.grow R1 (bw _ _ (Nat.le_refl _) ((Below.refl _ _).alloc (by omega) _))
      obtain ⟨ao1, ca1, rfl⟩ := R1.slice
      clear R1 bw CZ1 NZ1 fcY szY szY' HS1
      obtain ⟨c0, c1, c2, fz⟩ := HT1.out.key.facts hk
      have fc := HT1.out.fil
      have sz : w.heap.size + 1 < X1.heap.size := HT1.out.size
      go_upto_region 19 with fail
      obtain ⟨Y2, hY2⟩ : ∃ Y2, Y2 = ((X1.setCell ⟨w.heap.size + 1, k * 3, none⟩ (.int .i64 1)).setCell ⟨w.heap.size + 1, k * 3 + 1, none⟩ (.int .i64 (hi + 1))).setCell ⟨w.heap.size + 1, k * 3 + 2, none⟩ (.int .i64 99) := ⟨_, rfl⟩
      rw [← hY2]
      have SY : St w #[.int .i64 2, .int .i64 (k : Int), .int .i64 lo, .int .i64 hi, .string t, .slice none 0 0] k Y2 (.slice ao1 ([z0] ++ [z1]).length ca1) ([z0] ++ [z1]) 1 (hi + 1) 99 := by rw [hY2]; exact HT1.out.set hk _ _ _
      clear hY2 c0 c1 c2 fz fc sz
      obtain ⟨z2, hz2, CZ2, NZ2⟩ := SY.key.cells
      have HZ2 : Hid (z2 = Ev.ofKey k 1 (hi + 1) 99) := hz2
      have fcY := SY.fil
      have szY : w.heap.size + 1 + 1 ≤ Y2.heap.size := SY.size
      have szY' : w.heap.size < Y2.heap.size := by omega
      have HS2 : Hid (St w #[.int .i64 2, .int .i64 (k : Int), .int .i64 lo, .int .i64 hi, .string t, .slice none 0 0] k Y2 (.slice ao1 ([z0] ++ [z1]).length ca1) ([z0] ++ [z1]) 1 (hi + 1) 99) := SY
      clear hz2 SY
      go_wp2_with (at_builtin; refine append_box rfl _ _ rfl (w.heap.size + 1 + 1) _ ([z0] ++ [z1]) rfl (HS2.out.row.below ((Below.refl _ _).alloc (Nat.le_refl _) _)) (z2, none, 0) (NZ2 _ _) Y2.heap.size rfl (one_cells Y2 (z2, none, 0)) (by simp) (by simp; omega) ?_)
      intro v2 X2 R2 bw
      have HT2 : Hid (St w #[.int .i64 2, .int .i64 (k : Int), .int .i64 lo, .int .i64 hi, .string t, .slice none 0 0] k X2 v2 (([z0] ++ [z1]) ++ [z2]) 1 (hi + 1) 99) := HS2.out.grow R2 (bw _ _ (Nat.le_refl _) ((Below.refl _ _).alloc (by omega) _))
      obtain ⟨ao2, ca2, rfl⟩ := R2.slice
      clear R2 bw CZ2 NZ2 fcY szY szY' HS2
      have fc := HT2.out.fil
      have sz : w.heap.size < X2.heap.size := by have := HT2.out.size; omega
      go_wp2
      go_ret2
      have e : Ev.outside k lo hi = (([z0] ++ [z1]) ++ [z2]) := by
        unfold Ev.outside
        rw [if_pos (show 0 < lo by omega), if_pos (show hi < 99 by omega), HZ0.out, HZ1.out, HZ2.out]
        rfl
      exact ⟨_, rfl, HT2.out.shut e⟩
    · obtain ⟨c0, c1, c2, fz⟩ := HT0.out.key.facts hk
      have fc := HT0.out.fil
      have sz : w.heap.size + 1 < X0.heap.size := HT0.out.size
      go_upto_region 16 with fail
      obtain ⟨Y1, hY1⟩ : ∃ Y1, Y1 = ((X0.setCell ⟨w.heap.size + 1, k * 3, none⟩ (.int .i64 1)).setCell ⟨w.heap.size + 1, k * 3 + 1, none⟩ (.int .i64 0)).setCell ⟨w.heap.size + 1, k * 3 + 2, none⟩ (.int .i64 (lo - 1)) := ⟨_, rfl⟩
      rw [← hY1]
      have SY : St w #[.int .i64 2, .int .i64 (k : Int), .int .i64 lo, .int .i64 hi, .string t, .slice none 0 0] k Y1 (.slice (some ⟨g0, 0, none⟩) 1 1) [z0] 1 0 (lo - 1) := by rw [hY1]; exact HT0.out.set hk _ _ _
      clear hY1 c0 c1 c2 fz fc sz
      obtain ⟨z1, hz1, CZ1, NZ1⟩ := SY.key.cells
      have HZ1 : Hid (z1 = Ev.ofKey k 1 0 (lo - 1)) := hz1
      have fcY := SY.fil
      have szY : w.heap.size + 1 + 1 ≤ Y1.heap.size := SY.size
      have szY' : w.heap.size < Y1.heap.size := by omega
      have HS1 : Hid (St w #[.int .i64 2, .int .i64 (k : Int), .int .i64 lo, .int .i64 hi, .string t, .slice none 0 0] k Y1 (.slice (some ⟨g0, 0, none⟩) 1 1) [z0] 1 0 (lo - 1)) := SY
      clear hz1 SY
      go_wp2_with (at_builtin; refine append_box rfl _ _ rfl (w.heap.size + 1 + 1) _ [z0] rfl (HS1.out.row.below ((Below.refl _ _).alloc (Nat.le_refl _) _)) (z1, none, 0) (NZ1 _ _) Y1.heap.size rfl (one_cells Y1 (z1, none, 0)) (by simp) (by simp; omega) ?_)
      intro v1 X1 R1 bw
      have HT1 : Hid (St w #[.int .i64 2, .int .i64 (k : Int), .int .i64 lo, .int .i64 hi, .string t, .slice none 0 0] k X1 v1 ([z0] ++ [z1]) 1 0 (lo - 1)) := HS1.out.grow R1 (bw _ _ (Nat.le_refl _) ((Below.refl _ _).alloc (by omega) _))
      obtain ⟨ao1, ca1, rfl⟩ := R1.slice
      clear R1 bw CZ1 NZ1 fcY szY szY' HS1
      have fc := HT1.out.fil
      have sz : w.heap.size < X1.heap.size := by have := HT1.out.size; omega
      go_wp2
      go_ret2
      have e : Ev.outside k lo hi = ([z0] ++ [z1]) := by
        unfold Ev.outside
        rw [if_pos (show 0 < lo by omega), if_neg (show ¬ hi < 99 by omega), HZ0.out, HZ1.out]
        rfl
      exact ⟨_, rfl, HT1.out.shut e⟩
  · by_cases hhi : hi < 99
    · obtain ⟨c0, c1, c2, fz⟩ := HT0.out.key.facts hk
      have fc := HT0.out.fil
      have sz : w.heap.size + 1 < X0.heap.size := HT0.out.size
      go_upto_region 19 with fail
      obtain ⟨Y1, hY1⟩ : ∃ Y1, Y1 = ((X0.setCell ⟨w.heap.size + 1, k * 3, none⟩ (.int .i64 1)).setCell ⟨w.heap.size + 1, k * 3 + 1, none⟩ (.int .i64 (hi + 1))).setCell ⟨w.heap.size + 1, k * 3 + 2, none⟩ (.int .i64 99) := ⟨_, rfl⟩
      rw [← hY1]
      have SY : St w #[.int .i64 2, .int .i64 (k : Int), .int .i64 lo, .int .i64 hi, .string t, .slice none 0 0] k Y1 (.slice (some ⟨g0, 0, none⟩) 1 1) [z0] 1 (hi + 1) 99 := by rw [hY1]; exact HT0.out.set hk _ _ _
      clear hY1 c0 c1 c2 fz fc sz
      obtain ⟨z1, hz1, CZ1, NZ1⟩ := SY.key.cells
      have HZ1 : Hid (z1 = Ev.ofKey k 1 (hi + 1) 99) := hz1
      have fcY := SY.fil
      have szY : w.heap.size + 1 + 1 ≤ Y1.heap.size := SY.size
      have szY' : w.heap.size < Y1.heap.size := by omega
      have HS1 : Hid (St w #[.int .i64 2, .int .i64 (k : Int), .int .i64 lo, .int .i64 hi, .string t, .slice none 0 0] k Y1 (.slice (some ⟨g0, 0, none⟩) 1 1) [z0] 1 (hi + 1) 99) := SY
      clear hz1 SY
      go_wp2_with (at_builtin; refine append_box rfl _ _ rfl (w.heap.size + 1 + 1) _ [z0] rfl (HS1.out.row.below ((Below.refl _ _).alloc (Nat.le_refl _) _)) (z1, none, 0) (NZ1 _ _) Y1.heap.size rfl (one_cells Y1 (z1, none, 0)) (by simp) (by simp; omega) ?_)
      intro v1 X1 R1 bw
      have HT1 : Hid (St w #[.int .i64 2, .int .i64 (k : Int), .int .i64 lo, .int .i64 hi, .string t, .slice none 0 0] k X1 v1 ([z0] ++ [z1]) 1 (hi + 1) 99) := HS1.out.grow R1 (bw _ _ (Nat.le_refl _) ((Below.refl _ _).alloc (by omega) _))
      obtain ⟨ao1, ca1, rfl⟩ := R1.slice
      clear R1 bw CZ1 NZ1 fcY szY szY' HS1
      have fc := HT1.out.fil
      have sz : w.heap.size < X1.heap.size := by have := HT1.out.size; omega
      go_wp2
      go_ret2
      have e : Ev.outside k lo hi = ([z0] ++ [z1]) := by
        unfold Ev.outside
        rw [if_neg (show ¬ 0 < lo by omega), if_pos (show hi < 99 by omega), HZ0.out, HZ1.out]
        rfl
      exact ⟨_, rfl, HT1.out.shut e⟩
    · have fc := HT0.out.fil
      have sz : w.heap.size < X0.heap.size := by have := HT0.out.size; omega
      go_wp2
      go_ret2
      have e : Ev.outside k lo hi = [z0] := by
        unfold Ev.outside
        rw [if_neg (show ¬ 0 < lo by omega), if_neg (show ¬ hi < 99 by omega), HZ0.out]
        rfl
      exact ⟨_, rfl, HT0.out.shut e⟩

set_option maxRecDepth 100000 in
set_option maxHeartbeats 4000000 in
theorem rleaf_key3_not (k : Nat) (lo hi : Int) (t : ByteArray) (w : World) (hk : k ≤ 3) (h1 : 0 ≤ lo) (h2 : lo ≤ hi) (h3 : hi ≤ 99) :
    Calls Try.prog 28 #[.agg #[.int .i64 3, .int .i64 (k : Int), .int .i64 lo, .int .i64 hi, .string t, .slice none 0 0], .bool true] w (RPost w (some (Ev.outside k lo hi))) := by
  unfold RPost
  have hki : (k : Int) < 4 := by omega
  go_enter Try.func28, Try.ntmps28
  go_upto_region 12 with fail
  obtain ⟨W, hW⟩ : ∃ W, W = (w.alloc (.cells #[.int .i64 3, .int .i64 (k : Int), .int .i64 lo, .int .i64 hi, .string t, .slice none 0 0] 26)).alloc (.cells #[.int .i64 0, .int .i64 0, .int .i64 0, .int .i64 0, .int .i64 0, .int .i64 0, .int .i64 0, .int .i64 0, .int .i64 0, .int .i64 0, .int .i64 0, .int .i64 0, .string ⟨#[]⟩, .slice none 0 0] 40) := ⟨_, rfl⟩
  rw [← hW]
  have fc : ∀ i, W.cell? ⟨w.heap.size, i, none⟩ = (#[.int .i64 3, .int .i64 (k : Int), .int .i64 lo, .int .i64 hi, .string t, .slice none 0 0] : Array Value)[i]? := fun i => by rw [hW, World.cell?_alloc_past _ _ _ (hn := by simp)]; simp
  have K : KeyAt W (w.heap.size + 1) k 0 0 0 := ⟨by rw [key_none k hk, hW]; exact heap_at _ _ (by simp)⟩
  have hsW : w.heap.size + 1 < W.heap.size := by rw [hW]; simp
  have hbW : Below w.heap.size w W := by rw [hW]; exact ((Below.refl _ _).alloc (Nat.le_refl _) _).alloc (by simp) _
  clear hW
  obtain ⟨c0, c1, c2, fz⟩ := K.facts hk
  have HK : Hid (KeyAt W (w.heap.size + 1) k 0 0 0) := K
  clear K
  go_upto_region 13 with fail
  obtain ⟨V, hV⟩ : ∃ V, V = ((W.setCell ⟨w.heap.size + 1, k * 3, none⟩ (.int .i64 2)).setCell ⟨w.heap.size + 1, k * 3 + 1, none⟩ (.int .i64 0)).setCell ⟨w.heap.size + 1, k * 3 + 2, none⟩ (.int .i64 0) := ⟨_, rfl⟩
  rw [← hV]
  have KV : KeyAt V (w.heap.size + 1) k 2 0 0 := by rw [hV]; exact HK.out.set hk _ _ _
  have fcV : ∀ i, V.cell? ⟨w.heap.size, i, none⟩ = (#[.int .i64 3, .int .i64 (k : Int), .int .i64 lo, .int .i64 hi, .string t, .slice none 0 0] : Array Value)[i]? := fun i => by rw [hV, set_cell_far' (by omega), set_cell_far' (by omega), set_cell_far' (by omega)]; exact fc i
  have hsV : w.heap.size + 1 < V.heap.size := by rw [hV]; simpa [World.setCell] using hsW
  have belV : Below w.heap.size w V := by rw [hV]; exact ((hbW.setCell (by simp) _).setCell (by simp) _).setCell (by simp) _
  obtain ⟨z0, hz0, CZ0, NZ0⟩ := KV.cells
  have HZ0 : Hid (z0 = Ev.ofKey k 2 0 0) := hz0
  have U1 : RowB (w.heap.size + 1 + 1) (V.alloc (.cells (bcells (z0, none, 0)).toArray 40)) (.slice (some ⟨V.heap.size, 0, none⟩) 1 1) [z0] := RowB.one (z0, none, 0) (by omega) (NZ0 _ _)
  have KU : KeyAt (V.alloc (.cells (bcells (z0, none, 0)).toArray 40)) (w.heap.size + 1) k 2 0 0 := KV.keep (heap_old _ _ hsV)
  have fU : ∀ i, (V.alloc (.cells (bcells (z0, none, 0)).toArray 40)).cell? ⟨w.heap.size, i, none⟩ = (#[.int .i64 3, .int .i64 (k : Int), .int .i64 lo, .int .i64 hi, .string t, .slice none 0 0] : Array Value)[i]? := fun i => (World.cell?_alloc_past _ _ _ (hn := by omega)).trans (fcV i)
  have bU : Below w.heap.size w (V.alloc (.cells (bcells (z0, none, 0)).toArray 40)) := belV.alloc (by omega) _
  have sU : w.heap.size + 1 + 1 ≤ (V.alloc (.cells (bcells (z0, none, 0)).toArray 40)).heap.size := by simp; omega
  obtain ⟨X0, hX0⟩ : ∃ X0, X0 = V.alloc (.cells (bcells (z0, none, 0)).toArray 40) := ⟨_, rfl⟩
  have ST : St w #[.int .i64 3, .int .i64 (k : Int), .int .i64 lo, .int .i64 hi, .string t, .slice none 0 0] k X0 (.slice (some ⟨V.heap.size, 0, none⟩) 1 1) [z0] 2 0 0 := by rw [hX0]; exact ⟨KU, fU, U1, bU, sU⟩
  have HX0 : Hid (X0 = V.alloc (.cells (bcells (z0, none, 0)).toArray 40)) := hX0
  have szV : w.heap.size < V.heap.size := by omega
  clear hX0 hV hz0 KV HK c0 c1 c2 fz fc hbW belV U1 KU fU bU sU
  have hx := HX0.out
  unfold bcells at hx
  go_upto_region 14 with fail
  rw [← hx]
  have HT0 : Hid (St w #[.int .i64 3, .int .i64 (k : Int), .int .i64 lo, .int .i64 hi, .string t, .slice none 0 0] k X0 (.slice (some ⟨V.heap.size, 0, none⟩) 1 1) [z0] 2 0 0) := ST
  generalize V.heap.size = g0 at *
  clear hx HX0 ST CZ0 NZ0 fcV hsV szV V
  by_cases hlo : 0 < lo
  · by_cases hhi : hi < 99
    · obtain ⟨c0, c1, c2, fz⟩ := HT0.out.key.facts hk
      have fc := HT0.out.fil
      have sz : w.heap.size + 1 < X0.heap.size := HT0.out.size
      go_upto_region 16 with fail
      obtain ⟨Y1, hY1⟩ : ∃ Y1, Y1 = ((X0.setCell ⟨w.heap.size + 1, k * 3, none⟩ (.int .i64 1)).setCell ⟨w.heap.size + 1, k * 3 + 1, none⟩ (.int .i64 0)).setCell ⟨w.heap.size + 1, k * 3 + 2, none⟩ (.int .i64 (lo - 1)) := ⟨_, rfl⟩
      rw [← hY1]
      have SY : St w #[.int .i64 3, .int .i64 (k : Int), .int .i64 lo, .int .i64 hi, .string t, .slice none 0 0] k Y1 (.slice (some ⟨g0, 0, none⟩) 1 1) [z0] 1 0 (lo - 1) := by rw [hY1]; exact HT0.out.set hk _ _ _
      clear hY1 c0 c1 c2 fz fc sz
      obtain ⟨z1, hz1, CZ1, NZ1⟩ := SY.key.cells
      have HZ1 : Hid (z1 = Ev.ofKey k 1 0 (lo - 1)) := hz1
      have fcY := SY.fil
      have szY : w.heap.size + 1 + 1 ≤ Y1.heap.size := SY.size
      have szY' : w.heap.size < Y1.heap.size := by omega
      have HS1 : Hid (St w #[.int .i64 3, .int .i64 (k : Int), .int .i64 lo, .int .i64 hi, .string t, .slice none 0 0] k Y1 (.slice (some ⟨g0, 0, none⟩) 1 1) [z0] 1 0 (lo - 1)) := SY
      clear hz1 SY
      go_wp2_with (at_builtin; refine append_box rfl _ _ rfl (w.heap.size + 1 + 1) _ [z0] rfl (HS1.out.row.below ((Below.refl _ _).alloc (Nat.le_refl _) _)) (z1, none, 0) (NZ1 _ _) Y1.heap.size rfl (one_cells Y1 (z1, none, 0)) (by simp) (by simp; omega) ?_)
      intro v1 X1 R1 bw
      have HT1 : Hid (St w #[.int .i64 3, .int .i64 (k : Int), .int .i64 lo, .int .i64 hi, .string t, .slice none 0 0] k X1 v1 ([z0] ++ [z1]) 1 0 (lo - 1)) := HS1.out.grow R1 (bw _ _ (Nat.le_refl _) ((Below.refl _ _).alloc (by omega) _))
      obtain ⟨ao1, ca1, rfl⟩ := R1.slice
      clear R1 bw CZ1 NZ1 fcY szY szY' HS1
      obtain ⟨c0, c1, c2, fz⟩ := HT1.out.key.facts hk
      have fc := HT1.out.fil
      have sz : w.heap.size + 1 < X1.heap.size := HT1.out.size
      go_upto_region 19 with fail
      obtain ⟨Y2, hY2⟩ : ∃ Y2, Y2 = ((X1.setCell ⟨w.heap.size + 1, k * 3, none⟩ (.int .i64 1)).setCell ⟨w.heap.size + 1, k * 3 + 1, none⟩ (.int .i64 (hi + 1))).setCell ⟨w.heap.size + 1, k * 3 + 2, none⟩ (.int .i64 99) := ⟨_, rfl⟩
      rw [← hY2]
      have SY : St w #[.int .i64 3, .int .i64 (k : Int), .int .i64 lo, .int .i64 hi, .string t, .slice none 0 0] k Y2 (.slice ao1 ([z0] ++ [z1]).length ca1) ([z0] ++ [z1]) 1 (hi + 1) 99 := by rw [hY2]; exact HT1.out.set hk _ _ _
      clear hY2 c0 c1 c2 fz fc sz
      obtain ⟨z2, hz2, CZ2, NZ2⟩ := SY.key.cells
      have HZ2 : Hid (z2 = Ev.ofKey k 1 (hi + 1) 99) := hz2
      have fcY := SY.fil
      have szY : w.heap.size + 1 + 1 ≤ Y2.heap.size := SY.size
      have szY' : w.heap.size < Y2.heap.size := by omega
      have HS2 : Hid (St w #[.int .i64 3, .int .i64 (k : Int), .int .i64 lo, .int .i64 hi, .string t, .slice none 0 0] k Y2 (.slice ao1 ([z0] ++ [z1]).length ca1) ([z0] ++ [z1]) 1 (hi + 1) 99) := SY
      clear hz2 SY
      go_wp2_with (at_builtin; refine append_box rfl _ _ rfl (w.heap.size + 1 + 1) _ ([z0] ++ [z1]) rfl (HS2.out.row.below ((Below.refl _ _).alloc (Nat.le_refl _) _)) (z2, none, 0) (NZ2 _ _) Y2.heap.size rfl (one_cells Y2 (z2, none, 0)) (by simp) (by simp; omega) ?_)
      intro v2 X2 R2 bw
      have HT2 : Hid (St w #[.int .i64 3, .int .i64 (k : Int), .int .i64 lo, .int .i64 hi, .string t, .slice none 0 0] k X2 v2 (([z0] ++ [z1]) ++ [z2]) 1 (hi + 1) 99) := HS2.out.grow R2 (bw _ _ (Nat.le_refl _) ((Below.refl _ _).alloc (by omega) _))
      obtain ⟨ao2, ca2, rfl⟩ := R2.slice
      clear R2 bw CZ2 NZ2 fcY szY szY' HS2
      have fc := HT2.out.fil
      have sz : w.heap.size < X2.heap.size := by have := HT2.out.size; omega
      go_wp2
      go_ret2
      have e : Ev.outside k lo hi = (([z0] ++ [z1]) ++ [z2]) := by
        unfold Ev.outside
        rw [if_pos (show 0 < lo by omega), if_pos (show hi < 99 by omega), HZ0.out, HZ1.out, HZ2.out]
        rfl
      exact ⟨_, rfl, HT2.out.shut e⟩
    · obtain ⟨c0, c1, c2, fz⟩ := HT0.out.key.facts hk
      have fc := HT0.out.fil
      have sz : w.heap.size + 1 < X0.heap.size := HT0.out.size
      go_upto_region 16 with fail
      obtain ⟨Y1, hY1⟩ : ∃ Y1, Y1 = ((X0.setCell ⟨w.heap.size + 1, k * 3, none⟩ (.int .i64 1)).setCell ⟨w.heap.size + 1, k * 3 + 1, none⟩ (.int .i64 0)).setCell ⟨w.heap.size + 1, k * 3 + 2, none⟩ (.int .i64 (lo - 1)) := ⟨_, rfl⟩
      rw [← hY1]
      have SY : St w #[.int .i64 3, .int .i64 (k : Int), .int .i64 lo, .int .i64 hi, .string t, .slice none 0 0] k Y1 (.slice (some ⟨g0, 0, none⟩) 1 1) [z0] 1 0 (lo - 1) := by rw [hY1]; exact HT0.out.set hk _ _ _
      clear hY1 c0 c1 c2 fz fc sz
      obtain ⟨z1, hz1, CZ1, NZ1⟩ := SY.key.cells
      have HZ1 : Hid (z1 = Ev.ofKey k 1 0 (lo - 1)) := hz1
      have fcY := SY.fil
      have szY : w.heap.size + 1 + 1 ≤ Y1.heap.size := SY.size
      have szY' : w.heap.size < Y1.heap.size := by omega
      have HS1 : Hid (St w #[.int .i64 3, .int .i64 (k : Int), .int .i64 lo, .int .i64 hi, .string t, .slice none 0 0] k Y1 (.slice (some ⟨g0, 0, none⟩) 1 1) [z0] 1 0 (lo - 1)) := SY
      clear hz1 SY
      go_wp2_with (at_builtin; refine append_box rfl _ _ rfl (w.heap.size + 1 + 1) _ [z0] rfl (HS1.out.row.below ((Below.refl _ _).alloc (Nat.le_refl _) _)) (z1, none, 0) (NZ1 _ _) Y1.heap.size rfl (one_cells Y1 (z1, none, 0)) (by simp) (by simp; omega) ?_)
      intro v1 X1 R1 bw
      have HT1 : Hid (St w #[.int .i64 3, .int .i64 (k : Int), .int .i64 lo, .int .i64 hi, .string t, .slice none 0 0] k X1 v1 ([z0] ++ [z1]) 1 0 (lo - 1)) := HS1.out.grow R1 (bw _ _ (Nat.le_refl _) ((Below.refl _ _).alloc (by omega) _))
      obtain ⟨ao1, ca1, rfl⟩ := R1.slice
      clear R1 bw CZ1 NZ1 fcY szY szY' HS1
      have fc := HT1.out.fil
      have sz : w.heap.size < X1.heap.size := by have := HT1.out.size; omega
      go_wp2
      go_ret2
      have e : Ev.outside k lo hi = ([z0] ++ [z1]) := by
        unfold Ev.outside
        rw [if_pos (show 0 < lo by omega), if_neg (show ¬ hi < 99 by omega), HZ0.out, HZ1.out]
        rfl
      exact ⟨_, rfl, HT1.out.shut e⟩
  · by_cases hhi : hi < 99
    · obtain ⟨c0, c1, c2, fz⟩ := HT0.out.key.facts hk
      have fc := HT0.out.fil
      have sz : w.heap.size + 1 < X0.heap.size := HT0.out.size
      go_upto_region 19 with fail
      obtain ⟨Y1, hY1⟩ : ∃ Y1, Y1 = ((X0.setCell ⟨w.heap.size + 1, k * 3, none⟩ (.int .i64 1)).setCell ⟨w.heap.size + 1, k * 3 + 1, none⟩ (.int .i64 (hi + 1))).setCell ⟨w.heap.size + 1, k * 3 + 2, none⟩ (.int .i64 99) := ⟨_, rfl⟩
      rw [← hY1]
      have SY : St w #[.int .i64 3, .int .i64 (k : Int), .int .i64 lo, .int .i64 hi, .string t, .slice none 0 0] k Y1 (.slice (some ⟨g0, 0, none⟩) 1 1) [z0] 1 (hi + 1) 99 := by rw [hY1]; exact HT0.out.set hk _ _ _
      clear hY1 c0 c1 c2 fz fc sz
      obtain ⟨z1, hz1, CZ1, NZ1⟩ := SY.key.cells
      have HZ1 : Hid (z1 = Ev.ofKey k 1 (hi + 1) 99) := hz1
      have fcY := SY.fil
      have szY : w.heap.size + 1 + 1 ≤ Y1.heap.size := SY.size
      have szY' : w.heap.size < Y1.heap.size := by omega
      have HS1 : Hid (St w #[.int .i64 3, .int .i64 (k : Int), .int .i64 lo, .int .i64 hi, .string t, .slice none 0 0] k Y1 (.slice (some ⟨g0, 0, none⟩) 1 1) [z0] 1 (hi + 1) 99) := SY
      clear hz1 SY
      go_wp2_with (at_builtin; refine append_box rfl _ _ rfl (w.heap.size + 1 + 1) _ [z0] rfl (HS1.out.row.below ((Below.refl _ _).alloc (Nat.le_refl _) _)) (z1, none, 0) (NZ1 _ _) Y1.heap.size rfl (one_cells Y1 (z1, none, 0)) (by simp) (by simp; omega) ?_)
      intro v1 X1 R1 bw
      have HT1 : Hid (St w #[.int .i64 3, .int .i64 (k : Int), .int .i64 lo, .int .i64 hi, .string t, .slice none 0 0] k X1 v1 ([z0] ++ [z1]) 1 (hi + 1) 99) := HS1.out.grow R1 (bw _ _ (Nat.le_refl _) ((Below.refl _ _).alloc (by omega) _))
      obtain ⟨ao1, ca1, rfl⟩ := R1.slice
      clear R1 bw CZ1 NZ1 fcY szY szY' HS1
      have fc := HT1.out.fil
      have sz : w.heap.size < X1.heap.size := by have := HT1.out.size; omega
      go_wp2
      go_ret2
      have e : Ev.outside k lo hi = ([z0] ++ [z1]) := by
        unfold Ev.outside
        rw [if_neg (show ¬ 0 < lo by omega), if_pos (show hi < 99 by omega), HZ0.out, HZ1.out]
        rfl
      exact ⟨_, rfl, HT1.out.shut e⟩
    · have fc := HT0.out.fil
      have sz : w.heap.size < X0.heap.size := by have := HT0.out.size; omega
      go_wp2
      go_ret2
      have e : Ev.outside k lo hi = [z0] := by
        unfold Ev.outside
        rw [if_neg (show ¬ 0 < lo by omega), if_neg (show ¬ hi < 99 by omega), HZ0.out]
        rfl
      exact ⟨_, rfl, HT0.out.shut e⟩

end Go.Proofs.Ytflpdekifkcfkab
