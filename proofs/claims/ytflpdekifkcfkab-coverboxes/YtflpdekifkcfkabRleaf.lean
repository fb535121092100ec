/- cardamomref4.of: the boxes of a filter without parts. -/
import Derived.Test.YtflpdekifkcfkabLeafs
import Derived.Test.YtflpdekifkcfkabMeet
import Derived.Deep.DeepCutAuto
namespace Go.Proofs.Ytflpdekifkcfkab
open Go.RowKit
set_option linter.unusedVariables false

/-- A side laid into a box that asks for nothing, or for one thing of that key. -/
theorem key_lay (k : Nat) (hk : k ≤ 3) (h0 l0 u0 h l u : Int) : ((((bcells (Ev.ofKey k h0 l0 u0, none, 0)).toArray.setIfInBounds (k * 3) (.int .i64 h)).setIfInBounds (k * 3 + 1) (.int .i64 l)).setIfInBounds (k * 3 + 2) (.int .i64 u)) = (bcells (Ev.ofKey k h l u, none, 0)).toArray := by
  have hc : k = 0 ∨ k = 1 ∨ k = 2 ∨ k = 3 := by omega
  rcases hc with rfl | rfl | rfl | rfl <;> rfl

theorem key_none (k : Nat) (hk : k ≤ 3) : (bcells (Ev.ofKey k 0 0 0, none, 0)).toArray = #[.int .i64 0, .int .i64 0, .int .i64 0, .int .i64 0, .int .i64 0, .int .i64 0, .int .i64 0, .int .i64 0, .int .i64 0, .int .i64 0, .int .i64 0, .int .i64 0, .string ⟨#[]⟩, .slice none 0 0] := by
  have hc : k = 0 ∨ k = 1 ∨ k = 2 ∨ k = 3 := by omega
  rcases hc with rfl | rfl | rfl | rfl <;> rfl

theorem key_has (k : Nat) (hk : k ≤ 3) (h l u : Int) : (bcells (Ev.ofKey k h l u, none, 0)).toArray[k * 3]? = some (.int .i64 h) ∧ (bcells (Ev.ofKey k h l u, none, 0)).toArray[k * 3 + 1]? = some (.int .i64 l) ∧ (bcells (Ev.ofKey k h l u, none, 0)).toArray[k * 3 + 2]? = some (.int .i64 u) := by
  have hc : k = 0 ∨ k = 1 ∨ k = 2 ∨ k = 3 := by omega
  rcases hc with rfl | rfl | rfl | rfl <;> exact ⟨rfl, rfl, rfl⟩

theorem key_nots (key how lo hi : Int) : (Ev.ofKey key how lo hi).nots = [] := rfl

/-- Block b is the box of that key. -/
structure KeyAt (w : World) (b k : Nat) (h l u : Int) : Prop where
  block : w.heap[b]? = some (.cells (bcells (Ev.ofKey k h l u, none, 0)).toArray 40 (0, 0))

theorem KeyAt.facts {w : World} {b k : Nat} {h l u : Int} (x : KeyAt w b k h l u) (hk : k ≤ 3) :
    w.cell? ⟨b, k * 3, none⟩ = some (.int .i64 h) ∧ w.cell? ⟨b, k * 3 + 1, none⟩ = some (.int .i64 l) ∧ w.cell? ⟨b, k * 3 + 2, none⟩ = some (.int .i64 u) ∧ ∀ o, w.frozen? ⟨b, o, none⟩ = false := by
  obtain ⟨c, f⟩ := cells_of x.block
  obtain ⟨h1, h2, h3⟩ := key_has k hk h l u
  exact ⟨(c _).trans h1, (c _).trans h2, (c _).trans h3, f⟩

theorem KeyAt.set {w : World} {b k : Nat} {h0 l0 u0 : Int} (x : KeyAt w b k h0 l0 u0) (hk : k ≤ 3) (h l u : Int) :
    KeyAt (((w.setCell ⟨b, k * 3, none⟩ (.int .i64 h)).setCell ⟨b, k * 3 + 1, none⟩ (.int .i64 l)).setCell ⟨b, k * 3 + 2, none⟩ (.int .i64 u)) b k h l u :=
  ⟨(set_block (set_block (set_block x.block _) _) _).trans (by rw [key_lay k hk])⟩

theorem KeyAt.cells {w : World} {b k : Nat} {h l u : Int} (x : KeyAt w b k h l u) : ∃ z : Ev.Bx, z = Ev.ofKey k h l u ∧ (∀ o, w.cell? ⟨b, o, none⟩ = (#[.int .i64 (z.s 0).how, .int .i64 (z.s 0).lo, .int .i64 (z.s 0).hi, .int .i64 (z.s 1).how, .int .i64 (z.s 1).lo, .int .i64 (z.s 1).hi, .int .i64 (z.s 2).how, .int .i64 (z.s 2).lo, .int .i64 (z.s 2).hi, .int .i64 (z.s 3).how, .int .i64 (z.s 3).lo, .int .i64 (z.s 3).hi, .string z.tag, .slice none z.nots.length 0] : Array Value)[o]?) ∧ ∀ B w', Nt B w' none 0 z.nots :=
  ⟨_, rfl, (cells_of x.block).1, fun B w' => Nt.empty B w'⟩

theorem KeyAt.keep {w w' : World} {b k : Nat} {h l u : Int} (x : KeyAt w b k h l u) (e : w'.heap[b]? = w.heap[b]?) : KeyAt w' b k h l u := ⟨e.trans x.block⟩

theorem set_cell_far' {w : World} {b b' o o' : Nat} {u : Value} (h : b' ≠ b) : (w.setCell ⟨b', o', none⟩ u).cell? ⟨b, o, none⟩ = w.cell? ⟨b, o, none⟩ := World.cell?_setCell_other _ _ _ _ (fun e => h (congrArg Addr.block e))

set_option maxRecDepth 100000 in
set_option maxHeartbeats 1000000 in
theorem rleaf_all (key lo hi : Int) (t : ByteArray) (w : World) :
    Calls Try.prog 28 #[.agg #[.int .i64 1, .int .i64 key, .int .i64 lo, .int .i64 hi, .string t, .slice none 0 0], .bool false] w (RPost w (some [Ev.zero])) := by
  unfold RPost
  go_enter Try.func28, Try.ntmps28
  go_wp2
  go_ret2
  have hb : Below w.heap.size w ((w.alloc (.cells #[.int .i64 1, .int .i64 key, .int .i64 lo, .int .i64 hi, .string t, .slice none 0 0] 26)).alloc (.cells #[.int .i64 0, .int .i64 0, .int .i64 0, .int .i64 0, .int .i64 0, .int .i64 0, .int .i64 0, .int .i64 0, .int .i64 0, .int .i64 0, .int .i64 0, .int .i64 0, .string ⟨#[]⟩, .slice none 0 0] 40)) := ((Below.refl _ _).alloc (Nat.le_refl _) _).alloc (by simp) _
  exact ⟨_, rfl, RowB.one_at (w := (w.alloc (.cells #[.int .i64 1, .int .i64 key, .int .i64 lo, .int .i64 hi, .string t, .slice none 0 0] 26)).alloc (.cells #[.int .i64 0, .int .i64 0, .int .i64 0, .int .i64 0, .int .i64 0, .int .i64 0, .int .i64 0, .int .i64 0, .int .i64 0, .int .i64 0, .int .i64 0, .int .i64 0, .string ⟨#[]⟩, .slice none 0 0] 40)) (Ev.zero, none, 0) (by simp) hb.size (Nt.empty _ _), hb.alloc hb.size _⟩

set_option maxRecDepth 100000 in
set_option maxHeartbeats 1000000 in
theorem rleaf_all_not (key lo hi : Int) (t : ByteArray) (w : World) :
    Calls Try.prog 28 #[.agg #[.int .i64 1, .int .i64 key, .int .i64 lo, .int .i64 hi, .string t, .slice none 0 0], .bool true] w (RPost w (some [])) := by
  unfold RPost
  go_enter Try.func28, Try.ntmps28
  go_wp2
  go_ret2
  exact ⟨_, rfl, RowB.nil _ _, ((Below.refl _ _).alloc (Nat.le_refl _) _).alloc (by simp) _⟩

set_option maxRecDepth 100000 in
set_option maxHeartbeats 1000000 in
theorem rleaf_tag (key lo hi : Int) (t : ByteArray) (w : World) :
    Calls Try.prog 28 #[.agg #[.int .i64 4, .int .i64 key, .int .i64 lo, .int .i64 hi, .string t, .slice none 0 0], .bool false] w (RPost w (some [⟨fun _ => Ev.nul, t, []⟩])) := by
  unfold RPost
  go_enter Try.func28, Try.ntmps28
  go_wp2
  go_ret2
  have hb : Below w.heap.size w ((w.alloc (.cells #[.int .i64 4, .int .i64 key, .int .i64 lo, .int .i64 hi, .string t, .slice none 0 0] 26)).alloc (.cells (bcells (⟨fun _ => Ev.nul, t, []⟩, none, 0)).toArray 40)) := ((Below.refl _ _).alloc (Nat.le_refl _) _).alloc (by simp) _
  exact ⟨_, rfl, RowB.one_at (w := (w.alloc (.cells #[.int .i64 4, .int .i64 key, .int .i64 lo, .int .i64 hi, .string t, .slice none 0 0] 26)).alloc (.cells (bcells (⟨fun _ => Ev.nul, t, []⟩, none, 0)).toArray 40)) (⟨fun _ => Ev.nul, t, []⟩, none, 0) (by simp) hb.size (Nt.empty _ _), hb.alloc hb.size _⟩

set_option maxRecDepth 100000 in
set_option maxHeartbeats 1000000 in
theorem rleaf_tag_not (key lo hi : Int) (t : ByteArray) (w : World) :
    Calls Try.prog 28 #[.agg #[.int .i64 4, .int .i64 key, .int .i64 lo, .int .i64 hi, .string t, .slice none 0 0], .bool true] w (RPost w (some [⟨fun _ => Ev.nul, ⟨#[]⟩, [t.data.toList]⟩])) := by
  unfold RPost
  go_enter Try.func28, Try.ntmps28
  go_wp2
  go_ret2
  have hb : Below w.heap.size w (((w.alloc (.cells #[.int .i64 4, .int .i64 key, .int .i64 lo, .int .i64 hi, .string t, .slice none 0 0] 26)).alloc (.cells (bcells (⟨fun _ => Ev.nul, ⟨#[]⟩, [t.data.toList]⟩, some ⟨w.heap.size + 1 + 1, 0, none⟩, 1)).toArray 40)).alloc (.cells #[.string t] 9)) := (((Below.refl _ _).alloc (Nat.le_refl _) _).alloc (by simp) _).alloc (by simp <;> omega) _
  have hn : Nt w.heap.size (((w.alloc (.cells #[.int .i64 4, .int .i64 key, .int .i64 lo, .int .i64 hi, .string t, .slice none 0 0] 26)).alloc (.cells (bcells (⟨fun _ => Ev.nul, ⟨#[]⟩, [t.data.toList]⟩, some ⟨w.heap.size + 1 + 1, 0, none⟩, 1)).toArray 40)).alloc (.cells #[.string t] 9)) (some ⟨w.heap.size + 1 + 1, 0, none⟩) 1 [t.data.toList] := by
    refine ⟨fun h => (by cases h), fun _ => ⟨w.heap.size + 1 + 1, rfl, by omega, #[.string t], heap_at _ _ (by simp), fun j hj => ?_⟩⟩
    have : j = 0 := by simpa using hj
    subst this
    rfl
  exact ⟨_, rfl, RowB.one_at (w := ((w.alloc (.cells #[.int .i64 4, .int .i64 key, .int .i64 lo, .int .i64 hi, .string t, .slice none 0 0] 26)).alloc (.cells (bcells (⟨fun _ => Ev.nul, ⟨#[]⟩, [t.data.toList]⟩, some ⟨w.heap.size + 1 + 1, 0, none⟩, 1)).toArray 40)).alloc (.cells #[.string t] 9)) (⟨fun _ => Ev.nul, ⟨#[]⟩, [t.data.toList]⟩, some ⟨w.heap.size + 1 + 1, 0, none⟩, 1) (by simp) hb.size hn, hb.alloc hb.size _⟩

set_option maxRecDepth 100000 in
set_option maxHeartbeats 4000000 in
theorem rleaf_key2 (k : Nat) (lo hi : Int) (t : ByteArray) (w : World) (hk : k ≤ 3) (h1 : 0 ≤ lo) (h2 : lo ≤ hi) (h3 : hi ≤ 99) :
    Calls Try.prog 28 #[.agg #[.int .i64 2, .int .i64 (k : Int), .int .i64 lo, .int .i64 hi, .string t, .slice none 0 0], .bool false] w (RPost w (some [Ev.ofKey k 1 lo hi])) := by
  unfold RPost
  have hki : (k : Int) < 4 := by omega
  go_enter Try.func28, Try.ntmps28
  go_upto_region 10 with fail
  obtain ⟨W, hW⟩ : ∃ W, W = (w.alloc (.cells #[.int .i64 2, .int .i64 (k : Int), .int .i64 lo, .int .i64 hi, .string t, .slice none 0 0] 26)).alloc (.cells #[.int .i64 0, .int .i64 0, .int .i64 0, .int .i64 0, .int .i64 0, .int .i64 0, .int .i64 0, .int .i64 0, .int .i64 0, .int .i64 0, .int .i64 0, .int .i64 0, .string ⟨#[]⟩, .slice none 0 0] 40) := ⟨_, rfl⟩
  rw [← hW]
  have fc : ∀ i, W.cell? ⟨w.heap.size, i, none⟩ = (#[.int .i64 2, .int .i64 (k : Int), .int .i64 lo, .int .i64 hi, .string t, .slice none 0 0] : Array Value)[i]? := fun i => by rw [hW, World.cell?_alloc_past _ _ _ (hn := by simp)]; simp
  have K : KeyAt W (w.heap.size + 1) k 0 0 0 := ⟨by rw [key_none k hk, hW]; exact heap_at _ _ (by simp)⟩
  have hsW : w.heap.size + 1 < W.heap.size := by rw [hW]; simp
  have hbW : Below w.heap.size w W := by rw [hW]; exact ((Below.refl _ _).alloc (Nat.le_refl _) _).alloc (by simp) _
  clear hW
  obtain ⟨c0, c1, c2, fz⟩ := K.facts hk
  have HK : Hid (KeyAt W (w.heap.size + 1) k 0 0 0) := K
  clear K
  go_upto_region 11 with fail
  obtain ⟨V, hV⟩ : ∃ V, V = ((W.setCell ⟨w.heap.size + 1, k * 3, none⟩ (.int .i64 1)).setCell ⟨w.heap.size + 1, k * 3 + 1, none⟩ (.int .i64 lo)).setCell ⟨w.heap.size + 1, k * 3 + 2, none⟩ (.int .i64 hi) := ⟨_, rfl⟩
  rw [← hV]
  have KV : KeyAt V (w.heap.size + 1) k 1 lo hi := by rw [hV]; exact HK.out.set hk _ _ _
  have fcV : ∀ i, V.cell? ⟨w.heap.size, i, none⟩ = (#[.int .i64 2, .int .i64 (k : Int), .int .i64 lo, .int .i64 hi, .string t, .slice none 0 0] : Array Value)[i]? := fun i => by rw [hV, set_cell_far' (by omega), set_cell_far' (by omega), set_cell_far' (by omega)]; exact fc i
  have hsV : w.heap.size + 1 < V.heap.size := by rw [hV]; simpa [World.setCell] using hsW
  have hbV : Below w.heap.size w V := by rw [hV]; exact ((hbW.setCell (by simp) _).setCell (by simp) _).setCell (by simp) _
  obtain ⟨z, hz, CZ, NZ⟩ := KV.cells
  have HZ : Hid (z = Ev.ofKey k 1 lo hi) := hz
  clear hz KV HK hV c0 c1 c2 fz fc hbW
  go_wp2
  go_ret2
  refine ⟨_, rfl, ?_, hbV.alloc hbV.size _⟩
  show RowB _ _ _ [Ev.ofKey k 1 lo hi]
  rw [← HZ.out]
  exact RowB.one_at (z, none, 0) rfl hbV.size (NZ _ _)

set_option maxRecDepth 100000 in
set_option maxHeartbeats 4000000 in
theorem rleaf_key3 (k : Nat) (lo hi : Int) (t : ByteArray) (w : World) (hk : k ≤ 3) (h1 : 0 ≤ lo) (h2 : lo ≤ hi) (h3 : hi ≤ 99) :
    Calls Try.prog 28 #[.agg #[.int .i64 3, .int .i64 (k : Int), .int .i64 lo, .int .i64 hi, .string t, .slice none 0 0], .bool false] w (RPost w (some [Ev.ofKey k 1 lo hi])) := by
  unfold RPost
  have hki : (k : Int) < 4 := by omega
  go_enter Try.func28, Try.ntmps28
  go_upto_region 10 with fail
  obtain ⟨W, hW⟩ : ∃ W, W = (w.alloc (.cells #[.int .i64 3, .int .i64 (k : Int), .int .i64 lo, .int .i64 hi, .string t, .slice none 0 0] 26)).alloc (.cells #[.int .i64 0, .int .i64 0, .int .i64 0, .int .i64 0, .int .i64 0, .int .i64 0, .int .i64 0, .int .i64 0, .int .i64 0, .int .i64 0, .int .i64 0, .int .i64 0, .string ⟨#[]⟩, .slice none 0 0] 40) := ⟨_, rfl⟩
  rw [← hW]
  have fc : ∀ i, W.cell? ⟨w.heap.size, i, none⟩ = (#[.int .i64 3, .int .i64 (k : Int), .int .i64 lo, .int .i64 hi, .string t, .slice none 0 0] : Array Value)[i]? := fun i => by rw [hW, World.cell?_alloc_past _ _ _ (hn := by simp)]; simp
  have K : KeyAt W (w.heap.size + 1) k 0 0 0 := ⟨by rw [key_none k hk, hW]; exact heap_at _ _ (by simp)⟩
  have hsW : w.heap.size + 1 < W.heap.size := by rw [hW]; simp
  have hbW : Below w.heap.size w W := by rw [hW]; exact ((Below.refl _ _).alloc (Nat.le_refl _) _).alloc (by simp) _
  clear hW
  obtain ⟨c0, c1, c2, fz⟩ := K.facts hk
  have HK : Hid (KeyAt W (w.heap.size + 1) k 0 0 0) := K
  clear K
  go_upto_region 11 with fail
  obtain ⟨V, hV⟩ : ∃ V, V = ((W.setCell ⟨w.heap.size + 1, k * 3, none⟩ (.int .i64 1)).setCell ⟨w.heap.size + 1, k * 3 + 1, none⟩ (.int .i64 lo)).setCell ⟨w.heap.size + 1, k * 3 + 2, none⟩ (.int .i64 hi) := ⟨_, rfl⟩
  rw [← hV]
  have KV : KeyAt V (w.heap.size + 1) k 1 lo hi := by rw [hV]; exact HK.out.set hk _ _ _
  have fcV : ∀ i, V.cell? ⟨w.heap.size, i, none⟩ = (#[.int .i64 3, .int .i64 (k : Int), .int .i64 lo, .int .i64 hi, .string t, .slice none 0 0] : Array Value)[i]? := fun i => by rw [hV, set_cell_far' (by omega), set_cell_far' (by omega), set_cell_far' (by omega)]; exact fc i
  have hsV : w.heap.size + 1 < V.heap.size := by rw [hV]; simpa [World.setCell] using hsW
  have hbV : Below w.heap.size w V := by rw [hV]; exact ((hbW.setCell (by simp) _).setCell (by simp) _).setCell (by simp) _
  obtain ⟨z, hz, CZ, NZ⟩ := KV.cells
  have HZ : Hid (z = Ev.ofKey k 1 lo hi) := hz
  clear hz KV HK hV c0 c1 c2 fz fc hbW
  go_wp2
  go_ret2
  refine ⟨_, rfl, ?_, hbV.alloc hbV.size _⟩
  show RowB _ _ _ [Ev.ofKey k 1 lo hi]
  rw [← HZ.out]
  exact RowB.one_at (z, none, 0) rfl hbV.size (NZ _ _)

end Go.Proofs.Ytflpdekifkcfkab
