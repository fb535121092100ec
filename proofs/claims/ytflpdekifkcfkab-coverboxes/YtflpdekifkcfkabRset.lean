/- cardamomref4.of: each of the first with each of the second. -/
import Derived.Test.YtflpdekifkcfkabRof
import Derived.Deep.DeepCutAuto
import Derived.Deep.LoopGhost
namespace Go.Proofs.Ytflpdekifkcfkab
open Go.RowKit
set_option linter.unusedVariables false

theorem set14 {w : World} {b : Nat} {t : TypeId} {f : Nat × Nat} {a0 a1 a2 a3 a4 a5 a6 a7 a8 a9 a10 a11 a12 a13 : Value} (h : w.heap[b]? = some (.cells #[a0, a1, a2, a3, a4, a5, a6, a7, a8, a9, a10, a11, a12, a13] t f)) (v0 v1 v2 v3 v4 v5 v6 v7 v8 v9 v10 v11 v12 v13 : Value) :
    ((((((((((((((w.setCell ⟨b, 0, none⟩ v0).setCell ⟨b, 1, none⟩ v1).setCell ⟨b, 2, none⟩ v2).setCell ⟨b, 3, none⟩ v3).setCell ⟨b, 4, none⟩ v4).setCell ⟨b, 5, none⟩ v5).setCell ⟨b, 6, none⟩ v6).setCell ⟨b, 7, none⟩ v7).setCell ⟨b, 8, none⟩ v8).setCell ⟨b, 9, none⟩ v9).setCell ⟨b, 10, none⟩ v10).setCell ⟨b, 11, none⟩ v11).setCell ⟨b, 12, none⟩ v12).setCell ⟨b, 13, none⟩ v13).heap[b]? = some (.cells #[v0, v1, v2, v3, v4, v5, v6, v7, v8, v9, v10, v11, v12, v13] t f) := by
  have h0 := set_block (o := 0) h v0
  rw [show (#[a0, a1, a2, a3, a4, a5, a6, a7, a8, a9, a10, a11, a12, a13] : Array Value).setIfInBounds 0 v0 = #[v0, a1, a2, a3, a4, a5, a6, a7, a8, a9, a10, a11, a12, a13] from rfl] at h0
  have h1 := set_block (o := 1) h0 v1
  rw [show (#[v0, a1, a2, a3, a4, a5, a6, a7, a8, a9, a10, a11, a12, a13] : Array Value).setIfInBounds 1 v1 = #[v0, v1, a2, a3, a4, a5, a6, a7, a8, a9, a10, a11, a12, a13] from rfl] at h1
  have h2 := set_block (o := 2) h1 v2
  rw [show (#[v0, v1, a2, a3, a4, a5, a6, a7, a8, a9, a10, a11, a12, a13] : Array Value).setIfInBounds 2 v2 = #[v0, v1, v2, a3, a4, a5, a6, a7, a8, a9, a10, a11, a12, a13] from rfl] at h2
  have h3 := set_block (o := 3) h2 v3
  rw [show (#[v0, v1, v2, a3, a4, a5, a6, a7, a8, a9, a10, a11, a12, a13] : Array Value).setIfInBounds 3 v3 = #[v0, v1, v2, v3, a4, a5, a6, a7, a8, a9, a10, a11, a12, a13] from rfl] at h3
  have h4 := set_block (o := 4) h3 v4
  rw [show (#[v0, v1, v2, v3, a4, a5, a6, a7, a8, a9, a10, a11, a12, a13] : Array Value).setIfInBounds 4 v4 = #[v0, v1, v2, v3, v4, a5, a6, a7, a8, a9, a10, a11, a12, a13] from rfl] at h4
  have h5 := set_block (o := 5) h4 v5
  rw [show (#[v0, v1, v2, v3, v4, a5, a6, a7, a8, a9, a10, a11, a12, a13] : Array Value).setIfInBounds 5 v5 = #[v0, v1, v2, v3, v4, v5, a6, a7, a8, a9, a10, a11, a12, a13] from rfl] at h5
  have h6 := set_block (o := 6) h5 v6
  rw [show (#[v0, v1, v2, v3, v4, v5, a6, a7, a8, a9, a10, a11, a12, a13] : Array Value).setIfInBounds 6 v6 = #[v0, v1, v2, v3, v4, v5, v6, a7, a8, a9, a10, a11, a12, a13] from rfl] at h6
  have h7 := set_block (o := 7) h6 v7
  rw [show (#[v0, v1, v2, v3, v4, v5, v6, a7, a8, a9, a10, a11, a12, a13] : Array Value).setIfInBounds 7 v7 = #[v0, v1, v2, v3, v4, v5, v6, v7, a8, a9, a10, a11, a12, a13] from rfl] at h7
  have h8 := set_block (o := 8) h7 v8
  rw [show (#[v0, v1, v2, v3, v4, v5, v6, v7, a8, a9, a10, a11, a12, a13] : Array Value).setIfInBounds 8 v8 = #[v0, v1, v2, v3, v4, v5, v6, v7, v8, a9, a10, a11, a12, a13] from rfl] at h8
  have h9 := set_block (o := 9) h8 v9
  rw [show (#[v0, v1, v2, v3, v4, v5, v6, v7, v8, a9, a10, a11, a12, a13] : Array Value).setIfInBounds 9 v9 = #[v0, v1, v2, v3, v4, v5, v6, v7, v8, v9, a10, a11, a12, a13] from rfl] at h9
  have h10 := set_block (o := 10) h9 v10
  rw [show (#[v0, v1, v2, v3, v4, v5, v6, v7, v8, v9, a10, a11, a12, a13] : Array Value).setIfInBounds 10 v10 = #[v0, v1, v2, v3, v4, v5, v6, v7, v8, v9, v10, a11, a12, a13] from rfl] at h10
  have h11 := set_block (o := 11) h10 v11
  rw [show (#[v0, v1, v2, v3, v4, v5, v6, v7, v8, v9, v10, a11, a12, a13] : Array Value).setIfInBounds 11 v11 = #[v0, v1, v2, v3, v4, v5, v6, v7, v8, v9, v10, v11, a12, a13] from rfl] at h11
  have h12 := set_block (o := 12) h11 v12
  rw [show (#[v0, v1, v2, v3, v4, v5, v6, v7, v8, v9, v10, v11, a12, a13] : Array Value).setIfInBounds 12 v12 = #[v0, v1, v2, v3, v4, v5, v6, v7, v8, v9, v10, v11, v12, a13] from rfl] at h12
  have h13 := set_block (o := 13) h12 v13
  rw [show (#[v0, v1, v2, v3, v4, v5, v6, v7, v8, v9, v10, v11, v12, a13] : Array Value).setIfInBounds 13 v13 = #[v0, v1, v2, v3, v4, v5, v6, v7, v8, v9, v10, v11, v12, v13] from rfl] at h13
  exact h13

theorem far14 {w : World} {b c : Nat} (h : b ≠ c) (v0 v1 v2 v3 v4 v5 v6 v7 v8 v9 v10 v11 v12 v13 : Value) : ((((((((((((((w.setCell ⟨b, 0, none⟩ v0).setCell ⟨b, 1, none⟩ v1).setCell ⟨b, 2, none⟩ v2).setCell ⟨b, 3, none⟩ v3).setCell ⟨b, 4, none⟩ v4).setCell ⟨b, 5, none⟩ v5).setCell ⟨b, 6, none⟩ v6).setCell ⟨b, 7, none⟩ v7).setCell ⟨b, 8, none⟩ v8).setCell ⟨b, 9, none⟩ v9).setCell ⟨b, 10, none⟩ v10).setCell ⟨b, 11, none⟩ v11).setCell ⟨b, 12, none⟩ v12).setCell ⟨b, 13, none⟩ v13).heap[c]? = w.heap[c]? := by simp only [set_far h]

theorem below14 {B b : Nat} {w0 w : World} (h : Below B w0 w) (hb : B ≤ b) (v0 v1 v2 v3 v4 v5 v6 v7 v8 v9 v10 v11 v12 v13 : Value) : Below B w0 ((((((((((((((w.setCell ⟨b, 0, none⟩ v0).setCell ⟨b, 1, none⟩ v1).setCell ⟨b, 2, none⟩ v2).setCell ⟨b, 3, none⟩ v3).setCell ⟨b, 4, none⟩ v4).setCell ⟨b, 5, none⟩ v5).setCell ⟨b, 6, none⟩ v6).setCell ⟨b, 7, none⟩ v7).setCell ⟨b, 8, none⟩ v8).setCell ⟨b, 9, none⟩ v9).setCell ⟨b, 10, none⟩ v10).setCell ⟨b, 11, none⟩ v11).setCell ⟨b, 12, none⟩ v12).setCell ⟨b, 13, none⟩ v13) := by
  repeat (refine Below.setCell ?_ hb _)
  exact h

end Go.Proofs.Ytflpdekifkcfkab
