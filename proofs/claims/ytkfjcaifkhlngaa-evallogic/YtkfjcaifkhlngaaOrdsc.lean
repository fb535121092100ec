/- The region of EvalLogic that makes three filters, as a step of the walk. -/
import Derived.Test.YtkfjcaifkhlngaaOrdsb
import Derived.Deep.RegionHeld3
namespace Go.Proofs.Ytkfjcaifkhlngaa
open Go.RowKit
set_option linter.unusedVariables false

set_option maxRecDepth 100000 in
set_option maxHeartbeats 8000000 in
theorem region7 (s0 s1 s2 s3 s4 s5 s6 s9 s10 s11 s15 s16 s17 s18 s19 s20 s21 s22 s23 s24 s25 s26 s27 s28 s29 s30 s31 s32 s33 s34 s35 s36 s37 s38 s39 s40 s41 s42 s43 s44 s56 s57 s58 s59 s60 s61 s62 s63 s64 s65 s66 s67 s68 s69 s70 s71 s72 s73 s74 s75 s76 s77 s78 s79 s80 s81 s82 s83 s84 s85 s86 : Value) (n7 n8 : Nat) (o1 k1 l1 h1 : Int) (t1 : ByteArray) (x1 : Option Addr) (n1 : Nat) (o2 k2 l2 h2 : Int) (t2 : ByteArray) (x2 : Option Addr) (n2 : Nat) (w : World) (hA : Six w n7 0 o1 k1 l1 h1 t1 x1 n1) (hB : Six w n8 0 o2 k2 l2 h2 t2 x2 n2) (Q : Exit → Act → World → Prop)
    (hQ : ∀ (bb : Nat → Nat) (w' : World), WS o1 k1 l1 h1 t1 x1 n1 o2 k2 l2 h2 t2 x2 n2 w.drew (dl true true true true true true) (tl true true true) bb w' → Q .normal (fr7 s0 s1 s2 s3 s4 s5 s6 (.pointer (some ⟨n7, 0, none⟩)) (.pointer (some ⟨n8, 0, none⟩)) s9 s10 s11 s15 s16 s17 s18 s19 s20 s21 s22 s23 s24 s25 s26 s27 s28 s29 s30 s31 s32 s33 s34 s35 s36 s37 s38 s39 s40 s41 s42 s43 s44 s56 s57 s58 s59 s60 s61 s62 s63 s64 s65 s66 s67 s68 s69 s70 s71 s72 s73 s74 s75 s76 s77 s78 s79 s80 s81 s82 s83 s84 s85 s86 (.agg #[.int .i64 o1, .int .i64 k1, .int .i64 l1, .int .i64 h1, .string t1, .slice x1 n1 n1]) (.agg #[.int .i64 o2, .int .i64 k2, .int .i64 l2, .int .i64 h2, .string t2, .slice x2 n2 n2]) (.slice (some ⟨bb 0, 0, none⟩) 2 2) (.agg #[.int .i64 5, .int .i64 0, .int .i64 0, .int .i64 0, .string ⟨#[]⟩, .slice (some ⟨bb 0, 0, none⟩) 2 2]) (.agg #[.int .i64 o1, .int .i64 k1, .int .i64 l1, .int .i64 h1, .string t1, .slice x1 n1 n1]) (.agg #[.int .i64 o2, .int .i64 k2, .int .i64 l2, .int .i64 h2, .string t2, .slice x2 n2 n2]) (.slice (some ⟨bb 1, 0, none⟩) 2 2) (.agg #[.int .i64 6, .int .i64 0, .int .i64 0, .int .i64 0, .string ⟨#[]⟩, .slice (some ⟨bb 1, 0, none⟩) 2 2]) (.agg #[.int .i64 o1, .int .i64 k1, .int .i64 l1, .int .i64 h1, .string t1, .slice x1 n1 n1]) (.slice (some ⟨bb 2, 0, none⟩) 1 1) (.agg #[.int .i64 7, .int .i64 0, .int .i64 0, .int .i64 0, .string ⟨#[]⟩, .slice (some ⟨bb 2, 0, none⟩) 1 1]) (.pointer (some ⟨bb 3, 0, none⟩)) (.pointer (some ⟨bb 4, 0, none⟩)) (.pointer (some ⟨bb 5, 0, none⟩))) w') :
    (Code.region 7 ops7 true).wp Try.prog Q (fr7 s0 s1 s2 s3 s4 s5 s6 (.pointer (some ⟨n7, 0, none⟩)) (.pointer (some ⟨n8, 0, none⟩)) s9 s10 s11 s15 s16 s17 s18 s19 s20 s21 s22 s23 s24 s25 s26 s27 s28 s29 s30 s31 s32 s33 s34 s35 s36 s37 s38 s39 s40 s41 s42 s43 s44 s56 s57 s58 s59 s60 s61 s62 s63 s64 s65 s66 s67 s68 s69 s70 s71 s72 s73 s74 s75 s76 s77 s78 s79 s80 s81 s82 s83 s84 s85 s86 undef undef undef undef undef undef undef undef undef undef undef undef undef undef) w := by
  refine Code.wp_mono (Q := QF (fun a w => Q .normal a w)) (fun e a w h => by cases e <;> first | exact h | exact (h : False).elim) ?_
  have hlA := hA.lt
  have hlB := hB.lt
  have hA' : Six w.drew n7 0 o1 k1 l1 h1 t1 x1 n1 := hA
  have hB' : Six w.drew n8 0 o2 k2 l2 h2 t2 x2 n2 := hB
  have hS0 : ∀ w'', Below w.drew.heap.size w.drew w'' → ((fun w' => (w'.cell? ⟨n7, 0, none⟩ = some (.int .i64 o1) ∧ w'.cell? ⟨n7, 1, none⟩ = some (.int .i64 k1) ∧ w'.cell? ⟨n7, 2, none⟩ = some (.int .i64 l1) ∧ w'.cell? ⟨n7, 3, none⟩ = some (.int .i64 h1) ∧ w'.cell? ⟨n7, 4, none⟩ = some (.string t1) ∧ w'.cell? ⟨n7, 5, none⟩ = some (.slice x1 n1 n1)) ∧ (w'.cell? ⟨n8, 0, none⟩ = some (.int .i64 o2) ∧ w'.cell? ⟨n8, 1, none⟩ = some (.int .i64 k2) ∧ w'.cell? ⟨n8, 2, none⟩ = some (.int .i64 l2) ∧ w'.cell? ⟨n8, 3, none⟩ = some (.int .i64 h2) ∧ w'.cell? ⟨n8, 4, none⟩ = some (.string t2) ∧ w'.cell? ⟨n8, 5, none⟩ = some (.slice x2 n2 n2))) w'') := fun w'' hb => by
    obtain ⟨a0, a1, a2, a3, a4, a5⟩ := hA'.of (fun i => hb.cell (p := ⟨n7, i, none⟩) hlA)
    obtain ⟨c0, c1, c2, c3, c4, c5⟩ := hB'.of (fun i => hb.cell (p := ⟨n8, i, none⟩) hlB)
    simp only [Nat.zero_add] at a0 a1 a2 a3 a4 a5 c0 c1 c2 c3 c4 c5
    exact ⟨⟨a0, a1, a2, a3, a4, a5⟩, ⟨c0, c1, c2, c3, c4, c5⟩⟩
  refine wp_region_held_drew (S := fun w' => (w'.cell? ⟨n7, 0, none⟩ = some (.int .i64 o1) ∧ w'.cell? ⟨n7, 1, none⟩ = some (.int .i64 k1) ∧ w'.cell? ⟨n7, 2, none⟩ = some (.int .i64 l1) ∧ w'.cell? ⟨n7, 3, none⟩ = some (.int .i64 h1) ∧ w'.cell? ⟨n7, 4, none⟩ = some (.string t1) ∧ w'.cell? ⟨n7, 5, none⟩ = some (.slice x1 n1 n1)) ∧ (w'.cell? ⟨n8, 0, none⟩ = some (.int .i64 o2) ∧ w'.cell? ⟨n8, 1, none⟩ = some (.int .i64 k2) ∧ w'.cell? ⟨n8, 2, none⟩ = some (.int .i64 l2) ∧ w'.cell? ⟨n8, 3, none⟩ = some (.int .i64 h2) ∧ w'.cell? ⟨n8, 4, none⟩ = some (.string t2) ∧ w'.cell? ⟨n8, 5, none⟩ = some (.slice x2 n2 n2))) (by kernel_rfl) (hS0 _ (Below.refl _ _)) (fun hS => ?_)
  show wpAnyH Try.prog .any ops7 _ _ 17 #[false, false, false, false, false, false, false, false, false, false, false, false, false, false, false, false, false] _ _
  refine wpAnyH_take (i := 0) (oi := { dst := some 45, op := Op.load 26 (Operand.tmp 7), type := 26, pos := "law.go:46", after := #[], guard := none }) (v := .agg #[.int .i64 o1, .int .i64 k1, .int .i64 l1, .int .i64 h1, .string t1, .slice x1 n1 n1]) rfl (by kernel_rfl) (by kernel_rfl) (by kernel_rfl) (fun _ _ _ h => h) (Or.inl ⟨by rfl, ?_⟩) hS ?_
  · intro w hSw
    obtain ⟨⟨a0, a1, a2, a3, a4, a5⟩, ⟨c0, c1, c2, c3, c4, c5⟩⟩ := hSw
    unfold fr7
    go_simp
  refine wpAnyH_take (i := 1) (oi := { dst := some 46, op := Op.load 26 (Operand.tmp 8), type := 26, pos := "law.go:46", after := #[], guard := none }) (v := .agg #[.int .i64 o2, .int .i64 k2, .int .i64 l2, .int .i64 h2, .string t2, .slice x2 n2 n2]) rfl (by kernel_rfl) (by kernel_rfl) (by kernel_rfl) (fun _ _ _ h => h) (Or.inl ⟨by rfl, ?_⟩) hS ?_
  · intro w hSw
    obtain ⟨⟨a0, a1, a2, a3, a4, a5⟩, ⟨c0, c1, c2, c3, c4, c5⟩⟩ := hSw
    unfold fr7
    go_simp
  refine wpAnyH_take (i := 4) (oi := { dst := some 49, op := Op.load 26 (Operand.tmp 7), type := 26, pos := "law.go:46", after := #[{ on := 14, ground := Ground.gcOnly Departure.lateStores }], guard := none }) (v := .agg #[.int .i64 o1, .int .i64 k1, .int .i64 l1, .int .i64 h1, .string t1, .slice x1 n1 n1]) rfl (by kernel_rfl) (by kernel_rfl) (by kernel_rfl) (fun _ _ _ h => h) (Or.inl ⟨by rfl, ?_⟩) hS ?_
  · intro w hSw
    obtain ⟨⟨a0, a1, a2, a3, a4, a5⟩, ⟨c0, c1, c2, c3, c4, c5⟩⟩ := hSw
    unfold fr7
    go_simp
  refine wpAnyH_take (i := 5) (oi := { dst := some 50, op := Op.load 26 (Operand.tmp 8), type := 26, pos := "law.go:46", after := #[{ on := 14, ground := Ground.gcOnly Departure.lateStores }], guard := none }) (v := .agg #[.int .i64 o2, .int .i64 k2, .int .i64 l2, .int .i64 h2, .string t2, .slice x2 n2 n2]) rfl (by kernel_rfl) (by kernel_rfl) (by kernel_rfl) (fun _ _ _ h => h) (Or.inl ⟨by rfl, ?_⟩) hS ?_
  · intro w hSw
    obtain ⟨⟨a0, a1, a2, a3, a4, a5⟩, ⟨c0, c1, c2, c3, c4, c5⟩⟩ := hSw
    unfold fr7
    go_simp
  refine wpAnyH_take (i := 8) (oi := { dst := some 53, op := Op.load 26 (Operand.tmp 7), type := 26, pos := "law.go:46", after := #[{ on := 15, ground := Ground.gcOnly Departure.lateStores }], guard := none }) (v := .agg #[.int .i64 o1, .int .i64 k1, .int .i64 l1, .int .i64 h1, .string t1, .slice x1 n1 n1]) rfl (by kernel_rfl) (by kernel_rfl) (by kernel_rfl) (fun _ _ _ h => h) (Or.inl ⟨by rfl, ?_⟩) hS ?_
  · intro w hSw
    obtain ⟨⟨a0, a1, a2, a3, a4, a5⟩, ⟨c0, c1, c2, c3, c4, c5⟩⟩ := hSw
    unfold fr7
    go_simp
  exact go7 _ _ _ _ _ _ _ _ _ _ _ _ _ _ _ _ _ _ _ _ _ _ _ _ _ _ _ _ _ _ _ _ _ _ _ _ _ _ _ _ _ _ _ _ _ _ _ _ _ _ _ _ _ _ _ _ _ _ _ _ _ _ _ _ _ _ _ _ _ _ _ _ _ o1 k1 l1 h1 t1 x1 n1 o2 k2 l2 h2 t2 x2 n2 _ _ w.drew hS0 hQ 12 false false false false false false false false false false false false _ _ _ _ _ _ _ _ _ (fun _ => 0) w.drew (by simp) (fun h => (by cases h)) (fun h => (by cases h)) (fun h => (by cases h)) (fun h => (by cases h)) (fun h => (by cases h)) (fun h => (by cases h)) (fun h => (by cases h)) (fun h => (by cases h)) (fun h => (by cases h)) (fun h => (by cases h)) (fun h => (by cases h)) (fun h => (by cases h))
    ⟨Below.refl _ _, fun i h => absurd h (by rcases i with _ | _ | _ | _ | _ | _ | i <;> simp [dl]), fun i j h => absurd h (by rcases i with _ | _ | _ | _ | _ | _ | i <;> simp [dl]), fun i h => absurd h (by rcases i with _ | _ | _ | _ | _ | _ | i <;> simp [dl]), fun i h => absurd h (by rcases i with _ | _ | _ | i <;> simp [tl])⟩

end Go.Proofs.Ytkfjcaifkhlngaa
