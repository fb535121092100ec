/- The region of EvalLogic that makes three filters: whatever order, by induction on what is left. -/
import Derived.Test.YtkfjcaifkhlngaaOrdsa
namespace Go.Proofs.Ytkfjcaifkhlngaa
open Go.RowKit
set_option linter.unusedVariables false

def fr7 (s0 s1 s2 s3 s4 s5 s6 s7 s8 s9 s10 s11 s15 s16 s17 s18 s19 s20 s21 s22 s23 s24 s25 s26 s27 s28 s29 s30 s31 s32 s33 s34 s35 s36 s37 s38 s39 s40 s41 s42 s43 s44 s56 s57 s58 s59 s60 s61 s62 s63 s64 s65 s66 s67 s68 s69 s70 s71 s72 s73 s74 s75 s76 s77 s78 s79 s80 s81 s82 s83 s84 s85 s86 e45 e46 e47 e48 e49 e50 e51 e52 e53 e54 e55 e12 e13 e14 : Value) : Act := { tmps := #[s0, s1, s2, s3, s4, s5, s6, s7, s8, s9, s10, s11, e12, e13, e14, s15, s16, s17, s18, s19, s20, s21, s22, s23, s24, s25, s26, s27, s28, s29, s30, s31, s32, s33, s34, s35, s36, s37, s38, s39, s40, s41, s42, s43, s44, e45, e46, e47, e48, e49, e50, e51, e52, e53, e54, e55, s56, s57, s58, s59, s60, s61, s62, s63, s64, s65, s66, s67, s68, s69, s70, s71, s72, s73, s74, s75, s76, s77, s78, s79, s80, s81, s82, s83, s84, s85, s86], defers := [] }

def QF (F : Act → World → Prop) : Exit → Act → World → Prop
  | .normal, a, w => F a w
  | _, _, _ => False

def dl (x0 x1 x2 x3 x4 x5 : Bool) : Nat → Bool
  | 0 => x0
  | 1 => x1
  | 2 => x2
  | 3 => x3
  | 4 => x4
  | 5 => x5
  | _ => false
def tl (x0 x1 x2 : Bool) : Nat → Bool
  | 0 => x0
  | 1 => x1
  | 2 => x2
  | _ => false
theorem upd_d0 (x0 x1 x2 x3 x4 x5 : Bool) : upd (dl x0 x1 x2 x3 x4 x5) 0 true = dl true x1 x2 x3 x4 x5 := by
  funext i
  rcases i with _ | _ | _ | _ | _ | _ | i <;> simp [upd, dl]
theorem upd_d1 (x0 x1 x2 x3 x4 x5 : Bool) : upd (dl x0 x1 x2 x3 x4 x5) 1 true = dl x0 true x2 x3 x4 x5 := by
  funext i
  rcases i with _ | _ | _ | _ | _ | _ | i <;> simp [upd, dl]
theorem upd_d2 (x0 x1 x2 x3 x4 x5 : Bool) : upd (dl x0 x1 x2 x3 x4 x5) 2 true = dl x0 x1 true x3 x4 x5 := by
  funext i
  rcases i with _ | _ | _ | _ | _ | _ | i <;> simp [upd, dl]
theorem upd_d3 (x0 x1 x2 x3 x4 x5 : Bool) : upd (dl x0 x1 x2 x3 x4 x5) 3 true = dl x0 x1 x2 true x4 x5 := by
  funext i
  rcases i with _ | _ | _ | _ | _ | _ | i <;> simp [upd, dl]
theorem upd_d4 (x0 x1 x2 x3 x4 x5 : Bool) : upd (dl x0 x1 x2 x3 x4 x5) 4 true = dl x0 x1 x2 x3 true x5 := by
  funext i
  rcases i with _ | _ | _ | _ | _ | _ | i <;> simp [upd, dl]
theorem upd_d5 (x0 x1 x2 x3 x4 x5 : Bool) : upd (dl x0 x1 x2 x3 x4 x5) 5 true = dl x0 x1 x2 x3 x4 true := by
  funext i
  rcases i with _ | _ | _ | _ | _ | _ | i <;> simp [upd, dl]
theorem upd_t0 (x0 x1 x2 : Bool) : upd (tl x0 x1 x2) 0 true = tl true x1 x2 := by
  funext i
  rcases i with _ | _ | _ | i <;> simp [upd, tl]
theorem upd_t1 (x0 x1 x2 : Bool) : upd (tl x0 x1 x2) 1 true = tl x0 true x2 := by
  funext i
  rcases i with _ | _ | _ | i <;> simp [upd, tl]
theorem upd_t2 (x0 x1 x2 : Bool) : upd (tl x0 x1 x2) 2 true = tl x0 x1 true := by
  funext i
  rcases i with _ | _ | _ | i <;> simp [upd, tl]

set_option maxRecDepth 100000 in
set_option maxHeartbeats 8000000 in
theorem go7 (s0 s1 s2 s3 s4 s5 s6 s7 s8 s9 s10 s11 s15 s16 s17 s18 s19 s20 s21 s22 s23 s24 s25 s26 s27 s28 s29 s30 s31 s32 s33 s34 s35 s36 s37 s38 s39 s40 s41 s42 s43 s44 s56 s57 s58 s59 s60 s61 s62 s63 s64 s65 s66 s67 s68 s69 s70 s71 s72 s73 s74 s75 s76 s77 s78 s79 s80 s81 s82 s83 s84 s85 s86 : Value) (o1 k1 l1 h1 : Int) (t1 : ByteArray) (x1 : Option Addr) (n1 : Nat) (o2 k2 l2 h2 : Int) (t2 : ByteArray) (x2 : Option Addr) (n2 : Nat) (F : Act → World → Prop) (S : World → Prop) (w0 : World) (hS : ∀ w, Below w0.heap.size w0 w → S w)
    (hF : ∀ (bb : Nat → Nat) (w : World), WS o1 k1 l1 h1 t1 x1 n1 o2 k2 l2 h2 t2 x2 n2 w0 (dl true true true true true true) (tl true true true) bb w → F (fr7 s0 s1 s2 s3 s4 s5 s6 s7 s8 s9 s10 s11 s15 s16 s17 s18 s19 s20 s21 s22 s23 s24 s25 s26 s27 s28 s29 s30 s31 s32 s33 s34 s35 s36 s37 s38 s39 s40 s41 s42 s43 s44 s56 s57 s58 s59 s60 s61 s62 s63 s64 s65 s66 s67 s68 s69 s70 s71 s72 s73 s74 s75 s76 s77 s78 s79 s80 s81 s82 s83 s84 s85 s86 (.agg #[.int .i64 o1, .int .i64 k1, .int .i64 l1, .int .i64 h1, .string t1, .slice x1 n1 n1]) (.agg #[.int .i64 o2, .int .i64 k2, .int .i64 l2, .int .i64 h2, .string t2, .slice x2 n2 n2]) (.slice (some ⟨bb 0, 0, none⟩) 2 2) (.agg #[.int .i64 5, .int .i64 0, .int .i64 0, .int .i64 0, .string ⟨#[]⟩, .slice (some ⟨bb 0, 0, none⟩) 2 2]) (.agg #[.int .i64 o1, .int .i64 k1, .int .i64 l1, .int .i64 h1, .string t1, .slice x1 n1 n1]) (.agg #[.int .i64 o2, .int .i64 k2, .int .i64 l2, .int .i64 h2, .string t2, .slice x2 n2 n2]) (.slice (some ⟨bb 1, 0, none⟩) 2 2) (.agg #[.int .i64 6, .int .i64 0, .int .i64 0, .int .i64 0, .string ⟨#[]⟩, .slice (some ⟨bb 1, 0, none⟩) 2 2]) (.agg #[.int .i64 o1, .int .i64 k1, .int .i64 l1, .int .i64 h1, .string t1, .slice x1 n1 n1]) (.slice (some ⟨bb 2, 0, none⟩) 1 1) (.agg #[.int .i64 7, .int .i64 0, .int .i64 0, .int .i64 0, .string ⟨#[]⟩, .slice (some ⟨bb 2, 0, none⟩) 1 1]) (.pointer (some ⟨bb 3, 0, none⟩)) (.pointer (some ⟨bb 4, 0, none⟩)) (.pointer (some ⟨bb 5, 0, none⟩))) w) (fuel : Nat) :
    ∀ (b2 b3 b6 b7 b9 b10 b11 b12 b13 b14 b15 b16 : Bool) (e47 e48 e51 e52 e54 e55 e12 e13 e14 : Value) (bb : Nat → Nat) (w : World), (!b2).toNat + (!b3).toNat + (!b6).toNat + (!b7).toNat + (!b9).toNat + (!b10).toNat + (!b11).toNat + (!b12).toNat + (!b13).toNat + (!b14).toNat + (!b15).toNat + (!b16).toNat ≤ fuel → (b2 = true → e47 = (.slice (some ⟨bb 0, 0, none⟩) 2 2)) → (b6 = true → e51 = (.slice (some ⟨bb 1, 0, none⟩) 2 2)) → (b9 = true → e54 = (.slice (some ⟨bb 2, 0, none⟩) 1 1)) → (b3 = true → b2 = true ∧ e48 = (.agg #[.int .i64 5, .int .i64 0, .int .i64 0, .int .i64 0, .string ⟨#[]⟩, .slice (some ⟨bb 0, 0, none⟩) 2 2])) → (b7 = true → b6 = true ∧ e52 = (.agg #[.int .i64 6, .int .i64 0, .int .i64 0, .int .i64 0, .string ⟨#[]⟩, .slice (some ⟨bb 1, 0, none⟩) 2 2])) → (b10 = true → b9 = true ∧ e55 = (.agg #[.int .i64 7, .int .i64 0, .int .i64 0, .int .i64 0, .string ⟨#[]⟩, .slice (some ⟨bb 2, 0, none⟩) 1 1])) → (b11 = true → e12 = (.pointer (some ⟨bb 3, 0, none⟩))) → (b12 = true → e13 = (.pointer (some ⟨bb 4, 0, none⟩))) → (b13 = true → e14 = (.pointer (some ⟨bb 5, 0, none⟩))) → (b14 = true → b11 = true) → (b15 = true → b12 = true) → (b16 = true → b13 = true) → WS o1 k1 l1 h1 t1 x1 n1 o2 k2 l2 h2 t2 x2 n2 w0 (dl b2 b6 b9 b11 b12 b13) (tl b14 b15 b16) bb w →
      wpAnyH Try.prog .any ops7 (QF F) S fuel #[true, true, b2, b3, true, true, b6, b7, true, b9, b10, b11, b12, b13, b14, b15, b16] (fr7 s0 s1 s2 s3 s4 s5 s6 s7 s8 s9 s10 s11 s15 s16 s17 s18 s19 s20 s21 s22 s23 s24 s25 s26 s27 s28 s29 s30 s31 s32 s33 s34 s35 s36 s37 s38 s39 s40 s41 s42 s43 s44 s56 s57 s58 s59 s60 s61 s62 s63 s64 s65 s66 s67 s68 s69 s70 s71 s72 s73 s74 s75 s76 s77 s78 s79 s80 s81 s82 s83 s84 s85 s86 (.agg #[.int .i64 o1, .int .i64 k1, .int .i64 l1, .int .i64 h1, .string t1, .slice x1 n1 n1]) (.agg #[.int .i64 o2, .int .i64 k2, .int .i64 l2, .int .i64 h2, .string t2, .slice x2 n2 n2]) e47 e48 (.agg #[.int .i64 o1, .int .i64 k1, .int .i64 l1, .int .i64 h1, .string t1, .slice x1 n1 n1]) (.agg #[.int .i64 o2, .int .i64 k2, .int .i64 l2, .int .i64 h2, .string t2, .slice x2 n2 n2]) e51 e52 (.agg #[.int .i64 o1, .int .i64 k1, .int .i64 l1, .int .i64 h1, .string t1, .slice x1 n1 n1]) e54 e55 e12 e13 e14) w := by
  have fin : ∀ (b2 b3 b6 b7 b9 b10 b11 b12 b13 b14 b15 b16 : Bool) (e47 e48 e51 e52 e54 e55 e12 e13 e14 : Value) (bb : Nat → Nat) (w : World), (b2 = true → e47 = (.slice (some ⟨bb 0, 0, none⟩) 2 2)) → (b6 = true → e51 = (.slice (some ⟨bb 1, 0, none⟩) 2 2)) → (b9 = true → e54 = (.slice (some ⟨bb 2, 0, none⟩) 1 1)) → (b3 = true → b2 = true ∧ e48 = (.agg #[.int .i64 5, .int .i64 0, .int .i64 0, .int .i64 0, .string ⟨#[]⟩, .slice (some ⟨bb 0, 0, none⟩) 2 2])) → (b7 = true → b6 = true ∧ e52 = (.agg #[.int .i64 6, .int .i64 0, .int .i64 0, .int .i64 0, .string ⟨#[]⟩, .slice (some ⟨bb 1, 0, none⟩) 2 2])) → (b10 = true → b9 = true ∧ e55 = (.agg #[.int .i64 7, .int .i64 0, .int .i64 0, .int .i64 0, .string ⟨#[]⟩, .slice (some ⟨bb 2, 0, none⟩) 1 1])) → (b11 = true → e12 = (.pointer (some ⟨bb 3, 0, none⟩))) → (b12 = true → e13 = (.pointer (some ⟨bb 4, 0, none⟩))) → (b13 = true → e14 = (.pointer (some ⟨bb 5, 0, none⟩))) → (b14 = true → b11 = true) → (b15 = true → b12 = true) → (b16 = true → b13 = true) → WS o1 k1 l1 h1 t1 x1 n1 o2 k2 l2 h2 t2 x2 n2 w0 (dl b2 b6 b9 b11 b12 b13) (tl b14 b15 b16) bb w → Region.ready .any ops7 #[true, true, b2, b3, true, true, b6, b7, true, b9, b10, b11, b12, b13, b14, b15, b16] = [] → QF F .normal (fr7 s0 s1 s2 s3 s4 s5 s6 s7 s8 s9 s10 s11 s15 s16 s17 s18 s19 s20 s21 s22 s23 s24 s25 s26 s27 s28 s29 s30 s31 s32 s33 s34 s35 s36 s37 s38 s39 s40 s41 s42 s43 s44 s56 s57 s58 s59 s60 s61 s62 s63 s64 s65 s66 s67 s68 s69 s70 s71 s72 s73 s74 s75 s76 s77 s78 s79 s80 s81 s82 s83 s84 s85 s86 (.agg #[.int .i64 o1, .int .i64 k1, .int .i64 l1, .int .i64 h1, .string t1, .slice x1 n1 n1]) (.agg #[.int .i64 o2, .int .i64 k2, .int .i64 l2, .int .i64 h2, .string t2, .slice x2 n2 n2]) e47 e48 (.agg #[.int .i64 o1, .int .i64 k1, .int .i64 l1, .int .i64 h1, .string t1, .slice x1 n1 n1]) (.agg #[.int .i64 o2, .int .i64 k2, .int .i64 l2, .int .i64 h2, .string t2, .slice x2 n2 n2]) e51 e52 (.agg #[.int .i64 o1, .int .i64 k1, .int .i64 l1, .int .i64 h1, .string t1, .slice x1 n1 n1]) e54 e55 e12 e13 e14) w := by
    intro b2 b3 b6 b7 b9 b10 b11 b12 b13 b14 b15 b16 e47 e48 e51 e52 e54 e55 e12 e13 e14 bb w fb2 fb6 fb9 fb3 fb7 fb10 fb11 fb12 fb13 fb14 fb15 fb16 hws hr
    have hd := done7 b2 b3 b6 b7 b9 b10 b11 b12 b13 b14 b15 b16 (by rw [hr]; rfl)
    simp only [Bool.and_eq_true] at hd
    obtain ⟨⟨⟨⟨⟨⟨⟨⟨⟨⟨⟨rfl, rfl⟩, rfl⟩, rfl⟩, rfl⟩, rfl⟩, rfl⟩, rfl⟩, rfl⟩, rfl⟩, rfl⟩, rfl⟩ := hd
    obtain rfl := fb2 rfl
    obtain ⟨_, rfl⟩ := fb3 rfl
    obtain rfl := fb6 rfl
    obtain ⟨_, rfl⟩ := fb7 rfl
    obtain rfl := fb9 rfl
    obtain ⟨_, rfl⟩ := fb10 rfl
    obtain rfl := fb11 rfl
    obtain rfl := fb12 rfl
    obtain rfl := fb13 rfl
    exact hF bb w hws
  induction fuel with
  | zero =>
    intro b2 b3 b6 b7 b9 b10 b11 b12 b13 b14 b15 b16 e47 e48 e51 e52 e54 e55 e12 e13 e14 bb w hc fb2 fb6 fb9 fb3 fb7 fb10 fb11 fb12 fb13 fb14 fb15 fb16 hws
    have hr : Region.ready .any ops7 #[true, true, b2, b3, true, true, b6, b7, true, b9, b10, b11, b12, b13, b14, b15, b16] = [] := by
      have : b2 = true ∧ b3 = true ∧ b6 = true ∧ b7 = true ∧ b9 = true ∧ b10 = true ∧ b11 = true ∧ b12 = true ∧ b13 = true ∧ b14 = true ∧ b15 = true ∧ b16 = true := by
        refine ⟨?_, ?_, ?_, ?_, ?_, ?_, ?_, ?_, ?_, ?_, ?_, ?_⟩ <;> (apply Decidable.byContradiction; intro hx; simp only [Bool.not_eq_true] at hx; subst hx; simp at hc)
      obtain ⟨rfl, rfl, rfl, rfl, rfl, rfl, rfl, rfl, rfl, rfl, rfl, rfl⟩ := this
      decide +kernel
    exact ⟨hr, fin b2 b3 b6 b7 b9 b10 b11 b12 b13 b14 b15 b16 _ _ _ _ _ _ _ _ _ bb w fb2 fb6 fb9 fb3 fb7 fb10 fb11 fb12 fb13 fb14 fb15 fb16 hws hr⟩
  | succ fuel ih =>
    intro b2 b3 b6 b7 b9 b10 b11 b12 b13 b14 b15 b16 e47 e48 e51 e52 e54 e55 e12 e13 e14 bb w hc fb2 fb6 fb9 fb3 fb7 fb10 fb11 fb12 fb13 fb14 fb15 fb16 hws
    refine ⟨fun hr => fin b2 b3 b6 b7 b9 b10 b11 b12 b13 b14 b15 b16 _ _ _ _ _ _ _ _ _ bb w fb2 fb6 fb9 fb3 fb7 fb10 fb11 fb12 fb13 fb14 fb15 fb16 hws hr, fun i hi => ?_⟩
    have hm := List.all_eq_true.1 (ready7 b2 b3 b6 b7 b9 b10 b11 b12 b13 b14 b15 b16) i hi
    have ss := hws.bel.size
    simp only [may7, Bool.or_eq_true, Bool.and_eq_true, beq_iff_eq, Bool.not_eq_true'] at hm
    clear hi fin
    rcases hm with (((((((((((⟨rfl, rfl⟩ | ⟨⟨rfl, rfl⟩, rfl⟩) | ⟨rfl, rfl⟩) | ⟨⟨rfl, rfl⟩, rfl⟩) | ⟨rfl, rfl⟩) | ⟨⟨rfl, rfl⟩, rfl⟩) | ⟨rfl, rfl⟩) | ⟨rfl, rfl⟩) | ⟨rfl, rfl⟩) | ⟨⟨⟨⟨rfl, rfl⟩, rfl⟩, rfl⟩, rfl⟩) | ⟨⟨⟨⟨⟨rfl, rfl⟩, rfl⟩, rfl⟩, rfl⟩, rfl⟩) | ⟨⟨⟨⟨⟨rfl, rfl⟩, rfl⟩, rfl⟩, rfl⟩, rfl⟩)
    · -- 2
      have hw' := hws.alloc 0 rfl (fun k hk => by omega) (.cells #[.int .i64 o1, .int .i64 k1, .int .i64 l1, .int .i64 h1, .string t1, .slice x1 n1 n1, .int .i64 o2, .int .i64 k2, .int .i64 l2, .int .i64 h2, .string t2, .slice x2 n2 n2] 26) (by refine ⟨?_, ?_⟩ <;> (rw [upd_same]; unfold Six; simp))
      rw [upd_d0] at hw'
      have Gb2 : Hid _ := fb2
      have Gb6 : Hid _ := fb6
      have Gb9 : Hid _ := fb9
      have Gb3 : Hid _ := fb3
      have Gb7 : Hid _ := fb7
      have Gb10 : Hid _ := fb10
      have Gb11 : Hid _ := fb11
      have Gb12 : Hid _ := fb12
      have Gb13 : Hid _ := fb13
      have Gb14 : Hid _ := fb14
      have Gb15 : Hid _ := fb15
      have Gb16 : Hid _ := fb16
      clear fb2 fb6 fb9 fb3 fb7 fb10 fb11 fb12 fb13 fb14 fb15 fb16
      refine wpOp_step (o := { dst := some 47, op := Op.buildSlice 24 2 #[(0, Operand.tmp 45), (1, Operand.tmp 46)], type := 24, pos := "law.go:46", after := #[{ on := 0, ground := Ground.data }, { on := 1, ground := Ground.data }], guard := none }) rfl (fun K hK => ?_)
      unfold fr7
      go_simp
      refine hK _ _ ⟨hS _ hw'.bel, ?_⟩
      exact ih true b3 b6 b7 b9 b10 b11 b12 b13 b14 b15 b16 _ _ _ _ _ _ _ _ _ (upd bb 0 w.heap.size) _ (by simp at hc ⊢; omega) (fun _ => by rw [upd_same]) (fun h => by rw [upd_other _ _ _ _ (by omega)]; exact Gb6.out h) (fun h => by rw [upd_other _ _ _ _ (by omega)]; exact Gb9.out h) (fun h => absurd (Gb3.out h).1 (by simp)) (fun h => by rw [upd_other _ _ _ _ (by omega)]; exact Gb7.out h) (fun h => by rw [upd_other _ _ _ _ (by omega)]; exact Gb10.out h) (fun h => by rw [upd_other _ _ _ _ (by omega)]; exact Gb11.out h) (fun h => by rw [upd_other _ _ _ _ (by omega)]; exact Gb12.out h) (fun h => by rw [upd_other _ _ _ _ (by omega)]; exact Gb13.out h) Gb14.out Gb15.out Gb16.out hw'
    · -- 3
      obtain rfl := fb2 rfl
      have Gb2 : Hid _ := fb2
      have Gb6 : Hid _ := fb6
      have Gb9 : Hid _ := fb9
      have Gb3 : Hid _ := fb3
      have Gb7 : Hid _ := fb7
      have Gb10 : Hid _ := fb10
      have Gb11 : Hid _ := fb11
      have Gb12 : Hid _ := fb12
      have Gb13 : Hid _ := fb13
      have Gb14 : Hid _ := fb14
      have Gb15 : Hid _ := fb15
      have Gb16 : Hid _ := fb16
      clear fb2 fb6 fb9 fb3 fb7 fb10 fb11 fb12 fb13 fb14 fb15 fb16
      refine wpOp_step (o := { dst := some 48, op := Op.build 26 #[(0, Operand.const (Value.int IntKind.i64 5)), (5, Operand.tmp 47)], type := 26, pos := "law.go:46", after := #[{ on := 2, ground := Ground.data }], guard := none }) rfl (fun K hK => ?_)
      unfold fr7
      go_simp
      refine hK _ _ ⟨hS _ hws.bel, ?_⟩
      exact ih true true b6 b7 b9 b10 b11 b12 b13 b14 b15 b16 _ _ _ _ _ _ _ _ _ bb _ (by simp at hc ⊢; omega) Gb2.out Gb6.out Gb9.out (fun _ => ⟨rfl, rfl⟩) Gb7.out Gb10.out Gb11.out Gb12.out Gb13.out Gb14.out Gb15.out Gb16.out hws
    · -- 6
      have hw' := hws.alloc 1 rfl (fun k hk => by omega) (.cells #[.int .i64 o1, .int .i64 k1, .int .i64 l1, .int .i64 h1, .string t1, .slice x1 n1 n1, .int .i64 o2, .int .i64 k2, .int .i64 l2, .int .i64 h2, .string t2, .slice x2 n2 n2] 26) (by refine ⟨?_, ?_⟩ <;> (rw [upd_same]; unfold Six; simp))
      rw [upd_d1] at hw'
      have Gb2 : Hid _ := fb2
      have Gb6 : Hid _ := fb6
      have Gb9 : Hid _ := fb9
      have Gb3 : Hid _ := fb3
      have Gb7 : Hid _ := fb7
      have Gb10 : Hid _ := fb10
      have Gb11 : Hid _ := fb11
      have Gb12 : Hid _ := fb12
      have Gb13 : Hid _ := fb13
      have Gb14 : Hid _ := fb14
      have Gb15 : Hid _ := fb15
      have Gb16 : Hid _ := fb16
      clear fb2 fb6 fb9 fb3 fb7 fb10 fb11 fb12 fb13 fb14 fb15 fb16
      refine wpOp_step (o := { dst := some 51, op := Op.buildSlice 24 2 #[(0, Operand.tmp 49), (1, Operand.tmp 50)], type := 24, pos := "law.go:46", after := #[{ on := 4, ground := Ground.data }, { on := 5, ground := Ground.data }, { on := 14, ground := Ground.gcOnly Departure.lateStores }], guard := none }) rfl (fun K hK => ?_)
      unfold fr7
      go_simp
      refine hK _ _ ⟨hS _ hw'.bel, ?_⟩
      exact ih b2 b3 true b7 b9 b10 b11 b12 b13 b14 b15 b16 _ _ _ _ _ _ _ _ _ (upd bb 1 w.heap.size) _ (by simp at hc ⊢; omega) (fun h => by rw [upd_other _ _ _ _ (by omega)]; exact Gb2.out h) (fun _ => by rw [upd_same]) (fun h => by rw [upd_other _ _ _ _ (by omega)]; exact Gb9.out h) (fun h => by rw [upd_other _ _ _ _ (by omega)]; exact Gb3.out h) (fun h => absurd (Gb7.out h).1 (by simp)) (fun h => by rw [upd_other _ _ _ _ (by omega)]; exact Gb10.out h) (fun h => by rw [upd_other _ _ _ _ (by omega)]; exact Gb11.out h) (fun h => by rw [upd_other _ _ _ _ (by omega)]; exact Gb12.out h) (fun h => by rw [upd_other _ _ _ _ (by omega)]; exact Gb13.out h) Gb14.out Gb15.out Gb16.out hw'
    · -- 7
      obtain rfl := fb6 rfl
      have Gb2 : Hid _ := fb2
      have Gb6 : Hid _ := fb6
      have Gb9 : Hid _ := fb9
      have Gb3 : Hid _ := fb3
      have Gb7 : Hid _ := fb7
      have Gb10 : Hid _ := fb10
      have Gb11 : Hid _ := fb11
      have Gb12 : Hid _ := fb12
      have Gb13 : Hid _ := fb13
      have Gb14 : Hid _ := fb14
      have Gb15 : Hid _ := fb15
      have Gb16 : Hid _ := fb16
      clear fb2 fb6 fb9 fb3 fb7 fb10 fb11 fb12 fb13 fb14 fb15 fb16
      refine wpOp_step (o := { dst := some 52, op := Op.build 26 #[(0, Operand.const (Value.int IntKind.i64 6)), (5, Operand.tmp 51)], type := 26, pos := "law.go:46", after := #[{ on := 6, ground := Ground.data }, { on := 14, ground := Ground.gcOnly Departure.lateStores }], guard := none }) rfl (fun K hK => ?_)
      unfold fr7
      go_simp
      refine hK _ _ ⟨hS _ hws.bel, ?_⟩
      exact ih b2 b3 true true b9 b10 b11 b12 b13 b14 b15 b16 _ _ _ _ _ _ _ _ _ bb _ (by simp at hc ⊢; omega) Gb2.out Gb6.out Gb9.out Gb3.out (fun _ => ⟨rfl, rfl⟩) Gb10.out Gb11.out Gb12.out Gb13.out Gb14.out Gb15.out Gb16.out hws
    · -- 9
      have hw' := hws.alloc 2 rfl (fun k hk => by omega) (.cells #[.int .i64 o1, .int .i64 k1, .int .i64 l1, .int .i64 h1, .string t1, .slice x1 n1 n1] 26) (by show Six _ _ _ _ _ _ _ _ _ _; rw [upd_same]; unfold Six; simp)
      rw [upd_d2] at hw'
      have Gb2 : Hid _ := fb2
      have Gb6 : Hid _ := fb6
      have Gb9 : Hid _ := fb9
      have Gb3 : Hid _ := fb3
      have Gb7 : Hid _ := fb7
      have Gb10 : Hid _ := fb10
      have Gb11 : Hid _ := fb11
      have Gb12 : Hid _ := fb12
      have Gb13 : Hid _ := fb13
      have Gb14 : Hid _ := fb14
      have Gb15 : Hid _ := fb15
      have Gb16 : Hid _ := fb16
      clear fb2 fb6 fb9 fb3 fb7 fb10 fb11 fb12 fb13 fb14 fb15 fb16
      refine wpOp_step (o := { dst := some 54, op := Op.buildSlice 24 1 #[(0, Operand.tmp 53)], type := 24, pos := "law.go:46", after := #[{ on := 8, ground := Ground.data }, { on := 15, ground := Ground.gcOnly Departure.lateStores }], guard := none }) rfl (fun K hK => ?_)
      unfold fr7
      go_simp
      refine hK _ _ ⟨hS _ hw'.bel, ?_⟩
      exact ih b2 b3 b6 b7 true b10 b11 b12 b13 b14 b15 b16 _ _ _ _ _ _ _ _ _ (upd bb 2 w.heap.size) _ (by simp at hc ⊢; omega) (fun h => by rw [upd_other _ _ _ _ (by omega)]; exact Gb2.out h) (fun h => by rw [upd_other _ _ _ _ (by omega)]; exact Gb6.out h) (fun _ => by rw [upd_same]) (fun h => by rw [upd_other _ _ _ _ (by omega)]; exact Gb3.out h) (fun h => by rw [upd_other _ _ _ _ (by omega)]; exact Gb7.out h) (fun h => absurd (Gb10.out h).1 (by simp)) (fun h => by rw [upd_other _ _ _ _ (by omega)]; exact Gb11.out h) (fun h => by rw [upd_other _ _ _ _ (by omega)]; exact Gb12.out h) (fun h => by rw [upd_other _ _ _ _ (by omega)]; exact Gb13.out h) Gb14.out Gb15.out Gb16.out hw'
    · -- 10
      obtain rfl := fb9 rfl
      have Gb2 : Hid _ := fb2
      have Gb6 : Hid _ := fb6
      have Gb9 : Hid _ := fb9
      have Gb3 : Hid _ := fb3
      have Gb7 : Hid _ := fb7
      have Gb10 : Hid _ := fb10
      have Gb11 : Hid _ := fb11
      have Gb12 : Hid _ := fb12
      have Gb13 : Hid _ := fb13
      have Gb14 : Hid _ := fb14
      have Gb15 : Hid _ := fb15
      have Gb16 : Hid _ := fb16
      clear fb2 fb6 fb9 fb3 fb7 fb10 fb11 fb12 fb13 fb14 fb15 fb16
      refine wpOp_step (o := { dst := some 55, op := Op.build 26 #[(0, Operand.const (Value.int IntKind.i64 7)), (5, Operand.tmp 54)], type := 26, pos := "law.go:46", after := #[{ on := 9, ground := Ground.data }, { on := 15, ground := Ground.gcOnly Departure.lateStores }], guard := none }) rfl (fun K hK => ?_)
      unfold fr7
      go_simp
      refine hK _ _ ⟨hS _ hws.bel, ?_⟩
      exact ih b2 b3 b6 b7 true true b11 b12 b13 b14 b15 b16 _ _ _ _ _ _ _ _ _ bb _ (by simp at hc ⊢; omega) Gb2.out Gb6.out Gb9.out Gb3.out Gb7.out (fun _ => ⟨rfl, rfl⟩) Gb11.out Gb12.out Gb13.out Gb14.out Gb15.out Gb16.out hws
    · -- 11
      have hq : b14 = false := Bool.eq_false_iff.2 (fun h' => absurd (fb14 h') (by simp))
      have hw' := hws.alloc 3 rfl (fun k hk => by obtain rfl : k = 0 := (by omega); exact hq) (.cells #[.int .i64 0, .int .i64 0, .int .i64 0, .int .i64 0, .string ⟨#[]⟩, .slice none 0 0] 26) (by refine ⟨fun o => by rw [upd_same]; simp, 0, 0, 0, 0, ⟨#[]⟩, none, 0, ?_, fun q => ?_⟩; (rw [upd_same]; unfold Six; simp); (exact absurd (hq.symm.trans q) (by simp)))
      rw [upd_d3] at hw'
      have Gb2 : Hid _ := fb2
      have Gb6 : Hid _ := fb6
      have Gb9 : Hid _ := fb9
      have Gb3 : Hid _ := fb3
      have Gb7 : Hid _ := fb7
      have Gb10 : Hid _ := fb10
      have Gb11 : Hid _ := fb11
      have Gb12 : Hid _ := fb12
      have Gb13 : Hid _ := fb13
      have Gb14 : Hid _ := fb14
      have Gb15 : Hid _ := fb15
      have Gb16 : Hid _ := fb16
      clear fb2 fb6 fb9 fb3 fb7 fb10 fb11 fb12 fb13 fb14 fb15 fb16
      refine wpOp_step (o := { dst := some 12, op := Op.alloc 26, type := 0, pos := "law.go:46", after := #[], guard := none }) rfl (fun K hK => ?_)
      unfold fr7
      go_simp
      refine hK _ _ ⟨hS _ hw'.bel, ?_⟩
      exact ih b2 b3 b6 b7 b9 b10 true b12 b13 b14 b15 b16 _ _ _ _ _ _ _ _ _ (upd bb 3 w.heap.size) _ (by simp at hc ⊢; omega) (fun h => by rw [upd_other _ _ _ _ (by omega)]; exact Gb2.out h) (fun h => by rw [upd_other _ _ _ _ (by omega)]; exact Gb6.out h) (fun h => by rw [upd_other _ _ _ _ (by omega)]; exact Gb9.out h) (fun h => by rw [upd_other _ _ _ _ (by omega)]; exact Gb3.out h) (fun h => by rw [upd_other _ _ _ _ (by omega)]; exact Gb7.out h) (fun h => by rw [upd_other _ _ _ _ (by omega)]; exact Gb10.out h) (fun _ => by rw [upd_same]) (fun h => by rw [upd_other _ _ _ _ (by omega)]; exact Gb12.out h) (fun h => by rw [upd_other _ _ _ _ (by omega)]; exact Gb13.out h) (fun _ => rfl) Gb15.out Gb16.out hw'
    · -- 12
      have hq : b15 = false := Bool.eq_false_iff.2 (fun h' => absurd (fb15 h') (by simp))
      have hw' := hws.alloc 4 rfl (fun k hk => by obtain rfl : k = 1 := (by omega); exact hq) (.cells #[.int .i64 0, .int .i64 0, .int .i64 0, .int .i64 0, .string ⟨#[]⟩, .slice none 0 0] 26) (by refine ⟨fun o => by rw [upd_same]; simp, 0, 0, 0, 0, ⟨#[]⟩, none, 0, ?_, fun q => ?_⟩; (rw [upd_same]; unfold Six; simp); (exact absurd (hq.symm.trans q) (by simp)))
      rw [upd_d4] at hw'
      have Gb2 : Hid _ := fb2
      have Gb6 : Hid _ := fb6
      have Gb9 : Hid _ := fb9
      have Gb3 : Hid _ := fb3
      have Gb7 : Hid _ := fb7
      have Gb10 : Hid _ := fb10
      have Gb11 : Hid _ := fb11
      have Gb12 : Hid _ := fb12
      have Gb13 : Hid _ := fb13
      have Gb14 : Hid _ := fb14
      have Gb15 : Hid _ := fb15
      have Gb16 : Hid _ := fb16
      clear fb2 fb6 fb9 fb3 fb7 fb10 fb11 fb12 fb13 fb14 fb15 fb16
      refine wpOp_step (o := { dst := some 13, op := Op.alloc 26, type := 0, pos := "law.go:46", after := #[], guard := none }) rfl (fun K hK => ?_)
      unfold fr7
      go_simp
      refine hK _ _ ⟨hS _ hw'.bel, ?_⟩
      exact ih b2 b3 b6 b7 b9 b10 b11 true b13 b14 b15 b16 _ _ _ _ _ _ _ _ _ (upd bb 4 w.heap.size) _ (by simp at hc ⊢; omega) (fun h => by rw [upd_other _ _ _ _ (by omega)]; exact Gb2.out h) (fun h => by rw [upd_other _ _ _ _ (by omega)]; exact Gb6.out h) (fun h => by rw [upd_other _ _ _ _ (by omega)]; exact Gb9.out h) (fun h => by rw [upd_other _ _ _ _ (by omega)]; exact Gb3.out h) (fun h => by rw [upd_other _ _ _ _ (by omega)]; exact Gb7.out h) (fun h => by rw [upd_other _ _ _ _ (by omega)]; exact Gb10.out h) (fun h => by rw [upd_other _ _ _ _ (by omega)]; exact Gb11.out h) (fun _ => by rw [upd_same]) (fun h => by rw [upd_other _ _ _ _ (by omega)]; exact Gb13.out h) Gb14.out (fun _ => rfl) Gb16.out hw'
    · -- 13
      have hq : b16 = false := Bool.eq_false_iff.2 (fun h' => absurd (fb16 h') (by simp))
      have hw' := hws.alloc 5 rfl (fun k hk => by obtain rfl : k = 2 := (by omega); exact hq) (.cells #[.int .i64 0, .int .i64 0, .int .i64 0, .int .i64 0, .string ⟨#[]⟩, .slice none 0 0] 26) (by refine ⟨fun o => by rw [upd_same]; simp, 0, 0, 0, 0, ⟨#[]⟩, none, 0, ?_, fun q => ?_⟩; (rw [upd_same]; unfold Six; simp); (exact absurd (hq.symm.trans q) (by simp)))
      rw [upd_d5] at hw'
      have Gb2 : Hid _ := fb2
      have Gb6 : Hid _ := fb6
      have Gb9 : Hid _ := fb9
      have Gb3 : Hid _ := fb3
      have Gb7 : Hid _ := fb7
      have Gb10 : Hid _ := fb10
      have Gb11 : Hid _ := fb11
      have Gb12 : Hid _ := fb12
      have Gb13 : Hid _ := fb13
      have Gb14 : Hid _ := fb14
      have Gb15 : Hid _ := fb15
      have Gb16 : Hid _ := fb16
      clear fb2 fb6 fb9 fb3 fb7 fb10 fb11 fb12 fb13 fb14 fb15 fb16
      refine wpOp_step (o := { dst := some 14, op := Op.alloc 26, type := 0, pos := "law.go:46", after := #[], guard := none }) rfl (fun K hK => ?_)
      unfold fr7
      go_simp
      refine hK _ _ ⟨hS _ hw'.bel, ?_⟩
      exact ih b2 b3 b6 b7 b9 b10 b11 b12 true b14 b15 b16 _ _ _ _ _ _ _ _ _ (upd bb 5 w.heap.size) _ (by simp at hc ⊢; omega) (fun h => by rw [upd_other _ _ _ _ (by omega)]; exact Gb2.out h) (fun h => by rw [upd_other _ _ _ _ (by omega)]; exact Gb6.out h) (fun h => by rw [upd_other _ _ _ _ (by omega)]; exact Gb9.out h) (fun h => by rw [upd_other _ _ _ _ (by omega)]; exact Gb3.out h) (fun h => by rw [upd_other _ _ _ _ (by omega)]; exact Gb7.out h) (fun h => by rw [upd_other _ _ _ _ (by omega)]; exact Gb10.out h) (fun h => by rw [upd_other _ _ _ _ (by omega)]; exact Gb11.out h) (fun h => by rw [upd_other _ _ _ _ (by omega)]; exact Gb12.out h) (fun _ => by rw [upd_same]) Gb14.out Gb15.out (fun _ => rfl) hw'
    · -- 14
      obtain ⟨_, rfl⟩ := fb3 rfl
      obtain rfl := fb2 rfl
      obtain rfl := fb11 rfl
      have hw' := hws.store0 rfl rfl
      rw [upd_t0] at hw'
      obtain ⟨gf, zo, zk, zl, zh, zs, zx, zn, six, _⟩ := hws.con 3 rfl
      obtain ⟨y0, y1, y2, y3, y4, y5⟩ := six
      simp only [Nat.zero_add] at y0 y1 y2 y3 y4 y5
      have Gb2 : Hid _ := fb2
      have Gb6 : Hid _ := fb6
      have Gb9 : Hid _ := fb9
      have Gb3 : Hid _ := fb3
      have Gb7 : Hid _ := fb7
      have Gb10 : Hid _ := fb10
      have Gb11 : Hid _ := fb11
      have Gb12 : Hid _ := fb12
      have Gb13 : Hid _ := fb13
      have Gb14 : Hid _ := fb14
      have Gb15 : Hid _ := fb15
      have Gb16 : Hid _ := fb16
      clear fb2 fb6 fb9 fb3 fb7 fb10 fb11 fb12 fb13 fb14 fb15 fb16
      refine wpOp_step (o := { dst := none, op := Op.store 26 (Operand.tmp 12) (Operand.tmp 48), type := 0, pos := "law.go:46", after := #[{ on := 11, ground := Ground.data }, { on := 3, ground := Ground.data }, { on := 0, ground := Ground.phase }, { on := 1, ground := Ground.phase }, { on := 2, ground := Ground.phase }, { on := 3, ground := Ground.phase }, { on := 4, ground := Ground.textOnly Departure.lateStores }, { on := 5, ground := Ground.textOnly Departure.lateStores }, { on := 6, ground := Ground.textOnly Departure.lateStores }, { on := 7, ground := Ground.textOnly Departure.lateStores }, { on := 8, ground := Ground.textOnly Departure.lateStores }, { on := 9, ground := Ground.textOnly Departure.lateStores }, { on := 10, ground := Ground.textOnly Departure.lateStores }, { on := 11, ground := Ground.phase }, { on := 12, ground := Ground.phase }, { on := 13, ground := Ground.phase }], guard := none }) rfl (fun K hK => ?_)
      unfold fr7
      go_simp
      refine hK _ _ ⟨hS _ hw'.bel, ?_⟩
      exact ih true true b6 b7 b9 b10 true b12 b13 true b15 b16 _ _ _ _ _ _ _ _ _ bb _ (by simp at hc ⊢; omega) Gb2.out Gb6.out Gb9.out Gb3.out Gb7.out Gb10.out Gb11.out Gb12.out Gb13.out (fun _ => rfl) Gb15.out Gb16.out hw'
    · -- 15
      obtain ⟨_, rfl⟩ := fb7 rfl
      obtain rfl := fb6 rfl
      obtain rfl := fb12 rfl
      have hw' := hws.store1 rfl rfl
      rw [upd_t1] at hw'
      obtain ⟨gf, zo, zk, zl, zh, zs, zx, zn, six, _⟩ := hws.con 4 rfl
      obtain ⟨y0, y1, y2, y3, y4, y5⟩ := six
      simp only [Nat.zero_add] at y0 y1 y2 y3 y4 y5
      have Gb2 : Hid _ := fb2
      have Gb6 : Hid _ := fb6
      have Gb9 : Hid _ := fb9
      have Gb3 : Hid _ := fb3
      have Gb7 : Hid _ := fb7
      have Gb10 : Hid _ := fb10
      have Gb11 : Hid _ := fb11
      have Gb12 : Hid _ := fb12
      have Gb13 : Hid _ := fb13
      have Gb14 : Hid _ := fb14
      have Gb15 : Hid _ := fb15
      have Gb16 : Hid _ := fb16
      clear fb2 fb6 fb9 fb3 fb7 fb10 fb11 fb12 fb13 fb14 fb15 fb16
      refine wpOp_step (o := { dst := none, op := Op.store 26 (Operand.tmp 13) (Operand.tmp 52), type := 0, pos := "law.go:46", after := #[{ on := 12, ground := Ground.data }, { on := 7, ground := Ground.data }, { on := 14, ground := Ground.chain }, { on := 0, ground := Ground.phase }, { on := 1, ground := Ground.phase }, { on := 2, ground := Ground.phase }, { on := 3, ground := Ground.phase }, { on := 4, ground := Ground.phase }, { on := 5, ground := Ground.phase }, { on := 6, ground := Ground.phase }, { on := 7, ground := Ground.phase }, { on := 8, ground := Ground.textOnly Departure.lateStores }, { on := 9, ground := Ground.textOnly Departure.lateStores }, { on := 10, ground := Ground.textOnly Departure.lateStores }, { on := 11, ground := Ground.phase }, { on := 12, ground := Ground.phase }, { on := 13, ground := Ground.phase }, { on := 14, ground := Ground.phase }], guard := none }) rfl (fun K hK => ?_)
      unfold fr7
      go_simp
      refine hK _ _ ⟨hS _ hw'.bel, ?_⟩
      exact ih b2 b3 true true b9 b10 b11 true b13 true true b16 _ _ _ _ _ _ _ _ _ bb _ (by simp at hc ⊢; omega) Gb2.out Gb6.out Gb9.out Gb3.out Gb7.out Gb10.out Gb11.out Gb12.out Gb13.out Gb14.out (fun _ => rfl) Gb16.out hw'
    · -- 16
      obtain ⟨_, rfl⟩ := fb10 rfl
      obtain rfl := fb9 rfl
      obtain rfl := fb13 rfl
      have hw' := hws.store2 rfl rfl
      rw [upd_t2] at hw'
      obtain ⟨gf, zo, zk, zl, zh, zs, zx, zn, six, _⟩ := hws.con 5 rfl
      obtain ⟨y0, y1, y2, y3, y4, y5⟩ := six
      simp only [Nat.zero_add] at y0 y1 y2 y3 y4 y5
      have Gb2 : Hid _ := fb2
      have Gb6 : Hid _ := fb6
      have Gb9 : Hid _ := fb9
      have Gb3 : Hid _ := fb3
      have Gb7 : Hid _ := fb7
      have Gb10 : Hid _ := fb10
      have Gb11 : Hid _ := fb11
      have Gb12 : Hid _ := fb12
      have Gb13 : Hid _ := fb13
      have Gb14 : Hid _ := fb14
      have Gb15 : Hid _ := fb15
      have Gb16 : Hid _ := fb16
      clear fb2 fb6 fb9 fb3 fb7 fb10 fb11 fb12 fb13 fb14 fb15 fb16
      refine wpOp_step (o := { dst := none, op := Op.store 26 (Operand.tmp 14) (Operand.tmp 55), type := 0, pos := "law.go:46", after := #[{ on := 13, ground := Ground.data }, { on := 10, ground := Ground.data }, { on := 15, ground := Ground.chain }, { on := 0, ground := Ground.phase }, { on := 1, ground := Ground.phase }, { on := 2, ground := Ground.phase }, { on := 3, ground := Ground.phase }, { on := 4, ground := Ground.phase }, { on := 5, ground := Ground.phase }, { on := 6, ground := Ground.phase }, { on := 7, ground := Ground.phase }, { on := 8, ground := Ground.phase }, { on := 9, ground := Ground.phase }, { on := 10, ground := Ground.phase }, { on := 11, ground := Ground.phase }, { on := 12, ground := Ground.phase }, { on := 13, ground := Ground.phase }, { on := 14, ground := Ground.phase }, { on := 15, ground := Ground.phase }], guard := none }) rfl (fun K hK => ?_)
      unfold fr7
      go_simp
      refine hK _ _ ⟨hS _ hw'.bel, ?_⟩
      exact ih b2 b3 b6 b7 true true b11 b12 true b14 true true _ _ _ _ _ _ _ _ _ bb _ (by simp at hc ⊢; omega) Gb2.out Gb6.out Gb9.out Gb3.out Gb7.out Gb10.out Gb11.out Gb12.out Gb13.out Gb14.out Gb15.out (fun _ => rfl) hw'

end Go.Proofs.Ytkfjcaifkhlngaa
