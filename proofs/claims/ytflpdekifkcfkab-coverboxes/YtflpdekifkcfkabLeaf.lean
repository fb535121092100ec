/- norm's boxes of a filter without parts. -/
import Derived.Test.YtflpdekifkcfkabRowb
namespace Go.Proofs.Ytflpdekifkcfkab
open Go.RowKit
set_option linter.unusedVariables false

/-- 'append' of one box. -/
theorem append_box {w : World} {ops : Array Oper} {rest : List Oper} {o : Oper} {a : Act} {Q : Exit → Act → World → Prop} (hgd : o.guard = none) (s y : Operand)
    (ho : o.op = .call { callee := .builtin .append, args := #[s, y], argTypes := #[32, 32] })
    (B : Nat) (v : Value) (l : List Ev.Bx) (hs : a.eval s = v) (row : RowB B w v l) (x : El) (hx : Nt B w x.2.1 x.2.2 x.1.nots) (n : Nat) (hy : a.eval y = .slice (some ⟨n, 0, none⟩) 1 1)
    (hc : ∀ i u, (bcells x)[i]? = some u → w.cell? ⟨n, i, none⟩ = some u) (hl : l.length ≤ 10000) (hB : B ≤ w.heap.size)
    (h : ∀ v' w', RowB B w' v' (l ++ [x.1]) → (∀ B' a', B' ≤ B → Below B' a' w → Below B' a' w') → wpList Try.prog ops Q rest (a.put o.dst v') w') : wpList Try.prog ops Q (o :: rest) a w := by
  obtain ⟨es, h1, h2, h3⟩ := row
  obtain ⟨i0, hi, hz0, hz1, hz2⟩ := info_parts Try.info40
  refine wpList_append_own w hgd s y 32 ho B 40 i0 (.agg #[.int .i64 0, .int .i64 0, .int .i64 0, .int .i64 0, .int .i64 0, .int .i64 0, .int .i64 0, .int .i64 0, .int .i64 0, .int .i64 0, .int .i64 0, .int .i64 0, .string ⟨#[]⟩, .slice none 0 0]) 14 136 Try.underlying32 hi hz0 hz1 hz2 rfl (by decide) v l.length (cellsB es) hs h3 ⟨n, 0, none⟩ 1 1 (bcells x) hy rfl (fun j u hj => ?_) ?_ (by unfold maxLen; omega) (by omega) hB (fun v' w' g1 g2 _ => h v' w' (RowB.snoc es x h1 h2 h3 g2 g1 hx) (fun B' a' k1 k2 => k2.grown g2 (by omega) (fun k hk => Nat.le_trans k1 (h3.lt k hk).1)))
  · have := hc j u hj
    simp only [Addr.add]
    split
    · rename_i h0; subst h0; exact this
    · simpa using this
  · intro u hu
    have := cellsB_one [x] u (by simpa [cellsB] using hu)
    exact this

/-- A box of one key, as a value. -/
theorem key_cells (key how lo hi : Int) : ∃ z : Ev.Bx, z = Ev.ofKey key how lo hi ∧ Bval z none 0 = .agg (bcells (z, none, 0)).toArray := ⟨_, rfl, rfl⟩

set_option maxHeartbeats 4000000 in
/-- norm.outside. -/
theorem outside62 (op key lo hi : Int) (t : ByteArray) (w : World) (hk : 0 ≤ key) (hk' : key ≤ 3) (h1 : 0 ≤ lo) (h2 : lo ≤ hi) (h3 : hi ≤ 99) :
    Calls Try.prog 60 #[.agg #[.int .i64 op, .int .i64 key, .int .i64 lo, .int .i64 hi, .string t, .slice none 0 0]] w fun e w' => ∃ v, e = .returned v ∧ RowB w.heap.size w' v (Ev.outside key lo hi) ∧ Below w.heap.size w w' := by
  unfold Ev.outside
  have cA := fun w => key63 key 2 0 0 w hk hk'
  have cB := fun w => key63 key 1 0 (lo - 1) w hk hk'
  have cC := fun w => key63 key 1 (hi + 1) 99 w hk hk'
  obtain ⟨xa, ea, va⟩ := key_cells key 2 0 0
  obtain ⟨xb, eb, vb⟩ := key_cells key 1 0 (lo - 1)
  obtain ⟨xc, ec, vc⟩ := key_cells key 1 (hi + 1) 99
  rw [← ea] at cA ⊢
  rw [← eb] at cB ⊢
  rw [← ec] at cC ⊢
  rw [va] at cA
  rw [vb] at cB
  rw [vc] at cC
  have na : xa.nots = [] := by rw [ea]; rfl
  have nb : xb.nots = [] := by rw [eb]; rfl
  have nc : xc.nots = [] := by rw [ec]; rfl
  clear ea eb ec va vb vc
  have NA : ∀ B w, Nt B w none 0 xa.nots := fun B w => by rw [na]; exact Nt.empty B w
  have NB : ∀ B w, Nt B w none 0 xb.nots := fun B w => by rw [nb]; exact Nt.empty B w
  have NC : ∀ B w, Nt B w none 0 xc.nots := fun B w => by rw [nc]; exact Nt.empty B w
  clear na nb nc
  unfold bcells at cA cB cC
  simp only at cA cB cC
  obtain ⟨L, hL⟩ : ∃ L, L = xa :: ((if 0 < lo then [xb] else []) ++ if hi < 99 then [xc] else []) := ⟨_, rfl⟩
  rw [← hL]
  have HL : Hid (L = xa :: ((if 0 < lo then [xb] else []) ++ if hi < 99 then [xc] else [])) := hL
  clear hL
  go_enter Try.func60, Try.ntmps60
  go_wp2_with fail
  refine (cA _).mono ?_
  rintro e w1 ⟨rfl, hb1⟩
  have hb1' : Below (w.heap.size + 1) (w.alloc (.cells #[.int .i64 op, .int .i64 key, .int .i64 lo, .int .i64 hi, .string t, .slice none 0 0] 26)) w1 := hb1.mono (by simp)
  have f1 : ∀ o, w1.cell? ⟨w.heap.size, o, none⟩ = (w.alloc (.cells #[.int .i64 op, .int .i64 key, .int .i64 lo, .int .i64 hi, .string t, .slice none 0 0] 26)).cell? ⟨w.heap.size, o, none⟩ := fun o => hb1'.cell (by simp)
  have l1 : w.heap.size + 1 ≤ w1.heap.size := by have := hb1'.size; simp at this; omega
  have l1' : w.heap.size < w1.heap.size := by omega
  have H1 : Hid (RowB (w.heap.size + 1) (w1.alloc (.cells (bcells (xa, none, 0)).toArray 40)) (.slice (some ⟨w1.heap.size, 0, none⟩) 1 1) [xa] ∧ Below (w.heap.size + 1) (w.alloc (.cells #[.int .i64 op, .int .i64 key, .int .i64 lo, .int .i64 hi, .string t, .slice none 0 0] 26)) (w1.alloc (.cells (bcells (xa, none, 0)).toArray 40))) := ⟨RowB.one (xa, none, 0) l1 (NA _ _), hb1'.alloc l1 _⟩
  clear hb1 hb1' NA cA
  by_cases hlo : 0 < lo
  · rw [if_pos hlo] at HL
    by_cases hhi : hi < 99
    · rw [if_pos hhi] at HL
      go_wp2_with fail
      refine (cB _).mono ?_
      rintro e u2 ⟨rfl, hb2⟩
      have K2 : Hid (RowB (w.heap.size + 1) u2 _ [xa] ∧ Below (w.heap.size + 1) (w.alloc (.cells #[.int .i64 op, .int .i64 key, .int .i64 lo, .int .i64 hi, .string t, .slice none 0 0] 26)) u2) := ⟨H1.out.1.below hb2, H1.out.2.trans (hb2.mono (by have := H1.out.2.size; simp at this ⊢; omega))⟩
      have d2 : ∀ o, u2.cell? ⟨w.heap.size, o, none⟩ = (w.alloc (.cells #[.int .i64 op, .int .i64 key, .int .i64 lo, .int .i64 hi, .string t, .slice none 0 0] 26)).cell? ⟨w.heap.size, o, none⟩ := fun o => K2.out.2.cell (by simp)
      have t2 : w.heap.size + 1 ≤ u2.heap.size := by have := K2.out.2.size; simp at this; omega
      have t2' : w.heap.size < u2.heap.size := by omega
      clear hb2 H1 f1 l1 l1'
      go_wp2_with (at_builtin; refine append_box rfl _ _ rfl (w.heap.size + 1) _ [xa] rfl (K2.out.1.below ((Below.refl _ _).alloc (Nat.le_refl _) _)) (xb, none, 0) (NB _ _) u2.heap.size rfl ?c12 ?c22 ?c32 ?_)
      case c12 =>
        intro i u hi
        rw [World.cell?_alloc_at _ _ _ _ rfl, List.getElem?_toArray]
        exact hi
      case c22 => simp
      case c32 => simp; omega
      intro v2 y2 R2 bw
      have H2 : Hid (RowB (w.heap.size + 1) y2 v2 ([xa] ++ [xb]) ∧ Below (w.heap.size + 1) (w.alloc (.cells #[.int .i64 op, .int .i64 key, .int .i64 lo, .int .i64 hi, .string t, .slice none 0 0] 26)) y2) := ⟨R2, bw _ _ (Nat.le_refl _) (K2.out.2.alloc t2 _)⟩
      have D2 : ∀ o, y2.cell? ⟨w.heap.size, o, none⟩ = (w.alloc (.cells #[.int .i64 op, .int .i64 key, .int .i64 lo, .int .i64 hi, .string t, .slice none 0 0] 26)).cell? ⟨w.heap.size, o, none⟩ := fun o => H2.out.2.cell (by simp)
      have T2 : w.heap.size < y2.heap.size := by have := H2.out.2.size; simp at this; omega
      clear R2 bw K2 d2 t2 t2'
      obtain ⟨ao2, ca2, rfl⟩ := H2.out.1.slice
      go_wp2_with fail
      refine (cC _).mono ?_
      rintro e u3 ⟨rfl, hb3⟩
      have K3 : Hid (RowB (w.heap.size + 1) u3 _ ([xa] ++ [xb]) ∧ Below (w.heap.size + 1) (w.alloc (.cells #[.int .i64 op, .int .i64 key, .int .i64 lo, .int .i64 hi, .string t, .slice none 0 0] 26)) u3) := ⟨H2.out.1.below hb3, H2.out.2.trans (hb3.mono (by have := H2.out.2.size; simp at this ⊢; omega))⟩
      have d3 : ∀ o, u3.cell? ⟨w.heap.size, o, none⟩ = (w.alloc (.cells #[.int .i64 op, .int .i64 key, .int .i64 lo, .int .i64 hi, .string t, .slice none 0 0] 26)).cell? ⟨w.heap.size, o, none⟩ := fun o => K3.out.2.cell (by simp)
      have t3 : w.heap.size + 1 ≤ u3.heap.size := by have := K3.out.2.size; simp at this; omega
      have t3' : w.heap.size < u3.heap.size := by omega
      clear hb3 H2 D2 T2
      go_wp2_with (at_builtin; refine append_box rfl _ _ rfl (w.heap.size + 1) _ ([xa] ++ [xb]) rfl (K3.out.1.below ((Below.refl _ _).alloc (Nat.le_refl _) _)) (xc, none, 0) (NC _ _) u3.heap.size rfl ?c13 ?c23 ?c33 ?_)
      case c13 =>
        intro i u hi
        rw [World.cell?_alloc_at _ _ _ _ rfl, List.getElem?_toArray]
        exact hi
      case c23 => simp
      case c33 => simp; omega
      intro v3 y3 R3 bw
      have H3 : Hid (RowB (w.heap.size + 1) y3 v3 (([xa] ++ [xb]) ++ [xc]) ∧ Below (w.heap.size + 1) (w.alloc (.cells #[.int .i64 op, .int .i64 key, .int .i64 lo, .int .i64 hi, .string t, .slice none 0 0] 26)) y3) := ⟨R3, bw _ _ (Nat.le_refl _) (K3.out.2.alloc t3 _)⟩
      have D3 : ∀ o, y3.cell? ⟨w.heap.size, o, none⟩ = (w.alloc (.cells #[.int .i64 op, .int .i64 key, .int .i64 lo, .int .i64 hi, .string t, .slice none 0 0] 26)).cell? ⟨w.heap.size, o, none⟩ := fun o => H3.out.2.cell (by simp)
      have T3 : w.heap.size < y3.heap.size := by have := H3.out.2.size; simp at this; omega
      clear R3 bw K3 d3 t3 t3'
      obtain ⟨ao3, ca3, rfl⟩ := H3.out.1.slice
      go_wp2
      go_ret
      refine ⟨_, rfl, ?_, (((Below.refl _ _).alloc (Nat.le_refl _) _).trans (H3.out.2.mono (Nat.le_succ _)))⟩
      rw [HL.out]
      exact H3.out.1.mono (Nat.le_succ _)
    · rw [if_neg hhi] at HL
      go_wp2_with fail
      refine (cB _).mono ?_
      rintro e u2 ⟨rfl, hb2⟩
      have K2 : Hid (RowB (w.heap.size + 1) u2 _ [xa] ∧ Below (w.heap.size + 1) (w.alloc (.cells #[.int .i64 op, .int .i64 key, .int .i64 lo, .int .i64 hi, .string t, .slice none 0 0] 26)) u2) := ⟨H1.out.1.below hb2, H1.out.2.trans (hb2.mono (by have := H1.out.2.size; simp at this ⊢; omega))⟩
      have d2 : ∀ o, u2.cell? ⟨w.heap.size, o, none⟩ = (w.alloc (.cells #[.int .i64 op, .int .i64 key, .int .i64 lo, .int .i64 hi, .string t, .slice none 0 0] 26)).cell? ⟨w.heap.size, o, none⟩ := fun o => K2.out.2.cell (by simp)
      have t2 : w.heap.size + 1 ≤ u2.heap.size := by have := K2.out.2.size; simp at this; omega
      have t2' : w.heap.size < u2.heap.size := by omega
      clear hb2 H1 f1 l1 l1'
      go_wp2_with (at_builtin; refine append_box rfl _ _ rfl (w.heap.size + 1) _ [xa] rfl (K2.out.1.below ((Below.refl _ _).alloc (Nat.le_refl _) _)) (xb, none, 0) (NB _ _) u2.heap.size rfl ?c12 ?c22 ?c32 ?_)
      case c12 =>
        intro i u hi
        rw [World.cell?_alloc_at _ _ _ _ rfl, List.getElem?_toArray]
        exact hi
      case c22 => simp
      case c32 => simp; omega
      intro v2 y2 R2 bw
      have H2 : Hid (RowB (w.heap.size + 1) y2 v2 ([xa] ++ [xb]) ∧ Below (w.heap.size + 1) (w.alloc (.cells #[.int .i64 op, .int .i64 key, .int .i64 lo, .int .i64 hi, .string t, .slice none 0 0] 26)) y2) := ⟨R2, bw _ _ (Nat.le_refl _) (K2.out.2.alloc t2 _)⟩
      have D2 : ∀ o, y2.cell? ⟨w.heap.size, o, none⟩ = (w.alloc (.cells #[.int .i64 op, .int .i64 key, .int .i64 lo, .int .i64 hi, .string t, .slice none 0 0] 26)).cell? ⟨w.heap.size, o, none⟩ := fun o => H2.out.2.cell (by simp)
      have T2 : w.heap.size < y2.heap.size := by have := H2.out.2.size; simp at this; omega
      clear R2 bw K2 d2 t2 t2'
      obtain ⟨ao2, ca2, rfl⟩ := H2.out.1.slice
      go_wp2
      go_ret
      refine ⟨_, rfl, ?_, (((Below.refl _ _).alloc (Nat.le_refl _) _).trans (H2.out.2.mono (Nat.le_succ _)))⟩
      rw [HL.out]
      exact H2.out.1.mono (Nat.le_succ _)
  · rw [if_neg hlo] at HL
    by_cases hhi : hi < 99
    · rw [if_pos hhi] at HL
      go_wp2_with fail
      refine (cC _).mono ?_
      rintro e u2 ⟨rfl, hb2⟩
      have K2 : Hid (RowB (w.heap.size + 1) u2 _ [xa] ∧ Below (w.heap.size + 1) (w.alloc (.cells #[.int .i64 op, .int .i64 key, .int .i64 lo, .int .i64 hi, .string t, .slice none 0 0] 26)) u2) := ⟨H1.out.1.below hb2, H1.out.2.trans (hb2.mono (by have := H1.out.2.size; simp at this ⊢; omega))⟩
      have d2 : ∀ o, u2.cell? ⟨w.heap.size, o, none⟩ = (w.alloc (.cells #[.int .i64 op, .int .i64 key, .int .i64 lo, .int .i64 hi, .string t, .slice none 0 0] 26)).cell? ⟨w.heap.size, o, none⟩ := fun o => K2.out.2.cell (by simp)
      have t2 : w.heap.size + 1 ≤ u2.heap.size := by have := K2.out.2.size; simp at this; omega
      have t2' : w.heap.size < u2.heap.size := by omega
      clear hb2 H1 f1 l1 l1'
      go_wp2_with (at_builtin; refine append_box rfl _ _ rfl (w.heap.size + 1) _ [xa] rfl (K2.out.1.below ((Below.refl _ _).alloc (Nat.le_refl _) _)) (xc, none, 0) (NC _ _) u2.heap.size rfl ?c12 ?c22 ?c32 ?_)
      case c12 =>
        intro i u hi
        rw [World.cell?_alloc_at _ _ _ _ rfl, List.getElem?_toArray]
        exact hi
      case c22 => simp
      case c32 => simp; omega
      intro v2 y2 R2 bw
      have H2 : Hid (RowB (w.heap.size + 1) y2 v2 ([xa] ++ [xc]) ∧ Below (w.heap.size + 1) (w.alloc (.cells #[.int .i64 op, .int .i64 key, .int .i64 lo, .int .i64 hi, .string t, .slice none 0 0] 26)) y2) := ⟨R2, bw _ _ (Nat.le_refl _) (K2.out.2.alloc t2 _)⟩
      have D2 : ∀ o, y2.cell? ⟨w.heap.size, o, none⟩ = (w.alloc (.cells #[.int .i64 op, .int .i64 key, .int .i64 lo, .int .i64 hi, .string t, .slice none 0 0] 26)).cell? ⟨w.heap.size, o, none⟩ := fun o => H2.out.2.cell (by simp)
      have T2 : w.heap.size < y2.heap.size := by have := H2.out.2.size; simp at this; omega
      clear R2 bw K2 d2 t2 t2'
      obtain ⟨ao2, ca2, rfl⟩ := H2.out.1.slice
      go_wp2
      go_ret
      refine ⟨_, rfl, ?_, (((Below.refl _ _).alloc (Nat.le_refl _) _).trans (H2.out.2.mono (Nat.le_succ _)))⟩
      rw [HL.out]
      exact H2.out.1.mono (Nat.le_succ _)
    · rw [if_neg hhi] at HL
      go_wp2
      go_ret
      refine ⟨_, rfl, ?_, (((Below.refl _ _).alloc (Nat.le_refl _) _).trans (H1.out.2.mono (Nat.le_succ _)))⟩
      rw [HL.out]
      exact H1.out.1.mono (Nat.le_succ _)

end Go.Proofs.Ytflpdekifkcfkab
