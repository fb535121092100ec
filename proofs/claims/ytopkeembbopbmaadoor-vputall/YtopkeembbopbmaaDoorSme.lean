/- cardamomref1.Same: versions that are alike. -/
import Derived.Test.YtopkeembbopbmaaDoorVn
import Derived.BigQuiet
import Derived.Deep.QuietTactic
namespace Go.Proofs.YtopkeembbopbmaaDoor
open Go.RowKit
set_option maxRecDepth 100000
set_option linter.unusedVariables false

theorem bel_dN {B : Nat} {a w : World} (h : Below B a w) (q : Nat) : Below B a (w.drewN q) := ⟨h.os, h.tape, h.output, h.size, h.block⟩

/-- The first k are alike. -/
def Alike {α : Type} (l m : List α) (k : Nat) : Prop := ∀ j (h1 : j < l.length) (h2 : j < m.length), j < k → l[j] = m[j]
theorem Alike.zero {α : Type} (l m : List α) : Alike l m 0 := fun j _ _ h => by omega
theorem Alike.succ {α : Type} {l m : List α} {k : Nat} (h : Alike l m k) (h1 : k < l.length) (h2 : k < m.length) (e : l[k] = m[k]) : Alike l m (k + 1) := fun j a b hj => by
  by_cases hjk : j < k
  · exact h j a b hjk
  · have : j = k := by omega
    subst this
    exact e
theorem Alike.all {α : Type} {l m : List α} {k : Nat} (h : Alike l m k) (hk : l.length ≤ k) (hl : l.length = m.length) : l = m := List.ext_getElem hl (fun j a b => h j a b (by omega))

set_option maxHeartbeats 1000000 in
theorem st_ne (a b c x y z : Int) (h : ¬ (a = x ∧ b = y ∧ c = z)) (w : World) : (Op.equalIn 10000 23 (.agg #[.int .i64 a, .int .i64 b, .int .i64 c]) (.agg #[.int .i64 x, .int .i64 y, .int .i64 z])).run Tryd.prog w = .ok false w := by
  by_cases h0 : a = x
  · subst h0
    by_cases h1 : b = y
    · subst h1
      have h3 : (c == z) = false := by simp at h; simpa using h
      clear h
      go_simp
    · have h3 : (b == y) = false := by simpa using h1
      clear h h1
      go_simp
  · have h3 : (a == x) = false := by simpa using h0
    clear h h0
    go_simp

set_option maxHeartbeats 1000000 in
theorem at_ne (p q : Int × Int) (h : p ≠ q) (w : World) : (Op.equalIn 10000 42 (.agg #[.int .i64 p.1, .int .i64 p.2]) (.agg #[.int .i64 q.1, .int .i64 q.2])).run Tryd.prog w = .ok false w := by
  obtain ⟨a, b⟩ := p
  obtain ⟨x, y⟩ := q
  simp only
  by_cases h0 : a = x
  · subst h0
    have h3 : (b == y) = false := by simp at h; simpa using h
    clear h
    go_simp
  · have h3 : (a == x) = false := by simpa using h0
    clear h h0
    go_simp

/-- Are they alike? -/
def sm (u : Vn) (al : List (Int × Int)) (v : Vn) (bl' : List (Int × Int)) : Bool := decide (u.it = v.it ∧ (u.L = v.L ∧ u.R = v.R ∧ u.N = v.N) ∧ u.dead = v.dead ∧ u.tag = v.tag ∧ u.body = v.body ∧ al = bl')

theorem below2 (w : World) (o1 o2 : Obj) : Below w.heap.size w ((w.alloc o1).alloc o2) := ((Below.refl _ w).alloc (Nat.le_refl _) _).alloc (by simp) _

theorem toList_inj {a b : ByteArray} (h : a.toList = b.toList) : a = b := by
  rw [ByteArray.toList_eq, ByteArray.toList_eq] at h
  apply ByteArray.ext
  exact Array.toList_inj.1 h

set_option maxHeartbeats 4000000 in
theorem same15 (u v : Vn) (al bl' : List (Int × Int)) (w : World) (hA : Has w u al) (hB : Has w v bl') :
    Calls Tryd.prog 15 #[u.val, v.val] w fun r w' => r = .returned (.bool (sm u al v bl')) ∧ Below w.heap.size w w' := by
  obtain ⟨it, L, R, N, dead, ao, len, cap, tag, body⟩ := u
  obtain ⟨it2, L2, R2, N2, dead2, ao2, len2, cap2, tag2, body2⟩ := v
  have hA' : At w ao len al := hA
  have hB' : At w ao2 len2 bl' := hB
  have hl1 := hA'.1
  have hl2 := hB'.1
  have HA : Hid (At w ao len al ∧ At w ao2 len2 bl') := ⟨hA', hB'⟩
  have HS : Hid (sm ⟨it, L, R, N, dead, ao, len, cap, tag, body⟩ al ⟨it2, L2, R2, N2, dead2, ao2, len2, cap2, tag2, body2⟩ bl' = decide (it = it2 ∧ (L = L2 ∧ R = R2 ∧ N = N2) ∧ dead = dead2 ∧ tag = tag2 ∧ body = body2 ∧ al = bl')) := rfl
  generalize sm ⟨it, L, R, N, dead, ao, len, cap, tag, body⟩ al ⟨it2, L2, R2, N2, dead2, ao2, len2, cap2, tag2, body2⟩ bl' = S at *
  have HL : Hid (len = al.length ∧ len2 = bl'.length) := ⟨hl1, hl2⟩
  unfold Vn.val
  simp only
  clear hA hB hA' hB' hl1 hl2
  by_cases e1 : it = it2
  case neg =>
    have HF : Hid (S = false) := by show _ = _; rw [HS.out]; exact decide_eq_false (fun h => e1 h.1)
    have d1 : (it != it2) = true := by simpa using e1
    clear e1
    go_enter Tryd.func15, Tryd.ntmps15
    go_wp2
    go_ret
    exact ⟨by rw [HF.out]; rfl, below2 w _ _⟩
  case pos =>
  subst e1
  by_cases e2 : L = L2 ∧ R = R2 ∧ N = N2
  case neg =>
    have HF : Hid (S = false) := by show _ = _; rw [HS.out]; exact decide_eq_false (fun h => e2 h.2.1)
    have d2 := fun w => st_ne L R N L2 R2 N2 e2 w
    clear e2
    go_enter Tryd.func15, Tryd.ntmps15
    go_wp2
    go_ret
    exact ⟨by rw [HF.out]; rfl, below2 w _ _⟩
  case pos =>
  obtain ⟨rfl, rfl, rfl⟩ := e2
  by_cases e3 : dead = dead2
  case neg =>
    have HF : Hid (S = false) := by show _ = _; rw [HS.out]; exact decide_eq_false (fun h => e3 h.2.2.1)
    have d3 : (dead != dead2) = true := by simpa using e3
    have e4 : dead2 = !dead := by cases dead <;> cases dead2 <;> simp_all
    subst e4
    clear e3 d3
    cases dead
    · go_enter Tryd.func15, Tryd.ntmps15
      go_wp2
      go_ret
      exact ⟨by rw [HF.out]; rfl, below2 w _ _⟩
    · go_enter Tryd.func15, Tryd.ntmps15
      go_wp2
      go_ret
      exact ⟨by rw [HF.out]; rfl, below2 w _ _⟩
  case pos =>
  subst e3
  by_cases e4 : tag = tag2
  case neg =>
    have HF : Hid (S = false) := by show _ = _; rw [HS.out]; exact decide_eq_false (fun h => e4 h.2.2.2.1)
    have d4 : ¬ tag.toList = tag2.toList := fun h => e4 (toList_inj h)
    have d5 : (tag.toList == tag2.toList) = false := beq_eq_false_iff_ne.2 d4
    clear e4
    go_enter Tryd.func15, Tryd.ntmps15
    go_wp2
    go_ret
    exact ⟨by rw [HF.out]; rfl, below2 w _ _⟩
  case pos =>
  subst e4
  by_cases e5 : body = body2
  case neg =>
    have HF : Hid (S = false) := by show _ = _; rw [HS.out]; exact decide_eq_false (fun h => e5 h.2.2.2.2.1)
    have d4 : ¬ body.toList = body2.toList := fun h => e5 (toList_inj h)
    have d5 : (body.toList == body2.toList) = false := beq_eq_false_iff_ne.2 d4
    clear e5
    go_enter Tryd.func15, Tryd.ntmps15
    go_wp2
    go_ret
    exact ⟨by rw [HF.out]; rfl, below2 w _ _⟩
  case pos =>
  subst e5
  by_cases e6 : len = len2
  case neg =>
    have HF : Hid (S = false) := by show _ = _; rw [HS.out]; exact decide_eq_false (fun h => e6 (by rw [HL.out.1, HL.out.2, h.2.2.2.2.2]))
    have d4 : ((len : Int) != (len2 : Int)) = true := by simp; omega
    go_enter Tryd.func15, Tryd.ntmps15
    go_wp2
    go_ret
    exact ⟨by rw [HF.out]; rfl, below2 w _ _⟩
  case pos =>
  subst e6
  have HF : Hid (S = decide (al = bl')) := by
    show _ = _
    rw [HS.out, decide_eq_decide]
    exact ⟨fun h => h.2.2.2.2.2, fun h => ⟨rfl, ⟨rfl, rfl, rfl⟩, rfl, rfl, rfl, h⟩⟩
  obtain ⟨X, hX⟩ : ∃ X, X = (w.alloc (.cells #[.int .i64 it, .int .i64 L, .int .i64 R, .int .i64 N, .bool dead, .slice ao len cap, .string tag, .string body] 26)).alloc (.cells #[.int .i64 it, .int .i64 L, .int .i64 R, .int .i64 N, .bool dead, .slice ao2 len cap2, .string tag, .string body] 26) := ⟨_, rfl⟩
  have hbX : Below w.heap.size w X := by rw [hX]; exact below2 w _ _
  have x5 : X.cell? ⟨w.heap.size, 5, none⟩ = some (.slice ao len cap) := by rw [hX, World.cell?_alloc_past _ _ _ (hn := by simp)]; simp
  have y5 : X.cell? ⟨w.heap.size + 1, 5, none⟩ = some (.slice ao2 len cap2) := by rw [hX]; simp
  have hsX : w.heap.size + 1 < X.heap.size := by rw [hX]; simp
  have HX : Hid (X = _ ∧ Below w.heap.size w X) := ⟨hX, hbX⟩
  have HA2 : Hid (At X ao len al ∧ At X ao2 len bl') := ⟨HA.out.1.kept hbX, HA.out.2.kept hbX⟩
  clear hX hbX
  have hdf : decide (dead = dead) = true := by simp
  go_enter Tryd.func15, Tryd.ntmps15
  go_wp2_with fail
  have hlen : len ≤ 1000 := HA.out.1.2.1
  rw [← HX.out.1]
  go_loopw [5] (fun i wr => ∃ k : Nat, k ≤ len ∧ i = .int .i64 k ∧ Alike al bl' k ∧ Below X.heap.size X wr) (fun i _ => len - (intOf i).toNat)
  case atStart => exact ⟨0, Nat.zero_le _, rfl, Alike.zero _ _, Below.refl _ _⟩
  case round =>
    obtain ⟨k, hk, rfl, hal, hbel⟩ := hrel
    have HC : Hid (Alike al bl' k ∧ Below X.heap.size X wr) := ⟨hal, hbel⟩
    have c5 := (hbel.cell (p := ⟨w.heap.size, 5, none⟩) (by show w.heap.size < _; omega)).trans x5
    have c6 := (hbel.cell (p := ⟨w.heap.size + 1, 5, none⟩) hsX).trans y5
    by_cases hlt : k < len
    · have hk1 : k < al.length := by have := HL.out.1; omega
      have hk2 : k < bl'.length := by have := HL.out.2; omega
      obtain ⟨b1, o1, rfl, hc1⟩ := (HA2.out.1.kept hbel).2.2 (by omega)
      obtain ⟨b2, o2, rfl, hc2⟩ := (HA2.out.2.kept hbel).2.2 (by omega)
      obtain ⟨f0, f1⟩ := hc1 k hlt
      obtain ⟨g0, g1⟩ := hc2 k hlt
      have ea : al.getD k (0, 0) = al[k] := by rw [List.getD_eq_getElem?_getD, List.getElem?_eq_getElem hk1]; rfl
      have eb : bl'.getD k (0, 0) = bl'[k] := by rw [List.getD_eq_getElem?_getD, List.getElem?_eq_getElem hk2]; rfl
      have HKm : Hid (al[k] = bl'[k] → Alike al bl' (k + 1)) := fun e => hal.succ hk1 hk2 e
      have HKn : Hid (al[k] ≠ bl'[k] → decide (al = bl') = false) := fun e => decide_eq_false (fun x => by subst x; exact e rfl)
      rw [ea] at f0 f1
      rw [eb] at g0 g1
      clear ea eb hc1 hc2 hal hbel
      generalize al[k] = p at *
      generalize bl'[k] = q at *
      obtain ⟨pa, pb⟩ := p
      by_cases hxy : (pa, pb) = q
      · subst hxy
        simp only at f0 f1 g0 g1
        go_wp2_with fail
        go_quiet (fail)
        go_wp2
        go_roundw
        case rel => exact ⟨k + 1, by omega, by go_num, HKm.out (by first | rfl | trivial | simp), bel_dN HC.out.2 _⟩
        case measure => simp [intOf]; omega
      · obtain ⟨qa, qb⟩ := q
        have hne := fun w => at_ne (pa, pb) (qa, qb) hxy w
        have HF2 : Hid (S = false) := by show _ = _; rw [HF.out]; exact HKn.out hxy
        simp only at f0 f1 g0 g1 hne
        clear hxy HKn HKm
        go_wp2_with fail
        go_quiet (fail)
        go_wp2
        go_ret
        exact ⟨by rw [HF2.out]; rfl, bel_dN (HX.out.2.trans (HC.out.2.mono HX.out.2.size)) _⟩
    · have HF2 : Hid (S = true) := by
        show _ = _
        rw [HF.out]
        exact decide_eq_true (hal.all (by have := HL.out.1; omega) (by rw [← HL.out.1, ← HL.out.2]))
      clear hal hbel
      go_wp2
      go_ret
      exact ⟨by rw [HF2.out]; rfl, HX.out.2.trans (HC.out.2.mono HX.out.2.size)⟩

end Go.Proofs.YtopkeembbopbmaaDoor
