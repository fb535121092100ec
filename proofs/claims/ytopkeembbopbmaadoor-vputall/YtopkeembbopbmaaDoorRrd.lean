/- The document's reader: numbers, texts. -/
import Derived.Test.YtopkeembbopbmaaDoorRfn
import Derived.Test.YtopkeembbopbmaaDoorTxt
import Derived.Test.YtopkeembbopbmaaDoorKp
import Derived.Test.YtopkeembbopbmaaDoorRvp
import Derived.Test.YtopkeembbopbmaaDoorRdp
namespace Go.Proofs.YtopkeembbopbmaaDoor
open Go.RowKit
set_option maxRecDepth 100000
set_option linter.unusedVariables false

/-- The document's reader at block rb: what is left, or that there was none. -/
def RsD (w : World) (rb : Nat) (o : Option (List Nat)) : Prop :=
  w.frozen? ⟨rb, 0, none⟩ = false ∧ w.frozen? ⟨rb, 1, none⟩ = false ∧ ∃ ao n cap l bad, w.cell? ⟨rb, 0, none⟩ = some (.slice ao n cap) ∧ w.cell? ⟨rb, 1, none⟩ = some (.bool bad) ∧ n ≤ 1000 ∧ Rb w ao n cap l ∧ (∀ b off, 0 < n → ao = some ⟨b, off, none⟩ → b + 1 < rb) ∧
    match o with
    | some l' => l = l' ∧ bad = false
    | none => bad = true

theorem RsD.lt {w : World} {rb : Nat} {o : Option (List Nat)} (h : RsD w rb o) : rb < w.heap.size := by
  obtain ⟨_, _, ao, n, cap, l, bad, h0, _⟩ := h
  exact World.block_lt_of_cell? w ⟨rb, 0, none⟩ h0

/-- What is changed does not lie there, nor where what is left lies. -/
theorem RsD.kept {P : Nat → Prop} {w w' : World} {rb : Nat} {o : Option (List Nat)} (h : RsD w rb o) (hk : Kept P w w') (h1 : P rb) (hb : ∀ k, k + 1 < rb → P k) : RsD w' rb o := by
  have hlt := h.lt
  obtain ⟨f0, f1, ao, n, cap, l, bad, h0, h1', h2, hr, h3, h4⟩ := h
  refine ⟨(hk.frozen hlt h1).trans f0, (hk.frozen hlt h1).trans f1, ao, n, cap, l, bad, (hk.cell hlt h1).trans h0, (hk.cell hlt h1).trans h1', h2, ?_, h3, h4⟩
  refine ⟨hr.lt, hr.len, hr.le, hr.max, hr.nil, fun h0 => ?_⟩
  obtain ⟨b, off, e, hc⟩ := hr.at_ h0
  have hlt := h3 b off h0 e
  exact ⟨b, off, e, fun j hj => (hk.cell (by omega) (hb b hlt)).trans (hc j hj)⟩

set_option maxHeartbeats 1000000 in
theorem dnum_ok (rb : Nat) (bb off n cap : Nat) (l : List Nat) (v k : Nat) (w : World) (h0 : w.cell? ⟨rb, 0, none⟩ = some (.slice (some ⟨bb, off, none⟩) n cap)) (h1 : w.cell? ⟨rb, 1, none⟩ = some (.bool false)) (f0 : w.frozen? ⟨rb, 0, none⟩ = false) (hr : Rb w (some ⟨bb, off, none⟩) n cap l) (hn : n ≤ 1000) (ht : take5 l = some (v, k)) (hk : k ≤ n) :
    Calls Tryd.prog 22 #[.pointer (some ⟨rb, 0, none⟩)] w fun r w' => r = .returned (.int .i64 v) ∧ Cut w w' rb bb off n cap k := by
  have c1 := rnum13 _ n cap l w hr (by omega)
  rw [ht] at c1
  have hle := hr.le
  clear hr
  go_enter Tryd.func22, Tryd.ntmps22
  go_wp2_with fail
  refine c1.mono ?_
  rintro r w1 ⟨rfl, h2, _⟩
  obtain rfl := h2 v k (by first | rfl | trivial)
  clear c1 h2
  go_wp2_with fail
  all_goals
    go_ret
    refine ⟨rfl, w1, _, _, Below.refl _ _, rfl, by omega, by omega, fun hq => ?_⟩
    first | rfl | (exfalso; omega)

set_option maxHeartbeats 1000000 in
theorem dnum_no (rb : Nat) (ao : Option Addr) (n cap : Nat) (l : List Nat) (bad : Bool) (w : World) (h0 : w.cell? ⟨rb, 0, none⟩ = some (.slice ao n cap)) (h1 : w.cell? ⟨rb, 1, none⟩ = some (.bool bad)) (f1 : w.frozen? ⟨rb, 1, none⟩ = false) (hr : Rb w ao n cap l) (hn : n ≤ 1000) (ht : take5 l = none) :
    Calls Tryd.prog 22 #[.pointer (some ⟨rb, 0, none⟩)] w fun r w' => r = .returned (.int .i64 0) ∧ w' = w.setCell ⟨rb, 1, none⟩ (.bool true) := by
  have c1 := rnum13 _ n cap l w hr (by omega)
  rw [ht] at c1
  clear hr
  go_enter Tryd.func22, Tryd.ntmps22
  go_wp2_with fail
  refine c1.mono ?_
  rintro r w1 ⟨rfl, _, h2⟩
  obtain rfl := h2 (by first | rfl | trivial)
  clear c1 h2
  go_wp2
  go_ret
  exact ⟨rfl, rfl⟩

set_option maxHeartbeats 1000000 in
theorem dnum_bad (rb : Nat) (ao : Option Addr) (n cap : Nat) (l : List Nat) (v k : Nat) (w : World) (h0 : w.cell? ⟨rb, 0, none⟩ = some (.slice ao n cap)) (h1 : w.cell? ⟨rb, 1, none⟩ = some (.bool true)) (hr : Rb w ao n cap l) (hn : n ≤ 1000) (ht : take5 l = some (v, k)) :
    Calls Tryd.prog 22 #[.pointer (some ⟨rb, 0, none⟩)] w fun r w' => r = .returned (.int .i64 0) ∧ w' = w := by
  have c1 := rnum13 _ n cap l w hr (by omega)
  rw [ht] at c1
  clear hr
  go_enter Tryd.func22, Tryd.ntmps22
  go_wp2_with fail
  refine c1.mono ?_
  rintro r w1 ⟨rfl, h2, _⟩
  obtain rfl := h2 v k (by first | rfl | trivial)
  clear c1 h2
  go_wp2
  go_ret
  exact ⟨rfl, rfl⟩

set_option maxHeartbeats 1000000 in
theorem dtext_ok (rb : Nat) (bb off n cap : Nat) (l : List Nat) (v : List Nat) (k : Nat) (w : World) (h0 : w.cell? ⟨rb, 0, none⟩ = some (.slice (some ⟨bb, off, none⟩) n cap)) (h1 : w.cell? ⟨rb, 1, none⟩ = some (.bool false)) (f0 : w.frozen? ⟨rb, 0, none⟩ = false) (hr : Rb w (some ⟨bb, off, none⟩) n cap l) (hn : n ≤ 1000) (ht : tkText l = some (v, k)) (hk : k ≤ n) :
    Calls Tryd.prog 23 #[.pointer (some ⟨rb, 0, none⟩)] w fun r w' => r = .returned (.string (strs v)) ∧ Cut w w' rb bb off n cap k := by
  have c1 := rtext15 _ n cap l w hr (by omega)
  rw [ht] at c1
  have hle := hr.le
  clear hr
  go_enter Tryd.func23, Tryd.ntmps23
  go_wp2_with fail
  refine c1.mono ?_
  rintro r w1 ⟨rfl, h2, _⟩
  obtain rfl := h2 v k (by first | rfl | trivial)
  clear c1 h2
  go_wp2_with fail
  all_goals
    go_ret
    refine ⟨rfl, w1, _, _, Below.refl _ _, rfl, by omega, by omega, fun hq => ?_⟩
    first | rfl | (exfalso; omega)

set_option maxHeartbeats 1000000 in
theorem dtext_no (rb : Nat) (ao : Option Addr) (n cap : Nat) (l : List Nat) (bad : Bool) (w : World) (h0 : w.cell? ⟨rb, 0, none⟩ = some (.slice ao n cap)) (h1 : w.cell? ⟨rb, 1, none⟩ = some (.bool bad)) (f1 : w.frozen? ⟨rb, 1, none⟩ = false) (hr : Rb w ao n cap l) (hn : n ≤ 1000) (ht : tkText l = none) :
    Calls Tryd.prog 23 #[.pointer (some ⟨rb, 0, none⟩)] w fun r w' => r = .returned (.string ⟨#[]⟩) ∧ w' = w.setCell ⟨rb, 1, none⟩ (.bool true) := by
  have c1 := rtext15 _ n cap l w hr (by omega)
  rw [ht] at c1
  clear hr
  go_enter Tryd.func23, Tryd.ntmps23
  go_wp2_with fail
  refine c1.mono ?_
  rintro r w1 ⟨rfl, _, h2⟩
  obtain rfl := h2 (by first | rfl | trivial)
  clear c1 h2
  go_wp2
  go_ret
  exact ⟨rfl, rfl⟩

set_option maxHeartbeats 1000000 in
theorem dtext_bad (rb : Nat) (ao : Option Addr) (n cap : Nat) (l : List Nat) (v : List Nat) (k : Nat) (w : World) (h0 : w.cell? ⟨rb, 0, none⟩ = some (.slice ao n cap)) (h1 : w.cell? ⟨rb, 1, none⟩ = some (.bool true)) (hr : Rb w ao n cap l) (hn : n ≤ 1000) (ht : tkText l = some (v, k)) :
    Calls Tryd.prog 23 #[.pointer (some ⟨rb, 0, none⟩)] w fun r w' => r = .returned (.string ⟨#[]⟩) ∧ w' = w := by
  have c1 := rtext15 _ n cap l w hr (by omega)
  rw [ht] at c1
  clear hr
  go_enter Tryd.func23, Tryd.ntmps23
  go_wp2_with fail
  refine c1.mono ?_
  rintro r w1 ⟨rfl, h2, _⟩
  obtain rfl := h2 v k (by first | rfl | trivial)
  clear c1 h2
  go_wp2
  go_ret
  exact ⟨rfl, rfl⟩

/-- What is left behind a part that was read. -/
theorem cut_rsd {w w' : World} {rb bb off n cap k : Nat} {l : List Nat} (h : Cut w w' rb bb off n cap k) (hs : RsD w rb (some l)) (h0 : w.cell? ⟨rb, 0, none⟩ = some (.slice (some ⟨bb, off, none⟩) n cap)) (hk : k ≤ n) (h0n : 0 < n) : RsD w' rb (some (l.drop k)) ∧ Kept (But rb) w w' := by
  obtain ⟨w1, x, c, hb, rfl, hc1, hc2, hx⟩ := h
  have hlt := hs.lt
  obtain ⟨f0, f1, ao, n', cap', l2, bad, g0, g1, g2, hr, g3, rfl, rfl⟩ := hs
  rw [h0] at g0
  cases g0
  have hle := hr.le
  have hmx := hr.max
  refine ⟨⟨?_, ?_, some x, n - k, c, l2.drop k, false, ?_, ?_, by omega, ⟨?_, ?_, by omega, by omega, (fun h => by cases h), fun hq => ?_⟩, ?_, rfl, rfl⟩, ?_⟩
  · rw [World.frozen?_setCell]; exact (hb.frozen (p := ⟨rb, 0, none⟩) hlt).trans f0
  · rw [World.frozen?_setCell]; exact (hb.frozen (p := ⟨rb, 1, none⟩) hlt).trans f1
  · exact World.cell?_setCell_same _ _ _ ((hb.cell (p := ⟨rb, 0, none⟩) hlt).trans h0)
  · rw [World.cell?_setCell_other _ _ _ _ (by simp)]; exact (hb.cell (p := ⟨rb, 1, none⟩) hlt).trans g1
  · exact fun x hx => hr.lt x (List.mem_of_mem_drop hx)
  · have := hr.len; rw [List.length_drop]; omega
  · obtain ⟨b2, off2, e2, hcc⟩ := hr.at_ h0n
    cases e2
    obtain rfl := hx (by omega)
    refine ⟨bb, off + k, rfl, fun j hj => ?_⟩
    have hblt : bb + 1 < rb := g3 bb off h0n rfl
    rw [World.cell?_setCell_other _ _ _ _ (by intro e; have := congrArg Addr.block e; simp at this; omega), Nat.add_assoc]
    refine ((hb.cell (p := ⟨bb, off + (k + j), none⟩) (by show bb < _; omega)).trans (hcc (k + j) (by omega))).trans ?_
    simp [List.getD]
  · intro b' off' hq e
    cases e
    have e := hx (by omega)
    cases e
    exact g3 bb off h0n rfl
  · exact (Kept.of_below hb).setCell (p := ⟨rb, 0, none⟩) (fun k _ hk => hk) _

/-- There was none. -/
theorem bad_rsd {w : World} {rb : Nat} {o : Option (List Nat)} (hs : RsD w rb o) : RsD (w.setCell ⟨rb, 1, none⟩ (.bool true)) rb none ∧ Kept (But rb) w (w.setCell ⟨rb, 1, none⟩ (.bool true)) := by
  have hlt := hs.lt
  obtain ⟨f0, f1, ao, n, cap, l, bad, g0, g1, g2, hr, g3, _⟩ := hs
  refine ⟨⟨by rw [World.frozen?_setCell]; exact f0, by rw [World.frozen?_setCell]; exact f1, ao, n, cap, l, true, ?_, ?_, g2, ⟨hr.lt, hr.len, hr.le, hr.max, hr.nil, fun h0 => ?_⟩, g3, rfl⟩, (Kept.refl (But rb) w).setCell (p := ⟨rb, 1, none⟩) (fun k _ hk => hk) _⟩
  · rw [World.cell?_setCell_other _ _ _ _ (by simp)]; exact g0
  · exact World.cell?_setCell_same _ _ _ g1
  · obtain ⟨b, off, e, hc⟩ := hr.at_ h0
    have := g3 b off h0 e
    exact ⟨b, off, e, fun j hj => by rw [World.cell?_setCell_other _ _ _ _ (by intro q; have := congrArg Addr.block q; simp at this; omega)]; exact hc j hj⟩

/-- The document's reader: a number. -/
theorem dnum22 (rb : Nat) (o : Option (List Nat)) (w : World) (hs : RsD w rb o) :
    Calls Tryd.prog 22 #[.pointer (some ⟨rb, 0, none⟩)] w fun r w' => ∃ v : Nat, r = .returned (.int .i64 v) ∧ v < 34359738368 ∧ (∀ x l, o.bind rd = some (x, l) → v = x) ∧ (o.bind rd = none → v = 0) ∧ RsD w' rb ((o.bind rd).map (·.2)) ∧ Kept (But rb) w w' := by
  have hs' := hs
  obtain ⟨f0, f1, ao, n, cap, l, bad, g0, g1, g2, hr, g3, h4⟩ := hs'
  have hlen := hr.len
  cases ht : take5 l with
  | none =>
    refine (dnum_no rb ao n cap l bad w g0 g1 f1 hr g2 ht).mono ?_
    rintro r w' ⟨rfl, rfl⟩
    obtain ⟨q1, q2⟩ := bad_rsd hs
    have e : o.bind rd = none := by
      cases o with
      | none => rfl
      | some l' => obtain ⟨rfl, _⟩ := h4; show rd l = none; rw [rd_take, ht]
    exact ⟨0, rfl, by omega, (fun _ _ h => by rw [e] at h; cases h), (fun _ => rfl), by rw [e]; exact q1, q2⟩
  | some vk =>
    obtain ⟨v, k⟩ := vk
    obtain ⟨q1, q2, _, q4, _⟩ := take5_le hr.lt ht
    cases o with
    | none =>
      obtain rfl : bad = true := h4
      refine (dnum_bad rb ao n cap l v k w g0 g1 hr g2 ht).mono ?_
      rintro r w' ⟨rfl, rfl⟩
      exact ⟨0, rfl, by omega, (fun _ _ h => by cases h), (fun _ => rfl), hs, Kept.refl _ _⟩
    | some l' =>
      obtain ⟨rfl, rfl⟩ := h4
      obtain ⟨bb, off, rfl, _⟩ := hr.at_ (by omega)
      refine (dnum_ok rb bb off n cap l v k w g0 g1 f0 hr g2 ht (by omega)).mono ?_
      rintro r w' ⟨rfl, hc⟩
      obtain ⟨h1, h2⟩ := cut_rsd hc hs g0 (by omega) (by omega)
      have e : (some l).bind rd = some (v, l.drop k) := by show rd l = _; rw [rd_take, ht]
      exact ⟨v, rfl, q4, (fun x l' h => by rw [e] at h; cases h; rfl), (fun h => by rw [e] at h; cases h), by rw [e]; exact h1, h2⟩

/-- The document's reader: a text. -/
theorem dtext23 (rb : Nat) (o : Option (List Nat)) (w : World) (hs : RsD w rb o) :
    Calls Tryd.prog 23 #[.pointer (some ⟨rb, 0, none⟩)] w fun r w' => ∃ t : ByteArray, r = .returned (.string t) ∧ t.size ≤ 1000 ∧ (∀ x l, o.bind rt = some (x, l) → t = strs x ∧ bl t = x) ∧ RsD w' rb ((o.bind rt).map (·.2)) ∧ Kept (But rb) w w' := by
  have hs' := hs
  obtain ⟨f0, f1, ao, n, cap, l, bad, g0, g1, g2, hr, g3, h4⟩ := hs'
  have hlen := hr.len
  cases ht : tkText l with
  | none =>
    refine (dtext_no rb ao n cap l bad w g0 g1 f1 hr g2 ht).mono ?_
    rintro r w' ⟨rfl, rfl⟩
    obtain ⟨q1, q2⟩ := bad_rsd hs
    have e : o.bind rt = none := by
      cases o with
      | none => rfl
      | some l' => obtain ⟨rfl, _⟩ := h4; show rt l = none; rw [rt_tk hr.lt, ht]
    exact ⟨_, rfl, by show 0 ≤ 1000; omega, (fun _ _ h => by rw [e] at h; cases h), by rw [e]; exact q1, q2⟩
  | some vk =>
    obtain ⟨t, k⟩ := vk
    obtain ⟨q1, q2, q3, q4⟩ := tkText_le hr.lt ht
    cases o with
    | none =>
      obtain rfl : bad = true := h4
      refine (dtext_bad rb ao n cap l t k w g0 g1 hr g2 ht).mono ?_
      rintro r w' ⟨rfl, rfl⟩
      exact ⟨_, rfl, by show 0 ≤ 1000; omega, (fun _ _ h => by cases h), hs, Kept.refl _ _⟩
    | some l' =>
      obtain ⟨rfl, rfl⟩ := h4
      obtain ⟨bb, off, rfl, _⟩ := hr.at_ (by omega)
      refine (dtext_ok rb bb off n cap l t k w g0 g1 f0 hr g2 ht (by omega)).mono ?_
      rintro r w' ⟨rfl, hc⟩
      obtain ⟨h1, h2⟩ := cut_rsd hc hs g0 (by omega) (by omega)
      have e : (some l).bind rt = some (t, l.drop k) := by show rt l = _; rw [rt_tk hr.lt, ht]
      exact ⟨_, rfl, by rw [strs_size]; omega, (fun x l' h => by rw [e] at h; cases h; exact ⟨rfl, bl_strs _ q4⟩), by rw [e]; exact h1, h2⟩

end Go.Proofs.YtopkeembbopbmaaDoor
