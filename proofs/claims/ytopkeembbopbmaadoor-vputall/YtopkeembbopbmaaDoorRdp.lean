/- The program's reader: what fails, numbers, texts. -/
import Derived.Test.YtopkeembbopbmaaDoorMay
import Derived.Test.YtopkeembbopbmaaDoorEasP
import Derived.Test.YtopkeembbopbmaaDoorTxt
namespace Go.Proofs.YtopkeembbopbmaaDoor
open Go.RowKit
set_option maxRecDepth 100000
set_option linter.unusedVariables false

/-- The program's reader at block rb: what is left, or a fault that lies there. -/
def RsP (w : World) (rb : Nat) (o : Option (List Nat)) : Prop :=
  w.frozen? ⟨rb, 0, none⟩ = false ∧ w.frozen? ⟨rb, 1, none⟩ = false ∧ ∃ ao n cap ev, w.cell? ⟨rb, 0, none⟩ = some (.slice ao n cap) ∧ w.cell? ⟨rb, 1, none⟩ = some ev ∧ n ≤ 1000 ∧ (∀ b off, 0 < n → ao = some ⟨b, off, none⟩ → b + 1 < rb) ∧
    match o with
    | some l => Rb w ao n cap l ∧ ev = .nilIface
    | none => ao = none ∧ n = 0 ∧ cap = 0 ∧ ∃ k, FauP k ev

theorem RsP.lt {w : World} {rb : Nat} {o : Option (List Nat)} (h : RsP w rb o) : rb < w.heap.size := by
  obtain ⟨_, _, ao, n, cap, ev, h0, _⟩ := h
  exact World.block_lt_of_cell? w ⟨rb, 0, none⟩ h0

/-- What is changed lies behind. -/
theorem RsP.below {w w' : World} {rb : Nat} {o : Option (List Nat)} (h : RsP w rb o) {B : Nat} (hb : Below B w w') (hB : rb < B) : RsP w' rb o := by
  obtain ⟨f0, f1, ao, n, cap, ev, h0, h1, h2, h3, h4⟩ := h
  refine ⟨(hb.frozen hB).trans f0, (hb.frozen hB).trans f1, ao, n, cap, ev, (hb.cell hB).trans h0, (hb.cell hB).trans h1, h2, h3, ?_⟩
  cases o with
  | none => exact h4
  | some l =>
    obtain ⟨hr, he⟩ := h4
    refine ⟨⟨hr.lt, hr.len, hr.le, hr.max, hr.nil, fun h0 => ?_⟩, he⟩
    obtain ⟨b, off, e, hc⟩ := hr.at_ h0
    have hlt := h3 b off h0 e
    exact ⟨b, off, e, fun j hj => (hb.cell (p := ⟨b, off + j, none⟩) (by show b < B; omega)).trans (hc j hj)⟩

/-- What is changed does not lie there, nor where what is left lies. -/
theorem RsP.kept {P : Nat → Prop} {w w' : World} {rb : Nat} {o : Option (List Nat)} (h : RsP w rb o) (hk : Kept P w w') (h1 : P rb) (hb : ∀ k, k + 1 < rb → P k) : RsP w' rb o := by
  have hlt := h.lt
  obtain ⟨f0, f1, ao, n, cap, ev, h0, h1', h2, h3, h4⟩ := h
  refine ⟨(hk.frozen hlt h1).trans f0, (hk.frozen hlt h1).trans f1, ao, n, cap, ev, (hk.cell hlt h1).trans h0, (hk.cell hlt h1).trans h1', h2, h3, ?_⟩
  cases o with
  | none => exact h4
  | some l =>
    obtain ⟨hr, he⟩ := h4
    refine ⟨⟨hr.lt, hr.len, hr.le, hr.max, hr.nil, fun h0 => ?_⟩, he⟩
    obtain ⟨b, off, e, hc⟩ := hr.at_ h0
    have hlt := h3 b off h0 e
    exact ⟨b, off, e, fun j hj => (hk.cell (by omega) (hb b hlt)).trans (hc j hj)⟩

set_option maxHeartbeats 1000000 in
theorem fail_first (rb : Nat) (x0 : Value) (T : TypeId) (x : Value) (w : World) (h0 : w.cell? ⟨rb, 0, none⟩ = some x0) (h1 : w.cell? ⟨rb, 1, none⟩ = some .nilIface) (f0 : w.frozen? ⟨rb, 0, none⟩ = false) (f1 : w.frozen? ⟨rb, 1, none⟩ = false) :
    Calls Tryd.prog 34 #[.pointer (some ⟨rb, 0, none⟩), .iface T x] w fun r w' => r = .returned (.tuple #[]) ∧ w' = (w.setCell ⟨rb, 0, none⟩ (.slice none 0 0)).setCell ⟨rb, 1, none⟩ (.iface T x) := by
  go_enter Tryd.func34, Tryd.ntmps34
  go_wp2
  refine bodyPost_end (v := .tuple #[]) (by simp [results, Tryd.results34, go_sem]) rfl ⟨rfl, rfl⟩

set_option maxHeartbeats 1000000 in
theorem fail_more (rb : Nat) (T : TypeId) (x ev : Value) (w : World) (h1 : w.cell? ⟨rb, 1, none⟩ = some (.iface T x)) :
    Calls Tryd.prog 34 #[.pointer (some ⟨rb, 0, none⟩), ev] w fun r w' => r = .returned (.tuple #[]) ∧ w' = w := by
  go_enter Tryd.func34, Tryd.ntmps34
  go_wp2
  refine bodyPost_end (v := .tuple #[]) (by simp [results, Tryd.results34, go_sem]) rfl ⟨rfl, rfl⟩

/-- A fault: nothing is left. -/
theorem fail34 (rb : Nat) (o : Option (List Nat)) (k : Nat) (ev : Value) (w : World) (hr : RsP w rb o) (hk : FauP k ev) :
    Calls Tryd.prog 34 #[.pointer (some ⟨rb, 0, none⟩), ev] w fun r w' => r = .returned (.tuple #[]) ∧ RsP w' rb none ∧ Kept (But rb) w w' := by
  have hr' := hr
  obtain ⟨f0, f1, ao, n, cap, e, h0, h1, h2, h3, h4⟩ := hr
  cases o with
  | none =>
    obtain ⟨rfl, rfl, rfl, k', hk'⟩ := h4
    obtain ⟨T, x, rfl⟩ := hk'.iface
    refine (fail_more rb T x ev w h1).mono ?_
    rintro r w' ⟨rfl, rfl⟩
    exact ⟨rfl, hr', Kept.refl _ _⟩
  | some l =>
    obtain ⟨_, rfl⟩ := h4
    obtain ⟨T, x, rfl⟩ := hk.iface
    refine (fail_first rb _ T x w h0 h1 f0 f1).mono ?_
    rintro r w' ⟨rfl, rfl⟩
    refine ⟨rfl, ⟨by simpa using f0, by simpa using f1, none, 0, 0, _, ?_, ?_, by omega, (fun _ _ h => by omega), rfl, rfl, rfl, k, hk⟩, ?_⟩
    · rw [World.cell?_setCell_other _ _ _ _ (by simp)]
      exact World.cell?_setCell_same _ _ _ h0
    · exact World.cell?_setCell_same _ _ _ (u := .nilIface) (by rw [World.cell?_setCell_other _ _ _ _ (by simp)]; exact h1)
    · exact ((Kept.refl (But rb) w).setCell (p := ⟨rb, 0, none⟩) (fun k _ hk => hk) _).setCell (p := ⟨rb, 1, none⟩) (fun k _ hk => hk) _

/-- What stands behind k bytes is left. -/
def Cut (w w' : World) (rb bb off n cap k : Nat) : Prop := ∃ w1 x c, Below w.heap.size w w1 ∧ w' = w1.setCell ⟨rb, 0, none⟩ (.slice (some x) (n - k) c) ∧ n - k ≤ c ∧ c ≤ cap ∧ (k < n → x = ⟨bb, off + k, none⟩)

set_option maxHeartbeats 1000000 in
theorem num30_ok (a b : Addr) (rb : Nat) (bb off n cap : Nat) (l : List Nat) (v k : Nat) (p : ByteArray) (w : World) (hV : Vars w a b) (h0 : w.cell? ⟨rb, 0, none⟩ = some (.slice (some ⟨bb, off, none⟩) n cap)) (f0 : w.frozen? ⟨rb, 0, none⟩ = false) (hr : Rb w (some ⟨bb, off, none⟩) n cap l) (hn : n ≤ 1000) (ht : take5 l = some (v, k)) (hk : k ≤ n) :
    Calls Tryd.prog 30 #[.pointer (some ⟨rb, 0, none⟩), .string p] w fun r w' => r = .returned (.int .i64 v) ∧ Cut w w' rb bb off n cap k := by
  have c1 := take12 a _ n cap l w hr (by omega) hV.n
  rw [ht] at c1
  have hle := hr.le
  have hlt : rb < w.heap.size := World.block_lt_of_cell? w ⟨rb, 0, none⟩ h0
  clear hr hV
  go_enter Tryd.func30, Tryd.ntmps30
  go_wp2_with fail
  refine c1.mono ?_
  rintro r w1 ⟨hb, h1, _⟩
  obtain rfl := h1 v k (by first | rfl | trivial)
  have g0 : w1.cell? ⟨rb, 0, none⟩ = some (.slice (some ⟨bb, off, none⟩) n cap) := (hb.cell (p := ⟨rb, 0, none⟩) hlt).trans h0
  have g1 : w1.frozen? ⟨rb, 0, none⟩ = false := (hb.frozen (p := ⟨rb, 0, none⟩) hlt).trans f0
  have HB : Hid (Below w.heap.size w w1) := hb
  clear c1 h1 hb h0 f0
  go_wp2_with fail
  all_goals
    go_ret
    refine ⟨rfl, w1, _, _, HB.out, rfl, by omega, by omega, fun hq => ?_⟩
    first | rfl | (exfalso; omega)

set_option maxHeartbeats 1000000 in
theorem text33_ok (a b : Addr) (rb : Nat) (bb off n cap : Nat) (l t : List Nat) (k : Nat) (p : ByteArray) (w : World) (hV : Vars w a b) (h0 : w.cell? ⟨rb, 0, none⟩ = some (.slice (some ⟨bb, off, none⟩) n cap)) (f0 : w.frozen? ⟨rb, 0, none⟩ = false) (hr : Rb w (some ⟨bb, off, none⟩) n cap l) (hn : n ≤ 1000) (ht : tkText l = some (t, k)) (hk : k ≤ n) :
    Calls Tryd.prog 33 #[.pointer (some ⟨rb, 0, none⟩), .string p] w fun r w' => r = .returned (.string (strs t)) ∧ Cut w w' rb bb off n cap k := by
  have c1 := take14 a _ n cap l w hr (by omega) hV.n
  rw [ht] at c1
  have hle := hr.le
  have hlt : rb < w.heap.size := World.block_lt_of_cell? w ⟨rb, 0, none⟩ h0
  clear hr hV
  go_enter Tryd.func33, Tryd.ntmps33
  go_wp2_with fail
  refine c1.mono ?_
  rintro r w1 ⟨hb, h1, _⟩
  obtain rfl := h1 t k (by first | rfl | trivial)
  have g0 : w1.cell? ⟨rb, 0, none⟩ = some (.slice (some ⟨bb, off, none⟩) n cap) := (hb.cell (p := ⟨rb, 0, none⟩) hlt).trans h0
  have g1 : w1.frozen? ⟨rb, 0, none⟩ = false := (hb.frozen (p := ⟨rb, 0, none⟩) hlt).trans f0
  have HB : Hid (Below w.heap.size w w1) := hb
  clear c1 h1 hb h0 f0
  go_wp2_with fail
  all_goals
    go_ret
    refine ⟨rfl, w1, _, _, HB.out, rfl, by omega, by omega, fun hq => ?_⟩
    first | rfl | (exfalso; omega)

set_option maxHeartbeats 1000000 in
theorem num30_no (a b : Addr) (rb : Nat) (o : Option (List Nat)) (ao : Option Addr) (n cap : Nat) (l : List Nat) (p : ByteArray) (w : World) (hV : Vars w a b) (h0 : w.cell? ⟨rb, 0, none⟩ = some (.slice ao n cap)) (hs : RsP w rb o) (hr : Rb w ao n cap l) (hn : n ≤ 1000) (ht : take5 l = none) :
    Calls Tryd.prog 30 #[.pointer (some ⟨rb, 0, none⟩), .string p] w fun r w' => r = .returned (.int .i64 0) ∧ RsP w' rb none ∧ Kept (But rb) w w' := by
  have c1 := take12 a _ n cap l w hr (by omega) hV.n
  rw [ht] at c1
  have hlt : rb < w.heap.size := World.block_lt_of_cell? w ⟨rb, 0, none⟩ h0
  have HS : Hid (RsP w rb o) := hs
  clear hr hV hs
  go_enter Tryd.func30, Tryd.ntmps30
  go_wp2_with fail
  refine c1.mono ?_
  rintro r w1 ⟨hb, _, h2⟩
  obtain rfl := h2 (by first | rfl | trivial)
  have c2 := fun ev k (hk : FauP k ev) => fail34 rb o k ev w1 (HS.out.below hb hlt) hk
  have HB : Hid (Below w.heap.size w w1) := hb
  clear c1 h2 hb h0
  go_wp2_with fail
  refine (c2 _ 1 ⟨_, _, rfl, _, rfl⟩).mono ?_
  rintro r w2 ⟨rfl, h3, h4⟩
  have H3 : Hid (RsP w2 rb none ∧ Kept (But rb) w1 w2) := ⟨h3, h4⟩
  clear c2 h3 h4
  go_wp2
  go_ret
  exact ⟨rfl, H3.out.1, (Kept.of_below HB.out).trans H3.out.2⟩

set_option maxHeartbeats 1000000 in
theorem text33_no (a b : Addr) (rb : Nat) (o : Option (List Nat)) (ao : Option Addr) (n cap : Nat) (l : List Nat) (p : ByteArray) (w : World) (hV : Vars w a b) (h0 : w.cell? ⟨rb, 0, none⟩ = some (.slice ao n cap)) (hs : RsP w rb o) (hr : Rb w ao n cap l) (hn : n ≤ 1000) (ht : tkText l = none) :
    Calls Tryd.prog 33 #[.pointer (some ⟨rb, 0, none⟩), .string p] w fun r w' => r = .returned (.string ⟨#[]⟩) ∧ RsP w' rb none ∧ Kept (But rb) w w' := by
  have c1 := take14 a _ n cap l w hr (by omega) hV.n
  rw [ht] at c1
  have hlt : rb < w.heap.size := World.block_lt_of_cell? w ⟨rb, 0, none⟩ h0
  have HS : Hid (RsP w rb o) := hs
  clear hr hV hs
  go_enter Tryd.func33, Tryd.ntmps33
  go_wp2_with fail
  refine c1.mono ?_
  rintro r w1 ⟨hb, _, h2⟩
  obtain rfl := h2 (by first | rfl | trivial)
  have c2 := fun ev k (hk : FauP k ev) => fail34 rb o k ev w1 (HS.out.below hb hlt) hk
  have HB : Hid (Below w.heap.size w w1) := hb
  clear c1 h2 hb h0
  go_wp2_with fail
  refine (c2 _ 1 ⟨_, _, rfl, _, rfl⟩).mono ?_
  rintro r w2 ⟨rfl, h3, h4⟩
  have H3 : Hid (RsP w2 rb none ∧ Kept (But rb) w1 w2) := ⟨h3, h4⟩
  clear c2 h3 h4
  go_wp2
  go_ret
  exact ⟨rfl, H3.out.1, (Kept.of_below HB.out).trans H3.out.2⟩

/-- What is left behind a part that was read. -/
theorem cut_rs {w w' : World} {rb bb off n cap k : Nat} {l : List Nat} (h : Cut w w' rb bb off n cap k) (hs : RsP w rb (some l)) (h0 : w.cell? ⟨rb, 0, none⟩ = some (.slice (some ⟨bb, off, none⟩) n cap)) (hk : k ≤ n) (h0n : 0 < n) : RsP w' rb (some (l.drop k)) ∧ Kept (But rb) w w' := by
  obtain ⟨w1, x, c, hb, rfl, hc1, hc2, hx⟩ := h
  have hlt := hs.lt
  obtain ⟨f0, f1, ao, n', cap', ev, g0, g1, g2, g3, hr, rfl⟩ := hs
  rw [h0] at g0
  cases g0
  have hle := hr.le
  have hmx := hr.max
  refine ⟨⟨?_, ?_, some x, n - k, c, .nilIface, ?_, ?_, by omega, ?_, ⟨?_, ?_, by omega, by omega, (fun h => by cases h), fun hq => ?_⟩, rfl⟩, ?_⟩
  · rw [World.frozen?_setCell]; exact (hb.frozen (p := ⟨rb, 0, none⟩) hlt).trans f0
  · rw [World.frozen?_setCell]; exact (hb.frozen (p := ⟨rb, 1, none⟩) hlt).trans f1
  · exact World.cell?_setCell_same _ _ _ ((hb.cell (p := ⟨rb, 0, none⟩) hlt).trans h0)
  · rw [World.cell?_setCell_other _ _ _ _ (by simp)]; exact (hb.cell (p := ⟨rb, 1, none⟩) hlt).trans g1
  · intro b' off' hq e
    cases e
    have e := hx (by omega)
    cases e
    exact g3 bb off h0n rfl
  · exact fun x hx => hr.lt x (List.mem_of_mem_drop hx)
  · have := hr.len; rw [List.length_drop]; omega
  · obtain ⟨b2, off2, e2, hcc⟩ := hr.at_ h0n
    cases e2
    obtain rfl := hx (by omega)
    refine ⟨bb, off + k, rfl, fun j hj => ?_⟩
    have hblt : bb + 1 < rb := g3 bb off h0n rfl
    rw [World.cell?_setCell_other _ _ _ _ (by intro e; have := congrArg Addr.block e; simp at this; omega), Nat.add_assoc]
    refine ((hb.cell (p := ⟨bb, off + (k + j), none⟩) (by show bb < _; omega)).trans (hcc (k + j) (by omega))).trans ?_
    have : k + j < l.length := by have := hr.len; omega
    simp [List.getD]
  · exact (Kept.of_below hb).setCell (p := ⟨rb, 0, none⟩) (fun k _ hk => hk) _

/-- What the readers' contracts say of one part. -/
theorem rd_take {l : List Nat} : rd l = match take5 l with | none => none | some (v, n) => some (v, l.drop n) := rfl

theorem rt_tk {l : List Nat} (hl : ∀ x ∈ l, x < 256) : rt l = match tkText l with | none => none | some (t, k) => some (t, l.drop k) := by
  unfold rt tkText rd
  cases ht : take5 l with
  | none => rfl
  | some p =>
    obtain ⟨v, n⟩ := p
    obtain ⟨h1, h2, _⟩ := take5_le hl ht
    simp only [List.length_drop]
    by_cases h : l.length - n < v
    · rw [if_pos h, if_neg (by omega)]
    · rw [if_neg h, if_pos (by omega)]
      simp only [List.drop_drop]

theorem tkText_le {l t : List Nat} {k : Nat} (hl : ∀ x ∈ l, x < 256) (h : tkText l = some (t, k)) : 1 ≤ k ∧ k ≤ l.length ∧ t.length ≤ l.length ∧ ∀ x ∈ t, x < 256 := by
  unfold tkText at h
  cases ht : take5 l with
  | none => rw [ht] at h; cases h
  | some p =>
    obtain ⟨v, n⟩ := p
    rw [ht] at h
    obtain ⟨h1, h2, _⟩ := take5_le hl ht
    simp only at h
    split at h
    · cases h
    · cases h
      exact ⟨by omega, by omega, by rw [List.length_take, List.length_drop]; omega, fun x hx => hl x (List.mem_of_mem_drop (List.mem_of_mem_take hx))⟩

/-- vput's reader: a number. -/
theorem num30 (a b : Addr) (rb : Nat) (o : Option (List Nat)) (p : ByteArray) (w : World) (hV : Vars w a b) (hs : RsP w rb o) :
    Calls Tryd.prog 30 #[.pointer (some ⟨rb, 0, none⟩), .string p] w fun r w' => ∃ v : Nat, r = .returned (.int .i64 v) ∧ v < 34359738368 ∧ (∀ x l, o.bind rd = some (x, l) → v = x) ∧ (o.bind rd = none → v = 0) ∧ RsP w' rb ((o.bind rd).map (·.2)) ∧ Kept (But rb) w w' := by
  have hs' := hs
  obtain ⟨f0, f1, ao, n, cap, ev, g0, g1, g2, g3, h4⟩ := hs'
  cases o with
  | none =>
    obtain ⟨rfl, rfl, rfl, _⟩ := h4
    refine (num30_no a b rb none none 0 0 [] p w hV g0 hs (Rb.none w) (by omega) rfl).mono ?_
    rintro r w' ⟨rfl, h1, h2⟩
    exact ⟨0, rfl, by omega, (fun _ _ h => by cases h), (fun _ => rfl), h1, h2⟩
  | some l =>
    obtain ⟨hr, rfl⟩ := h4
    have hlen := hr.len
    cases ht : take5 l with
    | none =>
      refine (num30_no a b rb (some l) ao n cap l p w hV g0 hs hr g2 ht).mono ?_
      rintro r w' ⟨rfl, h1, h2⟩
      have e : (some l).bind rd = none := by show rd l = none; rw [rd_take, ht]
      exact ⟨0, rfl, by omega, (fun _ _ h => by rw [e] at h; cases h), (fun _ => rfl), by rw [e]; exact h1, h2⟩
    | some vk =>
      obtain ⟨v, k⟩ := vk
      obtain ⟨q1, q2, _, q4, _⟩ := take5_le hr.lt ht
      obtain ⟨bb, off, rfl, _⟩ := hr.at_ (by omega)
      refine (num30_ok a b rb bb off n cap l v k p w hV g0 f0 hr g2 ht (by omega)).mono ?_
      rintro r w' ⟨rfl, hc⟩
      obtain ⟨h1, h2⟩ := cut_rs hc hs g0 (by omega) (by omega)
      have e : (some l).bind rd = some (v, l.drop k) := by show rd l = _; rw [rd_take, ht]
      exact ⟨v, rfl, q4, (fun x l' h => by rw [e] at h; cases h; rfl), (fun h => by rw [e] at h; cases h), by rw [e]; exact h1, h2⟩

/-- vput's reader: a text. -/
theorem text33 (a b : Addr) (rb : Nat) (o : Option (List Nat)) (p : ByteArray) (w : World) (hV : Vars w a b) (hs : RsP w rb o) :
    Calls Tryd.prog 33 #[.pointer (some ⟨rb, 0, none⟩), .string p] w fun r w' => ∃ t : ByteArray, r = .returned (.string t) ∧ t.size ≤ 1000 ∧ (∀ x l, o.bind rt = some (x, l) → t = strs x ∧ bl t = x) ∧ RsP w' rb ((o.bind rt).map (·.2)) ∧ Kept (But rb) w w' := by
  have hs' := hs
  obtain ⟨f0, f1, ao, n, cap, ev, g0, g1, g2, g3, h4⟩ := hs'
  cases o with
  | none =>
    obtain ⟨rfl, rfl, rfl, _⟩ := h4
    refine (text33_no a b rb none none 0 0 [] p w hV g0 hs (Rb.none w) (by omega) rfl).mono ?_
    rintro r w' ⟨rfl, h1, h2⟩
    exact ⟨_, rfl, by show 0 ≤ 1000; omega, (fun _ _ h => by cases h), h1, h2⟩
  | some l =>
    obtain ⟨hr, rfl⟩ := h4
    have hlen := hr.len
    cases ht : tkText l with
    | none =>
      refine (text33_no a b rb (some l) ao n cap l p w hV g0 hs hr g2 ht).mono ?_
      rintro r w' ⟨rfl, h1, h2⟩
      have e : (some l).bind rt = none := by show rt l = none; rw [rt_tk hr.lt, ht]
      exact ⟨_, rfl, by show 0 ≤ 1000; omega, (fun _ _ h => by rw [e] at h; cases h), by rw [e]; exact h1, h2⟩
    | some vk =>
      obtain ⟨t, k⟩ := vk
      obtain ⟨q1, q2, q3, q4⟩ := tkText_le hr.lt ht
      obtain ⟨bb, off, rfl, _⟩ := hr.at_ (by omega)
      refine (text33_ok a b rb bb off n cap l t k p w hV g0 f0 hr g2 ht (by omega)).mono ?_
      rintro r w' ⟨rfl, hc⟩
      obtain ⟨h1, h2⟩ := cut_rs hc hs g0 (by omega) (by omega)
      have e : (some l).bind rt = some (t, l.drop k) := by show rt l = _; rw [rt_tk hr.lt, ht]
      exact ⟨_, rfl, by rw [strs_size]; omega, (fun x l' h => by rw [e] at h; cases h; exact ⟨rfl, bl_strs _ q4⟩), by rw [e]; exact h1, h2⟩

end Go.Proofs.YtopkeembbopbmaaDoor
