/- cardamomref16.TakeVersion. -/
import Derived.Test.YtopkeembbopbmaaDoorRdd
import Derived.Test.YtopkeembbopbmaaDoorSme
namespace Go.Proofs.YtopkeembbopbmaaDoor
open Go.RowKit
set_option maxRecDepth 100000
set_option linter.unusedVariables false
set_option linter.unusedSimpArgs false

theorem rtake_end {w w1 w' : World} {rb tb : Nat} {o : Option (List Nat)} {u : Vn} {al : List (Int × Int)} {l : List Nat} {V : Vp} {m : Nat} (J : Rdd w w1 rb tb o u al) (hlen : u.len ≤ 1000) (hk : Kept (But w.heap.size) w1 w') (hq : tvP mayN l = some (V, m)) (hP : Parts u al V) (hM : mayI u al = true) : TakePost w w' l (.returned (.tuple #[u.val, .int .i64 (m : Int), .bool true])) := by
  obtain ⟨h1, h2⟩ := J.at_ hlen
  have he := J.e
  have hn := J.n
  refine ⟨u, al, m, true, rfl, At.of h1 hk (fun b off _ e => by have := h2 b off e; unfold But; omega), J.t, J.d, ?_, ?_⟩
  · exact J.k.trans (hk.below J.k.size (fun k hk => by unfold But; omega))
  · rw [hq]; exact ⟨rfl, rfl, hP, hM⟩
theorem rtake_no {w w1 w' : World} {rb tb : Nat} {o : Option (List Nat)} {u : Vn} {al : List (Int × Int)} {l : List Nat} (J : Rdd w w1 rb tb o u al) (hk : Kept (But w.heap.size) w1 w') (hq : tvP mayN l = none) : TakePost w w' l (.returned (.tuple #[Vn.val ⟨0, 0, 0, 0, false, none, 0, 0, ⟨#[]⟩, ⟨#[]⟩⟩, .int .i64 ((0 : Nat) : Int), .bool false])) :=
  take_no hq (J.k.trans (hk.below J.k.size (fun k hk => by unfold But; omega)))

theorem rd_len {b c : List Nat} {v : Nat} (hb : ∀ x ∈ b, x < 256) (h : rd b = some (v, c)) : c.length + 1 ≤ b.length ∧ ∀ x ∈ c, x < 256 := by
  obtain ⟨e, _, hc⟩ := rd_inv hb h
  have := put_ne v
  refine ⟨?_, hc⟩
  rw [e, List.length_append]; omega
theorem RsD.len {w : World} {rb : Nat} {l : List Nat} (h : RsD w rb (some l)) : l.length ≤ 1000 ∧ ∀ x ∈ l, x < 256 := by
  obtain ⟨_, _, ao, n, cap, l', bad, _, _, hn, hr, _, rfl, _⟩ := h
  exact ⟨by have := hr.len; omega, hr.lt⟩
theorem RsD.bad {w : World} {rb : Nat} {o : Option (List Nat)} (h : RsD w rb o) : w.cell? ⟨rb, 1, none⟩ = some (.bool o.isNone) := by
  obtain ⟨_, _, ao, n, cap, l', bad, _, h1, hn, hr, _, h4⟩ := h
  cases o with
  | none => rw [h1, h4]; rfl
  | some x => rw [h1, h4.2]; rfl
theorem rv_len {l c : List Nat} {V : Vp} (hb : ∀ x ∈ l, x < 256) (h : rv l = some (V, c)) : c.length < l.length := by
  obtain ⟨d, e, _⟩ := rv_inv hb h
  have := put_ne V.i
  rw [e]; simp only [List.length_append]; omega
theorem tv_no1 {l : List Nat} (hb : ∀ x ∈ l, x < 256) (h : rv l = none) : tvP mayN l = none := by rw [tvP_eq mayN mayN_3 l hb]; unfold tv; rw [h]
theorem tv_no2 {l c : List Nat} {V : Vp} (hb : ∀ x ∈ l, x < 256) (h : rv l = some (V, c)) (hm : mayN V = false) : tvP mayN l = none := by
  rw [tvP_eq mayN mayN_3 l hb]; unfold tv; rw [h]; simp only; rw [if_neg (by rw [hm]; simp)]
theorem tv_no3 {l c : List Nat} {V : Vp} (hb : ∀ x ∈ l, x < 256) (h : rv l = some (V, c)) (hm : pv V ≠ l.take (l.length - c.length)) : tvP mayN l = none := by
  rw [tvP_eq mayN mayN_3 l hb]; unfold tv; rw [h]; simp only; rw [if_neg (fun q => hm q.2)]
theorem tv_yes {l c : List Nat} {V : Vp} (hb : ∀ x ∈ l, x < 256) (h : rv l = some (V, c)) (hm : mayN V = true) (he : pv V = l.take (l.length - c.length)) : tvP mayN l = some (V, l.length - c.length) := by
  rw [tvP_eq mayN mayN_3 l hb]; unfold tv; rw [h]; simp only; rw [if_pos ⟨hm, he⟩]
theorem Rdd.call2 {P : Nat → Prop} {w0 w w' : World} {rb tb : Nat} {o o' : Option (List Nat)} {u : Vn} {al : List (Int × Int)} (h : Rdd w0 w rb tb o u al) (hr : RsD w' rb o') (hk : Kept P w w') (hp : ∀ k, k < w.heap.size → k ≠ rb → P k) : Rdd w0 w' rb tb o' u al := by
  have h1 := h.e
  have h2 := h.n
  have h3 := h.s
  refine ⟨hr, fun j hj => ⟨(hk.cell h3 (hp _ h3 (by omega))).trans (h.c j hj).1, (hk.frozen h3 (hp _ h3 (by omega))).trans (h.c j hj).2⟩, own_kept2 h.own hk (fun k hk1 hk2 => hp _ hk2 (by omega)), h.ln, ?_, h.e, Nat.lt_of_lt_of_le h.s hk.size, h.n, h.t, h.d, h.z.kept hk (hp _ (by omega) (by omega))⟩
  exact h.k.trans (hk.below (by omega) (fun k hk => hp _ (by omega) (by omega)))

set_option maxHeartbeats 8000000 in
theorem rtake12 (ao : Option Addr) (n cap : Nat) (l : List Nat) (w : World) (hr : Rb w ao n cap l) (hn : n ≤ 1000) :
    Calls Tryd.prog 12 #[.slice ao n cap] w fun r w' => TakePost w w' l r := by
  obtain ⟨rb, hrb⟩ : ∃ rb, rb = w.heap.size + 1 := ⟨_, rfl⟩
  obtain ⟨W, hW⟩ : ∃ W, W = (w.alloc (.cells #[.int .i64 0, .int .i64 0, .int .i64 0, .int .i64 0, .bool false, .slice none 0 0, .string ⟨#[]⟩, .string ⟨#[]⟩] 26)).alloc (.cells #[.slice ao n cap, .bool false] 59) := ⟨_, rfl⟩
  have hBW : Below w.heap.size w W := by rw [hW]; exact ((Below.refl _ w).alloc (Nat.le_refl _) _).alloc (by simp) _
  have H0 : Hid (RsD W rb (some l) ∧ Cs W w.heap.size zf ∧ Below w.heap.size w W ∧ rb < W.heap.size) := by
    refine ⟨⟨?_, ?_, ao, n, cap, l, false, ?_, ?_, hn, hr.kept hBW, ?_, rfl, rfl⟩, ?_, hBW, ?_⟩
    · subst hrb; rw [hW]; simp
    · subst hrb; rw [hW]; simp
    · subst hrb; rw [hW]; simp
    · subst hrb; rw [hW]; simp
    · intro b' off h0 e
      obtain ⟨b2, off2, e2, hc⟩ := hr.at_ h0
      rw [e] at e2; cases e2
      have := World.block_lt_of_cell? w ⟨b', off + 0, none⟩ (hc 0 h0)
      simp only at this
      omega
    · intro j hj
      rw [hW]
      refine ⟨?_, by simp⟩
      rw [World.cell?_alloc_past _ _ _ (hn := by simp), World.cell?_alloc_at _ _ _ _ rfl]
      match j, hj with
      | 0, _ => rfl
      | 1, _ => rfl
      | 2, _ => rfl
      | 3, _ => rfl
      | 4, _ => rfl
      | 5, _ => rfl
      | 6, _ => rfl
      | 7, _ => rfl
    · subst hrb; rw [hW]; simp
  have HX : Hid (W = _ ∧ rb = w.heap.size + 1 ∧ n = l.length ∧ ∀ x ∈ l, x < 256) := ⟨hW, hrb, hr.len.symm, hr.lt⟩
  have HRB : Hid (Rb w ao n cap l) := hr
  clear hr hW hBW hrb
  go_enter Tryd.func12, Tryd.ntmps12
  go_wp2_with fail
  rw [← HX.out.1, ← HX.out.2.1]
  obtain ⟨r1, hr1⟩ : ∃ r1, r1 = (some l).bind rd := ⟨_, rfl⟩
  have c := dnum22 rb (some l) W H0.out.1
  rw [← hr1] at c
  have HR1 : Hid (r1 = (some l).bind rd) := hr1
  clear hr1
  refine c.mono ?_
  rintro r w1 ⟨v1, rfl, hv1, hx, _, hs, hk⟩
  have HF1 : Hid (∀ x l, r1 = some (x, l) → v1 = x) := hx
  have hsz : rb < w1.heap.size := Nat.lt_of_lt_of_le H0.out.2.2.2 hk.size
  obtain ⟨tb, htb⟩ : ∃ tb, tb = w1.heap.size := ⟨_, rfl⟩
  obtain ⟨X1, hX1⟩ : ∃ X, X = w1.alloc (.cells #[.int .i64 (v1 : Int), .int .i64 0, .int .i64 0, .int .i64 0, .bool false, .slice none 0 0, .string ⟨#[]⟩, .string ⟨#[]⟩] 26) := ⟨_, rfl⟩
  have JX1 : Hid (Rdd w X1 rb tb (r1.map (·.2)) ⟨(v1 : Int), 0, 0, 0, false, none, 0, 0, ⟨#[]⟩, ⟨#[]⟩⟩ []) := by
    have hb1 : Below w1.heap.size w1 X1 := by rw [hX1]; exact (Below.refl _ w1).alloc (Nat.le_refl _) _
    have hka : Kept Any w1 X1 := Kept.of_below hb1
    have he := HX.out.2.1
    have hbk : Below w.heap.size w w1 := H0.out.2.2.1.trans (hk.below H0.out.2.2.1.size (fun k hk => by unfold But; omega))
    refine ⟨hs.kept hka trivial (fun _ _ => trivial), eight ?_ ?_ ?_ ?_ ?_ ?_ ?_ ?_, World.ownsRow_nil _ _ _ _, rfl, hbk.trans (hb1.mono hbk.size), he, by rw [hX1, htb]; simp, by omega, by show 0 ≤ 1000; omega, by show 0 ≤ 1000; omega, ((H0.out.2.1).kept hk (by unfold But; omega)).kept hka trivial⟩
    all_goals (subst htb; rw [hX1]; exact ⟨by simp [vcells], by simp⟩)
  clear c hx hs hk
  go_wp2_with fail
  rw [← hX1, ← htb]
  clear hX1 htb
  obtain ⟨r2, hr2⟩ : ∃ r2, r2 = (r1.map (·.2)).bind rd := ⟨_, rfl⟩
  have c := dnum22 rb (r1.map (·.2)) X1 JX1.out.r
  rw [← hr2] at c
  have HR2 : Hid (r2 = (r1.map (·.2)).bind rd) := hr2
  clear hr2
  refine c.mono ?_
  rintro r w2 ⟨v2, rfl, hv2, hx, hx0, hs, hk⟩
  have HF2 : Hid ((∀ x l, r2 = some (x, l) → v2 = x) ∧ (r2 = none → v2 = 0)) := ⟨hx, hx0⟩
  clear hx0
  have K2 : Hid (Rdd w w2 rb tb (r2.map (·.2)) ⟨(v1 : Int), 0, 0, 0, false, none, 0, 0, ⟨#[]⟩, ⟨#[]⟩⟩ []) := JX1.out.call hs hk
  clear c hx hs hk
  obtain ⟨g0, f0⟩ := K2.out.c 0 (by omega)
  obtain ⟨g1, f1⟩ := K2.out.c 1 (by omega)
  obtain ⟨g2, f2⟩ := K2.out.c 2 (by omega)
  obtain ⟨g3, f3⟩ := K2.out.c 3 (by omega)
  obtain ⟨g4, f4⟩ := K2.out.c 4 (by omega)
  obtain ⟨g5, f5⟩ := K2.out.c 5 (by omega)
  obtain ⟨g6, f6⟩ := K2.out.c 6 (by omega)
  obtain ⟨g7, f7⟩ := K2.out.c 7 (by omega)
  replace g0 : w2.cell? ⟨tb, 0, none⟩ = some (.int .i64 (v1 : Int)) := g0
  replace g1 : w2.cell? ⟨tb, 1, none⟩ = some (.int .i64 0) := g1
  replace g2 : w2.cell? ⟨tb, 2, none⟩ = some (.int .i64 0) := g2
  replace g3 : w2.cell? ⟨tb, 3, none⟩ = some (.int .i64 0) := g3
  replace g4 : w2.cell? ⟨tb, 4, none⟩ = some (.bool false) := g4
  replace g5 : w2.cell? ⟨tb, 5, none⟩ = some (.slice none 0 0) := g5
  replace g6 : w2.cell? ⟨tb, 6, none⟩ = some (.string ⟨#[]⟩) := g6
  replace g7 : w2.cell? ⟨tb, 7, none⟩ = some (.string ⟨#[]⟩) := g7
  clear g0 g2 g3 g4 g5 g6 g7 f0 f2 f3 f4 f5 f6 f7
  go_wp2_with fail
  obtain ⟨X2, hX2⟩ : ∃ X, X = w2.setCell ⟨tb, 1, none⟩ (.int .i64 (v2 : Int)) := ⟨_, rfl⟩
  have JX2 : Hid (Rdd w X2 rb tb (r2.map (·.2)) ⟨(v1 : Int), (v2 : Int), 0, 0, false, none, 0, 0, ⟨#[]⟩, ⟨#[]⟩⟩ []) := by rw [hX2]; exact Rdd.set (u' := ⟨(v1 : Int), (v2 : Int), 0, 0, false, none, 0, 0, ⟨#[]⟩, ⟨#[]⟩⟩) K2.out 1 _ (by omega) (eight rfl rfl rfl rfl rfl rfl rfl rfl) rfl rfl rfl K2.out.t K2.out.d
  clear g1 f1
  rw [← hX2]
  clear hX2
  obtain ⟨r3, hr3⟩ : ∃ r3, r3 = (r2.map (·.2)).bind rd := ⟨_, rfl⟩
  have c := dnum22 rb (r2.map (·.2)) X2 JX2.out.r
  rw [← hr3] at c
  have HR3 : Hid (r3 = (r2.map (·.2)).bind rd) := hr3
  clear hr3
  refine c.mono ?_
  rintro r w3 ⟨v3, rfl, hv3, hx, hx0, hs, hk⟩
  have HF3 : Hid ((∀ x l, r3 = some (x, l) → v3 = x) ∧ (r3 = none → v3 = 0)) := ⟨hx, hx0⟩
  clear hx0
  have K3 : Hid (Rdd w w3 rb tb (r3.map (·.2)) ⟨(v1 : Int), (v2 : Int), 0, 0, false, none, 0, 0, ⟨#[]⟩, ⟨#[]⟩⟩ []) := JX2.out.call hs hk
  clear c hx hs hk
  obtain ⟨g0, f0⟩ := K3.out.c 0 (by omega)
  obtain ⟨g1, f1⟩ := K3.out.c 1 (by omega)
  obtain ⟨g2, f2⟩ := K3.out.c 2 (by omega)
  obtain ⟨g3, f3⟩ := K3.out.c 3 (by omega)
  obtain ⟨g4, f4⟩ := K3.out.c 4 (by omega)
  obtain ⟨g5, f5⟩ := K3.out.c 5 (by omega)
  obtain ⟨g6, f6⟩ := K3.out.c 6 (by omega)
  obtain ⟨g7, f7⟩ := K3.out.c 7 (by omega)
  replace g0 : w3.cell? ⟨tb, 0, none⟩ = some (.int .i64 (v1 : Int)) := g0
  replace g1 : w3.cell? ⟨tb, 1, none⟩ = some (.int .i64 (v2 : Int)) := g1
  replace g2 : w3.cell? ⟨tb, 2, none⟩ = some (.int .i64 0) := g2
  replace g3 : w3.cell? ⟨tb, 3, none⟩ = some (.int .i64 0) := g3
  replace g4 : w3.cell? ⟨tb, 4, none⟩ = some (.bool false) := g4
  replace g5 : w3.cell? ⟨tb, 5, none⟩ = some (.slice none 0 0) := g5
  replace g6 : w3.cell? ⟨tb, 6, none⟩ = some (.string ⟨#[]⟩) := g6
  replace g7 : w3.cell? ⟨tb, 7, none⟩ = some (.string ⟨#[]⟩) := g7
  clear g0 g1 g3 g4 g5 g6 g7 f0 f1 f3 f4 f5 f6 f7
  go_wp2_with fail
  obtain ⟨X3, hX3⟩ : ∃ X, X = w3.setCell ⟨tb, 2, none⟩ (.int .i64 (v3 : Int)) := ⟨_, rfl⟩
  have JX3 : Hid (Rdd w X3 rb tb (r3.map (·.2)) ⟨(v1 : Int), (v2 : Int), (v3 : Int), 0, false, none, 0, 0, ⟨#[]⟩, ⟨#[]⟩⟩ []) := by rw [hX3]; exact Rdd.set (u' := ⟨(v1 : Int), (v2 : Int), (v3 : Int), 0, false, none, 0, 0, ⟨#[]⟩, ⟨#[]⟩⟩) K3.out 2 _ (by omega) (eight rfl rfl rfl rfl rfl rfl rfl rfl) rfl rfl rfl K3.out.t K3.out.d
  clear g2 f2
  rw [← hX3]
  clear hX3
  obtain ⟨r4, hr4⟩ : ∃ r4, r4 = (r3.map (·.2)).bind rd := ⟨_, rfl⟩
  have c := dnum22 rb (r3.map (·.2)) X3 JX3.out.r
  rw [← hr4] at c
  have HR4 : Hid (r4 = (r3.map (·.2)).bind rd) := hr4
  clear hr4
  refine c.mono ?_
  rintro r w4 ⟨v4, rfl, hv4, hx, hx0, hs, hk⟩
  have HF4 : Hid ((∀ x l, r4 = some (x, l) → v4 = x) ∧ (r4 = none → v4 = 0)) := ⟨hx, hx0⟩
  clear hx0
  have K4 : Hid (Rdd w w4 rb tb (r4.map (·.2)) ⟨(v1 : Int), (v2 : Int), (v3 : Int), 0, false, none, 0, 0, ⟨#[]⟩, ⟨#[]⟩⟩ []) := JX3.out.call hs hk
  clear c hx hs hk
  obtain ⟨g0, f0⟩ := K4.out.c 0 (by omega)
  obtain ⟨g1, f1⟩ := K4.out.c 1 (by omega)
  obtain ⟨g2, f2⟩ := K4.out.c 2 (by omega)
  obtain ⟨g3, f3⟩ := K4.out.c 3 (by omega)
  obtain ⟨g4, f4⟩ := K4.out.c 4 (by omega)
  obtain ⟨g5, f5⟩ := K4.out.c 5 (by omega)
  obtain ⟨g6, f6⟩ := K4.out.c 6 (by omega)
  obtain ⟨g7, f7⟩ := K4.out.c 7 (by omega)
  replace g0 : w4.cell? ⟨tb, 0, none⟩ = some (.int .i64 (v1 : Int)) := g0
  replace g1 : w4.cell? ⟨tb, 1, none⟩ = some (.int .i64 (v2 : Int)) := g1
  replace g2 : w4.cell? ⟨tb, 2, none⟩ = some (.int .i64 (v3 : Int)) := g2
  replace g3 : w4.cell? ⟨tb, 3, none⟩ = some (.int .i64 0) := g3
  replace g4 : w4.cell? ⟨tb, 4, none⟩ = some (.bool false) := g4
  replace g5 : w4.cell? ⟨tb, 5, none⟩ = some (.slice none 0 0) := g5
  replace g6 : w4.cell? ⟨tb, 6, none⟩ = some (.string ⟨#[]⟩) := g6
  replace g7 : w4.cell? ⟨tb, 7, none⟩ = some (.string ⟨#[]⟩) := g7
  clear g0 g1 g2 g4 g5 g6 g7 f0 f1 f2 f4 f5 f6 f7
  go_wp2_with fail
  obtain ⟨X4, hX4⟩ : ∃ X, X = w4.setCell ⟨tb, 3, none⟩ (.int .i64 (v4 : Int)) := ⟨_, rfl⟩
  have JX4 : Hid (Rdd w X4 rb tb (r4.map (·.2)) ⟨(v1 : Int), (v2 : Int), (v3 : Int), (v4 : Int), false, none, 0, 0, ⟨#[]⟩, ⟨#[]⟩⟩ []) := by rw [hX4]; exact Rdd.set (u' := ⟨(v1 : Int), (v2 : Int), (v3 : Int), (v4 : Int), false, none, 0, 0, ⟨#[]⟩, ⟨#[]⟩⟩) K4.out 3 _ (by omega) (eight rfl rfl rfl rfl rfl rfl rfl rfl) rfl rfl rfl K4.out.t K4.out.d
  clear g3 f3
  rw [← hX4]
  clear hX4
  obtain ⟨r5, hr5⟩ : ∃ r5, r5 = (r4.map (·.2)).bind rd := ⟨_, rfl⟩
  have c := dnum22 rb (r4.map (·.2)) X4 JX4.out.r
  rw [← hr5] at c
  have HR5 : Hid (r5 = (r4.map (·.2)).bind rd) := hr5
  clear hr5
  refine c.mono ?_
  rintro r w5 ⟨v5, rfl, hv5, hx, hx0, hs, hk⟩
  have HF5 : Hid ((∀ x l, r5 = some (x, l) → v5 = x) ∧ (r5 = none → v5 = 0)) := ⟨hx, hx0⟩
  clear hx0
  have K5 : Hid (Rdd w w5 rb tb (r5.map (·.2)) ⟨(v1 : Int), (v2 : Int), (v3 : Int), (v4 : Int), false, none, 0, 0, ⟨#[]⟩, ⟨#[]⟩⟩ []) := JX4.out.call hs hk
  clear c hx hs hk
  obtain ⟨d5, hd5⟩ : ∃ d5, d5 = ((v5 : Int) != 0) := ⟨_, rfl⟩
  have HD5 : Hid (d5 = ((v5 : Int) != 0)) := hd5
  obtain ⟨g0, f0⟩ := K5.out.c 0 (by omega)
  obtain ⟨g1, f1⟩ := K5.out.c 1 (by omega)
  obtain ⟨g2, f2⟩ := K5.out.c 2 (by omega)
  obtain ⟨g3, f3⟩ := K5.out.c 3 (by omega)
  obtain ⟨g4, f4⟩ := K5.out.c 4 (by omega)
  obtain ⟨g5, f5⟩ := K5.out.c 5 (by omega)
  obtain ⟨g6, f6⟩ := K5.out.c 6 (by omega)
  obtain ⟨g7, f7⟩ := K5.out.c 7 (by omega)
  replace g0 : w5.cell? ⟨tb, 0, none⟩ = some (.int .i64 (v1 : Int)) := g0
  replace g1 : w5.cell? ⟨tb, 1, none⟩ = some (.int .i64 (v2 : Int)) := g1
  replace g2 : w5.cell? ⟨tb, 2, none⟩ = some (.int .i64 (v3 : Int)) := g2
  replace g3 : w5.cell? ⟨tb, 3, none⟩ = some (.int .i64 (v4 : Int)) := g3
  replace g4 : w5.cell? ⟨tb, 4, none⟩ = some (.bool false) := g4
  replace g5 : w5.cell? ⟨tb, 5, none⟩ = some (.slice none 0 0) := g5
  replace g6 : w5.cell? ⟨tb, 6, none⟩ = some (.string ⟨#[]⟩) := g6
  replace g7 : w5.cell? ⟨tb, 7, none⟩ = some (.string ⟨#[]⟩) := g7
  clear g0 g1 g2 g3 g5 g6 g7 f0 f1 f2 f3 f5 f6 f7
  go_wp2_with fail
  rw [← hd5]
  obtain ⟨X5, hX5⟩ : ∃ X, X = w5.setCell ⟨tb, 4, none⟩ (.bool d5) := ⟨_, rfl⟩
  have JX5 : Hid (Rdd w X5 rb tb (r5.map (·.2)) ⟨(v1 : Int), (v2 : Int), (v3 : Int), (v4 : Int), d5, none, 0, 0, ⟨#[]⟩, ⟨#[]⟩⟩ []) := by rw [hX5]; exact Rdd.set (u' := ⟨(v1 : Int), (v2 : Int), (v3 : Int), (v4 : Int), d5, none, 0, 0, ⟨#[]⟩, ⟨#[]⟩⟩) K5.out 4 _ (by omega) (eight rfl rfl rfl rfl rfl rfl rfl rfl) rfl rfl rfl K5.out.t K5.out.d
  clear g4 f4
  rw [← hX5]
  clear hX5 hd5
  obtain ⟨r6, hr6⟩ : ∃ r6, r6 = (r5.map (·.2)).bind rd := ⟨_, rfl⟩
  have c := dnum22 rb (r5.map (·.2)) X5 JX5.out.r
  rw [← hr6] at c
  have HR6 : Hid (r6 = (r5.map (·.2)).bind rd) := hr6
  clear hr6
  refine c.mono ?_
  rintro r w6 ⟨v6, rfl, hv6, hx, hx0, hs, hk⟩
  have HF6 : Hid ((∀ x l, r6 = some (x, l) → v6 = x) ∧ (r6 = none → v6 = 0)) := ⟨hx, hx0⟩
  clear hx0
  have K6 : Hid (Rdd w w6 rb tb (r6.map (·.2)) ⟨(v1 : Int), (v2 : Int), (v3 : Int), (v4 : Int), d5, none, 0, 0, ⟨#[]⟩, ⟨#[]⟩⟩ []) := JX5.out.call hs hk
  clear c hx hs hk
  obtain ⟨R, hRR⟩ : ∃ R, R = r6.bind fun x => rat x.1 x.2 := ⟨_, rfl⟩
  have HRR : Hid (R = r6.bind fun x => rat x.1 x.2) := hRR
  clear hRR
  have HR0 : Hid (R = (r6.map (·.2)).bind fun l => (rat v6 l).bind fun z => some ([] ++ z.1, z.2)) := by
    show _ = _
    rw [HRR.out]
    cases hq : r6 with
    | none => rfl
    | some y =>
      obtain ⟨y1, y2⟩ := y
      have := HF6.out.1 y1 y2 hq
      show rat y1 y2 = (rat v6 y2).bind _
      rw [this]
      cases rat y1 y2 with
      | none => rfl
      | some z => rfl
  have HS0 : Hid (∀ l', r6.map (·.2) = some l' → l'.length ≤ 1000) := fun l' e => by
    have h := K6.out.r
    rw [e] at h
    exact h.len.1
  go_wp2_with fail
  go_loopw [7] (fun i wr => ∃ (m : Nat) (al : List (Int × Int)) (pre : List (Nat × Nat)) (s : Option (List Nat)) (ao' : Option Addr) (len' cap' : Nat), i = .int .i64 m ∧ m < 34359738368 ∧ al.length ≤ 501 ∧ (∀ l', s = some l' → 2 * al.length + l'.length ≤ 1000) ∧ Rdd w wr rb tb s ⟨(v1 : Int), (v2 : Int), (v3 : Int), (v4 : Int), d5, ao', len', cap', ⟨#[]⟩, ⟨#[]⟩⟩ al ∧ (s ≠ none → al = castA pre) ∧ R = s.bind fun l => (rat m l).bind fun z => some (pre ++ z.1, z.2)) (fun i _ => (intOf i).toNat)
  case atStart => exact ⟨v6, [], [], _, none, 0, 0, rfl, hv6, Nat.zero_le _, fun l' e => by have := HS0.out l' e; simpa using this, K6.out, fun _ => rfl, HR0.out⟩
  case round =>
    obtain ⟨m, al, pre, s, ao', len', cap', rfl, hm, hal, hbd, hJ, hpre, hRe⟩ := hrel
    have HK : Hid (al.length ≤ 501 ∧ (∀ l', s = some l' → 2 * al.length + l'.length ≤ 1000) ∧ Rdd w wr rb tb s ⟨(v1 : Int), (v2 : Int), (v3 : Int), (v4 : Int), d5, ao', len', cap', ⟨#[]⟩, ⟨#[]⟩⟩ al ∧ (s ≠ none → al = castA pre) ∧ R = s.bind fun l => (rat m l).bind fun z => some (pre ++ z.1, z.2)) := ⟨hal, hbd, hJ, hpre, hRe⟩
    have hbad := hJ.r.bad
    have hlen' : len' ≤ 501 := by have := hJ.ln; simp only at this; omega
    have htbr : tb < wr.heap.size := hJ.s
    have hrbt : rb < tb := hJ.n
    by_cases hm0 : m = 0
    · have hm0' := hm0
      subst hm0'
      have hRm : R.map (·.2) = s := by
        rw [hRe]
        cases s with
        | none => rfl
        | some l' => rfl
      have hRa : ∀ x l, R = some (x, l) → al = castA x := by
        intro x l e
        rw [hRe] at e
        cases s with
        | none => cases e
        | some l' =>
          have e' : some (pre ++ [], l') = some (x, l) := e
          rw [List.append_nil] at e'
          cases e'
          exact hpre (by simp)
      have K7 : Hid (Rdd w wr rb tb (R.map (·.2)) ⟨(v1 : Int), (v2 : Int), (v3 : Int), (v4 : Int), d5, ao', len', cap', ⟨#[]⟩, ⟨#[]⟩⟩ al) := by show Rdd _ _ _ _ _ _ _; rw [hRm]; exact hJ
      have HFA : Hid (∀ x l, R = some (x, l) → al = castA x) := hRa
      have n1 : rb ≠ tb := by omega
      have n2 : tb ≠ rb := by omega
      have HX2 : Hid (rb = w.heap.size + 1) := HX.out.2.1
      have n3 : w.heap.size ≠ tb := by have := HX2.out; omega
      have n4 : tb ≠ w.heap.size := by have := HX2.out; omega
      have n5 : w.heap.size ≠ rb := by have := HX2.out; omega
      have n6 : rb ≠ w.heap.size := by have := HX2.out; omega
      have HALN : Hid (al.length ≤ 501) := hal
      clear hal hbd hJ hpre hRe hRm hRa HK hbad
      go_wp2_with fail
      obtain ⟨r7, hr7⟩ : ∃ r7, r7 = (R.map (·.2)).bind rt := ⟨_, rfl⟩
      have c := dtext23 rb (R.map (·.2)) wr K7.out.r
      rw [← hr7] at c
      have HR7 : Hid (r7 = (R.map (·.2)).bind rt) := hr7
      clear hr7
      refine c.mono ?_
      rintro r w7 ⟨t7, rfl, ht, hx, hs, hk⟩
      have HF7 : Hid ((∀ x l, r7 = some (x, l) → t7 = strs x ∧ bl t7 = x) ∧ t7.size ≤ 1000) := ⟨hx, ht⟩
      clear ht
      have K7 : Hid (Rdd w w7 rb tb (r7.map (·.2)) ⟨(v1 : Int), (v2 : Int), (v3 : Int), (v4 : Int), d5, ao', len', cap', ⟨#[]⟩, ⟨#[]⟩⟩ al) := K7.out.call hs hk
      clear c hx hs hk
      obtain ⟨g0, f0⟩ := K7.out.c 0 (by omega)
      obtain ⟨g1, f1⟩ := K7.out.c 1 (by omega)
      obtain ⟨g2, f2⟩ := K7.out.c 2 (by omega)
      obtain ⟨g3, f3⟩ := K7.out.c 3 (by omega)
      obtain ⟨g4, f4⟩ := K7.out.c 4 (by omega)
      obtain ⟨g5, f5⟩ := K7.out.c 5 (by omega)
      obtain ⟨g6, f6⟩ := K7.out.c 6 (by omega)
      obtain ⟨g7, f7⟩ := K7.out.c 7 (by omega)
      replace g0 : w7.cell? ⟨tb, 0, none⟩ = some (.int .i64 (v1 : Int)) := g0
      replace g1 : w7.cell? ⟨tb, 1, none⟩ = some (.int .i64 (v2 : Int)) := g1
      replace g2 : w7.cell? ⟨tb, 2, none⟩ = some (.int .i64 (v3 : Int)) := g2
      replace g3 : w7.cell? ⟨tb, 3, none⟩ = some (.int .i64 (v4 : Int)) := g3
      replace g4 : w7.cell? ⟨tb, 4, none⟩ = some (.bool d5) := g4
      replace g5 : w7.cell? ⟨tb, 5, none⟩ = some (.slice ao' len' cap') := g5
      replace g6 : w7.cell? ⟨tb, 6, none⟩ = some (.string ⟨#[]⟩) := g6
      replace g7 : w7.cell? ⟨tb, 7, none⟩ = some (.string ⟨#[]⟩) := g7
      clear g0 g1 g2 g3 g4 g5 g7 f0 f1 f2 f3 f4 f5 f7
      go_wp2_with fail
      obtain ⟨X7, hX7⟩ : ∃ X, X = w7.setCell ⟨tb, 6, none⟩ (.string t7) := ⟨_, rfl⟩
      have JX7 : Hid (Rdd w X7 rb tb (r7.map (·.2)) ⟨(v1 : Int), (v2 : Int), (v3 : Int), (v4 : Int), d5, ao', len', cap', t7, ⟨#[]⟩⟩ al) := by rw [hX7]; exact Rdd.set (u' := ⟨(v1 : Int), (v2 : Int), (v3 : Int), (v4 : Int), d5, ao', len', cap', t7, ⟨#[]⟩⟩) K7.out 6 _ (by omega) (eight rfl rfl rfl rfl rfl rfl rfl rfl) rfl rfl rfl HF7.out.2 K7.out.d
      clear g6 f6
      rw [← hX7]
      clear hX7
      obtain ⟨r8, hr8⟩ : ∃ r8, r8 = (r7.map (·.2)).bind rt := ⟨_, rfl⟩
      have c := dtext23 rb (r7.map (·.2)) X7 JX7.out.r
      rw [← hr8] at c
      have HR8 : Hid (r8 = (r7.map (·.2)).bind rt) := hr8
      clear hr8
      refine c.mono ?_
      rintro r w8 ⟨t8, rfl, ht, hx, hs, hk⟩
      have HF8 : Hid ((∀ x l, r8 = some (x, l) → t8 = strs x ∧ bl t8 = x) ∧ t8.size ≤ 1000) := ⟨hx, ht⟩
      clear ht
      have K8 : Hid (Rdd w w8 rb tb (r8.map (·.2)) ⟨(v1 : Int), (v2 : Int), (v3 : Int), (v4 : Int), d5, ao', len', cap', t7, ⟨#[]⟩⟩ al) := JX7.out.call hs hk
      clear c hx hs hk
      have HT : Hid ((r8.map (·.2) = none ∧ rv l = none) ∨ ∃ V c, r8.map (·.2) = some c ∧ rv l = some (V, c) ∧ Parts ⟨(v1 : Int), (v2 : Int), (v3 : Int), (v4 : Int), d5, ao', len', cap', t7, t8⟩ al V) := ver_tellD HR1.out HR2.out HR3.out HR4.out HR5.out HR6.out HRR.out HR7.out HR8.out HF1.out HF2.out.1 HF3.out.1 HF4.out.1 HF5.out.1 HD5.out HFA.out HF7.out.1 HF8.out.1
      have J8 : Hid (Rdd w (w8.setCell ⟨tb, 7, none⟩ (.string t8)) rb tb (r8.map (·.2)) ⟨(v1 : Int), (v2 : Int), (v3 : Int), (v4 : Int), d5, ao', len', cap', t7, t8⟩ al) := Rdd.set (u' := ⟨(v1 : Int), (v2 : Int), (v3 : Int), (v4 : Int), d5, ao', len', cap', t7, t8⟩) K8.out 7 _ (by omega) (eight rfl rfl rfl rfl rfl rfl rfl rfl) rfl rfl rfl HF7.out.2 HF8.out.2
      rcases HT.out with ⟨e8, ev⟩ | ⟨V, c, e8, ev, hP⟩
      · have HQ : Hid (tvP mayN l = none) := tv_no1 HX.out.2.2.2 ev
        have hbd8 : w8.cell? ⟨rb, 1, none⟩ = some (.bool true) := by have h := K8.out.r.bad; rw [e8] at h; exact h
        obtain ⟨g7, f7⟩ := K8.out.c 7 (by omega)
        replace g7 : w8.cell? ⟨tb, 7, none⟩ = some (.string ⟨#[]⟩) := g7
        obtain ⟨⟨zz0, zz1, zz2, zz3, zz4, zz5, zz6, zz7⟩, zg0, zg1, zg2, zg3, zg4, zg5, zg6, zg7⟩ := (K8.out.z).eight
        replace zz0 : w8.cell? ⟨w.heap.size, 0, none⟩ = some (.int .i64 0) := zz0
        replace zz1 : w8.cell? ⟨w.heap.size, 1, none⟩ = some (.int .i64 0) := zz1
        replace zz2 : w8.cell? ⟨w.heap.size, 2, none⟩ = some (.int .i64 0) := zz2
        replace zz3 : w8.cell? ⟨w.heap.size, 3, none⟩ = some (.int .i64 0) := zz3
        replace zz4 : w8.cell? ⟨w.heap.size, 4, none⟩ = some (.bool false) := zz4
        replace zz5 : w8.cell? ⟨w.heap.size, 5, none⟩ = some (.slice none 0 0) := zz5
        replace zz6 : w8.cell? ⟨w.heap.size, 6, none⟩ = some (.string ⟨#[]⟩) := zz6
        replace zz7 : w8.cell? ⟨w.heap.size, 7, none⟩ = some (.string ⟨#[]⟩) := zz7
        clear e8 ev HT
        go_wp2
        refine bodyPost_ret (v := .tuple #[Vn.val ⟨0, 0, 0, 0, false, none, 0, 0, ⟨#[]⟩, ⟨#[]⟩⟩, .int .i64 ((0 : Nat) : Int), .bool false]) (by simp [results, Tryd.results12, go_sem, zz0, zz1, zz2, zz3, zz4, zz5, zz6, zz7, n3, n4, Vn.val]) rfl ?_
        exact rtake_no J8.out (kept8 _ _ _ _ _ _ _ _ _ _) HQ.out
      · have hbd8 : w8.cell? ⟨rb, 1, none⟩ = some (.bool false) := by have h := K8.out.r.bad; rw [e8] at h; exact h
        obtain ⟨g0, f0⟩ := K8.out.c 0 (by omega)
        obtain ⟨g1, f1⟩ := K8.out.c 1 (by omega)
        obtain ⟨g2, f2⟩ := K8.out.c 2 (by omega)
        obtain ⟨g3, f3⟩ := K8.out.c 3 (by omega)
        obtain ⟨g4, f4⟩ := K8.out.c 4 (by omega)
        obtain ⟨g5, f5⟩ := K8.out.c 5 (by omega)
        obtain ⟨g6, f6⟩ := K8.out.c 6 (by omega)
        obtain ⟨g7, f7⟩ := K8.out.c 7 (by omega)
        replace g0 : w8.cell? ⟨tb, 0, none⟩ = some (.int .i64 (v1 : Int)) := g0
        replace g1 : w8.cell? ⟨tb, 1, none⟩ = some (.int .i64 (v2 : Int)) := g1
        replace g2 : w8.cell? ⟨tb, 2, none⟩ = some (.int .i64 (v3 : Int)) := g2
        replace g3 : w8.cell? ⟨tb, 3, none⟩ = some (.int .i64 (v4 : Int)) := g3
        replace g4 : w8.cell? ⟨tb, 4, none⟩ = some (.bool d5) := g4
        replace g5 : w8.cell? ⟨tb, 5, none⟩ = some (.slice ao' len' cap') := g5
        replace g6 : w8.cell? ⟨tb, 6, none⟩ = some (.string t7) := g6
        replace g7 : w8.cell? ⟨tb, 7, none⟩ = some (.string ⟨#[]⟩) := g7
        clear f0 f1 f2 f3 f4 f5 f6
        obtain ⟨X8, hX8⟩ : ∃ X, X = w8.setCell ⟨tb, 7, none⟩ (.string t8) := ⟨_, rfl⟩
        have JX8 : Hid (Rdd w X8 rb tb (some c) ⟨(v1 : Int), (v2 : Int), (v3 : Int), (v4 : Int), d5, ao', len', cap', t7, t8⟩ al) := by rw [hX8, ← e8]; exact J8.out
        have HP : Hid (Parts ⟨(v1 : Int), (v2 : Int), (v3 : Int), (v4 : Int), d5, ao', len', cap', t7, t8⟩ al V ∧ rv l = some (V, c)) := ⟨hP, ev⟩
        have c24 := mver24 ⟨(v1 : Int), (v2 : Int), (v3 : Int), (v4 : Int), d5, ao', len', cap', t7, t8⟩ al X8 (JX8.out.at_ (by show len' ≤ 1000; omega)).1 (by have := HF7.out.2; show t7.size ≤ 100000; omega) (by have := HF8.out.2; show t8.size ≤ 100000; omega)
        have HMI : Hid (mayI ⟨(v1 : Int), (v2 : Int), (v3 : Int), (v4 : Int), d5, ao', len', cap', t7, t8⟩ al = mayN V) := hP.may
        generalize mayI ⟨(v1 : Int), (v2 : Int), (v3 : Int), (v4 : Int), d5, ao', len', cap', t7, t8⟩ al = mi at c24 HMI
        unfold Vn.val at c24
        simp only at c24
        clear e8 ev hP HT J8
        go_wp2_with fail
        rw [← hX8]
        clear hX8 g0 g1 g2 g3 g4 g5 g6 g7 f7 hbd8
        refine c24.mono ?_
        rintro r w9 ⟨rfl, hb9⟩
        have J9 : Hid (Rdd w w9 rb tb (some c) ⟨(v1 : Int), (v2 : Int), (v3 : Int), (v4 : Int), d5, ao', len', cap', t7, t8⟩ al) := JX8.out.call2 (JX8.out.r.kept (Kept.of_below (P := Any) hb9) trivial (fun _ _ => trivial)) (Kept.of_below (P := Any) hb9) (fun _ _ _ => trivial)
        clear c24 hb9
        obtain ⟨⟨zz0, zz1, zz2, zz3, zz4, zz5, zz6, zz7⟩, zg0, zg1, zg2, zg3, zg4, zg5, zg6, zg7⟩ := (J9.out.z).eight
        replace zz0 : w9.cell? ⟨w.heap.size, 0, none⟩ = some (.int .i64 0) := zz0
        replace zz1 : w9.cell? ⟨w.heap.size, 1, none⟩ = some (.int .i64 0) := zz1
        replace zz2 : w9.cell? ⟨w.heap.size, 2, none⟩ = some (.int .i64 0) := zz2
        replace zz3 : w9.cell? ⟨w.heap.size, 3, none⟩ = some (.int .i64 0) := zz3
        replace zz4 : w9.cell? ⟨w.heap.size, 4, none⟩ = some (.bool false) := zz4
        replace zz5 : w9.cell? ⟨w.heap.size, 5, none⟩ = some (.slice none 0 0) := zz5
        replace zz6 : w9.cell? ⟨w.heap.size, 6, none⟩ = some (.string ⟨#[]⟩) := zz6
        replace zz7 : w9.cell? ⟨w.heap.size, 7, none⟩ = some (.string ⟨#[]⟩) := zz7
        cases mi with
        | false =>
          have HQ : Hid (tvP mayN l = none) := tv_no2 HX.out.2.2.2 HP.out.2 HMI.out.symm
          go_wp2
          refine bodyPost_ret (v := .tuple #[Vn.val ⟨0, 0, 0, 0, false, none, 0, 0, ⟨#[]⟩, ⟨#[]⟩⟩, .int .i64 ((0 : Nat) : Int), .bool false]) (by simp [results, Tryd.results12, go_sem, zz0, zz1, zz2, zz3, zz4, zz5, zz6, zz7, n3, n4, Vn.val]) rfl ?_
          exact rtake_no J9.out (kept8 _ _ _ _ _ _ _ _ _ _) HQ.out
        | true =>
          obtain ⟨_, _, ro, rn, rc, rl, rbad, rh0, rh1, rh2, rhr, _, rle, _⟩ := J9.out.r
          have HLC : Hid (rn = c.length ∧ c.length < l.length ∧ n = l.length) := ⟨by have := rhr.len; rw [rle] at this; exact this.symm, rv_len HX.out.2.2.2 HP.out.2, HX.out.2.2.1⟩
          clear rh1 rh2 rhr rle zg0 zg1 zg2 zg3 zg4 zg5 zg6 zg7 zz0 zz1 zz2 zz3 zz4 zz5 zz6 zz7
          have hln : rn < n := by have := HLC.out; omega
          have HRW : Hid (Rb w9 ao n cap l) := HRB.out.kept J9.out.k
          have hle := HRW.out.le
          obtain ⟨bb, bo, rfl, _⟩ := HRW.out.at_ (by omega)
          obtain ⟨k, hk⟩ : ∃ k, k = n - rn := ⟨_, rfl⟩
          have hkI : (n : Int) - (rn : Int) = (k : Int) := by omega
          have hkn : k ≤ n := by omega
          have hkc : k ≤ cap := by omega
          have hk1 : (k : Int) ≤ (cap : Int) := by omega
          have hk0 : (0 : Int) ≤ (k : Int) := by omega
          have HKK : Hid (k = l.length - c.length) := by have := HLC.out; show _ = _; omega
          have HKE : Hid (k = n - rn) := hk
          have hln2 : rn ≤ n := by omega
          clear hkI hkn hkc hk
          go_wp2_with fail
          rw [show (n : Int) - (rn : Int) = (k : Int) by have := HKE.out; omega]
          clear hln hle hln2
          have hdr : Below w9.heap.size w9 w9.drew := (Below.refl _ w9).drew
          have ht9 : tb < w9.heap.size := J9.out.s
          obtain ⟨PB, hPB⟩ : ∃ PB, PB = vb ⟨(v1 : Int), (v2 : Int), (v3 : Int), (v4 : Int), d5, ao', len', cap', t7, t8⟩ al := ⟨_, rfl⟩
          have HA9 : Hid (∀ W, Below w9.heap.size w9 W → Calls Tryd.prog 14 #[.slice none 0 0, .agg #[.int .i64 (v1 : Int), .int .i64 (v2 : Int), .int .i64 (v3 : Int), .int .i64 (v4 : Int), .bool d5, .slice ao' len' cap', .string t7, .string t8]] W fun e w' => ∃ xo N xc, e = .returned (.slice xo N xc) ∧ Rb w' xo N xc PB ∧ Below W.heap.size W w') := by
            show ∀ W, _ → _
            intro W hW
            rw [hPB]
            have hh := (J9.out.at_ (by show len' ≤ 1000; omega)).1
            exact rput14 none 0 0 [] ⟨(v1 : Int), (v2 : Int), (v3 : Int), (v4 : Int), d5, ao', len', cap', t7, t8⟩ al W (Rb.none W) (by omega) (At.kept hh hW) (by have := HF7.out.2; show t7.size ≤ 100000; omega) (by have := HF8.out.2; show t8.size ≤ 100000; omega)
          have HPB : Hid (PB = pv V) := by
            show _ = _
            rw [hPB]; unfold vb
            rw [if_pos (HP.out.1.may.trans HMI.out.symm), HP.out.1.vp]
          have HPL : Hid ((∀ x ∈ PB, x < 256) ∧ ∀ x ∈ l.take k, x < 256) := ⟨by rw [hPB]; exact vb_lt _ _, fun x hx => HX.out.2.2.2 x (List.mem_of_mem_take hx)⟩
          clear hPB
          have cb : ∀ W, Below w9.heap.size w9 W → (convert 27 9 (.slice (some ⟨bb, bo, none⟩) k cap)).run Tryd.prog W = .ok (.string (strs (l.take k))) W := fun W hW => conv_rb (rb_take (HRW.out.kept hW) k (by have := HLC.out; have := HKK.out; omega))
          have HRW2 : Hid (Rb w9 (some ⟨bb, bo, none⟩) n cap l) := HRW.out
          by_cases hE : PB = l.take k
          · rw [← hE] at cb
            have HE : Hid (PB = l.take k) := hE
            clear hE
            refine wp_region_held_drew (S := fun W => Below w9.heap.size w9 W) (by kernel_rfl) ?_ (fun hHeld => ?_)
            · (try dsimp only)
              exact hdr
            refine wpAnyH_take (i := 3) (oi := { dst := some 84, op := Go.Op.move (Go.Operand.tmp 0), type := 27, pos := "ref.go:129", after := #[], guard := none }) (v := ?_) rfl (by kernel_rfl) (by kernel_rfl) (by kernel_rfl) (fun _ _ _ h => h) (Or.inl ⟨by rfl, ?_⟩) (by assumption) ?_
            rotate_left
            · intro w hSw
              (try dsimp only at hSw)
              go_simp
              try with_reducible rfl
            simp only [Act.put, List.setIfInBounds_toArray, List.set_cons_zero, List.set_cons_succ]
            refine wpAnyH_take (i := 4) (oi := { dst := some 85, op := Go.Op.move (Go.Operand.tmp 9), type := 3, pos := "ref.go:129", after := #[], guard := none }) (v := ?_) rfl (by kernel_rfl) (by kernel_rfl) (by kernel_rfl) (fun _ _ _ h => h) (Or.inl ⟨by rfl, ?_⟩) (by assumption) ?_
            rotate_left
            · intro w hSw
              (try dsimp only at hSw)
              go_simp
              try with_reducible rfl
            simp only [Act.put, List.setIfInBounds_toArray, List.set_cons_zero, List.set_cons_succ]
            refine wpAnyH_take (i := 5) (oi := { dst := some 86, op := Go.Op.slice 27 (Go.Operand.tmp 84) none (some (Go.Operand.tmp 85)) none, type := 27, pos := "ref.go:129", after := #[{ on := 3, ground := Go.Ground.data }, { on := 4, ground := Go.Ground.data }], guard := none }) (v := ?_) rfl (by kernel_rfl) (by kernel_rfl) (by kernel_rfl) (fun _ _ _ h => h) (Or.inl ⟨by rfl, ?_⟩) (by assumption) ?_
            rotate_left
            · intro w hSw
              (try dsimp only at hSw)
              go_simp
              try with_reducible rfl
            simp only [Act.put, List.setIfInBounds_toArray, List.set_cons_zero, List.set_cons_succ]
            refine wpAnyH_take (i := 6) (oi := { dst := some 87, op := Go.Op.convert 27 9 (Go.Operand.tmp 86), type := 9, pos := "ref.go:129", after := #[{ on := 5, ground := Go.Ground.data }], guard := none }) (v := ?_) rfl (by kernel_rfl) (by kernel_rfl) (by kernel_rfl) (fun _ _ _ h => h) (Or.inl ⟨by rfl, ?_⟩) (by assumption) ?_
            rotate_left
            · intro w hSw
              (try dsimp only at hSw)
              go_simp
              try with_reducible rfl
            simp only [Act.put, List.setIfInBounds_toArray, List.set_cons_zero, List.set_cons_succ]
            refine wpAnyH_take (i := 0) (oi := { dst := some 81, op := Go.Op.load 26 (Go.Operand.tmp 6), type := 26, pos := "ref.go:129", after := #[], guard := none }) (v := ?_) rfl (by kernel_rfl) (by kernel_rfl) (by kernel_rfl) (fun _ _ _ h => h) (Or.inl ⟨by rfl, ?_⟩) (by assumption) ?_
            rotate_left
            · intro w hSw
              (try dsimp only at hSw)
              have p0 : w.cell? ⟨tb, 0, none⟩ = some (.int .i64 (v1 : Int)) := (hSw.cell (p := ⟨tb, 0, none⟩) ht9).trans (J9.out.c 0 (by omega)).1
              have p1 : w.cell? ⟨tb, 1, none⟩ = some (.int .i64 (v2 : Int)) := (hSw.cell (p := ⟨tb, 1, none⟩) ht9).trans (J9.out.c 1 (by omega)).1
              have p2 : w.cell? ⟨tb, 2, none⟩ = some (.int .i64 (v3 : Int)) := (hSw.cell (p := ⟨tb, 2, none⟩) ht9).trans (J9.out.c 2 (by omega)).1
              have p3 : w.cell? ⟨tb, 3, none⟩ = some (.int .i64 (v4 : Int)) := (hSw.cell (p := ⟨tb, 3, none⟩) ht9).trans (J9.out.c 3 (by omega)).1
              have p4 : w.cell? ⟨tb, 4, none⟩ = some (.bool d5) := (hSw.cell (p := ⟨tb, 4, none⟩) ht9).trans (J9.out.c 4 (by omega)).1
              have p5 : w.cell? ⟨tb, 5, none⟩ = some (.slice ao' len' cap') := (hSw.cell (p := ⟨tb, 5, none⟩) ht9).trans (J9.out.c 5 (by omega)).1
              have p6 : w.cell? ⟨tb, 6, none⟩ = some (.string t7) := (hSw.cell (p := ⟨tb, 6, none⟩) ht9).trans (J9.out.c 6 (by omega)).1
              have p7 : w.cell? ⟨tb, 7, none⟩ = some (.string t8) := (hSw.cell (p := ⟨tb, 7, none⟩) ht9).trans (J9.out.c 7 (by omega)).1
              go_simp
              try with_reducible rfl
            simp only [Act.put, List.setIfInBounds_toArray, List.set_cons_zero, List.set_cons_succ]
            refine wpAnyH_ready (rs := [1]) (by kernel_rfl) (by simp) ?_
            refine AllReadyH.cons (o := { dst := some 82, op := Go.Op.call { callee := Go.Callee.value (Go.Operand.func 14), args := #[Go.Operand.const (Go.Value.slice none 0 0), Go.Operand.tmp 81], argTypes := #[27, 26] }, type := 27, pos := "ref.go:129", after := #[{ on := 0, ground := Go.Ground.data }], guard := none }) rfl (fun K hK => ?_) AllReadyH.nil
            go_simp
            refine (HA9.out _ hdr).mono ?_
            rintro r W2 ⟨xo, xn, xc, rfl, hrx, hbx⟩
            have hq2 : Below w9.heap.size w9 W2 := hdr.trans (hbx.mono hdr.size)
            have cv : ∀ W, Below W2.heap.size W2 W → (convert 27 9 (.slice xo xn xc)).run Tryd.prog W = .ok (.string (strs PB)) W := fun W hW => conv_rb (hrx.kept hW)
            clear hrx hbx
            refine hK.out _ _ ?_ (fun hHeld => ?_)
            · (try dsimp only)
              exact hq2
            clear hK K hHeld
            try simp only [Act.put, List.setIfInBounds_toArray, List.set_cons_zero, List.set_cons_succ]
            refine wpAnyH_strong (S' := fun W => Below W2.heap.size W2 W) (fun W h => hq2.trans (h.mono hq2.size)) _ _ _ _ ?_
            have hHeld : Below W2.heap.size W2 W2 := Below.refl _ _
            refine wpAnyH_take (i := 2) (oi := { dst := some 83, op := Go.Op.convert 27 9 (Go.Operand.tmp 82), type := 9, pos := "ref.go:129", after := #[{ on := 1, ground := Go.Ground.data }], guard := none }) (v := ?_) rfl (by kernel_rfl) (by kernel_rfl) (by kernel_rfl) (fun _ _ _ h => h) (Or.inl ⟨by rfl, ?_⟩) (by assumption) ?_
            rotate_left
            · intro w hSw
              (try dsimp only at hSw)
              go_simp
              try with_reducible rfl
            simp only [Act.put, List.setIfInBounds_toArray, List.set_cons_zero, List.set_cons_succ]
            refine wpAnyH_take (i := 7) (oi := { dst := some 88, op := Go.Op.binOp Go.BinOp.neq 9 (Go.Operand.tmp 83) (Go.Operand.tmp 87) 9, type := 4, pos := "ref.go:129", after := #[{ on := 2, ground := Go.Ground.data }, { on := 6, ground := Go.Ground.data }], guard := none }) (v := ?_) rfl (by kernel_rfl) (by kernel_rfl) (by kernel_rfl) (fun _ _ _ h => h) (Or.inl ⟨by rfl, ?_⟩) (by assumption) ?_
            rotate_left
            · intro w hSw
              (try dsimp only at hSw)
              go_simp
              try with_reducible rfl
            simp only [Act.put, List.setIfInBounds_toArray, List.set_cons_zero, List.set_cons_succ]
            refine wpAnyH_done (by kernel_rfl) ?_ _
            have JW : Hid (Rdd w W2 rb tb (some c) ⟨(v1 : Int), (v2 : Int), (v3 : Int), (v4 : Int), d5, ao', len', cap', t7, t8⟩ al) := J9.out.call2 (J9.out.r.kept (Kept.of_below (P := Any) hq2) trivial (fun _ _ => trivial)) (Kept.of_below (P := Any) hq2) (fun _ _ _ => trivial)
            have p0 : W2.cell? ⟨tb, 0, none⟩ = some (.int .i64 (v1 : Int)) := (hq2.cell (p := ⟨tb, 0, none⟩) ht9).trans (J9.out.c 0 (by omega)).1
            have p1 : W2.cell? ⟨tb, 1, none⟩ = some (.int .i64 (v2 : Int)) := (hq2.cell (p := ⟨tb, 1, none⟩) ht9).trans (J9.out.c 1 (by omega)).1
            have p2 : W2.cell? ⟨tb, 2, none⟩ = some (.int .i64 (v3 : Int)) := (hq2.cell (p := ⟨tb, 2, none⟩) ht9).trans (J9.out.c 2 (by omega)).1
            have p3 : W2.cell? ⟨tb, 3, none⟩ = some (.int .i64 (v4 : Int)) := (hq2.cell (p := ⟨tb, 3, none⟩) ht9).trans (J9.out.c 3 (by omega)).1
            have p4 : W2.cell? ⟨tb, 4, none⟩ = some (.bool d5) := (hq2.cell (p := ⟨tb, 4, none⟩) ht9).trans (J9.out.c 4 (by omega)).1
            have p5 : W2.cell? ⟨tb, 5, none⟩ = some (.slice ao' len' cap') := (hq2.cell (p := ⟨tb, 5, none⟩) ht9).trans (J9.out.c 5 (by omega)).1
            have p6 : W2.cell? ⟨tb, 6, none⟩ = some (.string t7) := (hq2.cell (p := ⟨tb, 6, none⟩) ht9).trans (J9.out.c 6 (by omega)).1
            have p7 : W2.cell? ⟨tb, 7, none⟩ = some (.string t8) := (hq2.cell (p := ⟨tb, 7, none⟩) ht9).trans (J9.out.c 7 (by omega)).1
            obtain ⟨⟨zz0, zz1, zz2, zz3, zz4, zz5, zz6, zz7⟩, zg0, zg1, zg2, zg3, zg4, zg5, zg6, zg7⟩ := (JW.out.z).eight
            replace zz0 : W2.cell? ⟨w.heap.size, 0, none⟩ = some (.int .i64 0) := zz0
            replace zz1 : W2.cell? ⟨w.heap.size, 1, none⟩ = some (.int .i64 0) := zz1
            replace zz2 : W2.cell? ⟨w.heap.size, 2, none⟩ = some (.int .i64 0) := zz2
            replace zz3 : W2.cell? ⟨w.heap.size, 3, none⟩ = some (.int .i64 0) := zz3
            replace zz4 : W2.cell? ⟨w.heap.size, 4, none⟩ = some (.bool false) := zz4
            replace zz5 : W2.cell? ⟨w.heap.size, 5, none⟩ = some (.slice none 0 0) := zz5
            replace zz6 : W2.cell? ⟨w.heap.size, 6, none⟩ = some (.string ⟨#[]⟩) := zz6
            replace zz7 : W2.cell? ⟨w.heap.size, 7, none⟩ = some (.string ⟨#[]⟩) := zz7
            try clear hHeld
            clear cv cb hq2 hdr ht9
            go_wp2
            have HQ : Hid (tvP mayN l = some (V, k)) := by
              show _ = _
              rw [HKK.out]
              exact tv_yes HX.out.2.2.2 HP.out.2 HMI.out.symm (by rw [← HKK.out, ← HE.out, HPB.out])
            refine bodyPost_ret (v := .tuple #[Vn.val ⟨(v1 : Int), (v2 : Int), (v3 : Int), (v4 : Int), d5, ao', len', cap', t7, t8⟩, .int .i64 (k : Int), .bool true]) (by simp [results, Tryd.results12, go_sem, zz0, zz1, zz2, zz3, zz4, zz5, zz6, zz7, n3, n4, Vn.val]) rfl ?_
            exact rtake_end JW.out (by show len' ≤ 1000; omega) (kept8 _ _ _ _ _ _ _ _ _ _) HQ.out HP.out.1 (HP.out.1.may.trans HMI.out.symm)
          · have hts : ¬ (strs PB).toList = (strs (l.take k)).toList := fun h => hE (strs_inj _ _ HPL.out.1 HPL.out.2 (toList_inj h))
            have hts2 : ((strs PB).toList == (strs (l.take k)).toList) = false := beq_eq_false_iff_ne.2 hts
            have HE : Hid (PB ≠ l.take k) := hE
            clear hE
            refine wp_region_held_drew (S := fun W => Below w9.heap.size w9 W) (by kernel_rfl) ?_ (fun hHeld => ?_)
            · (try dsimp only)
              exact hdr
            refine wpAnyH_take (i := 3) (oi := { dst := some 84, op := Go.Op.move (Go.Operand.tmp 0), type := 27, pos := "ref.go:129", after := #[], guard := none }) (v := ?_) rfl (by kernel_rfl) (by kernel_rfl) (by kernel_rfl) (fun _ _ _ h => h) (Or.inl ⟨by rfl, ?_⟩) (by assumption) ?_
            rotate_left
            · intro w hSw
              (try dsimp only at hSw)
              go_simp
              try with_reducible rfl
            simp only [Act.put, List.setIfInBounds_toArray, List.set_cons_zero, List.set_cons_succ]
            refine wpAnyH_take (i := 4) (oi := { dst := some 85, op := Go.Op.move (Go.Operand.tmp 9), type := 3, pos := "ref.go:129", after := #[], guard := none }) (v := ?_) rfl (by kernel_rfl) (by kernel_rfl) (by kernel_rfl) (fun _ _ _ h => h) (Or.inl ⟨by rfl, ?_⟩) (by assumption) ?_
            rotate_left
            · intro w hSw
              (try dsimp only at hSw)
              go_simp
              try with_reducible rfl
            simp only [Act.put, List.setIfInBounds_toArray, List.set_cons_zero, List.set_cons_succ]
            refine wpAnyH_take (i := 5) (oi := { dst := some 86, op := Go.Op.slice 27 (Go.Operand.tmp 84) none (some (Go.Operand.tmp 85)) none, type := 27, pos := "ref.go:129", after := #[{ on := 3, ground := Go.Ground.data }, { on := 4, ground := Go.Ground.data }], guard := none }) (v := ?_) rfl (by kernel_rfl) (by kernel_rfl) (by kernel_rfl) (fun _ _ _ h => h) (Or.inl ⟨by rfl, ?_⟩) (by assumption) ?_
            rotate_left
            · intro w hSw
              (try dsimp only at hSw)
              go_simp
              try with_reducible rfl
            simp only [Act.put, List.setIfInBounds_toArray, List.set_cons_zero, List.set_cons_succ]
            refine wpAnyH_take (i := 6) (oi := { dst := some 87, op := Go.Op.convert 27 9 (Go.Operand.tmp 86), type := 9, pos := "ref.go:129", after := #[{ on := 5, ground := Go.Ground.data }], guard := none }) (v := ?_) rfl (by kernel_rfl) (by kernel_rfl) (by kernel_rfl) (fun _ _ _ h => h) (Or.inl ⟨by rfl, ?_⟩) (by assumption) ?_
            rotate_left
            · intro w hSw
              (try dsimp only at hSw)
              go_simp
              try with_reducible rfl
            simp only [Act.put, List.setIfInBounds_toArray, List.set_cons_zero, List.set_cons_succ]
            refine wpAnyH_take (i := 0) (oi := { dst := some 81, op := Go.Op.load 26 (Go.Operand.tmp 6), type := 26, pos := "ref.go:129", after := #[], guard := none }) (v := ?_) rfl (by kernel_rfl) (by kernel_rfl) (by kernel_rfl) (fun _ _ _ h => h) (Or.inl ⟨by rfl, ?_⟩) (by assumption) ?_
            rotate_left
            · intro w hSw
              (try dsimp only at hSw)
              have p0 : w.cell? ⟨tb, 0, none⟩ = some (.int .i64 (v1 : Int)) := (hSw.cell (p := ⟨tb, 0, none⟩) ht9).trans (J9.out.c 0 (by omega)).1
              have p1 : w.cell? ⟨tb, 1, none⟩ = some (.int .i64 (v2 : Int)) := (hSw.cell (p := ⟨tb, 1, none⟩) ht9).trans (J9.out.c 1 (by omega)).1
              have p2 : w.cell? ⟨tb, 2, none⟩ = some (.int .i64 (v3 : Int)) := (hSw.cell (p := ⟨tb, 2, none⟩) ht9).trans (J9.out.c 2 (by omega)).1
              have p3 : w.cell? ⟨tb, 3, none⟩ = some (.int .i64 (v4 : Int)) := (hSw.cell (p := ⟨tb, 3, none⟩) ht9).trans (J9.out.c 3 (by omega)).1
              have p4 : w.cell? ⟨tb, 4, none⟩ = some (.bool d5) := (hSw.cell (p := ⟨tb, 4, none⟩) ht9).trans (J9.out.c 4 (by omega)).1
              have p5 : w.cell? ⟨tb, 5, none⟩ = some (.slice ao' len' cap') := (hSw.cell (p := ⟨tb, 5, none⟩) ht9).trans (J9.out.c 5 (by omega)).1
              have p6 : w.cell? ⟨tb, 6, none⟩ = some (.string t7) := (hSw.cell (p := ⟨tb, 6, none⟩) ht9).trans (J9.out.c 6 (by omega)).1
              have p7 : w.cell? ⟨tb, 7, none⟩ = some (.string t8) := (hSw.cell (p := ⟨tb, 7, none⟩) ht9).trans (J9.out.c 7 (by omega)).1
              go_simp
              try with_reducible rfl
            simp only [Act.put, List.setIfInBounds_toArray, List.set_cons_zero, List.set_cons_succ]
            refine wpAnyH_ready (rs := [1]) (by kernel_rfl) (by simp) ?_
            refine AllReadyH.cons (o := { dst := some 82, op := Go.Op.call { callee := Go.Callee.value (Go.Operand.func 14), args := #[Go.Operand.const (Go.Value.slice none 0 0), Go.Operand.tmp 81], argTypes := #[27, 26] }, type := 27, pos := "ref.go:129", after := #[{ on := 0, ground := Go.Ground.data }], guard := none }) rfl (fun K hK => ?_) AllReadyH.nil
            go_simp
            refine (HA9.out _ hdr).mono ?_
            rintro r W2 ⟨xo, xn, xc, rfl, hrx, hbx⟩
            have hq2 : Below w9.heap.size w9 W2 := hdr.trans (hbx.mono hdr.size)
            have cv : ∀ W, Below W2.heap.size W2 W → (convert 27 9 (.slice xo xn xc)).run Tryd.prog W = .ok (.string (strs PB)) W := fun W hW => conv_rb (hrx.kept hW)
            clear hrx hbx
            refine hK.out _ _ ?_ (fun hHeld => ?_)
            · (try dsimp only)
              exact hq2
            clear hK K hHeld
            try simp only [Act.put, List.setIfInBounds_toArray, List.set_cons_zero, List.set_cons_succ]
            refine wpAnyH_strong (S' := fun W => Below W2.heap.size W2 W) (fun W h => hq2.trans (h.mono hq2.size)) _ _ _ _ ?_
            have hHeld : Below W2.heap.size W2 W2 := Below.refl _ _
            refine wpAnyH_take (i := 2) (oi := { dst := some 83, op := Go.Op.convert 27 9 (Go.Operand.tmp 82), type := 9, pos := "ref.go:129", after := #[{ on := 1, ground := Go.Ground.data }], guard := none }) (v := ?_) rfl (by kernel_rfl) (by kernel_rfl) (by kernel_rfl) (fun _ _ _ h => h) (Or.inl ⟨by rfl, ?_⟩) (by assumption) ?_
            rotate_left
            · intro w hSw
              (try dsimp only at hSw)
              go_simp
              try with_reducible rfl
            simp only [Act.put, List.setIfInBounds_toArray, List.set_cons_zero, List.set_cons_succ]
            refine wpAnyH_take (i := 7) (oi := { dst := some 88, op := Go.Op.binOp Go.BinOp.neq 9 (Go.Operand.tmp 83) (Go.Operand.tmp 87) 9, type := 4, pos := "ref.go:129", after := #[{ on := 2, ground := Go.Ground.data }, { on := 6, ground := Go.Ground.data }], guard := none }) (v := ?_) rfl (by kernel_rfl) (by kernel_rfl) (by kernel_rfl) (fun _ _ _ h => h) (Or.inl ⟨by rfl, ?_⟩) (by assumption) ?_
            rotate_left
            · intro w hSw
              (try dsimp only at hSw)
              go_simp
              try with_reducible rfl
            simp only [Act.put, List.setIfInBounds_toArray, List.set_cons_zero, List.set_cons_succ]
            refine wpAnyH_done (by kernel_rfl) ?_ _
            have JW : Hid (Rdd w W2 rb tb (some c) ⟨(v1 : Int), (v2 : Int), (v3 : Int), (v4 : Int), d5, ao', len', cap', t7, t8⟩ al) := J9.out.call2 (J9.out.r.kept (Kept.of_below (P := Any) hq2) trivial (fun _ _ => trivial)) (Kept.of_below (P := Any) hq2) (fun _ _ _ => trivial)
            have p0 : W2.cell? ⟨tb, 0, none⟩ = some (.int .i64 (v1 : Int)) := (hq2.cell (p := ⟨tb, 0, none⟩) ht9).trans (J9.out.c 0 (by omega)).1
            have p1 : W2.cell? ⟨tb, 1, none⟩ = some (.int .i64 (v2 : Int)) := (hq2.cell (p := ⟨tb, 1, none⟩) ht9).trans (J9.out.c 1 (by omega)).1
            have p2 : W2.cell? ⟨tb, 2, none⟩ = some (.int .i64 (v3 : Int)) := (hq2.cell (p := ⟨tb, 2, none⟩) ht9).trans (J9.out.c 2 (by omega)).1
            have p3 : W2.cell? ⟨tb, 3, none⟩ = some (.int .i64 (v4 : Int)) := (hq2.cell (p := ⟨tb, 3, none⟩) ht9).trans (J9.out.c 3 (by omega)).1
            have p4 : W2.cell? ⟨tb, 4, none⟩ = some (.bool d5) := (hq2.cell (p := ⟨tb, 4, none⟩) ht9).trans (J9.out.c 4 (by omega)).1
            have p5 : W2.cell? ⟨tb, 5, none⟩ = some (.slice ao' len' cap') := (hq2.cell (p := ⟨tb, 5, none⟩) ht9).trans (J9.out.c 5 (by omega)).1
            have p6 : W2.cell? ⟨tb, 6, none⟩ = some (.string t7) := (hq2.cell (p := ⟨tb, 6, none⟩) ht9).trans (J9.out.c 6 (by omega)).1
            have p7 : W2.cell? ⟨tb, 7, none⟩ = some (.string t8) := (hq2.cell (p := ⟨tb, 7, none⟩) ht9).trans (J9.out.c 7 (by omega)).1
            obtain ⟨⟨zz0, zz1, zz2, zz3, zz4, zz5, zz6, zz7⟩, zg0, zg1, zg2, zg3, zg4, zg5, zg6, zg7⟩ := (JW.out.z).eight
            replace zz0 : W2.cell? ⟨w.heap.size, 0, none⟩ = some (.int .i64 0) := zz0
            replace zz1 : W2.cell? ⟨w.heap.size, 1, none⟩ = some (.int .i64 0) := zz1
            replace zz2 : W2.cell? ⟨w.heap.size, 2, none⟩ = some (.int .i64 0) := zz2
            replace zz3 : W2.cell? ⟨w.heap.size, 3, none⟩ = some (.int .i64 0) := zz3
            replace zz4 : W2.cell? ⟨w.heap.size, 4, none⟩ = some (.bool false) := zz4
            replace zz5 : W2.cell? ⟨w.heap.size, 5, none⟩ = some (.slice none 0 0) := zz5
            replace zz6 : W2.cell? ⟨w.heap.size, 6, none⟩ = some (.string ⟨#[]⟩) := zz6
            replace zz7 : W2.cell? ⟨w.heap.size, 7, none⟩ = some (.string ⟨#[]⟩) := zz7
            try clear hHeld
            clear cv cb hq2 hdr ht9
            go_wp2
            have HQ : Hid (tvP mayN l = none) := tv_no3 HX.out.2.2.2 HP.out.2 (by rw [← HKK.out, ← HPB.out]; exact HE.out)
            refine bodyPost_ret (v := .tuple #[Vn.val ⟨0, 0, 0, 0, false, none, 0, 0, ⟨#[]⟩, ⟨#[]⟩⟩, .int .i64 ((0 : Nat) : Int), .bool false]) (by simp [results, Tryd.results12, go_sem, zz0, zz1, zz2, zz3, zz4, zz5, zz6, zz7, n3, n4, Vn.val]) rfl ?_
            exact rtake_no JW.out (kept8 _ _ _ _ _ _ _ _ _ _) HQ.out
    · cases hs : s with
      | none =>
        have hm1 : (0 : Int) < (m : Int) := by omega
        have hm2 : decide ((0 : Int) < (m : Int)) = true := decide_eq_true hm1
        have hm3 : decide (0 < m) = true := decide_eq_true (by omega)
        rw [hs] at hJ hbad hRe
        have hRm : R.map (·.2) = none := by rw [hRe]; rfl
        have hRa : ∀ x l, R = some (x, l) → al = castA x := by intro x l e; rw [hRe] at e; cases e
        have hbad' : wr.cell? ⟨rb, 1, none⟩ = some (.bool true) := hbad
        have K7 : Hid (Rdd w wr rb tb (R.map (·.2)) ⟨(v1 : Int), (v2 : Int), (v3 : Int), (v4 : Int), d5, ao', len', cap', ⟨#[]⟩, ⟨#[]⟩⟩ al) := by show Rdd _ _ _ _ _ _ _; rw [hRm]; exact hJ
        have HFA : Hid (∀ x l, R = some (x, l) → al = castA x) := hRa
        have n1 : rb ≠ tb := by omega
        have n2 : tb ≠ rb := by omega
        have HX2 : Hid (rb = w.heap.size + 1) := HX.out.2.1
        have n3 : w.heap.size ≠ tb := by have := HX2.out; omega
        have n4 : tb ≠ w.heap.size := by have := HX2.out; omega
        have n5 : w.heap.size ≠ rb := by have := HX2.out; omega
        have n6 : rb ≠ w.heap.size := by have := HX2.out; omega
        have HALN : Hid (al.length ≤ 501) := hal
        clear hal hbd hJ hpre hRe hRm hRa HK hbad
        go_wp2_with fail
        obtain ⟨r7, hr7⟩ : ∃ r7, r7 = (R.map (·.2)).bind rt := ⟨_, rfl⟩
        have c := dtext23 rb (R.map (·.2)) wr K7.out.r
        rw [← hr7] at c
        have HR7 : Hid (r7 = (R.map (·.2)).bind rt) := hr7
        clear hr7
        refine c.mono ?_
        rintro r w7 ⟨t7, rfl, ht, hx, hs, hk⟩
        have HF7 : Hid ((∀ x l, r7 = some (x, l) → t7 = strs x ∧ bl t7 = x) ∧ t7.size ≤ 1000) := ⟨hx, ht⟩
        clear ht
        have K7 : Hid (Rdd w w7 rb tb (r7.map (·.2)) ⟨(v1 : Int), (v2 : Int), (v3 : Int), (v4 : Int), d5, ao', len', cap', ⟨#[]⟩, ⟨#[]⟩⟩ al) := K7.out.call hs hk
        clear c hx hs hk
        obtain ⟨g0, f0⟩ := K7.out.c 0 (by omega)
        obtain ⟨g1, f1⟩ := K7.out.c 1 (by omega)
        obtain ⟨g2, f2⟩ := K7.out.c 2 (by omega)
        obtain ⟨g3, f3⟩ := K7.out.c 3 (by omega)
        obtain ⟨g4, f4⟩ := K7.out.c 4 (by omega)
        obtain ⟨g5, f5⟩ := K7.out.c 5 (by omega)
        obtain ⟨g6, f6⟩ := K7.out.c 6 (by omega)
        obtain ⟨g7, f7⟩ := K7.out.c 7 (by omega)
        replace g0 : w7.cell? ⟨tb, 0, none⟩ = some (.int .i64 (v1 : Int)) := g0
        replace g1 : w7.cell? ⟨tb, 1, none⟩ = some (.int .i64 (v2 : Int)) := g1
        replace g2 : w7.cell? ⟨tb, 2, none⟩ = some (.int .i64 (v3 : Int)) := g2
        replace g3 : w7.cell? ⟨tb, 3, none⟩ = some (.int .i64 (v4 : Int)) := g3
        replace g4 : w7.cell? ⟨tb, 4, none⟩ = some (.bool d5) := g4
        replace g5 : w7.cell? ⟨tb, 5, none⟩ = some (.slice ao' len' cap') := g5
        replace g6 : w7.cell? ⟨tb, 6, none⟩ = some (.string ⟨#[]⟩) := g6
        replace g7 : w7.cell? ⟨tb, 7, none⟩ = some (.string ⟨#[]⟩) := g7
        clear g0 g1 g2 g3 g4 g5 g7 f0 f1 f2 f3 f4 f5 f7
        go_wp2_with fail
        obtain ⟨X7, hX7⟩ : ∃ X, X = w7.setCell ⟨tb, 6, none⟩ (.string t7) := ⟨_, rfl⟩
        have JX7 : Hid (Rdd w X7 rb tb (r7.map (·.2)) ⟨(v1 : Int), (v2 : Int), (v3 : Int), (v4 : Int), d5, ao', len', cap', t7, ⟨#[]⟩⟩ al) := by rw [hX7]; exact Rdd.set (u' := ⟨(v1 : Int), (v2 : Int), (v3 : Int), (v4 : Int), d5, ao', len', cap', t7, ⟨#[]⟩⟩) K7.out 6 _ (by omega) (eight rfl rfl rfl rfl rfl rfl rfl rfl) rfl rfl rfl HF7.out.2 K7.out.d
        clear g6 f6
        rw [← hX7]
        clear hX7
        obtain ⟨r8, hr8⟩ : ∃ r8, r8 = (r7.map (·.2)).bind rt := ⟨_, rfl⟩
        have c := dtext23 rb (r7.map (·.2)) X7 JX7.out.r
        rw [← hr8] at c
        have HR8 : Hid (r8 = (r7.map (·.2)).bind rt) := hr8
        clear hr8
        refine c.mono ?_
        rintro r w8 ⟨t8, rfl, ht, hx, hs, hk⟩
        have HF8 : Hid ((∀ x l, r8 = some (x, l) → t8 = strs x ∧ bl t8 = x) ∧ t8.size ≤ 1000) := ⟨hx, ht⟩
        clear ht
        have K8 : Hid (Rdd w w8 rb tb (r8.map (·.2)) ⟨(v1 : Int), (v2 : Int), (v3 : Int), (v4 : Int), d5, ao', len', cap', t7, ⟨#[]⟩⟩ al) := JX7.out.call hs hk
        clear c hx hs hk
        have HT : Hid ((r8.map (·.2) = none ∧ rv l = none) ∨ ∃ V c, r8.map (·.2) = some c ∧ rv l = some (V, c) ∧ Parts ⟨(v1 : Int), (v2 : Int), (v3 : Int), (v4 : Int), d5, ao', len', cap', t7, t8⟩ al V) := ver_tellD HR1.out HR2.out HR3.out HR4.out HR5.out HR6.out HRR.out HR7.out HR8.out HF1.out HF2.out.1 HF3.out.1 HF4.out.1 HF5.out.1 HD5.out HFA.out HF7.out.1 HF8.out.1
        have J8 : Hid (Rdd w (w8.setCell ⟨tb, 7, none⟩ (.string t8)) rb tb (r8.map (·.2)) ⟨(v1 : Int), (v2 : Int), (v3 : Int), (v4 : Int), d5, ao', len', cap', t7, t8⟩ al) := Rdd.set (u' := ⟨(v1 : Int), (v2 : Int), (v3 : Int), (v4 : Int), d5, ao', len', cap', t7, t8⟩) K8.out 7 _ (by omega) (eight rfl rfl rfl rfl rfl rfl rfl rfl) rfl rfl rfl HF7.out.2 HF8.out.2
        rcases HT.out with ⟨e8, ev⟩ | ⟨V, c, e8, ev, hP⟩
        · have HQ : Hid (tvP mayN l = none) := tv_no1 HX.out.2.2.2 ev
          have hbd8 : w8.cell? ⟨rb, 1, none⟩ = some (.bool true) := by have h := K8.out.r.bad; rw [e8] at h; exact h
          obtain ⟨g7, f7⟩ := K8.out.c 7 (by omega)
          replace g7 : w8.cell? ⟨tb, 7, none⟩ = some (.string ⟨#[]⟩) := g7
          obtain ⟨⟨zz0, zz1, zz2, zz3, zz4, zz5, zz6, zz7⟩, zg0, zg1, zg2, zg3, zg4, zg5, zg6, zg7⟩ := (K8.out.z).eight
          replace zz0 : w8.cell? ⟨w.heap.size, 0, none⟩ = some (.int .i64 0) := zz0
          replace zz1 : w8.cell? ⟨w.heap.size, 1, none⟩ = some (.int .i64 0) := zz1
          replace zz2 : w8.cell? ⟨w.heap.size, 2, none⟩ = some (.int .i64 0) := zz2
          replace zz3 : w8.cell? ⟨w.heap.size, 3, none⟩ = some (.int .i64 0) := zz3
          replace zz4 : w8.cell? ⟨w.heap.size, 4, none⟩ = some (.bool false) := zz4
          replace zz5 : w8.cell? ⟨w.heap.size, 5, none⟩ = some (.slice none 0 0) := zz5
          replace zz6 : w8.cell? ⟨w.heap.size, 6, none⟩ = some (.string ⟨#[]⟩) := zz6
          replace zz7 : w8.cell? ⟨w.heap.size, 7, none⟩ = some (.string ⟨#[]⟩) := zz7
          clear e8 ev HT
          go_wp2
          refine bodyPost_ret (v := .tuple #[Vn.val ⟨0, 0, 0, 0, false, none, 0, 0, ⟨#[]⟩, ⟨#[]⟩⟩, .int .i64 ((0 : Nat) : Int), .bool false]) (by simp [results, Tryd.results12, go_sem, zz0, zz1, zz2, zz3, zz4, zz5, zz6, zz7, n3, n4, Vn.val]) rfl ?_
          exact rtake_no J8.out (kept8 _ _ _ _ _ _ _ _ _ _) HQ.out
        · have hbd8 : w8.cell? ⟨rb, 1, none⟩ = some (.bool false) := by have h := K8.out.r.bad; rw [e8] at h; exact h
          obtain ⟨g0, f0⟩ := K8.out.c 0 (by omega)
          obtain ⟨g1, f1⟩ := K8.out.c 1 (by omega)
          obtain ⟨g2, f2⟩ := K8.out.c 2 (by omega)
          obtain ⟨g3, f3⟩ := K8.out.c 3 (by omega)
          obtain ⟨g4, f4⟩ := K8.out.c 4 (by omega)
          obtain ⟨g5, f5⟩ := K8.out.c 5 (by omega)
          obtain ⟨g6, f6⟩ := K8.out.c 6 (by omega)
          obtain ⟨g7, f7⟩ := K8.out.c 7 (by omega)
          replace g0 : w8.cell? ⟨tb, 0, none⟩ = some (.int .i64 (v1 : Int)) := g0
          replace g1 : w8.cell? ⟨tb, 1, none⟩ = some (.int .i64 (v2 : Int)) := g1
          replace g2 : w8.cell? ⟨tb, 2, none⟩ = some (.int .i64 (v3 : Int)) := g2
          replace g3 : w8.cell? ⟨tb, 3, none⟩ = some (.int .i64 (v4 : Int)) := g3
          replace g4 : w8.cell? ⟨tb, 4, none⟩ = some (.bool d5) := g4
          replace g5 : w8.cell? ⟨tb, 5, none⟩ = some (.slice ao' len' cap') := g5
          replace g6 : w8.cell? ⟨tb, 6, none⟩ = some (.string t7) := g6
          replace g7 : w8.cell? ⟨tb, 7, none⟩ = some (.string ⟨#[]⟩) := g7
          clear f0 f1 f2 f3 f4 f5 f6
          obtain ⟨X8, hX8⟩ : ∃ X, X = w8.setCell ⟨tb, 7, none⟩ (.string t8) := ⟨_, rfl⟩
          have JX8 : Hid (Rdd w X8 rb tb (some c) ⟨(v1 : Int), (v2 : Int), (v3 : Int), (v4 : Int), d5, ao', len', cap', t7, t8⟩ al) := by rw [hX8, ← e8]; exact J8.out
          have HP : Hid (Parts ⟨(v1 : Int), (v2 : Int), (v3 : Int), (v4 : Int), d5, ao', len', cap', t7, t8⟩ al V ∧ rv l = some (V, c)) := ⟨hP, ev⟩
          have c24 := mver24 ⟨(v1 : Int), (v2 : Int), (v3 : Int), (v4 : Int), d5, ao', len', cap', t7, t8⟩ al X8 (JX8.out.at_ (by show len' ≤ 1000; omega)).1 (by have := HF7.out.2; show t7.size ≤ 100000; omega) (by have := HF8.out.2; show t8.size ≤ 100000; omega)
          have HMI : Hid (mayI ⟨(v1 : Int), (v2 : Int), (v3 : Int), (v4 : Int), d5, ao', len', cap', t7, t8⟩ al = mayN V) := hP.may
          generalize mayI ⟨(v1 : Int), (v2 : Int), (v3 : Int), (v4 : Int), d5, ao', len', cap', t7, t8⟩ al = mi at c24 HMI
          unfold Vn.val at c24
          simp only at c24
          clear e8 ev hP HT J8
          go_wp2_with fail
          rw [← hX8]
          clear hX8 g0 g1 g2 g3 g4 g5 g6 g7 f7 hbd8
          refine c24.mono ?_
          rintro r w9 ⟨rfl, hb9⟩
          have J9 : Hid (Rdd w w9 rb tb (some c) ⟨(v1 : Int), (v2 : Int), (v3 : Int), (v4 : Int), d5, ao', len', cap', t7, t8⟩ al) := JX8.out.call2 (JX8.out.r.kept (Kept.of_below (P := Any) hb9) trivial (fun _ _ => trivial)) (Kept.of_below (P := Any) hb9) (fun _ _ _ => trivial)
          clear c24 hb9
          obtain ⟨⟨zz0, zz1, zz2, zz3, zz4, zz5, zz6, zz7⟩, zg0, zg1, zg2, zg3, zg4, zg5, zg6, zg7⟩ := (J9.out.z).eight
          replace zz0 : w9.cell? ⟨w.heap.size, 0, none⟩ = some (.int .i64 0) := zz0
          replace zz1 : w9.cell? ⟨w.heap.size, 1, none⟩ = some (.int .i64 0) := zz1
          replace zz2 : w9.cell? ⟨w.heap.size, 2, none⟩ = some (.int .i64 0) := zz2
          replace zz3 : w9.cell? ⟨w.heap.size, 3, none⟩ = some (.int .i64 0) := zz3
          replace zz4 : w9.cell? ⟨w.heap.size, 4, none⟩ = some (.bool false) := zz4
          replace zz5 : w9.cell? ⟨w.heap.size, 5, none⟩ = some (.slice none 0 0) := zz5
          replace zz6 : w9.cell? ⟨w.heap.size, 6, none⟩ = some (.string ⟨#[]⟩) := zz6
          replace zz7 : w9.cell? ⟨w.heap.size, 7, none⟩ = some (.string ⟨#[]⟩) := zz7
          cases mi with
          | false =>
            have HQ : Hid (tvP mayN l = none) := tv_no2 HX.out.2.2.2 HP.out.2 HMI.out.symm
            go_wp2
            refine bodyPost_ret (v := .tuple #[Vn.val ⟨0, 0, 0, 0, false, none, 0, 0, ⟨#[]⟩, ⟨#[]⟩⟩, .int .i64 ((0 : Nat) : Int), .bool false]) (by simp [results, Tryd.results12, go_sem, zz0, zz1, zz2, zz3, zz4, zz5, zz6, zz7, n3, n4, Vn.val]) rfl ?_
            exact rtake_no J9.out (kept8 _ _ _ _ _ _ _ _ _ _) HQ.out
          | true =>
            obtain ⟨_, _, ro, rn, rc, rl, rbad, rh0, rh1, rh2, rhr, _, rle, _⟩ := J9.out.r
            have HLC : Hid (rn = c.length ∧ c.length < l.length ∧ n = l.length) := ⟨by have := rhr.len; rw [rle] at this; exact this.symm, rv_len HX.out.2.2.2 HP.out.2, HX.out.2.2.1⟩
            clear rh1 rh2 rhr rle zg0 zg1 zg2 zg3 zg4 zg5 zg6 zg7 zz0 zz1 zz2 zz3 zz4 zz5 zz6 zz7
            have hln : rn < n := by have := HLC.out; omega
            have HRW : Hid (Rb w9 ao n cap l) := HRB.out.kept J9.out.k
            have hle := HRW.out.le
            obtain ⟨bb, bo, rfl, _⟩ := HRW.out.at_ (by omega)
            obtain ⟨k, hk⟩ : ∃ k, k = n - rn := ⟨_, rfl⟩
            have hkI : (n : Int) - (rn : Int) = (k : Int) := by omega
            have hkn : k ≤ n := by omega
            have hkc : k ≤ cap := by omega
            have hk1 : (k : Int) ≤ (cap : Int) := by omega
            have hk0 : (0 : Int) ≤ (k : Int) := by omega
            have HKK : Hid (k = l.length - c.length) := by have := HLC.out; show _ = _; omega
            have HKE : Hid (k = n - rn) := hk
            have hln2 : rn ≤ n := by omega
            clear hkI hkn hkc hk
            go_wp2_with fail
            rw [show (n : Int) - (rn : Int) = (k : Int) by have := HKE.out; omega]
            clear hln hle hln2
            have hdr : Below w9.heap.size w9 w9.drew := (Below.refl _ w9).drew
            have ht9 : tb < w9.heap.size := J9.out.s
            obtain ⟨PB, hPB⟩ : ∃ PB, PB = vb ⟨(v1 : Int), (v2 : Int), (v3 : Int), (v4 : Int), d5, ao', len', cap', t7, t8⟩ al := ⟨_, rfl⟩
            have HA9 : Hid (∀ W, Below w9.heap.size w9 W → Calls Tryd.prog 14 #[.slice none 0 0, .agg #[.int .i64 (v1 : Int), .int .i64 (v2 : Int), .int .i64 (v3 : Int), .int .i64 (v4 : Int), .bool d5, .slice ao' len' cap', .string t7, .string t8]] W fun e w' => ∃ xo N xc, e = .returned (.slice xo N xc) ∧ Rb w' xo N xc PB ∧ Below W.heap.size W w') := by
              show ∀ W, _ → _
              intro W hW
              rw [hPB]
              have hh := (J9.out.at_ (by show len' ≤ 1000; omega)).1
              exact rput14 none 0 0 [] ⟨(v1 : Int), (v2 : Int), (v3 : Int), (v4 : Int), d5, ao', len', cap', t7, t8⟩ al W (Rb.none W) (by omega) (At.kept hh hW) (by have := HF7.out.2; show t7.size ≤ 100000; omega) (by have := HF8.out.2; show t8.size ≤ 100000; omega)
            have HPB : Hid (PB = pv V) := by
              show _ = _
              rw [hPB]; unfold vb
              rw [if_pos (HP.out.1.may.trans HMI.out.symm), HP.out.1.vp]
            have HPL : Hid ((∀ x ∈ PB, x < 256) ∧ ∀ x ∈ l.take k, x < 256) := ⟨by rw [hPB]; exact vb_lt _ _, fun x hx => HX.out.2.2.2 x (List.mem_of_mem_take hx)⟩
            clear hPB
            have cb : ∀ W, Below w9.heap.size w9 W → (convert 27 9 (.slice (some ⟨bb, bo, none⟩) k cap)).run Tryd.prog W = .ok (.string (strs (l.take k))) W := fun W hW => conv_rb (rb_take (HRW.out.kept hW) k (by have := HLC.out; have := HKK.out; omega))
            have HRW2 : Hid (Rb w9 (some ⟨bb, bo, none⟩) n cap l) := HRW.out
            by_cases hE : PB = l.take k
            · rw [← hE] at cb
              have HE : Hid (PB = l.take k) := hE
              clear hE
              refine wp_region_held_drew (S := fun W => Below w9.heap.size w9 W) (by kernel_rfl) ?_ (fun hHeld => ?_)
              · (try dsimp only)
                exact hdr
              refine wpAnyH_take (i := 3) (oi := { dst := some 84, op := Go.Op.move (Go.Operand.tmp 0), type := 27, pos := "ref.go:129", after := #[], guard := none }) (v := ?_) rfl (by kernel_rfl) (by kernel_rfl) (by kernel_rfl) (fun _ _ _ h => h) (Or.inl ⟨by rfl, ?_⟩) (by assumption) ?_
              rotate_left
              · intro w hSw
                (try dsimp only at hSw)
                go_simp
                try with_reducible rfl
              simp only [Act.put, List.setIfInBounds_toArray, List.set_cons_zero, List.set_cons_succ]
              refine wpAnyH_take (i := 4) (oi := { dst := some 85, op := Go.Op.move (Go.Operand.tmp 9), type := 3, pos := "ref.go:129", after := #[], guard := none }) (v := ?_) rfl (by kernel_rfl) (by kernel_rfl) (by kernel_rfl) (fun _ _ _ h => h) (Or.inl ⟨by rfl, ?_⟩) (by assumption) ?_
              rotate_left
              · intro w hSw
                (try dsimp only at hSw)
                go_simp
                try with_reducible rfl
              simp only [Act.put, List.setIfInBounds_toArray, List.set_cons_zero, List.set_cons_succ]
              refine wpAnyH_take (i := 5) (oi := { dst := some 86, op := Go.Op.slice 27 (Go.Operand.tmp 84) none (some (Go.Operand.tmp 85)) none, type := 27, pos := "ref.go:129", after := #[{ on := 3, ground := Go.Ground.data }, { on := 4, ground := Go.Ground.data }], guard := none }) (v := ?_) rfl (by kernel_rfl) (by kernel_rfl) (by kernel_rfl) (fun _ _ _ h => h) (Or.inl ⟨by rfl, ?_⟩) (by assumption) ?_
              rotate_left
              · intro w hSw
                (try dsimp only at hSw)
                go_simp
                try with_reducible rfl
              simp only [Act.put, List.setIfInBounds_toArray, List.set_cons_zero, List.set_cons_succ]
              refine wpAnyH_take (i := 6) (oi := { dst := some 87, op := Go.Op.convert 27 9 (Go.Operand.tmp 86), type := 9, pos := "ref.go:129", after := #[{ on := 5, ground := Go.Ground.data }], guard := none }) (v := ?_) rfl (by kernel_rfl) (by kernel_rfl) (by kernel_rfl) (fun _ _ _ h => h) (Or.inl ⟨by rfl, ?_⟩) (by assumption) ?_
              rotate_left
              · intro w hSw
                (try dsimp only at hSw)
                go_simp
                try with_reducible rfl
              simp only [Act.put, List.setIfInBounds_toArray, List.set_cons_zero, List.set_cons_succ]
              refine wpAnyH_take (i := 0) (oi := { dst := some 81, op := Go.Op.load 26 (Go.Operand.tmp 6), type := 26, pos := "ref.go:129", after := #[], guard := none }) (v := ?_) rfl (by kernel_rfl) (by kernel_rfl) (by kernel_rfl) (fun _ _ _ h => h) (Or.inl ⟨by rfl, ?_⟩) (by assumption) ?_
              rotate_left
              · intro w hSw
                (try dsimp only at hSw)
                have p0 : w.cell? ⟨tb, 0, none⟩ = some (.int .i64 (v1 : Int)) := (hSw.cell (p := ⟨tb, 0, none⟩) ht9).trans (J9.out.c 0 (by omega)).1
                have p1 : w.cell? ⟨tb, 1, none⟩ = some (.int .i64 (v2 : Int)) := (hSw.cell (p := ⟨tb, 1, none⟩) ht9).trans (J9.out.c 1 (by omega)).1
                have p2 : w.cell? ⟨tb, 2, none⟩ = some (.int .i64 (v3 : Int)) := (hSw.cell (p := ⟨tb, 2, none⟩) ht9).trans (J9.out.c 2 (by omega)).1
                have p3 : w.cell? ⟨tb, 3, none⟩ = some (.int .i64 (v4 : Int)) := (hSw.cell (p := ⟨tb, 3, none⟩) ht9).trans (J9.out.c 3 (by omega)).1
                have p4 : w.cell? ⟨tb, 4, none⟩ = some (.bool d5) := (hSw.cell (p := ⟨tb, 4, none⟩) ht9).trans (J9.out.c 4 (by omega)).1
                have p5 : w.cell? ⟨tb, 5, none⟩ = some (.slice ao' len' cap') := (hSw.cell (p := ⟨tb, 5, none⟩) ht9).trans (J9.out.c 5 (by omega)).1
                have p6 : w.cell? ⟨tb, 6, none⟩ = some (.string t7) := (hSw.cell (p := ⟨tb, 6, none⟩) ht9).trans (J9.out.c 6 (by omega)).1
                have p7 : w.cell? ⟨tb, 7, none⟩ = some (.string t8) := (hSw.cell (p := ⟨tb, 7, none⟩) ht9).trans (J9.out.c 7 (by omega)).1
                go_simp
                try with_reducible rfl
              simp only [Act.put, List.setIfInBounds_toArray, List.set_cons_zero, List.set_cons_succ]
              refine wpAnyH_ready (rs := [1]) (by kernel_rfl) (by simp) ?_
              refine AllReadyH.cons (o := { dst := some 82, op := Go.Op.call { callee := Go.Callee.value (Go.Operand.func 14), args := #[Go.Operand.const (Go.Value.slice none 0 0), Go.Operand.tmp 81], argTypes := #[27, 26] }, type := 27, pos := "ref.go:129", after := #[{ on := 0, ground := Go.Ground.data }], guard := none }) rfl (fun K hK => ?_) AllReadyH.nil
              go_simp
              refine (HA9.out _ hdr).mono ?_
              rintro r W2 ⟨xo, xn, xc, rfl, hrx, hbx⟩
              have hq2 : Below w9.heap.size w9 W2 := hdr.trans (hbx.mono hdr.size)
              have cv : ∀ W, Below W2.heap.size W2 W → (convert 27 9 (.slice xo xn xc)).run Tryd.prog W = .ok (.string (strs PB)) W := fun W hW => conv_rb (hrx.kept hW)
              clear hrx hbx
              refine hK.out _ _ ?_ (fun hHeld => ?_)
              · (try dsimp only)
                exact hq2
              clear hK K hHeld
              try simp only [Act.put, List.setIfInBounds_toArray, List.set_cons_zero, List.set_cons_succ]
              refine wpAnyH_strong (S' := fun W => Below W2.heap.size W2 W) (fun W h => hq2.trans (h.mono hq2.size)) _ _ _ _ ?_
              have hHeld : Below W2.heap.size W2 W2 := Below.refl _ _
              refine wpAnyH_take (i := 2) (oi := { dst := some 83, op := Go.Op.convert 27 9 (Go.Operand.tmp 82), type := 9, pos := "ref.go:129", after := #[{ on := 1, ground := Go.Ground.data }], guard := none }) (v := ?_) rfl (by kernel_rfl) (by kernel_rfl) (by kernel_rfl) (fun _ _ _ h => h) (Or.inl ⟨by rfl, ?_⟩) (by assumption) ?_
              rotate_left
              · intro w hSw
                (try dsimp only at hSw)
                go_simp
                try with_reducible rfl
              simp only [Act.put, List.setIfInBounds_toArray, List.set_cons_zero, List.set_cons_succ]
              refine wpAnyH_take (i := 7) (oi := { dst := some 88, op := Go.Op.binOp Go.BinOp.neq 9 (Go.Operand.tmp 83) (Go.Operand.tmp 87) 9, type := 4, pos := "ref.go:129", after := #[{ on := 2, ground := Go.Ground.data }, { on := 6, ground := Go.Ground.data }], guard := none }) (v := ?_) rfl (by kernel_rfl) (by kernel_rfl) (by kernel_rfl) (fun _ _ _ h => h) (Or.inl ⟨by rfl, ?_⟩) (by assumption) ?_
              rotate_left
              · intro w hSw
                (try dsimp only at hSw)
                go_simp
                try with_reducible rfl
              simp only [Act.put, List.setIfInBounds_toArray, List.set_cons_zero, List.set_cons_succ]
              refine wpAnyH_done (by kernel_rfl) ?_ _
              have JW : Hid (Rdd w W2 rb tb (some c) ⟨(v1 : Int), (v2 : Int), (v3 : Int), (v4 : Int), d5, ao', len', cap', t7, t8⟩ al) := J9.out.call2 (J9.out.r.kept (Kept.of_below (P := Any) hq2) trivial (fun _ _ => trivial)) (Kept.of_below (P := Any) hq2) (fun _ _ _ => trivial)
              have p0 : W2.cell? ⟨tb, 0, none⟩ = some (.int .i64 (v1 : Int)) := (hq2.cell (p := ⟨tb, 0, none⟩) ht9).trans (J9.out.c 0 (by omega)).1
              have p1 : W2.cell? ⟨tb, 1, none⟩ = some (.int .i64 (v2 : Int)) := (hq2.cell (p := ⟨tb, 1, none⟩) ht9).trans (J9.out.c 1 (by omega)).1
              have p2 : W2.cell? ⟨tb, 2, none⟩ = some (.int .i64 (v3 : Int)) := (hq2.cell (p := ⟨tb, 2, none⟩) ht9).trans (J9.out.c 2 (by omega)).1
              have p3 : W2.cell? ⟨tb, 3, none⟩ = some (.int .i64 (v4 : Int)) := (hq2.cell (p := ⟨tb, 3, none⟩) ht9).trans (J9.out.c 3 (by omega)).1
              have p4 : W2.cell? ⟨tb, 4, none⟩ = some (.bool d5) := (hq2.cell (p := ⟨tb, 4, none⟩) ht9).trans (J9.out.c 4 (by omega)).1
              have p5 : W2.cell? ⟨tb, 5, none⟩ = some (.slice ao' len' cap') := (hq2.cell (p := ⟨tb, 5, none⟩) ht9).trans (J9.out.c 5 (by omega)).1
              have p6 : W2.cell? ⟨tb, 6, none⟩ = some (.string t7) := (hq2.cell (p := ⟨tb, 6, none⟩) ht9).trans (J9.out.c 6 (by omega)).1
              have p7 : W2.cell? ⟨tb, 7, none⟩ = some (.string t8) := (hq2.cell (p := ⟨tb, 7, none⟩) ht9).trans (J9.out.c 7 (by omega)).1
              obtain ⟨⟨zz0, zz1, zz2, zz3, zz4, zz5, zz6, zz7⟩, zg0, zg1, zg2, zg3, zg4, zg5, zg6, zg7⟩ := (JW.out.z).eight
              replace zz0 : W2.cell? ⟨w.heap.size, 0, none⟩ = some (.int .i64 0) := zz0
              replace zz1 : W2.cell? ⟨w.heap.size, 1, none⟩ = some (.int .i64 0) := zz1
              replace zz2 : W2.cell? ⟨w.heap.size, 2, none⟩ = some (.int .i64 0) := zz2
              replace zz3 : W2.cell? ⟨w.heap.size, 3, none⟩ = some (.int .i64 0) := zz3
              replace zz4 : W2.cell? ⟨w.heap.size, 4, none⟩ = some (.bool false) := zz4
              replace zz5 : W2.cell? ⟨w.heap.size, 5, none⟩ = some (.slice none 0 0) := zz5
              replace zz6 : W2.cell? ⟨w.heap.size, 6, none⟩ = some (.string ⟨#[]⟩) := zz6
              replace zz7 : W2.cell? ⟨w.heap.size, 7, none⟩ = some (.string ⟨#[]⟩) := zz7
              try clear hHeld
              clear cv cb hq2 hdr ht9
              go_wp2
              have HQ : Hid (tvP mayN l = some (V, k)) := by
                show _ = _
                rw [HKK.out]
                exact tv_yes HX.out.2.2.2 HP.out.2 HMI.out.symm (by rw [← HKK.out, ← HE.out, HPB.out])
              refine bodyPost_ret (v := .tuple #[Vn.val ⟨(v1 : Int), (v2 : Int), (v3 : Int), (v4 : Int), d5, ao', len', cap', t7, t8⟩, .int .i64 (k : Int), .bool true]) (by simp [results, Tryd.results12, go_sem, zz0, zz1, zz2, zz3, zz4, zz5, zz6, zz7, n3, n4, Vn.val]) rfl ?_
              exact rtake_end JW.out (by show len' ≤ 1000; omega) (kept8 _ _ _ _ _ _ _ _ _ _) HQ.out HP.out.1 (HP.out.1.may.trans HMI.out.symm)
            · have hts : ¬ (strs PB).toList = (strs (l.take k)).toList := fun h => hE (strs_inj _ _ HPL.out.1 HPL.out.2 (toList_inj h))
              have hts2 : ((strs PB).toList == (strs (l.take k)).toList) = false := beq_eq_false_iff_ne.2 hts
              have HE : Hid (PB ≠ l.take k) := hE
              clear hE
              refine wp_region_held_drew (S := fun W => Below w9.heap.size w9 W) (by kernel_rfl) ?_ (fun hHeld => ?_)
              · (try dsimp only)
                exact hdr
              refine wpAnyH_take (i := 3) (oi := { dst := some 84, op := Go.Op.move (Go.Operand.tmp 0), type := 27, pos := "ref.go:129", after := #[], guard := none }) (v := ?_) rfl (by kernel_rfl) (by kernel_rfl) (by kernel_rfl) (fun _ _ _ h => h) (Or.inl ⟨by rfl, ?_⟩) (by assumption) ?_
              rotate_left
              · intro w hSw
                (try dsimp only at hSw)
                go_simp
                try with_reducible rfl
              simp only [Act.put, List.setIfInBounds_toArray, List.set_cons_zero, List.set_cons_succ]
              refine wpAnyH_take (i := 4) (oi := { dst := some 85, op := Go.Op.move (Go.Operand.tmp 9), type := 3, pos := "ref.go:129", after := #[], guard := none }) (v := ?_) rfl (by kernel_rfl) (by kernel_rfl) (by kernel_rfl) (fun _ _ _ h => h) (Or.inl ⟨by rfl, ?_⟩) (by assumption) ?_
              rotate_left
              · intro w hSw
                (try dsimp only at hSw)
                go_simp
                try with_reducible rfl
              simp only [Act.put, List.setIfInBounds_toArray, List.set_cons_zero, List.set_cons_succ]
              refine wpAnyH_take (i := 5) (oi := { dst := some 86, op := Go.Op.slice 27 (Go.Operand.tmp 84) none (some (Go.Operand.tmp 85)) none, type := 27, pos := "ref.go:129", after := #[{ on := 3, ground := Go.Ground.data }, { on := 4, ground := Go.Ground.data }], guard := none }) (v := ?_) rfl (by kernel_rfl) (by kernel_rfl) (by kernel_rfl) (fun _ _ _ h => h) (Or.inl ⟨by rfl, ?_⟩) (by assumption) ?_
              rotate_left
              · intro w hSw
                (try dsimp only at hSw)
                go_simp
                try with_reducible rfl
              simp only [Act.put, List.setIfInBounds_toArray, List.set_cons_zero, List.set_cons_succ]
              refine wpAnyH_take (i := 6) (oi := { dst := some 87, op := Go.Op.convert 27 9 (Go.Operand.tmp 86), type := 9, pos := "ref.go:129", after := #[{ on := 5, ground := Go.Ground.data }], guard := none }) (v := ?_) rfl (by kernel_rfl) (by kernel_rfl) (by kernel_rfl) (fun _ _ _ h => h) (Or.inl ⟨by rfl, ?_⟩) (by assumption) ?_
              rotate_left
              · intro w hSw
                (try dsimp only at hSw)
                go_simp
                try with_reducible rfl
              simp only [Act.put, List.setIfInBounds_toArray, List.set_cons_zero, List.set_cons_succ]
              refine wpAnyH_take (i := 0) (oi := { dst := some 81, op := Go.Op.load 26 (Go.Operand.tmp 6), type := 26, pos := "ref.go:129", after := #[], guard := none }) (v := ?_) rfl (by kernel_rfl) (by kernel_rfl) (by kernel_rfl) (fun _ _ _ h => h) (Or.inl ⟨by rfl, ?_⟩) (by assumption) ?_
              rotate_left
              · intro w hSw
                (try dsimp only at hSw)
                have p0 : w.cell? ⟨tb, 0, none⟩ = some (.int .i64 (v1 : Int)) := (hSw.cell (p := ⟨tb, 0, none⟩) ht9).trans (J9.out.c 0 (by omega)).1
                have p1 : w.cell? ⟨tb, 1, none⟩ = some (.int .i64 (v2 : Int)) := (hSw.cell (p := ⟨tb, 1, none⟩) ht9).trans (J9.out.c 1 (by omega)).1
                have p2 : w.cell? ⟨tb, 2, none⟩ = some (.int .i64 (v3 : Int)) := (hSw.cell (p := ⟨tb, 2, none⟩) ht9).trans (J9.out.c 2 (by omega)).1
                have p3 : w.cell? ⟨tb, 3, none⟩ = some (.int .i64 (v4 : Int)) := (hSw.cell (p := ⟨tb, 3, none⟩) ht9).trans (J9.out.c 3 (by omega)).1
                have p4 : w.cell? ⟨tb, 4, none⟩ = some (.bool d5) := (hSw.cell (p := ⟨tb, 4, none⟩) ht9).trans (J9.out.c 4 (by omega)).1
                have p5 : w.cell? ⟨tb, 5, none⟩ = some (.slice ao' len' cap') := (hSw.cell (p := ⟨tb, 5, none⟩) ht9).trans (J9.out.c 5 (by omega)).1
                have p6 : w.cell? ⟨tb, 6, none⟩ = some (.string t7) := (hSw.cell (p := ⟨tb, 6, none⟩) ht9).trans (J9.out.c 6 (by omega)).1
                have p7 : w.cell? ⟨tb, 7, none⟩ = some (.string t8) := (hSw.cell (p := ⟨tb, 7, none⟩) ht9).trans (J9.out.c 7 (by omega)).1
                go_simp
                try with_reducible rfl
              simp only [Act.put, List.setIfInBounds_toArray, List.set_cons_zero, List.set_cons_succ]
              refine wpAnyH_ready (rs := [1]) (by kernel_rfl) (by simp) ?_
              refine AllReadyH.cons (o := { dst := some 82, op := Go.Op.call { callee := Go.Callee.value (Go.Operand.func 14), args := #[Go.Operand.const (Go.Value.slice none 0 0), Go.Operand.tmp 81], argTypes := #[27, 26] }, type := 27, pos := "ref.go:129", after := #[{ on := 0, ground := Go.Ground.data }], guard := none }) rfl (fun K hK => ?_) AllReadyH.nil
              go_simp
              refine (HA9.out _ hdr).mono ?_
              rintro r W2 ⟨xo, xn, xc, rfl, hrx, hbx⟩
              have hq2 : Below w9.heap.size w9 W2 := hdr.trans (hbx.mono hdr.size)
              have cv : ∀ W, Below W2.heap.size W2 W → (convert 27 9 (.slice xo xn xc)).run Tryd.prog W = .ok (.string (strs PB)) W := fun W hW => conv_rb (hrx.kept hW)
              clear hrx hbx
              refine hK.out _ _ ?_ (fun hHeld => ?_)
              · (try dsimp only)
                exact hq2
              clear hK K hHeld
              try simp only [Act.put, List.setIfInBounds_toArray, List.set_cons_zero, List.set_cons_succ]
              refine wpAnyH_strong (S' := fun W => Below W2.heap.size W2 W) (fun W h => hq2.trans (h.mono hq2.size)) _ _ _ _ ?_
              have hHeld : Below W2.heap.size W2 W2 := Below.refl _ _
              refine wpAnyH_take (i := 2) (oi := { dst := some 83, op := Go.Op.convert 27 9 (Go.Operand.tmp 82), type := 9, pos := "ref.go:129", after := #[{ on := 1, ground := Go.Ground.data }], guard := none }) (v := ?_) rfl (by kernel_rfl) (by kernel_rfl) (by kernel_rfl) (fun _ _ _ h => h) (Or.inl ⟨by rfl, ?_⟩) (by assumption) ?_
              rotate_left
              · intro w hSw
                (try dsimp only at hSw)
                go_simp
                try with_reducible rfl
              simp only [Act.put, List.setIfInBounds_toArray, List.set_cons_zero, List.set_cons_succ]
              refine wpAnyH_take (i := 7) (oi := { dst := some 88, op := Go.Op.binOp Go.BinOp.neq 9 (Go.Operand.tmp 83) (Go.Operand.tmp 87) 9, type := 4, pos := "ref.go:129", after := #[{ on := 2, ground := Go.Ground.data }, { on := 6, ground := Go.Ground.data }], guard := none }) (v := ?_) rfl (by kernel_rfl) (by kernel_rfl) (by kernel_rfl) (fun _ _ _ h => h) (Or.inl ⟨by rfl, ?_⟩) (by assumption) ?_
              rotate_left
              · intro w hSw
                (try dsimp only at hSw)
                go_simp
                try with_reducible rfl
              simp only [Act.put, List.setIfInBounds_toArray, List.set_cons_zero, List.set_cons_succ]
              refine wpAnyH_done (by kernel_rfl) ?_ _
              have JW : Hid (Rdd w W2 rb tb (some c) ⟨(v1 : Int), (v2 : Int), (v3 : Int), (v4 : Int), d5, ao', len', cap', t7, t8⟩ al) := J9.out.call2 (J9.out.r.kept (Kept.of_below (P := Any) hq2) trivial (fun _ _ => trivial)) (Kept.of_below (P := Any) hq2) (fun _ _ _ => trivial)
              have p0 : W2.cell? ⟨tb, 0, none⟩ = some (.int .i64 (v1 : Int)) := (hq2.cell (p := ⟨tb, 0, none⟩) ht9).trans (J9.out.c 0 (by omega)).1
              have p1 : W2.cell? ⟨tb, 1, none⟩ = some (.int .i64 (v2 : Int)) := (hq2.cell (p := ⟨tb, 1, none⟩) ht9).trans (J9.out.c 1 (by omega)).1
              have p2 : W2.cell? ⟨tb, 2, none⟩ = some (.int .i64 (v3 : Int)) := (hq2.cell (p := ⟨tb, 2, none⟩) ht9).trans (J9.out.c 2 (by omega)).1
              have p3 : W2.cell? ⟨tb, 3, none⟩ = some (.int .i64 (v4 : Int)) := (hq2.cell (p := ⟨tb, 3, none⟩) ht9).trans (J9.out.c 3 (by omega)).1
              have p4 : W2.cell? ⟨tb, 4, none⟩ = some (.bool d5) := (hq2.cell (p := ⟨tb, 4, none⟩) ht9).trans (J9.out.c 4 (by omega)).1
              have p5 : W2.cell? ⟨tb, 5, none⟩ = some (.slice ao' len' cap') := (hq2.cell (p := ⟨tb, 5, none⟩) ht9).trans (J9.out.c 5 (by omega)).1
              have p6 : W2.cell? ⟨tb, 6, none⟩ = some (.string t7) := (hq2.cell (p := ⟨tb, 6, none⟩) ht9).trans (J9.out.c 6 (by omega)).1
              have p7 : W2.cell? ⟨tb, 7, none⟩ = some (.string t8) := (hq2.cell (p := ⟨tb, 7, none⟩) ht9).trans (J9.out.c 7 (by omega)).1
              obtain ⟨⟨zz0, zz1, zz2, zz3, zz4, zz5, zz6, zz7⟩, zg0, zg1, zg2, zg3, zg4, zg5, zg6, zg7⟩ := (JW.out.z).eight
              replace zz0 : W2.cell? ⟨w.heap.size, 0, none⟩ = some (.int .i64 0) := zz0
              replace zz1 : W2.cell? ⟨w.heap.size, 1, none⟩ = some (.int .i64 0) := zz1
              replace zz2 : W2.cell? ⟨w.heap.size, 2, none⟩ = some (.int .i64 0) := zz2
              replace zz3 : W2.cell? ⟨w.heap.size, 3, none⟩ = some (.int .i64 0) := zz3
              replace zz4 : W2.cell? ⟨w.heap.size, 4, none⟩ = some (.bool false) := zz4
              replace zz5 : W2.cell? ⟨w.heap.size, 5, none⟩ = some (.slice none 0 0) := zz5
              replace zz6 : W2.cell? ⟨w.heap.size, 6, none⟩ = some (.string ⟨#[]⟩) := zz6
              replace zz7 : W2.cell? ⟨w.heap.size, 7, none⟩ = some (.string ⟨#[]⟩) := zz7
              try clear hHeld
              clear cv cb hq2 hdr ht9
              go_wp2
              have HQ : Hid (tvP mayN l = none) := tv_no3 HX.out.2.2.2 HP.out.2 (by rw [← HKK.out, ← HPB.out]; exact HE.out)
              refine bodyPost_ret (v := .tuple #[Vn.val ⟨0, 0, 0, 0, false, none, 0, 0, ⟨#[]⟩, ⟨#[]⟩⟩, .int .i64 ((0 : Nat) : Int), .bool false]) (by simp [results, Tryd.results12, go_sem, zz0, zz1, zz2, zz3, zz4, zz5, zz6, zz7, n3, n4, Vn.val]) rfl ?_
              exact rtake_no JW.out (kept8 _ _ _ _ _ _ _ _ _ _) HQ.out
      | some l1 =>
        rw [hs] at hJ hbad hpre hRe hbd
        replace hbad : wr.cell? ⟨rb, 1, none⟩ = some (.bool false) := hbad
        have hm1 : (0 : Int) < (m : Int) := by omega
        have hm2 : decide ((0 : Int) < (m : Int)) = true := decide_eq_true hm1
        have hm3 : decide (0 < m) = true := decide_eq_true (by omega)
        have HJ : Hid (Rdd w wr rb tb (some l1) ⟨(v1 : Int), (v2 : Int), (v3 : Int), (v4 : Int), d5, ao', len', cap', ⟨#[]⟩, ⟨#[]⟩⟩ al ∧ al = castA pre ∧ 2 * al.length + l1.length ≤ 1000 ∧ R = (some l1).bind fun l => (rat m l).bind fun z => some (pre ++ z.1, z.2)) := ⟨hJ, hpre (by simp), hbd _ rfl, hRe⟩
        have c1 := dnum22 rb (some l1) wr hJ.r
        obtain ⟨t1, ht1⟩ : ∃ t1, t1 = (some l1).bind rd := ⟨_, rfl⟩
        have HT1 : Hid (t1 = (some l1).bind rd) := ht1
        rw [← ht1] at c1
        clear ht1 hJ hpre hRe hbd hal HK hs
        go_wp2_with fail
        refine c1.mono ?_
        rintro r w2 ⟨x, rfl, hxl, hx, _, hs2, hk2⟩
        have hsz2 : wr.heap.size ≤ w2.heap.size := hk2.size
        have J2 : Hid (Rdd w w2 rb tb (t1.map (·.2)) ⟨(v1 : Int), (v2 : Int), (v3 : Int), (v4 : Int), d5, ao', len', cap', ⟨#[]⟩, ⟨#[]⟩⟩ al) := HJ.out.1.call hs2 hk2
        have H2 : Hid (∀ y l, t1 = some (y, l) → x = y) := hx
        obtain ⟨ab, hab⟩ : ∃ ab, ab = w2.heap.size := ⟨_, rfl⟩
        obtain ⟨Y, hY⟩ : ∃ Y, Y = w2.alloc (.cells #[.int .i64 (x : Int), .int .i64 0] 42) := ⟨_, rfl⟩
        have hkY : Kept Any w2 Y := by rw [hY]; exact Kept.of_below ((Below.refl _ w2).alloc (Nat.le_refl _) _)
        have JY : Hid (Rdd w Y rb tb (t1.map (·.2)) ⟨(v1 : Int), (v2 : Int), (v3 : Int), (v4 : Int), d5, ao', len', cap', ⟨#[]⟩, ⟨#[]⟩⟩ al) := J2.out.call2 (J2.out.r.kept hkY trivial (fun _ _ => trivial)) hkY (fun _ _ _ => trivial)
        have y0 : Y.cell? ⟨ab, 0, none⟩ = some (.int .i64 (x : Int)) := by subst hab; rw [hY]; simp
        have y1 : Y.cell? ⟨ab, 1, none⟩ = some (.int .i64 0) := by subst hab; rw [hY]; simp
        have yf : Y.frozen? ⟨ab, 1, none⟩ = false := by subst hab; rw [hY]; simp
        have hYs : ab < Y.heap.size := by subst hab; rw [hY]; simp
        have HAB : Hid (ab = w2.heap.size) := hab
        have HKY : Hid (Kept Any w2 Y) := hkY
        clear c1 hx hs2 hk2 hkY
        go_wp2_with fail
        rw [← hY, ← hab]
        clear hY hab
        have c2 := dnum22 rb (t1.map (·.2)) Y JY.out.r
        obtain ⟨t2, ht2⟩ : ∃ t2, t2 = (t1.map (·.2)).bind rd := ⟨_, rfl⟩
        have HT2 : Hid (t2 = (t1.map (·.2)).bind rd) := ht2
        rw [← ht2] at c2
        clear ht2
        refine c2.mono ?_
        rintro r w3 ⟨y, rfl, hyl, hy, _, hs3, hk3⟩
        have H3 : Hid (∀ z l, t2 = some (z, l) → y = z) := hy
        have hab' : ab ≠ rb := by have := HAB.out; omega
        have z0 : w3.cell? ⟨ab, 0, none⟩ = some (.int .i64 (x : Int)) := (hk3.cell hYs (by unfold But; exact hab')).trans y0
        have z1 : w3.cell? ⟨ab, 1, none⟩ = some (.int .i64 0) := (hk3.cell hYs (by unfold But; exact hab')).trans y1
        have zf1 : w3.frozen? ⟨ab, 1, none⟩ = false := (hk3.frozen hYs (by unfold But; exact hab')).trans yf
        obtain ⟨Z, hZ⟩ : ∃ Z, Z = w3.setCell ⟨ab, 1, none⟩ (.int .i64 (y : Int)) := ⟨_, rfl⟩
        have hkZ : Kept (But ab) w3 Z := by rw [hZ]; exact (Kept.refl (But ab) w3).setCell (p := ⟨ab, 1, none⟩) (fun k _ hk => hk) _
        have hk2Z : Kept (fun k => k < w2.heap.size ∧ k ≠ rb) w2 Z := by
          exact ((HKY.out.mono (fun _ _ _ => trivial)).trans (hk3.mono (fun k _ hk => hk.2))).trans (hkZ.mono (fun k _ hk => by have := HAB.out; unfold But; omega))
        have JZ : Hid (Rdd w Z rb tb (t2.map (·.2)) ⟨(v1 : Int), (v2 : Int), (v3 : Int), (v4 : Int), d5, ao', len', cap', ⟨#[]⟩, ⟨#[]⟩⟩ al) := J2.out.call2 (hs3.kept hkZ (by unfold But; omega) (fun k hk => by have := HAB.out; unfold But; omega)) hk2Z (fun k h1 h2 => ⟨h1, h2⟩)
        have q0 : Z.cell? ⟨ab, 0, none⟩ = some (.int .i64 (x : Int)) := by rw [hZ, World.cell?_setCell_other _ _ _ _ (by simp)]; exact z0
        have q1 : Z.cell? ⟨ab, 1, none⟩ = some (.int .i64 (y : Int)) := by rw [hZ]; exact World.cell?_setCell_same _ _ _ z1
        have hZs : Z.heap.size = w3.heap.size := by rw [hZ]; simp [World.setCell]
        have htZ : tb < Z.heap.size := JZ.out.s
        have habZ : ab < Z.heap.size := by have := hk3.size; omega
        have q5 : Z.cell? ⟨tb, 5, none⟩ = some (.slice ao' len' cap') := (JZ.out.c 5 (by omega)).1
        have htW3 : tb < w3.heap.size := by rw [← hZs]; exact htZ
        have habW3 : ab < w3.heap.size := by rw [← hZs]; exact habZ
        have hne : ab ≠ tb := by have := HAB.out; have := J2.out.s; omega
        have hne' : tb ≠ ab := fun e => hne e.symm
        have z5 : w3.cell? ⟨tb, 5, none⟩ = some (.slice ao' len' cap') := by
          rw [hZ, World.cell?_setCell_other _ _ _ _ (by intro q; have := congrArg Addr.block q; simp at this; omega)] at q5
          exact q5
        have hzown := JZ.out.own
        simp only at hzown
        have HOW : Hid (Z.ownsRow (tb + 1) 42 2 (.slice ao' len' cap') len' (cellsA al)) := hzown
        clear c2 hy hs3 hk3 hk2Z hkZ hzown y0 y1 yf hYs
        have HZ : Hid (Z = w3.setCell ⟨ab, 1, none⟩ (.int .i64 (y : Int))) := hZ
        have HZS : Hid (Z.heap.size = w3.heap.size) := hZs
        have HQ : Hid (Z.cell? ⟨ab, 0, none⟩ = some (.int .i64 (x : Int)) ∧ Z.cell? ⟨ab, 1, none⟩ = some (.int .i64 (y : Int)) ∧ tb < Z.heap.size ∧ ab < Z.heap.size) := ⟨q0, q1, htZ, habZ⟩
        clear hZ hZs q0 q1 q5 htZ habZ
        go_wp2_with (at_builtin; go_loud (rw [← HZ.out]; refine append_at _ rfl _ _ rfl (tb + 1) _ len' al rfl (HOW.out.alloc _) w3.heap.size (x : Int) (y : Int) rfl (by rw [← HZS.out]; simp) (by rw [← HZS.out]; simp) (by omega) (by have := HQ.out.2.2.1; simp; omega) ?_))
        intro v4' w4 hown hgrow
        obtain ⟨ao2, cap2, rfl⟩ := own_slice hown
        have hb4 : Below (tb + 1) Z w4 := ((Below.refl _ Z).alloc (by have := HQ.out.2.2.1; omega) _).grown hgrow (by have := HQ.out.2.2.1; simp; omega) (fun k hk => by have := (HOW.out.lt k hk).1; omega)
        obtain ⟨U, hU⟩ : ∃ U, U = w4.setCell ⟨tb, 5, none⟩ (.slice ao2 (len' + 1) cap2) := ⟨_, rfl⟩
        have JU : Hid (Rdd w U rb tb (t2.map (·.2)) ⟨(v1 : Int), (v2 : Int), (v3 : Int), (v4 : Int), d5, ao2, len' + 1, cap2, ⟨#[]⟩, ⟨#[]⟩⟩ (al ++ [((x : Int), (y : Int))])) := by rw [hU]; exact JZ.out.app hown hb4
        have u5 : w4.cell? ⟨tb, 5, none⟩ = some (.slice ao' len' cap') := (hb4.cell (p := ⟨tb, 5, none⟩) (by show tb < tb + 1; omega)).trans (JZ.out.c 5 (by omega)).1
        have uf : w4.frozen? ⟨tb, 5, none⟩ = false := (hb4.frozen (p := ⟨tb, 5, none⟩) (by show tb < tb + 1; omega)).trans (JZ.out.c 5 (by omega)).2
        have HU : Hid (U = w4.setCell ⟨tb, 5, none⟩ (.slice ao2 (len' + 1) cap2)) := hU
        clear hown hgrow hb4 hU z0 z1 zf1 z5 htW3 habW3 hne hne' hbad
        have HY : Hid ((t2.map (·.2) ≠ none → al ++ [((x : Int), (y : Int))] = castA (pre ++ [(x, y)])) ∧ R = (t2.map (·.2)).bind fun l => (rat (m - 1) l).bind fun z => some ((pre ++ [(x, y)]) ++ z.1, z.2)) := by
          refine ⟨fun hne => ?_, ?_⟩
          · rw [HJ.out.2.1]
            simp [castA]
          · have hra := rat_succ (m - 1) (some l1) pre
            rw [show m - 1 + 1 = m by omega] at hra
            rw [HJ.out.2.2.2, hra, ← HT1.out]
            have hT2 := HT2.out
            cases ht1 : t1 with
            | none => rw [ht1] at hT2; rw [hT2]; rfl
            | some x' =>
              rw [ht1] at hT2
              obtain ⟨x1, x2⟩ := x'
              have ex := H2.out x1 x2 ht1
              show (rd x2).bind _ = _
              have hT2' : t2 = rd x2 := hT2
              rw [← hT2']
              cases hq2 : t2 with
              | none => rfl
              | some y' =>
                obtain ⟨y1, y2⟩ := y'
                have ey := H3.out y1 y2 hq2
                subst ex ey
                rfl
        have HB : Hid (∀ l', t2.map (·.2) = some l' → 2 * (al ++ [((x : Int), (y : Int))]).length + l'.length ≤ 1000) := by
          intro l' e
          have hl1 := HJ.out.1.r.len.2
          have hT1 := HT1.out
          have hT2 := HT2.out
          cases ht1 : t1 with
          | none => rw [ht1] at hT2; rw [hT2] at e; cases e
          | some x' =>
            obtain ⟨x1, x2⟩ := x'
            rw [ht1] at hT1 hT2
            obtain ⟨q1, q2⟩ := rd_len hl1 hT1.symm
            have hT2' : t2 = rd x2 := hT2
            cases hq2 : t2 with
            | none => rw [hq2] at e; cases e
            | some y' =>
              obtain ⟨y1, y2⟩ := y'
              rw [hq2] at hT2' e
              obtain ⟨q3, q4⟩ := rd_len q2 hT2'.symm
              have e' : y2 = l' := by simpa using e
              subst e'
              have := HJ.out.2.2.1
              rw [List.length_append]; simp only [List.length_cons, List.length_nil]; omega
        go_wp2_with fail
        rw [← HU.out]
        go_roundw
        case rel =>
          refine ⟨m - 1, _, _, _, ao2, len' + 1, cap2, ?_, by omega, ?_, HB.out, JU.out, HY.out.1, HY.out.2⟩
          · first | go_num | (congr 1; omega)
          · have := HJ.out.2.2.1; rw [List.length_append]; simp only [List.length_cons, List.length_nil]; omega
        case measure => simp [intOf]; omega


end Go.Proofs.YtopkeembbopbmaaDoor
