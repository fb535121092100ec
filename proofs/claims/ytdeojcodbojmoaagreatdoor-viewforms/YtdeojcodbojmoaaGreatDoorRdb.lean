/- pars.reader: names, numbers, marks that must be there. -/
import Derived.Test.YtdeojcodbojmoaaGreatDoorRp
import Derived.LaidEql
namespace Go.Proofs.YtdeojcodbojmoaaGreatDoor
open Go.RowKit
set_option maxRecDepth 100000
set_option linter.unusedVariables false

theorem isM_eq (ws : List Wd.Word) (i : Nat) (c : UInt8) : isM ws i c = Ps.isMark ws i c := by
  unfold isM Ps.isMark
  cases ws[i]? <;> rfl

/-- What the next word is. -/
def Nx (ws : List Wd.Word) (i : Nat) (k n : Int) (t : ByteArray) : Prop := (∃ x, ws[i]? = some x ∧ k = x.kind ∧ n = x.num ∧ t = ⟨x.text.toArray⟩) ∨ (ws[i]? = none ∧ k = 0)

theorem next69 (rb : Nat) (ws : List Wd.Word) (i : Nat) (e : Int) (w : World) (h : Rdr w rb ws i e) :
    ∃ k t n p, Nx ws i k n t ∧ Calls Tryz.prog 69 #[.pointer (some ⟨rb, 0, none⟩)] w fun r w' => r = .returned (.agg #[.int .i64 k, .string t, .int .i64 n, .int .i64 p]) ∧ Below w.heap.size w w' := by
  obtain ⟨h1, h2, h3, ao, cap, wb, q0, q1, q2, q3, q4⟩ := h
  by_cases hi : i < ws.length
  · obtain ⟨rfl, hwb, hc⟩ := q4 hi
    obtain ⟨u0, u1, u2, u3⟩ := word_at hc i hi
    exact ⟨_, _, _, _, .inl ⟨ws[i], List.getElem?_eq_getElem hi, rfl, rfl, rfl⟩, next_word rb wb (i * 4) w _ _ _ _ _ cap (by omega) (by omega) q0 u0 u1 u2 u3⟩
  · have e0 : ws.length - i = 0 := by omega
    rw [e0] at q0
    exact ⟨0, ⟨#[]⟩, 0, e, .inr ⟨List.getElem?_eq_none (by omega), rfl⟩, next_end rb w e ao cap q0 q3⟩

theorem field120 (k n p : Int) (t : ByteArray) (w : World) : (Instr.field 120 (.agg #[.int .i64 k, .string t, .int .i64 n, .int .i64 p]) 3).run Tryz.prog w = .ok (.int .i64 p) w := by kernel_rfl

set_option maxHeartbeats 1000000 in
theorem misfit53 (rb : Nat) (ws : List Wd.Word) (i : Nat) (e : Int) (w : World) (h : Rdr w rb ws i e) :
    Calls Tryz.prog 53 #[.pointer (some ⟨rb, 0, none⟩)] w fun r w' => ∃ y : Int, r = .returned (.iface 69 (.agg #[.int .i64 y])) ∧ Below w.heap.size w w' := by
  obtain ⟨k, t, n, p, hx, c⟩ := next69 rb ws i e w h
  go_enter Tryz.func53, Tryz.ntmps53
  go_wp2_with fail
  refine c.mono ?_
  rintro r w1 ⟨rfl, hb1⟩
  clear c
  have hfl := field120 k n p t
  go_wp2
  go_ret
  exact ⟨_, rfl, hb1⟩

/-- A word was read. -/
theorem rdr_step {w w' : World} {rb : Nat} {ws : List Wd.Word} {i : Nat} {e : Int} {cap wb : Nat} (h : Rdr w rb ws i e) (hi : i < ws.length) (q0 : w.cell? ⟨rb, 0, none⟩ = some (.slice (some ⟨wb, i * 4, none⟩) (ws.length - i) cap)) (hh : HasY rb wb (i * 4) (ws.length - i) cap w w') : Rdr w' rb ws (i + 1) e ∧ Kept (But rb) w w' := by
  have hlt := h.lt
  obtain ⟨h1, h2, h3, ao, cap', wb', p0, q1, q2, q3, q4⟩ := h
  rw [q0] at p0
  cases p0
  obtain ⟨e1, hwb, hc⟩ := q4 hi
  cases e1
  obtain ⟨W, ao', ob, hW, rfl, hao⟩ := hh
  refine ⟨Rdr.below ?_ ((Below.refl _ _).alloc (by have := hW.size; simp; omega) _), (Kept.setCell (P := But rb) (p := ⟨rb, 0, none⟩) (Kept.of_below hW) (fun k _ hk => hk) _).alloc _⟩
  have hWc : ∀ b o, b < w.heap.size → b ≠ rb → (W.setCell ⟨rb, 0, none⟩ (.slice ao' (ws.length - i - 1) (cap - 1))).cell? ⟨b, o, none⟩ = w.cell? ⟨b, o, none⟩ := fun b o hb hne => by
    rw [World.cell?_setCell_other _ _ _ _ (fun e => hne (congrArg Addr.block e).symm)]; exact hW.cell (p := ⟨b, o, none⟩) hb
  have hlw : wb < w.heap.size := by omega
  refine ⟨?_, by omega, h3, ao', cap - 1, wb, ?_, by omega, by unfold maxLen at q2 ⊢; omega, ?_, fun hi2 => ⟨?_, hwb, fun j u hu => ?_⟩⟩
  · have := (hW.frozen (p := ⟨rb, 0, none⟩) hlt).trans h1
    simpa using this
  · have e1 : ws.length - (i + 1) = ws.length - i - 1 := by omega
    rw [e1]
    exact (World.cell?_setCell_same W ⟨rb, 0, none⟩ _ (u := .slice (some ⟨wb, i * 4, none⟩) (ws.length - i) cap) ((hW.cell (p := ⟨rb, 0, none⟩) hlt).trans q0)).trans rfl
  · rw [World.cell?_setCell_other _ _ _ _ (by simp)]
    exact (hW.cell (p := ⟨rb, 1, none⟩) hlt).trans q3
  · rw [hao (by omega)]
    have e2 : i * 4 + 4 = (i + 1) * 4 := by omega
    rw [e2]
  · rw [hWc wb j hlw (by omega)]; exact hc j u hu

/-- Where the reader stands, if there is a word. -/
theorem Rdr.here {w : World} {rb : Nat} {ws : List Wd.Word} {i : Nat} {e : Int} (h : Rdr w rb ws i e) (hi : i < ws.length) : ∃ wb cap, w.frozen? ⟨rb, 0, none⟩ = false ∧ w.cell? ⟨rb, 0, none⟩ = some (.slice (some ⟨wb, i * 4, none⟩) (ws.length - i) cap) ∧ ws.length - i ≤ cap ∧ cap ≤ maxLen ∧ 0 < ws.length - i ∧ ws.length - i ≤ 60 := by
  obtain ⟨h1, h2, h3, ao, cap, wb, q0, q1, q2, q3, q4⟩ := h
  obtain ⟨rfl, hwb, hc⟩ := q4 hi
  exact ⟨wb, cap, h1, q0, q1, q2, by omega, by omega⟩

set_option maxHeartbeats 1000000 in
theorem name_yes (rb : Nat) (ws : List Wd.Word) (i : Nat) (e : Int) (tx : List UInt8) (w : World) (h : Rdr w rb ws i e) (hn : Ps.name ws i = some tx) :
    Calls Tryz.prog 91 #[.pointer (some ⟨rb, 0, none⟩)] w fun r w' => r = .returned (.tuple #[.string ⟨tx.toArray⟩, .nilIface]) ∧ Rdr w' rb ws (i + 1) e ∧ Kept (But rb) w w' := by
  have hlt := h.lt
  have h' := h
  obtain ⟨k, t, n, p, hx, c⟩ := next69 rb ws i e w h
  have hk : k = 1 ∧ t = ⟨tx.toArray⟩ ∧ i < ws.length := by
    unfold Ps.name at hn
    rcases hx with ⟨x, hx, rfl, _, rfl⟩ | ⟨hx, _⟩
    · rw [hx] at hn
      simp only at hn
      split at hn
      · cases hn
        exact ⟨by assumption, rfl, (List.getElem?_eq_some_iff.1 hx).1⟩
      · cases hn
    · rw [hx] at hn; cases hn
  obtain ⟨rfl, rfl, hi⟩ := hk
  obtain ⟨wb, cap, hf, q0, hlc, hcm, hl0, hl6⟩ := h.here hi
  have HS : Hid (∀ w', HasY rb wb (i * 4) (ws.length - i) cap w w' → Rdr w' rb ws (i + 1) e ∧ Kept (But rb) w w') := fun w' hh => rdr_step h' hi q0 hh
  generalize ws.length - i = len at *
  generalize i * 4 = off at *
  unfold maxLen at hcm
  clear hn hx h h'
  go_enter Tryz.func91, Tryz.ntmps91
  go_wp2_with fail
  refine c.mono ?_
  rintro r w1 ⟨rfl, hb1⟩
  clear c
  have q1 : w1.cell? ⟨rb, 0, none⟩ = some (.slice (some ⟨wb, off, none⟩) len cap) := (hb1.cell (p := ⟨rb, 0, none⟩) hlt).trans q0
  have f1 : w1.frozen? ⟨rb, 0, none⟩ = false := (hb1.frozen (p := ⟨rb, 0, none⟩) hlt).trans hf
  have hlt1 : rb < w1.heap.size := World.block_lt_of_cell? w1 ⟨rb, 0, none⟩ q1
  have hne : rb ≠ w1.heap.size := by omega
  have hne' : w1.heap.size ≠ rb := by omega
  have HB : Hid (Below w.heap.size w w1) := hb1
  clear hb1 q0 hf
  go_wp2
  · subst h
    refine bodyPost_ret (v := .tuple #[.string ⟨tx.toArray⟩, .nilIface]) (by simp [results, Tryz.results91, go_sem]) rfl ?_
    refine ⟨rfl, HS.out _ ⟨w1, _, _, HB.out, rfl, fun h => ?_⟩⟩
    omega
  · refine bodyPost_ret (v := .tuple #[.string ⟨tx.toArray⟩, .nilIface]) (by simp [results, Tryz.results91, go_sem]) rfl ?_
    refine ⟨rfl, HS.out _ ⟨w1, _, _, HB.out, rfl, fun h => ?_⟩⟩
    rfl

set_option maxHeartbeats 1000000 in
theorem name_no (rb : Nat) (ws : List Wd.Word) (i : Nat) (e : Int) (w : World) (h : Rdr w rb ws i e) (hn : Ps.name ws i = none) :
    Calls Tryz.prog 91 #[.pointer (some ⟨rb, 0, none⟩)] w fun r w' => ∃ y : Int, r = .returned (.tuple #[.string ⟨#[]⟩, .iface 69 (.agg #[.int .i64 y])]) ∧ Below w.heap.size w w' := by
  have hlt := h.lt
  obtain ⟨k, t, n, p, hx, c⟩ := next69 rb ws i e w h
  have hk : (k != 1) = true := by
    unfold Ps.name at hn
    rcases hx with ⟨x, hx, rfl, _, rfl⟩ | ⟨hx, rfl⟩
    · rw [hx] at hn
      simp only at hn
      split at hn
      · cases hn
      · simpa [bne] using ‹¬ _›
    · decide
  have c2 := fun w' (hb : Below w.heap.size w w') => misfit53 rb ws i e w' (h.below (hb.mono hlt))
  clear hn hx h
  go_enter Tryz.func91, Tryz.ntmps91
  go_wp2_with fail
  refine c.mono ?_
  rintro r w1 ⟨rfl, hb1⟩
  clear c
  have c3 := c2 (w1.alloc (.cells #[.int .i64 k, .string t, .int .i64 n, .int .i64 p] 120)) (hb1.alloc hb1.size _)
  have HB : Hid (Below w.heap.size w w1) := hb1
  clear hb1 c2
  go_wp2_with fail
  refine c3.mono ?_
  rintro r w2 ⟨y, rfl, hb2⟩
  clear c3
  go_wp2
  refine bodyPost_ret (v := .tuple #[.string ⟨#[]⟩, .iface 69 (.agg #[.int .i64 y])]) (by simp [results, Tryz.results91, go_sem]) rfl ?_
  exact ⟨y, rfl, (HB.out.alloc HB.out.size _).trans (hb2.mono (by have := HB.out.size; simp; omega))⟩

set_option maxHeartbeats 1000000 in
theorem number_yes (rb : Nat) (ws : List Wd.Word) (i : Nat) (e : Int) (a least most : Int) (w : World) (h : Rdr w rb ws i e) (hn : Ps.num ws i (most + 1) = some a) (hl : least ≤ a) :
    Calls Tryz.prog 99 #[.pointer (some ⟨rb, 0, none⟩), .int .i64 least, .int .i64 most] w fun r w' => r = .returned (.tuple #[.int .i64 a, .nilIface]) ∧ Rdr w' rb ws (i + 1) e ∧ Kept (But rb) w w' := by
  have hlt := h.lt
  have h' := h
  obtain ⟨k, t, n, p, hx, c⟩ := next69 rb ws i e w h
  have hk : k = 2 ∧ n = a ∧ a ≤ most ∧ i < ws.length := by
    unfold Ps.num at hn
    rcases hx with ⟨x, hx, rfl, rfl, _⟩ | ⟨hx, _⟩
    · rw [hx] at hn
      simp only at hn
      split at hn
      · rename_i hh
        cases hn
        exact ⟨hh.1, rfl, by omega, (List.getElem?_eq_some_iff.1 hx).1⟩
      · cases hn
    · rw [hx] at hn; cases hn
  obtain ⟨rfl, rfl, hm, hi⟩ := hk
  have d1 : decide (n < least) = false := decide_eq_false (by omega)
  have d2 : decide (most < n) = false := decide_eq_false (by omega)
  obtain ⟨wb, cap, hf, q0, hlc, hcm, hl0, hl6⟩ := h.here hi
  have HS : Hid (∀ w', HasY rb wb (i * 4) (ws.length - i) cap w w' → Rdr w' rb ws (i + 1) e ∧ Kept (But rb) w w') := fun w' hh => rdr_step h' hi q0 hh
  generalize ws.length - i = len at *
  generalize i * 4 = off at *
  unfold maxLen at hcm
  clear hn hx h h' hl hm
  go_enter Tryz.func99, Tryz.ntmps99
  go_wp2_with fail
  refine c.mono ?_
  rintro r w1 ⟨rfl, hb1⟩
  clear c
  have q1 : w1.cell? ⟨rb, 0, none⟩ = some (.slice (some ⟨wb, off, none⟩) len cap) := (hb1.cell (p := ⟨rb, 0, none⟩) hlt).trans q0
  have f1 : w1.frozen? ⟨rb, 0, none⟩ = false := (hb1.frozen (p := ⟨rb, 0, none⟩) hlt).trans hf
  have hlt1 : rb < w1.heap.size := World.block_lt_of_cell? w1 ⟨rb, 0, none⟩ q1
  have hne : rb ≠ w1.heap.size := by omega
  have hne' : w1.heap.size ≠ rb := by omega
  have HB : Hid (Below w.heap.size w w1) := hb1
  clear hb1 q0 hf
  go_wp2
  · subst h
    refine bodyPost_ret (v := .tuple #[.int .i64 n, .nilIface]) (by simp [results, Tryz.results99, go_sem]) rfl ?_
    refine ⟨rfl, HS.out _ ⟨w1, _, _, HB.out, rfl, fun h => ?_⟩⟩
    omega
  · refine bodyPost_ret (v := .tuple #[.int .i64 n, .nilIface]) (by simp [results, Tryz.results99, go_sem]) rfl ?_
    refine ⟨rfl, HS.out _ ⟨w1, _, _, HB.out, rfl, fun h => ?_⟩⟩
    rfl

set_option maxHeartbeats 2000000 in
theorem number_no (rb : Nat) (ws : List Wd.Word) (i : Nat) (e : Int) (least most : Int) (w : World) (h : Rdr w rb ws i e) (hn : ∀ a, Ps.num ws i (most + 1) = some a → a < least) :
    Calls Tryz.prog 99 #[.pointer (some ⟨rb, 0, none⟩), .int .i64 least, .int .i64 most] w fun r w' => ∃ y : Int, r = .returned (.tuple #[.int .i64 0, .iface 69 (.agg #[.int .i64 y])]) ∧ Below w.heap.size w w' := by
  have hlt := h.lt
  obtain ⟨k, t, n, p, hx, c⟩ := next69 rb ws i e w h
  have hk : (k != 2) = true ∨ (k = 2 ∧ decide (n < least) = true) ∨ (k = 2 ∧ decide (n < least) = false ∧ decide (most < n) = true) := by
    unfold Ps.num at hn
    rcases hx with ⟨x, hx, rfl, rfl, _⟩ | ⟨hx, rfl⟩
    · rw [hx] at hn
      simp only at hn
      by_cases k2 : x.kind = 2
      · right
        by_cases l2 : x.num < least
        · exact .inl ⟨k2, decide_eq_true l2⟩
        · refine .inr ⟨k2, decide_eq_false l2, decide_eq_true ?_⟩
          by_cases m2 : x.num < most + 1
          · have := hn x.num (by rw [if_pos ⟨k2, m2⟩])
            omega
          · omega
      · exact .inl (by simpa [bne] using k2)
    · exact .inl (by decide)
  have c2 := fun w' (hb : Below w.heap.size w w') => misfit53 rb ws i e w' (h.below (hb.mono hlt))
  clear hn hx h
  rcases hk with hk | ⟨rfl, hk⟩ | ⟨rfl, hk, hk'⟩
  · go_enter Tryz.func99, Tryz.ntmps99
    go_wp2_with fail
    refine c.mono ?_
    rintro r w1 ⟨rfl, hb1⟩
    clear c
    have c3 := c2 (w1.alloc (.cells #[.int .i64 k, .string t, .int .i64 n, .int .i64 p] 120)) (hb1.alloc hb1.size _)
    have HB : Hid (Below w.heap.size w w1) := hb1
    clear hb1 c2
    go_wp2_with fail
    refine c3.mono ?_
    rintro r w2 ⟨y, rfl, hb2⟩
    clear c3
    go_wp2
    refine bodyPost_ret (v := .tuple #[.int .i64 0, .iface 69 (.agg #[.int .i64 y])]) (by simp [results, Tryz.results99, go_sem]) rfl ?_
    exact ⟨y, rfl, (HB.out.alloc HB.out.size _).trans (hb2.mono (by have := HB.out.size; simp; omega))⟩
  · go_enter Tryz.func99, Tryz.ntmps99
    go_wp2_with fail
    refine c.mono ?_
    rintro r w1 ⟨rfl, hb1⟩
    clear c
    have c3 := c2 (w1.alloc (.cells #[.int .i64 2, .string t, .int .i64 n, .int .i64 p] 120)) (hb1.alloc hb1.size _)
    have HB : Hid (Below w.heap.size w w1) := hb1
    clear hb1 c2
    go_wp2_with fail
    refine c3.mono ?_
    rintro r w2 ⟨y, rfl, hb2⟩
    clear c3
    go_wp2
    refine bodyPost_ret (v := .tuple #[.int .i64 0, .iface 69 (.agg #[.int .i64 y])]) (by simp [results, Tryz.results99, go_sem]) rfl ?_
    exact ⟨y, rfl, (HB.out.alloc HB.out.size _).trans (hb2.mono (by have := HB.out.size; simp; omega))⟩
  · go_enter Tryz.func99, Tryz.ntmps99
    go_wp2_with fail
    refine c.mono ?_
    rintro r w1 ⟨rfl, hb1⟩
    clear c
    have c3 := c2 (w1.alloc (.cells #[.int .i64 2, .string t, .int .i64 n, .int .i64 p] 120)) (hb1.alloc hb1.size _)
    have HB : Hid (Below w.heap.size w w1) := hb1
    clear hb1 c2
    go_wp2_with fail
    refine c3.mono ?_
    rintro r w2 ⟨y, rfl, hb2⟩
    clear c3
    go_wp2
    refine bodyPost_ret (v := .tuple #[.int .i64 0, .iface 69 (.agg #[.int .i64 y])]) (by simp [results, Tryz.results99, go_sem]) rfl ?_
    exact ⟨y, rfl, (HB.out.alloc HB.out.size _).trans (hb2.mono (by have := HB.out.size; simp; omega))⟩

set_option maxHeartbeats 1000000 in
theorem wants_yes (rb : Nat) (ws : List Wd.Word) (i : Nat) (e : Int) (c : UInt8) (s : ByteArray) (hs : s.data.toList = [c]) (w : World) (h : Rdr w rb ws i e) (hm : Ps.isMark ws i c = true) :
    Calls Tryz.prog 92 #[.pointer (some ⟨rb, 0, none⟩), .string s] w fun r w' => r = .returned .nilIface ∧ Rdr w' rb ws (i + 1) e ∧ Kept (But rb) w w' := by
  have c1 := has82 rb ws i e c s hs w h
  rw [isM_eq, hm] at c1
  clear hm
  go_enter Tryz.func92, Tryz.ntmps92
  go_wp2_with fail
  refine c1.mono ?_
  rintro r w1 ⟨rfl, hr1, hk1⟩
  clear c1
  have HK : Hid (_ ∧ _) := ⟨hr1, hk1⟩
  clear hr1 hk1
  go_wp2
  go_ret
  exact ⟨rfl, HK.out.1, HK.out.2⟩

set_option maxHeartbeats 1000000 in
theorem wants_no (rb : Nat) (ws : List Wd.Word) (i : Nat) (e : Int) (c : UInt8) (s : ByteArray) (hs : s.data.toList = [c]) (w : World) (h : Rdr w rb ws i e) (hm : Ps.isMark ws i c = false) :
    Calls Tryz.prog 92 #[.pointer (some ⟨rb, 0, none⟩), .string s] w fun r w' => ∃ y : Int, r = .returned (.iface 69 (.agg #[.int .i64 y])) ∧ Kept (But rb) w w' := by
  have c1 := has82 rb ws i e c s hs w h
  rw [isM_eq, hm] at c1
  clear hm
  go_enter Tryz.func92, Tryz.ntmps92
  go_wp2_with fail
  refine c1.mono ?_
  rintro r w1 ⟨rfl, hr1, hk1⟩
  clear c1
  have c2 := misfit53 rb ws i e w1 hr1
  have HK : Hid (Kept (But rb) w w1) := hk1
  clear hr1 hk1
  go_wp2_with fail
  refine c2.mono ?_
  rintro r w2 ⟨y, rfl, hb2⟩
  clear c2
  go_wp2
  go_ret
  exact ⟨y, rfl, HK.out.trans (Kept.of_below hb2)⟩

/-- An error, in one part more. -/
theorem within_some (p : ByteArray) (n : Nat) (v : Value) (w : World) (h : Mis n v) : Calls Tryz.prog 51 #[.string p, v] w fun r w' => (∃ v', r = .returned v' ∧ Mis (n + 1) v') ∧ w' = w := by
  obtain ⟨T, x, rfl⟩ := h.iface
  go_enter Tryz.func51, Tryz.ntmps51
  go_wp2
  go_ret
  exact ⟨⟨_, rfl, p, _, rfl, h⟩, rfl⟩

theorem within_none (p : ByteArray) (w : World) : Calls Tryz.prog 51 #[.string p, .nilIface] w fun r w' => r = .returned .nilIface ∧ w' = w := by
  go_enter Tryz.func51, Tryz.ntmps51
  go_wp2
  go_ret
  exact ⟨rfl, rfl⟩

end Go.Proofs.YtdeojcodbojmoaaGreatDoor
