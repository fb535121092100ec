/- pars.reader: the words of a text that are still to be read. -/
/- pars.Parse of the text that is one star. -/
/- How filters lie in memory; errors in parts. -/
import Derived.Test.YtdeojcodbojmoaaGreatDoorJah
import Derived.Test.YtdeojcodbojmoaaGreatDoorJai
import Derived.Test.YtdeojcodbojmoaaGreatDoorJaa
namespace Go.Proofs.YtdeojcodbojmoaaGreatDoor
open Go.RowKit
set_option maxRecDepth 100000
set_option linter.unusedVariables false

/-- Block rb is a reader that has read i of the words ws; the text ends at e. -/
def Rdr (w : World) (rb : Nat) (ws : List Wd.Word) (i : Nat) (e : Int) : Prop :=
  w.frozen? ⟨rb, 0, none⟩ = false ∧ i ≤ ws.length ∧ ws.length ≤ 60 ∧ ∃ (ao : Option Addr) (cap wb : Nat), w.cell? ⟨rb, 0, none⟩ = some (.slice ao (ws.length - i) cap) ∧ ws.length - i ≤ cap ∧ cap ≤ maxLen ∧ w.cell? ⟨rb, 1, none⟩ = some (.int .i64 e) ∧
    (i < ws.length → ao = some ⟨wb, i * 4, none⟩ ∧ wb < rb ∧ ∀ j u, (cellsOf ws)[j]? = some u → w.cell? ⟨wb, j, none⟩ = some u)

theorem Rdr.lt {w : World} {rb : Nat} {ws : List Wd.Word} {i : Nat} {e : Int} (h : Rdr w rb ws i e) : rb < w.heap.size := by
  obtain ⟨_, _, _, ao, cap, wb, q, _⟩ := h
  exact World.block_lt_of_cell? w ⟨rb, 0, none⟩ q

theorem Rdr.below {w w' : World} {rb : Nat} {ws : List Wd.Word} {i : Nat} {e : Int} (h : Rdr w rb ws i e) (hb : Below (rb + 1) w w') : Rdr w' rb ws i e := by
  obtain ⟨h1, h2, h3, ao, cap, wb, q0, q1, q2, q3, q4⟩ := h
  refine ⟨(hb.frozen (by simp)).trans h1, h2, h3, ao, cap, wb, (hb.cell (by simp)).trans q0, q1, q2, (hb.cell (by simp)).trans q3, fun hi => ?_⟩
  obtain ⟨a, b, c⟩ := q4 hi
  exact ⟨a, b, fun j u hu => (hb.cell (by show wb < rb + 1; omega)).trans (c j u hu)⟩

/-- The next word, or the text's end. -/
def nextW (ws : List Wd.Word) (i : Nat) (e : Int) : List Value := match ws[i]? with
  | some x => wordCells x
  | none => [.int .i64 0, .string ⟨#[]⟩, .int .i64 0, .int .i64 e]

set_option maxHeartbeats 1000000 in
theorem next_end (rb : Nat) (w : World) (e : Int) (ao : Option Addr) (cap : Nat) (q0 : w.cell? ⟨rb, 0, none⟩ = some (.slice ao 0 cap)) (q1 : w.cell? ⟨rb, 1, none⟩ = some (.int .i64 e)) :
    Calls Tryz.prog 69 #[.pointer (some ⟨rb, 0, none⟩)] w fun r w' => r = .returned (.agg #[.int .i64 0, .string ⟨#[]⟩, .int .i64 0, .int .i64 e]) ∧ Below w.heap.size w w' := by
  have hlt : rb < w.heap.size := World.block_lt_of_cell? w ⟨rb, 0, none⟩ q0
  go_enter Tryz.func69, Tryz.ntmps69
  go_wp2
  refine bodyPost_ret (v := .agg #[.int .i64 0, .string ⟨#[]⟩, .int .i64 0, .int .i64 e]) (by simp [results, Tryz.results69, go_sem]) rfl ⟨rfl, ?_⟩
  exact (Below.refl _ _).alloc (Nat.le_refl _) _

set_option maxHeartbeats 1000000 in
theorem next_word (rb wb off : Nat) (w : World) (k n p : Int) (t : ByteArray) (len cap : Nat) (hl : 0 < len) (hl2 : len ≤ 60) (q0 : w.cell? ⟨rb, 0, none⟩ = some (.slice (some ⟨wb, off, none⟩) len cap)) (u0 : w.cell? ⟨wb, off, none⟩ = some (.int .i64 k)) (u1 : w.cell? ⟨wb, off + 1, none⟩ = some (.string t)) (u2 : w.cell? ⟨wb, off + 2, none⟩ = some (.int .i64 n)) (u3 : w.cell? ⟨wb, off + 3, none⟩ = some (.int .i64 p)) :
    Calls Tryz.prog 69 #[.pointer (some ⟨rb, 0, none⟩)] w fun r w' => r = .returned (.agg #[.int .i64 k, .string t, .int .i64 n, .int .i64 p]) ∧ Below w.heap.size w w' := by
  have hlt : rb < w.heap.size := World.block_lt_of_cell? w ⟨rb, 0, none⟩ q0
  have hlt2 : wb < w.heap.size := World.block_lt_of_cell? w ⟨wb, off, none⟩ u0
  go_enter Tryz.func69, Tryz.ntmps69
  go_wp2
  refine bodyPost_ret (v := .agg #[.int .i64 k, .string t, .int .i64 n, .int .i64 p]) (by simp [results, Tryz.results69, go_sem]) rfl ⟨rfl, ?_⟩
  exact (Below.refl _ _).alloc (Nat.le_refl _) _

/-- Is the next word this mark? -/
def isM (ws : List Wd.Word) (i : Nat) (c : UInt8) : Bool := match ws[i]? with
  | some x => x.kind == 3 && x.text == [c]
  | none => false

theorem text_eq (t : List UInt8) (s : ByteArray) (c : UInt8) (hs : s.data.toList = [c]) : ((⟨t.toArray⟩ : ByteArray).toList == s.toList) = (t == [c]) := by
  rw [ByteArray.toList_eq, ByteArray.toList_eq, hs]

/-- The cells of a word. -/
theorem word_at {w : World} {wb : Nat} {ws : List Wd.Word} (hc : ∀ j u, (cellsOf ws)[j]? = some u → w.cell? ⟨wb, j, none⟩ = some u) (i : Nat) (hi : i < ws.length) :
    w.cell? ⟨wb, i * 4, none⟩ = some (.int .i64 (ws[i]).kind) ∧ w.cell? ⟨wb, i * 4 + 1, none⟩ = some (.string ⟨(ws[i]).text.toArray⟩) ∧ w.cell? ⟨wb, i * 4 + 2, none⟩ = some (.int .i64 (ws[i]).num) ∧ w.cell? ⟨wb, i * 4 + 3, none⟩ = some (.int .i64 (ws[i]).place) := by
  have hx := List.getElem?_eq_getElem hi
  have h : ∀ q (hq : q < 4) u, (wordCells (ws[i]))[q]? = some u → w.cell? ⟨wb, i * 4 + q, none⟩ = some u := fun q hq u hu => hc _ u (by rw [cellsOf_get ws i q _ hx hq]; exact hu)
  exact ⟨h 0 (by omega) _ rfl, h 1 (by omega) _ rfl, h 2 (by omega) _ rfl, h 3 (by omega) _ rfl⟩

set_option maxHeartbeats 1000000 in
/-- Not that mark. -/
theorem has_no (rb : Nat) (w : World) (s t : ByteArray) (k n p : Int) (hk : (k != 3) = true ∨ (k != 3) = false ∧ (t.toList == s.toList) = false) (c : Calls Tryz.prog 69 #[.pointer (some ⟨rb, 0, none⟩)] w fun r w' => r = .returned (.agg #[.int .i64 k, .string t, .int .i64 n, .int .i64 p]) ∧ Below w.heap.size w w') :
    Calls Tryz.prog 82 #[.pointer (some ⟨rb, 0, none⟩), .string s] w fun r w' => r = .returned (.bool false) ∧ Below w.heap.size w w' := by
  rcases hk with hk | ⟨hk, hk2⟩
  · go_enter Tryz.func82, Tryz.ntmps82
    go_wp2_with fail
    refine c.mono ?_
    rintro r w1 ⟨rfl, hb1⟩
    clear c
    go_wp2
    go_ret
    exact ⟨rfl, hb1.alloc hb1.size _⟩
  · have hk3 : (t.toList != s.toList) = true := by simp [bne, hk2]
    go_enter Tryz.func82, Tryz.ntmps82
    go_wp2_with fail
    refine c.mono ?_
    rintro r w1 ⟨rfl, hb1⟩
    clear c
    go_wp2
    go_ret
    exact ⟨rfl, hb1.alloc hb1.size _⟩

/-- One word is read. -/
def HasY (rb wb off len cap : Nat) (w w' : World) : Prop := ∃ W ao o, Below w.heap.size w W ∧ w' = (W.setCell ⟨rb, 0, none⟩ (.slice ao (len - 1) (cap - 1))).alloc o ∧ (1 < cap → ao = some ⟨wb, off + 4, none⟩)

set_option maxHeartbeats 1000000 in
/-- That mark. -/
theorem has_yes (rb : Nat) (w : World) (s t : ByteArray) (n p : Int) (wb off len cap : Nat) (hl : 0 < len) (hl2 : len ≤ 60) (hlc : len ≤ cap) (hcm : cap ≤ maxLen) (hf : w.frozen? ⟨rb, 0, none⟩ = false) (q0 : w.cell? ⟨rb, 0, none⟩ = some (.slice (some ⟨wb, off, none⟩) len cap)) (hk2 : (t.toList == s.toList) = true) (c : Calls Tryz.prog 69 #[.pointer (some ⟨rb, 0, none⟩)] w fun r w' => r = .returned (.agg #[.int .i64 3, .string t, .int .i64 n, .int .i64 p]) ∧ Below w.heap.size w w') :
    Calls Tryz.prog 82 #[.pointer (some ⟨rb, 0, none⟩), .string s] w fun r w' => r = .returned (.bool true) ∧ HasY rb wb off len cap w w' := by
  unfold maxLen at hcm
  have hk3 : (t.toList != s.toList) = false := by simp [bne, hk2]
  have hlt : rb < w.heap.size := World.block_lt_of_cell? w ⟨rb, 0, none⟩ q0
  go_enter Tryz.func82, Tryz.ntmps82
  go_wp2_with fail
  refine c.mono ?_
  rintro r w1 ⟨rfl, hb1⟩
  clear c
  have q1 : w1.cell? ⟨rb, 0, none⟩ = some (.slice (some ⟨wb, off, none⟩) len cap) := (hb1.cell (p := ⟨rb, 0, none⟩) hlt).trans q0
  have f1 : w1.frozen? ⟨rb, 0, none⟩ = false := (hb1.frozen (p := ⟨rb, 0, none⟩) hlt).trans hf
  have hlt1 : rb < w1.heap.size := World.block_lt_of_cell? w1 ⟨rb, 0, none⟩ q1
  have hne : rb ≠ w1.heap.size := by omega
  have hne' : w1.heap.size ≠ rb := by omega
  have HB : Hid (Below w.heap.size w w1) := hb1
  clear hb1
  go_wp2
  all_goals (
    go_ret
    refine ⟨rfl, w1, _, _, HB.out, rfl, fun h => ?_⟩
    first | rfl | omega)

/-- Is the next word this mark? Then it is read. -/
theorem has82 (rb : Nat) (ws : List Wd.Word) (i : Nat) (e : Int) (c : UInt8) (s : ByteArray) (hs : s.data.toList = [c]) (w : World) (h : Rdr w rb ws i e) :
    Calls Tryz.prog 82 #[.pointer (some ⟨rb, 0, none⟩), .string s] w fun r w' => r = .returned (.bool (isM ws i c)) ∧ Rdr w' rb ws (if isM ws i c then i + 1 else i) e ∧ Kept (But rb) w w' := by
  have hlt := h.lt
  have h' := h
  obtain ⟨h1, h2, h3, ao, cap, wb, q0, q1, q2, q3, q4⟩ := h
  have stay : ∀ w', Below w.heap.size w w' → Rdr w' rb ws i e ∧ Kept (But rb) w w' := fun w' hb => ⟨h'.below (hb.mono hlt), Kept.of_below hb⟩
  by_cases hi : i < ws.length
  · obtain ⟨rfl, hwb, hc⟩ := q4 hi
    obtain ⟨u0, u1, u2, u3⟩ := word_at hc i hi
    have hn := next_word rb wb (i * 4) w _ _ _ _ _ cap (by omega) (by omega) q0 u0 u1 u2 u3
    have hm : isM ws i c = ((ws[i]).kind == 3 && (ws[i]).text == [c]) := by unfold isM; rw [List.getElem?_eq_getElem hi]
    by_cases hk : (ws[i]).kind = 3
    · by_cases ht : ((ws[i]).text == [c]) = true
      · rw [hm, hk, ht]
        rw [hk] at hn
        refine (has_yes rb w s _ _ _ wb (i * 4) _ cap (by omega) (by omega) q1 q2 h1 q0 (by rw [text_eq _ _ _ hs]; exact ht) hn).mono ?_
        rintro r w' ⟨rfl, W, ao', ob, hW, rfl, hao⟩
        refine ⟨rfl, Rdr.below ?_ ((Below.refl _ _).alloc (by have := hW.size; simp; omega) _), (Kept.setCell (P := But rb) (p := ⟨rb, 0, none⟩) (Kept.of_below hW) (fun k _ hk => hk) _).alloc _⟩
        have hWc : ∀ b o, b < w.heap.size → b ≠ rb → (W.setCell ⟨rb, 0, none⟩ (.slice ao' (ws.length - i - 1) (cap - 1))).cell? ⟨b, o, none⟩ = w.cell? ⟨b, o, none⟩ := fun b o hb hne => by
          rw [World.cell?_setCell_other _ _ _ _ (fun e => hne (congrArg Addr.block e).symm)]; exact hW.cell (p := ⟨b, o, none⟩) hb
        have hlw : wb < w.heap.size := by omega
        show Rdr _ rb ws (i + 1) e
        refine ⟨?_, by omega, h3, ao', cap - 1, wb, ?_, by omega, by unfold maxLen at q2 ⊢; omega, ?_, fun hi2 => ⟨?_, hwb, fun j u hu => ?_⟩⟩
        · have := (hW.frozen (p := ⟨rb, 0, none⟩) hlt).trans h1
          simpa using this
        · have e1 : ws.length - (i + 1) = ws.length - i - 1 := by omega
          rw [e1]
          exact (World.cell?_setCell_same W ⟨rb, 0, none⟩ _ (u := .slice (some ⟨wb, i * 4, none⟩) (ws.length - i) cap) ((hW.cell (p := ⟨rb, 0, none⟩) hlt).trans q0)).trans rfl
        · rw [World.cell?_setCell_other _ _ _ _ (by simp)]
          exact (hW.cell (p := ⟨rb, 1, none⟩) hlt).trans q3
        · rw [hao (by omega)]
          have e2 : i * 4 + 4 = (i + 1) * 4 := by omega
          rw [e2]
        · rw [hWc wb j hlw (by omega)]; exact hc j u hu
      · have ht' : ((ws[i]).text == [c]) = false := by simpa using ht
        rw [hm, hk, ht']
        rw [hk] at hn
        refine (has_no rb w s _ 3 _ _ (.inr ⟨by decide, by rw [text_eq _ _ _ hs]; exact ht'⟩) hn).mono ?_
        rintro r w' ⟨rfl, hb⟩
        exact ⟨rfl, stay w' hb⟩
    · have hk' : ((ws[i]).kind == 3) = false := by simpa using hk
      rw [hm, hk']
      refine (has_no rb w s _ _ _ _ (.inl (by simp [bne, hk'])) hn).mono ?_
      rintro r w' ⟨rfl, hb⟩
      exact ⟨rfl, stay w' hb⟩
  · have hm : isM ws i c = false := by unfold isM; rw [List.getElem?_eq_none (by omega)]
    have e0 : ws.length - i = 0 := by omega
    rw [e0] at q0
    rw [hm]
    refine (has_no rb w s ⟨#[]⟩ 0 0 e (.inl (by decide)) (next_end rb w e ao cap q0 q3)).mono ?_
    rintro r w' ⟨rfl, hb⟩
    exact ⟨rfl, stay w' hb⟩

end Go.Proofs.YtdeojcodbojmoaaGreatDoor
namespace Go.Proofs.YtdeojcodbojmoaaGreatDoor
open Go.RowKit
set_option maxRecDepth 100000
set_option linter.unusedVariables false

/-- What reading leaves behind. -/
def WR (rb : Nat) (ws : List Wd.Word) (i : Nat) (e : Int) (w w' : World) : Prop := Rdr w' rb ws i e ∧ Kept (But rb) w w'

theorem WR.setCell {rb : Nat} {ws : List Wd.Word} {i : Nat} {e : Int} {w w' : World} (h : WR rb ws i e w w') (hlt : rb < w.heap.size) (o : Nat) (u : Value) : WR rb ws i e w (w'.setCell ⟨w.heap.size, o, none⟩ u) :=
  ⟨h.1.below ((Below.refl _ w').setCell (by show rb + 1 ≤ w.heap.size; omega) _), h.2.setCell (p := ⟨w.heap.size, o, none⟩) (fun k hk _ => by show k ≠ w.heap.size; omega) _⟩

theorem WR.six {rb : Nat} {ws : List Wd.Word} {i : Nat} {e : Int} {w w' : World} (h : WR rb ws i e w w') (hlt : rb < w.heap.size) {u0 u1 u2 u3 u4 u5 : Value} : WR rb ws i e w ((((((w'.setCell ⟨w.heap.size, 0, none⟩ u0).setCell ⟨w.heap.size, 1, none⟩ u1).setCell ⟨w.heap.size, 2, none⟩ u2).setCell ⟨w.heap.size, 3, none⟩ u3).setCell ⟨w.heap.size, 4, none⟩ u4).setCell ⟨w.heap.size, 5, none⟩ u5) :=
  (((((h.setCell hlt 0 u0).setCell hlt 1 u1).setCell hlt 2 u2).setCell hlt 3 u3).setCell hlt 4 u4).setCell hlt 5 u5

set_option maxHeartbeats 1000000 in
theorem single_star (rb : Nat) (ws : List Wd.Word) (i : Nat) (e : Int) (w : World) (h : Rdr w rb ws i e) (hm : isM ws i 42 = true) :
    Calls Tryz.prog 83 #[.pointer (some ⟨rb, 0, none⟩)] w fun r w' => r = .returned (.tuple #[.agg #[.int .i64 1, .int .i64 0, .int .i64 0, .int .i64 0, .string ⟨#[]⟩, .slice none 0 0], .nilIface]) ∧ WR rb ws (i + 1) e w w' := by
  have hlt := h.lt
  have c1 := has82 rb ws i e 42 ⟨#[42]⟩ rfl (w.alloc (.cells #[.int .i64 0, .int .i64 0, .int .i64 0, .int .i64 0, .string ⟨#[]⟩, .slice none 0 0] 53)) (h.below ((Below.refl _ w).alloc hlt _))
  rw [hm] at c1
  go_enter Tryz.func83, Tryz.ntmps83
  go_wp2_with fail
  refine c1.mono ?_
  rintro r w1 ⟨rfl, hr1, hk1⟩
  clear c1
  have hs1 : w.heap.size < w1.heap.size := by have := hk1.size; simp at this; omega
  have z1 : ∀ o, w1.cell? ⟨w.heap.size, o, none⟩ = (#[.int .i64 0, .int .i64 0, .int .i64 0, .int .i64 0, .string ⟨#[]⟩, .slice none 0 0] : Array Value)[o]? := fun o => by rw [hk1.cell (by simp) (by unfold But; omega)]; simp
  have f1 : ∀ o, w1.frozen? ⟨w.heap.size, o, none⟩ = false := fun o => by rw [hk1.frozen (by simp) (by unfold But; omega)]; simp
  have HK : Hid (WR rb ws (i + 1) e w w1) := ⟨hr1, ((Kept.refl (But rb) w).alloc _).trans hk1⟩
  clear hr1 hk1
  go_wp2
  refine bodyPost_ret (v := .tuple #[.agg #[.int .i64 1, .int .i64 0, .int .i64 0, .int .i64 0, .string ⟨#[]⟩, .slice none 0 0], .nilIface]) (by simp [results, Tryz.results83, go_sem, z1]) rfl ⟨rfl, ?_⟩
  exact HK.out.six hlt

set_option maxHeartbeats 2000000 in
/-- One part, and no mark behind it. -/
theorem row_one83 (rb : Nat) (ws : List Wd.Word) (i i' : Nat) (e : Int) (op : Int) (c : UInt8) (s : ByteArray) (hs : s.data.toList = [c]) (w : World) (hr : Rdr w rb ws i e) (hm : isM ws i' c = false)
    (cp : ∀ w', Rdr w' rb ws i e → Calls Tryz.prog 83 #[.pointer (some ⟨rb, 0, none⟩)] w' fun r w'' => r = .returned (.tuple #[.agg #[.int .i64 1, .int .i64 0, .int .i64 0, .int .i64 0, .string ⟨#[]⟩, .slice none 0 0], .nilIface]) ∧ WR rb ws i' e w' w'') :
    Calls Tryz.prog 67 #[.pointer (some ⟨rb, 0, none⟩), .int .i64 op, .string s, .func (.func 83) #[.pointer (some ⟨rb, 0, none⟩)] #[]] w fun r w' => r = .returned (.tuple #[.agg #[.int .i64 1, .int .i64 0, .int .i64 0, .int .i64 0, .string ⟨#[]⟩, .slice none 0 0], .nilIface]) ∧ WR rb ws i' e w w' := by
  have hlt := hr.lt
  have c1 := cp (w.alloc (.cells #[.int .i64 0, .int .i64 0, .int .i64 0, .int .i64 0, .string ⟨#[]⟩, .slice none 0 0] 53)) (hr.below ((Below.refl _ w).alloc hlt _))
  go_enter Tryz.func67, Tryz.ntmps67
  go_wp2_with fail
  refine c1.mono ?_
  rintro r w1 ⟨rfl, hw1⟩
  clear c1 cp
  have hs1 : w.heap.size < w1.heap.size := by have := hw1.2.size; simp at this; omega
  have z1 : ∀ o, w1.cell? ⟨w.heap.size, o, none⟩ = (#[.int .i64 0, .int .i64 0, .int .i64 0, .int .i64 0, .string ⟨#[]⟩, .slice none 0 0] : Array Value)[o]? := fun o => by rw [hw1.2.cell (by simp) (by unfold But; omega)]; simp
  have f1 : ∀ o, w1.frozen? ⟨w.heap.size, o, none⟩ = false := fun o => by rw [hw1.2.frozen (by simp) (by unfold But; omega)]; simp
  have hr1 : Rdr w1 rb ws i' e := hw1.1
  have c2 := has82 rb ws i' e c s hs (w1.alloc (.cells #[.int .i64 1, .int .i64 0, .int .i64 0, .int .i64 0, .string ⟨#[]⟩, .slice none 0 0] 53)) (hr1.below ((Below.refl _ w1).alloc hr1.lt _))
  rw [hm] at c2
  have HK : Hid (WR rb ws i' e w w1) := ⟨hr1, ((Kept.refl (But rb) w).alloc _).trans hw1.2⟩
  clear hr1 hw1
  go_wp2_with fail
  refine wp_loop_rounds 1 ?_
  rw [rounds_succ]
  go_wp2_with fail
  refine c2.mono ?_
  rintro r w2 ⟨rfl, hr2, hk2⟩
  clear c2
  have hs2 : w1.heap.size < w2.heap.size := by have := hk2.size; simp at this; omega
  have hlt1 : rb < w1.heap.size := by omega
  have z2 : ∀ o, w2.cell? ⟨w.heap.size, o, none⟩ = (#[.int .i64 0, .int .i64 0, .int .i64 0, .int .i64 0, .string ⟨#[]⟩, .slice none 0 0] : Array Value)[o]? := fun o => by rw [hk2.cell (by simp; omega) (by unfold But; omega), World.cell?_alloc_past _ _ _ (hn := hs1)]; exact z1 o
  have f2 : ∀ o, w2.frozen? ⟨w.heap.size, o, none⟩ = false := fun o => by rw [hk2.frozen (by simp; omega) (by unfold But; omega), World.frozen?_alloc_past _ _ _ (hn := hs1)]; exact f1 o
  have y2 : ∀ o, w2.cell? ⟨w1.heap.size, o, none⟩ = (#[.int .i64 1, .int .i64 0, .int .i64 0, .int .i64 0, .string ⟨#[]⟩, .slice none 0 0] : Array Value)[o]? := fun o => by rw [hk2.cell (by simp) (by unfold But; omega)]; simp
  have HK2 : Hid (WR rb ws i' e w w2) := ⟨hr2, HK.out.2.trans (((Kept.refl (But rb) w1).alloc _).trans hk2)⟩
  clear hr2 hk2 z1 f1 HK
  have hne : w.heap.size ≠ w1.heap.size := by omega
  have hne' : w1.heap.size ≠ w.heap.size := by omega
  go_wp2
  refine bodyPost_ret (v := .tuple #[.agg #[.int .i64 1, .int .i64 0, .int .i64 0, .int .i64 0, .string ⟨#[]⟩, .slice none 0 0], .nilIface]) (by simp [results, Tryz.results67, go_sem, z2]) rfl ⟨rfl, ?_⟩
  exact HK2.out.six hlt

set_option maxHeartbeats 2000000 in
/-- One part, and no mark behind it. -/
theorem row_one68 (rb : Nat) (ws : List Wd.Word) (i i' : Nat) (e : Int) (op : Int) (c : UInt8) (s : ByteArray) (hs : s.data.toList = [c]) (w : World) (hr : Rdr w rb ws i e) (hm : isM ws i' c = false)
    (cp : ∀ w', Rdr w' rb ws i e → Calls Tryz.prog 68 #[.pointer (some ⟨rb, 0, none⟩)] w' fun r w'' => r = .returned (.tuple #[.agg #[.int .i64 1, .int .i64 0, .int .i64 0, .int .i64 0, .string ⟨#[]⟩, .slice none 0 0], .nilIface]) ∧ WR rb ws i' e w' w'') :
    Calls Tryz.prog 67 #[.pointer (some ⟨rb, 0, none⟩), .int .i64 op, .string s, .func (.func 68) #[.pointer (some ⟨rb, 0, none⟩)] #[]] w fun r w' => r = .returned (.tuple #[.agg #[.int .i64 1, .int .i64 0, .int .i64 0, .int .i64 0, .string ⟨#[]⟩, .slice none 0 0], .nilIface]) ∧ WR rb ws i' e w w' := by
  have hlt := hr.lt
  have c1 := cp (w.alloc (.cells #[.int .i64 0, .int .i64 0, .int .i64 0, .int .i64 0, .string ⟨#[]⟩, .slice none 0 0] 53)) (hr.below ((Below.refl _ w).alloc hlt _))
  go_enter Tryz.func67, Tryz.ntmps67
  go_wp2_with fail
  refine c1.mono ?_
  rintro r w1 ⟨rfl, hw1⟩
  clear c1 cp
  have hs1 : w.heap.size < w1.heap.size := by have := hw1.2.size; simp at this; omega
  have z1 : ∀ o, w1.cell? ⟨w.heap.size, o, none⟩ = (#[.int .i64 0, .int .i64 0, .int .i64 0, .int .i64 0, .string ⟨#[]⟩, .slice none 0 0] : Array Value)[o]? := fun o => by rw [hw1.2.cell (by simp) (by unfold But; omega)]; simp
  have f1 : ∀ o, w1.frozen? ⟨w.heap.size, o, none⟩ = false := fun o => by rw [hw1.2.frozen (by simp) (by unfold But; omega)]; simp
  have hr1 : Rdr w1 rb ws i' e := hw1.1
  have c2 := has82 rb ws i' e c s hs (w1.alloc (.cells #[.int .i64 1, .int .i64 0, .int .i64 0, .int .i64 0, .string ⟨#[]⟩, .slice none 0 0] 53)) (hr1.below ((Below.refl _ w1).alloc hr1.lt _))
  rw [hm] at c2
  have HK : Hid (WR rb ws i' e w w1) := ⟨hr1, ((Kept.refl (But rb) w).alloc _).trans hw1.2⟩
  clear hr1 hw1
  go_wp2_with fail
  refine wp_loop_rounds 1 ?_
  rw [rounds_succ]
  go_wp2_with fail
  refine c2.mono ?_
  rintro r w2 ⟨rfl, hr2, hk2⟩
  clear c2
  have hs2 : w1.heap.size < w2.heap.size := by have := hk2.size; simp at this; omega
  have hlt1 : rb < w1.heap.size := by omega
  have z2 : ∀ o, w2.cell? ⟨w.heap.size, o, none⟩ = (#[.int .i64 0, .int .i64 0, .int .i64 0, .int .i64 0, .string ⟨#[]⟩, .slice none 0 0] : Array Value)[o]? := fun o => by rw [hk2.cell (by simp; omega) (by unfold But; omega), World.cell?_alloc_past _ _ _ (hn := hs1)]; exact z1 o
  have f2 : ∀ o, w2.frozen? ⟨w.heap.size, o, none⟩ = false := fun o => by rw [hk2.frozen (by simp; omega) (by unfold But; omega), World.frozen?_alloc_past _ _ _ (hn := hs1)]; exact f1 o
  have y2 : ∀ o, w2.cell? ⟨w1.heap.size, o, none⟩ = (#[.int .i64 1, .int .i64 0, .int .i64 0, .int .i64 0, .string ⟨#[]⟩, .slice none 0 0] : Array Value)[o]? := fun o => by rw [hk2.cell (by simp) (by unfold But; omega)]; simp
  have HK2 : Hid (WR rb ws i' e w w2) := ⟨hr2, HK.out.2.trans (((Kept.refl (But rb) w1).alloc _).trans hk2)⟩
  clear hr2 hk2 z1 f1 HK
  have hne : w.heap.size ≠ w1.heap.size := by omega
  have hne' : w1.heap.size ≠ w.heap.size := by omega
  go_wp2
  refine bodyPost_ret (v := .tuple #[.agg #[.int .i64 1, .int .i64 0, .int .i64 0, .int .i64 0, .string ⟨#[]⟩, .slice none 0 0], .nilIface]) (by simp [results, Tryz.results67, go_sem, z2]) rfl ⟨rfl, ?_⟩
  exact HK2.out.six hlt

set_option maxHeartbeats 1000000 in
theorem allOf_one (rb : Nat) (ws : List Wd.Word) (i : Nat) (e : Int) (w : World) (h : Rdr w rb ws i e)  (hm2 : isM ws (i + 1) 38 = false)
    (cp : ∀ w', Rdr w' rb ws i e → Calls Tryz.prog 83 #[.pointer (some ⟨rb, 0, none⟩)] w' fun r w'' => r = .returned (.tuple #[.agg #[.int .i64 1, .int .i64 0, .int .i64 0, .int .i64 0, .string ⟨#[]⟩, .slice none 0 0], .nilIface]) ∧ WR rb ws (i + 1) e w' w'') :
    Calls Tryz.prog 68 #[.pointer (some ⟨rb, 0, none⟩)] w fun r w' => r = .returned (.tuple #[.agg #[.int .i64 1, .int .i64 0, .int .i64 0, .int .i64 0, .string ⟨#[]⟩, .slice none 0 0], .nilIface]) ∧ WR rb ws (i + 1) e w w' := by
  have hlt := h.lt
  have c1 := row_one83 rb ws i (i + 1) e 5 38 ⟨#[38]⟩ rfl (w.alloc (.cells #[.int .i64 0, .int .i64 0, .int .i64 0, .int .i64 0, .string ⟨#[]⟩, .slice none 0 0] 53)) (h.below ((Below.refl _ w).alloc hlt _)) hm2 cp
  clear cp
  go_enter Tryz.func68, Tryz.ntmps68
  go_wp2_with fail
  refine c1.mono ?_
  rintro r w1 ⟨rfl, hw1⟩
  clear c1
  have hs1 : w.heap.size < w1.heap.size := by have := hw1.2.size; simp at this; omega
  have z1 : ∀ o, w1.cell? ⟨w.heap.size, o, none⟩ = (#[.int .i64 0, .int .i64 0, .int .i64 0, .int .i64 0, .string ⟨#[]⟩, .slice none 0 0] : Array Value)[o]? := fun o => by rw [hw1.2.cell (by simp) (by unfold But; omega)]; simp
  have f1 : ∀ o, w1.frozen? ⟨w.heap.size, o, none⟩ = false := fun o => by rw [hw1.2.frozen (by simp) (by unfold But; omega)]; simp
  have HK : Hid (WR rb ws (i + 1) e w w1) := ⟨hw1.1, ((Kept.refl (But rb) w).alloc _).trans hw1.2⟩
  clear hw1
  go_wp2
  refine bodyPost_ret (v := .tuple #[.agg #[.int .i64 1, .int .i64 0, .int .i64 0, .int .i64 0, .string ⟨#[]⟩, .slice none 0 0], .nilIface]) (by simp [results, Tryz.results68, go_sem, z1]) rfl ⟨rfl, ?_⟩
  exact HK.out.six hlt

set_option maxHeartbeats 1000000 in
theorem filter_one (rb : Nat) (ws : List Wd.Word) (i : Nat) (e : Int) (w : World) (h : Rdr w rb ws i e)  (hm2 : isM ws (i + 1) 124 = false)
    (cp : ∀ w', Rdr w' rb ws i e → Calls Tryz.prog 68 #[.pointer (some ⟨rb, 0, none⟩)] w' fun r w'' => r = .returned (.tuple #[.agg #[.int .i64 1, .int .i64 0, .int .i64 0, .int .i64 0, .string ⟨#[]⟩, .slice none 0 0], .nilIface]) ∧ WR rb ws (i + 1) e w' w'') :
    Calls Tryz.prog 52 #[.pointer (some ⟨rb, 0, none⟩)] w fun r w' => r = .returned (.tuple #[.agg #[.int .i64 1, .int .i64 0, .int .i64 0, .int .i64 0, .string ⟨#[]⟩, .slice none 0 0], .nilIface]) ∧ WR rb ws (i + 1) e w w' := by
  have hlt := h.lt
  have c1 := row_one68 rb ws i (i + 1) e 6 124 ⟨#[124]⟩ rfl (w.alloc (.cells #[.int .i64 0, .int .i64 0, .int .i64 0, .int .i64 0, .string ⟨#[]⟩, .slice none 0 0] 53)) (h.below ((Below.refl _ w).alloc hlt _)) hm2 cp
  clear cp
  go_enter Tryz.func52, Tryz.ntmps52
  go_wp2_with fail
  refine c1.mono ?_
  rintro r w1 ⟨rfl, hw1⟩
  clear c1
  have hs1 : w.heap.size < w1.heap.size := by have := hw1.2.size; simp at this; omega
  have z1 : ∀ o, w1.cell? ⟨w.heap.size, o, none⟩ = (#[.int .i64 0, .int .i64 0, .int .i64 0, .int .i64 0, .string ⟨#[]⟩, .slice none 0 0] : Array Value)[o]? := fun o => by rw [hw1.2.cell (by simp) (by unfold But; omega)]; simp
  have f1 : ∀ o, w1.frozen? ⟨w.heap.size, o, none⟩ = false := fun o => by rw [hw1.2.frozen (by simp) (by unfold But; omega)]; simp
  have HK : Hid (WR rb ws (i + 1) e w w1) := ⟨hw1.1, ((Kept.refl (But rb) w).alloc _).trans hw1.2⟩
  clear hw1
  go_wp2
  refine bodyPost_ret (v := .tuple #[.agg #[.int .i64 1, .int .i64 0, .int .i64 0, .int .i64 0, .string ⟨#[]⟩, .slice none 0 0], .nilIface]) (by simp [results, Tryz.results52, go_sem, z1]) rfl ⟨rfl, ?_⟩
  exact HK.out.six hlt

end Go.Proofs.YtdeojcodbojmoaaGreatDoor
namespace Go.Proofs.YtdeojcodbojmoaaGreatDoor
open Go.RowKit
set_option maxRecDepth 100000
set_option linter.unusedVariables false

/-- A filter's six fields, in six cells from cell j of block b on. -/
def Six (w : World) (b j : Nat) (o k l h : Int) (t : ByteArray) (x : Option Addr) (n : Nat) : Prop :=
  w.cell? ⟨b, j, none⟩ = some (.int .i64 o) ∧ w.cell? ⟨b, j + 1, none⟩ = some (.int .i64 k) ∧ w.cell? ⟨b, j + 2, none⟩ = some (.int .i64 l) ∧
  w.cell? ⟨b, j + 3, none⟩ = some (.int .i64 h) ∧ w.cell? ⟨b, j + 4, none⟩ = some (.string t) ∧ w.cell? ⟨b, j + 5, none⟩ = some (.slice x n n)

theorem Six.lt {w : World} {b j : Nat} {o k l h : Int} {t : ByteArray} {x : Option Addr} {n : Nat} (s : Six w b j o k l h t x n) : b < w.heap.size :=
  World.block_lt_of_cell? w ⟨b, j, none⟩ s.1

theorem Six.of {w w' : World} {b j : Nat} {o k l h : Int} {t : ByteArray} {x : Option Addr} {n : Nat} (s : Six w b j o k l h t x n) (e : ∀ i, w'.cell? ⟨b, i, none⟩ = w.cell? ⟨b, i, none⟩) : Six w' b j o k l h t x n := by
  obtain ⟨h0, h1, h2, h3, h4, h5⟩ := s
  exact ⟨(e _).trans h0, (e _).trans h1, (e _).trans h2, (e _).trans h3, (e _).trans h4, (e _).trans h5⟩

/-- Six fields are the filter f; all its blocks are of P. -/
def Lies (P : Nat → Prop) (w : World) : Ps.Ft → Int → Int → Int → Int → ByteArray → Option Addr → Nat → Prop
  | .leaf op key lo hi tag, o, k, l, h, t, x, n => o = op ∧ k = key ∧ l = lo ∧ h = hi ∧ t = tag ∧ x = none ∧ n = 0
  | .non f, o, k, l, h, t, x, n => o = 7 ∧ k = 0 ∧ l = 0 ∧ h = 0 ∧ t = ⟨#[]⟩ ∧
      ∃ b o1 k1 l1 h1 t1 x1 n1, x = some ⟨b, 0, none⟩ ∧ n = 1 ∧ P b ∧ Six w b 0 o1 k1 l1 h1 t1 x1 n1 ∧ Lies P w f o1 k1 l1 h1 t1 x1 n1
  | .two op f g, o, k, l, h, t, x, n => o = op ∧ k = 0 ∧ l = 0 ∧ h = 0 ∧ t = ⟨#[]⟩ ∧
      ∃ b o1 k1 l1 h1 t1 x1 n1 o2 k2 l2 h2 t2 x2 n2, x = some ⟨b, 0, none⟩ ∧ n = 2 ∧ P b ∧
        Six w b 0 o1 k1 l1 h1 t1 x1 n1 ∧ Lies P w f o1 k1 l1 h1 t1 x1 n1 ∧ Six w b 6 o2 k2 l2 h2 t2 x2 n2 ∧ Lies P w g o2 k2 l2 h2 t2 x2 n2

theorem Lies.kept {P : Nat → Prop} {w w' : World} (hk : Kept P w w') (f : Ps.Ft) : ∀ {o k l h : Int} {t : ByteArray} {x : Option Addr} {n : Nat}, Lies P w f o k l h t x n → Lies P w' f o k l h t x n := by
  induction f with
  | leaf op key lo hi tag => intro o k l h t x n y; exact y
  | non f ih =>
    rintro o k l h t x n ⟨e1, e2, e3, e4, e5, b, o1, k1, l1, h1, t1, x1, n1, e6, e7, hp, s, y⟩
    exact ⟨e1, e2, e3, e4, e5, b, o1, k1, l1, h1, t1, x1, n1, e6, e7, hp, s.of (fun i => hk.cell s.lt hp), ih y⟩
  | two op f g ihf ihg =>
    rintro o k l h t x n ⟨e1, e2, e3, e4, e5, b, o1, k1, l1, h1, t1, x1, n1, o2, k2, l2, h2, t2, x2, n2, e6, e7, hp, s, y, s', z⟩
    exact ⟨e1, e2, e3, e4, e5, b, o1, k1, l1, h1, t1, x1, n1, o2, k2, l2, h2, t2, x2, n2, e6, e7, hp, s.of (fun i => hk.cell s.lt hp), ihf y, s'.of (fun i => hk.cell s.lt hp), ihg z⟩

theorem Lies.mono {P P' : Nat → Prop} {w : World} (hp' : ∀ b, b < w.heap.size → P b → P' b) (f : Ps.Ft) : ∀ {o k l h : Int} {t : ByteArray} {x : Option Addr} {n : Nat}, Lies P w f o k l h t x n → Lies P' w f o k l h t x n := by
  induction f with
  | leaf op key lo hi tag => intro o k l h t x n y; exact y
  | non f ih =>
    rintro o k l h t x n ⟨e1, e2, e3, e4, e5, b, o1, k1, l1, h1, t1, x1, n1, e6, e7, hp, s, y⟩
    exact ⟨e1, e2, e3, e4, e5, b, o1, k1, l1, h1, t1, x1, n1, e6, e7, hp' b s.lt hp, s, ih y⟩
  | two op f g ihf ihg =>
    rintro o k l h t x n ⟨e1, e2, e3, e4, e5, b, o1, k1, l1, h1, t1, x1, n1, o2, k2, l2, h2, t2, x2, n2, e6, e7, hp, s, y, s', z⟩
    exact ⟨e1, e2, e3, e4, e5, b, o1, k1, l1, h1, t1, x1, n1, o2, k2, l2, h2, t2, x2, n2, e6, e7, hp' b s.lt hp, s, ihf y, s', ihg z⟩

theorem Lies.below {w w' : World} {f : Ps.Ft} {o k l h : Int} {t : ByteArray} {x : Option Addr} {n : Nat} (y : Lies Any w f o k l h t x n) (hb : Below w.heap.size w w') : Lies Any w' f o k l h t x n := Lies.kept (Kept.of_below hb) f y


/-- All blocks from m on. -/
def Past (m : Nat) : Nat → Prop := fun b => m ≤ b

/-- An error that a word does not fit, in some part of some part. -/
def Mis : Nat → Value → Prop
  | 0, v => ∃ x : Int, v = .iface 69 (.agg #[.int .i64 x])
  | n + 1, v => ∃ p v', v = .iface 124 (.agg #[.string p, v']) ∧ Mis n v'

/-- An error that a filter may not be. -/
def Fau : Nat → Value → Prop
  | 0, v => ∃ x : ByteArray, v = .iface 129 (.agg #[.string x])
  | n + 1, v => ∃ p v', v = .iface 124 (.agg #[.string p, v']) ∧ Fau n v'

theorem Mis.iface {n : Nat} {v : Value} (h : Mis n v) : ∃ T x, v = .iface T x := by
  cases n with
  | zero => obtain ⟨x, rfl⟩ := h; exact ⟨_, _, rfl⟩
  | succ n => obtain ⟨p, v', rfl, _⟩ := h; exact ⟨_, _, rfl⟩

theorem Fau.iface {n : Nat} {v : Value} (h : Fau n v) : ∃ T x, v = .iface T x := by
  cases n with
  | zero => obtain ⟨x, rfl⟩ := h; exact ⟨_, _, rfl⟩
  | succ n => obtain ⟨p, v', rfl, _⟩ := h; exact ⟨_, _, rfl⟩

end Go.Proofs.YtdeojcodbojmoaaGreatDoor
