/- pars.reader: the words of a text that are still to be read. -/
import Derived.Test.YtdeojcodbojmoaaGreatDoorAll
import Derived.Test.YtdeojcodbojmoaaGreatDoorSms
namespace Go.Proofs.YtdeojcodbojmoaaGreatDoor
open Go.RowKit
set_option maxRecDepth 100000
set_option linter.unusedVariables false

/-- Block rb is a reader that has read i of the words ws; the text ends at e. -/
def Rdr (w : World) (rb : Nat) (ws : List Wd.Word) (i : Nat) (e : Int) : Prop :=
  w.frozen? ⟨rb, 0, none⟩ = false ∧ i ≤ ws.length ∧ ws.length ≤ 60 ∧ ∃ (ao : Option Addr) (cap wb : Nat), w.cell? ⟨rb, 0, none⟩ = some (.slice ao (ws.length - i) cap) ∧ ws.length - i ≤ cap ∧ cap ≤ maxLen ∧ w.cell? ⟨rb, 1, none⟩ = some (.int .i64 e) ∧
    (i < ws.length → ao = some ⟨wb, i * 4, none⟩ ∧ wb < rb ∧ ∀ j u, (cellsOf ws)[j]? = some u → w.cell? ⟨wb, j, none⟩ = some u)

theorem Rdr.lt {w : World} {rb : Nat} {ws : List Wd.Word} {i : Nat} {e : Int} (h : Rdr w rb ws i e) : rb < w.heap.size := by
  obtain ⟨_, _, _, ao, cap, wb, q, _⟩ := h
  exact World.block_lt_of_cell? w ⟨rb, 0, none⟩ q

theorem Rdr.below {w w' : World} {rb : Nat} {ws : List Wd.Word} {i : Nat} {e : Int} (h : Rdr w rb ws i e) (hb : Below (rb + 1) w w') : Rdr w' rb ws i e := by
  obtain ⟨h1, h2, h3, ao, cap, wb, q0, q1, q2, q3, q4⟩ := h
  refine ⟨(hb.frozen (by simp)).trans h1, h2, h3, ao, cap, wb, (hb.cell (by simp)).trans q0, q1, q2, (hb.cell (by simp)).trans q3, fun hi => ?_⟩
  obtain ⟨a, b, c⟩ := q4 hi
  exact ⟨a, b, fun j u hu => (hb.cell (by show wb < rb + 1; omega)).trans (c j u hu)⟩

/-- The next word, or the text's end. -/
def nextW (ws : List Wd.Word) (i : Nat) (e : Int) : List Value := match ws[i]? with
  | some x => wordCells x
  | none => [.int .i64 0, .string ⟨#[]⟩, .int .i64 0, .int .i64 e]

set_option maxHeartbeats 1000000 in
theorem next_end (rb : Nat) (w : World) (e : Int) (ao : Option Addr) (cap : Nat) (q0 : w.cell? ⟨rb, 0, none⟩ = some (.slice ao 0 cap)) (q1 : w.cell? ⟨rb, 1, none⟩ = some (.int .i64 e)) :
    Calls Tryz.prog 69 #[.pointer (some ⟨rb, 0, none⟩)] w fun r w' => r = .returned (.agg #[.int .i64 0, .string ⟨#[]⟩, .int .i64 0, .int .i64 e]) ∧ Below w.heap.size w w' := by
  have hlt : rb < w.heap.size := World.block_lt_of_cell? w ⟨rb, 0, none⟩ q0
  go_enter Tryz.func69, Tryz.ntmps69
  go_wp2
  refine bodyPost_ret (v := .agg #[.int .i64 0, .string ⟨#[]⟩, .int .i64 0, .int .i64 e]) (by simp [results, Tryz.results69, go_sem]) rfl ⟨rfl, ?_⟩
  exact (Below.refl _ _).alloc (Nat.le_refl _) _

set_option maxHeartbeats 1000000 in
theorem next_word (rb wb off : Nat) (w : World) (k n p : Int) (t : ByteArray) (len cap : Nat) (hl : 0 < len) (hl2 : len ≤ 60) (q0 : w.cell? ⟨rb, 0, none⟩ = some (.slice (some ⟨wb, off, none⟩) len cap)) (u0 : w.cell? ⟨wb, off, none⟩ = some (.int .i64 k)) (u1 : w.cell? ⟨wb, off + 1, none⟩ = some (.string t)) (u2 : w.cell? ⟨wb, off + 2, none⟩ = some (.int .i64 n)) (u3 : w.cell? ⟨wb, off + 3, none⟩ = some (.int .i64 p)) :
    Calls Tryz.prog 69 #[.pointer (some ⟨rb, 0, none⟩)] w fun r w' => r = .returned (.agg #[.int .i64 k, .string t, .int .i64 n, .int .i64 p]) ∧ Below w.heap.size w w' := by
  have hlt : rb < w.heap.size := World.block_lt_of_cell? w ⟨rb, 0, none⟩ q0
  have hlt2 : wb < w.heap.size := World.block_lt_of_cell? w ⟨wb, off, none⟩ u0
  go_enter Tryz.func69, Tryz.ntmps69
  go_wp2
  refine bodyPost_ret (v := .agg #[.int .i64 k, .string t, .int .i64 n, .int .i64 p]) (by simp [results, Tryz.results69, go_sem]) rfl ⟨rfl, ?_⟩
  exact (Below.refl _ _).alloc (Nat.le_refl _) _

/-- Is the next word this mark? -/
def isM (ws : List Wd.Word) (i : Nat) (c : UInt8) : Bool := match ws[i]? with
  | some x => x.kind == 3 && x.text == [c]
  | none => false

theorem text_eq (t : List UInt8) (s : ByteArray) (c : UInt8) (hs : s.data.toList = [c]) : ((⟨t.toArray⟩ : ByteArray).toList == s.toList) = (t == [c]) := by
  rw [ByteArray.toList_eq, ByteArray.toList_eq, hs]

/-- The cells of a word. -/
theorem word_at {w : World} {wb : Nat} {ws : List Wd.Word} (hc : ∀ j u, (cellsOf ws)[j]? = some u → w.cell? ⟨wb, j, none⟩ = some u) (i : Nat) (hi : i < ws.length) :
    w.cell? ⟨wb, i * 4, none⟩ = some (.int .i64 (ws[i]).kind) ∧ w.cell? ⟨wb, i * 4 + 1, none⟩ = some (.string ⟨(ws[i]).text.toArray⟩) ∧ w.cell? ⟨wb, i * 4 + 2, none⟩ = some (.int .i64 (ws[i]).num) ∧ w.cell? ⟨wb, i * 4 + 3, none⟩ = some (.int .i64 (ws[i]).place) := by
  have hx := List.getElem?_eq_getElem hi
  have h : ∀ q (hq : q < 4) u, (wordCells (ws[i]))[q]? = some u → w.cell? ⟨wb, i * 4 + q, none⟩ = some u := fun q hq u hu => hc _ u (by rw [cellsOf_get ws i q _ hx hq]; exact hu)
  exact ⟨h 0 (by omega) _ rfl, h 1 (by omega) _ rfl, h 2 (by omega) _ rfl, h 3 (by omega) _ rfl⟩

set_option maxHeartbeats 1000000 in
/-- Not that mark. -/
theorem has_no (rb : Nat) (w : World) (s t : ByteArray) (k n p : Int) (hk : (k != 3) = true ∨ (k != 3) = false ∧ (t.toList == s.toList) = false) (c : Calls Tryz.prog 69 #[.pointer (some ⟨rb, 0, none⟩)] w fun r w' => r = .returned (.agg #[.int .i64 k, .string t, .int .i64 n, .int .i64 p]) ∧ Below w.heap.size w w') :
    Calls Tryz.prog 82 #[.pointer (some ⟨rb, 0, none⟩), .string s] w fun r w' => r = .returned (.bool false) ∧ Below w.heap.size w w' := by
  rcases hk with hk | ⟨hk, hk2⟩
  · go_enter Tryz.func82, Tryz.ntmps82
    go_wp2_with fail
    refine c.mono ?_
    rintro r w1 ⟨rfl, hb1⟩
    clear c
    go_wp2
    go_ret
    exact ⟨rfl, hb1.alloc hb1.size _⟩
  · have hk3 : (t.toList != s.toList) = true := by simp [bne, hk2]
    go_enter Tryz.func82, Tryz.ntmps82
    go_wp2_with fail
    refine c.mono ?_
    rintro r w1 ⟨rfl, hb1⟩
    clear c
    go_wp2
    go_ret
    exact ⟨rfl, hb1.alloc hb1.size _⟩

/-- One word is read. -/
def HasY (rb wb off len cap : Nat) (w w' : World) : Prop := ∃ W ao o, Below w.heap.size w W ∧ w' = (W.setCell ⟨rb, 0, none⟩ (.slice ao (len - 1) (cap - 1))).alloc o ∧ (1 < cap → ao = some ⟨wb, off + 4, none⟩)

set_option maxHeartbeats 1000000 in
/-- That mark. -/
theorem has_yes (rb : Nat) (w : World) (s t : ByteArray) (n p : Int) (wb off len cap : Nat) (hl : 0 < len) (hl2 : len ≤ 60) (hlc : len ≤ cap) (hcm : cap ≤ maxLen) (hf : w.frozen? ⟨rb, 0, none⟩ = false) (q0 : w.cell? ⟨rb, 0, none⟩ = some (.slice (some ⟨wb, off, none⟩) len cap)) (hk2 : (t.toList == s.toList) = true) (c : Calls Tryz.prog 69 #[.pointer (some ⟨rb, 0, none⟩)] w fun r w' => r = .returned (.agg #[.int .i64 3, .string t, .int .i64 n, .int .i64 p]) ∧ Below w.heap.size w w') :
    Calls Tryz.prog 82 #[.pointer (some ⟨rb, 0, none⟩), .string s] w fun r w' => r = .returned (.bool true) ∧ HasY rb wb off len cap w w' := by
  unfold maxLen at hcm
  have hk3 : (t.toList != s.toList) = false := by simp [bne, hk2]
  have hlt : rb < w.heap.size := World.block_lt_of_cell? w ⟨rb, 0, none⟩ q0
  go_enter Tryz.func82, Tryz.ntmps82
  go_wp2_with fail
  refine c.mono ?_
  rintro r w1 ⟨rfl, hb1⟩
  clear c
  have q1 : w1.cell? ⟨rb, 0, none⟩ = some (.slice (some ⟨wb, off, none⟩) len cap) := (hb1.cell (p := ⟨rb, 0, none⟩) hlt).trans q0
  have f1 : w1.frozen? ⟨rb, 0, none⟩ = false := (hb1.frozen (p := ⟨rb, 0, none⟩) hlt).trans hf
  have hlt1 : rb < w1.heap.size := World.block_lt_of_cell? w1 ⟨rb, 0, none⟩ q1
  have hne : rb ≠ w1.heap.size := by omega
  have hne' : w1.heap.size ≠ rb := by omega
  have HB : Hid (Below w.heap.size w w1) := hb1
  clear hb1
  go_wp2
  all_goals (
    go_ret
    refine ⟨rfl, w1, _, _, HB.out, rfl, fun h => ?_⟩
    first | rfl | omega)

/-- Is the next word this mark? Then it is read. -/
theorem has82 (rb : Nat) (ws : List Wd.Word) (i : Nat) (e : Int) (c : UInt8) (s : ByteArray) (hs : s.data.toList = [c]) (w : World) (h : Rdr w rb ws i e) :
    Calls Tryz.prog 82 #[.pointer (some ⟨rb, 0, none⟩), .string s] w fun r w' => r = .returned (.bool (isM ws i c)) ∧ Rdr w' rb ws (if isM ws i c then i + 1 else i) e ∧ Kept (But rb) w w' := by
  have hlt := h.lt
  have h' := h
  obtain ⟨h1, h2, h3, ao, cap, wb, q0, q1, q2, q3, q4⟩ := h
  have stay : ∀ w', Below w.heap.size w w' → Rdr w' rb ws i e ∧ Kept (But rb) w w' := fun w' hb => ⟨h'.below (hb.mono hlt), Kept.of_below hb⟩
  by_cases hi : i < ws.length
  · obtain ⟨rfl, hwb, hc⟩ := q4 hi
    obtain ⟨u0, u1, u2, u3⟩ := word_at hc i hi
    have hn := next_word rb wb (i * 4) w _ _ _ _ _ cap (by omega) (by omega) q0 u0 u1 u2 u3
    have hm : isM ws i c = ((ws[i]).kind == 3 && (ws[i]).text == [c]) := by unfold isM; rw [List.getElem?_eq_getElem hi]
    by_cases hk : (ws[i]).kind = 3
    · by_cases ht : ((ws[i]).text == [c]) = true
      · rw [hm, hk, ht]
        rw [hk] at hn
        refine (has_yes rb w s _ _ _ wb (i * 4) _ cap (by omega) (by omega) q1 q2 h1 q0 (by rw [text_eq _ _ _ hs]; exact ht) hn).mono ?_
        rintro r w' ⟨rfl, W, ao', ob, hW, rfl, hao⟩
        refine ⟨rfl, Rdr.below ?_ ((Below.refl _ _).alloc (by have := hW.size; simp; omega) _), (Kept.setCell (P := But rb) (p := ⟨rb, 0, none⟩) (Kept.of_below hW) (fun k _ hk => hk) _).alloc _⟩
        have hWc : ∀ b o, b < w.heap.size → b ≠ rb → (W.setCell ⟨rb, 0, none⟩ (.slice ao' (ws.length - i - 1) (cap - 1))).cell? ⟨b, o, none⟩ = w.cell? ⟨b, o, none⟩ := fun b o hb hne => by
          rw [World.cell?_setCell_other _ _ _ _ (fun e => hne (congrArg Addr.block e).symm)]; exact hW.cell (p := ⟨b, o, none⟩) hb
        have hlw : wb < w.heap.size := by omega
        show Rdr _ rb ws (i + 1) e
        refine ⟨?_, by omega, h3, ao', cap - 1, wb, ?_, by omega, by unfold maxLen at q2 ⊢; omega, ?_, fun hi2 => ⟨?_, hwb, fun j u hu => ?_⟩⟩
        · have := (hW.frozen (p := ⟨rb, 0, none⟩) hlt).trans h1
          simpa using this
        · have e1 : ws.length - (i + 1) = ws.length - i - 1 := by omega
          rw [e1]
          exact (World.cell?_setCell_same W ⟨rb, 0, none⟩ _ (u := .slice (some ⟨wb, i * 4, none⟩) (ws.length - i) cap) ((hW.cell (p := ⟨rb, 0, none⟩) hlt).trans q0)).trans rfl
        · rw [World.cell?_setCell_other _ _ _ _ (by simp)]
          exact (hW.cell (p := ⟨rb, 1, none⟩) hlt).trans q3
        · rw [hao (by omega)]
          have e2 : i * 4 + 4 = (i + 1) * 4 := by omega
          rw [e2]
        · rw [hWc wb j hlw (by omega)]; exact hc j u hu
      · have ht' : ((ws[i]).text == [c]) = false := by simpa using ht
        rw [hm, hk, ht']
        rw [hk] at hn
        refine (has_no rb w s _ 3 _ _ (.inr ⟨by decide, by rw [text_eq _ _ _ hs]; exact ht'⟩) hn).mono ?_
        rintro r w' ⟨rfl, hb⟩
        exact ⟨rfl, stay w' hb⟩
    · have hk' : ((ws[i]).kind == 3) = false := by simpa using hk
      rw [hm, hk']
      refine (has_no rb w s _ _ _ _ (.inl (by simp [bne, hk'])) hn).mono ?_
      rintro r w' ⟨rfl, hb⟩
      exact ⟨rfl, stay w' hb⟩
  · have hm : isM ws i c = false := by unfold isM; rw [List.getElem?_eq_none (by omega)]
    have e0 : ws.length - i = 0 := by omega
    rw [e0] at q0
    rw [hm]
    refine (has_no rb w s ⟨#[]⟩ 0 0 e (.inl (by decide)) (next_end rb w e ao cap q0 q3)).mono ?_
    rintro r w' ⟨rfl, hb⟩
    exact ⟨rfl, stay w' hb⟩

end Go.Proofs.YtdeojcodbojmoaaGreatDoor
