/- The document's reader of words, where what binds most does not fit. -/
/- The document's reader of words, where what binds most does not fit. -/
/- The document's reader of words: rows, whether they fit or not. -/
/- The document's reader of words: rows of |. -/
/- The document's reader of words, whole. -/
/- cardamomref4.Parse of any text: whether it is a filter's. -/
/- cardamomref4.Parse of any text: whether it is a filter's. -/
/- cardamomref4.Parse of any text: whether it is a filter's. -/
/- cardamomref4.Parse of any text: whether it is a filter's. -/
/- cardamomref4.Parse of any text: whether it is a filter's. -/
/- cardamomref4.Parse of any text: whether it is a filter's. -/
/- cardamomref11.MayView of any view. -/
import Derived.Test.YtdeojcodbojmoaaGreatDoorJau
import Derived.Test.YtdeojcodbojmoaaGreatDoorJav
import Derived.Test.YtdeojcodbojmoaaGreatDoorJao
import Derived.Test.YtdeojcodbojmoaaGreatDoorJae
namespace Go.Proofs.YtdeojcodbojmoaaGreatDoor
namespace Rf
open Go.RowKit
set_option maxRecDepth 100000
set_option linter.unusedVariables false

set_option maxHeartbeats 4000000 in
theorem not_open_nob (rb : Nat) (ws : List Wd.Word) (p : Nat) (w : World) (h : Rd w rb ws p) (e33 : Ps.isMark ws p 33 = false) (e40 : Ps.isMark ws p 40 = true) (f : Ps.Ft) (q : Nat) (c : ∀ w, Rd w rb ws (p + 1) → Calls Tryz.prog 43 #[.pointer (some ⟨rb, 0, none⟩)] w (FR rb ws f q w)) (e41 : Ps.isMark ws q 41 = false) : Calls Tryz.prog 76 #[.pointer (some ⟨rb, 0, none⟩)] w (FB rb w) := by
  have hlt := h.lt
  have hl60 := h.1
  have hR0 : Rd (w.alloc (.cells #[.int .i64 0, .int .i64 0, .int .i64 0, .int .i64 0, .string ⟨#[]⟩, .slice none 0 0] 53)) rb ws p := h.below ((Below.refl _ w).alloc hlt _)
  have hA0 : At w rb (w.alloc (.cells #[.int .i64 0, .int .i64 0, .int .i64 0, .int .i64 0, .string ⟨#[]⟩, .slice none 0 0] 53)) := At.start w rb
  have c33 : ∀ w, Rd w rb ws p → Calls Tryz.prog 64 #[.pointer (some ⟨rb, 0, none⟩), .string ⟨#[33]⟩] w fun e w' => e = .returned (.bool false) ∧ WentR rb ws (p) w w' := fun w h => by have c := mark31 rb ws p 33 ⟨#[33]⟩ rfl w h; rw [e33] at c; exact c
  have c40 : ∀ w, Rd w rb ws p → Calls Tryz.prog 64 #[.pointer (some ⟨rb, 0, none⟩), .string ⟨#[40]⟩] w fun e w' => e = .returned (.bool true) ∧ WentR rb ws (p + 1) w w' := fun w h => by have c := mark31 rb ws p 40 ⟨#[40]⟩ rfl w h; rw [e40] at c; exact c
  clear e33 e40
  go_enter Tryz.func76, Tryz.ntmps76
  have HA : Hid (At w rb (w.alloc (.cells #[.int .i64 0, .int .i64 0, .int .i64 0, .int .i64 0, .string ⟨#[]⟩, .slice none 0 0] 53))) := hA0
  have HR : Hid (Rd (w.alloc (.cells #[.int .i64 0, .int .i64 0, .int .i64 0, .int .i64 0, .string ⟨#[]⟩, .slice none 0 0] 53)) rb ws p) := hR0
  clear hA0 hR0
  go_wp2_with fail
  refine (c33 _ HR.out).mono ?_
  rintro e w33 ⟨rfl, hw33⟩
  have hA33 : At w rb w33 := HA.out.step hlt hw33.2
  have hR33 := hw33.1
  clear hw33 c33 HA HR
  have HA : Hid (At w rb w33) := hA33
  have HR : Hid (Rd w33 rb ws p) := hR33
  clear hA33 hR33
  go_wp2_with fail
  refine (c40 _ HR.out).mono ?_
  rintro e w40 ⟨rfl, hw40⟩
  have hA40 : At w rb w40 := HA.out.step hlt hw40.2
  have hR40 := hw40.1
  clear hw40 c40 HA HR
  replace c := c w40 hR40
  unfold FR at c
  have HA1 : Hid (At w rb w40) := hA40
  have cm : ∀ w, Rd w rb ws q → Calls Tryz.prog 64 #[.pointer (some ⟨rb, 0, none⟩), .string ⟨#[41]⟩] w fun e w' => e = .returned (.bool false) ∧ WentR rb ws q w w' := fun w h => by have c := mark31 rb ws q 41 ⟨#[41]⟩ rfl w h; rw [e41] at c; exact c
  clear hA40 hR40 e41
  go_wp2_with fail
  refine c.mono ?_
  rintro r w1 ⟨o1, k1, l1, h1, t1, x1, n1, rfl, _, hw1⟩
  clear c
  obtain ⟨U, hU⟩ : ∃ U, U = w1.alloc (.cells #[.int .i64 o1, .int .i64 k1, .int .i64 l1, .int .i64 h1, .string t1, .slice x1 n1 n1] 53) := ⟨_, rfl⟩
  have HU : Hid (U = w1.alloc (.cells #[.int .i64 o1, .int .i64 k1, .int .i64 l1, .int .i64 h1, .string t1, .slice x1 n1 n1] 53)) := hU
  have hAU : At w rb U := by rw [hU]; exact (HA1.out.step hlt hw1.2).alloc _
  have y : ∀ i, U.cell? ⟨w1.heap.size, i, none⟩ = (#[.int .i64 o1, .int .i64 k1, .int .i64 l1, .int .i64 h1, .string t1, .slice x1 n1 n1] : Array Value)[i]? := fun i => by rw [hU]; simp
  have sU : w1.heap.size < U.heap.size := by rw [hU]; simp
  have s0 : w.heap.size < w1.heap.size := Nat.lt_of_lt_of_le HA1.out.s hw1.2.size
  have hRU : Rd U rb ws q := by rw [hU]; exact hw1.1.below ((Below.refl _ w1).alloc hw1.1.lt _)
  have c2 := cm U hRU
  have HAU : Hid (At w rb U) := hAU
  clear hw1 HA1 hU hAU hRU cm
  go_wp2_with fail
  rw [← HU.out]
  refine c2.mono ?_
  rintro r w2 ⟨rfl, hw2⟩
  clear c2 HU
  have hA2 : At w rb w2 := HAU.out.step hlt hw2.2
  have y2 : ∀ i, w2.cell? ⟨w1.heap.size, i, none⟩ = (#[.int .i64 o1, .int .i64 k1, .int .i64 l1, .int .i64 h1, .string t1, .slice x1 n1 n1] : Array Value)[i]? := fun i => (hw2.2.cell sU (by unfold Save; omega)).trans (y i)
  have s3 : w1.heap.size < w2.heap.size := Nat.lt_of_lt_of_le sU hw2.2.size
  have HA2 : Hid (At w rb w2) := hA2
  have HR : Hid (Rd w2 rb ws q) := hw2.1
  have c3 := fail44 rb ws q q w2 HR.out (by have := HR.out.2.1; omega)
  clear y hA2 hw2 HAU sU
  obtain ⟨_, hp1, _, ao9, cap9, en9, po9, b9, q0, q1, q2, q3, q4, g3, g4⟩ := HR.out
  clear g3 g4
  go_wp2_with fail
  refine c3.mono ?_
  rintro r w3 ⟨rfl, hw3⟩
  clear c3 q0 q1 q2 q3 q4 HR
  have HA : Hid (At w rb w3) := HA2.out.step hlt hw3.2
  have HR : Hid (Bd w3 rb) := hw3.1
  have y3 : ∀ i, w3.cell? ⟨w1.heap.size, i, none⟩ = (#[.int .i64 o1, .int .i64 k1, .int .i64 l1, .int .i64 h1, .string t1, .slice x1 n1 n1] : Array Value)[i]? := fun i => (hw3.2.cell s3 (by unfold Save; omega)).trans (y2 i)
  have s4 : w1.heap.size < w3.heap.size := Nat.lt_of_lt_of_le s3 hw3.2.size
  clear hw3 HA2 y2 s3
  have ne1 : w.heap.size ≠ w1.heap.size := by omega
  have ne2 : w1.heap.size ≠ w.heap.size := by omega
  have z1 := HA.out.z
  have f1 := HA.out.f
  have s1 := HA.out.s
  go_wp2
  refine bodyPost_ret (v := .agg #[.int .i64 o1, .int .i64 k1, .int .i64 l1, .int .i64 h1, .string t1, .slice x1 n1 n1]) (by simp [results, Tryz.results76, go_sem, z1]) rfl ⟨⟨_, _, _, _, _, _, _, rfl⟩, Bd.below HR.out (below_six hlt), kept_six HA.out.k⟩

end Rf
end Go.Proofs.YtdeojcodbojmoaaGreatDoor
namespace Go.Proofs.YtdeojcodbojmoaaGreatDoor
namespace Rf
open Go.RowKit
set_option maxRecDepth 100000
set_option linter.unusedVariables false

set_option maxHeartbeats 4000000 in
theorem not_name_no (rb : Nat) (ws : List Wd.Word) (p : Nat) (w : World) (h : Rd w rb ws p) (e33 : Ps.isMark ws p 33 = false) (e40 : Ps.isMark ws p 40 = false) (e42 : Ps.isMark ws p 42 = false) (e94 : Ps.isMark ws p 94 = true) (hn : Ps.name ws (p + 1) = none) : Calls Tryz.prog 76 #[.pointer (some ⟨rb, 0, none⟩)] w (FB rb w) := by
  have hlt := h.lt
  have hl60 := h.1
  have hR0 : Rd (w.alloc (.cells #[.int .i64 0, .int .i64 0, .int .i64 0, .int .i64 0, .string ⟨#[]⟩, .slice none 0 0] 53)) rb ws p := h.below ((Below.refl _ w).alloc hlt _)
  have hA0 : At w rb (w.alloc (.cells #[.int .i64 0, .int .i64 0, .int .i64 0, .int .i64 0, .string ⟨#[]⟩, .slice none 0 0] 53)) := At.start w rb
  have c33 : ∀ w, Rd w rb ws p → Calls Tryz.prog 64 #[.pointer (some ⟨rb, 0, none⟩), .string ⟨#[33]⟩] w fun e w' => e = .returned (.bool false) ∧ WentR rb ws (p) w w' := fun w h => by have c := mark31 rb ws p 33 ⟨#[33]⟩ rfl w h; rw [e33] at c; exact c
  have c40 : ∀ w, Rd w rb ws p → Calls Tryz.prog 64 #[.pointer (some ⟨rb, 0, none⟩), .string ⟨#[40]⟩] w fun e w' => e = .returned (.bool false) ∧ WentR rb ws (p) w w' := fun w h => by have c := mark31 rb ws p 40 ⟨#[40]⟩ rfl w h; rw [e40] at c; exact c
  have c42 : ∀ w, Rd w rb ws p → Calls Tryz.prog 64 #[.pointer (some ⟨rb, 0, none⟩), .string ⟨#[42]⟩] w fun e w' => e = .returned (.bool false) ∧ WentR rb ws (p) w w' := fun w h => by have c := mark31 rb ws p 42 ⟨#[42]⟩ rfl w h; rw [e42] at c; exact c
  have c94 : ∀ w, Rd w rb ws p → Calls Tryz.prog 64 #[.pointer (some ⟨rb, 0, none⟩), .string ⟨#[94]⟩] w fun e w' => e = .returned (.bool true) ∧ WentR rb ws (p + 1) w w' := fun w h => by have c := mark31 rb ws p 94 ⟨#[94]⟩ rfl w h; rw [e94] at c; exact c
  clear e33 e40 e42 e94
  go_enter Tryz.func76, Tryz.ntmps76
  have HA : Hid (At w rb (w.alloc (.cells #[.int .i64 0, .int .i64 0, .int .i64 0, .int .i64 0, .string ⟨#[]⟩, .slice none 0 0] 53))) := hA0
  have HR : Hid (Rd (w.alloc (.cells #[.int .i64 0, .int .i64 0, .int .i64 0, .int .i64 0, .string ⟨#[]⟩, .slice none 0 0] 53)) rb ws p) := hR0
  clear hA0 hR0
  go_wp2_with fail
  refine (c33 _ HR.out).mono ?_
  rintro e w33 ⟨rfl, hw33⟩
  have hA33 : At w rb w33 := HA.out.step hlt hw33.2
  have hR33 := hw33.1
  clear hw33 c33 HA HR
  have HA : Hid (At w rb w33) := hA33
  have HR : Hid (Rd w33 rb ws p) := hR33
  clear hA33 hR33
  go_wp2_with fail
  refine (c40 _ HR.out).mono ?_
  rintro e w40 ⟨rfl, hw40⟩
  have hA40 : At w rb w40 := HA.out.step hlt hw40.2
  have hR40 := hw40.1
  clear hw40 c40 HA HR
  have HA : Hid (At w rb w40) := hA40
  have HR : Hid (Rd w40 rb ws p) := hR40
  clear hA40 hR40
  go_wp2_with fail
  refine (c42 _ HR.out).mono ?_
  rintro e w42 ⟨rfl, hw42⟩
  have hA42 : At w rb w42 := HA.out.step hlt hw42.2
  have hR42 := hw42.1
  clear hw42 c42 HA HR
  have HA : Hid (At w rb w42) := hA42
  have HR : Hid (Rd w42 rb ws p) := hR42
  clear hA42 hR42
  go_wp2_with fail
  refine (c94 _ HR.out).mono ?_
  rintro e w94 ⟨rfl, hw94⟩
  have hA94 : At w rb w94 := HA.out.step hlt hw94.2
  have hR94 := hw94.1
  clear hw94 c94 HA HR
  have c : ∀ n, Calls Tryz.prog 44 #[.pointer (some ⟨rb, 0, none⟩), .int .i64 ((p + 1 : Nat) : Int)] (w94.drewN n) fun r w' => r = .returned (.tuple #[]) ∧ WentB rb (w94.drewN n) w' := fun n => fail44 rb ws (p + 1) (p + 1) (w94.drewN n) (hR94.below (drewN_below _ w94 n)) (by have := hR94.2.1; omega)
  have HA1 : Hid (At w rb w94) := hA94
  have HR : Hid (Rd w94 rb ws (p + 1)) := hR94
  clear hA94 hR94
  obtain ⟨_, hp1, _, ao9, cap9, en9, po9, b9, q0, q1, q2, q3, q4, g3, g4⟩ := HR.out
  obtain ⟨m, hm⟩ : ∃ m, m = p + 1 := ⟨_, rfl⟩
  rw [← hm] at c q1 hn hp1
  have hm0 : (0 : Int) ≤ (m : Int) := by omega
  have TAIL : Hid (∀ n w', WentB rb (w94.drewN n) w' → At w rb w' ∧ Bd w' rb) := fun n w' hw => ⟨HA1.out.step hlt (WentB.of_drew hw).2, hw.1⟩
  clear HR hm
  by_cases hml : m < ws.length
  · obtain ⟨rfl, hb⟩ := g3 (by omega)
    have hx : ws[m]? = some ws[m] := List.getElem?_eq_getElem hml
    obtain ⟨r0, r1, r2, r3⟩ := g4 m _ hx
    unfold Ps.name at hn
    rw [hx] at hn
    simp only at hn
    have hk : ¬ (ws[m]).kind = 1 := fun e => by rw [if_pos e] at hn; cases hn
    have hk1 : ((ws[m]).kind != 1) = true := by simpa [bne] using hk
    have hg : decide ((ws.length : Int) ≤ (m : Int)) = false := decide_eq_false (by omega)
    have hgN : decide (ws.length ≤ m) = false := decide_eq_false (by omega)
    have hp1' : (m : Int) < (ws.length : Int) := by omega
    generalize ws[m] = x at *
    generalize ws.length = len at *
    clear hn g3 g4 r1 r2 r3 hk HA1
    go_wp2_with fail
    go_quiet (fail)
    go_wp2_with fail
    refine (c _).mono ?_
    rintro r w1 ⟨rfl, hw1⟩
    obtain ⟨hA, hB⟩ := TAIL.out _ _ hw1
    have HA : Hid (At w rb w1) := hA
    have HR : Hid (Bd w1 rb) := hB
    clear c q0 q1 q2 q3 q4 r0 hw1 hA hB TAIL
    have z1 := HA.out.z
    have f1 := HA.out.f
    have s1 := HA.out.s
    go_wp2
    refine bodyPost_ret (v := .agg #[.int .i64 0, .int .i64 0, .int .i64 0, .int .i64 0, .string ⟨#[]⟩, .slice none 0 0]) (by simp [results, Tryz.results76, go_sem, z1]) rfl ⟨⟨_, _, _, _, _, _, _, rfl⟩, Bd.below HR.out (below_six hlt), kept_six HA.out.k⟩
  · have hg : decide ((ws.length : Int) ≤ (m : Int)) = true := decide_eq_true (by omega)
    have hgN : decide (ws.length ≤ m) = true := decide_eq_true (by omega)
    generalize ws.length = len at *
    clear hn g3 g4 HA1
    go_wp2_with fail
    go_quiet (fail)
    go_wp2_with fail
    refine (c _).mono ?_
    rintro r w1 ⟨rfl, hw1⟩
    obtain ⟨hA, hB⟩ := TAIL.out _ _ hw1
    have HA : Hid (At w rb w1) := hA
    have HR : Hid (Bd w1 rb) := hB
    clear c q0 q1 q2 q3 q4 hw1 hA hB TAIL
    have z1 := HA.out.z
    have f1 := HA.out.f
    have s1 := HA.out.s
    go_wp2
    refine bodyPost_ret (v := .agg #[.int .i64 0, .int .i64 0, .int .i64 0, .int .i64 0, .string ⟨#[]⟩, .slice none 0 0]) (by simp [results, Tryz.results76, go_sem, z1]) rfl ⟨⟨_, _, _, _, _, _, _, rfl⟩, Bd.below HR.out (below_six hlt), kept_six HA.out.k⟩

end Rf
end Go.Proofs.YtdeojcodbojmoaaGreatDoor
namespace Go.Proofs.YtdeojcodbojmoaaGreatDoor
namespace Rf
open Go.RowKit
set_option maxRecDepth 100000
set_option linter.unusedVariables false

/-- What reading tells, the filter itself aside. -/
def NR (rb : Nat) (ws : List Wd.Word) (o : Option (Ps.Ft × Nat)) (w : World) (r : Ending) (w' : World) : Prop := ∃ o1 k1 l1 h1 t1 x1 n1, r = .returned (.agg #[.int .i64 o1, .int .i64 k1, .int .i64 l1, .int .i64 h1, .string t1, .slice x1 n1 n1]) ∧ Kept (Save rb) w w' ∧ ((∃ g q, o = some (g, q) ∧ Rd w' rb ws q) ∨ (o = none ∧ Bd w' rb))

theorem NR.of_fr {rb : Nat} {ws : List Wd.Word} {f : Ps.Ft} {q : Nat} {w w' : World} {r : Ending} (h : FR rb ws f q w r w') : NR rb ws (some (f, q)) w r w' := by
  obtain ⟨o1, k1, l1, h1, t1, x1, n1, rfl, _, hw⟩ := h
  exact ⟨o1, k1, l1, h1, t1, x1, n1, rfl, hw.2, .inl ⟨f, q, rfl, hw.1⟩⟩
theorem NR.of_fb {rb : Nat} {ws : List Wd.Word} {w w' : World} {r : Ending} (h : FB rb w r w') : NR rb ws none w r w' := by
  obtain ⟨⟨o1, k1, l1, h1, t1, x1, n1, rfl⟩, hw⟩ := h
  exact ⟨o1, k1, l1, h1, t1, x1, n1, rfl, hw.2, .inr ⟨rfl, hw.1⟩⟩

/-- What stands at the head of the loop. -/
structure LI (w : World) (rb fb : Nat) (ws : List Wd.Word) (p : Nat) (M : Ps.Ft → Ps.Job) (R : Option (Ps.Ft × Nat)) (wr : World) : Prop where
  at_ : At w rb wr
  lo : w.heap.size < fb
  hi : fb < wr.heap.size
  fz : ∀ i, wr.frozen? ⟨fb, i, none⟩ = false
  six : ∃ o k l h t x n, Six wr fb 0 o k l h t x n
  is : (∃ f q, f.wf ∧ q ≤ ws.length ∧ p ≤ q ∧ Ps.P ws (M f) q = R ∧ Rd wr rb ws q) ∨ (R = none ∧ Bd wr rb)

def lim (rb : Nat) (ws : List Wd.Word) (wr : World) : Nat := match wr.cell? ⟨rb, 3, none⟩ with
  | some (.bool true) => 0
  | _ => ws.length - atOf rb wr + 1
theorem lim_rd {w : World} {rb p : Nat} {ws : List Wd.Word} (h : Rd w rb ws p) : lim rb ws w = ws.length - p + 1 := by
  have e := atOf_rd h
  obtain ⟨_, _, _, ao, cap, en, po, b, _, _, _, q3, _⟩ := h
  unfold lim
  rw [q3, e]
theorem lim_bd {w : World} {rb : Nat} {ws : List Wd.Word} (h : Bd w rb) : lim rb ws w = 0 := by
  obtain ⟨_, ao, len, cap, p, en, po, _, _, _, _, _, q3, _⟩ := h
  unfold lim
  rw [q3]

/-- Two parts laid into a new block, the row's filter stored. -/
theorem li_next {w w3 : World} {rb fb : Nat} (hlt : rb < w.heap.size) (hat : At w rb w3) (hlo : w.heap.size < fb) (hhi : fb < w3.heap.size) (hfz : ∀ i, w3.frozen? ⟨fb, i, none⟩ = false) {o1 k1 l1 h1 : Int} {t1 : ByteArray} {x1 : Option Addr} {n1 : Nat} (six : Six w3 fb 0 o1 k1 l1 h1 t1 x1 n1) (op : Int) (C : Obj) (s : Option Addr) :
    At w rb (((((((w3.setCell ⟨fb, 0, none⟩ (.int .i64 op)).setCell ⟨fb, 1, none⟩ (.int .i64 0)).setCell ⟨fb, 2, none⟩ (.int .i64 0)).setCell ⟨fb, 3, none⟩ (.int .i64 0)).setCell ⟨fb, 4, none⟩ (.string ⟨#[]⟩)).setCell ⟨fb, 5, none⟩ (.slice s 2 2)).alloc C) ∧
    Six (((((((w3.setCell ⟨fb, 0, none⟩ (.int .i64 op)).setCell ⟨fb, 1, none⟩ (.int .i64 0)).setCell ⟨fb, 2, none⟩ (.int .i64 0)).setCell ⟨fb, 3, none⟩ (.int .i64 0)).setCell ⟨fb, 4, none⟩ (.string ⟨#[]⟩)).setCell ⟨fb, 5, none⟩ (.slice s 2 2)).alloc C) fb 0 op 0 0 0 ⟨#[]⟩ s 2 ∧
    (∀ i, (((((((w3.setCell ⟨fb, 0, none⟩ (.int .i64 op)).setCell ⟨fb, 1, none⟩ (.int .i64 0)).setCell ⟨fb, 2, none⟩ (.int .i64 0)).setCell ⟨fb, 3, none⟩ (.int .i64 0)).setCell ⟨fb, 4, none⟩ (.string ⟨#[]⟩)).setCell ⟨fb, 5, none⟩ (.slice s 2 2)).alloc C).frozen? ⟨fb, i, none⟩ = false) ∧
    fb < (((((((w3.setCell ⟨fb, 0, none⟩ (.int .i64 op)).setCell ⟨fb, 1, none⟩ (.int .i64 0)).setCell ⟨fb, 2, none⟩ (.int .i64 0)).setCell ⟨fb, 3, none⟩ (.int .i64 0)).setCell ⟨fb, 4, none⟩ (.string ⟨#[]⟩)).setCell ⟨fb, 5, none⟩ (.slice s 2 2)).alloc C).heap.size ∧
    Below (rb + 1) w3 (((((((w3.setCell ⟨fb, 0, none⟩ (.int .i64 op)).setCell ⟨fb, 1, none⟩ (.int .i64 0)).setCell ⟨fb, 2, none⟩ (.int .i64 0)).setCell ⟨fb, 3, none⟩ (.int .i64 0)).setCell ⟨fb, 4, none⟩ (.string ⟨#[]⟩)).setCell ⟨fb, 5, none⟩ (.slice s 2 2)).alloc C) := by
  obtain ⟨y0, y1, y2, y3, y4, y5⟩ := six
  simp only [Nat.zero_add] at y0 y1 y2 y3 y4 y5
  have six' := six_of_set w3 fb op 0 0 0 ⟨#[]⟩ s 2 y0 y1 y2 y3 y4 y5
  have kk : Kept (fun b => b ≠ fb) w3 ((((((w3.setCell ⟨fb, 0, none⟩ (.int .i64 op)).setCell ⟨fb, 1, none⟩ (.int .i64 0)).setCell ⟨fb, 2, none⟩ (.int .i64 0)).setCell ⟨fb, 3, none⟩ (.int .i64 0)).setCell ⟨fb, 4, none⟩ (.string ⟨#[]⟩)).setCell ⟨fb, 5, none⟩ (.slice s 2 2)) := kept_six_at (fun h => h rfl)
  have fz' : ∀ i, ((((((w3.setCell ⟨fb, 0, none⟩ (.int .i64 op)).setCell ⟨fb, 1, none⟩ (.int .i64 0)).setCell ⟨fb, 2, none⟩ (.int .i64 0)).setCell ⟨fb, 3, none⟩ (.int .i64 0)).setCell ⟨fb, 4, none⟩ (.string ⟨#[]⟩)).setCell ⟨fb, 5, none⟩ (.slice s 2 2)).frozen? ⟨fb, i, none⟩ = false := fun i => by rw [frozen_six]; exact hfz i
  have sz : ((((((w3.setCell ⟨fb, 0, none⟩ (.int .i64 op)).setCell ⟨fb, 1, none⟩ (.int .i64 0)).setCell ⟨fb, 2, none⟩ (.int .i64 0)).setCell ⟨fb, 3, none⟩ (.int .i64 0)).setCell ⟨fb, 4, none⟩ (.string ⟨#[]⟩)).setCell ⟨fb, 5, none⟩ (.slice s 2 2)).heap.size = w3.heap.size := by simp
  generalize ((((((w3.setCell ⟨fb, 0, none⟩ (.int .i64 op)).setCell ⟨fb, 1, none⟩ (.int .i64 0)).setCell ⟨fb, 2, none⟩ (.int .i64 0)).setCell ⟨fb, 3, none⟩ (.int .i64 0)).setCell ⟨fb, 4, none⟩ (.string ⟨#[]⟩)).setCell ⟨fb, 5, none⟩ (.slice s 2 2)) = X at *
  have hs : fb < X.heap.size := by omega
  have ka : Kept (fun b => b ≠ fb) w3 (X.alloc C) := kk.alloc _
  refine ⟨hat.step' (P := fun b => b ≠ fb) (by show _ ≠ _; omega) (fun b hb _ => by show _ ≠ _; omega) ka, six'.of (fun i => World.cell?_alloc_past _ _ _ (hn := hs)), fun i => (World.frozen?_alloc_past _ _ _ (hn := hs)).trans (fz' i), by simp; omega, ka.below (by have := hat.k.size; omega) (fun b hb => by show _ ≠ _; omega)⟩

set_option maxHeartbeats 8000000 in
theorem and_nr (rb : Nat) (ws : List Wd.Word) (p : Nat) (w : World) (hg : Ps.Goods ws) (h : Rd w rb ws p) (hp : p ≤ ws.length)
    (cp : ∀ q, p ≤ q → q ≤ ws.length → ∀ w, Rd w rb ws q → Calls Tryz.prog 76 #[.pointer (some ⟨rb, 0, none⟩)] w (NR rb ws (Ps.P ws .not q) w)) (R : Option (Ps.Ft × Nat)) (hRn : Ps.P ws .not p = none → R = none) (hRs : ∀ f q, Ps.P ws .not p = some (f, q) → Ps.P ws (.andM f) q = R) :
    Calls Tryz.prog 63 #[.pointer (some ⟨rb, 0, none⟩)] w (NR rb ws R w) := by
  have hlt := h.lt
  have c0 := cp p (Nat.le_refl _) hp (w.alloc (.cells #[.int .i64 0, .int .i64 0, .int .i64 0, .int .i64 0, .string ⟨#[]⟩, .slice none 0 0] 53)) (h.below ((Below.refl _ w).alloc hlt _))
  have start : ∀ (w1 : World) (r : Ending), NR rb ws (Ps.P ws .not p) (w.alloc (.cells #[.int .i64 0, .int .i64 0, .int .i64 0, .int .i64 0, .string ⟨#[]⟩, .slice none 0 0] 53)) r w1 → ∃ o1 k1 l1 h1 t1 x1 n1, r = .returned (.agg #[.int .i64 o1, .int .i64 k1, .int .i64 l1, .int .i64 h1, .string t1, .slice x1 n1 n1]) ∧ LI w rb w1.heap.size ws p .andM R (w1.alloc (.cells #[.int .i64 o1, .int .i64 k1, .int .i64 l1, .int .i64 h1, .string t1, .slice x1 n1 n1] 53)) := by
    rintro w1 r ⟨o1, k1, l1, h1, t1, x1, n1, rfl, hk, hc⟩
    have hat := (At.start w rb).step hlt hk
    refine ⟨o1, k1, l1, h1, t1, x1, n1, rfl, hat.alloc _, hat.s, by simp, fun i => by simp, ⟨o1, k1, l1, h1, t1, x1, n1, by unfold Six; simp⟩, ?_⟩
    rcases hc with ⟨g, q, hx, hr⟩ | ⟨hx, hr⟩
    · obtain ⟨a1, a2, a3, a4⟩ := Ps.P_some hg hx (s := p) rfl hp
      exact .inl ⟨g, q, a1, a3, a4, hRs g q hx, hr.below ((Below.refl _ w1).alloc hr.lt _)⟩
    · exact .inr ⟨hRn hx, hr.below ((Below.refl _ w1).alloc hr.lt _)⟩
  have HST : Hid (∀ (w1 : World) (r : Ending), NR rb ws (Ps.P ws .not p) (w.alloc (.cells #[.int .i64 0, .int .i64 0, .int .i64 0, .int .i64 0, .string ⟨#[]⟩, .slice none 0 0] 53)) r w1 → ∃ o1 k1 l1 h1 t1 x1 n1, r = .returned (.agg #[.int .i64 o1, .int .i64 k1, .int .i64 l1, .int .i64 h1, .string t1, .slice x1 n1 n1]) ∧ LI w rb w1.heap.size ws p .andM R (w1.alloc (.cells #[.int .i64 o1, .int .i64 k1, .int .i64 l1, .int .i64 h1, .string t1, .slice x1 n1 n1] 53))) := start
  have HCP : Hid (∀ q, p ≤ q → q ≤ ws.length → ∀ w, Rd w rb ws q → Calls Tryz.prog 76 #[.pointer (some ⟨rb, 0, none⟩)] w (NR rb ws (Ps.P ws .not q) w)) := cp
  clear start cp hRn hRs h
  go_enter Tryz.func63, Tryz.ntmps63
  go_wp2_with fail
  refine c0.mono ?_
  intro r w1 hr
  obtain ⟨o1, k1, l1, h1, t1, x1, n1, rfl, hI⟩ := HST.out w1 r hr
  clear c0 hr HST
  obtain ⟨W, hW⟩ : ∃ W, W = w1.alloc (.cells #[.int .i64 o1, .int .i64 k1, .int .i64 l1, .int .i64 h1, .string t1, .slice x1 n1 n1] 53) := ⟨_, rfl⟩
  have HW : Hid (W = w1.alloc (.cells #[.int .i64 o1, .int .i64 k1, .int .i64 l1, .int .i64 h1, .string t1, .slice x1 n1 n1] 53)) := hW
  have HI : Hid (LI w rb w1.heap.size ws p .andM R W) := by rw [hW]; exact hI
  clear hW hI
  go_wp2_with fail
  rw [← HW.out]
  clear HW
  go_loopw [6] (fun _ wr => LI w rb w1.heap.size ws p .andM R wr) (fun _ wr => lim rb ws wr)
  case atStart => exact HI.out
  case round =>
    clear HI
    obtain ⟨hat, hlo, hhi, hfz, ⟨o1, k1, l1, h1, t1, x1, n1, six⟩, his⟩ := hrel
    rcases his with ⟨f, q, hwf, hq, hpq, hPR, hR⟩ | ⟨hRnone, hB⟩
    · by_cases hmk : Ps.isMark ws q 38 = true
      · have hq1 : q + 1 ≤ ws.length := Ps.isMark_lt hmk
        have cm : Calls Tryz.prog 64 #[.pointer (some ⟨rb, 0, none⟩), .string ⟨#[38]⟩] wr fun e w' => e = .returned (.bool true) ∧ WentR rb ws (q + 1) wr w' := by have c := mark31 rb ws q 38 ⟨#[38]⟩ rfl wr hR; rw [hmk] at c; exact c
        have hlim := lim_rd hR
        have HX : Hid (f.wf ∧ Ps.P ws (.andM f) q = R ∧ lim rb ws wr = ws.length - q + 1 ∧ Ps.isMark ws q 38 = true) := ⟨hwf, hPR, hlim, hmk⟩
        have HF : Hid (At w rb wr ∧ (∀ i, wr.frozen? ⟨w1.heap.size, i, none⟩ = false) ∧ Six wr w1.heap.size 0 o1 k1 l1 h1 t1 x1 n1) := ⟨hat, hfz, six⟩
        clear hat hfz six hwf hPR hR hmk hlim
        go_wp2_with fail
        refine cm.mono ?_
        rintro e w2 ⟨rfl, hw2⟩
        clear cm
        have hat2 : At w rb w2 := HF.out.1.step hlt hw2.2
        have six2 : Six w2 w1.heap.size 0 o1 k1 l1 h1 t1 x1 n1 := HF.out.2.2.kept (P := Save rb) (by unfold Save; omega) hw2.2
        have fz2 : ∀ i, w2.frozen? ⟨w1.heap.size, i, none⟩ = false := fun i => (hw2.2.frozen hhi (by unfold Save; omega)).trans (HF.out.2.1 i)
        have hs2 : w1.heap.size < w2.heap.size := Nat.lt_of_lt_of_le hhi hw2.2.size
        have c := HCP.out (q + 1) (by omega) hq1 w2.drew (hw2.1.below (Below.refl _ w2).drew)
        obtain ⟨y0, y1, y2, y3, y4, y5⟩ := id six2
        simp only [Nat.zero_add] at y0 y1 y2 y3 y4 y5
        have HF2 : Hid (At w rb w2 ∧ Six w2 w1.heap.size 0 o1 k1 l1 h1 t1 x1 n1) := ⟨hat2, six2⟩
        clear hw2 HF hat2 six2 hhi
        go_wp2_with fail
        first
          | (go_region_with (first
              | (go_at_call 76; refine c.mono ?_; rintro e w3 ⟨o2, k2, l2, h2, t2, x2, n2, rfl, hk3, hcs⟩; have hcl : ∀ o, w3.cell? ⟨w1.heap.size, o, none⟩ = w2.cell? ⟨w1.heap.size, o, none⟩ := (fun o => hk3.cell hs2 (by unfold Save; omega)); have hcf : ∀ o, w3.frozen? ⟨w1.heap.size, o, none⟩ = false := (fun o => (hk3.frozen hs2 (by unfold Save; omega)).trans (fz2 o)); have hs3 : w1.heap.size < w3.heap.size := Nat.lt_of_lt_of_le hs2 hk3.size)))
          | fail
        all_goals
          have hat3 : At w rb w3 := HF2.out.1.step hlt (((Kept.refl (But rb) w2).drew).trans hk3)
          have six3 : Six w3 w1.heap.size 0 o1 k1 l1 h1 t1 x1 n1 := HF2.out.2.of hcl
          obtain ⟨hatX, sixX, fzX, hsX, hbX⟩ := li_next hlt hat3 hlo hs3 hcf six3 5 (.cells #[.int .i64 o1, .int .i64 k1, .int .i64 l1, .int .i64 h1, .string t1, .slice x1 n1 n1, .int .i64 o2, .int .i64 k2, .int .i64 l2, .int .i64 h2, .string t2, .slice x2 n2 n2] 53) (some ⟨w3.heap.size, 0, none⟩)
          obtain ⟨X, hX⟩ : ∃ X, X = (((((((w3.setCell ⟨w1.heap.size, 0, none⟩ (.int .i64 5)).setCell ⟨w1.heap.size, 1, none⟩ (.int .i64 0)).setCell ⟨w1.heap.size, 2, none⟩ (.int .i64 0)).setCell ⟨w1.heap.size, 3, none⟩ (.int .i64 0)).setCell ⟨w1.heap.size, 4, none⟩ (.string ⟨#[]⟩)).setCell ⟨w1.heap.size, 5, none⟩ (.slice (some ⟨w3.heap.size, 0, none⟩) 2 2)).alloc (.cells #[.int .i64 o1, .int .i64 k1, .int .i64 l1, .int .i64 h1, .string t1, .slice x1 n1 n1, .int .i64 o2, .int .i64 k2, .int .i64 l2, .int .i64 h2, .string t2, .slice x2 n2 n2] 53)) := ⟨_, rfl⟩
          rw [← hX] at hatX sixX fzX hsX hbX ⊢
          have HG : Hid (LI w rb w1.heap.size ws p .andM R X ∧ lim rb ws X < lim rb ws wr) := by
            rcases hcs with ⟨g, r, hx, hr3⟩ | ⟨hx, hb3⟩
            · obtain ⟨b1, b2, b3, b4⟩ := Ps.P_some hg hx (s := q + 1) rfl hq1
              have hRX : Rd X rb ws r := hr3.below hbX
              refine ⟨⟨hatX, hlo, hsX, fzX, ⟨_, _, _, _, _, _, _, sixX⟩, .inl ⟨.two 5 f g, r, ⟨by decide, HX.out.1, b1⟩, b3, by omega, ?_, hRX⟩⟩, ?_⟩
              · rw [← HX.out.2.1]; exact (Ps.P_andM_yes hg f g q r HX.out.1 HX.out.2.2.2 hx).symm
              · rw [lim_rd hRX, HX.out.2.2.1]; omega
            · have hBX : Bd X rb := hb3.below hbX
              refine ⟨⟨hatX, hlo, hsX, fzX, ⟨_, _, _, _, _, _, _, sixX⟩, .inr ⟨?_, hBX⟩⟩, ?_⟩
              · rw [← HX.out.2.1]; exact Ps.P_andM_bad hg f q HX.out.2.2.2 hx
              · rw [lim_bd hBX, HX.out.2.2.1]; omega
          clear hX hcl hcf hk3 hcs c y0 y1 y2 y3 y4 y5 fz2 hat3 six3 hatX sixX fzX hsX hbX HF2 HX
          go_wp2
          go_roundw
          case rel => exact HG.out.1
          case measure => exact HG.out.2
      · have hmf : Ps.isMark ws q 38 = false := by simpa using hmk
        have cm : Calls Tryz.prog 64 #[.pointer (some ⟨rb, 0, none⟩), .string ⟨#[38]⟩] wr fun e w' => e = .returned (.bool false) ∧ WentR rb ws q wr w' := by have c := mark31 rb ws q 38 ⟨#[38]⟩ rfl wr hR; rw [hmf] at c; exact c
        have HRR : Hid (R = some (f, q)) := by show R = some (f, q); rw [← hPR]; exact Ps.P_andM_no f q hmf
        have HF : Hid (At w rb wr ∧ Six wr w1.heap.size 0 o1 k1 l1 h1 t1 x1 n1) := ⟨hat, six⟩
        clear hat hfz six hwf hPR hR hmk hmf HCP
        go_wp2_with fail
        refine cm.mono ?_
        rintro e w2 ⟨rfl, hw2⟩
        clear cm
        have HA : Hid (At w rb w2) := HF.out.1.step hlt hw2.2
        have six2 : Six w2 w1.heap.size 0 o1 k1 l1 h1 t1 x1 n1 := HF.out.2.kept (P := Save rb) (by unfold Save; omega) hw2.2
        have hs2 : w1.heap.size < w2.heap.size := Nat.lt_of_lt_of_le hhi hw2.2.size
        have HR2 : Hid (Rd w2 rb ws q) := hw2.1
        obtain ⟨y0, y1, y2, y3, y4, y5⟩ := six2
        simp only [Nat.zero_add] at y0 y1 y2 y3 y4 y5
        clear hw2 HF hhi
        have z1 := HA.out.z
        have f1 := HA.out.f
        have s1 := HA.out.s
        have ne1 : w.heap.size ≠ w1.heap.size := by omega
        have ne2 : w1.heap.size ≠ w.heap.size := by omega
        go_wp2
        refine bodyPost_ret (v := .agg #[.int .i64 o1, .int .i64 k1, .int .i64 l1, .int .i64 h1, .string t1, .slice x1 n1 n1]) (by simp [results, Tryz.results63, go_sem, z1]) rfl ?_
        exact ⟨o1, k1, l1, h1, t1, x1, n1, rfl, kept_six HA.out.k, .inl ⟨f, q, HRR.out, HR2.out.below (below_six hlt)⟩⟩
    · have cm := mark_bad rb ⟨#[38]⟩ wr hB
      have HF : Hid (At w rb wr ∧ Six wr w1.heap.size 0 o1 k1 l1 h1 t1 x1 n1 ∧ Bd wr rb ∧ R = none) := ⟨hat, six, hB, hRnone⟩
      clear hat hfz six hB hRnone HCP
      go_wp2_with fail
      refine cm.mono ?_
      rintro e w2 ⟨rfl, n2, hn2⟩
      clear cm
      have HA : Hid (At w rb w2) := by rw [hn2]; exact HF.out.1.step hlt (kept_drewN _)
      have six2 : Six w2 w1.heap.size 0 o1 k1 l1 h1 t1 x1 n1 := by rw [hn2]; exact HF.out.2.1
      have hs2 : w1.heap.size < w2.heap.size := by rw [hn2]; exact hhi
      have HR2 : Hid (Bd w2 rb) := by rw [hn2]; exact HF.out.2.2.1.drewN
      have HRR : Hid (R = none) := HF.out.2.2.2
      obtain ⟨y0, y1, y2, y3, y4, y5⟩ := six2
      simp only [Nat.zero_add] at y0 y1 y2 y3 y4 y5
      clear hn2 HF hhi
      have z1 := HA.out.z
      have f1 := HA.out.f
      have s1 := HA.out.s
      have ne1 : w.heap.size ≠ w1.heap.size := by omega
      have ne2 : w1.heap.size ≠ w.heap.size := by omega
      go_wp2
      refine bodyPost_ret (v := .agg #[.int .i64 o1, .int .i64 k1, .int .i64 l1, .int .i64 h1, .string t1, .slice x1 n1 n1]) (by simp [results, Tryz.results63, go_sem, z1]) rfl ?_
      exact ⟨o1, k1, l1, h1, t1, x1, n1, rfl, kept_six HA.out.k, .inr ⟨HRR.out, HR2.out.below (below_six hlt)⟩⟩

end Rf
end Go.Proofs.YtdeojcodbojmoaaGreatDoor
namespace Go.Proofs.YtdeojcodbojmoaaGreatDoor
namespace Rf
open Go.RowKit
set_option maxRecDepth 100000
set_option linter.unusedVariables false

set_option maxHeartbeats 8000000 in
theorem or_nr (rb : Nat) (ws : List Wd.Word) (p : Nat) (w : World) (hg : Ps.Goods ws) (h : Rd w rb ws p) (hp : p ≤ ws.length)
    (cp : ∀ q, p ≤ q → q ≤ ws.length → ∀ w, Rd w rb ws q → Calls Tryz.prog 63 #[.pointer (some ⟨rb, 0, none⟩)] w (NR rb ws (Ps.P ws .and q) w)) (R : Option (Ps.Ft × Nat)) (hRn : Ps.P ws .and p = none → R = none) (hRs : ∀ f q, Ps.P ws .and p = some (f, q) → Ps.P ws (.orM f) q = R) :
    Calls Tryz.prog 43 #[.pointer (some ⟨rb, 0, none⟩)] w (NR rb ws R w) := by
  have hlt := h.lt
  have c0 := cp p (Nat.le_refl _) hp (w.alloc (.cells #[.int .i64 0, .int .i64 0, .int .i64 0, .int .i64 0, .string ⟨#[]⟩, .slice none 0 0] 53)) (h.below ((Below.refl _ w).alloc hlt _))
  have start : ∀ (w1 : World) (r : Ending), NR rb ws (Ps.P ws .and p) (w.alloc (.cells #[.int .i64 0, .int .i64 0, .int .i64 0, .int .i64 0, .string ⟨#[]⟩, .slice none 0 0] 53)) r w1 → ∃ o1 k1 l1 h1 t1 x1 n1, r = .returned (.agg #[.int .i64 o1, .int .i64 k1, .int .i64 l1, .int .i64 h1, .string t1, .slice x1 n1 n1]) ∧ LI w rb w1.heap.size ws p .orM R (w1.alloc (.cells #[.int .i64 o1, .int .i64 k1, .int .i64 l1, .int .i64 h1, .string t1, .slice x1 n1 n1] 53)) := by
    rintro w1 r ⟨o1, k1, l1, h1, t1, x1, n1, rfl, hk, hc⟩
    have hat := (At.start w rb).step hlt hk
    refine ⟨o1, k1, l1, h1, t1, x1, n1, rfl, hat.alloc _, hat.s, by simp, fun i => by simp, ⟨o1, k1, l1, h1, t1, x1, n1, by unfold Six; simp⟩, ?_⟩
    rcases hc with ⟨g, q, hx, hr⟩ | ⟨hx, hr⟩
    · obtain ⟨a1, a2, a3, a4⟩ := Ps.P_some hg hx (s := p) rfl hp
      exact .inl ⟨g, q, a1, a3, a4, hRs g q hx, hr.below ((Below.refl _ w1).alloc hr.lt _)⟩
    · exact .inr ⟨hRn hx, hr.below ((Below.refl _ w1).alloc hr.lt _)⟩
  have HST : Hid (∀ (w1 : World) (r : Ending), NR rb ws (Ps.P ws .and p) (w.alloc (.cells #[.int .i64 0, .int .i64 0, .int .i64 0, .int .i64 0, .string ⟨#[]⟩, .slice none 0 0] 53)) r w1 → ∃ o1 k1 l1 h1 t1 x1 n1, r = .returned (.agg #[.int .i64 o1, .int .i64 k1, .int .i64 l1, .int .i64 h1, .string t1, .slice x1 n1 n1]) ∧ LI w rb w1.heap.size ws p .orM R (w1.alloc (.cells #[.int .i64 o1, .int .i64 k1, .int .i64 l1, .int .i64 h1, .string t1, .slice x1 n1 n1] 53))) := start
  have HCP : Hid (∀ q, p ≤ q → q ≤ ws.length → ∀ w, Rd w rb ws q → Calls Tryz.prog 63 #[.pointer (some ⟨rb, 0, none⟩)] w (NR rb ws (Ps.P ws .and q) w)) := cp
  clear start cp hRn hRs h
  go_enter Tryz.func43, Tryz.ntmps43
  go_wp2_with fail
  refine c0.mono ?_
  intro r w1 hr
  obtain ⟨o1, k1, l1, h1, t1, x1, n1, rfl, hI⟩ := HST.out w1 r hr
  clear c0 hr HST
  obtain ⟨W, hW⟩ : ∃ W, W = w1.alloc (.cells #[.int .i64 o1, .int .i64 k1, .int .i64 l1, .int .i64 h1, .string t1, .slice x1 n1 n1] 53) := ⟨_, rfl⟩
  have HW : Hid (W = w1.alloc (.cells #[.int .i64 o1, .int .i64 k1, .int .i64 l1, .int .i64 h1, .string t1, .slice x1 n1 n1] 53)) := hW
  have HI : Hid (LI w rb w1.heap.size ws p .orM R W) := by rw [hW]; exact hI
  clear hW hI
  go_wp2_with fail
  rw [← HW.out]
  clear HW
  go_loopw [6] (fun _ wr => LI w rb w1.heap.size ws p .orM R wr) (fun _ wr => lim rb ws wr)
  case atStart => exact HI.out
  case round =>
    clear HI
    obtain ⟨hat, hlo, hhi, hfz, ⟨o1, k1, l1, h1, t1, x1, n1, six⟩, his⟩ := hrel
    rcases his with ⟨f, q, hwf, hq, hpq, hPR, hR⟩ | ⟨hRnone, hB⟩
    · by_cases hmk : Ps.isMark ws q 124 = true
      · have hq1 : q + 1 ≤ ws.length := Ps.isMark_lt hmk
        have cm : Calls Tryz.prog 64 #[.pointer (some ⟨rb, 0, none⟩), .string ⟨#[124]⟩] wr fun e w' => e = .returned (.bool true) ∧ WentR rb ws (q + 1) wr w' := by have c := mark31 rb ws q 124 ⟨#[124]⟩ rfl wr hR; rw [hmk] at c; exact c
        have hlim := lim_rd hR
        have HX : Hid (f.wf ∧ Ps.P ws (.orM f) q = R ∧ lim rb ws wr = ws.length - q + 1 ∧ Ps.isMark ws q 124 = true) := ⟨hwf, hPR, hlim, hmk⟩
        have HF : Hid (At w rb wr ∧ (∀ i, wr.frozen? ⟨w1.heap.size, i, none⟩ = false) ∧ Six wr w1.heap.size 0 o1 k1 l1 h1 t1 x1 n1) := ⟨hat, hfz, six⟩
        clear hat hfz six hwf hPR hR hmk hlim
        go_wp2_with fail
        refine cm.mono ?_
        rintro e w2 ⟨rfl, hw2⟩
        clear cm
        have hat2 : At w rb w2 := HF.out.1.step hlt hw2.2
        have six2 : Six w2 w1.heap.size 0 o1 k1 l1 h1 t1 x1 n1 := HF.out.2.2.kept (P := Save rb) (by unfold Save; omega) hw2.2
        have fz2 : ∀ i, w2.frozen? ⟨w1.heap.size, i, none⟩ = false := fun i => (hw2.2.frozen hhi (by unfold Save; omega)).trans (HF.out.2.1 i)
        have hs2 : w1.heap.size < w2.heap.size := Nat.lt_of_lt_of_le hhi hw2.2.size
        have c := HCP.out (q + 1) (by omega) hq1 w2.drew (hw2.1.below (Below.refl _ w2).drew)
        obtain ⟨y0, y1, y2, y3, y4, y5⟩ := id six2
        simp only [Nat.zero_add] at y0 y1 y2 y3 y4 y5
        have HF2 : Hid (At w rb w2 ∧ Six w2 w1.heap.size 0 o1 k1 l1 h1 t1 x1 n1) := ⟨hat2, six2⟩
        clear hw2 HF hat2 six2 hhi
        go_wp2_with fail
        first
          | (go_region_with (first
              | (go_at_call 63; refine c.mono ?_; rintro e w3 ⟨o2, k2, l2, h2, t2, x2, n2, rfl, hk3, hcs⟩; have hcl : ∀ o, w3.cell? ⟨w1.heap.size, o, none⟩ = w2.cell? ⟨w1.heap.size, o, none⟩ := (fun o => hk3.cell hs2 (by unfold Save; omega)); have hcf : ∀ o, w3.frozen? ⟨w1.heap.size, o, none⟩ = false := (fun o => (hk3.frozen hs2 (by unfold Save; omega)).trans (fz2 o)); have hs3 : w1.heap.size < w3.heap.size := Nat.lt_of_lt_of_le hs2 hk3.size)))
          | fail
        all_goals
          have hat3 : At w rb w3 := HF2.out.1.step hlt (((Kept.refl (But rb) w2).drew).trans hk3)
          have six3 : Six w3 w1.heap.size 0 o1 k1 l1 h1 t1 x1 n1 := HF2.out.2.of hcl
          obtain ⟨hatX, sixX, fzX, hsX, hbX⟩ := li_next hlt hat3 hlo hs3 hcf six3 6 (.cells #[.int .i64 o1, .int .i64 k1, .int .i64 l1, .int .i64 h1, .string t1, .slice x1 n1 n1, .int .i64 o2, .int .i64 k2, .int .i64 l2, .int .i64 h2, .string t2, .slice x2 n2 n2] 53) (some ⟨w3.heap.size, 0, none⟩)
          obtain ⟨X, hX⟩ : ∃ X, X = (((((((w3.setCell ⟨w1.heap.size, 0, none⟩ (.int .i64 6)).setCell ⟨w1.heap.size, 1, none⟩ (.int .i64 0)).setCell ⟨w1.heap.size, 2, none⟩ (.int .i64 0)).setCell ⟨w1.heap.size, 3, none⟩ (.int .i64 0)).setCell ⟨w1.heap.size, 4, none⟩ (.string ⟨#[]⟩)).setCell ⟨w1.heap.size, 5, none⟩ (.slice (some ⟨w3.heap.size, 0, none⟩) 2 2)).alloc (.cells #[.int .i64 o1, .int .i64 k1, .int .i64 l1, .int .i64 h1, .string t1, .slice x1 n1 n1, .int .i64 o2, .int .i64 k2, .int .i64 l2, .int .i64 h2, .string t2, .slice x2 n2 n2] 53)) := ⟨_, rfl⟩
          rw [← hX] at hatX sixX fzX hsX hbX ⊢
          have HG : Hid (LI w rb w1.heap.size ws p .orM R X ∧ lim rb ws X < lim rb ws wr) := by
            rcases hcs with ⟨g, r, hx, hr3⟩ | ⟨hx, hb3⟩
            · obtain ⟨b1, b2, b3, b4⟩ := Ps.P_some hg hx (s := q + 1) rfl hq1
              have hRX : Rd X rb ws r := hr3.below hbX
              refine ⟨⟨hatX, hlo, hsX, fzX, ⟨_, _, _, _, _, _, _, sixX⟩, .inl ⟨.two 6 f g, r, ⟨by decide, HX.out.1, b1⟩, b3, by omega, ?_, hRX⟩⟩, ?_⟩
              · rw [← HX.out.2.1]; exact (Ps.P_orM_yes hg f g q r HX.out.1 HX.out.2.2.2 hx).symm
              · rw [lim_rd hRX, HX.out.2.2.1]; omega
            · have hBX : Bd X rb := hb3.below hbX
              refine ⟨⟨hatX, hlo, hsX, fzX, ⟨_, _, _, _, _, _, _, sixX⟩, .inr ⟨?_, hBX⟩⟩, ?_⟩
              · rw [← HX.out.2.1]; exact Ps.P_orM_bad hg f q HX.out.2.2.2 hx
              · rw [lim_bd hBX, HX.out.2.2.1]; omega
          clear hX hcl hcf hk3 hcs c y0 y1 y2 y3 y4 y5 fz2 hat3 six3 hatX sixX fzX hsX hbX HF2 HX
          go_wp2
          go_roundw
          case rel => exact HG.out.1
          case measure => exact HG.out.2
      · have hmf : Ps.isMark ws q 124 = false := by simpa using hmk
        have cm : Calls Tryz.prog 64 #[.pointer (some ⟨rb, 0, none⟩), .string ⟨#[124]⟩] wr fun e w' => e = .returned (.bool false) ∧ WentR rb ws q wr w' := by have c := mark31 rb ws q 124 ⟨#[124]⟩ rfl wr hR; rw [hmf] at c; exact c
        have HRR : Hid (R = some (f, q)) := by show R = some (f, q); rw [← hPR]; exact Ps.P_orM_no f q hmf
        have HF : Hid (At w rb wr ∧ Six wr w1.heap.size 0 o1 k1 l1 h1 t1 x1 n1) := ⟨hat, six⟩
        clear hat hfz six hwf hPR hR hmk hmf HCP
        go_wp2_with fail
        refine cm.mono ?_
        rintro e w2 ⟨rfl, hw2⟩
        clear cm
        have HA : Hid (At w rb w2) := HF.out.1.step hlt hw2.2
        have six2 : Six w2 w1.heap.size 0 o1 k1 l1 h1 t1 x1 n1 := HF.out.2.kept (P := Save rb) (by unfold Save; omega) hw2.2
        have hs2 : w1.heap.size < w2.heap.size := Nat.lt_of_lt_of_le hhi hw2.2.size
        have HR2 : Hid (Rd w2 rb ws q) := hw2.1
        obtain ⟨y0, y1, y2, y3, y4, y5⟩ := six2
        simp only [Nat.zero_add] at y0 y1 y2 y3 y4 y5
        clear hw2 HF hhi
        have z1 := HA.out.z
        have f1 := HA.out.f
        have s1 := HA.out.s
        have ne1 : w.heap.size ≠ w1.heap.size := by omega
        have ne2 : w1.heap.size ≠ w.heap.size := by omega
        go_wp2
        refine bodyPost_ret (v := .agg #[.int .i64 o1, .int .i64 k1, .int .i64 l1, .int .i64 h1, .string t1, .slice x1 n1 n1]) (by simp [results, Tryz.results43, go_sem, z1]) rfl ?_
        exact ⟨o1, k1, l1, h1, t1, x1, n1, rfl, kept_six HA.out.k, .inl ⟨f, q, HRR.out, HR2.out.below (below_six hlt)⟩⟩
    · have cm := mark_bad rb ⟨#[124]⟩ wr hB
      have HF : Hid (At w rb wr ∧ Six wr w1.heap.size 0 o1 k1 l1 h1 t1 x1 n1 ∧ Bd wr rb ∧ R = none) := ⟨hat, six, hB, hRnone⟩
      clear hat hfz six hB hRnone HCP
      go_wp2_with fail
      refine cm.mono ?_
      rintro e w2 ⟨rfl, n2, hn2⟩
      clear cm
      have HA : Hid (At w rb w2) := by rw [hn2]; exact HF.out.1.step hlt (kept_drewN _)
      have six2 : Six w2 w1.heap.size 0 o1 k1 l1 h1 t1 x1 n1 := by rw [hn2]; exact HF.out.2.1
      have hs2 : w1.heap.size < w2.heap.size := by rw [hn2]; exact hhi
      have HR2 : Hid (Bd w2 rb) := by rw [hn2]; exact HF.out.2.2.1.drewN
      have HRR : Hid (R = none) := HF.out.2.2.2
      obtain ⟨y0, y1, y2, y3, y4, y5⟩ := six2
      simp only [Nat.zero_add] at y0 y1 y2 y3 y4 y5
      clear hn2 HF hhi
      have z1 := HA.out.z
      have f1 := HA.out.f
      have s1 := HA.out.s
      have ne1 : w.heap.size ≠ w1.heap.size := by omega
      have ne2 : w1.heap.size ≠ w.heap.size := by omega
      go_wp2
      refine bodyPost_ret (v := .agg #[.int .i64 o1, .int .i64 k1, .int .i64 l1, .int .i64 h1, .string t1, .slice x1 n1 n1]) (by simp [results, Tryz.results43, go_sem, z1]) rfl ?_
      exact ⟨o1, k1, l1, h1, t1, x1, n1, rfl, kept_six HA.out.k, .inr ⟨HRR.out, HR2.out.below (below_six hlt)⟩⟩

end Rf
end Go.Proofs.YtdeojcodbojmoaaGreatDoor
namespace Go.Proofs.YtdeojcodbojmoaaGreatDoor
namespace Rf
open Go.RowKit
set_option maxRecDepth 100000
set_option linter.unusedVariables false

/-- The same, given from each later place on. -/
theorem nr_step (rb : Nat) (ws : List Wd.Word) (hg : Ps.Goods ws) (p : Nat) (hp : p ≤ ws.length) (ih : ∀ q, p < q → q ≤ ws.length →
    (∀ w, Rd w rb ws q → Calls Tryz.prog 76 #[.pointer (some ⟨rb, 0, none⟩)] w (NR rb ws (Ps.P ws .not q) w)) ∧
    (∀ w, Rd w rb ws q → Calls Tryz.prog 63 #[.pointer (some ⟨rb, 0, none⟩)] w (NR rb ws (Ps.P ws .and q) w)) ∧
    (∀ w, Rd w rb ws q → Calls Tryz.prog 43 #[.pointer (some ⟨rb, 0, none⟩)] w (NR rb ws (Ps.P ws .or q) w))) :
    (∀ w, Rd w rb ws p → Calls Tryz.prog 76 #[.pointer (some ⟨rb, 0, none⟩)] w (NR rb ws (Ps.P ws .not p) w)) ∧
    (∀ w, Rd w rb ws p → Calls Tryz.prog 63 #[.pointer (some ⟨rb, 0, none⟩)] w (NR rb ws (Ps.P ws .and p) w)) ∧
    (∀ w, Rd w rb ws p → Calls Tryz.prog 43 #[.pointer (some ⟨rb, 0, none⟩)] w (NR rb ws (Ps.P ws .or p) w)) := by
  have fb : ∀ {N : FuncId} {o : Option (Ps.Ft × Nat)} {w : World}, o = none → Calls Tryz.prog N #[.pointer (some ⟨rb, 0, none⟩)] w (NR rb ws o w) → Calls Tryz.prog N #[.pointer (some ⟨rb, 0, none⟩)] w (FB rb w) := fun {N o w} ho c => c.mono fun r w' hr => by
    obtain ⟨o1, k1, l1, h1, t1, x1, n1, rfl, hk, hc⟩ := hr
    rcases hc with ⟨g, q, e, _⟩ | ⟨_, hb⟩
    · rw [ho] at e; cases e
    · exact ⟨⟨o1, k1, l1, h1, t1, x1, n1, rfl⟩, hb, hk⟩
  have hnot : ∀ w, Rd w rb ws p → Calls Tryz.prog 76 #[.pointer (some ⟨rb, 0, none⟩)] w (NR rb ws (Ps.P ws .not p) w) := by
    intro w h
    cases hx : Ps.P ws .not p with
    | some y =>
      obtain ⟨f, q⟩ := y
      exact ((reads_all rb ws 200 200 p f q w (Nat.le_refl _) h).1 hx).mono fun r w' hr => NR.of_fr hr
    | none =>
      refine Calls.mono ?_ fun r w' hr => NR.of_fb hr
      rw [Ps.P_not hg p hp] at hx
      by_cases e33 : Ps.isMark ws p 33 = true
      · rw [if_pos e33] at hx
        have c := (ih (p + 1) (by omega) (Ps.isMark_lt e33)).1
        cases hy : Ps.P ws .not (p + 1) with
        | none => exact not_bang_no rb ws p w h e33 (fun w h => fb hy (c w h))
        | some y => rw [hy] at hx; cases hx
      · rw [if_neg e33] at hx
        have e33' : Ps.isMark ws p 33 = false := by simpa using e33
        by_cases e40 : Ps.isMark ws p 40 = true
        · rw [if_pos e40] at hx
          have c := (ih (p + 1) (by omega) (Ps.isMark_lt e40)).2.2
          cases hy : Ps.P ws .or (p + 1) with
          | none => exact not_open_no rb ws p w h e33' e40 (fun w h => fb hy (c w h))
          | some y =>
            obtain ⟨f, q⟩ := y
            rw [hy] at hx
            simp only at hx
            by_cases e41 : Ps.isMark ws q 41 = true
            · rw [if_pos e41] at hx; cases hx
            · exact not_open_nob rb ws p w h e33' e40 f q (fun w h => (reads_all rb ws 200 200 (p + 1) f q w (Nat.le_refl _) h).2.2 hy) (by simpa using e41)
        · rw [if_neg e40] at hx
          have e40' : Ps.isMark ws p 40 = false := by simpa using e40
          by_cases e42 : Ps.isMark ws p 42 = true
          · rw [if_pos e42] at hx; cases hx
          · rw [if_neg e42] at hx
            have e42' : Ps.isMark ws p 42 = false := by simpa using e42
            by_cases e94 : Ps.isMark ws p 94 = true
            · rw [if_pos e94] at hx
              cases hn : Ps.name ws (p + 1) with
              | none => exact not_name_no rb ws p w h e33' e40' e42' e94 hn
              | some t => rw [hn] at hx; cases hx
            · rw [if_neg e94] at hx
              have e94' : Ps.isMark ws p 94 = false := by simpa using e94
              by_cases e64 : Ps.isMark ws p 64 = true
              · rw [if_pos e64] at hx
                exact not_at_no rb ws p w h e33' e40' e42' e94' e64 hx
              · exact not_none rb ws p w h e33' e40' e42' e94' (by simpa using e64)
  have hand : ∀ w, Rd w rb ws p → Calls Tryz.prog 63 #[.pointer (some ⟨rb, 0, none⟩)] w (NR rb ws (Ps.P ws .and p) w) := by
    intro w h
    refine and_nr rb ws p w hg h hp (fun q hq hl => ?_) _ (fun hx => ?_) (fun f q hx => ?_)
    · by_cases hpq : p = q
      · subst hpq; exact hnot
      · exact (ih q (by omega) hl).1
    · rw [Ps.P_and hg p hp, hx]
    · rw [Ps.P_and hg p hp, hx]
  have hor : ∀ w, Rd w rb ws p → Calls Tryz.prog 43 #[.pointer (some ⟨rb, 0, none⟩)] w (NR rb ws (Ps.P ws .or p) w) := by
    intro w h
    refine or_nr rb ws p w hg h hp (fun q hq hl => ?_) _ (fun hx => ?_) (fun f q hx => ?_)
    · by_cases hpq : p = q
      · subst hpq; exact hand
      · exact (ih q (by omega) hl).2.1
    · rw [Ps.P_or hg p hp, hx]
    · rw [Ps.P_or hg p hp, hx]
  exact ⟨hnot, hand, hor⟩

/-- What the three functions of the reader do, from each place on. -/
theorem nr_all (rb : Nat) (ws : List Wd.Word) (hg : Ps.Goods ws) (d : Nat) : ∀ p, p ≤ ws.length → ws.length - p ≤ d →
    (∀ w, Rd w rb ws p → Calls Tryz.prog 76 #[.pointer (some ⟨rb, 0, none⟩)] w (NR rb ws (Ps.P ws .not p) w)) ∧
    (∀ w, Rd w rb ws p → Calls Tryz.prog 63 #[.pointer (some ⟨rb, 0, none⟩)] w (NR rb ws (Ps.P ws .and p) w)) ∧
    (∀ w, Rd w rb ws p → Calls Tryz.prog 43 #[.pointer (some ⟨rb, 0, none⟩)] w (NR rb ws (Ps.P ws .or p) w)) := by
  induction d with
  | zero => exact fun p hp hd => nr_step rb ws hg p hp (fun q hq hl => absurd hl (by omega))
  | succ d ih => exact fun p hp hd => nr_step rb ws hg p hp (fun q hq hl => ih q hl (by omega))

/-- A new reader. -/
theorem rd_made {w : World} {base : Nat} {v : Value} {ws : List Wd.Word} (en : Int) (hg : Ps.Goods ws) (h : w.ownsRow base 114 4 v ws.length (cellsOf ws)) : (∃ ao cap, v = .slice ao ws.length cap) ∧ Rd (w.alloc (.cells #[v, .int .i64 0, .int .i64 en, .bool false, .int .i64 0] 79)) w.heap.size ws 0 := by
  have hk : ∀ x ∈ ws, (x.kind = 1 ∨ x.kind = 2) ∨ x.kind = 3 := fun x hx => by rcases (hg.2 x hx).1 with h | h | h <;> simp [h]
  rcases wown_form h with ⟨rfl, h1⟩ | ⟨g, cap', rfl⟩
  · rw [h1]
    refine ⟨⟨none, 0, rfl⟩, hg.1, Nat.zero_le _, fun o => by simp, none, 0, en, 0, 0, by simp [h1], by simp, by simp, by simp, by simp, fun h0 => by omega, fun j x hx => ?_⟩
    have hj : j < ws.length := (List.getElem?_eq_some_iff.1 hx).1
    omega
  · refine ⟨⟨_, _, rfl⟩, hg.1, Nat.zero_le _, fun o => by simp, some ⟨g, 0, none⟩, cap', en, 0, g, by simp, by simp, by simp, by simp, by simp, fun h0 => ⟨rfl, (h.lt g rfl).2⟩, fun j x hx => ?_⟩
    have hj : j < ws.length := (List.getElem?_eq_some_iff.1 hx).1
    have hgl := (h.lt g rfl).2
    refine ⟨?_, ?_, ?_, hk x (List.mem_of_getElem? hx), ?_⟩
    · rw [World.cell?_alloc_past _ _ _ (hn := hgl)]
      exact (h.cellAt (j * 4) (by omega)).trans ((cellsOf_get ws j 0 x hx (by omega)).trans rfl)
    · rw [World.cell?_alloc_past _ _ _ (hn := hgl)]
      exact (h.cellAt (j * 4 + 1) (by omega)).trans ((cellsOf_get ws j 1 x hx (by omega)).trans rfl)
    · rw [World.cell?_alloc_past _ _ _ (hn := hgl)]
      exact (h.cellAt (j * 4 + 2) (by omega)).trans ((cellsOf_get ws j 2 x hx (by omega)).trans rfl)
    · rw [World.cell?_alloc_past _ _ _ (hn := hgl)]
      exact (h.cellAt (j * 4 + 3) (by omega)).trans ((cellsOf_get ws j 3 x hx (by omega)).trans rfl)

end Rf
end Go.Proofs.YtdeojcodbojmoaaGreatDoor
namespace Go.Proofs.YtdeojcodbojmoaaGreatDoor
namespace Rf
open Go.RowKit
set_option maxRecDepth 100000
set_option linter.unusedVariables false

/-- What Parse tells: whether. -/
def PQ (ok : Bool) (w : World) (r : Ending) (w' : World) : Prop := (∃ (o k l h : Int) (t : ByteArray) (x : Option Addr) (n : Nat) (a : Int), r = .returned (.tuple #[.agg #[.int .i64 o, .int .i64 k, .int .i64 l, .int .i64 h, .string t, .slice x n n], .int .i64 a, .bool ok])) ∧ Below w.heap.size w w'
theorem pq_mk {ok : Bool} {w w' : World} {o k l h : Int} {t : ByteArray} {x : Option Addr} {n : Nat} {a : Int} (hb : Below w.heap.size w w') : PQ ok w (.returned (.tuple #[.agg #[.int .i64 o, .int .i64 k, .int .i64 l, .int .i64 h, .string t, .slice x n n], .int .i64 a, .bool ok])) w' := ⟨⟨o, k, l, h, t, x, n, a, rfl⟩, hb⟩

set_option maxHeartbeats 2000000 in
theorem rp_no (s : ByteArray) (w : World) (hs : s.size ≤ maxLen) (ha : (Wd.all s.data.toList).2.2 = false) : Calls Tryz.prog 29 #[.string s] w (PQ false w) := by
  have c1 := words_any s (w.alloc (.cells #[.int .i64 0, .int .i64 0, .int .i64 0, .int .i64 0, .string ⟨#[]⟩, .slice none 0 0] 53)) hs
  have hat0 : At w w.heap.size (w.alloc (.cells #[.int .i64 0, .int .i64 0, .int .i64 0, .int .i64 0, .string ⟨#[]⟩, .slice none 0 0] 53)) := At.start w _
  rw [ha] at c1
  have hgd := Ps.all_good s.data.toList
  clear ha
  generalize (Wd.all s.data.toList).2.1 = at_ at *
  generalize (Wd.all s.data.toList).1 = ws at *
  go_enter Tryz.func29, Tryz.ntmps29
  go_wp2_with fail
  refine c1.mono ?_
  rintro r w1 ⟨v, rfl, hown, hb1⟩
  clear c1
  have HA1 : Hid (At w w.heap.size w1) := hat0.step' (P := Any) trivial (fun _ _ _ => trivial) (Kept.of_below hb1)
  clear hb1 hown hat0
  have HA := HA1
  have z1 := HA.out.z
  have f1 := HA.out.f
  have s1 := HA.out.s
  go_wp2
  refine bodyPost_ret (v := .tuple #[.agg #[.int .i64 0, .int .i64 0, .int .i64 0, .int .i64 0, .string ⟨#[]⟩, .slice none 0 0], .int .i64 at_, .bool false]) (by simp [results, Tryz.results29, go_sem, z1]) rfl (pq_mk (bel_six HA.out.bel))

end Rf
end Go.Proofs.YtdeojcodbojmoaaGreatDoor
namespace Go.Proofs.YtdeojcodbojmoaaGreatDoor
namespace Rf
open Go.RowKit
set_option maxRecDepth 100000
set_option linter.unusedVariables false

set_option maxHeartbeats 4000000 in
theorem rp_bad (s : ByteArray) (w : World) (hs : s.size ≤ maxLen) (ha : (Wd.all s.data.toList).2.2 = true) (hx : Ps.P (Wd.all s.data.toList).1 .or 0 = none) : Calls Tryz.prog 29 #[.string s] w (PQ false w) := by
  have c1 := words_any s (w.alloc (.cells #[.int .i64 0, .int .i64 0, .int .i64 0, .int .i64 0, .string ⟨#[]⟩, .slice none 0 0] 53)) hs
  have hat0 : At w w.heap.size (w.alloc (.cells #[.int .i64 0, .int .i64 0, .int .i64 0, .int .i64 0, .string ⟨#[]⟩, .slice none 0 0] 53)) := At.start w _
  rw [ha] at c1
  have hgd := Ps.all_good s.data.toList
  clear ha
  generalize (Wd.all s.data.toList).2.1 = at_ at *
  generalize (Wd.all s.data.toList).1 = ws at *
  go_enter Tryz.func29, Tryz.ntmps29
  go_wp2_with fail
  refine c1.mono ?_
  rintro r w1 ⟨v, rfl, hown, hb1⟩
  clear c1
  have HA1 : Hid (At w w.heap.size w1) := hat0.step' (P := Any) trivial (fun _ _ _ => trivial) (Kept.of_below hb1)
  obtain ⟨⟨ao, cap, rfl⟩, hr⟩ := rd_made (s.size : Int) hgd hown
  have sw1 : w.heap.size < w1.heap.size := HA1.out.s
  have HA2 : Hid (At w w.heap.size (w1.alloc (.cells #[.slice ao ws.length cap, .int .i64 0, .int .i64 s.size, .bool false, .int .i64 0] 79))) := HA1.out.alloc _
  unfold maxLen at hs
  clear hb1 hown hat0 HA1
  have hl60 := hgd.1
  have c2 := (nr_all w1.heap.size ws hgd ws.length 0 (Nat.zero_le _) (by omega)).2.2 _ hr
  rw [hx] at c2
  clear hx hr hgd
  generalize ws.length = len at *
  go_wp2_with fail
  refine c2.mono ?_
  rintro r w2 ⟨o1, k1, l1, h1, t1, x1, n1, rfl, hk2, hc2⟩
  clear c2
  have hB2 : Bd w2 w1.heap.size := by
    rcases hc2 with ⟨g, q, e, _⟩ | ⟨_, hb⟩
    · cases e
    · exact hb
  have s2 : w1.heap.size < w2.heap.size := by have := hk2.size; simp at this; omega
  have hat2 : At w w.heap.size w2 := HA2.out.up (rb := w1.heap.size) sw1 hk2
  obtain ⟨U, hU⟩ : ∃ U, U = w2.alloc (.cells #[.int .i64 o1, .int .i64 k1, .int .i64 l1, .int .i64 h1, .string t1, .slice x1 n1 n1] 53) := ⟨_, rfl⟩
  have HU : Hid (U = w2.alloc (.cells #[.int .i64 o1, .int .i64 k1, .int .i64 l1, .int .i64 h1, .string t1, .slice x1 n1 n1] 53)) := hU
  have HA : Hid (At w w.heap.size U) := by rw [hU]; exact hat2.alloc _
  have hBU : Bd U w1.heap.size := by rw [hU]; exact hB2.below ((Below.refl _ w2).alloc s2 _)
  have HB : Hid (Bd U w1.heap.size) := hBU
  have ne1 : w.heap.size ≠ w1.heap.size := by omega
  have ne2 : w1.heap.size ≠ w.heap.size := by omega
  clear hU hk2 hc2 HA2 hB2 hat2
  simp only []
  iterate 6 (first | go_skip | go_guarded | go_step | go_upon | go_simp)
  rw [← HU.out]
  clear HU
  obtain ⟨_, ao9, len9, cap9, pp, en9, po, _, _, q0, q1, q2, q3, q4⟩ := hBU
  have z1 := HA.out.z
  have f1 := HA.out.f
  have s1 := HA.out.s
  by_cases hlt : pp < len
  · have d1 : decide ((pp : Int) < (len : Int)) = true := decide_eq_true (by omega)
    have d2 : decide (pp < len) = true := decide_eq_true (by omega)
    have c3 := fail_bad w1.heap.size U pp HB.out
    clear hlt
    go_wp2_with fail
    refine c3.mono ?_
    rintro r w3 ⟨rfl, rfl⟩
    clear c3
    go_wp2_with fail
    go_region
    all_goals (
      go_wp2
      refine bodyPost_ret (v := .tuple #[.agg #[.int .i64 0, .int .i64 0, .int .i64 0, .int .i64 0, .string ⟨#[]⟩, .slice none 0 0], .int .i64 po, .bool false]) (by simp [results, Tryz.results29, go_sem, z1]) rfl (pq_mk ?_)
      first | exact (bel_six HA.out.bel).drew | exact bel_six HA.out.bel)
  · have d1 : decide ((pp : Int) < (len : Int)) = false := decide_eq_false (by omega)
    have d2 : decide (pp < len) = false := decide_eq_false (by omega)
    clear hlt
    go_wp2_with fail
    go_region
    all_goals (
      go_wp2
      refine bodyPost_ret (v := .tuple #[.agg #[.int .i64 0, .int .i64 0, .int .i64 0, .int .i64 0, .string ⟨#[]⟩, .slice none 0 0], .int .i64 po, .bool false]) (by simp [results, Tryz.results29, go_sem, z1]) rfl (pq_mk ?_)
      first | exact (bel_six HA.out.bel).drew | exact bel_six HA.out.bel)

end Rf
end Go.Proofs.YtdeojcodbojmoaaGreatDoor
namespace Go.Proofs.YtdeojcodbojmoaaGreatDoor
namespace Rf
open Go.RowKit
set_option maxRecDepth 100000
set_option linter.unusedVariables false

set_option maxHeartbeats 4000000 in
theorem rp_rest (s : ByteArray) (w : World) (f : Ps.Ft) (q : Nat) (hs : s.size ≤ maxLen) (ha : (Wd.all s.data.toList).2.2 = true) (hx : Ps.P (Wd.all s.data.toList).1 .or 0 = some (f, q)) (hq : ¬ q = (Wd.all s.data.toList).1.length) : Calls Tryz.prog 29 #[.string s] w (PQ false w) := by
  have c1 := words_any s (w.alloc (.cells #[.int .i64 0, .int .i64 0, .int .i64 0, .int .i64 0, .string ⟨#[]⟩, .slice none 0 0] 53)) hs
  have hat0 : At w w.heap.size (w.alloc (.cells #[.int .i64 0, .int .i64 0, .int .i64 0, .int .i64 0, .string ⟨#[]⟩, .slice none 0 0] 53)) := At.start w _
  rw [ha] at c1
  have hgd := Ps.all_good s.data.toList
  clear ha
  generalize (Wd.all s.data.toList).2.1 = at_ at *
  generalize (Wd.all s.data.toList).1 = ws at *
  go_enter Tryz.func29, Tryz.ntmps29
  go_wp2_with fail
  refine c1.mono ?_
  rintro r w1 ⟨v, rfl, hown, hb1⟩
  clear c1
  have HA1 : Hid (At w w.heap.size w1) := hat0.step' (P := Any) trivial (fun _ _ _ => trivial) (Kept.of_below hb1)
  obtain ⟨⟨ao, cap, rfl⟩, hr⟩ := rd_made (s.size : Int) hgd hown
  have sw1 : w.heap.size < w1.heap.size := HA1.out.s
  have HA2 : Hid (At w w.heap.size (w1.alloc (.cells #[.slice ao ws.length cap, .int .i64 0, .int .i64 s.size, .bool false, .int .i64 0] 79))) := HA1.out.alloc _
  unfold maxLen at hs
  clear hb1 hown hat0 HA1
  have hl60 := hgd.1
  have c2 := (reads_all w1.heap.size ws 200 200 0 f q _ (Nat.le_refl _) hr).2.2 hx
  unfold FR at c2
  obtain ⟨wf1, wd1, wq1, _⟩ := Ps.P_some hgd hx (s := 0) rfl (Nat.zero_le _)
  clear hx hr
  go_wp2_with fail
  refine c2.mono ?_
  rintro r w2 ⟨o1, k1, l1, h1, t1, x1, n1, rfl, hl2, hw2⟩
  clear c2
  have s2 : w1.heap.size < w2.heap.size := hw2.1.lt
  have hat2 : At w w.heap.size w2 := HA2.out.up (rb := w1.heap.size) sw1 hw2.2
  have HA3 : Hid (At w w.heap.size (w2.alloc (.cells #[.int .i64 o1, .int .i64 k1, .int .i64 l1, .int .i64 h1, .string t1, .slice x1 n1 n1] 53))) := hat2.alloc _
  have hRU : Rd (w2.alloc (.cells #[.int .i64 o1, .int .i64 k1, .int .i64 l1, .int .i64 h1, .string t1, .slice x1 n1 n1] 53)) w1.heap.size ws (q) := hw2.1.below ((Below.refl _ w2).alloc s2 _)
  have ne1 : w.heap.size ≠ w1.heap.size := by omega
  have ne2 : w1.heap.size ≠ w.heap.size := by omega
  have ne3 : w.heap.size ≠ w2.heap.size := by omega
  have ne4 : w2.heap.size ≠ w.heap.size := by omega
  obtain ⟨_, _, _, ao9, cap9, en9, po, b9, q0, q1, q2, q3, q4, _, _⟩ := hw2.1
  have d1 : decide ((q : Int) < (ws.length : Int)) = true := decide_eq_true (by omega)
  have d2 : decide (q < ws.length) = true := decide_eq_true (by omega)
  have c3 := fail44 w1.heap.size ws q q _ hRU (by omega)
  clear hq hRU hl2 hw2 hat2 hgd HA2
  generalize ws.length = len at *
  go_wp2_with fail
  refine c3.mono ?_
  rintro r w3 ⟨rfl, hw3⟩
  clear c3 q0 q1 q2 q3 q4
  have HA : Hid (At w w.heap.size w3) := HA3.out.up (rb := w1.heap.size) sw1 hw3.2
  obtain ⟨_, ao8, len8, cap8, pp, en8, po8, _, _, q0, q1, q2, q3, q4⟩ := hw3.1
  clear hw3 HA3
  have z1 := HA.out.z
  have f1 := HA.out.f
  have s1 := HA.out.s
  go_wp2_with fail
  go_region
  all_goals (
    go_wp2
    refine bodyPost_ret (v := .tuple #[.agg #[.int .i64 0, .int .i64 0, .int .i64 0, .int .i64 0, .string ⟨#[]⟩, .slice none 0 0], .int .i64 po8, .bool false]) (by simp [results, Tryz.results29, go_sem, z1]) rfl (pq_mk ?_)
    first | exact (bel_six HA.out.bel).drew | exact bel_six HA.out.bel)

end Rf
end Go.Proofs.YtdeojcodbojmoaaGreatDoor
namespace Go.Proofs.YtdeojcodbojmoaaGreatDoor
namespace Rf
open Go.RowKit
set_option maxRecDepth 100000
set_option linter.unusedVariables false

set_option maxHeartbeats 4000000 in
theorem rp_deep (s : ByteArray) (w : World) (f : Ps.Ft) (hs : s.size ≤ maxLen) (ha : (Wd.all s.data.toList).2.2 = true) (hx : Ps.P (Wd.all s.data.toList).1 .or 0 = some (f, (Wd.all s.data.toList).1.length)) (hd : 6 < f.deep) : Calls Tryz.prog 29 #[.string s] w (PQ false w) := by
  have c1 := words_any s (w.alloc (.cells #[.int .i64 0, .int .i64 0, .int .i64 0, .int .i64 0, .string ⟨#[]⟩, .slice none 0 0] 53)) hs
  have hat0 : At w w.heap.size (w.alloc (.cells #[.int .i64 0, .int .i64 0, .int .i64 0, .int .i64 0, .string ⟨#[]⟩, .slice none 0 0] 53)) := At.start w _
  rw [ha] at c1
  have hgd := Ps.all_good s.data.toList
  clear ha
  generalize (Wd.all s.data.toList).2.1 = at_ at *
  generalize (Wd.all s.data.toList).1 = ws at *
  go_enter Tryz.func29, Tryz.ntmps29
  go_wp2_with fail
  refine c1.mono ?_
  rintro r w1 ⟨v, rfl, hown, hb1⟩
  clear c1
  have HA1 : Hid (At w w.heap.size w1) := hat0.step' (P := Any) trivial (fun _ _ _ => trivial) (Kept.of_below hb1)
  obtain ⟨⟨ao, cap, rfl⟩, hr⟩ := rd_made (s.size : Int) hgd hown
  have sw1 : w.heap.size < w1.heap.size := HA1.out.s
  have HA2 : Hid (At w w.heap.size (w1.alloc (.cells #[.slice ao ws.length cap, .int .i64 0, .int .i64 s.size, .bool false, .int .i64 0] 79))) := HA1.out.alloc _
  unfold maxLen at hs
  clear hb1 hown hat0 HA1
  have hl60 := hgd.1
  have c2 := (reads_all w1.heap.size ws 200 200 0 f ws.length _ (Nat.le_refl _) hr).2.2 hx
  unfold FR at c2
  obtain ⟨wf1, wd1, wq1, _⟩ := Ps.P_some hgd hx (s := 0) rfl (Nat.zero_le _)
  clear hx hr
  go_wp2_with fail
  refine c2.mono ?_
  rintro r w2 ⟨o1, k1, l1, h1, t1, x1, n1, rfl, hl2, hw2⟩
  clear c2
  have s2 : w1.heap.size < w2.heap.size := hw2.1.lt
  have hat2 : At w w.heap.size w2 := HA2.out.up (rb := w1.heap.size) sw1 hw2.2
  have HA3 : Hid (At w w.heap.size (w2.alloc (.cells #[.int .i64 o1, .int .i64 k1, .int .i64 l1, .int .i64 h1, .string t1, .slice x1 n1 n1] 53))) := hat2.alloc _
  have hRU : Rd (w2.alloc (.cells #[.int .i64 o1, .int .i64 k1, .int .i64 l1, .int .i64 h1, .string t1, .slice x1 n1 n1] 53)) w1.heap.size ws (ws.length) := hw2.1.below ((Below.refl _ w2).alloc s2 _)
  have ne1 : w.heap.size ≠ w1.heap.size := by omega
  have ne2 : w1.heap.size ≠ w.heap.size := by omega
  have ne3 : w.heap.size ≠ w2.heap.size := by omega
  have ne4 : w2.heap.size ≠ w.heap.size := by omega
  obtain ⟨_, _, _, ao9, cap9, en9, po, b9, q0, q1, q2, q3, q4, _, _⟩ := hw2.1
  have d1 : decide ((ws.length : Int) < (ws.length : Int)) = false := decide_eq_false (by omega)
  have d2 : decide (ws.length < ws.length) = false := decide_eq_false (by omega)
  have c3 := deep26 f (w2.alloc (.cells #[.int .i64 o1, .int .i64 k1, .int .i64 l1, .int .i64 h1, .string t1, .slice x1 n1 n1] 53)) o1 k1 l1 h1 t1 x1 n1 (by omega) ((Lies.mono (fun _ _ _ => trivial) f hl2 : Lies Any w2 f o1 k1 l1 h1 t1 x1 n1).below ((Below.refl _ w2).alloc (Nat.le_refl _) _))
  have hdI : decide ((6 : Int) < (f.deep : Int)) = true := decide_eq_true (by omega)
  have hdN : decide (6 < f.deep) = true := decide_eq_true (by omega)
  generalize f.deep = dp at *
  clear hRU hl2 hw2 hat2 hgd HA2 wf1 wd1 wq1 hd
  generalize ws.length = len at *
  go_wp2_with fail
  refine c3.mono ?_
  rintro r w3 ⟨rfl, hb3⟩
  clear c3 q0 q1 q2 q3 q4
  have HA : Hid (At w w.heap.size w3) := HA3.out.step' (P := Any) trivial (fun _ _ _ => trivial) (Kept.of_below hb3)
  have y3 : ∀ i, w3.cell? ⟨w2.heap.size, i, none⟩ = (#[.int .i64 o1, .int .i64 k1, .int .i64 l1, .int .i64 h1, .string t1, .slice x1 n1 n1] : Array Value)[i]? := fun i => by rw [hb3.cell (p := ⟨w2.heap.size, i, none⟩) (by simp)]; simp
  have s3 : w2.heap.size < w3.heap.size := by have := hb3.size; simp at this; omega
  clear hb3 HA3
  have z1 := HA.out.z
  have f1 := HA.out.f
  have s1 := HA.out.s
  go_wp2
  refine bodyPost_ret (v := .tuple #[.agg #[.int .i64 0, .int .i64 0, .int .i64 0, .int .i64 0, .string ⟨#[]⟩, .slice none 0 0], .int .i64 s.size, .bool false]) (by simp [results, Tryz.results29, go_sem, z1]) rfl (pq_mk (bel_six HA.out.bel))

end Rf
end Go.Proofs.YtdeojcodbojmoaaGreatDoor
namespace Go.Proofs.YtdeojcodbojmoaaGreatDoor
namespace Rf
open Go.RowKit
set_option maxRecDepth 100000
set_option linter.unusedVariables false

set_option maxHeartbeats 4000000 in
theorem rp_yes (s : ByteArray) (w : World) (f : Ps.Ft) (hs : s.size ≤ maxLen) (ha : (Wd.all s.data.toList).2.2 = true) (hx : Ps.P (Wd.all s.data.toList).1 .or 0 = some (f, (Wd.all s.data.toList).1.length)) (hd : f.deep ≤ 6) : Calls Tryz.prog 29 #[.string s] w (PQ true w) := by
  have c1 := words_any s (w.alloc (.cells #[.int .i64 0, .int .i64 0, .int .i64 0, .int .i64 0, .string ⟨#[]⟩, .slice none 0 0] 53)) hs
  have hat0 : At w w.heap.size (w.alloc (.cells #[.int .i64 0, .int .i64 0, .int .i64 0, .int .i64 0, .string ⟨#[]⟩, .slice none 0 0] 53)) := At.start w _
  rw [ha] at c1
  have hgd := Ps.all_good s.data.toList
  clear ha
  generalize (Wd.all s.data.toList).2.1 = at_ at *
  generalize (Wd.all s.data.toList).1 = ws at *
  go_enter Tryz.func29, Tryz.ntmps29
  go_wp2_with fail
  refine c1.mono ?_
  rintro r w1 ⟨v, rfl, hown, hb1⟩
  clear c1
  have HA1 : Hid (At w w.heap.size w1) := hat0.step' (P := Any) trivial (fun _ _ _ => trivial) (Kept.of_below hb1)
  obtain ⟨⟨ao, cap, rfl⟩, hr⟩ := rd_made (s.size : Int) hgd hown
  have sw1 : w.heap.size < w1.heap.size := HA1.out.s
  have HA2 : Hid (At w w.heap.size (w1.alloc (.cells #[.slice ao ws.length cap, .int .i64 0, .int .i64 s.size, .bool false, .int .i64 0] 79))) := HA1.out.alloc _
  unfold maxLen at hs
  clear hb1 hown hat0 HA1
  have hl60 := hgd.1
  have c2 := (reads_all w1.heap.size ws 200 200 0 f ws.length _ (Nat.le_refl _) hr).2.2 hx
  unfold FR at c2
  obtain ⟨wf1, wd1, wq1, _⟩ := Ps.P_some hgd hx (s := 0) rfl (Nat.zero_le _)
  clear hx hr
  go_wp2_with fail
  refine c2.mono ?_
  rintro r w2 ⟨o1, k1, l1, h1, t1, x1, n1, rfl, hl2, hw2⟩
  clear c2
  have s2 : w1.heap.size < w2.heap.size := hw2.1.lt
  have hat2 : At w w.heap.size w2 := HA2.out.up (rb := w1.heap.size) sw1 hw2.2
  have HA3 : Hid (At w w.heap.size (w2.alloc (.cells #[.int .i64 o1, .int .i64 k1, .int .i64 l1, .int .i64 h1, .string t1, .slice x1 n1 n1] 53))) := hat2.alloc _
  have hRU : Rd (w2.alloc (.cells #[.int .i64 o1, .int .i64 k1, .int .i64 l1, .int .i64 h1, .string t1, .slice x1 n1 n1] 53)) w1.heap.size ws (ws.length) := hw2.1.below ((Below.refl _ w2).alloc s2 _)
  have ne1 : w.heap.size ≠ w1.heap.size := by omega
  have ne2 : w1.heap.size ≠ w.heap.size := by omega
  have ne3 : w.heap.size ≠ w2.heap.size := by omega
  have ne4 : w2.heap.size ≠ w.heap.size := by omega
  obtain ⟨_, _, _, ao9, cap9, en9, po, b9, q0, q1, q2, q3, q4, _, _⟩ := hw2.1
  have d1 : decide ((ws.length : Int) < (ws.length : Int)) = false := decide_eq_false (by omega)
  have d2 : decide (ws.length < ws.length) = false := decide_eq_false (by omega)
  have c3 := deep26 f (w2.alloc (.cells #[.int .i64 o1, .int .i64 k1, .int .i64 l1, .int .i64 h1, .string t1, .slice x1 n1 n1] 53)) o1 k1 l1 h1 t1 x1 n1 (by omega) ((Lies.mono (fun _ _ _ => trivial) f hl2 : Lies Any w2 f o1 k1 l1 h1 t1 x1 n1).below ((Below.refl _ w2).alloc (Nat.le_refl _) _))
  have hdI : decide ((6 : Int) < (f.deep : Int)) = false := decide_eq_false (by omega)
  have hdN : decide (6 < f.deep) = false := decide_eq_false (by omega)
  generalize f.deep = dp at *
  clear hRU hl2 hw2 hat2 hgd HA2 wf1 wd1 wq1 hd
  generalize ws.length = len at *
  go_wp2_with fail
  refine c3.mono ?_
  rintro r w3 ⟨rfl, hb3⟩
  clear c3 q0 q1 q2 q3 q4
  have HA : Hid (At w w.heap.size w3) := HA3.out.step' (P := Any) trivial (fun _ _ _ => trivial) (Kept.of_below hb3)
  have y3 : ∀ i, w3.cell? ⟨w2.heap.size, i, none⟩ = (#[.int .i64 o1, .int .i64 k1, .int .i64 l1, .int .i64 h1, .string t1, .slice x1 n1 n1] : Array Value)[i]? := fun i => by rw [hb3.cell (p := ⟨w2.heap.size, i, none⟩) (by simp)]; simp
  have s3 : w2.heap.size < w3.heap.size := by have := hb3.size; simp at this; omega
  clear hb3 HA3
  have z1 := HA.out.z
  have f1 := HA.out.f
  have s1 := HA.out.s
  go_wp2
  refine bodyPost_ret (v := .tuple #[.agg #[.int .i64 o1, .int .i64 k1, .int .i64 l1, .int .i64 h1, .string t1, .slice x1 n1 n1], .int .i64 0, .bool true]) (by simp [results, Tryz.results29, go_sem, z1]) rfl (pq_mk (bel_six HA.out.bel))

end Rf
end Go.Proofs.YtdeojcodbojmoaaGreatDoor
namespace Go.Proofs.YtdeojcodbojmoaaGreatDoor
namespace Rf
open Go.RowKit
set_option maxRecDepth 100000
set_option linter.unusedVariables false

/-- cardamomref4.Parse. -/
theorem rprs29 (s : ByteArray) (w : World) (hs : s.size ≤ maxLen) : Calls Tryz.prog 29 #[.string s] w (PQ (Ps.okP s.data.toList) w) := by
  unfold Ps.okP Ps.whole
  show Calls Tryz.prog 29 #[.string s] w (PQ ((Wd.all s.data.toList).2.2 && (match (match Ps.P (Wd.all s.data.toList).1 .or 0 with
    | some (f, q) => if q = (Wd.all s.data.toList).1.length then some f else none
    | none => none) with
    | some f => decide (f.deep ≤ 6)
    | none => false)) w)
  cases ha : (Wd.all s.data.toList).2.2 with
  | false => exact rp_no s w hs ha
  | true =>
    cases hx : Ps.P (Wd.all s.data.toList).1 .or 0 with
    | none => exact rp_bad s w hs ha hx
    | some y =>
      obtain ⟨f, q⟩ := y
      simp only [Bool.true_and]
      by_cases hq : q = (Wd.all s.data.toList).1.length
      · rw [if_pos hq]
        rw [hq] at hx
        simp only
        by_cases hd : f.deep ≤ 6
        · rw [decide_eq_true hd]; exact rp_yes s w f hs ha hx hd
        · rw [decide_eq_false hd]; exact rp_deep s w f hs ha hx (by omega)
      · rw [if_neg hq]; exact rp_rest s w f q hs ha hx hq

end Rf
end Go.Proofs.YtdeojcodbojmoaaGreatDoor
namespace Go.Proofs.YtdeojcodbojmoaaGreatDoor
open Go.RowKit
set_option maxRecDepth 100000
set_option linter.unusedVariables false

theorem tms_low {e : Int} (h : e < 0) : tms e = false := by simp [tms]; omega
theorem tms_high {e : Int} (h : 1000000 < e) : tms e = false := by simp [tms]; omega
theorem tms_ok {e : Int} (h : ¬ e < 0) (h' : ¬ 1000000 < e) : tms e = true := by simp [tms]; omega

theorem mayV_low {v : Vw} {n : Int} (h : v.Rev < 0) : mayV v n = false := by
  unfold mayV
  rw [if_neg (by omega)]
  have : tms v.Rev = false := by simp [tms]; omega
  simp [this]
theorem mayV_high {v : Vw} {n : Int} (h : 1000000 < v.Rev) : mayV v n = false := by
  unfold mayV
  rw [if_neg (by omega)]
  have : tms v.Rev = false := by simp [tms]; omega
  simp [this]
theorem mayV_none {v : Vw} {n : Int} (h1 : 1 ≤ v.R) (h2 : v.R ≤ n) (h : v.Rev = 0) : mayV v n = (v.f.toList.isEmpty && (decide (v.sn.length = 0) && decide (v.ep.length = 0))) := by
  have hE : (v.f.toList == (⟨#[]⟩ : ByteArray).toList) = v.f.toList.isEmpty := by
    have : (⟨#[]⟩ : ByteArray).toList = [] := by decide +kernel
    rw [this]; cases v.f.toList <;> rfl
  unfold mayV
  rw [if_pos h, decide_eq_true h1, decide_eq_true h2]
  unfold sv
  simp only [hE]
  simp [h]
theorem mayV_some {v : Vw} {n : Int} (h1 : 1 ≤ v.R) (h2 : v.R ≤ n) (h3 : v.Rev ≠ 0) (h4 : 0 ≤ v.Rev) (h5 : v.Rev ≤ 1000000) : mayV v n = (Ps.okP v.f.data.toList && (hsOk v.sn 0 && (decide ((v.ep.length : Int) = n) && v.ep.all tms))) := by
  unfold mayV
  have : tms v.Rev = true := by simp [tms]; omega
  rw [if_neg h3, decide_eq_true h1, decide_eq_true h2, this]
  simp

set_option maxHeartbeats 4000000 in
theorem rmv_no (c : Vc) (n : Int) (w : World) (h : c.R < 1 ∨ n < c.R ∨ c.Rev < 0 ∨ 1000000 < c.Rev) :
    Calls Tryz.prog 13 #[.agg #[.int .i64 c.R, .int .i64 c.Rev, .string c.f, .slice c.sa c.sn c.sc, .slice c.ea c.en c.ec], .int .i64 n] w fun r w' => r = .returned (.bool false) ∧ Below w.heap.size w w' := by
  by_cases g1 : c.R < 1
  · have d1 : decide (c.R < 1) = true := decide_eq_true g1
    clear g1 h
    go_enter Tryz.func13, Tryz.ntmps13
    go_wp2
    go_ret
    exact ⟨rfl, (Below.refl _ w).alloc (Nat.le_refl _) _⟩
  · have d1 : decide (c.R < 1) = false := decide_eq_false g1
    by_cases g2 : n < c.R
    · have d2 : decide (n < c.R) = true := decide_eq_true g2
      clear g1 g2 h
      go_enter Tryz.func13, Tryz.ntmps13
      go_wp2
      go_ret
      exact ⟨rfl, (Below.refl _ w).alloc (Nat.le_refl _) _⟩
    · have d2 : decide (n < c.R) = false := decide_eq_false g2
      by_cases g3 : c.Rev < 0
      · have d3 : decide (c.Rev < 0) = true := decide_eq_true g3
        clear g1 g2 g3 h
        go_enter Tryz.func13, Tryz.ntmps13
        go_wp2
        go_ret
        exact ⟨rfl, (Below.refl _ w).alloc (Nat.le_refl _) _⟩
      · have d3 : decide (c.Rev < 0) = false := decide_eq_false g3
        have d4 : decide (1000000 < c.Rev) = true := decide_eq_true (by omega)
        clear g1 g2 g3 h
        go_enter Tryz.func13, Tryz.ntmps13
        go_wp2
        go_ret
        exact ⟨rfl, (Below.refl _ w).alloc (Nat.le_refl _) _⟩

set_option maxHeartbeats 4000000 in
theorem rmv_none (c : Vc) (n : Int) (w : World) (h1 : 1 ≤ c.R) (h2 : c.R ≤ n) (h : c.Rev = 0) :
    Calls Tryz.prog 13 #[.agg #[.int .i64 c.R, .int .i64 c.Rev, .string c.f, .slice c.sa c.sn c.sc, .slice c.ea c.en c.ec], .int .i64 n] w fun r w' => r = .returned (.bool (c.f.toList.isEmpty && (decide (c.sn = 0) && decide (c.en = 0)))) ∧ Below w.heap.size w w' := by
  have d1 : decide (c.R < 1) = false := decide_eq_false (by omega)
  have d2 : decide (n < c.R) = false := decide_eq_false (by omega)
  have d3 : decide (c.Rev < 0) = false := decide_eq_false (by omega)
  have d4 : decide (1000000 < c.Rev) = false := decide_eq_false (by omega)
  have d5 : (c.Rev == 0) = true := by simp [h]
  obtain ⟨R, Rev, f, sa, sn, sc, ea, en, ec⟩ := c
  simp only at *
  clear h h1 h2
  generalize hE : f.toList.isEmpty = E at *
  cases E with
  | false =>
    go_enter Tryz.func13, Tryz.ntmps13
    go_wp2
    go_ret
    exact ⟨by simp, (Below.refl _ w).alloc (Nat.le_refl _) _⟩
  | true =>
    by_cases q1 : sn = 0
    · subst q1
      by_cases q2 : en = 0
      · subst q2
        go_enter Tryz.func13, Tryz.ntmps13
        go_wp2
        go_ret
        exact ⟨by simp, (Below.refl _ w).alloc (Nat.le_refl _) _⟩
      · have e2 : ((en : Int) == 0) = false := by simp; omega
        have HQ : Hid (¬ en = 0) := q2
        clear q2
        go_enter Tryz.func13, Tryz.ntmps13
        go_wp2
        go_ret
        exact ⟨by simp [HQ.out], (Below.refl _ w).alloc (Nat.le_refl _) _⟩
    · have e1 : ((sn : Int) == 0) = false := by simp; omega
      have HQ : Hid (¬ sn = 0) := q1
      clear q1
      go_enter Tryz.func13, Tryz.ntmps13
      go_wp2
      go_ret
      exact ⟨by simp [HQ.out], (Below.refl _ w).alloc (Nat.le_refl _) _⟩

set_option maxHeartbeats 8000000 in
theorem rmv_some (P : Nat → Prop) (c : Vc) (v : Vw) (n : Int) (w : World) (hl : Lz P w c v) (h1 : 1 ≤ c.R) (h2 : c.R ≤ n) (h3 : c.Rev ≠ 0) (h4 : 0 ≤ c.Rev) (h5 : c.Rev ≤ 1000000) :
    Calls Tryz.prog 13 #[.agg #[.int .i64 c.R, .int .i64 c.Rev, .string c.f, .slice c.sa c.sn c.sc, .slice c.ea c.en c.ec], .int .i64 n] w fun r w' => r = .returned (.bool (Ps.okP v.f.data.toList && (hsOk v.sn 0 && (decide ((v.ep.length : Int) = n) && v.ep.all tms)))) ∧ Below w.heap.size w w' := by
  have d1 : decide (c.R < 1) = false := decide_eq_false (by omega)
  have d2 : decide (n < c.R) = false := decide_eq_false (by omega)
  have d3 : decide (c.Rev < 0) = false := decide_eq_false (by omega)
  have d4 : decide (1000000 < c.Rev) = false := decide_eq_false (by omega)
  have d5 : (c.Rev == 0) = false := by simp [h3]
  have ef := hl.f
  have esn := hl.sn
  have een := hl.en
  have cp := Rf.rprs29 c.f (w.alloc (.cells #[.int .i64 c.R, .int .i64 c.Rev, .string c.f, .slice c.sa c.sn c.sc, .slice c.ea c.en c.ec] 25)) (by rw [ef]; have := hl.fs; unfold maxLen; omega)
  have cH := fun (w' : World) (hb : Below w.heap.size w w') => mhd30 P c.sa c.sc v.sn w' (by have := (hl.below hb).heads; rwa [esn] at this)
  have hI := hl.ints
  rw [← esn] at cH
  generalize hM : (Ps.okP v.f.data.toList && (hsOk v.sn 0 && (decide ((v.ep.length : Int) = n) && v.ep.all tms))) = M
  rw [← een] at hM
  rw [← ef] at hM
  generalize Ps.okP c.f.data.toList = bP at *
  generalize hsOk v.sn 0 = bS at *
  have HM : Hid ((bP && (bS && (decide ((c.en : Int) = n) && v.ep.all tms))) = M) := hM
  have HC : Hid _ := cH
  have HI : Hid (Rdz P w 1 c.ea c.en (icells v.ep) ∧ c.en = v.ep.length) := ⟨hI, een⟩
  have hen : c.en ≤ 1000 := hI.2.1
  clear hM hl ef esn een cH hI h1 h2 h3 h4 h5
  obtain ⟨R, Rev, f, sa, sn, sc, ea, en, ec⟩ := c
  simp only at *
  go_enter Tryz.func13, Tryz.ntmps13
  go_wp2_with fail
  refine cp.mono ?_
  rintro r w1 ⟨⟨o, k, l, h, t, x, m, at_, rfl⟩, hb1⟩
  clear cp
  have hs1 : w.heap.size < w1.heap.size := by have := hb1.size; simp at this; omega
  have z1 : ∀ i, w1.cell? ⟨w.heap.size, i, none⟩ = (#[.int .i64 R, .int .i64 Rev, .string f, .slice sa sn sc, .slice ea en ec] : Array Value)[i]? := fun i => by rw [hb1.cell (p := ⟨w.heap.size, i, none⟩) (by simp)]; simp
  have HB1 : Hid (Below w.heap.size w w1) := ((Below.refl _ w).alloc (Nat.le_refl _) _).trans (hb1.mono (by simp))
  clear hb1
  cases bP with
  | false =>
    go_wp2
    go_ret
    exact ⟨by have := HM.out; simp at this; rw [← this]; rfl, HB1.out.alloc HB1.out.size _⟩
  | true =>
    obtain ⟨U, hU⟩ : ∃ U, U = w1.alloc (.cells #[.int .i64 o, .int .i64 k, .int .i64 l, .int .i64 h, .string t, .slice x m m] 53) := ⟨_, rfl⟩
    have zU : ∀ i, U.cell? ⟨w.heap.size, i, none⟩ = (#[.int .i64 R, .int .i64 Rev, .string f, .slice sa sn sc, .slice ea en ec] : Array Value)[i]? := fun i => by rw [hU, World.cell?_alloc_past _ _ _ (hn := hs1)]; exact z1 i
    have sU : w.heap.size < U.heap.size := by rw [hU]; simp; omega
    have hBU : Below w.heap.size w U := by rw [hU]; exact HB1.out.alloc HB1.out.size _
    have HU : Hid (U = w1.alloc (.cells #[.int .i64 o, .int .i64 k, .int .i64 l, .int .i64 h, .string t, .slice x m m] 53)) := hU
    have c30 := HC.out U hBU
    have HBU : Hid (Below w.heap.size w U) := hBU
    clear hU hBU
    go_wp2_with fail
    rw [← HU.out]
    refine c30.mono ?_
    rintro r w3 ⟨rfl, hb3⟩
    clear z1 HU c30
    have z3 : ∀ i, w3.cell? ⟨w.heap.size, i, none⟩ = (#[.int .i64 R, .int .i64 Rev, .string f, .slice sa sn sc, .slice ea en ec] : Array Value)[i]? := fun i => (hb3.cell (p := ⟨w.heap.size, i, none⟩) sU).trans (zU i)
    have HB3 : Hid (Below w.heap.size w w3) := HBU.out.trans (hb3.mono HBU.out.size)
    clear zU hb3
    cases bS with
    | false =>
      go_wp2
      go_ret
      exact ⟨by have := HM.out; simp at this; rw [← this]; rfl, HB3.out⟩
    | true =>
      by_cases hn : (en : Int) = n
      · have dn : ((en : Int) == n) = true := by simpa using hn
        have HN : Hid (v.ep.all tms = M) := by have := HM.out; rw [decide_eq_true hn] at this; show v.ep.all tms = M; simpa using this
        have HE : Hid ((en : Int) = n) := hn
        clear HM hn
        go_wp2_with fail
        go_loopw [8] (fun i wr => ∃ k : Nat, k ≤ en ∧ i = .int .i64 k ∧ Hid ((v.ep.drop k).all tms = M) ∧ wr = w3) (fun i _ => en - (intOf i).toNat)
        case atStart => exact ⟨0, Nat.zero_le _, rfl, by show _ = M; simpa using HN.out, rfl⟩
        case round =>
          obtain ⟨k, hk, rfl, hS, rfl⟩ := hrel
          by_cases hkl : k < en
          · have dk : decide ((k : Int) < n) = true := decide_eq_true (by have := HE.out; omega)
            obtain ⟨b, off, rfl, _, hbw, hc⟩ := HI.out.1.2.2 (by omega)
            have hkl' : k < v.ep.length := by have := HI.out.2; omega
            have u0 := (HB3.out.cell (p := ⟨b, off + k, none⟩) hbw).trans (int_at hc k hkl')
            have hS' := hS.out
            rw [List.drop_eq_getElem_cons hkl', List.all_cons] at hS'
            have HS : Hid ((tms v.ep[k] && (v.ep.drop (k + 1)).all tms) = M) := hS'
            have hbr : b < wr.heap.size := Nat.lt_of_lt_of_le hbw HB3.out.size
            clear hc hS hS' hbw
            generalize v.ep[k] = e at *
            by_cases e1 : e < 0
            · have de : decide (e < 0) = true := decide_eq_true e1
              have HF : Hid (M = false) := by have := HS.out; rw [tms_low e1] at this; show M = false; simpa using this.symm
              clear e1 HS
              go_wp2
              go_ret
              exact ⟨by rw [HF.out]; rfl, HB3.out⟩
            · have de : decide (e < 0) = false := decide_eq_false e1
              by_cases e2 : 1000000 < e
              · have df : decide (1000000 < e) = true := decide_eq_true e2
                have HF : Hid (M = false) := by have := HS.out; rw [tms_high e2] at this; show M = false; simpa using this.symm
                clear e1 e2 HS
                go_wp2
                go_ret
                exact ⟨by rw [HF.out]; rfl, HB3.out⟩
              · have df : decide (1000000 < e) = false := decide_eq_false e2
                have HF : Hid ((v.ep.drop (k + 1)).all tms = M) := by have := HS.out; rw [tms_ok e1 e2] at this; show _ = M; simpa using this
                clear e1 e2 HS
                go_wp2
                go_roundw
                case rel => exact ⟨k + 1, by omega, by go_num, HF, by trivial⟩
                case measure => simp [intOf]; omega
          · have dk : decide ((k : Int) < n) = false := decide_eq_false (by have := HE.out; omega)
            have HF : Hid (M = true) := by have := hS.out; rw [List.drop_of_length_le (by have := HI.out.2; omega)] at this; exact this.symm
            clear hS
            go_wp2
            go_ret
            exact ⟨by rw [HF.out]; rfl, HB3.out⟩
      · have dn : ((en : Int) == n) = false := by simpa using hn
        have HN : Hid (false = M) := by have := HM.out; rw [decide_eq_false hn] at this; show false = M; simpa using this
        clear HM hn
        go_wp2
        go_ret
        exact ⟨by rw [← HN.out]; rfl, HB3.out⟩

/-- cardamomref11.MayView. -/
theorem rmv13 (P : Nat → Prop) (c : Vc) (v : Vw) (n : Int) (w : World) (hl : Lz P w c v) :
    Calls Tryz.prog 13 #[.agg #[.int .i64 c.R, .int .i64 c.Rev, .string c.f, .slice c.sa c.sn c.sc, .slice c.ea c.en c.ec], .int .i64 n] w fun r w' => r = .returned (.bool (mayV v n)) ∧ Below w.heap.size w w' := by
  have eR := hl.R
  have eV := hl.Rev
  by_cases h : c.R < 1 ∨ n < c.R ∨ c.Rev < 0 ∨ 1000000 < c.Rev
  · have hm : mayV v n = false := by
      rcases h with h | h | h | h
      · unfold mayV; rw [decide_eq_false (by omega)]; rfl
      · unfold mayV; rw [decide_eq_false (show ¬ v.R ≤ n by omega)]; simp
      · exact mayV_low (by omega)
      · exact mayV_high (by omega)
    rw [hm]
    exact rmv_no c n w h
  · by_cases h0 : c.Rev = 0
    · rw [mayV_none (by omega) (by omega) (by omega), ← hl.f, ← hl.sn, ← hl.en]
      exact rmv_none c n w (by omega) (by omega) h0
    · rw [mayV_some (by omega) (by omega) (by omega) (by omega) (by omega)]
      exact rmv_some P c v n w hl (by omega) (by omega) h0 (by omega) (by omega)

end Go.Proofs.YtdeojcodbojmoaaGreatDoor
