/- cardamomref4.of: each of the first with each of the second. -/
import Derived.Test.YtflpdekifkcfkabRset
import Derived.Deep.DeepCutAuto
import Derived.Deep.LoopGhost
namespace Go.Proofs.Ytflpdekifkcfkab
open Go.RowKit
set_option linter.unusedVariables false

set_option maxRecDepth 100000 in
set_option maxHeartbeats 8000000 in
theorem rof_meets1 (op : Int) (hop : 5 ≤ op ∧ op ≤ 6) (g6 : (op == 6) = true) (w : World) (b : Nat) (o1 k1 l1 h1 : Int) (t1 : ByteArray) (x1 : Option Addr) (n1 : Nat) (s : Six w b 0 o1 k1 l1 h1 t1 x1 n1) (o2 k2 l2 h2 : Int) (t2 : ByteArray) (x2 : Option Addr) (n2 : Nat) (s' : Six w b 6 o2 k2 l2 h2 t2 x2 n2)
    (la lb : List Ev.Bx) (lenA : la.length ≤ 16) (lenB : lb.length ≤ 16) (n m : Nat) (okA : ∀ x ∈ la, x.ok n) (okB : ∀ x ∈ lb, x.ok m) (hn : n ≤ 500) (hm : m ≤ 500)
    (c1 : ∀ w', Below w.heap.size w w' → Calls Try.prog 28 #[.agg #[.int .i64 o1, .int .i64 k1, .int .i64 l1, .int .i64 h1, .string t1, .slice x1 n1 n1], .bool true] w' (RPost w' (some la)))
    (c2 : ∀ w', Below w.heap.size w w' → Calls Try.prog 28 #[.agg #[.int .i64 o2, .int .i64 k2, .int .i64 l2, .int .i64 h2, .string t2, .slice x2 n2 n2], .bool true] w' (RPost w' (some lb))) :
    Calls Try.prog 28 #[.agg #[.int .i64 op, .int .i64 0, .int .i64 0, .int .i64 0, .string ⟨#[]⟩, .slice (some ⟨b, 0, none⟩) 2 2], .bool true] w (RPost w (Ev.few (Ev.meets la lb))) := by
  have hb0 := s.lt
  obtain ⟨q0, q1, q2, q3, q4, q5⟩ := s
  obtain ⟨u0, u1, u2, u3, u4, u5⟩ := s'
  simp only [Nat.zero_add] at q1 q2 q3 q4 q5
  have e1 : (op == 1) = false := beq_eq_false_iff_ne.2 (by omega)
  have e2 : (op == 2) = false := beq_eq_false_iff_ne.2 (by omega)
  have e3 : (op == 3) = false := beq_eq_false_iff_ne.2 (by omega)
  have e4 : (op == 4) = false := beq_eq_false_iff_ne.2 (by omega)
  have e7 : (op == 7) = false := beq_eq_false_iff_ne.2 (by omega)
  obtain ⟨L, hL⟩ : ∃ L, L = (Ev.meets la lb) := ⟨_, rfl⟩
  rw [← hL]
  have HL : Hid (L = (Ev.meets la lb)) := hL
  clear hL
  unfold RPost at c1 c2 ⊢
  simp only [Option.isSome_some, Option.getD_some] at c1 c2
  obtain ⟨R, hR⟩ : ∃ R, R = Ev.few L := ⟨_, rfl⟩
  rw [← hR]
  have HR : Hid (R = Ev.few L) := hR
  clear hR
  go_enter Try.func28, Try.ntmps28
  go_wp2_with fail
  obtain ⟨W, hW⟩ : ∃ W, W = (w.alloc (.cells #[.int .i64 op, .int .i64 0, .int .i64 0, .int .i64 0, .string ⟨#[]⟩, .slice (some ⟨b, 0, none⟩) 2 2] 26)).alloc (.cells #[.int .i64 0, .int .i64 0, .int .i64 0, .int .i64 0, .int .i64 0, .int .i64 0, .int .i64 0, .int .i64 0, .int .i64 0, .int .i64 0, .int .i64 0, .int .i64 0, .string ⟨#[]⟩, .slice none 0 0] 40) := ⟨_, rfl⟩
  rw [← hW]
  have hbW : Below w.heap.size w W := by rw [hW]; exact ((Below.refl _ _).alloc (Nat.le_refl _) _).alloc (by simp) _
  have fc : ∀ i, W.cell? ⟨w.heap.size, i, none⟩ = (#[.int .i64 op, .int .i64 0, .int .i64 0, .int .i64 0, .string ⟨#[]⟩, .slice (some ⟨b, 0, none⟩) 2 2] : Array Value)[i]? := fun i => by rw [hW, World.cell?_alloc_past _ _ _ (hn := by simp)]; simp
  have hsW : w.heap.size < W.heap.size := by rw [hW]; simp; omega
  clear hW
  refine (c1 _ hbW).mono ?_
  rintro e w1 ⟨v1, rfl, r1, hb1⟩
  obtain ⟨a1, z1, rfl⟩ := r1.slice
  have hbw1 : Below w.heap.size w w1 := hbW.trans (hb1.mono hbW.size)
  have hcl : ∀ i, w1.cell? ⟨b, i, none⟩ = w.cell? ⟨b, i, none⟩ := fun i => hbw1.cell hb0
  have fc1 : ∀ i, w1.cell? ⟨w.heap.size, i, none⟩ = (#[.int .i64 op, .int .i64 0, .int .i64 0, .int .i64 0, .string ⟨#[]⟩, .slice (some ⟨b, 0, none⟩) 2 2] : Array Value)[i]? := fun i => (hb1.cell (p := ⟨w.heap.size, i, none⟩) hsW).trans (fc i)
  have hs1 : w.heap.size < w1.heap.size := Nat.lt_of_lt_of_le hsW hb1.size
  clear fc hb1 c1
  go_wp2_with fail
  refine (c2 _ hbw1).mono ?_
  rintro e w2 ⟨v2, rfl, r2, hb2⟩
  obtain ⟨a2, z2, rfl⟩ := r2.slice
  have hbw2 : Below w.heap.size w w2 := hbw1.trans (hb2.mono hbw1.size)
  have fc2 : ∀ i, w2.cell? ⟨w.heap.size, i, none⟩ = (#[.int .i64 op, .int .i64 0, .int .i64 0, .int .i64 0, .string ⟨#[]⟩, .slice (some ⟨b, 0, none⟩) 2 2] : Array Value)[i]? := fun i => (hb2.cell (p := ⟨w.heap.size, i, none⟩) hs1).trans (fc1 i)
  have hs2 : w.heap.size < w2.heap.size := Nat.lt_of_lt_of_le hs1 hb2.size
  have R1 := (r1.mono (B' := w.heap.size) hbW.size).below hb2
  have R2 := r2.mono (B' := w.heap.size) hbw1.size
  clear fc1 hb2 c2 hcl r1 r2 q0 q1 q2 q3 q4 q5 u0 u1 u2 u3 u4 u5 hbW hbw1
  have hbound : ∀ i (hi : i < la.length) j, (upto la lb i hi j).length ≤ 272 := fun i hi j => Nat.le_trans (upto_len la lb i hi j) (by
    have : la.length * lb.length ≤ 16 * 16 := Nat.mul_le_mul lenA lenB
    omega)
  have HB2 : Hid (Below w.heap.size w w2) := hbw2
  have HRR : Hid (RowB w.heap.size w2 (.slice a1 la.length z1) la ∧ RowB w.heap.size w2 (.slice a2 lb.length z2) lb) := ⟨R1, R2⟩
  clear hbw2 R1 R2
  go_wp2_with fail
  clear fc2
  go_loopg [13, 14] la.length (fun gg v ii wr => ∃ i : Nat, i ≤ la.length ∧ gg = la.length - i ∧ ii = .int .i64 i ∧ RowB w2.heap.size wr v (Ev.meets (la.take i) lb) ∧ Below w2.heap.size w2 wr)
  case atStart => exact ⟨0, by omega, rfl, rfl, RowB.nil _ _, Below.refl _ _⟩
  case round =>
    obtain ⟨i, hi, hgi, rfl, RO, hbo⟩ := hrel
    have HGI : Hid (gk = la.length - i) := hgi
    clear hgi
    obtain ⟨vo, vc, rfl⟩ := RO.slice
    by_cases hlt : i < la.length
    · have hii : (i : Int) < (la.length : Int) := by omega
      have hbd := hbound i hlt
      have RO0 : RowB w2.heap.size wr (.slice vo (Ev.meets (la.take i) lb).length vc) (upto la lb i hlt 0) := by rw [upto_zero]; exact RO
      have HO : Hid (RowB w2.heap.size wr (.slice vo (Ev.meets (la.take i) lb).length vc) (upto la lb i hlt 0) ∧ Below w2.heap.size w2 wr) := ⟨RO0, hbo⟩
      clear RO RO0 hbo hbound
      go_wp2_with fail
      go_loopg [13, 15] lb.length (fun gg v jj wr => ∃ j : Nat, j ≤ lb.length ∧ gg = lb.length - j ∧ jj = .int .i64 j ∧ RowB w2.heap.size wr v (upto la lb i hlt j) ∧ Below w2.heap.size w2 wr)
      case atStart => exact ⟨0, by omega, rfl, rfl, HO.out.1, HO.out.2⟩
      case round =>
        obtain ⟨j, hj, hgj, rfl, RI, hbi⟩ := hrel
        have HGJ : Hid (gk = lb.length - j) := hgj
        clear hgj
        obtain ⟨io, ic, rfl⟩ := RI.slice
        by_cases hjt : j < lb.length
        · have hji : (j : Int) < (lb.length : Int) := by omega
          obtain ⟨g1, xo, xc, rfl, _, hg1, nx, hc1⟩ := (HRR.out.1.below hbi).at i hlt
          obtain ⟨g2, yo, yc, rfl, _, hg2, ny, hc2⟩ := (HRR.out.2.below hbi).at j hjt
          have ox := okA _ (List.getElem_mem hlt)
          have oy := okB _ (List.getElem_mem hjt)
          obtain ⟨x, hx⟩ : ∃ x, x = la[i] := ⟨_, rfl⟩
          obtain ⟨y, hy⟩ : ∃ y, y = lb[j] := ⟨_, rfl⟩
          rw [← hx] at nx hc1 ox
          rw [← hy] at ny hc2 oy
          have HM : Hid (Ev.meet la[i] lb[j] = Ev.meet x y) := by rw [hx, hy]; exact rfl
          clear hx hy
          have q0 : wr.cell? ⟨g1, i * 14, none⟩ = some (.int .i64 (x.s 0).how) := hc1 0 _ rfl
          have q1 : wr.cell? ⟨g1, i * 14 + 1, none⟩ = some (.int .i64 (x.s 0).lo) := hc1 1 _ rfl
          have q2 : wr.cell? ⟨g1, i * 14 + 2, none⟩ = some (.int .i64 (x.s 0).hi) := hc1 2 _ rfl
          have q3 : wr.cell? ⟨g1, i * 14 + 3, none⟩ = some (.int .i64 (x.s 1).how) := hc1 3 _ rfl
          have q4 : wr.cell? ⟨g1, i * 14 + 4, none⟩ = some (.int .i64 (x.s 1).lo) := hc1 4 _ rfl
          have q5 : wr.cell? ⟨g1, i * 14 + 5, none⟩ = some (.int .i64 (x.s 1).hi) := hc1 5 _ rfl
          have q6 : wr.cell? ⟨g1, i * 14 + 6, none⟩ = some (.int .i64 (x.s 2).how) := hc1 6 _ rfl
          have q7 : wr.cell? ⟨g1, i * 14 + 7, none⟩ = some (.int .i64 (x.s 2).lo) := hc1 7 _ rfl
          have q8 : wr.cell? ⟨g1, i * 14 + 8, none⟩ = some (.int .i64 (x.s 2).hi) := hc1 8 _ rfl
          have q9 : wr.cell? ⟨g1, i * 14 + 9, none⟩ = some (.int .i64 (x.s 3).how) := hc1 9 _ rfl
          have q10 : wr.cell? ⟨g1, i * 14 + 10, none⟩ = some (.int .i64 (x.s 3).lo) := hc1 10 _ rfl
          have q11 : wr.cell? ⟨g1, i * 14 + 11, none⟩ = some (.int .i64 (x.s 3).hi) := hc1 11 _ rfl
          have q12 : wr.cell? ⟨g1, i * 14 + 12, none⟩ = some (.string x.tag) := hc1 12 _ rfl
          have q13 : wr.cell? ⟨g1, i * 14 + 13, none⟩ = some (.slice xo x.nots.length xc) := hc1 13 _ rfl
          have s0 : wr.cell? ⟨g2, j * 14, none⟩ = some (.int .i64 (y.s 0).how) := hc2 0 _ rfl
          have s1 : wr.cell? ⟨g2, j * 14 + 1, none⟩ = some (.int .i64 (y.s 0).lo) := hc2 1 _ rfl
          have s2 : wr.cell? ⟨g2, j * 14 + 2, none⟩ = some (.int .i64 (y.s 0).hi) := hc2 2 _ rfl
          have s3 : wr.cell? ⟨g2, j * 14 + 3, none⟩ = some (.int .i64 (y.s 1).how) := hc2 3 _ rfl
          have s4 : wr.cell? ⟨g2, j * 14 + 4, none⟩ = some (.int .i64 (y.s 1).lo) := hc2 4 _ rfl
          have s5 : wr.cell? ⟨g2, j * 14 + 5, none⟩ = some (.int .i64 (y.s 1).hi) := hc2 5 _ rfl
          have s6 : wr.cell? ⟨g2, j * 14 + 6, none⟩ = some (.int .i64 (y.s 2).how) := hc2 6 _ rfl
          have s7 : wr.cell? ⟨g2, j * 14 + 7, none⟩ = some (.int .i64 (y.s 2).lo) := hc2 7 _ rfl
          have s8 : wr.cell? ⟨g2, j * 14 + 8, none⟩ = some (.int .i64 (y.s 2).hi) := hc2 8 _ rfl
          have s9 : wr.cell? ⟨g2, j * 14 + 9, none⟩ = some (.int .i64 (y.s 3).how) := hc2 9 _ rfl
          have s10 : wr.cell? ⟨g2, j * 14 + 10, none⟩ = some (.int .i64 (y.s 3).lo) := hc2 10 _ rfl
          have s11 : wr.cell? ⟨g2, j * 14 + 11, none⟩ = some (.int .i64 (y.s 3).hi) := hc2 11 _ rfl
          have s12 : wr.cell? ⟨g2, j * 14 + 12, none⟩ = some (.string y.tag) := hc2 12 _ rfl
          have s13 : wr.cell? ⟨g2, j * 14 + 13, none⟩ = some (.slice yo y.nots.length yc) := hc2 13 _ rfl
          clear hc1 hc2
          have cm := fun w' (hb : Below wr.heap.size wr w') => rmeet20 x y xo yo xc yc n m _ _ w' ox oy hn hm (nx.below hb) (ny.below hb)
          obtain ⟨mr, hmr⟩ : ∃ mr, mr = Ev.meet x y := ⟨_, rfl⟩
          rw [← hmr] at cm
          have HMR : Hid (Ev.meet la[i] lb[j] = mr) := HM.out.trans hmr.symm
          obtain ⟨z, hz⟩ : ∃ z, z = mr.getD Ev.zero := ⟨_, rfl⟩
          obtain ⟨mk, hmk⟩ : ∃ mk, mk = mr.isSome := ⟨_, rfl⟩
          unfold MPost at cm
          rw [← hz, ← hmk] at cm
          have HZ : Hid (z = mr.getD Ev.zero ∧ mk = mr.isSome) := ⟨hz, hmk⟩
          unfold Bval at cm
          have hbA : Below wr.heap.size wr (wr.alloc (.cells #[.int .i64 0, .int .i64 0, .int .i64 0, .int .i64 0, .int .i64 0, .int .i64 0, .int .i64 0, .int .i64 0, .int .i64 0, .int .i64 0, .int .i64 0, .int .i64 0, .string ⟨#[]⟩, .slice none 0 0] 40)).drew := ((Below.refl _ _).alloc (Nat.le_refl _) _).drew
          have hbD : Below wr.heap.size wr wr.drew := (Below.refl _ _).drew
          have HI : Hid (RowB w2.heap.size wr (.slice io (upto la lb i hlt j).length ic) (upto la lb i hlt j) ∧ Below w2.heap.size w2 wr ∧ Below wr.heap.size wr (wr.alloc (.cells #[.int .i64 0, .int .i64 0, .int .i64 0, .int .i64 0, .int .i64 0, .int .i64 0, .int .i64 0, .int .i64 0, .int .i64 0, .int .i64 0, .int .i64 0, .int .i64 0, .string ⟨#[]⟩, .slice none 0 0] 40)).drew ∧ Below wr.heap.size wr wr.drew) := ⟨RI, hbi, hbA, hbD⟩
          have n1' : wr.heap.size ≠ g1 := by omega
          have n2' : wr.heap.size ≠ g2 := by omega
          clear hmr hz hmk HM nx ny ox oy RI hbi hbA hbD
          go_wp2_with fail
          go_cut [16, 17] (fun s16 s17 wx => ∃ nn o cap, s16 = .pointer (some ⟨nn, 0, none⟩) ∧ s17 = .bool mk ∧ wx.heap[nn]? = some (.cells #[.int .i64 (z.s 0).how, .int .i64 (z.s 0).lo, .int .i64 (z.s 0).hi, .int .i64 (z.s 1).how, .int .i64 (z.s 1).lo, .int .i64 (z.s 1).hi, .int .i64 (z.s 2).how, .int .i64 (z.s 2).lo, .int .i64 (z.s 2).hi, .int .i64 (z.s 3).how, .int .i64 (z.s 3).lo, .int .i64 (z.s 3).hi, .string z.tag, .slice o z.nots.length cap] 40 (0, 0)) ∧ Nt wr.heap.size wx o cap z.nots ∧ Below wr.heap.size wr wx)
          case first =>
            go_region_held3 (fun w' => w'.cell? ⟨g1, i * 14, none⟩ = some (.int .i64 (x.s 0).how) ∧ w'.cell? ⟨g1, i * 14 + 1, none⟩ = some (.int .i64 (x.s 0).lo) ∧ w'.cell? ⟨g1, i * 14 + 2, none⟩ = some (.int .i64 (x.s 0).hi) ∧ w'.cell? ⟨g1, i * 14 + 3, none⟩ = some (.int .i64 (x.s 1).how) ∧ w'.cell? ⟨g1, i * 14 + 4, none⟩ = some (.int .i64 (x.s 1).lo) ∧ w'.cell? ⟨g1, i * 14 + 5, none⟩ = some (.int .i64 (x.s 1).hi) ∧ w'.cell? ⟨g1, i * 14 + 6, none⟩ = some (.int .i64 (x.s 2).how) ∧ w'.cell? ⟨g1, i * 14 + 7, none⟩ = some (.int .i64 (x.s 2).lo) ∧ w'.cell? ⟨g1, i * 14 + 8, none⟩ = some (.int .i64 (x.s 2).hi) ∧ w'.cell? ⟨g1, i * 14 + 9, none⟩ = some (.int .i64 (x.s 3).how) ∧ w'.cell? ⟨g1, i * 14 + 10, none⟩ = some (.int .i64 (x.s 3).lo) ∧ w'.cell? ⟨g1, i * 14 + 11, none⟩ = some (.int .i64 (x.s 3).hi) ∧ w'.cell? ⟨g1, i * 14 + 12, none⟩ = some (.string x.tag) ∧ w'.cell? ⟨g1, i * 14 + 13, none⟩ = some (.slice xo x.nots.length xc) ∧ w'.cell? ⟨g2, j * 14, none⟩ = some (.int .i64 (y.s 0).how) ∧ w'.cell? ⟨g2, j * 14 + 1, none⟩ = some (.int .i64 (y.s 0).lo) ∧ w'.cell? ⟨g2, j * 14 + 2, none⟩ = some (.int .i64 (y.s 0).hi) ∧ w'.cell? ⟨g2, j * 14 + 3, none⟩ = some (.int .i64 (y.s 1).how) ∧ w'.cell? ⟨g2, j * 14 + 4, none⟩ = some (.int .i64 (y.s 1).lo) ∧ w'.cell? ⟨g2, j * 14 + 5, none⟩ = some (.int .i64 (y.s 1).hi) ∧ w'.cell? ⟨g2, j * 14 + 6, none⟩ = some (.int .i64 (y.s 2).how) ∧ w'.cell? ⟨g2, j * 14 + 7, none⟩ = some (.int .i64 (y.s 2).lo) ∧ w'.cell? ⟨g2, j * 14 + 8, none⟩ = some (.int .i64 (y.s 2).hi) ∧ w'.cell? ⟨g2, j * 14 + 9, none⟩ = some (.int .i64 (y.s 3).how) ∧ w'.cell? ⟨g2, j * 14 + 10, none⟩ = some (.int .i64 (y.s 3).lo) ∧ w'.cell? ⟨g2, j * 14 + 11, none⟩ = some (.int .i64 (y.s 3).hi) ∧ w'.cell? ⟨g2, j * 14 + 12, none⟩ = some (.string y.tag) ∧ w'.cell? ⟨g2, j * 14 + 13, none⟩ = some (.slice yo y.nots.length yc))
              (go_keep)
              (first
                | (go_at_call 44; refine (cm (wr.alloc (.cells #[.int .i64 0, .int .i64 0, .int .i64 0, .int .i64 0, .int .i64 0, .int .i64 0, .int .i64 0, .int .i64 0, .int .i64 0, .int .i64 0, .int .i64 0, .int .i64 0, .string ⟨#[]⟩, .slice none 0 0] 40)).drew HI.out.2.2.1).mono ?_; rintro e w3 ⟨hb3, o, cap, rfl, hnt⟩; obtain ⟨hcl, hfl, zz1⟩ := callee_new hb3; obtain ⟨hn1, hf1⟩ := callee_own hb3)
                | (go_at_call 44; refine (cm wr.drew HI.out.2.2.2).mono ?_; rintro e w3 ⟨hb3, o, cap, rfl, hnt⟩; obtain ⟨hcl, hfl, zz1⟩ := callee_old hb3; have o1' := callee_ne zz1 hg1; have o2' := callee_ne zz1 hg2))
            · go_wp2_with fail
              go_meet
              have hbx : Below wr.heap.size wr w3 := (HI.out.2.2.2).trans (hb3.mono (by exact Nat.le_refl _))
              exact ⟨w3.heap.size, o, cap, rfl, rfl, heap_alloc_new _ _, (hnt.below ((Below.refl _ _).alloc (Nat.le_refl _) _)), hbx.alloc hbx.size _⟩
            · go_wp2_with fail
              go_meet
              have hbx : Below wr.heap.size wr w3 := (HI.out.2.2.1).trans (hb3.mono HI.out.2.2.1.size)
              have KK : w3.heap[wr.heap.size]? = some (.cells #[.int .i64 0, .int .i64 0, .int .i64 0, .int .i64 0, .int .i64 0, .int .i64 0, .int .i64 0, .int .i64 0, .int .i64 0, .int .i64 0, .int .i64 0, .int .i64 0, .string ⟨#[]⟩, .slice none 0 0] 40 (0, 0)) := (hb3.block _ (by simp)).trans (heap_at _ _ rfl)
              exact ⟨wr.heap.size, o, cap, rfl, rfl, set14 KK _ _ _ _ _ _ _ _ _ _ _ _ _ _, (hnt.mono HI.out.2.2.1.size).keep (fun b c _ hc => far14 (by intro e; rw [← e, KK] at hc; simp at hc) _ _ _ _ _ _ _ _ _ _ _ _ _ _), below14 hbx (Nat.le_refl _) _ _ _ _ _ _ _ _ _ _ _ _ _ _⟩
          case rest =>
            obtain ⟨nn, o, cap, rfl, rfl, hnn, hnt, hbx⟩ := hcut
            obtain ⟨C, _⟩ := cells_of hnn
            clear cm hnn s0 s1 s2 s3 s4 s5 s6 s7 s8 s9 s10 s11 s12 s13 q0 q1 q2 q3 q4 q5 q6 q7 q8 q9 q10 q11 q12 q13
            have hws := HI.out.2.1.size
            have hws' := hbx.size
            have Z : Hid (Below wr.heap.size wr wc) := hbx
            cases hmr' : mr with
            | none =>
              have hmk : mk = false := by rw [HZ.out.2, hmr']; rfl
              have HN' : Hid (upto la lb i hlt (j + 1) = upto la lb i hlt j) := upto_none la lb i hlt j hjt (HMR.out.trans hmr')
              rw [hmk]
              clear hmk hmr' hnt hbx C
              go_wp2
              go_roundg (lb.length - (j + 1))
              case measure => have := HGJ.out; omega
              case rel => exact ⟨j + 1, by omega, rfl, by go_num, by rw [HN'.out]; exact HI.out.1.below Z.out, HI.out.2.1.trans (Z.out.mono hws)⟩
            | some z0 =>
              have hmk : mk = true := by rw [HZ.out.2, hmr']; rfl
              have hz' : z = z0 := by rw [HZ.out.1, hmr']; rfl
              have HN' : Hid (upto la lb i hlt (j + 1) = upto la lb i hlt j ++ [z]) := by
                have := upto_some la lb i hlt j hjt z0 (HMR.out.trans hmr')
                rw [hz']; exact this
              rw [hmk]
              have Z2 : Below wr.heap.size wr (wc.alloc (.cells (bcells (z, o, cap)).toArray 40)) := hbx.alloc hws' _
              have hnt2 := (hnt.below ((Below.refl wc.heap.size wc).alloc (Nat.le_refl _) (.cells (bcells (z, o, cap)).toArray 40))).mono (B' := w2.heap.size) hws
              have K2 : Hid (Below wr.heap.size wr (wc.alloc (.cells (bcells (z, o, cap)).toArray 40)) ∧ RowB w2.heap.size (wc.alloc (.cells (bcells (z, o, cap)).toArray 40)) (.slice io (upto la lb i hlt j).length ic) (upto la lb i hlt j) ∧ Nt w2.heap.size (wc.alloc (.cells (bcells (z, o, cap)).toArray 40)) o cap z.nots) := ⟨Z2, HI.out.1.below Z2, hnt2⟩
              have hbl := hbd j
              clear hmk hmr' hz' hnt hbx hnt2 Z2
              go_wp2_with (at_builtin; refine append_box' rfl _ _ rfl w2.heap.size _ (upto la lb i hlt j) rfl K2.out.2.1 (z, o, cap) K2.out.2.2 wc.heap.size rfl ?b1 ?b2 ?b3 ?_)
              case b1 =>
                intro i' u hi'
                rw [World.cell?_alloc_at _ _ _ _ (by simp), List.getElem?_toArray]
                exact hi'
              case b2 => omega
              case b3 => simp; omega
              intro v' w5 R5 hg5 hown
              have P1 : RowB w2.heap.size w5 v' (upto la lb i hlt (j + 1)) := by rw [HN'.out]; exact R5
              have P5 : Below w2.heap.size w2 w5 := (HI.out.2.1.trans (K2.out.1.mono hws)).grown hg5 (by simp; omega) (fun q hq => row_base K2.out.2.1 hq)
              obtain ⟨no, nc, rfl⟩ := P1.slice
              have PP : Hid (_ ∧ _) := ⟨P1, P5⟩
              clear P1 P5 R5 hg5 hown K2 HN' hbl C Z HI hws hws'
              go_wp2
              go_roundg (lb.length - (j + 1))
              case measure => have := HGJ.out; omega
              case rel => exact ⟨j + 1, by omega, rfl, by go_num, PP.out.1, PP.out.2⟩
        · obtain rfl : j = lb.length := by omega
          have PP : Hid (_ ∧ _) := ⟨RI, hbi⟩
          clear RI hbi HO
          go_wp2
          go_roundg (la.length - (i + 1))
          case measure => have := HGI.out; omega
          case rel => exact ⟨i + 1, by omega, rfl, by go_num, by rw [← upto_all la lb i hlt]; exact PP.out.1, PP.out.2⟩
    · obtain rfl : i = la.length := by omega
      have e : Ev.meets (la.take la.length) lb = L := by rw [List.take_length]; exact HL.out.symm
      rw [e] at RO ⊢
      have hbw4 : Below w.heap.size w wr := HB2.out.trans (hbo.mono HB2.out.size)
      have row4 := RO.mono (B' := w.heap.size) HB2.out.size
      have hLl : L.length ≤ 10000 := by
        rw [HL.out]
        have h1 := length_meets la lb
        have h2 : la.length * lb.length ≤ 16 * 16 := Nat.mul_le_mul lenA lenB
        omega
      have cf := few47 L _ w.heap.size wr hLl row4
      rw [← HR.out] at cf
      clear e RO row4 hbo HL HRR hbound
      go_wp2_with fail
      refine cf.mono ?_
      rintro e w5 ⟨v5, rfl, r5, rfl⟩
      obtain ⟨a5, z5, rfl⟩ := r5.slice
      clear cf
      go_wp2
      go_ret2
      exact ⟨_, rfl, r5, hbw4⟩


end Go.Proofs.Ytflpdekifkcfkab
