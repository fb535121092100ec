/- cardamomref4.Meet's contract; few; the boxes of a filter's opposite; what two have, side by side. -/
import Derived.Test.YtflpdekifkcfkabRmeet
import Derived.Test.YtflpdekifkcfkabRleafn
import Derived.Test.YtflpdekifkcfkabTwo
namespace Go.Proofs.Ytflpdekifkcfkab
open Go.RowKit
set_option linter.unusedVariables false

/-- cardamomref4.Meet. -/
theorem rmeet20 (x y : Ev.Bx) (ao bo : Option Addr) (ca cb n m A B : Nat) (w : World) (hx : x.ok n) (hy : y.ok m) (hn : n ≤ 500) (hm : m ≤ 500) (ha : Nt A w ao ca x.nots) (hb : Nt B w bo cb y.nots) :
    Calls Try.prog 44 #[Bval x ao ca, Bval y bo cb] w (MPost w (Ev.meet x y)) := by
  have lx := hx.2.2.1
  have ly := hy.2.2.1
  have sr : ∀ a ∈ Ev.rise (x.nots ++ y.nots), a.length ≤ 1000 := rise_small (fun a h => by
    rw [List.mem_append] at h
    rcases h with h | h
    · exact hx.2.2.2 a h
    · exact hy.2.2.2 a h)
  have c := rmeet_any x.s y.s (fun k => (Ev.meetS (x.s k) (y.s k)).getD Ev.nul) (fun k => (Ev.meetS (x.s k) (y.s k)).isSome) (fun k hk => ⟨hx.1 k hk, hy.1 k hk⟩) (fun k _ => ⟨rfl, rfl⟩) (Ev.begins (Ev.longer x.tag y.tag) x.tag) (Ev.begins (Ev.longer x.tag y.tag) y.tag) (Ev.anyOf (Ev.longer x.tag y.tag) (Ev.rise (x.nots ++ y.nots))) (goodM x y) (show Hid (goodM x y = _) from rfl)
    x.tag y.tag (Ev.longer x.tag y.tag) (show Hid (Ev.longer x.tag y.tag = Ev.longer x.tag y.tag) from rfl) ao bo x.nots.length ca y.nots.length cb (Ev.rise (x.nots ++ y.nots)) w hx.2.1 hy.2.1 x.nots y.nots rfl rfl (show Hid (Ev.rise (x.nots ++ y.nots) = Ev.rise (x.nots ++ y.nots) ∧ x.nots.length ≤ 1000 ∧ y.nots.length ≤ 1000) from ⟨rfl, by omega, by omega⟩) A B ha hb sr ⟨rfl, rfl, rfl⟩
  refine c.mono ?_
  rintro e w' ⟨hb', h⟩
  rw [meet_good]
  rcases h with ⟨hg, rfl⟩ | ⟨hg, o, cap, rfl, hnt⟩
  · rw [if_neg (by rw [hg]; simp)]
    exact ⟨hb', none, 0, rfl, Nt.empty _ _⟩
  · rw [if_pos hg]
    exact ⟨hb', o, cap, rfl, hnt⟩

set_option maxHeartbeats 1000000 in
theorem few_many (ao : Option Addr) (n cap : Nat) (w : World) (hn : n ≤ 10000) (h : 16 < n) :
    Calls Try.prog 43 #[.slice ao n cap] w fun e w' => e = .returned (.tuple #[.slice none 0 0, .bool false]) ∧ w' = w := by
  go_enter Try.func43, Try.ntmps43
  go_wp2
  go_ret2
  exact ⟨rfl, rfl⟩

set_option maxHeartbeats 1000000 in
theorem few_few (ao : Option Addr) (n cap : Nat) (w : World) (h : n ≤ 16) :
    Calls Try.prog 43 #[.slice ao n cap] w fun e w' => e = .returned (.tuple #[.slice ao n cap, .bool true]) ∧ w' = w := by
  go_enter Try.func43, Try.ntmps43
  go_wp2
  go_ret2
  exact ⟨rfl, rfl⟩

/-- cardamomref4.few. -/
theorem few47 (L : List Ev.Bx) (v : Value) (B : Nat) (w : World) (hn : L.length ≤ 10000) (r : RowB B w v L) :
    Calls Try.prog 43 #[v] w fun e w' => ∃ v', e = .returned (.tuple #[v', .bool (Ev.few L).isSome]) ∧ RowB B w v' ((Ev.few L).getD []) ∧ w' = w := by
  obtain ⟨ao, cap, rfl⟩ := r.slice
  unfold Ev.few
  by_cases h : 16 < L.length
  · rw [if_pos h]
    exact (few_many ao L.length cap w hn h).mono (fun e w' ⟨h1, h2⟩ => ⟨_, h1, RowB.nil _ _, h2⟩)
  · rw [if_neg h]
    exact (few_few ao L.length cap w (by omega)).mono (fun e w' ⟨h1, h2⟩ => ⟨_, h1, r, h2⟩)

/-- The document's boxes of a filter without parts. -/
theorem rleaf26 (op key lo hi : Int) (t : ByteArray) (turned : Bool) (w : World) (h : (Ev.Ft.leaf op key lo hi t).fine) :
    Calls Try.prog 28 #[.agg #[.int .i64 op, .int .i64 key, .int .i64 lo, .int .i64 hi, .string t, .slice none 0 0], .bool turned] w (RPost w (some (Ev.leafRow op key lo hi t turned))) := by
  obtain ⟨h1, h2, h3, h4, h5, h6, h7, h8⟩ := h
  have ho : op = 1 ∨ op = 2 ∨ op = 3 ∨ op = 4 := by omega
  obtain ⟨k, rfl⟩ : ∃ k : Nat, key = (k : Int) := ⟨key.toNat, by omega⟩
  unfold Ev.leafRow
  rcases ho with rfl | rfl | rfl | rfl <;> cases turned <;> simp
  · exact rleaf_all k lo hi t w
  · exact rleaf_all_not k lo hi t w
  · exact rleaf_key2 k lo hi t w (by omega) h6 h7 h8
  · exact rleaf_key2_not k lo hi t w (by omega) h6 h7 h8
  · exact rleaf_key3 k lo hi t w (by omega) h6 h7 h8
  · exact rleaf_key3_not k lo hi t w (by omega) h6 h7 h8
  · exact rleaf_tag k lo hi t w
  · exact rleaf_tag_not k lo hi t w

set_option maxRecDepth 100000 in
set_option maxHeartbeats 2000000 in
theorem rof_non (turned : Bool) (w : World) (b : Nat) (o1 k1 l1 h1' : Int) (t1 : ByteArray) (x1 : Option Addr) (n1 : Nat) (s : Six w b 0 o1 k1 l1 h1' t1 x1 n1) (r : Option (List Ev.Bx))
    (c : ∀ w', Below w.heap.size w w' → Calls Try.prog 28 #[.agg #[.int .i64 o1, .int .i64 k1, .int .i64 l1, .int .i64 h1', .string t1, .slice x1 n1 n1], .bool (!turned)] w' (RPost w' r)) :
    Calls Try.prog 28 #[.agg #[.int .i64 7, .int .i64 0, .int .i64 0, .int .i64 0, .string ⟨#[]⟩, .slice (some ⟨b, 0, none⟩) 1 1], .bool turned] w (RPost w r) := by
  have hb0 := s.lt
  obtain ⟨q0, q1, q2, q3, q4, q5⟩ := s
  simp only [Nat.zero_add] at q1 q2 q3 q4 q5
  unfold RPost at c ⊢
  go_enter Try.func28, Try.ntmps28
  go_wp2_with fail
  refine (c _ (((Below.refl _ _).alloc (Nat.le_refl _) _).alloc (by simp) _)).mono ?_
  rintro e w1 ⟨v, rfl, rr, hb⟩
  have hb1 : Below w.heap.size w w1 := (((Below.refl _ _).alloc (Nat.le_refl _) _).alloc (by simp) _).trans (hb.mono (by simp; omega))
  have r0 := rr.mono (B' := w.heap.size) (by simp; omega)
  obtain ⟨ao, cap, rfl⟩ := r0.slice
  clear c rr hb
  go_wp2
  go_ret2
  exact ⟨_, rfl, r0, hb1⟩

set_option maxRecDepth 100000 in
set_option maxHeartbeats 8000000 in
theorem rof_app1 (op : Int) (hop : 5 ≤ op ∧ op ≤ 6) (g6 : (op == 6) = true) (w : World) (b : Nat) (o1 k1 l1 h1 : Int) (t1 : ByteArray) (x1 : Option Addr) (n1 : Nat) (s : Six w b 0 o1 k1 l1 h1 t1 x1 n1) (o2 k2 l2 h2 : Int) (t2 : ByteArray) (x2 : Option Addr) (n2 : Nat) (s' : Six w b 6 o2 k2 l2 h2 t2 x2 n2)
    (la lb : List Ev.Bx) (lenA : la.length ≤ 16) (lenB : lb.length ≤ 16) (n m : Nat) (okA : ∀ x ∈ la, x.ok n) (okB : ∀ x ∈ lb, x.ok m) (hn : n ≤ 500) (hm : m ≤ 500)
    (c1 : ∀ w', Below w.heap.size w w' → Calls Try.prog 28 #[.agg #[.int .i64 o1, .int .i64 k1, .int .i64 l1, .int .i64 h1, .string t1, .slice x1 n1 n1], .bool false] w' (RPost w' (some la)))
    (c2 : ∀ w', Below w.heap.size w w' → Calls Try.prog 28 #[.agg #[.int .i64 o2, .int .i64 k2, .int .i64 l2, .int .i64 h2, .string t2, .slice x2 n2 n2], .bool false] w' (RPost w' (some lb))) :
    Calls Try.prog 28 #[.agg #[.int .i64 op, .int .i64 0, .int .i64 0, .int .i64 0, .string ⟨#[]⟩, .slice (some ⟨b, 0, none⟩) 2 2], .bool false] w (RPost w (Ev.few (la ++ lb))) := by
  have hb0 := s.lt
  obtain ⟨q0, q1, q2, q3, q4, q5⟩ := s
  obtain ⟨u0, u1, u2, u3, u4, u5⟩ := s'
  simp only [Nat.zero_add] at q1 q2 q3 q4 q5
  have e1 : (op == 1) = false := beq_eq_false_iff_ne.2 (by omega)
  have e2 : (op == 2) = false := beq_eq_false_iff_ne.2 (by omega)
  have e3 : (op == 3) = false := beq_eq_false_iff_ne.2 (by omega)
  have e4 : (op == 4) = false := beq_eq_false_iff_ne.2 (by omega)
  have e7 : (op == 7) = false := beq_eq_false_iff_ne.2 (by omega)
  obtain ⟨L, hL⟩ : ∃ L, L = (la ++ lb) := ⟨_, rfl⟩
  rw [← hL]
  have HL : Hid (L = (la ++ lb)) := hL
  clear hL
  unfold RPost at c1 c2 ⊢
  simp only [Option.isSome_some, Option.getD_some] at c1 c2
  obtain ⟨R, hR⟩ : ∃ R, R = Ev.few L := ⟨_, rfl⟩
  rw [← hR]
  have HR : Hid (R = Ev.few L) := hR
  clear hR
  go_enter Try.func28, Try.ntmps28
  go_wp2_with fail
  obtain ⟨W, hW⟩ : ∃ W, W = (w.alloc (.cells #[.int .i64 op, .int .i64 0, .int .i64 0, .int .i64 0, .string ⟨#[]⟩, .slice (some ⟨b, 0, none⟩) 2 2] 26)).alloc (.cells #[.int .i64 0, .int .i64 0, .int .i64 0, .int .i64 0, .int .i64 0, .int .i64 0, .int .i64 0, .int .i64 0, .int .i64 0, .int .i64 0, .int .i64 0, .int .i64 0, .string ⟨#[]⟩, .slice none 0 0] 40) := ⟨_, rfl⟩
  rw [← hW]
  have hbW : Below w.heap.size w W := by rw [hW]; exact ((Below.refl _ _).alloc (Nat.le_refl _) _).alloc (by simp) _
  have fc : ∀ i, W.cell? ⟨w.heap.size, i, none⟩ = (#[.int .i64 op, .int .i64 0, .int .i64 0, .int .i64 0, .string ⟨#[]⟩, .slice (some ⟨b, 0, none⟩) 2 2] : Array Value)[i]? := fun i => by rw [hW, World.cell?_alloc_past _ _ _ (hn := by simp)]; simp
  have hsW : w.heap.size < W.heap.size := by rw [hW]; simp; omega
  clear hW
  refine (c1 _ hbW).mono ?_
  rintro e w1 ⟨v1, rfl, r1, hb1⟩
  obtain ⟨a1, z1, rfl⟩ := r1.slice
  have hbw1 : Below w.heap.size w w1 := hbW.trans (hb1.mono hbW.size)
  have hcl : ∀ i, w1.cell? ⟨b, i, none⟩ = w.cell? ⟨b, i, none⟩ := fun i => hbw1.cell hb0
  have fc1 : ∀ i, w1.cell? ⟨w.heap.size, i, none⟩ = (#[.int .i64 op, .int .i64 0, .int .i64 0, .int .i64 0, .string ⟨#[]⟩, .slice (some ⟨b, 0, none⟩) 2 2] : Array Value)[i]? := fun i => (hb1.cell (p := ⟨w.heap.size, i, none⟩) hsW).trans (fc i)
  have hs1 : w.heap.size < w1.heap.size := Nat.lt_of_lt_of_le hsW hb1.size
  clear fc hb1 c1
  go_wp2_with fail
  refine (c2 _ hbw1).mono ?_
  rintro e w2 ⟨v2, rfl, r2, hb2⟩
  obtain ⟨a2, z2, rfl⟩ := r2.slice
  have hbw2 : Below w.heap.size w w2 := hbw1.trans (hb2.mono hbw1.size)
  have fc2 : ∀ i, w2.cell? ⟨w.heap.size, i, none⟩ = (#[.int .i64 op, .int .i64 0, .int .i64 0, .int .i64 0, .string ⟨#[]⟩, .slice (some ⟨b, 0, none⟩) 2 2] : Array Value)[i]? := fun i => (hb2.cell (p := ⟨w.heap.size, i, none⟩) hs1).trans (fc1 i)
  have hs2 : w.heap.size < w2.heap.size := Nat.lt_of_lt_of_le hs1 hb2.size
  have R1 := (r1.mono (B' := w.heap.size) hbW.size).below hb2
  have R2 := r2.mono (B' := w.heap.size) hbw1.size
  clear fc1 hb2 c2 hcl r1 r2 q0 q1 q2 q3 q4 q5 u0 u1 u2 u3 u4 u5 hbW hbw1
  obtain ⟨es1, m1, t1', S1⟩ := R1.src
  obtain ⟨es2, m2, t2', S2⟩ := R2.src
  obtain ⟨i0, hi, hz0, hz1, hz2⟩ := info_parts Try.info40
  have HI : Hid (Try.prog.info? 40 = some i0 ∧ i0.zero = some (.agg #[.int .i64 0, .int .i64 0, .int .i64 0, .int .i64 0, .int .i64 0, .int .i64 0, .int .i64 0, .int .i64 0, .int .i64 0, .int .i64 0, .int .i64 0, .int .i64 0, .string ⟨#[]⟩, .slice none 0 0]) ∧ i0.size = 14 ∧ i0.bytes = 136) := ⟨hi, hz0, hz1, hz2⟩
  have hE : Below w2.heap.size w2 (w2.alloc (.cells #[] 40)) := (Below.refl _ _).alloc (Nat.le_refl _) _
  have HC : Hid (Src (w2.alloc (.cells #[] 40)) 14 a1 la.length z1 (cellsB es1) ∧ Src w2 14 a2 lb.length z2 (cellsB es2) ∧ (w2.alloc (.cells #[] 40)).ownsRow w2.heap.size 40 14 (.slice (some ⟨w2.heap.size, 0, none⟩) 0 0) 0 [] ∧ Below w2.heap.size w2 (w2.alloc (.cells #[] 40))) := ⟨S1.below hE, S2, own_empty w2 40 14, hE⟩
  have HM : Hid (es1.map (·.1) = la ∧ es2.map (·.1) = lb ∧ (∀ e ∈ es1, Nt w.heap.size w2 e.2.1 e.2.2 e.1.nots) ∧ (∀ e ∈ es2, Nt w.heap.size w2 e.2.1 e.2.2 e.1.nots) ∧ Below w.heap.size w w2) := ⟨m1, m2, t1', t2', hbw2⟩
  clear m1 m2 t1' t2' S1 S2 hE hi hz0 hz1 hz2 R1 R2 hbw2
  go_wp2_with (at_builtin; refine append_src _ rfl (.tmp 132) (.tmp 133) 32 rfl w2.heap.size 40 i0 (.agg #[.int .i64 0, .int .i64 0, .int .i64 0, .int .i64 0, .int .i64 0, .int .i64 0, .int .i64 0, .int .i64 0, .int .i64 0, .int .i64 0, .int .i64 0, .int .i64 0, .string ⟨#[]⟩, .slice none 0 0]) 14 136 Try.underlying32 HI.out.1 HI.out.2.1 HI.out.2.2.1 HI.out.2.2.2 rfl (by decide) _ 0 [] rfl HC.out.2.2.1 a1 la.length z1 (cellsB es1) rfl HC.out.1 (by unfold maxLen; omega) (by omega) HC.out.2.2.2.size ?_)
  intro v3 w3 ho3 hg3
  try simp only [Nat.zero_add, List.nil_append] at ho3
  have hb3 : Below w2.heap.size w2 w3 := HC.out.2.2.2.grown hg3 HC.out.2.2.2.size (fun k hk => (HC.out.2.2.1.lt k hk).1)
  obtain ⟨a3, z3, rfl⟩ := own_sl ho3
  have H3 : Hid (w3.ownsRow w2.heap.size 40 14 (.slice a3 la.length z3) la.length (cellsB es1) ∧ Below w2.heap.size w2 w3) := ⟨ho3, hb3⟩
  clear ho3 hg3 hb3
  go_wp2_with (at_builtin; refine append_src _ rfl (.tmp 134) (.tmp 135) 32 rfl w2.heap.size 40 i0 (.agg #[.int .i64 0, .int .i64 0, .int .i64 0, .int .i64 0, .int .i64 0, .int .i64 0, .int .i64 0, .int .i64 0, .int .i64 0, .int .i64 0, .int .i64 0, .int .i64 0, .string ⟨#[]⟩, .slice none 0 0]) 14 136 Try.underlying32 HI.out.1 HI.out.2.1 HI.out.2.2.1 HI.out.2.2.2 rfl (by decide) _ la.length (cellsB es1) rfl H3.out.1 a2 lb.length z2 (cellsB es2) rfl (HC.out.2.1.below H3.out.2) (by unfold maxLen; omega) (by omega) H3.out.2.size ?_)
  intro v4 w4 ho4 hg4
  have hb4 : Below w2.heap.size w2 w4 := H3.out.2.grown hg4 H3.out.2.size (fun k hk => (H3.out.1.lt k hk).1)
  have row4 : RowB w.heap.size w4 v4 L := by
    obtain ⟨m1, m2, t1', t2', hbw2⟩ := HM.out
    rw [HL.out]
    refine ⟨es1 ++ es2, by rw [List.map_append, m1, m2], fun e he => ?_, ?_⟩
    · rw [List.mem_append] at he
      rcases he with he | he
      · exact (t1' e he).below hb4
      · exact (t2' e he).below hb4
    · rw [cellsB_append, List.length_append]
      exact own_mono ho4 hbw2.size
  have hbw4 : Below w.heap.size w w4 := HM.out.2.2.2.2.trans (hb4.mono HM.out.2.2.2.2.size)
  have hLl : L.length ≤ 10000 := by rw [HL.out]; simp; omega
  have cf := few47 L v4 w.heap.size w4 hLl row4
  obtain ⟨a4, z4, rfl⟩ := own_sl ho4
  rw [← HR.out] at cf
  clear ho4 hg4 hb4 row4 HM H3 HC HI HL
  go_wp2_with fail
  refine cf.mono ?_
  rintro e w5 ⟨v5, rfl, r5, rfl⟩
  obtain ⟨a5, z5, rfl⟩ := r5.slice
  clear cf
  go_wp2
  go_ret2
  exact ⟨_, rfl, r5, hbw4⟩

set_option maxRecDepth 100000 in
set_option maxHeartbeats 8000000 in
theorem rof_app2 (op : Int) (hop : 5 ≤ op ∧ op ≤ 6) (g6 : (op == 6) = false) (w : World) (b : Nat) (o1 k1 l1 h1 : Int) (t1 : ByteArray) (x1 : Option Addr) (n1 : Nat) (s : Six w b 0 o1 k1 l1 h1 t1 x1 n1) (o2 k2 l2 h2 : Int) (t2 : ByteArray) (x2 : Option Addr) (n2 : Nat) (s' : Six w b 6 o2 k2 l2 h2 t2 x2 n2)
    (la lb : List Ev.Bx) (lenA : la.length ≤ 16) (lenB : lb.length ≤ 16) (n m : Nat) (okA : ∀ x ∈ la, x.ok n) (okB : ∀ x ∈ lb, x.ok m) (hn : n ≤ 500) (hm : m ≤ 500)
    (c1 : ∀ w', Below w.heap.size w w' → Calls Try.prog 28 #[.agg #[.int .i64 o1, .int .i64 k1, .int .i64 l1, .int .i64 h1, .string t1, .slice x1 n1 n1], .bool true] w' (RPost w' (some la)))
    (c2 : ∀ w', Below w.heap.size w w' → Calls Try.prog 28 #[.agg #[.int .i64 o2, .int .i64 k2, .int .i64 l2, .int .i64 h2, .string t2, .slice x2 n2 n2], .bool true] w' (RPost w' (some lb))) :
    Calls Try.prog 28 #[.agg #[.int .i64 op, .int .i64 0, .int .i64 0, .int .i64 0, .string ⟨#[]⟩, .slice (some ⟨b, 0, none⟩) 2 2], .bool true] w (RPost w (Ev.few (la ++ lb))) := by
  have hb0 := s.lt
  obtain ⟨q0, q1, q2, q3, q4, q5⟩ := s
  obtain ⟨u0, u1, u2, u3, u4, u5⟩ := s'
  simp only [Nat.zero_add] at q1 q2 q3 q4 q5
  have e1 : (op == 1) = false := beq_eq_false_iff_ne.2 (by omega)
  have e2 : (op == 2) = false := beq_eq_false_iff_ne.2 (by omega)
  have e3 : (op == 3) = false := beq_eq_false_iff_ne.2 (by omega)
  have e4 : (op == 4) = false := beq_eq_false_iff_ne.2 (by omega)
  have e7 : (op == 7) = false := beq_eq_false_iff_ne.2 (by omega)
  obtain ⟨L, hL⟩ : ∃ L, L = (la ++ lb) := ⟨_, rfl⟩
  rw [← hL]
  have HL : Hid (L = (la ++ lb)) := hL
  clear hL
  unfold RPost at c1 c2 ⊢
  simp only [Option.isSome_some, Option.getD_some] at c1 c2
  obtain ⟨R, hR⟩ : ∃ R, R = Ev.few L := ⟨_, rfl⟩
  rw [← hR]
  have HR : Hid (R = Ev.few L) := hR
  clear hR
  go_enter Try.func28, Try.ntmps28
  go_wp2_with fail
  obtain ⟨W, hW⟩ : ∃ W, W = (w.alloc (.cells #[.int .i64 op, .int .i64 0, .int .i64 0, .int .i64 0, .string ⟨#[]⟩, .slice (some ⟨b, 0, none⟩) 2 2] 26)).alloc (.cells #[.int .i64 0, .int .i64 0, .int .i64 0, .int .i64 0, .int .i64 0, .int .i64 0, .int .i64 0, .int .i64 0, .int .i64 0, .int .i64 0, .int .i64 0, .int .i64 0, .string ⟨#[]⟩, .slice none 0 0] 40) := ⟨_, rfl⟩
  rw [← hW]
  have hbW : Below w.heap.size w W := by rw [hW]; exact ((Below.refl _ _).alloc (Nat.le_refl _) _).alloc (by simp) _
  have fc : ∀ i, W.cell? ⟨w.heap.size, i, none⟩ = (#[.int .i64 op, .int .i64 0, .int .i64 0, .int .i64 0, .string ⟨#[]⟩, .slice (some ⟨b, 0, none⟩) 2 2] : Array Value)[i]? := fun i => by rw [hW, World.cell?_alloc_past _ _ _ (hn := by simp)]; simp
  have hsW : w.heap.size < W.heap.size := by rw [hW]; simp; omega
  clear hW
  refine (c1 _ hbW).mono ?_
  rintro e w1 ⟨v1, rfl, r1, hb1⟩
  obtain ⟨a1, z1, rfl⟩ := r1.slice
  have hbw1 : Below w.heap.size w w1 := hbW.trans (hb1.mono hbW.size)
  have hcl : ∀ i, w1.cell? ⟨b, i, none⟩ = w.cell? ⟨b, i, none⟩ := fun i => hbw1.cell hb0
  have fc1 : ∀ i, w1.cell? ⟨w.heap.size, i, none⟩ = (#[.int .i64 op, .int .i64 0, .int .i64 0, .int .i64 0, .string ⟨#[]⟩, .slice (some ⟨b, 0, none⟩) 2 2] : Array Value)[i]? := fun i => (hb1.cell (p := ⟨w.heap.size, i, none⟩) hsW).trans (fc i)
  have hs1 : w.heap.size < w1.heap.size := Nat.lt_of_lt_of_le hsW hb1.size
  clear fc hb1 c1
  go_wp2_with fail
  refine (c2 _ hbw1).mono ?_
  rintro e w2 ⟨v2, rfl, r2, hb2⟩
  obtain ⟨a2, z2, rfl⟩ := r2.slice
  have hbw2 : Below w.heap.size w w2 := hbw1.trans (hb2.mono hbw1.size)
  have fc2 : ∀ i, w2.cell? ⟨w.heap.size, i, none⟩ = (#[.int .i64 op, .int .i64 0, .int .i64 0, .int .i64 0, .string ⟨#[]⟩, .slice (some ⟨b, 0, none⟩) 2 2] : Array Value)[i]? := fun i => (hb2.cell (p := ⟨w.heap.size, i, none⟩) hs1).trans (fc1 i)
  have hs2 : w.heap.size < w2.heap.size := Nat.lt_of_lt_of_le hs1 hb2.size
  have R1 := (r1.mono (B' := w.heap.size) hbW.size).below hb2
  have R2 := r2.mono (B' := w.heap.size) hbw1.size
  clear fc1 hb2 c2 hcl r1 r2 q0 q1 q2 q3 q4 q5 u0 u1 u2 u3 u4 u5 hbW hbw1
  obtain ⟨es1, m1, t1', S1⟩ := R1.src
  obtain ⟨es2, m2, t2', S2⟩ := R2.src
  obtain ⟨i0, hi, hz0, hz1, hz2⟩ := info_parts Try.info40
  have HI : Hid (Try.prog.info? 40 = some i0 ∧ i0.zero = some (.agg #[.int .i64 0, .int .i64 0, .int .i64 0, .int .i64 0, .int .i64 0, .int .i64 0, .int .i64 0, .int .i64 0, .int .i64 0, .int .i64 0, .int .i64 0, .int .i64 0, .string ⟨#[]⟩, .slice none 0 0]) ∧ i0.size = 14 ∧ i0.bytes = 136) := ⟨hi, hz0, hz1, hz2⟩
  have hE : Below w2.heap.size w2 (w2.alloc (.cells #[] 40)) := (Below.refl _ _).alloc (Nat.le_refl _) _
  have HC : Hid (Src (w2.alloc (.cells #[] 40)) 14 a1 la.length z1 (cellsB es1) ∧ Src w2 14 a2 lb.length z2 (cellsB es2) ∧ (w2.alloc (.cells #[] 40)).ownsRow w2.heap.size 40 14 (.slice (some ⟨w2.heap.size, 0, none⟩) 0 0) 0 [] ∧ Below w2.heap.size w2 (w2.alloc (.cells #[] 40))) := ⟨S1.below hE, S2, own_empty w2 40 14, hE⟩
  have HM : Hid (es1.map (·.1) = la ∧ es2.map (·.1) = lb ∧ (∀ e ∈ es1, Nt w.heap.size w2 e.2.1 e.2.2 e.1.nots) ∧ (∀ e ∈ es2, Nt w.heap.size w2 e.2.1 e.2.2 e.1.nots) ∧ Below w.heap.size w w2) := ⟨m1, m2, t1', t2', hbw2⟩
  clear m1 m2 t1' t2' S1 S2 hE hi hz0 hz1 hz2 R1 R2 hbw2
  go_wp2_with (at_builtin; refine append_src _ rfl (.tmp 132) (.tmp 133) 32 rfl w2.heap.size 40 i0 (.agg #[.int .i64 0, .int .i64 0, .int .i64 0, .int .i64 0, .int .i64 0, .int .i64 0, .int .i64 0, .int .i64 0, .int .i64 0, .int .i64 0, .int .i64 0, .int .i64 0, .string ⟨#[]⟩, .slice none 0 0]) 14 136 Try.underlying32 HI.out.1 HI.out.2.1 HI.out.2.2.1 HI.out.2.2.2 rfl (by decide) _ 0 [] rfl HC.out.2.2.1 a1 la.length z1 (cellsB es1) rfl HC.out.1 (by unfold maxLen; omega) (by omega) HC.out.2.2.2.size ?_)
  intro v3 w3 ho3 hg3
  try simp only [Nat.zero_add, List.nil_append] at ho3
  have hb3 : Below w2.heap.size w2 w3 := HC.out.2.2.2.grown hg3 HC.out.2.2.2.size (fun k hk => (HC.out.2.2.1.lt k hk).1)
  obtain ⟨a3, z3, rfl⟩ := own_sl ho3
  have H3 : Hid (w3.ownsRow w2.heap.size 40 14 (.slice a3 la.length z3) la.length (cellsB es1) ∧ Below w2.heap.size w2 w3) := ⟨ho3, hb3⟩
  clear ho3 hg3 hb3
  go_wp2_with (at_builtin; refine append_src _ rfl (.tmp 134) (.tmp 135) 32 rfl w2.heap.size 40 i0 (.agg #[.int .i64 0, .int .i64 0, .int .i64 0, .int .i64 0, .int .i64 0, .int .i64 0, .int .i64 0, .int .i64 0, .int .i64 0, .int .i64 0, .int .i64 0, .int .i64 0, .string ⟨#[]⟩, .slice none 0 0]) 14 136 Try.underlying32 HI.out.1 HI.out.2.1 HI.out.2.2.1 HI.out.2.2.2 rfl (by decide) _ la.length (cellsB es1) rfl H3.out.1 a2 lb.length z2 (cellsB es2) rfl (HC.out.2.1.below H3.out.2) (by unfold maxLen; omega) (by omega) H3.out.2.size ?_)
  intro v4 w4 ho4 hg4
  have hb4 : Below w2.heap.size w2 w4 := H3.out.2.grown hg4 H3.out.2.size (fun k hk => (H3.out.1.lt k hk).1)
  have row4 : RowB w.heap.size w4 v4 L := by
    obtain ⟨m1, m2, t1', t2', hbw2⟩ := HM.out
    rw [HL.out]
    refine ⟨es1 ++ es2, by rw [List.map_append, m1, m2], fun e he => ?_, ?_⟩
    · rw [List.mem_append] at he
      rcases he with he | he
      · exact (t1' e he).below hb4
      · exact (t2' e he).below hb4
    · rw [cellsB_append, List.length_append]
      exact own_mono ho4 hbw2.size
  have hbw4 : Below w.heap.size w w4 := HM.out.2.2.2.2.trans (hb4.mono HM.out.2.2.2.2.size)
  have hLl : L.length ≤ 10000 := by rw [HL.out]; simp; omega
  have cf := few47 L v4 w.heap.size w4 hLl row4
  obtain ⟨a4, z4, rfl⟩ := own_sl ho4
  rw [← HR.out] at cf
  clear ho4 hg4 hb4 row4 HM H3 HC HI HL
  go_wp2_with fail
  refine cf.mono ?_
  rintro e w5 ⟨v5, rfl, r5, rfl⟩
  obtain ⟨a5, z5, rfl⟩ := r5.slice
  clear cf
  go_wp2
  go_ret2
  exact ⟨_, rfl, r5, hbw4⟩

end Go.Proofs.Ytflpdekifkcfkab
