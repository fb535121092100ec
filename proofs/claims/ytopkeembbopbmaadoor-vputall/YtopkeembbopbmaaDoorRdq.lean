/- The program's reader: marks, attributes. -/
import Derived.Test.YtopkeembbopbmaaDoorRdp
import Derived.Test.YtopkeembbopbmaaDoorAts
namespace Go.Proofs.YtopkeembbopbmaaDoor
open Go.RowKit
set_option maxRecDepth 100000
set_option linter.unusedVariables false

theorem bind_rfg (o : Option (List Nat)) : o.bind rfg = (o.bind rd).bind fun x => if x.1 ≤ 1 then some x else none := by cases o <;> rfl
theorem bind_ratP (o : Option (List Nat)) : o.bind ratP = (o.bind rd).bind fun k => if k.1 ≤ 3 then rat k.1 k.2 else none := by cases o <;> rfl

set_option maxHeartbeats 1000000 in
/-- vput's reader: a mark. -/
theorem flag31 (a b : Addr) (rb : Nat) (o : Option (List Nat)) (p : ByteArray) (w : World) (hV : Vars w a b) (h2 : 2 < rb) (hs : RsP w rb o) :
    Calls Tryd.prog 31 #[.pointer (some ⟨rb, 0, none⟩), .string p] w fun r w' => ∃ d : Bool, r = .returned (.bool d) ∧ (∀ x l, o.bind rfg = some (x, l) → x = b2n d) ∧ RsP w' rb ((o.bind rfg).map (·.2)) ∧ Kept (But rb) w w' := by
  have c1 := num30 a b rb o p w hV hs
  have HR : Hid (o.bind rfg = (o.bind rd).bind fun x => if x.1 ≤ 1 then some x else none) := bind_rfg o
  generalize o.bind rfg = R at *
  generalize o.bind rd = q at *
  clear hs hV
  go_enter Tryd.func31, Tryd.ntmps31
  go_wp2_with fail
  refine c1.mono ?_
  rintro r w1 ⟨v, rfl, hv, hx, h0, hs1, hk1⟩
  have H1 : Hid (RsP w1 rb (q.map (·.2)) ∧ Kept (But rb) w w1 ∧ (∀ x l, q = some (x, l) → v = x) ∧ (q = none → v = 0)) := ⟨hs1, hk1, hx, h0⟩
  clear c1 hx h0 hs1 hk1
  by_cases hv1 : v ≤ 1
  · have d1 : decide ((1 : Int) < (v : Int)) = false := decide_eq_false (by omega)
    have d2 : decide (1 < v) = false := decide_eq_false (by omega)
    have HF : Hid (R = q ∧ ∀ x l, q = some (x, l) → x = b2n (decide (v = 1))) := by
      refine ⟨?_, fun x l e => ?_⟩
      · rw [HR.out]
        cases hq : q with
        | none => rfl
        | some y =>
          obtain ⟨y1, y2⟩ := y
          have := H1.out.2.2.1 y1 y2 hq
          show (if y1 ≤ 1 then some (y1, y2) else none) = _
          rw [if_pos (by omega)]
      · have := H1.out.2.2.1 x l e
        unfold b2n
        rcases Nat.eq_zero_or_pos v with h | h
        · rw [decide_eq_false (by omega)]; show x = 0; omega
        · rw [decide_eq_true (by omega)]; show x = 1; omega
    go_wp2
    go_ret
    refine ⟨decide (v = 1), ?_, (fun x l e => HF.out.2 x l (by rw [← HF.out.1]; exact e)), by rw [HF.out.1]; exact H1.out.1, H1.out.2.1⟩
    by_cases h1 : v = 1
    · subst h1; rfl
    · have : ((v : Int) == 1) = false := beq_eq_false_iff_ne.2 (by omega)
      rw [decide_eq_false h1]
      rw [this]
      rfl
  · have d1 : decide ((1 : Int) < (v : Int)) = true := decide_eq_true (by omega)
    have d2 : decide (1 < v) = true := decide_eq_true (by omega)
    have d3 : ((v : Int) == 1) = false := beq_eq_false_iff_ne.2 (by omega)
    have HF : Hid (R = none) := by
      show _ = _
      rw [HR.out]
      cases hq : q with
      | none => rfl
      | some y =>
        obtain ⟨y1, y2⟩ := y
        have := H1.out.2.2.1 y1 y2 hq
        show (if y1 ≤ 1 then some (y1, y2) else none) = _
        rw [if_neg (by omega)]
    have c2 := fun ev k (hk : FauP k ev) => fail34 rb _ k ev w1 H1.out.1 hk
    go_wp2_with fail
    refine (c2 _ 1 ⟨_, _, rfl, _, rfl⟩).mono ?_
    rintro r w2 ⟨rfl, h3, h4⟩
    have H3 : Hid (RsP w2 rb none ∧ Kept (But rb) w1 w2) := ⟨h3, h4⟩
    clear c2 h3 h4
    go_wp2
    go_ret
    refine ⟨false, by first | rfl | (simp; omega), (fun x l e => by rw [HF.out] at e; cases e), by rw [HF.out]; exact H3.out.1, H1.out.2.1.trans H3.out.2⟩

def castA (al : List (Nat × Nat)) : List (Int × Int) := al.map fun x => ((x.1 : Int), (x.2 : Int))

theorem rat_succ (k : Nat) (o : Option (List Nat)) (pre : List (Nat × Nat)) : (o.bind fun l => (rat (k + 1) l).bind fun z => some (pre ++ z.1, z.2)) = (o.bind rd).bind fun x => (rd x.2).bind fun y => (rat k y.2).bind fun z => some ((pre ++ [(x.1, y.1)]) ++ z.1, z.2) := by
  cases o with
  | none => rfl
  | some l =>
    have e : rat (k + 1) l = (rd l).bind fun x => (rd x.2).bind fun y => (rat k y.2).bind fun z => some ((x.1, y.1) :: z.1, z.2) := rfl
    show (rat (k + 1) l).bind _ = (rd l).bind _
    rw [e]
    cases rd l with
    | none => rfl
    | some x =>
      show ((rd x.2).bind _).bind _ = (rd x.2).bind _
      cases rd x.2 with
      | none => rfl
      | some y =>
        show ((rat k y.2).bind _).bind _ = (rat k y.2).bind _
        cases rat k y.2 with
        | none => rfl
        | some z => simp

/-- What the reader tells of attributes. -/
def AtsPost (w w' : World) (rb : Nat) (R : Option (List (Nat × Nat) × List Nat)) (r : Ending) : Prop := ∃ (ao : Option Addr) (n cap : Nat) (al : List (Int × Int)), r = .returned (.slice ao n cap) ∧ At w' ao n al ∧ n ≤ 3 ∧ (∀ b off, ao = some ⟨b, off, none⟩ → w.heap.size ≤ b) ∧ (∀ x l, R = some (x, l) → al = castA x) ∧ RsP w' rb (R.map (·.2)) ∧ Kept (But rb) w w'

set_option maxHeartbeats 4000000 in
/-- vput's reader: attributes. -/
theorem attrs32 (a b : Addr) (rb : Nat) (o : Option (List Nat)) (p : ByteArray) (w : World) (hV : Vars w a b) (h2 : 2 < rb) (hs : RsP w rb o) :
    Calls Tryd.prog 32 #[.pointer (some ⟨rb, 0, none⟩), .string p] w fun r w' => AtsPost w w' rb (o.bind ratP) r := by
  have hlt := hs.lt
  have c1 := num30 a b rb o p w hV hs
  have HR : Hid (o.bind ratP = (o.bind rd).bind fun k => if k.1 ≤ 3 then rat k.1 k.2 else none) := bind_ratP o
  generalize o.bind ratP = R at *
  generalize o.bind rd = q at *
  have HV : Hid (Vars w a b) := hV
  clear hs hV
  go_enter Tryd.func32, Tryd.ntmps32
  go_wp2_with fail
  refine c1.mono ?_
  rintro r w1 ⟨v, rfl, hv, hx, h0, hs1, hk1⟩
  have H1 : Hid (RsP w1 rb (q.map (·.2)) ∧ Kept (But rb) w w1 ∧ (∀ x l, q = some (x, l) → v = x) ∧ (q = none → v = 0)) := ⟨hs1, hk1, hx, h0⟩
  have hs1 : w.heap.size ≤ w1.heap.size := hk1.size
  clear c1 hx h0 hk1
  by_cases hv3 : v ≤ 3
  · have d1 : decide ((3 : Int) < (v : Int)) = false := decide_eq_false (by omega)
    have d2 : decide (3 < v) = false := decide_eq_false (by omega)
    have HF : Hid (R = (q.map (·.2)).bind fun l => (rat v l).bind fun z => some ([] ++ z.1, z.2)) := by
      show _ = _
      rw [HR.out]
      cases hq : q with
      | none => rfl
      | some y =>
        obtain ⟨y1, y2⟩ := y
        have hvy := H1.out.2.2.1 y1 y2 hq
        show (if y1 ≤ 3 then rat y1 y2 else none) = (rat v y2).bind _
        rw [if_pos (by omega), ← hvy]
        cases rat v y2 with
        | none => rfl
        | some z => rfl
    go_wp2_with fail
    go_loopw [6, 20] (fun row i wr => ∃ (j : Nat) (al : List (Int × Int)) (pre : List (Nat × Nat)) (s : Option (List Nat)), j ≤ v ∧ i = .int .i64 j ∧ al.length = j ∧ wr.ownsRow w1.heap.size 42 2 row j (cellsA al) ∧ RsP wr rb s ∧ Kept (But rb) w1 wr ∧ (s ≠ none → al = castA pre) ∧ R = s.bind fun l => (rat (v - j) l).bind fun z => some (pre ++ z.1, z.2)) (fun _ i _ => v - (intOf i).toNat)
    case atStart => exact ⟨0, [], [], _, Nat.zero_le _, rfl, rfl, World.ownsRow_nil _ _ _ _, H1.out.1, Kept.refl _ _, fun _ => rfl, HF.out⟩
    case round =>
      obtain ⟨j, al, pre, s, hj, rfl, hal, hown, hrs, hkk, hpre, hRe⟩ := hrel
      obtain ⟨ro, rc, rfl⟩ := own_slice hown
      have HK : Hid (wr.ownsRow w1.heap.size 42 2 (.slice ro j rc) j (cellsA al) ∧ Kept (But rb) w1 wr ∧ (s ≠ none → al = castA pre) ∧ R = s.bind fun l => (rat (v - j) l).bind fun z => some (pre ++ z.1, z.2)) := ⟨hown, hkk, hpre, hRe⟩
      have hszr : w1.heap.size ≤ wr.heap.size := hkk.size
      by_cases hlt3 : j < v
      · have HVr : Hid (Vars wr a b) := (HV.out.kept (H1.out.2.1.trans hkk) (by unfold But; omega) (by unfold But; omega) (by unfold But; omega))
        have n1 := fun p => num30 a b rb s p wr HVr.out hrs
        have n2 := fun (s' : Option (List Nat)) (W : World) (hh : Vars W a b) (hh2 : RsP W rb s') p => num30 a b rb s' p W hh hh2
        have HN2 : Hid (∀ (s' : Option (List Nat)) (W : World) (hh : Vars W a b) (hh2 : RsP W rb s') p, _) := n2
        have HRA : Hid ((s.bind fun l => (rat (v - j) l).bind fun z => some (pre ++ z.1, z.2)) = (s.bind rd).bind fun x => (rd x.2).bind fun y => (rat (v - (j + 1)) y.2).bind fun z => some ((pre ++ [(x.1, y.1)]) ++ z.1, z.2)) := by
          have e : v - j = (v - (j + 1)) + 1 := by omega
          show _ = _
          rw [e]
          exact rat_succ _ s pre
        have HSN : Hid (s = none → s.bind rd = none) := fun e => by rw [e]; rfl
        clear hown hrs hkk hpre hRe n2
        generalize s.bind rd = t1 at *
        go_wp2_with fail
        refine (n1 _).mono ?_
        rintro r w2 ⟨x, rfl, hxl, hx, hx0, hs2, hk2⟩
        have H2 : Hid (RsP w2 rb (t1.map (·.2)) ∧ Kept (But rb) wr w2 ∧ (∀ y l, t1 = some (y, l) → x = y)) := ⟨hs2, hk2, hx⟩
        have n3 := HN2.out (t1.map (·.2)) w2 (HVr.out.kept hk2 (by unfold But; omega) (by unfold But; omega) (by unfold But; omega)) hs2
        have hsz2 : wr.heap.size ≤ w2.heap.size := hk2.size
        clear n1 hx hx0 hs2 hk2 HN2
        obtain ⟨t2, ht2⟩ : ∃ t2, t2 = (t1.map (·.2)).bind rd := ⟨_, rfl⟩
        have HT2 : Hid (t2 = (t1.map (·.2)).bind rd) := ht2
        rw [← ht2] at n3
        clear ht2
        go_wp2_with fail
        refine (n3 _).mono ?_
        rintro r w3 ⟨y, rfl, hyl, hy, hy0, hs3, hk3⟩
        have H3 : Hid (RsP w3 rb (t2.map (·.2)) ∧ Kept (But rb) wr w3 ∧ (∀ z l, t2 = some (z, l) → y = z)) := ⟨hs3, H2.out.2.1.trans hk3, hy⟩
        have HO3 : Hid (w3.ownsRow w1.heap.size 42 2 (.slice ro j rc) j (cellsA al)) := own_kept (P := But rb) HK.out.1 H3.out.2.1 (fun k hk => by unfold But; omega)
        have hsz3 : w2.heap.size ≤ w3.heap.size := hk3.size
        clear n3 hy hy0 hs3 hk3
        go_wp2_with (at_builtin; refine append_at _ rfl _ _ rfl w1.heap.size _ j al rfl (HO3.out.alloc _) w3.heap.size (x : Int) (y : Int) rfl (by simp) (by simp) (by omega) (by simp; omega) ?_)
        intro v4 w4 hown hgrow
        have K13 : Kept (But rb) w1 w3 := HK.out.2.1.trans H3.out.2.1
        have hb4 : Kept (But rb) w1 w4 := by
          have a1 := K13.alloc (.cells #[.int .i64 (x : Int), .int .i64 (y : Int)] 42)
          refine ⟨hgrow.os.trans a1.os, hgrow.tape.trans a1.tape, hgrow.output.trans a1.output, Nat.le_trans a1.size hgrow.size, fun k hk hk' => ?_⟩
          refine (hgrow.block k (Nat.lt_of_lt_of_le hk a1.size) (fun e => ?_)).trans (a1.block k hk hk')
          have := (HO3.out.lt k e.symm).1
          omega
        have hbe4 : Below (rb + 1) w3 w4 := ((Below.refl _ w3).alloc (by omega) _).grown hgrow (by simp; omega) (fun k hk => by have := (HO3.out.lt k hk).1; omega)
        have HX : Hid (w4.ownsRow w1.heap.size 42 2 v4 (j + 1) (cellsA (al ++ [((x : Int), (y : Int))])) ∧ RsP w4 rb (t2.map (·.2)) ∧ Kept (But rb) w1 w4) := ⟨hown, H3.out.1.below hbe4 (by omega), hb4⟩
        clear hown hgrow hb4 hbe4 K13
        have HY : Hid ((t2.map (·.2) ≠ none → al ++ [((x : Int), (y : Int))] = castA (pre ++ [(x, y)])) ∧ R = (t2.map (·.2)).bind fun l => (rat (v - (j + 1)) l).bind fun z => some ((pre ++ [(x, y)]) ++ z.1, z.2)) := by
          refine ⟨fun hne => ?_, ?_⟩
          · have hs : s ≠ none := by
              intro e
              have e1 := HSN.out e
              apply hne
              rw [HT2.out, e1]; rfl
            rw [HK.out.2.2.1 hs]
            simp [castA]
          · rw [HK.out.2.2.2, HRA.out]
            have hT2 := HT2.out
            cases ht1 : t1 with
            | none => rw [ht1] at hT2; rw [hT2]; rfl
            | some x' =>
              rw [ht1] at hT2
              obtain ⟨x1, x2⟩ := x'
              have ex := H2.out.2.2 x1 x2 ht1
              show (rd x2).bind _ = _
              have hT2' : t2 = rd x2 := hT2
              rw [← hT2']
              cases hq2 : t2 with
              | none => rfl
              | some y' =>
                obtain ⟨y1, y2⟩ := y'
                have ey := H3.out.2.2 y1 y2 hq2
                subst ex ey
                rfl
        go_wp2
        go_roundw
        case rel => exact ⟨j + 1, _, _, _, by omega, by go_num, by simp [hal], HX.out.1, HX.out.2.1, HX.out.2.2, HY.out.1, HY.out.2⟩
        case measure => simp [intOf]; omega
      · have hjv : j = v := by omega
        have HZ : Hid (∃ al', At wr ro j al' ∧ (∀ b off, ro = some ⟨b, off, none⟩ → w.heap.size ≤ b) ∧ (∀ x l, R = some (x, l) → al' = castA x) ∧ RsP wr rb (R.map (·.2)) ∧ Kept (But rb) w wr) := by
          obtain ⟨g1, g2⟩ := At.of_own HK.out.1 hal.symm (by omega)
          refine ⟨al, g1, fun b off e => Nat.le_trans hs1 (g2 b off e).1, fun x l e => ?_, ?_, H1.out.2.1.trans HK.out.2.1⟩
          · have hR := HK.out.2.2.2
            rw [hjv, Nat.sub_self] at hR
            cases hsv : s with
            | none => rw [hsv] at hR; rw [hR] at e; cases e
            | some l' =>
              rw [hsv] at hR
              rw [hR] at e
              have e' : some (pre ++ [], l') = some (x, l) := e
              rw [List.append_nil] at e'
              cases e'
              exact HK.out.2.2.1 (by rw [hsv]; simp)
          · have hR := HK.out.2.2.2
            rw [hjv, Nat.sub_self] at hR
            have : R.map (·.2) = s := by
              rw [hR]
              cases s with
              | none => rfl
              | some l' => rfl
            rw [this]
            exact hrs
        clear hown hrs hkk hpre hRe
        have d5 : ¬ (j : Int) < v := by omega
        go_wp2
        go_ret
        obtain ⟨al', g1, g2, g3, g4, g5⟩ := HZ.out
        exact ⟨ro, v, rc, al', rfl, hjv ▸ g1, by omega, g2, g3, g4, g5⟩
  · have d1 : decide ((3 : Int) < (v : Int)) = true := decide_eq_true (by omega)
    have d2 : decide (3 < v) = true := decide_eq_true (by omega)
    have HF : Hid (R = none) := by
      show _ = _
      rw [HR.out]
      cases hq : q with
      | none => rfl
      | some y =>
        obtain ⟨y1, y2⟩ := y
        have := H1.out.2.2.1 y1 y2 hq
        show (if y1 ≤ 3 then rat y1 y2 else none) = _
        rw [if_neg (by omega)]
    have c2 := fun ev k (hk : FauP k ev) => fail34 rb _ k ev w1 H1.out.1 hk
    go_wp2_with fail
    refine (c2 _ 1 ⟨_, _, rfl, _, rfl⟩).mono ?_
    rintro r w2 ⟨rfl, h3, h4⟩
    have H3 : Hid (RsP w2 rb none ∧ Kept (But rb) w1 w2) := ⟨h3, h4⟩
    clear c2 h3 h4
    go_wp2
    go_ret
    exact ⟨none, 0, 0, [], rfl, At.none _ _, by omega, (fun _ _ e => by cases e), (fun x l e => by rw [HF.out] at e; cases e), by rw [HF.out]; exact H3.out.1, H1.out.2.1.trans H3.out.2⟩

end Go.Proofs.YtopkeembbopbmaaDoor
