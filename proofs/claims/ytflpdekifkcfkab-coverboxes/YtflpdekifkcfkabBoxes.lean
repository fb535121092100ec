/- cardamomlaw7.Boxes: some boxes that may be. -/
import Derived.Test.YtflpdekifkcfkabBase
import Derived.Test.YtflpdekifkcfkabRof26
import Derived.Deep.LoopGhost
namespace Go.Proofs.Ytflpdekifkcfkab
open Go.RowKit
set_option linter.unusedVariables false

theorem RowB.kept {pb : Nat} {w w' : World} {v : Value} {l : List Ev.Bx} (h : RowB (pb + 1) w v l) (k : Kept (But pb) w w') : RowB (pb + 1) w' v l := by
  have far : ∀ (b : Nat) (o : Obj), pb + 1 ≤ b → w.heap[b]? = some o → w'.heap[b]? = w.heap[b]? := by
    intro b o hb ho
    have hlt : b < w.heap.size := by
      by_cases hlt : b < w.heap.size
      · exact hlt
      · rw [Array.getElem?_eq_none (by omega)] at ho; cases ho
    exact k.block b hlt (by unfold But; omega)
  obtain ⟨es, h1, h2, h3, h4⟩ := h
  refine ⟨es, h1, fun e he => (h2 e he).keep (fun b c hb hc => far b _ hb hc), h3, ?_⟩
  rcases h4 with h4 | ⟨g, cap, cur, hv, hg, hh, r⟩
  · exact Or.inl h4
  · exact Or.inr ⟨g, cap, cur, hv, hg, by rw [far g _ hg hh]; exact hh, r⟩

theorem Below.pick {w w' : World} {pb : Nat} (h : Pick w pb) (hb : Below w.heap.size w w') : Pick w' pb := h.below (hb.mono (by have := h.lt; omega))

set_option maxRecDepth 100000 in
set_option maxHeartbeats 8000000 in
/-- cardamomlaw7.Boxes. -/
theorem boxes15 (a0 : Option Addr) (l0 c0 : Nat) (w : World) (h0 : l0 ≤ 1000) (r0 : Reads8 w a0 l0) :
    Calls Try.prog 13 #[.slice a0 l0 c0] w fun e w' => ∃ v L, e = .returned v ∧ RowB w.heap.size w' v L ∧ L.length ≤ 3 ∧ (∀ x ∈ L, x.ok 32) ∧ Below w.heap.size w w' := by
  go_enter Try.func13, Try.ntmps13
  go_wp2_with fail
  refine (made10 _ _ _ _).mono ?_
  rintro e W ⟨rfl, hW⟩
  have hp1 : Pick W w.heap.size := by rw [hW]; exact pick_made r0 (by omega)
  have hbW : Below w.heap.size w W := by rw [hW]; exact (Below.refl _ _).alloc (Nat.le_refl _) _
  clear hW r0
  obtain ⟨pb, hpb⟩ : ∃ pb, pb = w.heap.size := ⟨_, rfl⟩
  rw [← hpb] at hp1
  have HPB : Hid (pb = w.heap.size) := hpb
  rw [← hpb]
  clear hpb
  go_wp2_with fail
  go_loopg [4, 5] 3 (fun gg v ii wr => ∃ (i : Nat) (L : List Ev.Bx), i ≤ 3 ∧ gg = 3 - i ∧ ii = .int .i64 i ∧ RowB (pb + 1) wr v L ∧ L.length ≤ i ∧ (∀ x ∈ L, x.ok 32) ∧ Pick wr pb ∧ Below w.heap.size w wr)
  case atStart => exact ⟨0, [], by omega, rfl, rfl, RowB.nil _ _, by simp, fun x hx => (by cases hx), hp1, hbW⟩
  case round =>
    clear hp1 hbW
    obtain ⟨i, L, hi, hgi, rfl, RL, hL, okL, hp, hbr⟩ := hrel
    have HGI : Hid (gk = 3 - i) := hgi
    clear hgi
    obtain ⟨vo, vc, rfl⟩ := RL.slice
    by_cases hlt : i < 3
    · have hii : (i : Int) < 3 := by omega
      have HO : Hid (RowB (pb + 1) wr (.slice vo L.length vc) L ∧ (∀ x ∈ L, x.ok 32) ∧ Below w.heap.size w wr) := ⟨RL, okL, hbr⟩
      clear RL okL hbr
      have hplt := hp.lt
      go_wp2_with fail
      refine (filter11 pb 3 3 wr (by omega) (by omega) hp).mono ?_
      rintro e w2 ⟨f, o, k, l, h, t, x, n, rfl, hok, hdp, hly, hw2⟩
      have hfl : Lies Any w2 f o k l h t x n := Lies.mono (fun _ _ _ => trivial) f hly
      have hd6 : f.deep ≤ 6 := by omega
      have co := rof13 f w2 o k l h t x n hd6 hok hfl
      have hff := fits_row f false hok hd6
      have hp2 := hw2.1
      have RL2 := HO.out.1.kept hw2.2
      have hb2 : Below w.heap.size w w2 := HO.out.2.2.trans (hw2.2.below HO.out.2.2.size (fun k hk => by unfold But; have := HPB.out; omega))
      have H2 : Hid (RowB (pb + 1) w2 (.slice vo L.length vc) L ∧ Below w.heap.size w w2) := ⟨RL2, hb2⟩
      clear hly hw2 hfl hd6 hdp hok RL2 hb2 hp
      unfold RPost at co
      generalize f.row false = r at *
      go_wp2_with fail
      refine co.mono ?_
      rintro e w3 ⟨v3, rfl, row3, hb3⟩
      clear co
      obtain ⟨ro, rc, rfl⟩ := row3.slice
      have hp3 := Below.pick hp2 hb3
      have hlt2 := hp2.lt
      have RL3 := H2.out.1.below hb3
      have hbw3 : Below w.heap.size w w3 := H2.out.2.trans (hb3.mono H2.out.2.size)
      have row3' := row3.mono (B' := pb + 1) (by omega)
      have H3 : Hid (RowB (pb + 1) w3 (.slice vo L.length vc) L ∧ Below w.heap.size w w3) := ⟨RL3, hbw3⟩
      clear RL3 hbw3 row3 hb3 H2 hp2 hlt2
      cases r with
      | none =>
        simp only [Option.isSome_none, Option.getD_none]
        clear hff row3'
        go_wp2
        go_roundg (3 - (i + 1))
        case measure => have := HGI.out; omega
        case rel => exact ⟨i + 1, L, by omega, rfl, by go_num, H3.out.1, by omega, HO.out.2.1, hp3, H3.out.2⟩
      | some M =>
        obtain ⟨lenM, okM⟩ := hff M rfl
        simp only [Option.isSome_some, Option.getD_some] at row3' ⊢
        clear hff
        by_cases hM : 0 < M.length
        · have hMi : (0 : Int) < (M.length : Int) := by omega
          have cn := num_any pb M.length w3 (by omega) (by omega) hp3
          go_wp2_with fail
          refine cn.mono ?_
          rintro e w4 ⟨kk, hkk, rfl, hw4⟩
          have hkl : kk < M.length := by omega
          have row4 := row3'.kept hw4.2
          obtain ⟨g, xo, xc, rfl, hgB, hg, nx, hc⟩ := row4.at kk hkl
          have ox := okM _ (List.getElem_mem hkl)
          obtain ⟨x, hx⟩ : ∃ x, x = M[kk] := ⟨_, rfl⟩
          rw [← hx] at nx hc ox
          clear hx
          have q0 : w4.cell? ⟨g, kk * 14, none⟩ = some (.int .i64 (x.s 0).how) := hc 0 _ rfl
          have q1 : w4.cell? ⟨g, kk * 14 + 1, none⟩ = some (.int .i64 (x.s 0).lo) := hc 1 _ rfl
          have q2 : w4.cell? ⟨g, kk * 14 + 2, none⟩ = some (.int .i64 (x.s 0).hi) := hc 2 _ rfl
          have q3 : w4.cell? ⟨g, kk * 14 + 3, none⟩ = some (.int .i64 (x.s 1).how) := hc 3 _ rfl
          have q4 : w4.cell? ⟨g, kk * 14 + 4, none⟩ = some (.int .i64 (x.s 1).lo) := hc 4 _ rfl
          have q5 : w4.cell? ⟨g, kk * 14 + 5, none⟩ = some (.int .i64 (x.s 1).hi) := hc 5 _ rfl
          have q6 : w4.cell? ⟨g, kk * 14 + 6, none⟩ = some (.int .i64 (x.s 2).how) := hc 6 _ rfl
          have q7 : w4.cell? ⟨g, kk * 14 + 7, none⟩ = some (.int .i64 (x.s 2).lo) := hc 7 _ rfl
          have q8 : w4.cell? ⟨g, kk * 14 + 8, none⟩ = some (.int .i64 (x.s 2).hi) := hc 8 _ rfl
          have q9 : w4.cell? ⟨g, kk * 14 + 9, none⟩ = some (.int .i64 (x.s 3).how) := hc 9 _ rfl
          have q10 : w4.cell? ⟨g, kk * 14 + 10, none⟩ = some (.int .i64 (x.s 3).lo) := hc 10 _ rfl
          have q11 : w4.cell? ⟨g, kk * 14 + 11, none⟩ = some (.int .i64 (x.s 3).hi) := hc 11 _ rfl
          have q12 : w4.cell? ⟨g, kk * 14 + 12, none⟩ = some (.string x.tag) := hc 12 _ rfl
          have q13 : w4.cell? ⟨g, kk * 14 + 13, none⟩ = some (.slice xo x.nots.length xc) := hc 13 _ rfl
          have hp4 := hw4.1
          have hlt4 := hp4.lt
          have RL4 := H3.out.1.kept hw4.2
          have hbw4 : Below w.heap.size w w4 := H3.out.2.trans (hw4.2.below H3.out.2.size (fun k hk => by unfold But; have := HPB.out; omega))
          have hsw4 := hbw4.size
          have Z : Below w4.heap.size w4 (w4.alloc (.cells (bcells (x, xo, xc)).toArray 40)) := (Below.refl _ _).alloc (Nat.le_refl _) _
          have K : Hid (RowB (pb + 1) (w4.alloc (.cells (bcells (x, xo, xc)).toArray 40)) (.slice vo L.length vc) L ∧ Nt (pb + 1) (w4.alloc (.cells (bcells (x, xo, xc)).toArray 40)) xo xc x.nots ∧ Below w.heap.size w (w4.alloc (.cells (bcells (x, xo, xc)).toArray 40)) ∧ Pick (w4.alloc (.cells (bcells (x, xo, xc)).toArray 40)) pb ∧ x.ok 32) := ⟨RL4.below Z, nx.below Z, hbw4.trans (Z.mono hsw4), Below.pick hp4 Z, ox⟩
          clear RL4 hbw4 Z nx hc row4 row3' hw4 cn H3 hp3 ox okM hp4
          go_wp2_with (at_builtin; refine append_box' rfl _ _ rfl (pb + 1) _ L rfl K.out.1 (x, xo, xc) K.out.2.1 w4.heap.size rfl ?b1 ?b2 ?b3 ?_)
          case b1 =>
            intro i' u hi'
            rw [World.cell?_alloc_at _ _ _ _ (by simp), List.getElem?_toArray]
            exact hi'
          case b2 => omega
          case b3 => simp; omega
          intro v' w5 R5 hg5 hown
          have hbs : Below (pb + 1) (w4.alloc (.cells (bcells (x, xo, xc)).toArray 40)) w5 := (Below.refl _ _).grown hg5 (by simp; omega) (fun q hq => row_base K.out.1 hq)
          have P2 : Pick w5 pb := K.out.2.2.2.1.below hbs
          have P5 : Below w.heap.size w w5 := K.out.2.2.1.trans (hbs.mono (by have := HPB.out; omega))
          have okN : ∀ y ∈ L ++ [x], y.ok 32 := by
            intro y hy
            rw [List.mem_append] at hy
            rcases hy with hy | hy
            · exact HO.out.2.1 y hy
            · rw [List.mem_singleton] at hy; rw [hy]; exact K.out.2.2.2.2
          obtain ⟨no, nc, rfl⟩ := R5.slice
          have PP : Hid (_ ∧ _ ∧ _ ∧ _) := ⟨R5, okN, P2, P5⟩
          clear R5 okN P2 P5 hbs hg5 hown K HO q0 q1 q2 q3 q4 q5 q6 q7 q8 q9 q10 q11 q12 q13
          go_wp2
          go_roundg (3 - (i + 1))
          case measure => have := HGI.out; omega
          case rel => exact ⟨i + 1, L ++ [x], by omega, rfl, by go_num, PP.out.1, by simp; omega, PP.out.2.1, PP.out.2.2.1, PP.out.2.2.2⟩
        · have hM0 : M = [] := List.eq_nil_of_length_eq_zero (by omega)
          subst hM0
          clear row3' okM lenM hM
          simp only [List.length_nil]
          go_wp2
          go_roundg (3 - (i + 1))
          case measure => have := HGI.out; omega
          case rel => exact ⟨i + 1, L, by omega, rfl, by go_num, H3.out.1, by omega, HO.out.2.1, hp3, H3.out.2⟩
    · obtain rfl : i = 3 := by omega
      have RR := RL.mono (B' := w.heap.size) (by have := HPB.out; omega)
      have HE : Hid (RowB w.heap.size wr (.slice vo L.length vc) L ∧ Below w.heap.size w wr ∧ ∀ x ∈ L, x.ok 32) := ⟨RR, hbr, okL⟩
      clear RL RR hbr okL hp
      go_wp2
      go_ret
      exact ⟨_, L, rfl, HE.out.1, hL, HE.out.2.2, HE.out.2.1⟩

end Go.Proofs.Ytflpdekifkcfkab
