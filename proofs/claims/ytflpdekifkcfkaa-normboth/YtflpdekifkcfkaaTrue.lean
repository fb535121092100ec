/- NormTrue: one of a filter's boxes lets through just what the filter does. -/
import Derived.Test.YtflpdekifkcfkaaBegun
import Derived.Test.YtflpdekifkcfkaaFilt
import Derived.Test.YtflpdekifkcfkaaRef
namespace Go.Proofs.Ytflpdekifkcfkaa
open Go.RowKit
set_option linter.unusedVariables false

theorem reads_below {w w' : World} {ao : Option Addr} {len : Nat} (h : Reads8 w ao len) (hb : Below w.heap.size w w') : Reads8 w' ao len := by
  obtain ⟨hl, b, off, zs, hao, hc⟩ := h
  refine ⟨hl, b, off, zs, fun h0 => ⟨(hao h0).1, Nat.lt_of_lt_of_le (hao h0).2 hb.size⟩, fun j hj => ⟨?_, (hc j hj).2⟩⟩
  exact (hb.cell (hao (by omega)).2).trans (hc j hj).1

theorem any_step (l : List Ev.Bx) (al : List (Int × Int)) (t : ByteArray) (k : Nat) (h : k < l.length) : (l.take (k + 1)).any (fun x => x.lets al t) = ((l.take k).any (fun x => x.lets al t) || l[k].lets al t) := by
  rw [List.take_succ_eq_append_getElem h, List.any_append]
  simp

set_option maxHeartbeats 1000000 in
theorem true_long (a0 a1 : Option Addr) (l0 c0 l1 c1 : Nat) (w : World) (h0 : l0 ≤ maxLen) (h1 : l1 ≤ maxLen) (h : 50 < l0 ∨ 60 < l1) :
    Calls Try.prog 5 #[.slice a0 l0 c0, .slice a1 l1 c1] w fun e w' => e = .returned (.bool true) ∧ Below w.heap.size w w' := by
  unfold maxLen at h0 h1
  by_cases h9 : 50 < l0
  · clear h
    go_enter Try.func5, Try.ntmps5
    go_wp2_with fail
    refine (begun9 _).mono ?_
    rintro e w1 ⟨rfl, hb1⟩
    go_wp2
    go_ret
    exact ⟨rfl, hb1⟩
  · have h6 : 60 < l1 := by omega
    clear h
    go_enter Try.func5, Try.ntmps5
    go_wp2_with fail
    refine (begun9 _).mono ?_
    rintro e w1 ⟨rfl, hb1⟩
    go_wp2
    go_ret
    exact ⟨rfl, hb1⟩

set_option maxHeartbeats 8000000 in
theorem true_short (a0 a1 : Option Addr) (l0 c0 l1 c1 : Nat) (w : World) (h0 : l0 ≤ 50) (h1 : l1 ≤ 60) (r0 : Reads8 w a0 l0) (r1 : Reads8 w a1 l1) :
    Calls Try.prog 5 #[.slice a0 l0 c0, .slice a1 l1 c1] w fun e w' => e = .returned (.bool true) ∧ Below w.heap.size w w' := by
  go_enter Try.func5, Try.ntmps5
  go_wp2_with fail
  refine (begun9 _).mono ?_
  rintro e w1 ⟨rfl, hb1⟩
  replace r0 := reads_below r0 hb1
  replace r1 := reads_below r1 hb1
  go_wp2_with fail
  refine (made10 _ _ _ _).mono ?_
  rintro e W ⟨rfl, hW⟩
  have hp1 : Pick W w1.heap.size := by rw [hW]; exact pick_made r0 (by omega)
  have hbW : Below w1.heap.size w1 W := by rw [hW]; exact (Below.refl _ _).alloc (Nat.le_refl _) _
  have hsW : w1.heap.size < W.heap.size := by rw [hW]; simp
  clear hW r0
  go_wp2_with fail
  refine (filter11 w1.heap.size 4 4 W (by omega) (by omega) hp1).mono ?_
  rintro e w2 ⟨f, o, k, l, h, t, x, n, rfl, hok, hdp, hly, hw2⟩
  have hb2 : Below w1.heap.size w1 w2 := hbW.trans (hw2.2.below (by omega) (fun k hk => by unfold But; omega))
  have hfl : Lies Any w2 f o k l h t x n := Lies.mono (fun _ _ _ => trivial) f hly
  have hd6 : f.deep ≤ 6 := by omega
  clear hp1 hly hw2 hbW hsW
  have hbw2 : Below w.heap.size w w2 := hb1.trans (hb2.mono hb1.size)
  obtain ⟨V, hV⟩ : ∃ V, V = w2.alloc (.cells #[.int .i64 o, .int .i64 k, .int .i64 l, .int .i64 h, .string t, .slice x n n] 26) := ⟨_, rfl⟩
  have hbV : Below w2.heap.size w2 V := by rw [hV]; exact (Below.refl _ _).alloc (Nat.le_refl _) _
  have hsV : w2.heap.size < V.heap.size := by rw [hV]; simp
  have fc : ∀ i, V.cell? ⟨w2.heap.size, i, none⟩ = (#[.int .i64 o, .int .i64 k, .int .i64 l, .int .i64 h, .string t, .slice x n n] : Array Value)[i]? := fun i => by rw [hV]; simp
  have hflV := hfl.below hbV
  have co := of12 f V o k l h t x n hd6 hok hflV
  rw [hV] at co
  have HV : Hid (V = w2.alloc (.cells #[.int .i64 o, .int .i64 k, .int .i64 l, .int .i64 h, .string t, .slice x n n] 26)) := hV
  have hbwV : Below w.heap.size w V := hbw2.trans (hbV.mono hbw2.size)
  have r1V := (reads_below r1 hb2)
  have r1V := (reads_below r1V hbV)
  clear hV hfl hbV r1 hb2 hb1 hbw2
  unfold RPost at co
  go_wp2_with fail
  refine co.mono ?_
  rintro e w3 ⟨v3, rfl, row3, hb3⟩
  rw [← HV.out] at hb3 row3
  clear co HV
  obtain ⟨ro, rc, rfl⟩ := row3.slice
  have r3 := reads_below r1V hb3
  have hfl3 := hflV.below hb3
  have fc3 : ∀ i, w3.cell? ⟨w2.heap.size, i, none⟩ = (#[.int .i64 o, .int .i64 k, .int .i64 l, .int .i64 h, .string t, .slice x n n] : Array Value)[i]? := fun i => (hb3.cell (p := ⟨w2.heap.size, i, none⟩) hsV).trans (fc i)
  have hbw3 : Below w.heap.size w w3 := hbwV.trans (hb3.mono hbwV.size)
  have hs3 : w2.heap.size < w3.heap.size := Nat.lt_of_lt_of_le hsV hb3.size
  clear r1V hflV fc hb3 hbwV hsV
  cases hrow : f.row false with
  | none =>
    rw [hrow] at row3
    simp only [Option.isSome_none, Option.getD_none, List.length_nil]
    clear row3 hrow
    go_wp2
    go_ret
    exact ⟨rfl, hbw3⟩
  | some L =>
    obtain ⟨okL, lenL, letL⟩ := Ev.row_said f false L hok hrow
    rw [hrow] at row3
    simp only [Option.isSome_some, Option.getD_some] at row3 ⊢
    clear hrow
    have okL' : ∀ x ∈ L, x.ok 32 := fun x hx => (okL x hx).mono (by
      have : 2 ^ (f.deep - 1) ≤ 2 ^ 5 := Nat.pow_le_pow_right (by omega) (by omega)
      simpa using this)
    clear okL
    have hlenI : (L.length : Int) ≤ 16 := by omega
    go_wp2_with fail
    refine (made10 _ _ _ _).mono ?_
    rintro e W2 ⟨rfl, hW2⟩
    have hp2 : Pick W2 w3.heap.size := by rw [hW2]; exact pick_made r3 (by omega)
    have hbW2 : Below w3.heap.size w3 W2 := by rw [hW2]; exact (Below.refl _ _).alloc (Nat.le_refl _) _
    have hsW2 : w3.heap.size < W2.heap.size := by rw [hW2]; simp
    clear hW2 r3
    go_wp2_with fail
    go_loopw [9] (fun i wr => ∃ q : Nat, q ≤ 3 ∧ i = .int .i64 q ∧ Pick wr w3.heap.size ∧ Below w3.heap.size w3 wr) (fun i _ => 3 - (intOf i).toNat)
    case atStart => exact ⟨0, by omega, rfl, hp2, hbW2⟩
    case round =>
      obtain ⟨q, hq, rfl, hp, hbr⟩ := hrel
      clear hp2 hbW2 hsW2
      by_cases hq3 : q < 3
      · have hqi : (q : Int) < 3 := by omega
        go_wp2_with fail
        refine (version12 w3.heap.size wr hp).mono ?_
        rintro e w4 ⟨v, al, rfl, hsm, hhas, hw4⟩
        have hbr4 : Below w3.heap.size w3 w4 := hbr.trans (hw4.2.below hbr.size (fun k hk => by unfold But; omega))
        have hp4 := hw4.1
        have hh4 : Has Any w4 v al := hhas.mono (fun _ _ _ => trivial)
        clear hp hbr hhas hw4
        unfold Vs.val
        go_wp2_with fail
        obtain ⟨U, hU⟩ : ∃ U, U = w4.alloc (.cells #[.int .i64 v.it, .int .i64 v.L, .int .i64 v.R, .int .i64 v.N, .bool v.dead, .slice v.ao v.len v.cap, .string v.tag, .string v.body] 40) := ⟨_, rfl⟩
        rw [← hU]
        have hbU : Below w4.heap.size w4 U := by rw [hU]; exact (Below.refl _ _).alloc (Nat.le_refl _) _
        have hsU : w4.heap.size < U.heap.size := by rw [hU]; simp
        have vc : ∀ i, U.cell? ⟨w4.heap.size, i, none⟩ = (#[.int .i64 v.it, .int .i64 v.L, .int .i64 v.R, .int .i64 v.N, .bool v.dead, .slice v.ao v.len v.cap, .string v.tag, .string v.body] : Array Value)[i]? := fun i => by rw [hU]; simp
        have hsr4 := hbr4.size
        have hpU : Pick U w3.heap.size := hp4.below (hbU.mono (by have := hp4.lt; omega))
        have hb3U : Below w3.heap.size w3 U := hbr4.trans (hbU.mono hsr4)
        have hhU := hh4.below hbU
        clear hU hbU hbr4 hp4 hh4
        generalize w4.heap.size = N at *
        clear w4
        go_loopw [11, 12] (fun one i wi => ∃ j : Nat, j ≤ L.length ∧ i = .int .i64 j ∧ one = .bool ((L.take j).any (fun x => x.lets al v.tag)) ∧ Below U.heap.size U wi) (fun _ i _ => L.length - (intOf i).toNat)
        case atStart => exact ⟨0, by omega, rfl, rfl, Below.refl _ _⟩
        case round =>
          obtain ⟨j, hj, rfl, rfl, hbi⟩ := hrel
          have hb3i : Below w3.heap.size w3 wr := hb3U.trans (hbi.mono hb3U.size)
          have hsi := hbi.size
          by_cases hjt : j < L.length
          · have hany := any_step L al v.tag j hjt
            obtain ⟨g, xo, xc, rfl, _, hg, nx, hcell⟩ := (row3.below hb3i).at j hjt
            have ox := okL' _ (List.getElem_mem hjt)
            obtain ⟨bx, hbx⟩ : ∃ bx, bx = L[j] := ⟨_, rfl⟩
            rw [← hbx] at nx hcell ox hany
            have hji : (j : Int) < (L.length : Int) := by omega
            have q0 : wr.cell? ⟨g, j * 14, none⟩ = some (.int .i64 (bx.s 0).how) := hcell 0 _ rfl
            have q1 : wr.cell? ⟨g, j * 14 + 1, none⟩ = some (.int .i64 (bx.s 0).lo) := hcell 1 _ rfl
            have q2 : wr.cell? ⟨g, j * 14 + 2, none⟩ = some (.int .i64 (bx.s 0).hi) := hcell 2 _ rfl
            have q3 : wr.cell? ⟨g, j * 14 + 3, none⟩ = some (.int .i64 (bx.s 1).how) := hcell 3 _ rfl
            have q4 : wr.cell? ⟨g, j * 14 + 4, none⟩ = some (.int .i64 (bx.s 1).lo) := hcell 4 _ rfl
            have q5 : wr.cell? ⟨g, j * 14 + 5, none⟩ = some (.int .i64 (bx.s 1).hi) := hcell 5 _ rfl
            have q6 : wr.cell? ⟨g, j * 14 + 6, none⟩ = some (.int .i64 (bx.s 2).how) := hcell 6 _ rfl
            have q7 : wr.cell? ⟨g, j * 14 + 7, none⟩ = some (.int .i64 (bx.s 2).lo) := hcell 7 _ rfl
            have q8 : wr.cell? ⟨g, j * 14 + 8, none⟩ = some (.int .i64 (bx.s 2).hi) := hcell 8 _ rfl
            have q9 : wr.cell? ⟨g, j * 14 + 9, none⟩ = some (.int .i64 (bx.s 3).how) := hcell 9 _ rfl
            have q10 : wr.cell? ⟨g, j * 14 + 10, none⟩ = some (.int .i64 (bx.s 3).lo) := hcell 10 _ rfl
            have q11 : wr.cell? ⟨g, j * 14 + 11, none⟩ = some (.int .i64 (bx.s 3).hi) := hcell 11 _ rfl
            have q12 : wr.cell? ⟨g, j * 14 + 12, none⟩ = some (.string bx.tag) := hcell 12 _ rfl
            have q13 : wr.cell? ⟨g, j * 14 + 13, none⟩ = some (.slice xo bx.nots.length xc) := hcell 13 _ rfl
            have hNr : N < wr.heap.size := Nat.lt_of_lt_of_le hsU hsi
            have a0 : wr.cell? ⟨N, 0, none⟩ = some (.int .i64 v.it) := ((hbi.cell (p := ⟨N, 0, none⟩) hsU).trans (vc 0)).trans rfl
            have a1 : wr.cell? ⟨N, 1, none⟩ = some (.int .i64 v.L) := ((hbi.cell (p := ⟨N, 1, none⟩) hsU).trans (vc 1)).trans rfl
            have a2 : wr.cell? ⟨N, 2, none⟩ = some (.int .i64 v.R) := ((hbi.cell (p := ⟨N, 2, none⟩) hsU).trans (vc 2)).trans rfl
            have a3 : wr.cell? ⟨N, 3, none⟩ = some (.int .i64 v.N) := ((hbi.cell (p := ⟨N, 3, none⟩) hsU).trans (vc 3)).trans rfl
            have a4 : wr.cell? ⟨N, 4, none⟩ = some (.bool v.dead) := ((hbi.cell (p := ⟨N, 4, none⟩) hsU).trans (vc 4)).trans rfl
            have a5 : wr.cell? ⟨N, 5, none⟩ = some (.slice v.ao v.len v.cap) := ((hbi.cell (p := ⟨N, 5, none⟩) hsU).trans (vc 5)).trans rfl
            have a6 : wr.cell? ⟨N, 6, none⟩ = some (.string v.tag) := ((hbi.cell (p := ⟨N, 6, none⟩) hsU).trans (vc 6)).trans rfl
            have a7 : wr.cell? ⟨N, 7, none⟩ = some (.string v.body) := ((hbi.cell (p := ⟨N, 7, none⟩) hsU).trans (vc 7)).trans rfl
            have cl := lets17 bx xo xc 32 v al wr.drew ox (by omega) (nx.txts.below (Below.refl _ wr).drew) ((hhU.below hbi).below (Below.refl _ wr).drew)
            unfold Bval Vs.val at cl
            have HN : Hid ((List.take (j + 1) L).any (fun x => x.lets al v.tag) = ((List.take j L).any (fun x => x.lets al v.tag) || bx.lets al v.tag)) := hany
            obtain ⟨ob, hob⟩ : ∃ ob, ob = (List.take j L).any (fun x => x.lets al v.tag) := ⟨_, rfl⟩
            rw [← hob]
            rw [← hob] at HN
            have hB : Hid (Below U.heap.size U wr) := hbi
            clear hany hob hcell hbx nx ox hb3i hbi
            generalize bx.lets al v.tag = rb at *
            cases ob with
            | true =>
              clear cl
              go_wp2_with fail
              go_quiet (fail)
              go_wp2
              go_roundw
              case rel => exact ⟨j + 1, by omega, by go_num, by rw [HN.out]; rfl, ⟨hB.out.os, hB.out.tape, hB.out.output, hB.out.size, hB.out.block⟩⟩
              case measure => simp [intOf]; omega
            | false =>
              go_wp2_with fail
              go_region_held3 (fun w' => w'.cell? ⟨g, j * 14, none⟩ = some (.int .i64 (bx.s 0).how) ∧ w'.cell? ⟨g, j * 14 + 1, none⟩ = some (.int .i64 (bx.s 0).lo) ∧ w'.cell? ⟨g, j * 14 + 2, none⟩ = some (.int .i64 (bx.s 0).hi) ∧ w'.cell? ⟨g, j * 14 + 3, none⟩ = some (.int .i64 (bx.s 1).how) ∧ w'.cell? ⟨g, j * 14 + 4, none⟩ = some (.int .i64 (bx.s 1).lo) ∧ w'.cell? ⟨g, j * 14 + 5, none⟩ = some (.int .i64 (bx.s 1).hi) ∧ w'.cell? ⟨g, j * 14 + 6, none⟩ = some (.int .i64 (bx.s 2).how) ∧ w'.cell? ⟨g, j * 14 + 7, none⟩ = some (.int .i64 (bx.s 2).lo) ∧ w'.cell? ⟨g, j * 14 + 8, none⟩ = some (.int .i64 (bx.s 2).hi) ∧ w'.cell? ⟨g, j * 14 + 9, none⟩ = some (.int .i64 (bx.s 3).how) ∧ w'.cell? ⟨g, j * 14 + 10, none⟩ = some (.int .i64 (bx.s 3).lo) ∧ w'.cell? ⟨g, j * 14 + 11, none⟩ = some (.int .i64 (bx.s 3).hi) ∧ w'.cell? ⟨g, j * 14 + 12, none⟩ = some (.string bx.tag) ∧ w'.cell? ⟨g, j * 14 + 13, none⟩ = some (.slice xo bx.nots.length xc) ∧ w'.cell? ⟨N, 0, none⟩ = some (.int .i64 v.it) ∧ w'.cell? ⟨N, 1, none⟩ = some (.int .i64 v.L) ∧ w'.cell? ⟨N, 2, none⟩ = some (.int .i64 v.R) ∧ w'.cell? ⟨N, 3, none⟩ = some (.int .i64 v.N) ∧ w'.cell? ⟨N, 4, none⟩ = some (.bool v.dead) ∧ w'.cell? ⟨N, 5, none⟩ = some (.slice v.ao v.len v.cap) ∧ w'.cell? ⟨N, 6, none⟩ = some (.string v.tag) ∧ w'.cell? ⟨N, 7, none⟩ = some (.string v.body))
                (go_keep)
                (first
                  | (go_at_call 17; refine cl.mono ?_; rintro e w5 ⟨rfl, hb5⟩; obtain ⟨hcl, hfl, z1⟩ := callee_old hb5))
              have hB5 : Below U.heap.size U w5 := hB.out.trans ((Below.trans (b := wr.drew) (Below.refl _ wr).drew hb5).mono hsi)
              clear hcl hfl cl hb5
              go_wp2
              go_roundw
              case rel => exact ⟨j + 1, by omega, by go_num, by rw [HN.out]; rfl, hB5⟩
              case measure => simp [intOf]; omega
          · obtain rfl : j = L.length := by omega
            rw [List.take_length]
            have hbU3 : Below w3.heap.size w3 wr := hb3i
            have e1 : Hid (L.any (fun x => x.lets al v.tag) = (f.lets al v.tag)) := by
              have := letL al v.tag hsm
              rw [this]
              cases f.lets al v.tag <;> exact rfl
            have hff : ∀ i, wr.cell? ⟨w2.heap.size, i, none⟩ = (#[.int .i64 o, .int .i64 k, .int .i64 l, .int .i64 h, .string t, .slice x n n] : Array Value)[i]? := fun i => (hbU3.cell (p := ⟨w2.heap.size, i, none⟩) hs3).trans (fc3 i)
            have hva : ∀ i, wr.cell? ⟨N, i, none⟩ = (#[.int .i64 v.it, .int .i64 v.L, .int .i64 v.R, .int .i64 v.N, .bool v.dead, .slice v.ao v.len v.cap, .string v.tag, .string v.body] : Array Value)[i]? := fun i => (hbi.cell (p := ⟨N, i, none⟩) hsU).trans (vc i)
            have cr := lets14 f v al wr o k l h t x n hok.ok (hfl3.below hbU3) (hhU.below hbi)
            have hpr : Pick wr w3.heap.size := hpU.below (hbi.mono (by have := hpU.lt; omega))
            have hr : Hid (Pick wr w3.heap.size ∧ Below w3.heap.size w3 wr) := ⟨hpr, hbU3⟩
            clear hpr hbU3 hbi
            rw [e1.out]
            clear e1
            generalize f.lets al v.tag = rb at *
            unfold Vs.val at cr
            go_wp2_with fail
            refine cr.mono ?_
            rintro e w6 ⟨rfl, hb6⟩
            have hp6 : Pick w6 w3.heap.size := hr.out.1.below (hb6.mono hr.out.1.lt)
            have hb36 : Below w3.heap.size w3 w6 := hr.out.2.trans (hb6.mono hr.out.2.size)
            clear cr hff hva hb6 hr
            cases rb with
            | true =>
              go_wp2
              go_roundw
              case rel => exact ⟨q + 1, by omega, by go_num, hp6, hb36⟩
              case measure => simp [intOf]; omega
            | false =>
              go_wp2
              go_roundw
              case rel => exact ⟨q + 1, by omega, by go_num, hp6, hb36⟩
              case measure => simp [intOf]; omega
      · obtain rfl : q = 3 := by omega
        go_wp2
        go_ret
        exact ⟨rfl, hbw3.trans (hbr.mono hbw3.size)⟩

/-- NormTrue's walk. -/
theorem true_any (a0 : Option Addr) (l0 c0 : Nat) (a1 : Option Addr) (l1 c1 : Nat) (w : World) (r0 : Reads8 w a0 l0) (r1 : Reads8 w a1 l1) :
    Calls Try.prog 5 #[.slice a0 l0 c0, .slice a1 l1 c1] w fun e w' => e = .returned (.bool true) ∧ Below w.heap.size w w' := by
  by_cases h : 50 < l0 ∨ 60 < l1
  · exact true_long a0 a1 l0 c0 l1 c1 w r0.1 r1.1 h
  · exact true_short a0 a1 l0 c0 l1 c1 w (by omega) (by omega) r0 r1

end Go.Proofs.Ytflpdekifkcfkaa
