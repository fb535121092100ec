/- NormNot: what a filter's boxes let through those of its opposite do not, and one of both does. -/
import Derived.Test.YtgggncliadjmcaaTrue
namespace Go.Proofs.Ytgggncliadjmcaa
open Go.RowKit
set_option linter.unusedVariables false

set_option maxHeartbeats 1000000 in
theorem not_long (a0 a1 : Option Addr) (l0 c0 l1 c1 : Nat) (w : World) (h0 : l0 ≤ maxLen) (h1 : l1 ≤ maxLen) (h : 40 < l0 ∨ 20 < l1) :
    Calls Try.prog 8 #[.slice a0 l0 c0, .slice a1 l1 c1] w fun e w' => e = .returned (.bool true) ∧ Below w.heap.size w w' := by
  unfold maxLen at h0 h1
  by_cases h9 : 40 < l0
  · clear h
    go_enter Try.func8, Try.ntmps8
    go_wp2_with fail
    refine (begun9 _).mono ?_
    rintro e w1 ⟨rfl, hb1⟩
    go_wp2
    go_ret
    exact ⟨rfl, hb1⟩
  · have h6 : 20 < l1 := by omega
    clear h
    go_enter Try.func8, Try.ntmps8
    go_wp2_with fail
    refine (begun9 _).mono ?_
    rintro e w1 ⟨rfl, hb1⟩
    go_wp2
    go_ret
    exact ⟨rfl, hb1⟩

theorem ok_getD {n : Nat} {r : Option (List Ev.Bx)} (h : Fits n r) : ∀ x ∈ r.getD [], x.ok n := by
  cases r with
  | none => intro x hx; cases hx
  | some l => exact (h l rfl).2

theorem not_said (f : Ev.Ft) (hf : f.fine) (al : List (Int × Int)) (tg : ByteArray) (hs : Ev.Small al) :
    (f.row false).isSome = true → (f.row true).isSome = true → ((f.row false).getD []).any (fun x => x.lets al tg) = !((f.row true).getD []).any (fun x => x.lets al tg) := by
  intro h1 h2
  obtain ⟨l1, e1⟩ := Option.isSome_iff_exists.1 h1
  obtain ⟨l2, e2⟩ := Option.isSome_iff_exists.1 h2
  rw [e1, e2]
  simp only [Option.getD_some]
  rw [(Ev.row_said f false l1 hf e1).2.2 al tg hs, (Ev.row_said f true l2 hf e2).2.2 al tg hs]
  cases f.lets al tg <;> rfl

set_option maxRecDepth 100000 in
set_option maxHeartbeats 8000000 in
theorem not_short (a0 a1 : Option Addr) (l0 c0 l1 c1 : Nat) (w : World) (h0 : l0 ≤ 40) (h1 : l1 ≤ 20) (r0 : Reads8 w a0 l0) (r1 : Reads8 w a1 l1) :
    Calls Try.prog 8 #[.slice a0 l0 c0, .slice a1 l1 c1] w fun e w' => e = .returned (.bool true) ∧ Below w.heap.size w w' := by
  go_enter Try.func8, Try.ntmps8
  go_wp2_with fail
  refine (begun9 _).mono ?_
  rintro e w1 ⟨rfl, hb1⟩
  replace r0 := reads_below r0 hb1
  replace r1 := reads_below r1 hb1
  go_wp2_with fail
  refine (made10 _ _ _ _).mono ?_
  rintro e W ⟨rfl, hW⟩
  have hp1 : Pick W w1.heap.size := by rw [hW]; exact pick_made r0 (by omega)
  have hbW : Below w1.heap.size w1 W := by rw [hW]; exact (Below.refl _ _).alloc (Nat.le_refl _) _
  have hsW : w1.heap.size < W.heap.size := by rw [hW]; simp
  clear hW r0
  go_wp2_with fail
  refine (filter11 w1.heap.size 3 3 W (by omega) (by omega) hp1).mono ?_
  rintro e w2 ⟨f, o, k, l, h, t, x, n, rfl, hok, hdp, hly, hw2⟩
  have hb2 : Below w1.heap.size w1 w2 := hbW.trans (hw2.2.below (by omega) (fun k hk => by unfold But; omega))
  have hfl : Lies Any w2 f o k l h t x n := Lies.mono (fun _ _ _ => trivial) f hly
  have hd6 : f.deep ≤ 4 := by omega
  clear hp1 hly hw2 hbW hsW
  have hbw2 : Below w.heap.size w w2 := hb1.trans (hb2.mono hb1.size)
  obtain ⟨V, hV⟩ : ∃ V, V = w2.alloc (.cells #[.int .i64 o, .int .i64 k, .int .i64 l, .int .i64 h, .string t, .slice x n n] 26) := ⟨_, rfl⟩
  have hbV : Below w2.heap.size w2 V := by rw [hV]; exact (Below.refl _ _).alloc (Nat.le_refl _) _
  have hsV : w2.heap.size < V.heap.size := by rw [hV]; simp
  have fc : ∀ i, V.cell? ⟨w2.heap.size, i, none⟩ = (#[.int .i64 o, .int .i64 k, .int .i64 l, .int .i64 h, .string t, .slice x n n] : Array Value)[i]? := fun i => by rw [hV]; simp
  have hflV := hfl.below hbV
  have co := of12 f V o k l h t x n (by omega) hok hflV
  rw [hV] at co
  have HV : Hid (V = w2.alloc (.cells #[.int .i64 o, .int .i64 k, .int .i64 l, .int .i64 h, .string t, .slice x n n] 26)) := hV
  have hbwV : Below w.heap.size w V := hbw2.trans (hbV.mono hbw2.size)
  have r1V := (reads_below r1 hb2)
  have r1V := (reads_below r1V hbV)
  clear hV hfl hbV r1 hb2 hb1 hbw2
  unfold RPost at co
  go_wp2_with fail
  refine co.mono ?_
  rintro e w3 ⟨v3, rfl, row3, hb3⟩
  rw [← HV.out] at hb3 row3
  clear co HV
  obtain ⟨ro, rc, rfl⟩ := row3.slice
  have r3 := reads_below r1V hb3
  have hfl3 := hflV.below hb3
  have fc3 : ∀ i, w3.cell? ⟨w2.heap.size, i, none⟩ = (#[.int .i64 o, .int .i64 k, .int .i64 l, .int .i64 h, .string t, .slice x n n] : Array Value)[i]? := fun i => (hb3.cell (p := ⟨w2.heap.size, i, none⟩) hsV).trans (fc i)
  have hbw3 : Below w.heap.size w w3 := hbwV.trans (hb3.mono hbwV.size)
  have hs3 : w2.heap.size < w3.heap.size := Nat.lt_of_lt_of_le hsV hb3.size
  clear r1V hflV fc hb3 hbwV hsV
  obtain ⟨Y, hY⟩ : ∃ Y, Y = w3.alloc (.cells #[.int .i64 o, .int .i64 k, .int .i64 l, .int .i64 h, .string t, .slice x n n] 26) := ⟨_, rfl⟩
  have hbY : Below w3.heap.size w3 Y := by rw [hY]; exact (Below.refl _ _).alloc (Nat.le_refl _) _
  have co := of12 (.non f) Y 7 0 0 0 ⟨#[]⟩ (some ⟨w3.heap.size, 0, none⟩) 1 (by simp only [Ev.Ft.deep]; omega) hok
    ⟨rfl, rfl, rfl, rfl, rfl, w3.heap.size, o, k, l, h, t, x, n, rfl, rfl, trivial, by rw [hY]; unfold Six; simp, hfl3.below hbY⟩
  have hrow : Ev.Ft.row (.non f) false = f.row true := rfl
  rw [hrow] at co
  rw [hY] at co
  have HY : Hid (Y = w3.alloc (.cells #[.int .i64 o, .int .i64 k, .int .i64 l, .int .i64 h, .string t, .slice x n n] 26)) := hY
  clear hY hrow
  unfold RPost at co
  go_wp2_with fail
  refine co.mono ?_
  rintro e w4 ⟨v4, rfl, row4, hb4⟩
  rw [← HY.out] at hb4 row4
  clear co HY
  obtain ⟨so, sc, rfl⟩ := row4.slice
  have hb34 : Below w3.heap.size w3 w4 := hbY.trans (hb4.mono hbY.size)
  have r4 := reads_below r3 hb34
  have row34 := row3.below hb34
  have hbw4 : Below w.heap.size w w4 := hbw3.trans (hb34.mono hbw3.size)
  have ok1 := ok_getD (fits_row f false hok (by omega))
  have ok2 := ok_getD (fits_row f true hok (by omega))
  have len1 : ((f.row false).getD []).length ≤ 16 := by
    cases hr : f.row false with
    | none => simp
    | some l => exact (fits_row f false hok (by omega) l hr).1
  have len2 : ((f.row true).getD []).length ≤ 16 := by
    cases hr : f.row true with
    | none => simp
    | some l => exact (fits_row f true hok (by omega) l hr).1
  have HS : Hid (∀ al tg, Ev.Small al → (f.row false).isSome = true → (f.row true).isSome = true → ((f.row false).getD []).any (fun x => x.lets al tg) = !((f.row true).getD []).any (fun x => x.lets al tg)) := not_said f hok
  clear hb4 hbY row3 r3 hfl3 fc3 hbw3 hs3 hb34 hok hdp hd6
  generalize (f.row false).getD [] = L1 at *
  generalize (f.row true).getD [] = L2 at *
  generalize (f.row false).isSome = p1 at *
  generalize (f.row true).isSome = p2 at *
  go_wp2_with fail
  refine (made10 _ _ _ _).mono ?_
  rintro e W2 ⟨rfl, hW2⟩
  have hp2 : Pick W2 w4.heap.size := by rw [hW2]; exact pick_made r4 (by omega)
  have hbW2 : Below w4.heap.size w4 W2 := by rw [hW2]; exact (Below.refl _ _).alloc (Nat.le_refl _) _
  clear hW2 r4
  go_wp2_with fail
  refine (version12 w4.heap.size W2 hp2).mono ?_
  rintro e w5 ⟨v, al, rfl, hsm, hhas, hw5⟩
  have hb45 : Below w4.heap.size w4 w5 := hbW2.trans (hw5.2.below hbW2.size (fun k hk => by unfold But; omega))
  have hh5 : Has Any w5 v al := hhas.mono (fun _ _ _ => trivial)
  have HT := HS.out al v.tag hsm
  have HT' : Hid (p1 = true → p2 = true → L1.any (fun x => x.lets al v.tag) = !L2.any (fun x => x.lets al v.tag)) := HT
  clear hp2 hbW2 hhas hw5 HS HT
  unfold Vs.val
  go_wp2_with fail
  obtain ⟨U, hU⟩ : ∃ U, U = w5.alloc (.cells #[.int .i64 v.it, .int .i64 v.L, .int .i64 v.R, .int .i64 v.N, .bool v.dead, .slice v.ao v.len v.cap, .string v.tag, .string v.body] 40) := ⟨_, rfl⟩
  rw [← hU]
  have hbU : Below w5.heap.size w5 U := by rw [hU]; exact (Below.refl _ _).alloc (Nat.le_refl _) _
  have hsU : w5.heap.size < U.heap.size := by rw [hU]; simp
  have vc : ∀ i, U.cell? ⟨w5.heap.size, i, none⟩ = (#[.int .i64 v.it, .int .i64 v.L, .int .i64 v.R, .int .i64 v.N, .bool v.dead, .slice v.ao v.len v.cap, .string v.tag, .string v.body] : Array Value)[i]? := fun i => by rw [hU]; simp
  have hb4U : Below w4.heap.size w4 U := hb45.trans (hbU.mono hb45.size)
  have hhU := hh5.below hbU
  clear hU hbU hb45 hh5
  generalize w5.heap.size = N at *
  clear w5
  go_loopw [11, 13] (fun one i wi => ∃ j : Nat, j ≤ L1.length ∧ i = .int .i64 j ∧ one = .bool ((L1.take j).any (fun x => x.lets al v.tag)) ∧ Below U.heap.size U wi) (fun _ i _ => L1.length - (intOf i).toNat)
  case atStart => exact ⟨0, by omega, rfl, rfl, Below.refl _ _⟩
  case round =>
    obtain ⟨j, hj, rfl, rfl, hbi⟩ := hrel
    have hb3i : Below w4.heap.size w4 wr := hb4U.trans (hbi.mono hb4U.size)
    have hsi := hbi.size
    by_cases hjt : j < L1.length
    · have hany := any_step L1 al v.tag j hjt
      obtain ⟨g, xo, xc, rfl, _, hg, nx, hcell⟩ := (row34.below hb3i).at j hjt
      have ox := ok1 _ (List.getElem_mem hjt)
      obtain ⟨bx, hbx⟩ : ∃ bx, bx = L1[j] := ⟨_, rfl⟩
      rw [← hbx] at nx hcell ox hany
      have hji : (j : Int) < (L1.length : Int) := by omega
      have q0 : wr.cell? ⟨g, j * 14, none⟩ = some (.int .i64 (bx.s 0).how) := hcell 0 _ rfl
      have q1 : wr.cell? ⟨g, j * 14 + 1, none⟩ = some (.int .i64 (bx.s 0).lo) := hcell 1 _ rfl
      have q2 : wr.cell? ⟨g, j * 14 + 2, none⟩ = some (.int .i64 (bx.s 0).hi) := hcell 2 _ rfl
      have q3 : wr.cell? ⟨g, j * 14 + 3, none⟩ = some (.int .i64 (bx.s 1).how) := hcell 3 _ rfl
      have q4 : wr.cell? ⟨g, j * 14 + 4, none⟩ = some (.int .i64 (bx.s 1).lo) := hcell 4 _ rfl
      have q5 : wr.cell? ⟨g, j * 14 + 5, none⟩ = some (.int .i64 (bx.s 1).hi) := hcell 5 _ rfl
      have q6 : wr.cell? ⟨g, j * 14 + 6, none⟩ = some (.int .i64 (bx.s 2).how) := hcell 6 _ rfl
      have q7 : wr.cell? ⟨g, j * 14 + 7, none⟩ = some (.int .i64 (bx.s 2).lo) := hcell 7 _ rfl
      have q8 : wr.cell? ⟨g, j * 14 + 8, none⟩ = some (.int .i64 (bx.s 2).hi) := hcell 8 _ rfl
      have q9 : wr.cell? ⟨g, j * 14 + 9, none⟩ = some (.int .i64 (bx.s 3).how) := hcell 9 _ rfl
      have q10 : wr.cell? ⟨g, j * 14 + 10, none⟩ = some (.int .i64 (bx.s 3).lo) := hcell 10 _ rfl
      have q11 : wr.cell? ⟨g, j * 14 + 11, none⟩ = some (.int .i64 (bx.s 3).hi) := hcell 11 _ rfl
      have q12 : wr.cell? ⟨g, j * 14 + 12, none⟩ = some (.string bx.tag) := hcell 12 _ rfl
      have q13 : wr.cell? ⟨g, j * 14 + 13, none⟩ = some (.slice xo bx.nots.length xc) := hcell 13 _ rfl
      have hNr : N < wr.heap.size := Nat.lt_of_lt_of_le hsU hsi
      have a0 : wr.cell? ⟨N, 0, none⟩ = some (.int .i64 v.it) := ((hbi.cell (p := ⟨N, 0, none⟩) hsU).trans (vc 0)).trans rfl
      have a1 : wr.cell? ⟨N, 1, none⟩ = some (.int .i64 v.L) := ((hbi.cell (p := ⟨N, 1, none⟩) hsU).trans (vc 1)).trans rfl
      have a2 : wr.cell? ⟨N, 2, none⟩ = some (.int .i64 v.R) := ((hbi.cell (p := ⟨N, 2, none⟩) hsU).trans (vc 2)).trans rfl
      have a3 : wr.cell? ⟨N, 3, none⟩ = some (.int .i64 v.N) := ((hbi.cell (p := ⟨N, 3, none⟩) hsU).trans (vc 3)).trans rfl
      have a4 : wr.cell? ⟨N, 4, none⟩ = some (.bool v.dead) := ((hbi.cell (p := ⟨N, 4, none⟩) hsU).trans (vc 4)).trans rfl
      have a5 : wr.cell? ⟨N, 5, none⟩ = some (.slice v.ao v.len v.cap) := ((hbi.cell (p := ⟨N, 5, none⟩) hsU).trans (vc 5)).trans rfl
      have a6 : wr.cell? ⟨N, 6, none⟩ = some (.string v.tag) := ((hbi.cell (p := ⟨N, 6, none⟩) hsU).trans (vc 6)).trans rfl
      have a7 : wr.cell? ⟨N, 7, none⟩ = some (.string v.body) := ((hbi.cell (p := ⟨N, 7, none⟩) hsU).trans (vc 7)).trans rfl
      have cl := lets17 bx xo xc 32 v al wr.drew ox (by omega) (nx.txts.below (Below.refl _ wr).drew) ((hhU.below hbi).below (Below.refl _ wr).drew)
      unfold Bval Vs.val at cl
      have HN : Hid ((List.take (j + 1) L1).any (fun x => x.lets al v.tag) = ((List.take j L1).any (fun x => x.lets al v.tag) || bx.lets al v.tag)) := hany
      obtain ⟨ob, hob⟩ : ∃ ob, ob = (List.take j L1).any (fun x => x.lets al v.tag) := ⟨_, rfl⟩
      rw [← hob]
      rw [← hob] at HN
      have hB : Hid (Below U.heap.size U wr) := hbi
      clear hany hob hcell hbx nx ox hb3i hbi
      generalize bx.lets al v.tag = rb at *
      cases ob with
      | true =>
        clear cl
        go_wp2_with fail
        go_quiet (fail)
        go_wp2
        go_roundw
        case rel => exact ⟨j + 1, by omega, by go_num, by rw [HN.out]; rfl, ⟨hB.out.os, hB.out.tape, hB.out.output, hB.out.size, hB.out.block⟩⟩
        case measure => simp [intOf]; omega
      | false =>
        go_wp2_with fail
        go_region_held3 (fun w' => w'.cell? ⟨g, j * 14, none⟩ = some (.int .i64 (bx.s 0).how) ∧ w'.cell? ⟨g, j * 14 + 1, none⟩ = some (.int .i64 (bx.s 0).lo) ∧ w'.cell? ⟨g, j * 14 + 2, none⟩ = some (.int .i64 (bx.s 0).hi) ∧ w'.cell? ⟨g, j * 14 + 3, none⟩ = some (.int .i64 (bx.s 1).how) ∧ w'.cell? ⟨g, j * 14 + 4, none⟩ = some (.int .i64 (bx.s 1).lo) ∧ w'.cell? ⟨g, j * 14 + 5, none⟩ = some (.int .i64 (bx.s 1).hi) ∧ w'.cell? ⟨g, j * 14 + 6, none⟩ = some (.int .i64 (bx.s 2).how) ∧ w'.cell? ⟨g, j * 14 + 7, none⟩ = some (.int .i64 (bx.s 2).lo) ∧ w'.cell? ⟨g, j * 14 + 8, none⟩ = some (.int .i64 (bx.s 2).hi) ∧ w'.cell? ⟨g, j * 14 + 9, none⟩ = some (.int .i64 (bx.s 3).how) ∧ w'.cell? ⟨g, j * 14 + 10, none⟩ = some (.int .i64 (bx.s 3).lo) ∧ w'.cell? ⟨g, j * 14 + 11, none⟩ = some (.int .i64 (bx.s 3).hi) ∧ w'.cell? ⟨g, j * 14 + 12, none⟩ = some (.string bx.tag) ∧ w'.cell? ⟨g, j * 14 + 13, none⟩ = some (.slice xo bx.nots.length xc) ∧ w'.cell? ⟨N, 0, none⟩ = some (.int .i64 v.it) ∧ w'.cell? ⟨N, 1, none⟩ = some (.int .i64 v.L) ∧ w'.cell? ⟨N, 2, none⟩ = some (.int .i64 v.R) ∧ w'.cell? ⟨N, 3, none⟩ = some (.int .i64 v.N) ∧ w'.cell? ⟨N, 4, none⟩ = some (.bool v.dead) ∧ w'.cell? ⟨N, 5, none⟩ = some (.slice v.ao v.len v.cap) ∧ w'.cell? ⟨N, 6, none⟩ = some (.string v.tag) ∧ w'.cell? ⟨N, 7, none⟩ = some (.string v.body))
          (go_keep)
          (first
            | (go_at_call 17; refine cl.mono ?_; rintro e w5 ⟨rfl, hb5⟩; obtain ⟨hcl, hfl, z1⟩ := callee_old hb5))
        have hB5 : Below U.heap.size U w5 := hB.out.trans ((Below.trans (b := wr.drew) (Below.refl _ wr).drew hb5).mono hsi)
        clear hcl hfl cl hb5
        go_wp2
        go_roundw
        case rel => exact ⟨j + 1, by omega, by go_num, by rw [HN.out]; rfl, hB5⟩
        case measure => simp [intOf]; omega
    · obtain rfl : j = L1.length := by omega
      rw [List.take_length]
      obtain ⟨xx, hxx⟩ : ∃ xx, xx = L1.any (fun x => x.lets al v.tag) := ⟨_, rfl⟩
      rw [← hxx]
      have HX : Hid (xx = L1.any (fun x => x.lets al v.tag)) := hxx
      clear hxx hb3i
      go_wp2_with fail
      go_loopw [12, 14] (fun one i wi => ∃ j : Nat, j ≤ L2.length ∧ i = .int .i64 j ∧ one = .bool ((L2.take j).any (fun x => x.lets al v.tag)) ∧ Below U.heap.size U wi) (fun _ i _ => L2.length - (intOf i).toNat)
      case atStart => exact ⟨0, by omega, rfl, rfl, hbi⟩
      case round =>
        clear hbi hsi
        obtain ⟨j, hj, rfl, rfl, hbi⟩ := hrel
        have hb3i : Below w4.heap.size w4 wr := hb4U.trans (hbi.mono hb4U.size)
        have hsi := hbi.size
        by_cases hjt : j < L2.length
        · have hany := any_step L2 al v.tag j hjt
          obtain ⟨g, xo, xc, rfl, _, hg, nx, hcell⟩ := (row4.below hb3i).at j hjt
          have ox := ok2 _ (List.getElem_mem hjt)
          obtain ⟨bx, hbx⟩ : ∃ bx, bx = L2[j] := ⟨_, rfl⟩
          rw [← hbx] at nx hcell ox hany
          have hji : (j : Int) < (L2.length : Int) := by omega
          have q0 : wr.cell? ⟨g, j * 14, none⟩ = some (.int .i64 (bx.s 0).how) := hcell 0 _ rfl
          have q1 : wr.cell? ⟨g, j * 14 + 1, none⟩ = some (.int .i64 (bx.s 0).lo) := hcell 1 _ rfl
          have q2 : wr.cell? ⟨g, j * 14 + 2, none⟩ = some (.int .i64 (bx.s 0).hi) := hcell 2 _ rfl
          have q3 : wr.cell? ⟨g, j * 14 + 3, none⟩ = some (.int .i64 (bx.s 1).how) := hcell 3 _ rfl
          have q4 : wr.cell? ⟨g, j * 14 + 4, none⟩ = some (.int .i64 (bx.s 1).lo) := hcell 4 _ rfl
          have q5 : wr.cell? ⟨g, j * 14 + 5, none⟩ = some (.int .i64 (bx.s 1).hi) := hcell 5 _ rfl
          have q6 : wr.cell? ⟨g, j * 14 + 6, none⟩ = some (.int .i64 (bx.s 2).how) := hcell 6 _ rfl
          have q7 : wr.cell? ⟨g, j * 14 + 7, none⟩ = some (.int .i64 (bx.s 2).lo) := hcell 7 _ rfl
          have q8 : wr.cell? ⟨g, j * 14 + 8, none⟩ = some (.int .i64 (bx.s 2).hi) := hcell 8 _ rfl
          have q9 : wr.cell? ⟨g, j * 14 + 9, none⟩ = some (.int .i64 (bx.s 3).how) := hcell 9 _ rfl
          have q10 : wr.cell? ⟨g, j * 14 + 10, none⟩ = some (.int .i64 (bx.s 3).lo) := hcell 10 _ rfl
          have q11 : wr.cell? ⟨g, j * 14 + 11, none⟩ = some (.int .i64 (bx.s 3).hi) := hcell 11 _ rfl
          have q12 : wr.cell? ⟨g, j * 14 + 12, none⟩ = some (.string bx.tag) := hcell 12 _ rfl
          have q13 : wr.cell? ⟨g, j * 14 + 13, none⟩ = some (.slice xo bx.nots.length xc) := hcell 13 _ rfl
          have hNr : N < wr.heap.size := Nat.lt_of_lt_of_le hsU hsi
          have a0 : wr.cell? ⟨N, 0, none⟩ = some (.int .i64 v.it) := ((hbi.cell (p := ⟨N, 0, none⟩) hsU).trans (vc 0)).trans rfl
          have a1 : wr.cell? ⟨N, 1, none⟩ = some (.int .i64 v.L) := ((hbi.cell (p := ⟨N, 1, none⟩) hsU).trans (vc 1)).trans rfl
          have a2 : wr.cell? ⟨N, 2, none⟩ = some (.int .i64 v.R) := ((hbi.cell (p := ⟨N, 2, none⟩) hsU).trans (vc 2)).trans rfl
          have a3 : wr.cell? ⟨N, 3, none⟩ = some (.int .i64 v.N) := ((hbi.cell (p := ⟨N, 3, none⟩) hsU).trans (vc 3)).trans rfl
          have a4 : wr.cell? ⟨N, 4, none⟩ = some (.bool v.dead) := ((hbi.cell (p := ⟨N, 4, none⟩) hsU).trans (vc 4)).trans rfl
          have a5 : wr.cell? ⟨N, 5, none⟩ = some (.slice v.ao v.len v.cap) := ((hbi.cell (p := ⟨N, 5, none⟩) hsU).trans (vc 5)).trans rfl
          have a6 : wr.cell? ⟨N, 6, none⟩ = some (.string v.tag) := ((hbi.cell (p := ⟨N, 6, none⟩) hsU).trans (vc 6)).trans rfl
          have a7 : wr.cell? ⟨N, 7, none⟩ = some (.string v.body) := ((hbi.cell (p := ⟨N, 7, none⟩) hsU).trans (vc 7)).trans rfl
          have cl := lets17 bx xo xc 32 v al wr.drew ox (by omega) (nx.txts.below (Below.refl _ wr).drew) ((hhU.below hbi).below (Below.refl _ wr).drew)
          unfold Bval Vs.val at cl
          have HN : Hid ((List.take (j + 1) L2).any (fun x => x.lets al v.tag) = ((List.take j L2).any (fun x => x.lets al v.tag) || bx.lets al v.tag)) := hany
          obtain ⟨ob, hob⟩ : ∃ ob, ob = (List.take j L2).any (fun x => x.lets al v.tag) := ⟨_, rfl⟩
          rw [← hob]
          rw [← hob] at HN
          have hB : Hid (Below U.heap.size U wr) := hbi
          clear hany hob hcell hbx nx ox hb3i hbi
          generalize bx.lets al v.tag = rb at *
          cases ob with
          | true =>
            clear cl
            go_wp2_with fail
            go_quiet (fail)
            go_wp2
            go_roundw
            case rel => exact ⟨j + 1, by omega, by go_num, by rw [HN.out]; rfl, ⟨hB.out.os, hB.out.tape, hB.out.output, hB.out.size, hB.out.block⟩⟩
            case measure => simp [intOf]; omega
          | false =>
            go_wp2_with fail
            go_region_held3 (fun w' => w'.cell? ⟨g, j * 14, none⟩ = some (.int .i64 (bx.s 0).how) ∧ w'.cell? ⟨g, j * 14 + 1, none⟩ = some (.int .i64 (bx.s 0).lo) ∧ w'.cell? ⟨g, j * 14 + 2, none⟩ = some (.int .i64 (bx.s 0).hi) ∧ w'.cell? ⟨g, j * 14 + 3, none⟩ = some (.int .i64 (bx.s 1).how) ∧ w'.cell? ⟨g, j * 14 + 4, none⟩ = some (.int .i64 (bx.s 1).lo) ∧ w'.cell? ⟨g, j * 14 + 5, none⟩ = some (.int .i64 (bx.s 1).hi) ∧ w'.cell? ⟨g, j * 14 + 6, none⟩ = some (.int .i64 (bx.s 2).how) ∧ w'.cell? ⟨g, j * 14 + 7, none⟩ = some (.int .i64 (bx.s 2).lo) ∧ w'.cell? ⟨g, j * 14 + 8, none⟩ = some (.int .i64 (bx.s 2).hi) ∧ w'.cell? ⟨g, j * 14 + 9, none⟩ = some (.int .i64 (bx.s 3).how) ∧ w'.cell? ⟨g, j * 14 + 10, none⟩ = some (.int .i64 (bx.s 3).lo) ∧ w'.cell? ⟨g, j * 14 + 11, none⟩ = some (.int .i64 (bx.s 3).hi) ∧ w'.cell? ⟨g, j * 14 + 12, none⟩ = some (.string bx.tag) ∧ w'.cell? ⟨g, j * 14 + 13, none⟩ = some (.slice xo bx.nots.length xc) ∧ w'.cell? ⟨N, 0, none⟩ = some (.int .i64 v.it) ∧ w'.cell? ⟨N, 1, none⟩ = some (.int .i64 v.L) ∧ w'.cell? ⟨N, 2, none⟩ = some (.int .i64 v.R) ∧ w'.cell? ⟨N, 3, none⟩ = some (.int .i64 v.N) ∧ w'.cell? ⟨N, 4, none⟩ = some (.bool v.dead) ∧ w'.cell? ⟨N, 5, none⟩ = some (.slice v.ao v.len v.cap) ∧ w'.cell? ⟨N, 6, none⟩ = some (.string v.tag) ∧ w'.cell? ⟨N, 7, none⟩ = some (.string v.body))
              (go_keep)
              (first
                | (go_at_call 17; refine cl.mono ?_; rintro e w5 ⟨rfl, hb5⟩; obtain ⟨hcl, hfl, z1⟩ := callee_old hb5))
            have hB5 : Below U.heap.size U w5 := hB.out.trans ((Below.trans (b := wr.drew) (Below.refl _ wr).drew hb5).mono hsi)
            clear hcl hfl cl hb5
            go_wp2
            go_roundw
            case rel => exact ⟨j + 1, by omega, by go_num, by rw [HN.out]; rfl, hB5⟩
            case measure => simp [intOf]; omega
        · obtain rfl : j = L2.length := by omega
          rw [List.take_length]
          have hbE : Below w.heap.size w wr := hbw4.trans (hb3i.mono hbw4.size)
          clear hbi hb3i
          obtain ⟨y, hy⟩ : ∃ y, y = L2.any (fun x => x.lets al v.tag) := ⟨_, rfl⟩
          rw [← hy]
          have HY : Hid (p1 = true → p2 = true → xx = !y) := by rw [hy, HX.out]; exact HT'.out
          clear hy HT' HX
          cases p1 with
          | false =>
            go_wp2
            go_ret
            exact ⟨rfl, hbE⟩
          | true =>
            cases p2 with
            | false =>
              go_wp2
              go_ret
              exact ⟨rfl, hbE⟩
            | true =>
              obtain rfl := HY.out rfl rfl
              clear HY
              cases y with
              | true =>
                go_wp2
                go_ret
                exact ⟨rfl, hbE⟩
              | false =>
                go_wp2
                go_ret
                exact ⟨rfl, hbE⟩

theorem not_any (a0 : Option Addr) (l0 c0 : Nat) (a1 : Option Addr) (l1 c1 : Nat) (w : World) (r0 : Reads8 w a0 l0) (r1 : Reads8 w a1 l1) :
    Calls Try.prog 8 #[.slice a0 l0 c0, .slice a1 l1 c1] w fun e w' => e = .returned (.bool true) ∧ Below w.heap.size w w' := by
  by_cases h : 40 < l0 ∨ 20 < l1
  · exact not_long a0 a1 l0 c0 l1 c1 w r0.1 r1.1 h
  · exact not_short a0 a1 l0 c0 l1 c1 w (by omega) (by omega) r0 r1

end Go.Proofs.Ytgggncliadjmcaa
