/- cardamomref4.Covers: the document's one filter within another. -/
import Derived.Test.YtflpdekifkcfkabCvc
import Derived.Test.YtflpdekifkcfkabCrw
import Derived.Test.YtflpdekifkcfkabRof26
import Derived.BigQuiet
import Derived.Deep.QuietTactic
namespace Go.Proofs.Ytflpdekifkcfkab
open Go.RowKit
set_option linter.unusedVariables false

theorem anyIn_step (y : Ev.Bx) (l : List Ev.Bx) (k : Nat) (h : k < l.length) : (l.take (k + 1)).any (fun x => Ev.within y x) = ((l.take k).any (fun x => Ev.within y x) || Ev.within y l[k]) := by
  rw [List.take_succ_eq_append_getElem h, List.any_append]
  simp

set_option maxRecDepth 100000 in
set_option maxHeartbeats 8000000 in
/-- cardamomref4.Covers. -/
theorem rcovers12 (f g : Ev.Ft) (w : World) (o1 k1 l1 h1 : Int) (t1 : ByteArray) (x1 : Option Addr) (n1 : Nat) (o2 k2 l2 h2 : Int) (t2 : ByteArray) (x2 : Option Addr) (n2 : Nat) (df : f.deep ≤ 6) (dg : g.deep ≤ 6) (hf : f.fine) (hg : g.fine) (lf : Lies Any w f o1 k1 l1 h1 t1 x1 n1) (lg : Lies Any w g o2 k2 l2 h2 t2 x2 n2) :
    Calls Try.prog 12 #[.agg #[.int .i64 o1, .int .i64 k1, .int .i64 l1, .int .i64 h1, .string t1, .slice x1 n1 n1], .agg #[.int .i64 o2, .int .i64 k2, .int .i64 l2, .int .i64 h2, .string t2, .slice x2 n2 n2]] w (CPost w (f.row false) (g.row false)) := by
  have ff := fits_row f false hf df
  have fg := fits_row g false hg dg
  obtain ⟨W, hW⟩ : ∃ W, W = (w.alloc (.cells #[.int .i64 o1, .int .i64 k1, .int .i64 l1, .int .i64 h1, .string t1, .slice x1 n1 n1] 26)).alloc (.cells #[.int .i64 o2, .int .i64 k2, .int .i64 l2, .int .i64 h2, .string t2, .slice x2 n2 n2] 26) := ⟨_, rfl⟩
  have hbW : Below w.heap.size w W := by rw [hW]; exact ((Below.refl _ _).alloc (Nat.le_refl _) _).alloc (by simp) _
  have c1 := rof13 f W o1 k1 l1 h1 t1 x1 n1 df hf (lf.below hbW)
  have c2 := fun w' (hb : Below W.heap.size W w') => rof13 g w' o2 k2 l2 h2 t2 x2 n2 dg hg ((lg.below hbW).below hb)
  have d2 : ∀ i, W.cell? ⟨w.heap.size + 1, i, none⟩ = (#[.int .i64 o2, .int .i64 k2, .int .i64 l2, .int .i64 h2, .string t2, .slice x2 n2 n2] : Array Value)[i]? := fun i => by rw [hW, World.cell?_alloc_at _ _ _ _ (by simp)]
  have hs : w.heap.size + 1 < W.heap.size := by rw [hW]; simp
  unfold RPost at c1 c2
  rw [hW] at c1
  have HW : Hid (W = _ ∧ Below w.heap.size w W) := ⟨hW, hbW⟩
  unfold CPost
  clear hW hbW lf lg hf hg df dg
  generalize f.row false = ra at *
  generalize g.row false = rb at *
  have HFF : Hid (Fits 32 ra ∧ Fits 32 rb) := ⟨ff, fg⟩
  clear ff fg
  go_enter Try.func12, Try.ntmps12
  go_wp2_with fail
  refine c1.mono ?_
  rintro e w1 ⟨v1, rfl, row1, hb1⟩
  rw [← HW.out.1] at hb1 row1
  obtain ⟨ao1, cp1, rfl⟩ := row1.slice
  clear c1
  have E2 : ∀ i, w1.cell? ⟨w.heap.size + 1, i, none⟩ = (#[.int .i64 o2, .int .i64 k2, .int .i64 l2, .int .i64 h2, .string t2, .slice x2 n2 n2] : Array Value)[i]? := fun i => (hb1.cell (p := ⟨w.heap.size + 1, i, none⟩) hs).trans (d2 i)
  have hs1 := hb1.size
  have hs1' : w.heap.size + 1 < w1.heap.size := by omega
  have c2' := c2 w1 hb1
  clear c2 d2
  go_wp2_with fail
  refine c2'.mono ?_
  rintro e w2 ⟨v2, rfl, row2, hb2⟩
  obtain ⟨ao2, cp2, rfl⟩ := row2.slice
  have hbw2 : Below w.heap.size w w2 := (HW.out.2.trans (hb1.mono HW.out.2.size)).trans (hb2.mono (by have := HW.out.2.size; omega))
  have HR : Hid (RowB W.heap.size w2 (.slice ao1 (ra.getD []).length cp1) (ra.getD []) ∧ Below w.heap.size w w2) := ⟨row1.below hb2, hbw2⟩
  clear c2' E2 row1 hbw2 hb1 hb2
  cases ra with
  | none =>
    simp only [Option.isSome_none]
    clear row2
    go_wp2
    go_ret2
    exact ⟨rfl, HR.out.2⟩
  | some a =>
    simp only [Option.isSome_some, Option.getD_some]
    cases rb with
    | none =>
      simp only [Option.isSome_none]
      clear row2
      go_wp2
      go_ret2
      exact ⟨rfl, HR.out.2⟩
    | some b =>
      simp only [Option.isSome_some, Option.getD_some] at row2 ⊢
      obtain ⟨la, oka⟩ := HFF.out.1 a rfl
      obtain ⟨lb, okb⟩ := HFF.out.2 b rfl
      have HRB : Hid (RowB w1.heap.size w2 (.slice ao2 b.length cp2) b ∧ (∀ x ∈ a, x.ok 32) ∧ (∀ x ∈ b, x.ok 32) ∧ RowB W.heap.size w2 (.slice ao1 a.length cp1) a) := ⟨row2, oka, okb, HR.out.1⟩
      clear row2 oka okb HFF
      go_wp2_with fail
      go_loopg [10] b.length (fun gg i wr => ∃ k : Nat, k ≤ b.length ∧ gg = b.length - k ∧ i = .int .i64 k ∧ Hid (CovTo a b k) ∧ Hid (Below w2.heap.size w2 wr))
      case atStart => exact ⟨0, by omega, rfl, rfl, fun j hj h => by omega, Below.refl _ _⟩
      case round =>
        obtain ⟨k, hk, hgk, rfl, HT, hbr⟩ := hrel
        have HGK : Hid (gk = b.length - k) := hgk
        clear hgk
        by_cases hlt : k < b.length
        · have hki : (k : Int) < (b.length : Int) := by omega
          go_wp2_with fail
          go_loopg [11, 12] a.length (fun gg s i wr => ∃ j : Nat, j ≤ a.length ∧ gg = a.length - j ∧ i = .int .i64 j ∧ s = .bool ((a.take j).any (fun x => Ev.within b[k] x)) ∧ Hid (Below w2.heap.size w2 wr))
          case atStart => exact ⟨0, by omega, rfl, rfl, rfl, hbr.out⟩
          case round =>
            clear hbr
            obtain ⟨j, hj, hgj, rfl, rfl, hbr⟩ := hrel
            have HGJ : Hid (gk = a.length - j) := hgj
            clear hgj
            by_cases hjt : j < a.length
            · have hji : (j : Int) < (a.length : Int) := by omega
              obtain ⟨gb, yo, yc, rfl, _, hgb, ny, hcy⟩ := (HRB.out.1.below hbr.out).at k hlt
              obtain ⟨ga, xo, xc, rfl, _, hga, nx, hcx⟩ := (HRB.out.2.2.2.below hbr.out).at j hjt
              have oy := HRB.out.2.2.1 _ (List.getElem_mem hlt)
              have ox := HRB.out.2.1 _ (List.getElem_mem hjt)
              have hstep := anyIn_step b[k] a j hjt
              obtain ⟨y, hy⟩ : ∃ y, y = b[k] := ⟨_, rfl⟩
              obtain ⟨x, hx⟩ : ∃ x, x = a[j] := ⟨_, rfl⟩
              rw [← hy] at ny hcy oy
              rw [← hx] at nx hcx ox
              rw [← hx] at hstep
              rw [show Ev.within b[k] x = Ev.within y x by rw [hy]] at hstep
              have HST : Hid ((a.take (j + 1)).any (fun x => Ev.within b[k] x) = ((a.take j).any (fun x => Ev.within b[k] x) || Ev.within y x)) := hstep
              have q0 : wr.cell? ⟨gb, k * 14, none⟩ = some (.int .i64 (y.s 0).how) := hcy 0 _ rfl
              have q1 : wr.cell? ⟨gb, k * 14 + 1, none⟩ = some (.int .i64 (y.s 0).lo) := hcy 1 _ rfl
              have q2 : wr.cell? ⟨gb, k * 14 + 2, none⟩ = some (.int .i64 (y.s 0).hi) := hcy 2 _ rfl
              have q3 : wr.cell? ⟨gb, k * 14 + 3, none⟩ = some (.int .i64 (y.s 1).how) := hcy 3 _ rfl
              have q4 : wr.cell? ⟨gb, k * 14 + 4, none⟩ = some (.int .i64 (y.s 1).lo) := hcy 4 _ rfl
              have q5 : wr.cell? ⟨gb, k * 14 + 5, none⟩ = some (.int .i64 (y.s 1).hi) := hcy 5 _ rfl
              have q6 : wr.cell? ⟨gb, k * 14 + 6, none⟩ = some (.int .i64 (y.s 2).how) := hcy 6 _ rfl
              have q7 : wr.cell? ⟨gb, k * 14 + 7, none⟩ = some (.int .i64 (y.s 2).lo) := hcy 7 _ rfl
              have q8 : wr.cell? ⟨gb, k * 14 + 8, none⟩ = some (.int .i64 (y.s 2).hi) := hcy 8 _ rfl
              have q9 : wr.cell? ⟨gb, k * 14 + 9, none⟩ = some (.int .i64 (y.s 3).how) := hcy 9 _ rfl
              have q10 : wr.cell? ⟨gb, k * 14 + 10, none⟩ = some (.int .i64 (y.s 3).lo) := hcy 10 _ rfl
              have q11 : wr.cell? ⟨gb, k * 14 + 11, none⟩ = some (.int .i64 (y.s 3).hi) := hcy 11 _ rfl
              have q12 : wr.cell? ⟨gb, k * 14 + 12, none⟩ = some (.string y.tag) := hcy 12 _ rfl
              have q13 : wr.cell? ⟨gb, k * 14 + 13, none⟩ = some (.slice yo y.nots.length yc) := hcy 13 _ rfl
              have s0 : wr.cell? ⟨ga, j * 14, none⟩ = some (.int .i64 (x.s 0).how) := hcx 0 _ rfl
              have s1 : wr.cell? ⟨ga, j * 14 + 1, none⟩ = some (.int .i64 (x.s 0).lo) := hcx 1 _ rfl
              have s2 : wr.cell? ⟨ga, j * 14 + 2, none⟩ = some (.int .i64 (x.s 0).hi) := hcx 2 _ rfl
              have s3 : wr.cell? ⟨ga, j * 14 + 3, none⟩ = some (.int .i64 (x.s 1).how) := hcx 3 _ rfl
              have s4 : wr.cell? ⟨ga, j * 14 + 4, none⟩ = some (.int .i64 (x.s 1).lo) := hcx 4 _ rfl
              have s5 : wr.cell? ⟨ga, j * 14 + 5, none⟩ = some (.int .i64 (x.s 1).hi) := hcx 5 _ rfl
              have s6 : wr.cell? ⟨ga, j * 14 + 6, none⟩ = some (.int .i64 (x.s 2).how) := hcx 6 _ rfl
              have s7 : wr.cell? ⟨ga, j * 14 + 7, none⟩ = some (.int .i64 (x.s 2).lo) := hcx 7 _ rfl
              have s8 : wr.cell? ⟨ga, j * 14 + 8, none⟩ = some (.int .i64 (x.s 2).hi) := hcx 8 _ rfl
              have s9 : wr.cell? ⟨ga, j * 14 + 9, none⟩ = some (.int .i64 (x.s 3).how) := hcx 9 _ rfl
              have s10 : wr.cell? ⟨ga, j * 14 + 10, none⟩ = some (.int .i64 (x.s 3).lo) := hcx 10 _ rfl
              have s11 : wr.cell? ⟨ga, j * 14 + 11, none⟩ = some (.int .i64 (x.s 3).hi) := hcx 11 _ rfl
              have s12 : wr.cell? ⟨ga, j * 14 + 12, none⟩ = some (.string x.tag) := hcx 12 _ rfl
              have s13 : wr.cell? ⟨ga, j * 14 + 13, none⟩ = some (.slice xo x.nots.length xc) := hcx 13 _ rfl
              have c := rwithin_any y x yo xo yc xc 32 32 wr.drew oy ox (by omega) (by omega) (ny.txts.below (Below.refl _ wr).drew) (nx.txts.below (Below.refl _ wr).drew)
              obtain ⟨ob, hob⟩ : ∃ ob, ob = (a.take j).any (fun x => Ev.within b[k] x) := ⟨_, rfl⟩
              rw [← hob] at HST
              rw [← hob]
              have hsr := hbr.out.size
              clear hob hstep hy hx hcx hcy nx ny ox oy
              generalize Ev.within y x = rb at *
              cases ob with
              | true =>
                clear c
                go_wp2_with fail
                go_quiet (fail)
                go_wp2
                go_roundg (a.length - (j + 1))
                case measure => have := HGJ.out; omega
                case rel => exact ⟨j + 1, by omega, rfl, by go_num, by rw [HST.out]; rfl, ⟨hbr.out.os, hbr.out.tape, hbr.out.output, hbr.out.size, hbr.out.block⟩⟩
              | false =>
                go_wp2_with fail
                go_region_held3 (fun w' => w'.cell? ⟨gb, k * 14, none⟩ = some (.int .i64 (y.s 0).how) ∧ w'.cell? ⟨gb, k * 14 + 1, none⟩ = some (.int .i64 (y.s 0).lo) ∧ w'.cell? ⟨gb, k * 14 + 2, none⟩ = some (.int .i64 (y.s 0).hi) ∧ w'.cell? ⟨gb, k * 14 + 3, none⟩ = some (.int .i64 (y.s 1).how) ∧ w'.cell? ⟨gb, k * 14 + 4, none⟩ = some (.int .i64 (y.s 1).lo) ∧ w'.cell? ⟨gb, k * 14 + 5, none⟩ = some (.int .i64 (y.s 1).hi) ∧ w'.cell? ⟨gb, k * 14 + 6, none⟩ = some (.int .i64 (y.s 2).how) ∧ w'.cell? ⟨gb, k * 14 + 7, none⟩ = some (.int .i64 (y.s 2).lo) ∧ w'.cell? ⟨gb, k * 14 + 8, none⟩ = some (.int .i64 (y.s 2).hi) ∧ w'.cell? ⟨gb, k * 14 + 9, none⟩ = some (.int .i64 (y.s 3).how) ∧ w'.cell? ⟨gb, k * 14 + 10, none⟩ = some (.int .i64 (y.s 3).lo) ∧ w'.cell? ⟨gb, k * 14 + 11, none⟩ = some (.int .i64 (y.s 3).hi) ∧ w'.cell? ⟨gb, k * 14 + 12, none⟩ = some (.string y.tag) ∧ w'.cell? ⟨gb, k * 14 + 13, none⟩ = some (.slice yo y.nots.length yc) ∧ w'.cell? ⟨ga, j * 14, none⟩ = some (.int .i64 (x.s 0).how) ∧ w'.cell? ⟨ga, j * 14 + 1, none⟩ = some (.int .i64 (x.s 0).lo) ∧ w'.cell? ⟨ga, j * 14 + 2, none⟩ = some (.int .i64 (x.s 0).hi) ∧ w'.cell? ⟨ga, j * 14 + 3, none⟩ = some (.int .i64 (x.s 1).how) ∧ w'.cell? ⟨ga, j * 14 + 4, none⟩ = some (.int .i64 (x.s 1).lo) ∧ w'.cell? ⟨ga, j * 14 + 5, none⟩ = some (.int .i64 (x.s 1).hi) ∧ w'.cell? ⟨ga, j * 14 + 6, none⟩ = some (.int .i64 (x.s 2).how) ∧ w'.cell? ⟨ga, j * 14 + 7, none⟩ = some (.int .i64 (x.s 2).lo) ∧ w'.cell? ⟨ga, j * 14 + 8, none⟩ = some (.int .i64 (x.s 2).hi) ∧ w'.cell? ⟨ga, j * 14 + 9, none⟩ = some (.int .i64 (x.s 3).how) ∧ w'.cell? ⟨ga, j * 14 + 10, none⟩ = some (.int .i64 (x.s 3).lo) ∧ w'.cell? ⟨ga, j * 14 + 11, none⟩ = some (.int .i64 (x.s 3).hi) ∧ w'.cell? ⟨ga, j * 14 + 12, none⟩ = some (.string x.tag) ∧ w'.cell? ⟨ga, j * 14 + 13, none⟩ = some (.slice xo x.nots.length xc))
                  (go_keep)
                  (first
                    | (go_at_call 15; refine c.mono ?_; rintro e w5 ⟨rfl, hb5⟩; obtain ⟨hcl, hfl, z1⟩ := callee_old hb5))
                have hB5 : Below w2.heap.size w2 w5 := hbr.out.trans ((Below.trans (b := wr.drew) (Below.refl _ wr).drew hb5).mono hsr)
                clear hcl hfl c hb5
                go_wp2
                go_roundg (a.length - (j + 1))
                case measure => have := HGJ.out; omega
                case rel => exact ⟨j + 1, by omega, rfl, by go_num, by rw [HST.out]; rfl, hB5⟩
            · obtain rfl : j = a.length := by omega
              clear hj hjt
              rw [List.take_length]
              obtain ⟨ry, hry⟩ : ∃ ry, ry = a.any (fun x => Ev.within b[k] x) := ⟨_, rfl⟩
              have HRY : Hid (a.any (fun x => Ev.within b[k] x) = ry) := hry.symm
              rw [← hry]
              clear hry
              cases ry with
              | true =>
                go_wp2
                go_roundg (b.length - (k + 1))
                case measure => have := HGK.out; omega
                case rel => exact ⟨k + 1, by omega, rfl, by go_num, covTo_step HT.out hlt HRY.out, hbr.out⟩
              | false =>
                go_wp2
                go_ret2
                exact ⟨by rw [show Ev.covers (some a) (some b) = false from covTo_none hlt HRY.out]; rfl, HR.out.2.trans (hbr.out.mono HR.out.2.size)⟩
        · obtain rfl : k = b.length := by omega
          clear hk hlt
          go_wp2
          go_ret2
          exact ⟨by rw [show Ev.covers (some a) (some b) = true from covTo_all HT.out]; rfl, HR.out.2.trans (hbr.out.mono HR.out.2.size)⟩

end Go.Proofs.Ytflpdekifkcfkab
