/- NormForms: which boxes some filters are, by how many. -/
import Derived.Test.YtgggncliadjmcaaParse
import Derived.Test.YtgggncliadjmcaaBegun
import Derived.Test.YtgggncliadjmcaaPlay
namespace Go.Proofs.Ytgggncliadjmcaa
open Go.RowKit
set_option linter.unusedVariables false

def texts : List ByteArray := [⟨#[42]⟩, ⟨#[33, 42]⟩, ⟨#[64, 49, 61, 53]⟩, ⟨#[33, 64, 49, 61, 53]⟩, ⟨#[33, 64, 49, 61, 48]⟩, ⟨#[33, 64, 49, 58, 48, 45, 57, 57]⟩, ⟨#[94, 97]⟩, ⟨#[33, 94, 97]⟩, ⟨#[64, 49, 61, 53, 124, 94, 97]⟩, ⟨#[64, 49, 61, 53, 38, 94, 97]⟩, ⟨#[64, 49, 61, 53, 38, 64, 49, 61, 54]⟩, ⟨#[33, 64, 49, 61, 53, 38, 33, 64, 50, 61, 53]⟩, ⟨#[33, 40, 64, 49, 61, 53, 124, 64, 50, 61, 53, 41]⟩, ⟨#[33, 40, 64, 49, 61, 53, 38, 64, 50, 61, 53, 41]⟩, ⟨#[94, 97, 38, 94, 97, 98]⟩, ⟨#[94, 97, 38, 94, 98]⟩, ⟨#[94, 97, 38, 33, 94, 97, 98]⟩, ⟨#[94, 97, 98, 38, 33, 94, 97]⟩, ⟨#[33, 33, 64, 49, 61, 53]⟩, ⟨#[33, 64, 48, 61, 53, 38, 33, 64, 49, 61, 53, 38, 33, 64, 50, 61, 53]⟩, ⟨#[64, 49, 58, 48, 45, 57, 38, 64, 49, 58, 53, 45, 50, 48]⟩]
def wants : List Int := [1, 0, 1, 3, 2, 1, 1, 1, 2, 1, 0, 9, 9, 6, 1, 0, 1, 0, 1, -1, 1]
def textAt (k : Nat) : ByteArray := texts.getD k ByteArray.empty
def wantAt (k : Nat) : Int := wants.getD k 0

def fineB : Ev.Ft → Bool
  | .leaf op key lo hi tag => decide (1 ≤ op) && decide (op ≤ 4) && decide (tag.size ≤ 1000) && decide (0 ≤ key) && decide (key ≤ 3) && decide (0 ≤ lo) && decide (lo ≤ hi) && decide (hi ≤ 99)
  | .non f => fineB f
  | .two op f g => (decide (op = 5) || decide (op = 6)) && fineB f && fineB g

theorem fineB_fine (f : Ev.Ft) (h : fineB f = true) : f.fine := by
  induction f with
  | leaf op key lo hi tag => simp only [fineB, Bool.and_eq_true, decide_eq_true_eq] at h; exact ⟨h.1.1.1.1.1.1.1, h.1.1.1.1.1.1.2, h.1.1.1.1.1.2, h.1.1.1.1.2, h.1.1.1.2, h.1.1.2, h.1.2, h.2⟩
  | non f ih => exact ih h
  | two op f g ihf ihg => simp only [fineB, Bool.and_eq_true, Bool.or_eq_true, decide_eq_true_eq] at h; exact ⟨h.1.1, ihf h.1.2, ihg h.2⟩

/-- How many boxes; -1: no row. -/
def many (f : Ev.Ft) : Int := match f.row false with
  | none => -1
  | some l => l.length

/-- A text is right, and its filter answers p. -/
def good (p : Ev.Ft → Bool) (s : ByteArray) : Bool :=
  decide (s.size ≤ 80) &&
  match Wd.all s.data.toList with
  | (ws, n, ok) => decide (n = 0) && ok && decide (ws.length ≤ 60) && ws.all (fun x => decide ((x.kind = 1 ∨ x.kind = 2) ∨ x.kind = 3)) &&
    match Ps.pars ws 40 .or 0 with
    | some (f, q) => decide (q = ws.length) && decide (f.deep ≤ 6) && fineB f && p f
    | none => false

theorem good_out {p : Ev.Ft → Bool} {s : ByteArray} (h : good p s = true) : s.size ≤ 80 ∧ ∃ ws f, Wd.all s.data.toList = (ws, 0, true) ∧ ws.length ≤ 60 ∧ (∀ x ∈ ws, (x.kind = 1 ∨ x.kind = 2) ∨ x.kind = 3) ∧ Ps.pars ws 40 .or 0 = some (f, ws.length) ∧ f.deep ≤ 6 ∧ f.fine ∧ p f = true := by
  unfold good at h
  rw [Bool.and_eq_true] at h
  obtain ⟨h0, h⟩ := h
  refine ⟨of_decide_eq_true h0, ?_⟩
  obtain ⟨ws, n, ok, e⟩ : ∃ ws n ok, Wd.all s.data.toList = (ws, n, ok) := ⟨_, _, _, rfl⟩
  rw [e] at h ⊢
  simp only [Bool.and_eq_true, decide_eq_true_eq] at h
  obtain ⟨⟨⟨⟨h1, h2⟩, h3⟩, h4⟩, h5⟩ := h
  subst h1 h2
  cases ep : Ps.pars ws 40 .or 0 with
  | none => rw [ep] at h5; cases h5
  | some y =>
    obtain ⟨f, q⟩ := y
    rw [ep] at h5
    simp only [Bool.and_eq_true, decide_eq_true_eq] at h5
    obtain ⟨⟨⟨g1, g2⟩, g3⟩, g4⟩ := h5
    subst g1
    refine ⟨ws, f, rfl, h3, fun x hx => ?_, ep, g2, fineB_fine f g3, g4⟩
    have := List.all_eq_true.1 h4 x hx
    simpa using this

theorem good_all : ∀ k : Fin 21, good (fun f => decide (many f = wantAt k)) (textAt k) = true := by decide +kernel

/-- The last one's only box. -/
def lastB (f : Ev.Ft) : Bool := match f.row false with
  | some [z] => decide ((z.s 1).how = 1) && decide ((z.s 1).lo = 5) && decide ((z.s 1).hi = 9) && decide (z.nots = [[97], [98]])
  | _ => false

theorem good_last : good lastB ⟨#[64, 49, 58, 48, 45, 57, 38, 64, 49, 58, 53, 45, 50, 48, 38, 33, 94, 98, 38, 33, 94, 97]⟩ = true := by decide +kernel

theorem lastB_out {f : Ev.Ft} (h : lastB f = true) : ∃ z, f.row false = some [z] ∧ (z.s 1).how = 1 ∧ (z.s 1).lo = 5 ∧ (z.s 1).hi = 9 ∧ z.nots = [[97], [98]] := by
  unfold lastB at h
  split at h
  · rename_i z e
    simp only [Bool.and_eq_true, decide_eq_true_eq] at h
    exact ⟨z, e, h.1.1.1, h.1.1.2, h.1.2, h.2⟩
  · cases h

set_option maxRecDepth 100000 in
set_option maxHeartbeats 8000000 in
theorem forms_walk (w : World) : Calls Try.prog 7 #[] w fun e w' => e = .returned (.bool true) ∧ Below w.heap.size w w' := by
  go_enter Try.func7, Try.ntmps7
  go_wp2_with fail
  refine (begun9 _).mono ?_
  rintro e w1 ⟨rfl, hb1⟩
  go_wp2_with fail
  obtain ⟨W, hW⟩ : ∃ W, W = (w1.alloc (.cells #[.string ⟨#[42]⟩, .string ⟨#[33, 42]⟩, .string ⟨#[64, 49, 61, 53]⟩, .string ⟨#[33, 64, 49, 61, 53]⟩, .string ⟨#[33, 64, 49, 61, 48]⟩, .string ⟨#[33, 64, 49, 58, 48, 45, 57, 57]⟩, .string ⟨#[94, 97]⟩, .string ⟨#[33, 94, 97]⟩, .string ⟨#[64, 49, 61, 53, 124, 94, 97]⟩, .string ⟨#[64, 49, 61, 53, 38, 94, 97]⟩, .string ⟨#[64, 49, 61, 53, 38, 64, 49, 61, 54]⟩, .string ⟨#[33, 64, 49, 61, 53, 38, 33, 64, 50, 61, 53]⟩, .string ⟨#[33, 40, 64, 49, 61, 53, 124, 64, 50, 61, 53, 41]⟩, .string ⟨#[33, 40, 64, 49, 61, 53, 38, 64, 50, 61, 53, 41]⟩, .string ⟨#[94, 97, 38, 94, 97, 98]⟩, .string ⟨#[94, 97, 38, 94, 98]⟩, .string ⟨#[94, 97, 38, 33, 94, 97, 98]⟩, .string ⟨#[94, 97, 98, 38, 33, 94, 97]⟩, .string ⟨#[33, 33, 64, 49, 61, 53]⟩, .string ⟨#[33, 64, 48, 61, 53, 38, 33, 64, 49, 61, 53, 38, 33, 64, 50, 61, 53]⟩, .string ⟨#[64, 49, 58, 48, 45, 57, 38, 64, 49, 58, 53, 45, 50, 48]⟩] 9)).alloc (.cells #[.int .i64 1, .int .i64 0, .int .i64 1, .int .i64 3, .int .i64 2, .int .i64 1, .int .i64 1, .int .i64 1, .int .i64 2, .int .i64 1, .int .i64 0, .int .i64 9, .int .i64 9, .int .i64 6, .int .i64 1, .int .i64 0, .int .i64 1, .int .i64 0, .int .i64 1, .int .i64 (-1), .int .i64 1] 3) := ⟨_, rfl⟩
  rw [← hW]
  have hbW : Below w1.heap.size w1 W := by rw [hW]; exact ((Below.refl _ _).alloc (Nat.le_refl _) _).alloc (by simp) _
  have htx : ∀ k, k < 21 → W.cell? ⟨w1.heap.size, k, none⟩ = some (.string (textAt k)) := fun k hk => by
    rw [hW, World.cell?_alloc_past _ _ _ (hn := by simp)]
    exact table_s texts w1 9 k hk
  have hwt : ∀ k, k < 21 → W.cell? ⟨w1.heap.size + 1, k, none⟩ = some (.int .i64 (wantAt k)) := fun k hk => by
    rw [hW]
    have := table_i wants (w1.alloc (.cells #[.string ⟨#[42]⟩, .string ⟨#[33, 42]⟩, .string ⟨#[64, 49, 61, 53]⟩, .string ⟨#[33, 64, 49, 61, 53]⟩, .string ⟨#[33, 64, 49, 61, 48]⟩, .string ⟨#[33, 64, 49, 58, 48, 45, 57, 57]⟩, .string ⟨#[94, 97]⟩, .string ⟨#[33, 94, 97]⟩, .string ⟨#[64, 49, 61, 53, 124, 94, 97]⟩, .string ⟨#[64, 49, 61, 53, 38, 94, 97]⟩, .string ⟨#[64, 49, 61, 53, 38, 64, 49, 61, 54]⟩, .string ⟨#[33, 64, 49, 61, 53, 38, 33, 64, 50, 61, 53]⟩, .string ⟨#[33, 40, 64, 49, 61, 53, 124, 64, 50, 61, 53, 41]⟩, .string ⟨#[33, 40, 64, 49, 61, 53, 38, 64, 50, 61, 53, 41]⟩, .string ⟨#[94, 97, 38, 94, 97, 98]⟩, .string ⟨#[94, 97, 38, 94, 98]⟩, .string ⟨#[94, 97, 38, 33, 94, 97, 98]⟩, .string ⟨#[94, 97, 98, 38, 33, 94, 97]⟩, .string ⟨#[33, 33, 64, 49, 61, 53]⟩, .string ⟨#[33, 64, 48, 61, 53, 38, 33, 64, 49, 61, 53, 38, 33, 64, 50, 61, 53]⟩, .string ⟨#[64, 49, 58, 48, 45, 57, 38, 64, 49, 58, 53, 45, 50, 48]⟩] 9)) 3 k hk
    have e : (w1.alloc (.cells #[.string ⟨#[42]⟩, .string ⟨#[33, 42]⟩, .string ⟨#[64, 49, 61, 53]⟩, .string ⟨#[33, 64, 49, 61, 53]⟩, .string ⟨#[33, 64, 49, 61, 48]⟩, .string ⟨#[33, 64, 49, 58, 48, 45, 57, 57]⟩, .string ⟨#[94, 97]⟩, .string ⟨#[33, 94, 97]⟩, .string ⟨#[64, 49, 61, 53, 124, 94, 97]⟩, .string ⟨#[64, 49, 61, 53, 38, 94, 97]⟩, .string ⟨#[64, 49, 61, 53, 38, 64, 49, 61, 54]⟩, .string ⟨#[33, 64, 49, 61, 53, 38, 33, 64, 50, 61, 53]⟩, .string ⟨#[33, 40, 64, 49, 61, 53, 124, 64, 50, 61, 53, 41]⟩, .string ⟨#[33, 40, 64, 49, 61, 53, 38, 64, 50, 61, 53, 41]⟩, .string ⟨#[94, 97, 38, 94, 97, 98]⟩, .string ⟨#[94, 97, 38, 94, 98]⟩, .string ⟨#[94, 97, 38, 33, 94, 97, 98]⟩, .string ⟨#[94, 97, 98, 38, 33, 94, 97]⟩, .string ⟨#[33, 33, 64, 49, 61, 53]⟩, .string ⟨#[33, 64, 48, 61, 53, 38, 33, 64, 49, 61, 53, 38, 33, 64, 50, 61, 53]⟩, .string ⟨#[64, 49, 58, 48, 45, 57, 38, 64, 49, 58, 53, 45, 50, 48]⟩] 9)).heap.size = w1.heap.size + 1 := by simp
    rw [e] at this
    exact this
  have sW : w1.heap.size + 1 < W.heap.size := by rw [hW]; simp
  have hwW : Below w.heap.size w W := hb1.trans (hbW.mono hb1.size)
  clear hW hbW hb1
  go_loopw [3] (fun i wr => ∃ q : Nat, q ≤ 21 ∧ i = .int .i64 q ∧ Below W.heap.size W wr) (fun i _ => 21 - (intOf i).toNat)
  case atStart => exact ⟨0, by omega, rfl, Below.refl _ _⟩
  case round =>
    obtain ⟨q, hq, rfl, hbel⟩ := hrel
    by_cases hlt : q < 21
    · have tx : wr.cell? ⟨w1.heap.size, q, none⟩ = some (.string (textAt q)) := (hbel.cell (by show w1.heap.size < _; omega)).trans (htx q hlt)
      obtain ⟨hsz, ws, f, e1, e2, e3, e4, e5, e6, e7⟩ := good_out (good_all ⟨q, hlt⟩)
      have c1 := fun w => parse15 (textAt q) ws 40 f hsz e1 e2 e3 e4 e5 w
      have hme : many f = wantAt q := of_decide_eq_true e7
      have HM : Hid (many f = wantAt q) := hme
      clear hme
      have hwq := hwt q hlt
      clear e1 e2 e3 e4 e7 htx hwt hsz
      generalize textAt q = tx' at *
      go_wp2_with fail
      refine (c1 _).mono ?_
      rintro e w2 ⟨o, k, l, h, t, x, m, rfl, ly, hb2⟩
      clear tx c1
      have hb2' : Below W.heap.size W w2 := hbel.trans (hb2.mono hbel.size)
      have hs2 := hb2'.size
      obtain ⟨V, hV⟩ : ∃ V, V = w2.alloc (.cells #[.int .i64 o, .int .i64 k, .int .i64 l, .int .i64 h, .string t, .slice x m m] 26) := ⟨_, rfl⟩
      have hbV : Below w2.heap.size w2 V := by rw [hV]; exact (Below.refl _ _).alloc (Nat.le_refl _) _
      have hWV : Below W.heap.size W V := hb2'.trans (hbV.mono hs2)
      have co := of12 f V o k l h t x m e5 e6 (ly.below hbV)
      rw [hV] at co
      have HV : Hid (V = w2.alloc (.cells #[.int .i64 o, .int .i64 k, .int .i64 l, .int .i64 h, .string t, .slice x m m] 26)) := hV
      unfold RPost at co
      clear hV ly hb2 hb2' hbel
      go_wp2_with fail
      refine co.mono ?_
      rintro e w3 ⟨v3, rfl, row3, hb3⟩
      rw [← HV.out] at hb3
      obtain ⟨ro, rc, rfl⟩ := row3.slice
      have hW3 : Below W.heap.size W w3 := hWV.trans (hb3.mono hWV.size)
      have p3 : w3.cell? ⟨w1.heap.size + 1, q, none⟩ = some (.int .i64 (wantAt q)) := (hW3.cell (p := ⟨w1.heap.size + 1, q, none⟩) sW).trans hwq
      clear co hb3 HV hWV hbV row3 hwq e5 e6
      cases hrow : f.row false with
      | none =>
        have hm : wantAt q = -1 := by rw [← HM.out]; unfold many; rw [hrow]
        rw [hm] at p3
        simp only [Option.isSome_none, Option.getD_none, List.length_nil]
        clear hm HM hrow
        go_wp2
        go_roundw
        case rel => exact ⟨q + 1, by omega, by go_num, hW3⟩
        case measure => simp [intOf]; omega
      | some L =>
        have hm : wantAt q = (L.length : Int) := by rw [← HM.out]; unfold many; rw [hrow]
        rw [hm] at p3
        simp only [Option.isSome_some, Option.getD_some]
        clear hm HM hrow
        go_wp2
        go_roundw
        case rel => exact ⟨q + 1, by omega, by go_num, hW3⟩
        case measure => simp [intOf]; omega
    · obtain rfl : q = 21 := by omega
      obtain ⟨hsz, ws, f, e1, e2, e3, e4, e5, e6, e7⟩ := good_out good_last
      have c1 := fun w => parse15 _ ws 40 f hsz e1 e2 e3 e4 e5 w
      obtain ⟨z, hrow, z1, z2, z3, z4⟩ := lastB_out e7
      have hbw : Below w.heap.size w wr := hwW.trans (hbel.mono hwW.size)
      clear e1 e2 e3 e4 e7 htx hwt hsz hbel hwW
      go_wp2_with fail
      refine (c1 _).mono ?_
      rintro e w2 ⟨o, k, l, h, t, x, m, rfl, ly, hb2⟩
      clear c1
      have hb2' : Below w.heap.size w w2 := hbw.trans (hb2.mono hbw.size)
      have hs2 := hb2'.size
      obtain ⟨V, hV⟩ : ∃ V, V = w2.alloc (.cells #[.int .i64 o, .int .i64 k, .int .i64 l, .int .i64 h, .string t, .slice x m m] 26) := ⟨_, rfl⟩
      have hbV : Below w2.heap.size w2 V := by rw [hV]; exact (Below.refl _ _).alloc (Nat.le_refl _) _
      have hWV : Below w.heap.size w V := hb2'.trans (hbV.mono hs2)
      have co := of12 f V o k l h t x m e5 e6 (ly.below hbV)
      rw [hrow] at co
      rw [hV] at co
      have HV : Hid (V = w2.alloc (.cells #[.int .i64 o, .int .i64 k, .int .i64 l, .int .i64 h, .string t, .slice x m m] 26)) := hV
      unfold RPost at co
      simp only [Option.isSome_some, Option.getD_some] at co
      clear hV ly hb2 hb2' hbw hrow
      go_wp2_with fail
      refine co.mono ?_
      rintro e w3 ⟨v3, rfl, row3, hb3⟩
      rw [← HV.out] at hb3
      obtain ⟨ro, rc, rfl⟩ := row3.slice
      have hW3 : Below w.heap.size w w3 := hWV.trans (hb3.mono hWV.size)
      obtain ⟨g, xo, xc, rfl, _, hg, nx, hcell⟩ := row3.at 0 (by simp)
      simp only [List.getElem_cons_zero] at nx hcell
      have q3 : w3.cell? ⟨g, 3, none⟩ = some (.int .i64 (z.s 1).how) := hcell 3 _ rfl
      have q4 : w3.cell? ⟨g, 4, none⟩ = some (.int .i64 (z.s 1).lo) := hcell 4 _ rfl
      have q5 : w3.cell? ⟨g, 5, none⟩ = some (.int .i64 (z.s 1).hi) := hcell 5 _ rfl
      have q13 : w3.cell? ⟨g, 13, none⟩ = some (.slice xo z.nots.length xc) := hcell 13 _ rfl
      rw [z1] at q3
      rw [z2] at q4
      rw [z3] at q5
      rw [z4] at q13 nx
      obtain ⟨tb, rfl, _, tt⟩ := nx.row (by simp)
      have y0 : w3.cell? ⟨tb, 0, none⟩ = some (.string ⟨#[97]⟩) := tt.cell 0 (by simp)
      have y1 : w3.cell? ⟨tb, 1, none⟩ = some (.string ⟨#[98]⟩) := tt.cell 1 (by simp)
      have hl1 : ([[97], [98]] : List (List UInt8)).length = 2 := rfl
      rw [hl1] at q13
      have hl2 : [z].length = 1 := rfl
      rw [hl2]
      clear co hb3 HV hWV hbV row3 e5 e6 hcell nx tt z1 z2 z3 z4 hl1 hl2
      go_wp2
      go_ret
      exact ⟨rfl, hW3⟩

end Go.Proofs.Ytgggncliadjmcaa
