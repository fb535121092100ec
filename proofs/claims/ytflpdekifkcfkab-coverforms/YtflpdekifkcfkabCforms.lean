/- CoverForms: what some filters cover. -/
import Derived.Test.YtflpdekifkcfkabParse
import Derived.Test.YtflpdekifkcfkabCbeg
import Derived.Test.YtflpdekifkcfkabPlay
namespace Go.Proofs.Ytflpdekifkcfkab
open Go.RowKit
set_option linter.unusedVariables false

def ftexts : List ByteArray := [⟨#[42]⟩, ⟨#[64, 49, 58, 48, 45, 57]⟩, ⟨#[64, 49, 61, 53]⟩, ⟨#[94, 97]⟩, ⟨#[33, 94, 97, 98]⟩, ⟨#[33, 94, 97, 98]⟩, ⟨#[33, 64, 49, 61, 53]⟩, ⟨#[64, 49, 61, 53, 124, 94, 97]⟩, ⟨#[94, 97]⟩, ⟨#[33, 94, 97]⟩, ⟨#[42]⟩, ⟨#[64, 49, 58, 48, 45, 52, 124, 64, 49, 58, 53, 45, 57]⟩, ⟨#[33, 64, 49, 61, 53]⟩]
def gtexts : List ByteArray := [⟨#[94, 97]⟩, ⟨#[64, 49, 61, 53]⟩, ⟨#[64, 49, 58, 48, 45, 57]⟩, ⟨#[94, 97, 98]⟩, ⟨#[94, 98]⟩, ⟨#[94, 97]⟩, ⟨#[33, 64, 49, 58, 48, 45, 57]⟩, ⟨#[94, 97, 98, 38, 64, 50, 61, 49]⟩, ⟨#[42]⟩, ⟨#[33, 94, 98]⟩, ⟨#[33, 42]⟩, ⟨#[64, 49, 58, 48, 45, 57]⟩, ⟨#[64, 49, 61, 54]⟩]
def wants : List Bool := [true, true, false, true, true, false, true, true, false, false, true, false, true]
def ftextAt (k : Nat) : ByteArray := ftexts.getD k ByteArray.empty
def gtextAt (k : Nat) : ByteArray := gtexts.getD k ByteArray.empty
def wantAt (k : Nat) : Bool := wants.getD k false

def fineB : Ev.Ft → Bool
  | .leaf op key lo hi tag => decide (1 ≤ op) && decide (op ≤ 4) && decide (tag.size ≤ 1000) && decide (0 ≤ key) && decide (key ≤ 3) && decide (0 ≤ lo) && decide (lo ≤ hi) && decide (hi ≤ 99)
  | .non f => fineB f
  | .two op f g => (decide (op = 5) || decide (op = 6)) && fineB f && fineB g

theorem fineB_fine (f : Ev.Ft) (h : fineB f = true) : f.fine := by
  induction f with
  | leaf op key lo hi tag => simp only [fineB, Bool.and_eq_true, decide_eq_true_eq] at h; exact ⟨h.1.1.1.1.1.1.1, h.1.1.1.1.1.1.2, h.1.1.1.1.1.2, h.1.1.1.1.2, h.1.1.1.2, h.1.1.2, h.1.2, h.2⟩
  | non f ih => exact ih h
  | two op f g ihf ihg => simp only [fineB, Bool.and_eq_true, Bool.or_eq_true, decide_eq_true_eq] at h; exact ⟨h.1.1, ihf h.1.2, ihg h.2⟩

/-- A text is right, and its filter answers p. -/
def good (p : Ev.Ft → Bool) (s : ByteArray) : Bool :=
  decide (s.size ≤ 80) &&
  match Wd.all s.data.toList with
  | (ws, n, ok) => decide (n = 0) && ok && decide (ws.length ≤ 60) && ws.all (fun x => decide ((x.kind = 1 ∨ x.kind = 2) ∨ x.kind = 3)) &&
    match Ps.pars ws 40 .or 0 with
    | some (f, q) => decide (q = ws.length) && decide (f.deep ≤ 6) && fineB f && p f
    | none => false

theorem good_out {p : Ev.Ft → Bool} {s : ByteArray} (h : good p s = true) : s.size ≤ 80 ∧ ∃ ws f, Wd.all s.data.toList = (ws, 0, true) ∧ ws.length ≤ 60 ∧ (∀ x ∈ ws, (x.kind = 1 ∨ x.kind = 2) ∨ x.kind = 3) ∧ Ps.pars ws 40 .or 0 = some (f, ws.length) ∧ f.deep ≤ 6 ∧ f.fine ∧ p f = true := by
  unfold good at h
  rw [Bool.and_eq_true] at h
  obtain ⟨h0, h⟩ := h
  refine ⟨of_decide_eq_true h0, ?_⟩
  obtain ⟨ws, n, ok, e⟩ : ∃ ws n ok, Wd.all s.data.toList = (ws, n, ok) := ⟨_, _, _, rfl⟩
  rw [e] at h ⊢
  simp only [Bool.and_eq_true, decide_eq_true_eq] at h
  obtain ⟨⟨⟨⟨h1, h2⟩, h3⟩, h4⟩, h5⟩ := h
  subst h1 h2
  cases ep : Ps.pars ws 40 .or 0 with
  | none => rw [ep] at h5; cases h5
  | some y =>
    obtain ⟨f, q⟩ := y
    rw [ep] at h5
    simp only [Bool.and_eq_true, decide_eq_true_eq] at h5
    obtain ⟨⟨⟨g1, g2⟩, g3⟩, g4⟩ := h5
    subst g1
    refine ⟨ws, f, rfl, h3, fun x hx => ?_, ep, g2, fineB_fine f g3, g4⟩
    have := List.all_eq_true.1 h4 x hx
    simpa using this

theorem good_all : ∀ k : Fin 13, good (fun f => good (fun g => decide (Ev.covers (f.row false) (g.row false) = wantAt k) && ((f.row false).isSome && (g.row false).isSome)) (gtextAt k)) (ftextAt k) = true := by decide +kernel

theorem ftab (k : Nat) (hk : k < 13) : (#[.string ⟨#[42]⟩, .string ⟨#[64, 49, 58, 48, 45, 57]⟩, .string ⟨#[64, 49, 61, 53]⟩, .string ⟨#[94, 97]⟩, .string ⟨#[33, 94, 97, 98]⟩, .string ⟨#[33, 94, 97, 98]⟩, .string ⟨#[33, 64, 49, 61, 53]⟩, .string ⟨#[64, 49, 61, 53, 124, 94, 97]⟩, .string ⟨#[94, 97]⟩, .string ⟨#[33, 94, 97]⟩, .string ⟨#[42]⟩, .string ⟨#[64, 49, 58, 48, 45, 52, 124, 64, 49, 58, 53, 45, 57]⟩, .string ⟨#[33, 64, 49, 61, 53]⟩] : Array Value)[k]? = some (.string (ftextAt k)) :=
  match k, hk with
  | 0, _ => rfl
  | 1, _ => rfl
  | 2, _ => rfl
  | 3, _ => rfl
  | 4, _ => rfl
  | 5, _ => rfl
  | 6, _ => rfl
  | 7, _ => rfl
  | 8, _ => rfl
  | 9, _ => rfl
  | 10, _ => rfl
  | 11, _ => rfl
  | 12, _ => rfl

theorem gtab (k : Nat) (hk : k < 13) : (#[.string ⟨#[94, 97]⟩, .string ⟨#[64, 49, 61, 53]⟩, .string ⟨#[64, 49, 58, 48, 45, 57]⟩, .string ⟨#[94, 97, 98]⟩, .string ⟨#[94, 98]⟩, .string ⟨#[94, 97]⟩, .string ⟨#[33, 64, 49, 58, 48, 45, 57]⟩, .string ⟨#[94, 97, 98, 38, 64, 50, 61, 49]⟩, .string ⟨#[42]⟩, .string ⟨#[33, 94, 98]⟩, .string ⟨#[33, 42]⟩, .string ⟨#[64, 49, 58, 48, 45, 57]⟩, .string ⟨#[64, 49, 61, 54]⟩] : Array Value)[k]? = some (.string (gtextAt k)) :=
  match k, hk with
  | 0, _ => rfl
  | 1, _ => rfl
  | 2, _ => rfl
  | 3, _ => rfl
  | 4, _ => rfl
  | 5, _ => rfl
  | 6, _ => rfl
  | 7, _ => rfl
  | 8, _ => rfl
  | 9, _ => rfl
  | 10, _ => rfl
  | 11, _ => rfl
  | 12, _ => rfl

theorem wtab (k : Nat) (hk : k < 13) : (#[.bool true, .bool true, .bool false, .bool true, .bool true, .bool false, .bool true, .bool true, .bool false, .bool false, .bool true, .bool false, .bool true] : Array Value)[k]? = some (.bool (wantAt k)) :=
  match k, hk with
  | 0, _ => rfl
  | 1, _ => rfl
  | 2, _ => rfl
  | 3, _ => rfl
  | 4, _ => rfl
  | 5, _ => rfl
  | 6, _ => rfl
  | 7, _ => rfl
  | 8, _ => rfl
  | 9, _ => rfl
  | 10, _ => rfl
  | 11, _ => rfl
  | 12, _ => rfl

set_option maxRecDepth 100000 in
set_option maxHeartbeats 8000000 in
theorem forms_walk (w : World) : Calls Try.prog 6 #[] w fun e w' => e = .returned (.bool true) ∧ Below w.heap.size w w' := by
  go_enter Try.func6, Try.ntmps6
  go_wp2_with fail
  refine (begun8 _).mono ?_
  rintro e w1 ⟨rfl, hb1⟩
  go_wp2_with fail
  obtain ⟨W, hW⟩ : ∃ W, W = ((w1.alloc (.cells #[.string ⟨#[42]⟩, .string ⟨#[64, 49, 58, 48, 45, 57]⟩, .string ⟨#[64, 49, 61, 53]⟩, .string ⟨#[94, 97]⟩, .string ⟨#[33, 94, 97, 98]⟩, .string ⟨#[33, 94, 97, 98]⟩, .string ⟨#[33, 64, 49, 61, 53]⟩, .string ⟨#[64, 49, 61, 53, 124, 94, 97]⟩, .string ⟨#[94, 97]⟩, .string ⟨#[33, 94, 97]⟩, .string ⟨#[42]⟩, .string ⟨#[64, 49, 58, 48, 45, 52, 124, 64, 49, 58, 53, 45, 57]⟩, .string ⟨#[33, 64, 49, 61, 53]⟩] 9)).alloc (.cells #[.string ⟨#[94, 97]⟩, .string ⟨#[64, 49, 61, 53]⟩, .string ⟨#[64, 49, 58, 48, 45, 57]⟩, .string ⟨#[94, 97, 98]⟩, .string ⟨#[94, 98]⟩, .string ⟨#[94, 97]⟩, .string ⟨#[33, 64, 49, 58, 48, 45, 57]⟩, .string ⟨#[94, 97, 98, 38, 64, 50, 61, 49]⟩, .string ⟨#[42]⟩, .string ⟨#[33, 94, 98]⟩, .string ⟨#[33, 42]⟩, .string ⟨#[64, 49, 58, 48, 45, 57]⟩, .string ⟨#[64, 49, 61, 54]⟩] 9)).alloc (.cells #[.bool true, .bool true, .bool false, .bool true, .bool true, .bool false, .bool true, .bool true, .bool false, .bool false, .bool true, .bool false, .bool true] 4) := ⟨_, rfl⟩
  rw [← hW]
  have hbW : Below w1.heap.size w1 W := by rw [hW]; exact (((Below.refl _ _).alloc (Nat.le_refl _) _).alloc (by simp) _).alloc (by simp <;> omega) _
  have hf : ∀ k, k < 13 → W.cell? ⟨w1.heap.size, k, none⟩ = some (.string (ftextAt k)) := fun k hk => by
    rw [hW, World.cell?_alloc_past _ _ _ (hn := by simp <;> omega), World.cell?_alloc_past _ _ _ (hn := by simp), World.cell?_alloc_at _ _ _ _ (by simp)]
    exact ftab k hk
  have hg : ∀ k, k < 13 → W.cell? ⟨w1.heap.size + 1, k, none⟩ = some (.string (gtextAt k)) := fun k hk => by
    rw [hW, World.cell?_alloc_past _ _ _ (hn := by simp), World.cell?_alloc_at _ _ _ _ (by simp)]
    exact gtab k hk
  have hw : ∀ k, k < 13 → W.cell? ⟨w1.heap.size + 1 + 1, k, none⟩ = some (.bool (wantAt k)) := fun k hk => by
    rw [hW, World.cell?_alloc_at _ _ _ _ (by simp)]
    exact wtab k hk
  have sW : w1.heap.size + 1 + 1 < W.heap.size := by rw [hW]; simp
  have HW : Hid (Below w.heap.size w W ∧ (∀ k, k < 13 → W.cell? ⟨w1.heap.size, k, none⟩ = some (.string (ftextAt k))) ∧ (∀ k, k < 13 → W.cell? ⟨w1.heap.size + 1, k, none⟩ = some (.string (gtextAt k))) ∧ (∀ k, k < 13 → W.cell? ⟨w1.heap.size + 1 + 1, k, none⟩ = some (.bool (wantAt k)))) := ⟨hb1.trans (hbW.mono hb1.size), hf, hg, hw⟩
  clear hW hbW hb1 hf hg hw
  have s1 : w1.heap.size + 1 < W.heap.size := by omega
  have s0 : w1.heap.size < W.heap.size := by omega
  generalize w1.heap.size + 1 + 1 = N2 at *
  generalize w1.heap.size + 1 = N1 at *
  generalize w1.heap.size = N0 at *
  clear w1
  go_loopg [4] 13 (fun gg i wr => ∃ q : Nat, q ≤ 13 ∧ gg = 13 - q ∧ i = .int .i64 q ∧ Hid (Below W.heap.size W wr))
  case atStart => exact ⟨0, by omega, rfl, rfl, Below.refl _ _⟩
  case round =>
    obtain ⟨q, hq, hgq, rfl, hbel⟩ := hrel
    have HGQ : Hid (gk = 13 - q) := hgq
    clear hgq
    by_cases hlt : q < 13
    · have hqi : (q : Int) < 13 := by omega
      have hsr := hbel.out.size
      have tf : wr.cell? ⟨N0, q, none⟩ = some (.string (ftextAt q)) := (hbel.out.cell (p := ⟨N0, q, none⟩) s0).trans (HW.out.2.1 q hlt)
      have r0 : N0 < wr.heap.size := by omega
      obtain ⟨hsz, ws, f, e1, e2, e3, e4, e5, e6, e7⟩ := good_out (good_all ⟨q, hlt⟩)
      obtain ⟨hsz', ws', g, e1', e2', e3', e4', e5', e6', e7'⟩ := good_out e7
      have c1 := fun w => parse15 (ftextAt q) ws 40 f hsz e1 e2 e3 e4 e5 w
      have c2 := fun w => parse15 (gtextAt q) ws' 40 g hsz' e1' e2' e3' e4' e5' w
      rw [Bool.and_eq_true] at e7'
      have HE : Hid (Ev.covers (f.row false) (g.row false) = wantAt q ∧ ((f.row false).isSome && (g.row false).isSome) = true ∧ f.deep ≤ 6 ∧ g.deep ≤ 6 ∧ f.fine ∧ g.fine) := ⟨of_decide_eq_true e7'.1, e7'.2, e5, e5', e6, e6'⟩
      clear e1 e2 e3 e4 e5 e6 e7 e1' e2' e3' e4' e5' e6' e7' hsz hsz'
      generalize ftextAt q = tx at *
      go_wp2_with fail
      refine (c1 _).mono ?_
      rintro e u1 ⟨o1, k1, l1, h1, t1, x1, n1, rfl, ly1, hb1⟩
      clear c1
      have hbWu : Below W.heap.size W u1 := hbel.out.trans (hb1.mono hsr)
      have tg : u1.cell? ⟨N1, q, none⟩ = some (.string (gtextAt q)) := (hbWu.cell (p := ⟨N1, q, none⟩) s1).trans (HW.out.2.2.1 q hlt)
      have r1 : N1 < u1.heap.size := Nat.lt_of_lt_of_le s1 hbWu.size
      clear hbWu
      generalize gtextAt q = tx' at *
      go_wp2_with fail
      obtain ⟨V1, hV1⟩ : ∃ V1, V1 = u1.alloc (.cells #[.int .i64 o1, .int .i64 k1, .int .i64 l1, .int .i64 h1, .string t1, .slice x1 n1 n1] 26) := ⟨_, rfl⟩
      rw [← hV1]
      have hbV1 : Below u1.heap.size u1 V1 := by rw [hV1]; exact (Below.refl _ _).alloc (Nat.le_refl _) _
      have d1 : ∀ i, V1.cell? ⟨u1.heap.size, i, none⟩ = (#[.int .i64 o1, .int .i64 k1, .int .i64 l1, .int .i64 h1, .string t1, .slice x1 n1 n1] : Array Value)[i]? := fun i => by rw [hV1]; simp
      have sV1 : u1.heap.size < V1.heap.size := by rw [hV1]; simp
      have hs1 := hb1.size
      have hbWV : Below W.heap.size W V1 := hbel.out.trans ((hb1.trans (hbV1.mono hs1)).mono hsr)
      have lV1 := ly1.below hbV1
      have H1 : Hid (Below W.heap.size W V1 ∧ Lies Any V1 f o1 k1 l1 h1 t1 x1 n1 ∧ (∀ i, V1.cell? ⟨u1.heap.size, i, none⟩ = (#[.int .i64 o1, .int .i64 k1, .int .i64 l1, .int .i64 h1, .string t1, .slice x1 n1 n1] : Array Value)[i]?)) := ⟨hbWV, lV1, d1⟩
      clear hV1 hbV1 d1 hbWV lV1 ly1 hb1 tf hs1 tg r1
      generalize u1.heap.size = M1 at *
      clear r0
      refine (c2 _).mono ?_
      rintro e u2 ⟨o2, k2, l2, h2, t2, x2, n2, rfl, ly2, hb2⟩
      clear c2
      have g1 : ∀ i, u2.cell? ⟨M1, i, none⟩ = (#[.int .i64 o1, .int .i64 k1, .int .i64 l1, .int .i64 h1, .string t1, .slice x1 n1 n1] : Array Value)[i]? := fun i => (hb2.cell (p := ⟨M1, i, none⟩) sV1).trans (H1.out.2.2 i)
      have r1 : M1 < u2.heap.size := Nat.lt_of_lt_of_le sV1 hb2.size
      go_wp2_with fail
      obtain ⟨V2, hV2⟩ : ∃ V2, V2 = u2.alloc (.cells #[.int .i64 o2, .int .i64 k2, .int .i64 l2, .int .i64 h2, .string t2, .slice x2 n2 n2] 26) := ⟨_, rfl⟩
      rw [← hV2]
      have hbV2 : Below u2.heap.size u2 V2 := by rw [hV2]; exact (Below.refl _ _).alloc (Nat.le_refl _) _
      have d2 : ∀ i, V2.cell? ⟨u2.heap.size, i, none⟩ = (#[.int .i64 o2, .int .i64 k2, .int .i64 l2, .int .i64 h2, .string t2, .slice x2 n2 n2] : Array Value)[i]? := fun i => by rw [hV2]; simp
      have sV2 : u2.heap.size < V2.heap.size := by rw [hV2]; simp
      have hs2 := hb2.size
      have hb12 : Below V1.heap.size V1 V2 := hb2.trans (hbV2.mono hs2)
      have d1 : ∀ i, V2.cell? ⟨M1, i, none⟩ = (#[.int .i64 o1, .int .i64 k1, .int .i64 l1, .int .i64 h1, .string t1, .slice x1 n1 n1] : Array Value)[i]? := fun i => (hb12.cell (p := ⟨M1, i, none⟩) sV1).trans (H1.out.2.2 i)
      have lV1 := H1.out.2.1.below hb12
      have lV2 := ly2.below hbV2
      have hbW2 : Below W.heap.size W V2 := H1.out.1.trans (hb12.mono H1.out.1.size)
      have sM1 : M1 < V2.heap.size := by omega
      have c3 := covers11 f g V2 o1 k1 l1 h1 t1 x1 n1 o2 k2 l2 h2 t2 x2 n2 HE.out.2.2.1 HE.out.2.2.2.1 HE.out.2.2.2.2.1 HE.out.2.2.2.2.2 lV1 lV2
      unfold CPost at c3
      rw [HE.out.1, HE.out.2.1] at c3
      have H2 : Hid (Below W.heap.size W V2) := hbW2
      clear hV2 hbV2 lV1 lV2 ly2 hb2 hb12 hbW2 HE g1 r1
      refine c3.mono ?_
      rintro e u3 ⟨rfl, hb3⟩
      have hbW3 : Below W.heap.size W u3 := H2.out.trans (hb3.mono H2.out.size)
      have tw : u3.cell? ⟨N2, q, none⟩ = some (.bool (wantAt q)) := (hbW3.cell (p := ⟨N2, q, none⟩) sW).trans (HW.out.2.2.2 q hlt)
      have r2 : N2 < u3.heap.size := Nat.lt_of_lt_of_le sW hbW3.size
      have H3 : Hid (Below W.heap.size W u3) := hbW3
      clear c3 d1 d2 hb3 hbW3
      generalize wantAt q = b at *
      cases b <;>
      · go_wp2
        go_roundg (13 - (q + 1))
        case measure => have := HGQ.out; omega
        case rel => exact ⟨q + 1, by omega, rfl, by go_num, H3.out⟩
    · obtain rfl : q = 13 := by omega
      have HX : Hid (Below w.heap.size w wr) := HW.out.1.trans (hbel.out.mono HW.out.1.size)
      clear hq hlt
      go_wp2
      go_ret
      exact ⟨rfl, HX.out⟩

end Go.Proofs.Ytflpdekifkcfkab
