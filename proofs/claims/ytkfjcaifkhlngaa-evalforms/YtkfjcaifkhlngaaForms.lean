/- EvalForms: what some filters let through. -/
import Derived.Test.YtkfjcaifkhlngaaParse
import Derived.Test.YtkfjcaifkhlngaaBegun
namespace Go.Proofs.Ytkfjcaifkhlngaa
open Go.RowKit
set_option linter.unusedVariables false

def texts : List ByteArray := [⟨#[42]⟩, ⟨#[33, 42]⟩, ⟨#[64, 49, 61, 53]⟩, ⟨#[64, 49, 61, 54]⟩, ⟨#[64, 49, 58, 48, 45, 53]⟩, ⟨#[64, 49, 58, 54, 45, 57]⟩, ⟨#[64, 50, 61, 48]⟩, ⟨#[64, 51, 61, 48]⟩, ⟨#[33, 64, 50, 61, 48]⟩, ⟨#[94, 97, 98, 99]⟩, ⟨#[94, 97, 98, 99, 100]⟩, ⟨#[94, 98]⟩, ⟨#[64, 49, 61, 53, 38, 94, 97]⟩, ⟨#[64, 49, 61, 54, 124, 94, 97]⟩, ⟨#[33, 40, 64, 49, 61, 53, 38, 94, 98, 41]⟩, ⟨#[64, 48, 58, 48, 45, 57, 57]⟩, ⟨#[64, 51, 58, 48, 45, 57, 57]⟩]
def wants : List Bool := [true, false, true, false, true, false, false, true, true, true, false, false, true, true, true, false, true]
def textAt (k : Nat) : ByteArray := texts.getD k ByteArray.empty
def wantAt (k : Nat) : Bool := wants.getD k false

def okB : Ev.Ft → Bool
  | .leaf op _ _ _ tag => decide (1 ≤ op) && decide (op ≤ 4) && decide (tag.size ≤ 1000)
  | .non f => okB f
  | .two op f g => (decide (op = 5) || decide (op = 6)) && okB f && okB g

theorem okB_ok (f : Ev.Ft) (h : okB f = true) : f.ok := by
  induction f with
  | leaf op key lo hi tag => simp only [okB, Bool.and_eq_true, decide_eq_true_eq] at h; exact ⟨h.1.1, h.1.2, h.2⟩
  | non f ih => exact ih h
  | two op f g ihf ihg => simp only [okB, Bool.and_eq_true, Bool.or_eq_true, decide_eq_true_eq] at h; exact ⟨h.1.1, ihf h.1.2, ihg h.2⟩

/-- A text is right, and its filter lets through what is wanted. -/
def good (s : ByteArray) (b : Bool) : Bool :=
  decide (s.size ≤ 80) &&
  match Wd.all s.data.toList with
  | (ws, n, ok) => decide (n = 0) && ok && decide (ws.length ≤ 60) && ws.all (fun x => decide ((x.kind = 1 ∨ x.kind = 2) ∨ x.kind = 3)) &&
    match Ps.pars ws 40 .or 0 with
    | some (f, q) => decide (q = ws.length) && decide (f.deep ≤ 6) && okB f && (f.lets [(1, 5), (3, 0)] ⟨#[97, 98, 99]⟩ == b)
    | none => false

theorem good_out {s : ByteArray} {b : Bool} (h : good s b = true) : s.size ≤ 80 ∧ ∃ ws f, Wd.all s.data.toList = (ws, 0, true) ∧ ws.length ≤ 60 ∧ (∀ x ∈ ws, (x.kind = 1 ∨ x.kind = 2) ∨ x.kind = 3) ∧ Ps.pars ws 40 .or 0 = some (f, ws.length) ∧ f.deep ≤ 6 ∧ f.ok ∧ f.lets [(1, 5), (3, 0)] ⟨#[97, 98, 99]⟩ = b := by
  unfold good at h
  rw [Bool.and_eq_true] at h
  obtain ⟨h0, h⟩ := h
  refine ⟨of_decide_eq_true h0, ?_⟩
  obtain ⟨ws, n, ok, e⟩ : ∃ ws n ok, Wd.all s.data.toList = (ws, n, ok) := ⟨_, _, _, rfl⟩
  rw [e] at h ⊢
  simp only [Bool.and_eq_true, decide_eq_true_eq] at h
  obtain ⟨⟨⟨⟨h1, h2⟩, h3⟩, h4⟩, h5⟩ := h
  subst h1 h2
  cases ep : Ps.pars ws 40 .or 0 with
  | none => rw [ep] at h5; cases h5
  | some y =>
    obtain ⟨f, q⟩ := y
    rw [ep] at h5
    simp only [Bool.and_eq_true, decide_eq_true_eq, beq_iff_eq] at h5
    obtain ⟨⟨⟨g1, g2⟩, g3⟩, g4⟩ := h5
    subst g1
    refine ⟨ws, f, rfl, h3, fun x hx => ?_, ep, g2, okB_ok f g3, g4⟩
    have := List.all_eq_true.1 h4 x hx
    simpa using this

theorem good_all : ∀ k : Fin 17, good (textAt k) (wantAt k) = true := by decide +kernel

theorem two_has (w : World) (v : Vs) (b : Nat) (hl : v.len = 2) (ht : v.tag.size ≤ 1000) (ha : v.ao = some ⟨b, 0, none⟩) (h0 : w.cell? ⟨b, 0, none⟩ = some (.int .i64 1)) (h1 : w.cell? ⟨b, 1, none⟩ = some (.int .i64 5)) (h2 : w.cell? ⟨b, 2, none⟩ = some (.int .i64 3)) (h3 : w.cell? ⟨b, 3, none⟩ = some (.int .i64 0)) : Has Any w v [(1, 5), (3, 0)] := by
  refine ⟨by simp [hl], by omega, ht, fun _ => ⟨b, ha, trivial, World.block_lt_of_cell? w ⟨b, 0, none⟩ h0, fun j hj => ?_⟩⟩
  match j, hj with
  | 0, _ => exact ⟨h0, h1⟩
  | 1, _ => exact ⟨h2, h3⟩

theorem table_b (l : List Bool) (w : World) (t : TypeId) (k : Nat) (h : k < l.length) : (w.alloc (.cells (l.map Value.bool).toArray t)).cell? ⟨w.heap.size, k, none⟩ = some (.bool (l.getD k false)) := by
  rw [World.cell?_alloc_at _ _ _ _ rfl, List.getElem?_toArray, List.getElem?_map, List.getElem?_eq_getElem h, List.getD_eq_getElem?_getD, List.getElem?_eq_getElem h]
  rfl

theorem table_t (l : List ByteArray) (w : World) (t : TypeId) (k : Nat) (h : k < l.length) : (w.alloc (.cells (l.map Value.string).toArray t)).cell? ⟨w.heap.size, k, none⟩ = some (.string (l.getD k ByteArray.empty)) := by
  rw [World.cell?_alloc_at _ _ _ _ rfl, List.getElem?_toArray, List.getElem?_map, List.getElem?_eq_getElem h, List.getD_eq_getElem?_getD, List.getElem?_eq_getElem h]
  rfl

set_option maxHeartbeats 4000000 in
theorem forms_walk (w : World) : Calls Try.prog 7 #[] w fun e w' => e = .returned (.bool true) ∧ Below w.heap.size w w' := by
  go_enter Try.func7, Try.ntmps7
  go_wp2_with fail
  refine (begun9 _).mono ?_
  rintro e w1 ⟨rfl, hb1⟩
  go_wp2_with fail
  obtain ⟨W, hW⟩ : ∃ W, W = ((((w1.alloc (.cells #[.int .i64 1, .int .i64 5, .int .i64 3, .int .i64 0] 40)).alloc (.cells #[.int .i64 1, .int .i64 1, .int .i64 1, .int .i64 1, .bool false, .slice (some ⟨w1.heap.size, 0, none⟩) 2 2, .string ⟨#[97, 98, 99]⟩, .string ⟨#[]⟩] 34)).alloc (.cells #[.string ⟨#[42]⟩, .string ⟨#[33, 42]⟩, .string ⟨#[64, 49, 61, 53]⟩, .string ⟨#[64, 49, 61, 54]⟩, .string ⟨#[64, 49, 58, 48, 45, 53]⟩, .string ⟨#[64, 49, 58, 54, 45, 57]⟩, .string ⟨#[64, 50, 61, 48]⟩, .string ⟨#[64, 51, 61, 48]⟩, .string ⟨#[33, 64, 50, 61, 48]⟩, .string ⟨#[94, 97, 98, 99]⟩, .string ⟨#[94, 97, 98, 99, 100]⟩, .string ⟨#[94, 98]⟩, .string ⟨#[64, 49, 61, 53, 38, 94, 97]⟩, .string ⟨#[64, 49, 61, 54, 124, 94, 97]⟩, .string ⟨#[33, 40, 64, 49, 61, 53, 38, 94, 98, 41]⟩, .string ⟨#[64, 48, 58, 48, 45, 57, 57]⟩, .string ⟨#[64, 51, 58, 48, 45, 57, 57]⟩] 9)).alloc (.cells #[.bool true, .bool false, .bool true, .bool false, .bool true, .bool false, .bool false, .bool true, .bool true, .bool true, .bool false, .bool false, .bool true, .bool true, .bool true, .bool false, .bool true] 4)) := ⟨_, rfl⟩
  rw [← hW]
  have hbW : Below w1.heap.size w1 W := by rw [hW]; exact ((((Below.refl _ _).alloc (Nat.le_refl _) _).alloc (by simp) _).alloc (by simp; omega) _).alloc (by simp; omega) _
  have past : ∀ b o, b < w1.heap.size + 1 + 1 → W.cell? ⟨b, o, none⟩ = ((w1.alloc (.cells #[.int .i64 1, .int .i64 5, .int .i64 3, .int .i64 0] 40)).alloc (.cells #[.int .i64 1, .int .i64 1, .int .i64 1, .int .i64 1, .bool false, .slice (some ⟨w1.heap.size, 0, none⟩) 2 2, .string ⟨#[97, 98, 99]⟩, .string ⟨#[]⟩] 34)).cell? ⟨b, o, none⟩ := fun b o hb => by
    rw [hW, World.cell?_alloc_past _ _ _ (hn := by simp; omega), World.cell?_alloc_past _ _ _ (hn := by simp; omega)]
  have hvc : W.cell? ⟨w1.heap.size + 1, 0, none⟩ = some (.int .i64 1) ∧ W.cell? ⟨w1.heap.size + 1, 1, none⟩ = some (.int .i64 1) ∧ W.cell? ⟨w1.heap.size + 1, 2, none⟩ = some (.int .i64 1) ∧ W.cell? ⟨w1.heap.size + 1, 3, none⟩ = some (.int .i64 1) ∧ W.cell? ⟨w1.heap.size + 1, 4, none⟩ = some (.bool false) ∧ W.cell? ⟨w1.heap.size + 1, 5, none⟩ = some (.slice (some ⟨w1.heap.size, 0, none⟩) 2 2) ∧ W.cell? ⟨w1.heap.size + 1, 6, none⟩ = some (.string ⟨#[97, 98, 99]⟩) ∧ W.cell? ⟨w1.heap.size + 1, 7, none⟩ = some (.string ⟨#[]⟩) := by
    refine ⟨?_, ?_, ?_, ?_, ?_, ?_, ?_, ?_⟩ <;> (rw [past _ _ (by omega)]; simp)
  have hat0 : W.cell? ⟨w1.heap.size, 0, none⟩ = some (.int .i64 1) := by rw [past _ _ (by omega)]; simp
  have hat1 : W.cell? ⟨w1.heap.size, 1, none⟩ = some (.int .i64 5) := by rw [past _ _ (by omega)]; simp
  have hat2 : W.cell? ⟨w1.heap.size, 2, none⟩ = some (.int .i64 3) := by rw [past _ _ (by omega)]; simp
  have hat3 : W.cell? ⟨w1.heap.size, 3, none⟩ = some (.int .i64 0) := by rw [past _ _ (by omega)]; simp
  have eA2 : ((w1.alloc (.cells #[.int .i64 1, .int .i64 5, .int .i64 3, .int .i64 0] 40)).alloc (.cells #[.int .i64 1, .int .i64 1, .int .i64 1, .int .i64 1, .bool false, .slice (some ⟨w1.heap.size, 0, none⟩) 2 2, .string ⟨#[97, 98, 99]⟩, .string ⟨#[]⟩] 34)).heap.size = w1.heap.size + 1 + 1 := by simp
  have htx : ∀ k, k < 17 → W.cell? ⟨w1.heap.size + 1 + 1, k, none⟩ = some (.string (textAt k)) := fun k hk => by
    rw [hW, World.cell?_alloc_past _ _ _ (hn := by simp)]
    have := table_t texts ((w1.alloc (.cells #[.int .i64 1, .int .i64 5, .int .i64 3, .int .i64 0] 40)).alloc (.cells #[.int .i64 1, .int .i64 1, .int .i64 1, .int .i64 1, .bool false, .slice (some ⟨w1.heap.size, 0, none⟩) 2 2, .string ⟨#[97, 98, 99]⟩, .string ⟨#[]⟩] 34)) 9 k hk
    rw [eA2] at this
    exact this
  have hwt : ∀ k, k < 17 → W.cell? ⟨w1.heap.size + 1 + 1 + 1, k, none⟩ = some (.bool (wantAt k)) := fun k hk => by
    rw [hW]
    have := table_b wants (((w1.alloc (.cells #[.int .i64 1, .int .i64 5, .int .i64 3, .int .i64 0] 40)).alloc (.cells #[.int .i64 1, .int .i64 1, .int .i64 1, .int .i64 1, .bool false, .slice (some ⟨w1.heap.size, 0, none⟩) 2 2, .string ⟨#[97, 98, 99]⟩, .string ⟨#[]⟩] 34)).alloc (.cells #[.string ⟨#[42]⟩, .string ⟨#[33, 42]⟩, .string ⟨#[64, 49, 61, 53]⟩, .string ⟨#[64, 49, 61, 54]⟩, .string ⟨#[64, 49, 58, 48, 45, 53]⟩, .string ⟨#[64, 49, 58, 54, 45, 57]⟩, .string ⟨#[64, 50, 61, 48]⟩, .string ⟨#[64, 51, 61, 48]⟩, .string ⟨#[33, 64, 50, 61, 48]⟩, .string ⟨#[94, 97, 98, 99]⟩, .string ⟨#[94, 97, 98, 99, 100]⟩, .string ⟨#[94, 98]⟩, .string ⟨#[64, 49, 61, 53, 38, 94, 97]⟩, .string ⟨#[64, 49, 61, 54, 124, 94, 97]⟩, .string ⟨#[33, 40, 64, 49, 61, 53, 38, 94, 98, 41]⟩, .string ⟨#[64, 48, 58, 48, 45, 57, 57]⟩, .string ⟨#[64, 51, 58, 48, 45, 57, 57]⟩] 9)) 4 k hk
    have e : (((w1.alloc (.cells #[.int .i64 1, .int .i64 5, .int .i64 3, .int .i64 0] 40)).alloc (.cells #[.int .i64 1, .int .i64 1, .int .i64 1, .int .i64 1, .bool false, .slice (some ⟨w1.heap.size, 0, none⟩) 2 2, .string ⟨#[97, 98, 99]⟩, .string ⟨#[]⟩] 34)).alloc (.cells #[.string ⟨#[42]⟩, .string ⟨#[33, 42]⟩, .string ⟨#[64, 49, 61, 53]⟩, .string ⟨#[64, 49, 61, 54]⟩, .string ⟨#[64, 49, 58, 48, 45, 53]⟩, .string ⟨#[64, 49, 58, 54, 45, 57]⟩, .string ⟨#[64, 50, 61, 48]⟩, .string ⟨#[64, 51, 61, 48]⟩, .string ⟨#[33, 64, 50, 61, 48]⟩, .string ⟨#[94, 97, 98, 99]⟩, .string ⟨#[94, 97, 98, 99, 100]⟩, .string ⟨#[94, 98]⟩, .string ⟨#[64, 49, 61, 53, 38, 94, 97]⟩, .string ⟨#[64, 49, 61, 54, 124, 94, 97]⟩, .string ⟨#[33, 40, 64, 49, 61, 53, 38, 94, 98, 41]⟩, .string ⟨#[64, 48, 58, 48, 45, 57, 57]⟩, .string ⟨#[64, 51, 58, 48, 45, 57, 57]⟩] 9)).heap.size = w1.heap.size + 1 + 1 + 1 := by simp
    rw [e] at this
    exact this
  clear past eA2
  have sW : w1.heap.size + 1 + 1 + 1 < W.heap.size := by rw [hW]; simp
  clear hW
  go_loopw [4] (fun i wr => ∃ q : Nat, q ≤ 17 ∧ i = .int .i64 q ∧ Below W.heap.size W wr) (fun i _ => 17 - (intOf i).toNat)
  case atStart => exact ⟨0, by omega, rfl, Below.refl _ _⟩
  case round =>
    obtain ⟨q, hq, rfl, hbel⟩ := hrel
    by_cases hlt : q < 17
    · have tx : wr.cell? ⟨w1.heap.size + 1 + 1, q, none⟩ = some (.string (textAt q)) := (hbel.cell (by show w1.heap.size + 1 + 1 < _; omega)).trans (htx q hlt)
      obtain ⟨hsz, ws, f, e1, e2, e3, e4, e5, e6, e7⟩ := good_out (show good (textAt q) (wantAt q) = true from good_all ⟨q, hlt⟩)
      have c1 := fun w => parse15 (textAt q) ws 40 f hsz e1 e2 e3 e4 e5 w
      have HL : Hid (f.lets [(1, 5), (3, 0)] ⟨#[97, 98, 99]⟩ = wantAt q) := e7
      have hwq := hwt q hlt
      clear e1 e2 e3 e4 e7 htx hwt hsz
      generalize textAt q = tx' at *
      go_wp2_with fail
      refine (c1 _).mono ?_
      rintro e w2 ⟨o, k, l, h, t, x, m, rfl, ly, hb2⟩
      clear tx c1
      have hb2' : Below W.heap.size W w2 := hbel.trans (hb2.mono hbel.size)
      have hs2 := hb2'.size
      go_wp2_with fail
      obtain ⟨V, hV⟩ : ∃ V, V = w2.alloc (.cells #[.int .i64 o, .int .i64 k, .int .i64 l, .int .i64 h, .string t, .slice x m m] 26) := ⟨_, rfl⟩
      rw [← hV]
      have hbV : Below w2.heap.size w2 V := by rw [hV]; exact (Below.refl _ _).alloc (Nat.le_refl _) _
      have hWV : Below W.heap.size W V := hb2'.trans (hbV.mono hs2)
      have p1 : V.cell? ⟨w1.heap.size + 1, 0, none⟩ = some (.int .i64 1) ∧ V.cell? ⟨w1.heap.size + 1, 1, none⟩ = some (.int .i64 1) ∧ V.cell? ⟨w1.heap.size + 1, 2, none⟩ = some (.int .i64 1) ∧ V.cell? ⟨w1.heap.size + 1, 3, none⟩ = some (.int .i64 1) ∧ V.cell? ⟨w1.heap.size + 1, 4, none⟩ = some (.bool false) ∧ V.cell? ⟨w1.heap.size + 1, 5, none⟩ = some (.slice (some ⟨w1.heap.size, 0, none⟩) 2 2) ∧ V.cell? ⟨w1.heap.size + 1, 6, none⟩ = some (.string ⟨#[97, 98, 99]⟩) ∧ V.cell? ⟨w1.heap.size + 1, 7, none⟩ = some (.string ⟨#[]⟩) := by
        obtain ⟨a0, a1, a2, a3, a4, a5, a6, a7⟩ := hvc
        have hc := fun i => hWV.cell (p := ⟨w1.heap.size + 1, i, none⟩) (by show w1.heap.size + 1 < _; omega)
        exact ⟨(hc 0).trans a0, (hc 1).trans a1, (hc 2).trans a2, (hc 3).trans a3, (hc 4).trans a4, (hc 5).trans a5, (hc 6).trans a6, (hc 7).trans a7⟩
      have p2 : V.cell? ⟨w2.heap.size, 0, none⟩ = some (.int .i64 o) ∧ V.cell? ⟨w2.heap.size, 1, none⟩ = some (.int .i64 k) ∧ V.cell? ⟨w2.heap.size, 2, none⟩ = some (.int .i64 l) ∧ V.cell? ⟨w2.heap.size, 3, none⟩ = some (.int .i64 h) ∧ V.cell? ⟨w2.heap.size, 4, none⟩ = some (.string t) ∧ V.cell? ⟨w2.heap.size, 5, none⟩ = some (.slice x m m) := by rw [hV]; simp
      have p3 : V.cell? ⟨w1.heap.size + 1 + 1 + 1, q, none⟩ = some (.bool (wantAt q)) := (hWV.cell (p := ⟨w1.heap.size + 1 + 1 + 1, q, none⟩) sW).trans hwq
      have hcA := fun i => hWV.cell (p := ⟨w1.heap.size, i, none⟩) (by show w1.heap.size < _; omega)
      have hhas : Has Any V ⟨1, 1, 1, 1, false, some ⟨w1.heap.size, 0, none⟩, 2, 2, ⟨#[97, 98, 99]⟩, ⟨#[]⟩⟩ [(1, 5), (3, 0)] := two_has V _ w1.heap.size rfl (by show (3 : Nat) ≤ 1000; omega) rfl ((hcA 0).trans hat0) ((hcA 1).trans hat1) ((hcA 2).trans hat2) ((hcA 3).trans hat3)
      have n0 : w2.heap.size < V.heap.size := by rw [hV]; simp
      have n1 : w1.heap.size + 1 < V.heap.size := by omega
      have n2 : w1.heap.size + 1 + 1 + 1 < V.heap.size := by omega
      have cA := fun w' (hb : Below V.heap.size V w') => lets13 f ⟨1, 1, 1, 1, false, some ⟨w1.heap.size, 0, none⟩, 2, 2, ⟨#[97, 98, 99]⟩, ⟨#[]⟩⟩ [(1, 5), (3, 0)] w' o k l h t x m e5 e6 ((ly.below hbV).below hb) (hhas.below hb)
      unfold Vs.val at cA
      simp only at cA
      rw [HL.out] at cA
      generalize wantAt q = r at *
      clear hV hbV ly hhas hcA hb2 hb2' hvc hat0 hat1 hat2 hat3 hwq e5 e6
      have hq0 : (0 : Int) ≤ (q : Int) := by omega
      have hq1 : (q : Int) < 17 := by omega
      go_region_held3 (fun w' => (w'.cell? ⟨w2.heap.size, 0, none⟩ = some (.int .i64 o) ∧ w'.cell? ⟨w2.heap.size, 1, none⟩ = some (.int .i64 k) ∧ w'.cell? ⟨w2.heap.size, 2, none⟩ = some (.int .i64 l) ∧ w'.cell? ⟨w2.heap.size, 3, none⟩ = some (.int .i64 h) ∧ w'.cell? ⟨w2.heap.size, 4, none⟩ = some (.string t) ∧ w'.cell? ⟨w2.heap.size, 5, none⟩ = some (.slice x m m)) ∧ (w'.cell? ⟨w1.heap.size + 1, 0, none⟩ = some (.int .i64 1) ∧ w'.cell? ⟨w1.heap.size + 1, 1, none⟩ = some (.int .i64 1) ∧ w'.cell? ⟨w1.heap.size + 1, 2, none⟩ = some (.int .i64 1) ∧ w'.cell? ⟨w1.heap.size + 1, 3, none⟩ = some (.int .i64 1) ∧ w'.cell? ⟨w1.heap.size + 1, 4, none⟩ = some (.bool false) ∧ w'.cell? ⟨w1.heap.size + 1, 5, none⟩ = some (.slice (some ⟨w1.heap.size, 0, none⟩) 2 2) ∧ w'.cell? ⟨w1.heap.size + 1, 6, none⟩ = some (.string ⟨#[97, 98, 99]⟩) ∧ w'.cell? ⟨w1.heap.size + 1, 7, none⟩ = some (.string ⟨#[]⟩)) ∧ w'.cell? ⟨w1.heap.size + 1 + 1 + 1, q, none⟩ = some (.bool r))
        (go_keep)
        (first
          | (go_at_call 13; refine (cA _ (Below.refl _ _).drew).mono ?_; rintro e w5 ⟨rfl, hb5⟩; have hcl := fun b o (h : b < V.heap.size) => hb5.cell (p := ⟨b, o, none⟩) h))
      have hb6 : Below W.heap.size W w5 := hWV.drew.trans (hb5.mono hWV.size)
      clear cA hb5 p1 p2 p3 hcl hWV
      cases r
      · go_wp2
        go_roundw
        case rel => exact ⟨q + 1, by omega, by go_num, hb6⟩
        case measure => simp [intOf]; omega
      · go_wp2
        go_roundw
        case rel => exact ⟨q + 1, by omega, by go_num, hb6⟩
        case measure => simp [intOf]; omega
    · have hbf : Below w.heap.size w wr := (hb1.trans (hbW.mono hb1.size)).trans (hbel.mono (Nat.le_trans hb1.size hbW.size))
      clear htx hwt hvc hat0 hat1 hat2 hat3 hbel hbW
      go_wp2
      go_ret
      exact ⟨rfl, hbf⟩

end Go.Proofs.Ytkfjcaifkhlngaa
