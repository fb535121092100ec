/- view.Epochs: of each replica the greatest that a view tells. -/
import Derived.Test.YtdeojcodbojmoaaGreatDoorOrp
import Derived.Laws.MakeOwn
namespace Go.Proofs.YtdeojcodbojmoaaGreatDoor
open Go.RowKit
set_option maxRecDepth 100000
set_option linter.unusedVariables false

/-- What one view tells of a replica. -/
def tell (v : Vw) (i : Nat) : Int := (v.ep[i]?).getD 0

/-- The greatest that one of them tells. -/
def most : List Vw → Nat → Int
  | [], _ => 0
  | v :: r, i => max (most r i) (tell v i)

theorem most_snoc (l : List Vw) (v : Vw) (i : Nat) : most (l ++ [v]) i = max (most l i) (tell v i) := by
  induction l with
  | nil => simp [most]
  | cons x l ih => simp only [List.cons_append, most, ih]; omega

theorem most_nonneg (l : List Vw) (i : Nat) : 0 ≤ most l i := by
  induction l with
  | nil => exact Int.le_refl _
  | cons x l ih => simp only [most]; omega

theorem makeN (W : World) (n : Nat) (h1 : 1 ≤ n) (h5 : n ≤ 5) : ∃ M : Array Value, M.size = n ∧ (∀ i, i < n → M[i]? = some (.int .i64 0)) ∧ (Instr.makeSlice 23 (.int .i64 n) (.int .i64 n)).run Tryz.prog W = .ok (.slice (some ⟨W.heap.size, 0, none⟩) n n) (W.alloc (.cells M 3)) := by
  obtain ⟨i0, hi, hz0, hz1, hz2⟩ := info_parts Tryz.info3
  have h := run_make (P := Tryz.prog) W 23 3 i0 (.int .i64 0) Tryz.underlying23 hi hz0 .i64 .i64 (n : Int) (n : Int) (by omega) (by omega) (by rw [hz2]; omega) (by omega)
  rw [hz1, Nat.mul_one] at h
  refine ⟨madeCells (Value.int .i64 0).cells n, ?_, ?_, by simpa using h⟩
  · rw [size_madeCells]
  · have hn : n = 1 ∨ n = 2 ∨ n = 3 ∨ n = 4 ∨ n = 5 := by omega
    rcases hn with rfl | rfl | rfl | rfl | rfl
    · have e : madeCells (Value.int .i64 0).cells 1 = #[.int .i64 0] := by kernel_rfl
      rw [e]; intro i hi; match i, hi with
      | 0, _ => rfl
    · have e : madeCells (Value.int .i64 0).cells 2 = #[.int .i64 0, .int .i64 0] := by kernel_rfl
      rw [e]; intro i hi; match i, hi with
      | 0, _ => rfl
      | 1, _ => rfl
    · have e : madeCells (Value.int .i64 0).cells 3 = #[.int .i64 0, .int .i64 0, .int .i64 0] := by kernel_rfl
      rw [e]; intro i hi; match i, hi with
      | 0, _ => rfl
      | 1, _ => rfl
      | 2, _ => rfl
    · have e : madeCells (Value.int .i64 0).cells 4 = #[.int .i64 0, .int .i64 0, .int .i64 0, .int .i64 0] := by kernel_rfl
      rw [e]; intro i hi; match i, hi with
      | 0, _ => rfl
      | 1, _ => rfl
      | 2, _ => rfl
      | 3, _ => rfl
    · have e : madeCells (Value.int .i64 0).cells 5 = #[.int .i64 0, .int .i64 0, .int .i64 0, .int .i64 0, .int .i64 0] := by kernel_rfl
      rw [e]; intro i hi; match i, hi with
      | 0, _ => rfl
      | 1, _ => rfl
      | 2, _ => rfl
      | 3, _ => rfl
      | 4, _ => rfl

/-- A view tells of none, or of n, from 0 on. -/
def Tells (n : Nat) (v : Vw) : Prop := (v.ep = [] ∨ v.ep.length = n) ∧ ∀ e ∈ v.ep, 0 ≤ e

/-- Block g holds the numbers f 0 .. f (n - 1), and may be written. -/
def Nums (w : World) (g n : Nat) (f : Nat → Int) : Prop := (∀ i, i < n → w.cell? ⟨g, i, none⟩ = some (.int .i64 (f i))) ∧ ∀ i, w.frozen? ⟨g, i, none⟩ = false

theorem Nums.below {w w' : World} {g n : Nat} {f : Nat → Int} (h : Nums w g n f) (hg : g < w.heap.size) (hb : Below w.heap.size w w') : Nums w' g n f :=
  ⟨fun i hi => (hb.cell (p := ⟨g, i, none⟩) hg).trans (h.1 i hi), fun i => (hb.frozen (p := ⟨g, i, none⟩) hg).trans (h.2 i)⟩

theorem Nums.set {w : World} {g n : Nat} {f f' : Nat → Int} (h : Nums w g n f) (j : Nat) (hj : j < n) (v : Int) (hv : f' j = v) (ho : ∀ i, i ≠ j → f' i = f i) : Nums (w.setCell ⟨g, j, none⟩ (.int .i64 v)) g n f' := by
  refine ⟨fun i hi => ?_, fun i => by simpa using h.2 i⟩
  by_cases e : i = j
  · subst e
    rw [hv]
    exact World.cell?_setCell_same _ _ _ (h.1 i hi)
  · rw [World.cell?_setCell_other _ _ _ _ (by simp <;> omega), ho i e]
    exact h.1 i hi

theorem Nums.eq {w : World} {g n : Nat} {f f' : Nat → Int} (h : Nums w g n f) (ho : ∀ i, i < n → f' i = f i) : Nums w g n f' := ⟨fun i hi => by rw [ho i hi]; exact h.1 i hi, h.2⟩

/-- Numbers below j are the greater ones already. -/
def upto (F : Nat → Int) (v : Vw) (j : Nat) : Nat → Int := fun i => if i < j then max (F i) (tell v i) else F i

set_option maxHeartbeats 4000000 in
theorem epochs20 (w : World) (o : Option Addr) (n oc : Nat) (l : List Vw) (h1 : 1 ≤ n) (h5 : n ≤ 5) (hr : RVw w o n oc l) (ht : ∀ v ∈ l, Tells n v) :
    Calls Tryz.prog 20 #[.slice o n oc, .int .i64 n] w fun r w' => r = .returned (.slice (some ⟨w.heap.size, 0, none⟩) n n) ∧ (∀ i, i < n → w'.cell? ⟨w.heap.size, i, none⟩ = some (.int .i64 (most l i))) ∧ Below w.heap.size w w' := by
  obtain ⟨M, hMs, hM0, hmk⟩ := makeN w n h1 h5
  have hll : l.length = n := hr.len.symm
  go_enter Tryz.func20, Tryz.ntmps20
  go_wp2_with fail
  obtain ⟨V, hV⟩ : ∃ V, V = w.alloc (.cells M 3) := ⟨_, rfl⟩
  rw [← hV]
  have hbV : Below w.heap.size w V := by rw [hV]; exact (Below.refl _ _).alloc (Nat.le_refl _) _
  have hsV : w.heap.size < V.heap.size := by rw [hV]; simp
  have hN : Nums V w.heap.size n (fun _ => 0) := ⟨fun i hi => by rw [hV]; simp [hM0 i hi], fun i => by rw [hV]; simp⟩
  clear hV hmk hM0 hMs
  go_loopw [6, 22] (fun t i wr => ∃ (k told : Nat), k ≤ n ∧ told ≤ n ∧ i = .int .i64 k ∧ t = .int .i64 told ∧ Hid (Nums wr w.heap.size n (most (l.take k)) ∧ (∀ i, told ≤ i → most (l.take k) i = 0) ∧ Below w.heap.size w wr) ∧ w.heap.size < wr.heap.size) (fun _ i _ => n - (intOf i).toNat)
  case atStart => exact ⟨0, 0, Nat.zero_le _, Nat.zero_le _, rfl, rfl, ⟨hN, fun i _ => rfl, hbV⟩, hsV⟩
  case round =>
    obtain ⟨k, told, hk, htn, rfl, rfl, HI, hsz⟩ := hrel
    by_cases hlt : k < n
    · obtain ⟨b, off, c, rfl, hb, lc, f0, f1, f2, f3, f4⟩ := hr.at k (by omega)
      have hmem : l[k]'(by omega) ∈ l := List.getElem_mem _
      have htk : l.take (k + 1) = l.take k ++ [l[k]'(by omega)] := by rw [List.take_add_one, List.getElem?_eq_getElem (by omega)]; rfl
      have hte := ht _ hmem
      have hF : ∀ i, most (l.take (k + 1)) i = max (most (l.take k) i) (tell (l[k]'(by omega)) i) := fun i => by rw [htk, most_snoc]
      have hlcW := lc
      have HF : Hid ((∀ i, most (l.take (k + 1)) i = max (most (l.take k) i) (tell (l[k]'(by omega)) i)) ∧ (∀ i, 0 ≤ most (l.take k) i)) := ⟨hF, most_nonneg _⟩
      have g0 : wr.cell? ⟨b, off + k * 5, none⟩ = some (.int .i64 c.R) := (HI.out.2.2.cell (p := ⟨b, off + k * 5, none⟩) hb).trans f0
      have g1 : wr.cell? ⟨b, off + k * 5 + 1, none⟩ = some (.int .i64 c.Rev) := (HI.out.2.2.cell (p := ⟨b, off + k * 5 + 1, none⟩) hb).trans f1
      have g2 : wr.cell? ⟨b, off + k * 5 + 2, none⟩ = some (.string c.f) := (HI.out.2.2.cell (p := ⟨b, off + k * 5 + 2, none⟩) hb).trans f2
      have g3 : wr.cell? ⟨b, off + k * 5 + 3, none⟩ = some (.slice c.sa c.sn c.sc) := (HI.out.2.2.cell (p := ⟨b, off + k * 5 + 3, none⟩) hb).trans f3
      have g4 : wr.cell? ⟨b, off + k * 5 + 4, none⟩ = some (.slice c.ea c.en c.ec) := (HI.out.2.2.cell (p := ⟨b, off + k * 5 + 4, none⟩) hb).trans f4
      have hbr : b < wr.heap.size := by omega
      clear f0 f1 f2 f3 f4 hF htk lc
      generalize l[k]'(by omega) = v at *
      obtain ⟨F', hF'⟩ : ∃ F', F' = most (l.take (k + 1)) := ⟨_, rfl⟩
      have HFE : Hid (F' = most (l.take (k + 1))) := hF'
      rw [← hF'] at HF
      clear hF'
      generalize most (l.take k) = F at *
      obtain ⟨cR, cV, cf, csa, csn, csc, cea, cen, cec⟩ := c
      have hen : cen = v.ep.length := hlcW.en
      have hints := hlcW.ints
      simp only at g0 g1 g2 g3 g4 hints
      rcases hints with ⟨e1, e2, e3, e4⟩ | ⟨e1, e2, e3, e4, eb, eo, e5, _, heb, hec⟩
      · subst e1 e2 e3
        have hnil : v.ep = [] := List.eq_nil_of_length_eq_zero hen.symm
        have hsame : ∀ i, F' i = F i := fun i => by
          rw [HF.out.1 i]
          have : tell v i = 0 := by simp [tell, hnil]
          have := HF.out.2 i
          omega
        have HI2 : Hid (Nums wr w.heap.size n F' ∧ (∀ i, told ≤ i → F' i = 0) ∧ Below w.heap.size w wr) := ⟨HI.out.1.eq (fun i _ => hsame i), fun i hi => by rw [hsame i]; exact HI.out.2.1 i hi, HI.out.2.2⟩
        clear HI HF hte hen e4 hnil hsame hlcW
        go_wp2_with fail
        refine wp_loop_rounds 1 ?_
        rw [rounds_succ]
        have ee : max (told : Int) (max (min 0 (n : Int)) 0) = (told : Int) := by omega
        go_wp2
        go_roundw
        case rel =>
          rw [HFE.out] at HI2
          exact ⟨k + 1, told, by omega, htn, by go_num, by first | rfl | rw [ee], ⟨HI2.out.1.below hsz ((Below.refl _ _).alloc (Nat.le_refl _) _), HI2.out.2.1, HI2.out.2.2.alloc (by omega) _⟩, by simp; omega⟩
        case measure => simp [intOf]; omega
      · subst e5
        have hlen : v.ep.length = n := by
          rcases hte.1 with h | h
          · rw [h] at hen; simp at hen; omega
          · exact h
        have hcn : cen = n := hen.trans hlen
        subst hcn
        have hE : ∀ j, j < cen → ∃ u : Int, 0 ≤ u ∧ tell v j = u ∧ w.cell? ⟨eb, eo + j, none⟩ = some (.int .i64 u) := fun j hj => by
          have hj' : j < v.ep.length := by omega
          refine ⟨v.ep[j], hte.2 _ (List.getElem_mem hj'), by simp [tell, hj'], ?_⟩
          exact hec j _ (by simp [icells, hj'])
        have HE : Hid (∀ j, j < cen → ∃ u : Int, 0 ≤ u ∧ tell v j = u ∧ w.cell? ⟨eb, eo + j, none⟩ = some (.int .i64 u)) := hE
        have hvl : Hid (v.ep.length = cen) := hlen
        clear hec hE hte hen hlen hlcW e4
        go_wp2_with fail
        go_loopw [36] (fun i wr => ∃ j : Nat, j ≤ cen ∧ i = .int .i64 j ∧ Hid (Nums wr w.heap.size cen (upto F v j) ∧ Below w.heap.size w wr) ∧ w.heap.size < wr.heap.size) (fun i _ => cen - (intOf i).toNat)
        case atStart => exact ⟨0, Nat.zero_le _, rfl, ⟨(HI.out.1.below hsz ((Below.refl _ _).alloc (Nat.le_refl _) _)).eq (fun i _ => by simp [upto]), HI.out.2.2.alloc (by omega) _⟩, by simp; omega⟩
        case round =>
          obtain ⟨j, hj, rfl, HJ, hsj⟩ := hrel
          by_cases hjl : j < cen
          · obtain ⟨u, hu0, hut, huc⟩ := HE.out j hjl
            have q0 : wr.cell? ⟨eb, eo + j, none⟩ = some (.int .i64 u) := (HJ.out.2.cell (p := ⟨eb, eo + j, none⟩) heb).trans huc
            have q1 : wr.cell? ⟨w.heap.size, j, none⟩ = some (.int .i64 (F j)) := by
              have h := HJ.out.1.1 j hjl
              simpa [upto] using h
            have q2 : wr.frozen? ⟨w.heap.size, j, none⟩ = false := HJ.out.1.2 j
            have hebr : eb < wr.heap.size := by omega
            have hstep : ∀ i, upto F v (j + 1) i = if i = j then max (F j) u else upto F v j i := fun i => by
              unfold upto
              by_cases e : i = j
              · subst e; rw [if_pos (by omega), if_pos rfl, hut]
              · rw [if_neg e]
                by_cases h2 : i < j
                · rw [if_pos (by omega), if_pos h2]
                · rw [if_neg (by omega), if_neg h2]
            have HX : Hid ((∀ i, upto F v (j + 1) i = if i = j then max (F j) u else upto F v j i) ∧ (told ≤ j → F j = 0) ∧ 0 ≤ u) := ⟨hstep, fun h => HI.out.2.1 j h, hu0⟩
            have HST : Hid ((told ≤ j ∨ F j < u) → Nums (wr.setCell ⟨w.heap.size, j, none⟩ (.int .i64 u)) w.heap.size cen (upto F v (j + 1)) ∧ Below w.heap.size w (wr.setCell ⟨w.heap.size, j, none⟩ (.int .i64 u))) := fun h => by
              refine ⟨HJ.out.1.set j hjl u ?_ (fun i hi => by rw [hstep i, if_neg hi]), HJ.out.2.setCell (Nat.le_refl _) _⟩
              rw [hstep j, if_pos rfl]
              rcases h with h | h
              · have := HI.out.2.1 j h; omega
              · omega
            clear hstep hut huc
            by_cases hto : told ≤ j
            · have hd : decide ((told : Int) ≤ (j : Int)) = true := decide_eq_true (by omega)
              go_wp2_with fail
              go_roundw
              case rel => exact ⟨j + 1, by omega, by go_num, HST.out (.inl hto), by simpa using hsj⟩
              case measure => simp [intOf]; omega
            · have hd : decide ((told : Int) ≤ (j : Int)) = false := decide_eq_false (by omega)
              by_cases hfu : F j < u
              · have hd2 : decide (F j < u) = true := decide_eq_true hfu
                go_wp2_with fail
                go_roundw
                case rel => exact ⟨j + 1, by omega, by go_num, HST.out (.inr hfu), by simpa using hsj⟩
                case measure => simp [intOf]; omega
              · have hd2 : decide (F j < u) = false := decide_eq_false hfu
                have HN : Hid (Nums wr w.heap.size cen (upto F v (j + 1)) ∧ Below w.heap.size w wr) := ⟨HJ.out.1.eq (fun i _ => by
                  rw [HX.out.1 i]
                  by_cases e : i = j
                  · subst e; rw [if_pos rfl]; simp [upto]; omega
                  · rw [if_neg e]), HJ.out.2⟩
                go_wp2_with fail
                go_roundw
                case rel => exact ⟨j + 1, by omega, by go_num, HN.out, hsj⟩
                case measure => simp [intOf]; omega
          · have HN : Hid (Nums wr w.heap.size cen F' ∧ (∀ i, cen ≤ i → F' i = 0) ∧ Below w.heap.size w wr) := by
              have ej : j = cen := by omega
              refine ⟨HJ.out.1.eq (fun i hi => by rw [HF.out.1 i]; unfold upto; rw [if_pos (by omega)]), fun i hi => ?_, HJ.out.2⟩
              rw [HF.out.1 i, HI.out.2.1 i (by omega)]
              have hno : tell v i = 0 := by
                unfold tell
                rw [List.getElem?_eq_none (by rw [hvl.out]; exact hi)]; rfl
              rw [hno]; rfl
            have ee : max (told : Int) (cen : Int) = (cen : Int) := by omega
            go_wp2_with fail
            go_roundw
            case rel =>
              rw [HFE.out] at HN
              exact ⟨k + 1, cen, by omega, Nat.le_refl _, by go_num, by first | rw [ee] | rfl, HN.out, hsj⟩
            case measure => simp [intOf]; omega
    · have ek : k = n := by omega
      have HN : Hid (Nums wr w.heap.size n (most l) ∧ Below w.heap.size w wr) := by
        have := HI.out
        rw [ek, ← hll, List.take_length] at this
        rw [hll] at this
        exact ⟨this.1, this.2.2⟩
      go_wp2
      go_ret
      exact ⟨rfl, HN.out.1.1, HN.out.2⟩

end Go.Proofs.YtdeojcodbojmoaaGreatDoor
