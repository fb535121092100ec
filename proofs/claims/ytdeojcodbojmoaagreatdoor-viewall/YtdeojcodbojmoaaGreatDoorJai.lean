/- A copy of a row in memory of its own: append(nil, x...); strings.Clone. -/
/- view.add: views behind others, in memory of their own. -/
/- Two rows of views that are alike. -/
import Derived.Test.YtdeojcodbojmoaaGreatDoorJad
import Derived.Test.YtdeojcodbojmoaaGreatDoorJag
import Derived.Deep.AppendLies
import Derived.Deep.RegionHeld3
namespace Go.Proofs.YtdeojcodbojmoaaGreatDoor
open Go.RowKit
set_option maxRecDepth 100000
set_option linter.unusedVariables false

theorem wpList_copy {Pr : Program} (w : World) {P : Nat → Prop} {ops : Array Oper} {rest : List Oper} {o : Oper} {a : Act} {Q : Exit → Act → World → Prop} (hgd : o.guard = none) (s x : Operand) (t : TypeId)
    (ho : o.op = .call { callee := .builtin .append, args := #[s, x], argTypes := #[t, t] })
    (e : TypeId) (i : TypeInfo) (z : Value) (size bytes : Nat) (ht : Pr.underlying t = some (.slice e)) (hi : Pr.info? e = some i) (hz : i.zero = some z)
    (hsize : i.size = size) (hby : i.bytes = bytes) (hzs : z.cells.size = size) (hsz : 0 < size) (hbb : bytes ≤ 1000)
    (ao : Option Addr) (n cap : Nat) (xs : List Value) (hs : a.eval s = .slice none 0 0) (hx : a.eval x = .slice ao n cap) (hr : Rds P w size ao n cap xs) (h1 : ∀ u ∈ xs, u.oneCell' = true)
    (h : ∀ ao' cap' w', Rds (fun b => w.heap.size ≤ b) w' size ao' n cap' xs → Below w.heap.size w w' → wpList Pr ops Q rest (a.put o.dst (.slice ao' n cap')) w') : wpList Pr ops Q (o :: rest) a w := by
  rcases hr with ⟨rfl, rfl, rfl, rfl⟩ | ⟨h0, hc, hn, hl, b, off, rfl, hp, hb, hcells⟩
  · refine wpList_plain hgd fun K hK' => ?_
    have hrun := run_append_owned_none (P := Pr) w w.heap.size t o.type e i size ht hi _ 0 [] (World.ownsRow_nil w w.heap.size e size)
    unfold Oper.wp
    simp [execOp, ho, resolve, invoke, builtin, hs, hx, hrun, Result.andThen]
    exact hK' _ _ (by simpa using h none 0 w (Rds.nil _ _ _) (Below.refl _ _))
  · refine wpList_append_lies w hgd s x t ho w.heap.size e i z size bytes ht hi hz hsize hby hzs hsz (.slice none 0 0) 0 [] hs (World.ownsRow_nil w w.heap.size e size) ⟨b, off, none⟩ n cap xs hx hl (fun j u hu => by rw [Addr.add_lit]; exact hcells j u hu) h1 h0 (by unfold maxLen; omega) ?_ (Nat.le_refl _) w.heap.size rfl ?_
    · have : (0 + n) * bytes ≤ 1000 * 1000 := Nat.mul_le_mul (by omega) hbb
      omega
    · intro g cap' w1 hown hgrow hat hlt
      simp only [Nat.zero_add, List.nil_append] at hown ⊢
      exact h _ cap' w1 (Rds.of_own hown hn (.inl h0)) ⟨hgrow.os, hgrow.tape, hgrow.output, hgrow.size, fun k hk => hgrow.block k hk (by simp [Value.ownBlock])⟩

set_option maxHeartbeats 400000 in
theorem clone77e (w : World) : Calls Tryz.prog 77 #[.string ⟨#[]⟩] w fun e w' => e = .returned (.string ⟨#[]⟩) ∧ w' = w := by
  go_enter Tryz.func77, Tryz.ntmps77
  go_wp2
  go_ret
  exact ⟨rfl, rfl⟩

theorem clone77 (s : ByteArray) (w : World) (hb : s.size ≤ 1000) : Calls Tryz.prog 77 #[.string s] w fun e w' => e = .returned (.string s) ∧ Below w.heap.size w w' := by
  by_cases h0 : 0 < s.size
  · exact clone20 s w h0 hb
  · have e : s = ⟨#[]⟩ := by
      apply ByteArray.ext; apply Array.ext'
      have : s.data.toList.length = s.size := by simp
      exact List.eq_nil_of_length_eq_zero (by omega)
    subst e
    refine (clone77e w).mono ?_
    rintro e w' ⟨rfl, rfl⟩
    exact ⟨rfl, Below.refl _ _⟩

set_option maxHeartbeats 400000 in
theorem clone65 (s : ByteArray) (w : World) (hb : s.size ≤ 1000) : Calls Tryz.prog 65 #[.string s] w fun e w' => e = .returned (.string s) ∧ Below w.heap.size w w' := by
  go_enter Tryz.func65, Tryz.ntmps65
  go_wp2_with (go_at_call 77; refine (clone77 _ _ hb).mono ?_; rintro e w' ⟨rfl, hbel⟩)
  go_ret
  exact ⟨rfl, hbel⟩

theorem Tryz.info45 : (Tryz.prog.info? 45).map (fun i => (i.zero, i.size, i.bytes)) = some (some (.agg #[.int .i64 0, .int .i64 0, .int .i64 0, .int .i64 0]), 4, 32) := by kernel_rfl
theorem Tryz.info3 : (Tryz.prog.info? 3).map (fun i => (i.zero, i.size, i.bytes)) = some (some (.int .i64 0), 1, 8) := by kernel_rfl
theorem Tryz.info25 : (Tryz.prog.info? 25).map (fun i => (i.zero, i.size, i.bytes)) = some (some (.agg #[.int .i64 0, .int .i64 0, .string ⟨#[]⟩, .slice none 0 0, .slice none 0 0]), 5, 80) := by kernel_rfl

theorem hcells_one (l : List Hd) : ∀ u ∈ hcells l, u.oneCell' = true := by
  induction l with
  | nil => intro u hu; cases hu
  | cons h r ih =>
    intro u hu
    simp only [hcells, Hd.vals, List.cons_append, List.nil_append, List.mem_cons] at hu
    rcases hu with rfl | rfl | rfl | rfl | hu
    · rfl
    · rfl
    · rfl
    · rfl
    · exact ih u hu

theorem icells_one (l : List Int) : ∀ u ∈ icells l, u.oneCell' = true := by
  intro u hu
  obtain ⟨_, _, rfl⟩ := List.mem_map.1 hu
  rfl

theorem pcells_one (l : List (Vc × Vw)) : ∀ u ∈ pcells l, u.oneCell' = true := by
  induction l with
  | nil => intro u hu; cases hu
  | cons h r ih =>
    intro u hu
    simp only [pcells, Vc.vals, List.cons_append, List.nil_append, List.mem_cons] at hu
    rcases hu with rfl | rfl | rfl | rfl | rfl | hu
    · rfl
    · rfl
    · rfl
    · rfl
    · rfl
    · exact ih u hu

set_option maxHeartbeats 1000000 in
/-- A view in memory of its own. -/
theorem anew47 (P : Nat → Prop) (c : Vc) (v : Vw) (w : World) (h : Lv P w c v) :
    Calls Tryz.prog 47 #[.agg #[.int .i64 c.R, .int .i64 c.Rev, .string c.f, .slice c.sa c.sn c.sc, .slice c.ea c.en c.ec]] w fun e w' => ∃ c' : Vc, e = .returned (.agg #[.int .i64 c'.R, .int .i64 c'.Rev, .string c'.f, .slice c'.sa c'.sn c'.sc, .slice c'.ea c'.en c'.ec]) ∧ Lv (fun k => w.heap.size ≤ k) w' c' v ∧ Below w.heap.size w w' := by
  obtain ⟨R, Rev, f, sa, sn, sc, ea, en, ec⟩ := c
  obtain ⟨hR, hRev, hf, hfs, hsn, hen, hh, hi⟩ := h
  simp only at hR hRev hf hsn hen hh hi ⊢
  have cl := fun w => clone65 v.f w hfs
  subst hR hRev hf
  have HS : Hid (sn = v.sn.length ∧ en = v.ep.length ∧ v.f.size ≤ 1000) := ⟨hsn, hen, hfs⟩
  have HH : Hid (_ ∧ _) := ⟨hh, hi⟩
  clear hsn hen hh hi hfs
  obtain ⟨i4, k1, k2, k3, k4⟩ := info_parts Tryz.info45
  obtain ⟨i3, m1, m2, m3, m4⟩ := info_parts Tryz.info3
  go_enter Tryz.func47, Tryz.ntmps47
  go_wp2_with fail
  refine (cl _).mono ?_
  rintro e w1 ⟨rfl, hb1⟩
  have hbw : Below w.heap.size w w1 := (((Below.refl _ w).alloc (Nat.le_refl _) _).alloc (by simp) _).trans (hb1.mono (by simp <;> omega))
  have hs1 : w.heap.size + 1 < w1.heap.size := by have := hb1.size; simp at this; omega
  have d1 : ∀ i, w1.cell? ⟨w.heap.size, i, none⟩ = (#[.int .i64 v.R, .int .i64 v.Rev, .string v.f, .slice sa sn sc, .slice ea en ec] : Array Value)[i]? := fun i => by
    rw [hb1.cell (p := ⟨w.heap.size, i, none⟩) (by simp <;> omega), World.cell?_alloc_past _ _ _ (hn := by simp)]; simp
  have d2 : ∀ i, w1.cell? ⟨w.heap.size + 1, i, none⟩ = (#[.int .i64 0, .int .i64 0, .string ⟨#[]⟩, .slice none 0 0, .slice none 0 0] : Array Value)[i]? := fun i => by
    rw [hb1.cell (p := ⟨w.heap.size + 1, i, none⟩) (by simp), World.cell?_alloc_at _ _ _ _ (by simp)]
  have e1 : ∀ i, w1.frozen? ⟨w.heap.size, i, none⟩ = false := fun i => by
    rw [hb1.frozen (p := ⟨w.heap.size, i, none⟩) (by simp <;> omega)]; simp
  have e2 : ∀ i, w1.frozen? ⟨w.heap.size + 1, i, none⟩ = false := fun i => by
    rw [hb1.frozen (p := ⟨w.heap.size + 1, i, none⟩) (by simp)]; simp
  clear cl hb1
  have HB : Hid (Below w.heap.size w w1) := hbw
  clear hbw
  go_wp2_with (at_builtin; refine wpList_copy _ rfl _ _ 22 rfl 45 i4 _ 4 32 Tryz.underlying22 k1 k2 k3 k4 rfl (by decide) (by decide) sa sn sc (hcells v.sn) rfl rfl (HH.out.1.below (HB.out.setCell (Nat.le_refl _) _)) (hcells_one _) ?_)
  intro sa' sc' w2 hr2 hb2
  have HB2 : Hid (Below w.heap.size w w2) := (HB.out.setCell (p := ⟨w.heap.size, 2, none⟩) (Nat.le_refl _) _).trans (hb2.mono (by have := HB.out.size; simpa using this))
  have hs2 : w.heap.size + 1 < w2.heap.size := by have := hb2.size; simp at this; omega
  have d3 : ∀ i, w2.cell? ⟨w.heap.size, i, none⟩ = (#[.int .i64 v.R, .int .i64 v.Rev, .string v.f, .slice sa sn sc, .slice ea en ec] : Array Value)[i]? := fun i => by
    rw [hb2.cell (p := ⟨w.heap.size, i, none⟩) (by simp <;> omega)]
    by_cases hi : i = 2
    · subst hi; exact (World.cell?_setCell_same _ _ _ (u := .string v.f) (d1 2)).trans rfl
    · rw [World.cell?_setCell_other _ _ _ _ (by simp <;> omega)]; exact d1 i
  have d4 : ∀ i, w2.cell? ⟨w.heap.size + 1, i, none⟩ = (#[.int .i64 0, .int .i64 0, .string ⟨#[]⟩, .slice none 0 0, .slice none 0 0] : Array Value)[i]? := fun i => by
    rw [hb2.cell (p := ⟨w.heap.size + 1, i, none⟩) (by simpa using hs1), World.cell?_setCell_other _ _ _ _ (by simp)]; exact d2 i
  have e3 : ∀ i, w2.frozen? ⟨w.heap.size, i, none⟩ = false := fun i => by
    rw [hb2.frozen (p := ⟨w.heap.size, i, none⟩) (by simp <;> omega)]; simpa using e1 i
  have e4 : ∀ i, w2.frozen? ⟨w.heap.size + 1, i, none⟩ = false := fun i => by
    rw [hb2.frozen (p := ⟨w.heap.size + 1, i, none⟩) (by simpa using hs1)]; simpa using e2 i
  have hr2' : Hid (Rds (fun b => w.heap.size + 1 < b) w2 4 sa' sn sc' (hcells v.sn)) := hr2.mono (fun b _ hb => by have hb' : w1.heap.size ≤ b := hb; omega)
  clear hb2 hr2 d1 d2 e1 e2 hs1
  go_wp2_with (at_builtin; refine wpList_copy _ rfl _ _ 23 rfl 3 i3 _ 1 8 Tryz.underlying23 m1 m2 m3 m4 rfl (by decide) (by decide) ea en ec (icells v.ep) rfl rfl (HH.out.2.below (HB2.out.setCell (Nat.le_refl _) _)) (icells_one _) ?_)
  intro ea' ec' w3 hr3 hb3
  have HB3 : Hid (Below w.heap.size w w3) := (HB2.out.setCell (p := ⟨w.heap.size, 3, none⟩) (Nat.le_refl _) _).trans (hb3.mono (by have := HB2.out.size; simpa using this))
  have hs3 : w.heap.size + 1 < w3.heap.size := by have := hb3.size; simp at this; omega
  have d5 : ∀ i, w3.cell? ⟨w.heap.size, i, none⟩ = (#[.int .i64 v.R, .int .i64 v.Rev, .string v.f, .slice sa' sn sc', .slice ea en ec] : Array Value)[i]? := fun i => by
    rw [hb3.cell (p := ⟨w.heap.size, i, none⟩) (by simp <;> omega)]
    by_cases hi : i = 3
    · subst hi; exact (World.cell?_setCell_same _ _ _ (u := .slice sa sn sc) (d3 3)).trans rfl
    · rw [World.cell?_setCell_other _ _ _ _ (by simp <;> omega), d3 i]
      match i, hi with
      | 0, _ => rfl
      | 1, _ => rfl
      | 2, _ => rfl
      | 4, _ => rfl
      | n + 5, _ => rfl
  have d6 : ∀ i, w3.cell? ⟨w.heap.size + 1, i, none⟩ = (#[.int .i64 0, .int .i64 0, .string ⟨#[]⟩, .slice none 0 0, .slice none 0 0] : Array Value)[i]? := fun i => by
    rw [hb3.cell (p := ⟨w.heap.size + 1, i, none⟩) (by simpa using hs2), World.cell?_setCell_other _ _ _ _ (by simp)]; exact d4 i
  have e5 : ∀ i, w3.frozen? ⟨w.heap.size, i, none⟩ = false := fun i => by
    rw [hb3.frozen (p := ⟨w.heap.size, i, none⟩) (by simp <;> omega)]; simpa using e3 i
  have e6 : ∀ i, w3.frozen? ⟨w.heap.size + 1, i, none⟩ = false := fun i => by
    rw [hb3.frozen (p := ⟨w.heap.size + 1, i, none⟩) (by simpa using hs2)]; simpa using e4 i
  have HR : Hid (Rds (fun b => w.heap.size + 1 < b) w3 4 sa' sn sc' (hcells v.sn) ∧ Rds (fun b => w.heap.size + 1 < b) w3 1 ea' en ec' (icells v.ep)) := by
    refine ⟨(hr2'.out.kept ((Kept.refl _ w2).setCell (p := ⟨w.heap.size, 3, none⟩) (fun k hk hp => by show k ≠ w.heap.size; have hp' : w.heap.size + 1 < k := hp; omega) (.slice sa' sn sc'))).kept (Kept.of_below (by simpa using hb3)), hr3.mono (fun b _ hb => by have hb' : w2.heap.size ≤ b := hb; omega)⟩
  clear hb3 hr3 d3 d4 e3 e4 hs2 HB HB2 HH hr2'
  go_wp2_with fail
  refine bodyPost_ret (v := .agg #[.int .i64 v.R, .int .i64 v.Rev, .string v.f, .slice sa' sn sc', .slice ea' en ec']) (by simp [results, Tryz.results47, go_sem, d6]) rfl ⟨⟨v.R, v.Rev, v.f, sa', sn, sc', ea', en, ec'⟩, rfl, ?_, ?_⟩
  · have hk : Kept (fun b => w.heap.size + 1 < b) w3 ((((((w3.setCell ⟨w.heap.size, 4, none⟩ (.slice ea' en ec')).setCell ⟨w.heap.size + 1, 0, none⟩ (.int .i64 v.R)).setCell ⟨w.heap.size + 1, 1, none⟩ (.int .i64 v.Rev)).setCell ⟨w.heap.size + 1, 2, none⟩ (.string v.f)).setCell ⟨w.heap.size + 1, 3, none⟩ (.slice sa' sn sc')).setCell ⟨w.heap.size + 1, 4, none⟩ (.slice ea' en ec')) := by
      have g : ∀ k, w.heap.size + 1 < k → k ≠ w.heap.size ∧ k ≠ w.heap.size + 1 := fun k hk => by omega
      exact ((((((Kept.refl _ w3).setCell (fun k _ hp => (g k hp).1) _).setCell (fun k _ hp => (g k hp).2) _).setCell (fun k _ hp => (g k hp).2) _).setCell (fun k _ hp => (g k hp).2) _).setCell (fun k _ hp => (g k hp).2) _).setCell (fun k _ hp => (g k hp).2) _
    obtain ⟨hS, hE, hF⟩ := HS.out
    have hm : ∀ b : Nat, w.heap.size + 1 < b → w.heap.size ≤ b := fun b hb => by omega
    exact ⟨rfl, rfl, rfl, hF, hS, hE, (HR.out.1.kept hk).mono (fun b _ hb => hm b hb), (HR.out.2.kept hk).mono (fun b _ hb => hm b hb)⟩
  · exact (((((HB3.out.setCell (Nat.le_refl _) _).setCell (Nat.le_succ _) _).setCell (Nat.le_succ _) _).setCell (Nat.le_succ _) _).setCell (Nat.le_succ _) _).setCell (Nat.le_succ _) _

end Go.Proofs.YtdeojcodbojmoaaGreatDoor
namespace Go.Proofs.YtdeojcodbojmoaaGreatDoor
open Go.RowKit
set_option maxRecDepth 100000
set_option linter.unusedVariables false

/-- All blocks but that of a slice of one's own. -/
def Far (v : Value) : Nat → Prop := fun k => some k ≠ v.ownBlock

/-- The cells of one view of a row. -/
theorem view_at {P : Nat → Prop} {w : World} {b off : Nat} {ps : List (Vc × Vw)} (hc : ∀ j u, (pcells ps)[j]? = some u → w.cell? ⟨b, off + j, none⟩ = some u) (i : Nat) (hi : i < ps.length) :
    w.cell? ⟨b, off + i * 5, none⟩ = some (.int .i64 (ps[i]).1.R) ∧ w.cell? ⟨b, off + i * 5 + 1, none⟩ = some (.int .i64 (ps[i]).1.Rev) ∧ w.cell? ⟨b, off + i * 5 + 2, none⟩ = some (.string (ps[i]).1.f) ∧
    w.cell? ⟨b, off + i * 5 + 3, none⟩ = some (.slice (ps[i]).1.sa (ps[i]).1.sn (ps[i]).1.sc) ∧ w.cell? ⟨b, off + i * 5 + 4, none⟩ = some (.slice (ps[i]).1.ea (ps[i]).1.en (ps[i]).1.ec) := by
  have h : ∀ q (hq : q < 5) u, (ps[i]).1.vals[q]? = some u → w.cell? ⟨b, off + i * 5 + q, none⟩ = some u := fun q hq u hu => by
    have := hc (i * 5 + q) u (by rw [pcells_get ps i q hi hq]; exact hu)
    rw [← Nat.add_assoc] at this
    exact this
  exact ⟨h 0 (by omega) _ rfl, h 1 (by omega) _ rfl, h 2 (by omega) _ rfl, h 3 (by omega) _ rfl, h 4 (by omega) _ rfl⟩

/-- One view more behind a row of one's own: all of them lie apart from the row. -/
theorem lvs_push {wr W w2 : World} {vo : Value} {g n cap : Nat} {qs : List (Vc × Vw)} {c : Vc} {v : Vw} (hlt : ∀ k, vo.ownBlock = some k → k < wr.heap.size) (hb : Below wr.heap.size wr W) (lv : Lvs (Far vo) wr qs) (lc : Lv (fun k => wr.heap.size ≤ k) W c v)
    (hg : W.grownBy w2 vo.ownBlock) (hat : vo.ownBlock = some g ∨ g = W.heap.size) : Lvs (Far (.slice (some ⟨g, 0, none⟩) n cap)) w2 (qs ++ [(c, v)]) := by
  refine Lvs.append ?_ ?_
  · intro q hq
    have h1 : Lv (fun k => Far vo k ∧ k < wr.heap.size) wr q.1 q.2 := (lv q hq).mono (fun b hb hf => ⟨hf, hb⟩)
    have hk : Kept (fun k => Far vo k ∧ k < wr.heap.size) wr w2 := (Kept.of_below hb).trans (Kept.grown hg (fun k hk => hk.1))
    refine (h1.kept hk).mono (fun b _ hf => ?_)
    unfold Far Value.ownBlock at *
    intro e
    have e' : b = g := by simpa using e
    subst e'
    rcases hat with hat | hat
    · exact hf.1 hat.symm
    · have := hb.size; omega
  · intro q hq
    simp only [List.mem_singleton] at hq
    subst hq
    have h1 : Lv (fun k => wr.heap.size ≤ k ∧ k < W.heap.size) W c v := lc.mono (fun b hb hf => ⟨hf, hb⟩)
    have hk : Kept (fun k => wr.heap.size ≤ k ∧ k < W.heap.size) W w2 := Kept.grown hg (fun k hk e => by have := hlt k e.symm; omega)
    refine (h1.kept hk).mono (fun b _ hf => ?_)
    unfold Far Value.ownBlock
    intro e
    have e' : b = g := by simpa using e
    subst e'
    rcases hat with hat | hat
    · have := hlt b hat; omega
    · omega

theorem own_lt {w : World} {base : Nat} {e : TypeId} {size : Nat} {v : Value} {n : Nat} {xs : List Value} (h : w.ownsRow base e size v n xs) : ∀ k, v.ownBlock = some k → base ≤ k ∧ k < w.heap.size := h.lt

set_option maxHeartbeats 2000000 in
theorem add34 (B : Nat) (w : World) (hB : B ≤ w.heap.size) (o : Option Addr) (oc : Nat) (ps0 ps : List (Vc × Vw)) (ao : Option Addr) (n cap : Nat) (hn : n = ps.length) (hn0 : ps0.length ≤ 100000)
    (own : w.ownsRow B 25 5 (.slice o ps0.length oc) ps0.length (pcells ps0)) (lv0 : Lvs (Far (.slice o ps0.length oc)) w ps0) (rd : Rdz (Far (.slice o ps0.length oc)) w 5 ao n (pcells ps)) (lv : Lvs (Far (.slice o ps0.length oc)) w ps) :
    Calls Tryz.prog 34 #[.slice o ps0.length oc, .slice ao n cap] w fun e w' => ∃ o' oc' ps', e = .returned (.slice o' (List.length ps') oc') ∧ ps'.map (·.2) = (ps0 ++ ps).map (·.2) ∧ w'.ownsRow B 25 5 (.slice o' ps'.length oc') ps'.length (pcells ps') ∧
      Lvs (Far (.slice o' ps'.length oc')) w' ps' ∧ Below B w w' ∧ Kept (Far (.slice o ps0.length oc)) w w' := by
  have hn1 := rd.2.1
  go_enter Tryz.func34, Tryz.ntmps34
  go_wp2
  go_loopw [0, 9] (fun v i wr => ∃ (k : Nat) (o1 : Option Addr) (oc1 : Nat) (qs : List (Vc × Vw)), k ≤ n ∧ i = .int .i64 k ∧ v = .slice o1 (ps0.length + k) oc1 ∧ qs.length = ps0.length + k ∧ qs.map (·.2) = (ps0 ++ ps.take k).map (·.2) ∧ wr.ownsRow B 25 5 (.slice o1 (ps0.length + k) oc1) (ps0.length + k) (pcells qs) ∧
      Lvs (Far (.slice o1 (ps0.length + k) oc1)) wr qs ∧ (∀ g, (Value.slice o1 (ps0.length + k) oc1).ownBlock = some g → (Value.slice o ps0.length oc).ownBlock = some g ∨ w.heap.size ≤ g) ∧ Below B w wr ∧ Kept (Far (.slice o ps0.length oc)) w wr) (fun _ i _ => n - (intOf i).toNat)
  case atStart => exact ⟨0, o, oc, ps0, Nat.zero_le _, rfl, rfl, rfl, by simp, own, lv0, fun g hg => .inl hg, Below.refl _ _, Kept.refl _ _⟩
  case round =>
    obtain ⟨k, o1, oc1, qs, hk, rfl, rfl, hql, hqm, hown, hlv, hfar, hbel, hkept⟩ := hrel
    by_cases hlt : k < n
    · obtain ⟨b, off, rfl, hpb, hb, hc⟩ := rd.2.2 (by omega)
      have hkp : k < ps.length := by omega
      obtain ⟨f0, f1, f2, f3, f4⟩ := view_at (P := Any) (w := wr) (b := b) (off := off) (ps := ps) (fun j u hu => (hkept.cell hb hpb).trans (hc j u hu)) k hkp
      have lvk : Lv (Far (.slice o ps0.length oc)) wr (ps[k]).1 (ps[k]).2 := (lv.kept hkept) _ (List.getElem_mem hkp)
      have HT : Hid ((ps0 ++ ps.take (k + 1)).map (·.2) = (ps0 ++ ps.take k).map (·.2) ++ [(ps[k]).2]) := by
        show (ps0 ++ ps.take (k + 1)).map (·.2) = _
        rw [List.take_add_one, List.getElem?_eq_getElem hkp, Option.toList_some, ← List.append_assoc, List.map_append]
        rfl
      generalize ps[k] = p at *
      obtain ⟨c, v⟩ := p
      simp only at f0 f1 f2 f3 f4 lvk HT
      have HX : Hid (_ ∧ _ ∧ _ ∧ _ ∧ _ ∧ _ ∧ _ ∧ _) := ⟨hown, hlv, hfar, hbel, hkept, lvk, hqm, hql⟩
      clear hown hlv hfar hbel hkept lvk hqm hql
      go_wp2_with fail
      refine (anew47 _ c v _ (HX.out.2.2.2.2.2.1.kept ((Kept.refl _ wr).alloc _))).mono ?_
      rintro e w1 ⟨c', rfl, lv1, hb1⟩
      have hbr : Below wr.heap.size wr w1 := ((Below.refl _ wr).alloc (Nat.le_refl _) _).trans (hb1.mono (by simp))
      have hs1 : wr.heap.size ≤ w1.heap.size := hbr.size
      have HY : Hid (Below wr.heap.size wr w1 ∧ Lv (fun k => wr.heap.size ≤ k) w1 c' v) := ⟨hbr, lv1.mono (fun b _ hb => by have hb' : (wr.alloc (.cells #[.int .i64 c.R, .int .i64 c.Rev, .string c.f, .slice c.sa c.sn c.sc, .slice c.ea c.en c.ec] 25)).heap.size ≤ b := hb; simp at hb'; omega)⟩
      clear hbr lv1 hb1 f0 f1 f2 f3 f4
      obtain ⟨i25, k1, k2, k3, k4⟩ := info_parts Tryz.info25
      have hw : w.heap.size ≤ wr.heap.size := HX.out.2.2.2.1.size
      go_wp2_with (at_builtin; refine wpList_append_lies _ rfl _ _ 31 rfl B 25 i25 _ 5 80 Tryz.underlying31 k1 k2 k3 k4 rfl (by decide) (.slice o1 (ps0.length + k) oc1) _ (pcells qs) rfl (own_below HX.out.1 (HY.out.1.alloc hs1 _)) ⟨w1.heap.size, 0, none⟩ 1 1 c'.vals rfl rfl ?c1 ?c2 (by decide) ?c3 ?c4 ?c5 _ rfl ?_)
      case c1 =>
        intro j u hj
        match j, hj with
        | 0, hj => simp [Vc.vals] at hj; subst hj; simp [Addr.add]
        | 1, hj => simp [Vc.vals] at hj; subst hj; simp [Addr.add]
        | 2, hj => simp [Vc.vals] at hj; subst hj; simp [Addr.add]
        | 3, hj => simp [Vc.vals] at hj; subst hj; simp [Addr.add]
        | 4, hj => simp [Vc.vals] at hj; subst hj; simp [Addr.add]
      case c2 => intro u hu; simp [Vc.vals] at hu; rcases hu with rfl | rfl | rfl | rfl | rfl <;> rfl
      case c3 => unfold maxLen; omega
      case c4 => omega
      case c5 => simp; omega
      intro g cap' w2 hown2 hgrow hat hlt2
      obtain ⟨hown, hlv, hfar, hbel, hkept, lvk, hqm, hql⟩ := HX.out
      obtain ⟨hbr, lv1⟩ := HY.out
      have hlts := own_lt hown
      have hbW := hbr.alloc hs1 (.cells #[.int .i64 c'.R, .int .i64 c'.Rev, .string c'.f, .slice c'.sa c'.sn c'.sc, .slice c'.ea c'.en c'.ec] 25)
      have R : Hid (w2.ownsRow B 25 5 (.slice (some ⟨g, 0, none⟩) (ps0.length + (k + 1)) cap') (ps0.length + (k + 1)) (pcells (qs ++ [(c', v)])) ∧ Lvs (Far (.slice (some ⟨g, 0, none⟩) (ps0.length + (k + 1)) cap')) w2 (qs ++ [(c', v)]) ∧
          (∀ g', (Value.slice (some ⟨g, 0, none⟩) (ps0.length + (k + 1)) cap').ownBlock = some g' → (Value.slice o ps0.length oc).ownBlock = some g' ∨ w.heap.size ≤ g') ∧ Below B w w2 ∧ Kept (Far (.slice o ps0.length oc)) w w2) := by
        refine ⟨?_, ?_, ?_, ?_, ?_⟩
        · rw [pcells_append]
          have e : pcells [(c', v)] = c'.vals := by simp [pcells]
          rw [e]
          exact hown2
        · exact lvs_push (fun k' hk' => (hlts k' hk').2) hbW hlv (lv1.kept ((Kept.refl _ w1).alloc _)) hgrow (by simpa using hat)
        · intro g' hg'
          have e : g = g' := by simpa [Value.ownBlock] using hg'
          subst e
          rcases hat with hat | hat
          · exact hfar g hat
          · right; omega
        · exact (hbel.trans (hbW.mono (by omega))).grown hgrow (by simp; omega) (fun k' hk' => (hlts k' hk').1)
        · refine (Kept.trans (P := fun k => Far (.slice o ps0.length oc) k ∧ k < w.heap.size) (hkept.mono (fun k _ h => h.1)) ((Kept.of_below hbW).trans (Kept.grown hgrow (fun k' hk' e => ?_)))).mono (fun k' hk' h => ⟨h, hk'⟩)
          rcases hfar k' e.symm with h | h
          · exact hk'.1 h.symm
          · omega
      have hql' : (qs ++ [(c', v)]).length = ps0.length + (k + 1) := by simp; omega
      have hqm' : Hid ((qs ++ [(c', v)]).map (·.2) = (ps0 ++ ps.take (k + 1)).map (·.2)) := by
        show _ = _
        rw [HT.out, List.map_append, hqm]; rfl
      clear hown hlv hfar hbel hkept lvk hqm hql hbr lv1 hlts hbW hown2 hgrow hat HX HY HT
      go_wp2
      go_roundw
      case rel =>
        exact ⟨.slice (some ⟨g, 0, none⟩) (ps0.length + (k + 1)) cap', _, .int .i64 ((k + 1 : Nat) : Int), ⟨k + 1, by omega, rfl, _, cap', rfl, _, hql', by rw [hqm'.out, List.map_append, List.map_take], R.out.1, R.out.2.1, R.out.2.2.1, R.out.2.2.2.1, R.out.2.2.2.2⟩, rfl, rfl, by simp⟩
      case measure => simp [intOf]; omega
    · go_wp2
      go_ret
      have e : k = n := by omega
      subst e
      rw [hn, List.take_length] at hqm
      refine ⟨o1, oc1, qs, by rw [hql]; rfl, by rw [hqm, List.map_append], by rw [hql]; exact hown, by rw [hql]; exact hlv, hbel, hkept⟩

end Go.Proofs.YtdeojcodbojmoaaGreatDoor
namespace Go.Proofs.YtdeojcodbojmoaaGreatDoor
open Go.RowKit
set_option maxRecDepth 100000
set_option linter.unusedVariables false

theorem callee_old {w w' : World} (h : Below w.drew.heap.size w.drew w') :
    (∀ b o, b < w.heap.size → w'.cell? ⟨b, o, none⟩ = w.cell? ⟨b, o, none⟩) ∧ (∀ b o, b < w.heap.size → w'.frozen? ⟨b, o, none⟩ = w.frozen? ⟨b, o, none⟩) ∧ w.heap.size ≤ w'.heap.size :=
  ⟨fun b o hb => h.cell (p := ⟨b, o, none⟩) hb, fun b o hb => h.frozen (p := ⟨b, o, none⟩) hb, h.size⟩

theorem snd_at {ps qs : List (Vc × Vw)} (h : ps.map (·.2) = qs.map (·.2)) (k : Nat) (h1 : k < ps.length) (h2 : k < qs.length) : (ps[k]).2 = (qs[k]).2 := by
  have e : (ps.map (·.2))[k]? = (qs.map (·.2))[k]? := by rw [h]
  simpa [h1, h2] using e

set_option maxHeartbeats 2000000 in
theorem sameviews16 (w : World) (P1 P2 : Nat → Prop) (a1 a2 : Option Addr) (n1 c1 n2 c2 : Nat) (ps qs : List (Vc × Vw)) (e1 : n1 = ps.length) (e2 : n2 = qs.length) (h : ps.map (·.2) = qs.map (·.2)) (r1 : Rdz P1 w 5 a1 n1 (pcells ps)) (r2 : Rdz P2 w 5 a2 n2 (pcells qs)) (l1 : Lvs P1 w ps) (l2 : Lvs P2 w qs) :
    Calls Tryz.prog 16 #[.slice a1 n1 c1, .slice a2 n2 c2] w fun e w' => e = .returned (.bool true) ∧ Below w.heap.size w w' := by
  have hl : n1 = n2 := by have := congrArg List.length h; simp at this; omega
  subst hl
  have hl1 := r1.2.1
  have HE : Hid (n1 = ps.length ∧ n1 = qs.length) := ⟨e1, e2⟩
  clear e1 e2
  go_enter Tryz.func16, Tryz.ntmps16
  go_wp2
  go_loopw [5] (fun i wr => ∃ k : Nat, k ≤ n1 ∧ i = .int .i64 k ∧ Below w.heap.size w wr) (fun i _ => n1 - (intOf i).toNat)
  case atStart => exact ⟨0, Nat.zero_le _, rfl, Below.refl _ _⟩
  case round =>
    obtain ⟨k, hk, rfl, hbel⟩ := hrel
    by_cases hlt : k < n1
    · have k1 : k < ps.length := by rw [← HE.out.1]; exact hlt
      have k2 : k < qs.length := by rw [← HE.out.2]; exact hlt
      obtain ⟨b1, o1, rfl, _, hb1, hc1⟩ := r1.2.2 (by omega)
      obtain ⟨b2, o2, rfl, _, hb2, hc2⟩ := r2.2.2 (by omega)
      obtain ⟨f0, f1, f2, f3, f4⟩ := view_at (P := Any) (w := wr) (b := b1) (off := o1) (ps := ps) (fun j u hu => (hbel.cell (p := ⟨b1, o1 + j, none⟩) hb1).trans (hc1 j u hu)) k k1
      obtain ⟨g0, g1, g2, g3, g4⟩ := view_at (P := Any) (w := wr) (b := b2) (off := o2) (ps := qs) (fun j u hu => (hbel.cell (p := ⟨b2, o2 + j, none⟩) hb2).trans (hc2 j u hu)) k k2
      have hbd : Below wr.heap.size wr wr.drew := (Below.refl _ wr).drew
      have lx := ((l1 _ (List.getElem_mem k1)).below hbel).below hbd
      have ly := ((l2 _ (List.getElem_mem k2)).below hbel).below hbd
      have c := same15 P1 P2 _ _ _ _ _ lx ly
      rw [snd_at h k k1 k2, sv_self] at c
      have hb1' : b1 < wr.heap.size := Nat.lt_of_lt_of_le hb1 hbel.size
      have hb2' : b2 < wr.heap.size := Nat.lt_of_lt_of_le hb2 hbel.size
      have HB : Hid (Below w.heap.size w wr) := hbel
      clear lx ly hbd hc1 hc2 hbel
      generalize (ps[k]).1 = x at *
      generalize (qs[k]).1 = y at *
      go_wp2_with fail
      go_region_held3 (fun w' => w'.cell? ⟨b1, o1 + k * 5, none⟩ = some (.int .i64 x.R) ∧ w'.cell? ⟨b1, o1 + k * 5 + 1, none⟩ = some (.int .i64 x.Rev) ∧ w'.cell? ⟨b1, o1 + k * 5 + 2, none⟩ = some (.string x.f) ∧ w'.cell? ⟨b1, o1 + k * 5 + 3, none⟩ = some (.slice x.sa x.sn x.sc) ∧ w'.cell? ⟨b1, o1 + k * 5 + 4, none⟩ = some (.slice x.ea x.en x.ec) ∧ w'.cell? ⟨b2, o2 + k * 5, none⟩ = some (.int .i64 y.R) ∧ w'.cell? ⟨b2, o2 + k * 5 + 1, none⟩ = some (.int .i64 y.Rev) ∧ w'.cell? ⟨b2, o2 + k * 5 + 2, none⟩ = some (.string y.f) ∧ w'.cell? ⟨b2, o2 + k * 5 + 3, none⟩ = some (.slice y.sa y.sn y.sc) ∧ w'.cell? ⟨b2, o2 + k * 5 + 4, none⟩ = some (.slice y.ea y.en y.ec))
        (go_keep)
        (first
          | (go_at_call 15; refine c.mono ?_; rintro e w5 ⟨rfl, hb5⟩; obtain ⟨hcl, hfl, z1⟩ := callee_old hb5))
      have hB5 : Below w.heap.size w w5 := HB.out.trans ((Below.trans (b := wr.drew) (Below.refl _ wr).drew hb5).mono HB.out.size)
      clear hcl hfl c hb5
      go_wp2
      go_roundw
      case rel => exact ⟨k + 1, by omega, by go_num, hB5⟩
      case measure => simp [intOf]; omega
    · go_wp2
      go_ret
      exact ⟨rfl, hbel⟩

end Go.Proofs.YtdeojcodbojmoaaGreatDoor
