/- A copy of a row in memory of its own: append(nil, x...); strings.Clone. -/
import Derived.Test.YtdeojcodbojmoaaGreatDoorVw
import Derived.Test.YtdeojcodbojmoaaGreatDoorLib
import Derived.Deep.AppendLies
namespace Go.Proofs.YtdeojcodbojmoaaGreatDoor
open Go.RowKit
set_option maxRecDepth 100000
set_option linter.unusedVariables false

theorem wpList_copy {Pr : Program} (w : World) {P : Nat → Prop} {ops : Array Oper} {rest : List Oper} {o : Oper} {a : Act} {Q : Exit → Act → World → Prop} (hgd : o.guard = none) (s x : Operand) (t : TypeId)
    (ho : o.op = .call { callee := .builtin .append, args := #[s, x], argTypes := #[t, t] })
    (e : TypeId) (i : TypeInfo) (z : Value) (size bytes : Nat) (ht : Pr.underlying t = some (.slice e)) (hi : Pr.info? e = some i) (hz : i.zero = some z)
    (hsize : i.size = size) (hby : i.bytes = bytes) (hzs : z.cells.size = size) (hsz : 0 < size) (hbb : bytes ≤ 1000)
    (ao : Option Addr) (n cap : Nat) (xs : List Value) (hs : a.eval s = .slice none 0 0) (hx : a.eval x = .slice ao n cap) (hr : Rds P w size ao n cap xs) (h1 : ∀ u ∈ xs, u.oneCell' = true)
    (h : ∀ ao' cap' w', Rds (fun b => w.heap.size ≤ b) w' size ao' n cap' xs → Below w.heap.size w w' → wpList Pr ops Q rest (a.put o.dst (.slice ao' n cap')) w') : wpList Pr ops Q (o :: rest) a w := by
  rcases hr with ⟨rfl, rfl, rfl, rfl⟩ | ⟨h0, hc, hn, hl, b, off, rfl, hp, hb, hcells⟩
  · refine wpList_plain hgd fun K hK' => ?_
    have hrun := run_append_owned_none (P := Pr) w w.heap.size t o.type e i size ht hi _ 0 [] (World.ownsRow_nil w w.heap.size e size)
    unfold Oper.wp
    simp [execOp, ho, resolve, invoke, builtin, hs, hx, hrun, Result.andThen]
    exact hK' _ _ (by simpa using h none 0 w (Rds.nil _ _ _) (Below.refl _ _))
  · refine wpList_append_lies w hgd s x t ho w.heap.size e i z size bytes ht hi hz hsize hby hzs hsz (.slice none 0 0) 0 [] hs (World.ownsRow_nil w w.heap.size e size) ⟨b, off, none⟩ n cap xs hx hl (fun j u hu => by rw [Addr.add_lit]; exact hcells j u hu) h1 h0 (by unfold maxLen; omega) ?_ (Nat.le_refl _) w.heap.size rfl ?_
    · have : (0 + n) * bytes ≤ 1000 * 1000 := Nat.mul_le_mul (by omega) hbb
      omega
    · intro g cap' w1 hown hgrow hat hlt
      simp only [Nat.zero_add, List.nil_append] at hown ⊢
      exact h _ cap' w1 (Rds.of_own hown hn (.inl h0)) ⟨hgrow.os, hgrow.tape, hgrow.output, hgrow.size, fun k hk => hgrow.block k hk (by simp [Value.ownBlock])⟩

set_option maxHeartbeats 400000 in
theorem clone77e (w : World) : Calls Tryz.prog 77 #[.string ⟨#[]⟩] w fun e w' => e = .returned (.string ⟨#[]⟩) ∧ w' = w := by
  go_enter Tryz.func77, Tryz.ntmps77
  go_wp2
  go_ret
  exact ⟨rfl, rfl⟩

theorem clone77 (s : ByteArray) (w : World) (hb : s.size ≤ 1000) : Calls Tryz.prog 77 #[.string s] w fun e w' => e = .returned (.string s) ∧ Below w.heap.size w w' := by
  by_cases h0 : 0 < s.size
  · exact clone20 s w h0 hb
  · have e : s = ⟨#[]⟩ := by
      apply ByteArray.ext; apply Array.ext'
      have : s.data.toList.length = s.size := by simp
      exact List.eq_nil_of_length_eq_zero (by omega)
    subst e
    refine (clone77e w).mono ?_
    rintro e w' ⟨rfl, rfl⟩
    exact ⟨rfl, Below.refl _ _⟩

set_option maxHeartbeats 400000 in
theorem clone65 (s : ByteArray) (w : World) (hb : s.size ≤ 1000) : Calls Tryz.prog 65 #[.string s] w fun e w' => e = .returned (.string s) ∧ Below w.heap.size w w' := by
  go_enter Tryz.func65, Tryz.ntmps65
  go_wp2_with (go_at_call 77; refine (clone77 _ _ hb).mono ?_; rintro e w' ⟨rfl, hbel⟩)
  go_ret
  exact ⟨rfl, hbel⟩

theorem Tryz.info45 : (Tryz.prog.info? 45).map (fun i => (i.zero, i.size, i.bytes)) = some (some (.agg #[.int .i64 0, .int .i64 0, .int .i64 0, .int .i64 0]), 4, 32) := by kernel_rfl
theorem Tryz.info3 : (Tryz.prog.info? 3).map (fun i => (i.zero, i.size, i.bytes)) = some (some (.int .i64 0), 1, 8) := by kernel_rfl
theorem Tryz.info25 : (Tryz.prog.info? 25).map (fun i => (i.zero, i.size, i.bytes)) = some (some (.agg #[.int .i64 0, .int .i64 0, .string ⟨#[]⟩, .slice none 0 0, .slice none 0 0]), 5, 80) := by kernel_rfl

theorem hcells_one (l : List Hd) : ∀ u ∈ hcells l, u.oneCell' = true := by
  induction l with
  | nil => intro u hu; cases hu
  | cons h r ih =>
    intro u hu
    simp only [hcells, Hd.vals, List.cons_append, List.nil_append, List.mem_cons] at hu
    rcases hu with rfl | rfl | rfl | rfl | hu
    · rfl
    · rfl
    · rfl
    · rfl
    · exact ih u hu

theorem icells_one (l : List Int) : ∀ u ∈ icells l, u.oneCell' = true := by
  intro u hu
  obtain ⟨_, _, rfl⟩ := List.mem_map.1 hu
  rfl

theorem pcells_one (l : List (Vc × Vw)) : ∀ u ∈ pcells l, u.oneCell' = true := by
  induction l with
  | nil => intro u hu; cases hu
  | cons h r ih =>
    intro u hu
    simp only [pcells, Vc.vals, List.cons_append, List.nil_append, List.mem_cons] at hu
    rcases hu with rfl | rfl | rfl | rfl | rfl | hu
    · rfl
    · rfl
    · rfl
    · rfl
    · rfl
    · exact ih u hu

set_option maxHeartbeats 1000000 in
/-- A view in memory of its own. -/
theorem anew47 (P : Nat → Prop) (c : Vc) (v : Vw) (w : World) (h : Lv P w c v) :
    Calls Tryz.prog 47 #[.agg #[.int .i64 c.R, .int .i64 c.Rev, .string c.f, .slice c.sa c.sn c.sc, .slice c.ea c.en c.ec]] w fun e w' => ∃ c' : Vc, e = .returned (.agg #[.int .i64 c'.R, .int .i64 c'.Rev, .string c'.f, .slice c'.sa c'.sn c'.sc, .slice c'.ea c'.en c'.ec]) ∧ Lv (fun k => w.heap.size ≤ k) w' c' v ∧ Below w.heap.size w w' := by
  obtain ⟨R, Rev, f, sa, sn, sc, ea, en, ec⟩ := c
  obtain ⟨hR, hRev, hf, hfs, hsn, hen, hh, hi⟩ := h
  simp only at hR hRev hf hsn hen hh hi ⊢
  have cl := fun w => clone65 v.f w hfs
  subst hR hRev hf
  have HS : Hid (sn = v.sn.length ∧ en = v.ep.length ∧ v.f.size ≤ 1000) := ⟨hsn, hen, hfs⟩
  have HH : Hid (_ ∧ _) := ⟨hh, hi⟩
  clear hsn hen hh hi hfs
  obtain ⟨i4, k1, k2, k3, k4⟩ := info_parts Tryz.info45
  obtain ⟨i3, m1, m2, m3, m4⟩ := info_parts Tryz.info3
  go_enter Tryz.func47, Tryz.ntmps47
  go_wp2_with fail
  refine (cl _).mono ?_
  rintro e w1 ⟨rfl, hb1⟩
  have hbw : Below w.heap.size w w1 := (((Below.refl _ w).alloc (Nat.le_refl _) _).alloc (by simp) _).trans (hb1.mono (by simp <;> omega))
  have hs1 : w.heap.size + 1 < w1.heap.size := by have := hb1.size; simp at this; omega
  have d1 : ∀ i, w1.cell? ⟨w.heap.size, i, none⟩ = (#[.int .i64 v.R, .int .i64 v.Rev, .string v.f, .slice sa sn sc, .slice ea en ec] : Array Value)[i]? := fun i => by
    rw [hb1.cell (p := ⟨w.heap.size, i, none⟩) (by simp <;> omega), World.cell?_alloc_past _ _ _ (hn := by simp)]; simp
  have d2 : ∀ i, w1.cell? ⟨w.heap.size + 1, i, none⟩ = (#[.int .i64 0, .int .i64 0, .string ⟨#[]⟩, .slice none 0 0, .slice none 0 0] : Array Value)[i]? := fun i => by
    rw [hb1.cell (p := ⟨w.heap.size + 1, i, none⟩) (by simp), World.cell?_alloc_at _ _ _ _ (by simp)]
  have e1 : ∀ i, w1.frozen? ⟨w.heap.size, i, none⟩ = false := fun i => by
    rw [hb1.frozen (p := ⟨w.heap.size, i, none⟩) (by simp <;> omega)]; simp
  have e2 : ∀ i, w1.frozen? ⟨w.heap.size + 1, i, none⟩ = false := fun i => by
    rw [hb1.frozen (p := ⟨w.heap.size + 1, i, none⟩) (by simp)]; simp
  clear cl hb1
  have HB : Hid (Below w.heap.size w w1) := hbw
  clear hbw
  go_wp2_with (at_builtin; refine wpList_copy _ rfl _ _ 22 rfl 45 i4 _ 4 32 Tryz.underlying22 k1 k2 k3 k4 rfl (by decide) (by decide) sa sn sc (hcells v.sn) rfl rfl (HH.out.1.below (HB.out.setCell (Nat.le_refl _) _)) (hcells_one _) ?_)
  intro sa' sc' w2 hr2 hb2
  have HB2 : Hid (Below w.heap.size w w2) := (HB.out.setCell (p := ⟨w.heap.size, 2, none⟩) (Nat.le_refl _) _).trans (hb2.mono (by have := HB.out.size; simpa using this))
  have hs2 : w.heap.size + 1 < w2.heap.size := by have := hb2.size; simp at this; omega
  have d3 : ∀ i, w2.cell? ⟨w.heap.size, i, none⟩ = (#[.int .i64 v.R, .int .i64 v.Rev, .string v.f, .slice sa sn sc, .slice ea en ec] : Array Value)[i]? := fun i => by
    rw [hb2.cell (p := ⟨w.heap.size, i, none⟩) (by simp <;> omega)]
    by_cases hi : i = 2
    · subst hi; exact (World.cell?_setCell_same _ _ _ (u := .string v.f) (d1 2)).trans rfl
    · rw [World.cell?_setCell_other _ _ _ _ (by simp <;> omega)]; exact d1 i
  have d4 : ∀ i, w2.cell? ⟨w.heap.size + 1, i, none⟩ = (#[.int .i64 0, .int .i64 0, .string ⟨#[]⟩, .slice none 0 0, .slice none 0 0] : Array Value)[i]? := fun i => by
    rw [hb2.cell (p := ⟨w.heap.size + 1, i, none⟩) (by simpa using hs1), World.cell?_setCell_other _ _ _ _ (by simp)]; exact d2 i
  have e3 : ∀ i, w2.frozen? ⟨w.heap.size, i, none⟩ = false := fun i => by
    rw [hb2.frozen (p := ⟨w.heap.size, i, none⟩) (by simp <;> omega)]; simpa using e1 i
  have e4 : ∀ i, w2.frozen? ⟨w.heap.size + 1, i, none⟩ = false := fun i => by
    rw [hb2.frozen (p := ⟨w.heap.size + 1, i, none⟩) (by simpa using hs1)]; simpa using e2 i
  have hr2' : Hid (Rds (fun b => w.heap.size + 1 < b) w2 4 sa' sn sc' (hcells v.sn)) := hr2.mono (fun b _ hb => by have hb' : w1.heap.size ≤ b := hb; omega)
  clear hb2 hr2 d1 d2 e1 e2 hs1
  go_wp2_with (at_builtin; refine wpList_copy _ rfl _ _ 23 rfl 3 i3 _ 1 8 Tryz.underlying23 m1 m2 m3 m4 rfl (by decide) (by decide) ea en ec (icells v.ep) rfl rfl (HH.out.2.below (HB2.out.setCell (Nat.le_refl _) _)) (icells_one _) ?_)
  intro ea' ec' w3 hr3 hb3
  have HB3 : Hid (Below w.heap.size w w3) := (HB2.out.setCell (p := ⟨w.heap.size, 3, none⟩) (Nat.le_refl _) _).trans (hb3.mono (by have := HB2.out.size; simpa using this))
  have hs3 : w.heap.size + 1 < w3.heap.size := by have := hb3.size; simp at this; omega
  have d5 : ∀ i, w3.cell? ⟨w.heap.size, i, none⟩ = (#[.int .i64 v.R, .int .i64 v.Rev, .string v.f, .slice sa' sn sc', .slice ea en ec] : Array Value)[i]? := fun i => by
    rw [hb3.cell (p := ⟨w.heap.size, i, none⟩) (by simp <;> omega)]
    by_cases hi : i = 3
    · subst hi; exact (World.cell?_setCell_same _ _ _ (u := .slice sa sn sc) (d3 3)).trans rfl
    · rw [World.cell?_setCell_other _ _ _ _ (by simp <;> omega), d3 i]
      match i, hi with
      | 0, _ => rfl
      | 1, _ => rfl
      | 2, _ => rfl
      | 4, _ => rfl
      | n + 5, _ => rfl
  have d6 : ∀ i, w3.cell? ⟨w.heap.size + 1, i, none⟩ = (#[.int .i64 0, .int .i64 0, .string ⟨#[]⟩, .slice none 0 0, .slice none 0 0] : Array Value)[i]? := fun i => by
    rw [hb3.cell (p := ⟨w.heap.size + 1, i, none⟩) (by simpa using hs2), World.cell?_setCell_other _ _ _ _ (by simp)]; exact d4 i
  have e5 : ∀ i, w3.frozen? ⟨w.heap.size, i, none⟩ = false := fun i => by
    rw [hb3.frozen (p := ⟨w.heap.size, i, none⟩) (by simp <;> omega)]; simpa using e3 i
  have e6 : ∀ i, w3.frozen? ⟨w.heap.size + 1, i, none⟩ = false := fun i => by
    rw [hb3.frozen (p := ⟨w.heap.size + 1, i, none⟩) (by simpa using hs2)]; simpa using e4 i
  have HR : Hid (Rds (fun b => w.heap.size + 1 < b) w3 4 sa' sn sc' (hcells v.sn) ∧ Rds (fun b => w.heap.size + 1 < b) w3 1 ea' en ec' (icells v.ep)) := by
    refine ⟨(hr2'.out.kept ((Kept.refl _ w2).setCell (p := ⟨w.heap.size, 3, none⟩) (fun k hk hp => by show k ≠ w.heap.size; have hp' : w.heap.size + 1 < k := hp; omega) (.slice sa' sn sc'))).kept (Kept.of_below (by simpa using hb3)), hr3.mono (fun b _ hb => by have hb' : w2.heap.size ≤ b := hb; omega)⟩
  clear hb3 hr3 d3 d4 e3 e4 hs2 HB HB2 HH hr2'
  go_wp2_with fail
  refine bodyPost_ret (v := .agg #[.int .i64 v.R, .int .i64 v.Rev, .string v.f, .slice sa' sn sc', .slice ea' en ec']) (by simp [results, Tryz.results47, go_sem, d6]) rfl ⟨⟨v.R, v.Rev, v.f, sa', sn, sc', ea', en, ec'⟩, rfl, ?_, ?_⟩
  · have hk : Kept (fun b => w.heap.size + 1 < b) w3 ((((((w3.setCell ⟨w.heap.size, 4, none⟩ (.slice ea' en ec')).setCell ⟨w.heap.size + 1, 0, none⟩ (.int .i64 v.R)).setCell ⟨w.heap.size + 1, 1, none⟩ (.int .i64 v.Rev)).setCell ⟨w.heap.size + 1, 2, none⟩ (.string v.f)).setCell ⟨w.heap.size + 1, 3, none⟩ (.slice sa' sn sc')).setCell ⟨w.heap.size + 1, 4, none⟩ (.slice ea' en ec')) := by
      have g : ∀ k, w.heap.size + 1 < k → k ≠ w.heap.size ∧ k ≠ w.heap.size + 1 := fun k hk => by omega
      exact ((((((Kept.refl _ w3).setCell (fun k _ hp => (g k hp).1) _).setCell (fun k _ hp => (g k hp).2) _).setCell (fun k _ hp => (g k hp).2) _).setCell (fun k _ hp => (g k hp).2) _).setCell (fun k _ hp => (g k hp).2) _).setCell (fun k _ hp => (g k hp).2) _
    obtain ⟨hS, hE, hF⟩ := HS.out
    have hm : ∀ b : Nat, w.heap.size + 1 < b → w.heap.size ≤ b := fun b hb => by omega
    exact ⟨rfl, rfl, rfl, hF, hS, hE, (HR.out.1.kept hk).mono (fun b _ hb => hm b hb), (HR.out.2.kept hk).mono (fun b _ hb => hm b hb)⟩
  · exact (((((HB3.out.setCell (Nat.le_refl _) _).setCell (Nat.le_succ _) _).setCell (Nat.le_succ _) _).setCell (Nat.le_succ _) _).setCell (Nat.le_succ _) _).setCell (Nat.le_succ _) _

end Go.Proofs.YtdeojcodbojmoaaGreatDoor
