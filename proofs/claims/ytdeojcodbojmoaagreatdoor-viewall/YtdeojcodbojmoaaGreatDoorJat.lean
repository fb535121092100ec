/- Rows of views out of numbers. -/
/- Rows of views out of numbers. -/
import Derived.Test.YtdeojcodbojmoaaGreatDoorJaq
import Derived.Test.YtdeojcodbojmoaaGreatDoorJaj
import Derived.Deep.RegionLaw
namespace Go.Proofs.YtdeojcodbojmoaaGreatDoor
open Go.RowKit
set_option maxRecDepth 100000
set_option linter.unusedVariables false

/-- What a view out of numbers is. -/
structure Gd (n i : Nat) (v : Vw) : Prop where
  R : v.R = (i : Int) + 1
  lo : 0 ≤ v.Rev
  hi : v.Rev ≤ 3
  none : v.Rev = 0 → v.f = ⟨#[]⟩ ∧ v.sn = [] ∧ v.ep = []
  some : 0 < v.Rev → v.f ∈ wants ∧ v.ep.length = n ∧ (∀ e ∈ v.ep, 0 ≤ e ∧ e ≤ 3) ∧ ∃ it L R N, (1 ≤ it ∧ it ≤ 6 ∧ 1 ≤ L ∧ L ≤ 9 ∧ 1 ≤ R ∧ R ≤ 3 ∧ 1 ≤ N ∧ N ≤ L) ∧ v.sn = [⟨it, L, R, N⟩]

/-- A slice that is not empty lies in a block from lo on, below hi. -/
def Bl (ao : Option Addr) (n lo hi : Nat) : Prop := 0 < n → ∃ b off, ao = Option.some ⟨b, off, Option.none⟩ ∧ lo ≤ b ∧ b < hi

/-- Views whose lists lie one behind the other. -/
def Sep : Nat → List (Vc × Vw) → Nat → Prop
  | lo, [], hi => lo ≤ hi
  | lo, p :: r, hi => ∃ m1 m2, lo ≤ m1 ∧ m1 ≤ m2 ∧ Bl p.1.sa p.1.sn lo m1 ∧ Bl p.1.ea p.1.en m1 m2 ∧ Sep m2 r hi

theorem Sep.snoc {qs : List (Vc × Vw)} {p : Vc × Vw} : ∀ {lo hi m0 m1 m2 : Nat}, Sep lo qs hi → hi ≤ m0 → m0 ≤ m1 → m1 ≤ m2 → Bl p.1.sa p.1.sn m0 m1 → Bl p.1.ea p.1.en m1 m2 → Sep lo (qs ++ [p]) m2 := by
  induction qs with
  | nil =>
    intro lo hi m0 m1 m2 h h0 h1 h2 b1 b2
    have h' : lo ≤ hi := h
    refine ⟨m1, m2, by omega, h2, fun hn => ?_, b2, Nat.le_refl _⟩
    obtain ⟨b, off, e, h3, h4⟩ := b1 hn
    exact ⟨b, off, e, by omega, h4⟩
  | cons q r ih =>
    rintro lo hi m0 m1 m2 ⟨k1, k2, a1, a2, a3, a4, a5⟩ h0 h1 h2 b1 b2
    exact ⟨k1, k2, a1, a2, a3, a4, ih a5 h0 h1 h2 b1 b2⟩

theorem own_kept {P : Nat → Prop} {w w' : World} {base : Nat} {e : TypeId} {size : Nat} {v : Value} {n : Nat} {xs : List Value} (h : w.ownsRow base e size v n xs) (hb : Kept P w w') (hp : ∀ g, v.ownBlock = Option.some g → base ≤ g → P g) : w'.ownsRow base e size v n xs := by
  obtain ⟨h1, h2⟩ := h
  refine ⟨h1, ?_⟩
  rcases h2 with h2 | ⟨g, cap, cur, hv, hg, hh, r⟩
  · exact Or.inl h2
  · have hlt : g < w.heap.size := by
      by_cases hlt : g < w.heap.size
      · exact hlt
      · rw [Array.getElem?_eq_none (by omega)] at hh; cases hh
    exact Or.inr ⟨g, cap, cur, hv, hg, by rw [hb.block g hlt (hp g (by rw [hv]; rfl) hg)]; exact hh, r⟩

theorem inner_step {pb vb m6 : Nat} {U wr w7 w8 : World} {c0 c1 c2 c3 : Value} {eo : Option Addr} {ec j gg cap7 : Nat} {eps : List Int} {r : Int} {ob : Obj} (hpv : pb < vb) (hvm : vb < m6) (hm : m6 ≤ wr.heap.size)
    (hke : Kept (fun x => x ≠ pb ∧ x ≠ vb ∧ x < m6) U wr) (vx : ∀ i, wr.cell? ⟨vb, i, none⟩ = (#[c0, c1, c2, c3, .slice eo j ec] : Array Value)[i]?) (yx : ∀ i, wr.frozen? ⟨vb, i, none⟩ = false)
    (hw7 : Went pb wr.drew w7) (hown7 : w7.ownsRow m6 3 1 (.slice eo j ec) j (icells eps)) (hown8 : w8.ownsRow m6 3 1 (.slice (some ⟨gg, 0, none⟩) (j + 1) cap7) (j + 1) (icells eps ++ [.int .i64 r])) (hgrow : (w7.alloc ob).grownBy w8 (Value.slice eo j ec).ownBlock) (X : World) (hX : X = w8.setCell ⟨vb, 4, none⟩ (.slice (some ⟨gg, 0, none⟩) (j + 1) cap7)) :
    X.ownsRow m6 3 1 (.slice (some ⟨gg, 0, none⟩) (j + 1) cap7) (j + 1) (icells (eps ++ [r])) ∧ Kept (fun x => x ≠ pb ∧ x ≠ vb ∧ x < m6) U X ∧ (∀ i, X.cell? ⟨vb, i, none⟩ = (#[c0, c1, c2, c3, .slice (some ⟨gg, 0, none⟩) (j + 1) cap7] : Array Value)[i]?) ∧ (∀ i, X.frozen? ⟨vb, i, none⟩ = false) ∧ Pick X pb ∧ m6 ≤ X.heap.size := by
  have hd : wr.drew.heap.size = wr.heap.size := rfl
  have h7 : m6 ≤ w7.heap.size := Nat.le_trans hm hw7.2.size
  have hlt := own_lt hown7
  have ag : ∀ x, x < m6 → some x ≠ (Value.slice eo j ec).ownBlock := fun x hx e => by have := (hlt x e.symm).1; omega
  have k8 : Kept (fun x => x < m6) w7 w8 := ((Kept.refl _ w7).alloc ob).trans (Kept.grown hgrow (fun x hx => ag x hx))
  have hv7 : vb < w7.heap.size := by omega
  have c8 : ∀ i, w8.cell? ⟨vb, i, none⟩ = wr.cell? ⟨vb, i, none⟩ := fun i => (k8.cell hv7 hvm).trans (hw7.cell (by omega) hpv)
  have z8 : ∀ i, w8.frozen? ⟨vb, i, none⟩ = wr.frozen? ⟨vb, i, none⟩ := fun i => (k8.frozen hv7 hvm).trans (hw7.frozen (by omega) hpv)
  have h8 : m6 ≤ w8.heap.size := Nat.le_trans h7 k8.size
  have p8 : Below (pb + 1) w7 w8 := k8.below (by omega) (fun k hk => by omega)
  subst hX
  refine ⟨?_, ?_, ?_, ?_, ?_, ?_⟩
  · have e : icells (eps ++ [r]) = icells eps ++ [.int .i64 r] := by simp [icells]
    rw [e]
    exact own_kept (P := fun x => x ≠ vb) hown8 ((Kept.refl _ w8).setCell (p := ⟨vb, 4, none⟩) (fun x _ hx => hx) _) (fun x _ hx => by omega)
  · have a1 : Kept (fun x => x ≠ pb ∧ x ≠ vb ∧ x < m6) wr w7 := by
      have a0 : Kept (fun x => x ≠ pb ∧ x ≠ vb ∧ x < m6) wr.drew w7 := hw7.2.mono (fun k _ h => h.1)
      exact ⟨a0.os, a0.tape, a0.output, a0.size, a0.block⟩
    have a2 : Kept (fun x => x ≠ pb ∧ x ≠ vb ∧ x < m6) w7 w8 := k8.mono (fun k _ h => h.2.2)
    exact hke.trans ((a1.trans a2).setCell (p := ⟨vb, 4, none⟩) (fun k hk h => h.2.1) _)
  · intro i
    by_cases hi : i = 4
    · subst hi; exact (World.cell?_setCell_same _ _ _ (u := .slice eo j ec) ((c8 4).trans (vx 4))).trans rfl
    · rw [World.cell?_setCell_other _ _ _ _ (by simp <;> omega), c8, vx i]
      match i, hi with
      | 0, _ => rfl
      | 1, _ => rfl
      | 2, _ => rfl
      | 3, _ => rfl
      | n + 5, _ => rfl
  · intro i
    have := z8 i
    rw [yx i] at this
    simpa using this
  · exact (hw7.1.below p8).below ((Below.refl _ w8).setCell (by show pb + 1 ≤ vb; omega) _)
  · simpa using h8

/-- What is known of the row so far. -/
def Rw (w wr : World) (n k : Nat) (o : Option Addr) (oc : Nat) (qs : List (Vc × Vw)) : Prop :=
  qs.length = k ∧ wr.ownsRow w.heap.size 25 5 (.slice o k oc) k (pcells qs) ∧ Lvs (fun k' => w.heap.size ≤ k' ∧ Far (.slice o k oc) k') wr qs ∧ (∀ i (h : i < qs.length), Gd n i (qs[i]).2) ∧ Sep w.heap.size qs wr.heap.size

theorem outer_step {pb n k : Nat} {w wr Y w9 : World} {o : Option Addr} {oc g' cap' m1 : Nat} {qs : List (Vc × Vw)} {c : Vc} {v : Vw} {ob : Obj} (hpb : pb < w.heap.size) (hwent : Went pb w wr) (hq : Rw w wr n k o oc qs)
    (hK : Kept (fun x => x ≠ pb ∧ x < wr.heap.size) wr Y) (hpY : Pick Y pb) (lv : Lv (fun x => wr.heap.size ≤ x) Y c v) (hm1 : wr.heap.size ≤ m1) (hm2 : m1 ≤ Y.heap.size) (b1 : Bl c.sa c.sn wr.heap.size m1) (b2 : Bl c.ea c.en m1 Y.heap.size) (hG : Gd n k v)
    (hown' : w9.ownsRow w.heap.size 25 5 (.slice (some ⟨g', 0, none⟩) (k + 1) cap') (k + 1) (pcells qs ++ c.vals)) (hgrow : (Y.alloc ob).grownBy w9 (Value.slice o k oc).ownBlock) (hat : (Value.slice o k oc).ownBlock = some g' ∨ g' = Y.heap.size + 1) :
    Rw w w9 n (k + 1) (some ⟨g', 0, none⟩) cap' (qs ++ [(c, v)]) ∧ Went pb w w9 := by
  obtain ⟨h1, h2, h3, h4, h5⟩ := hq
  have hlt := own_lt h2
  have hsw := hwent.2.size
  have hYs : wr.heap.size ≤ Y.heap.size := hK.size
  have kY : Kept (fun x => x ≠ pb ∧ x < wr.heap.size) wr (Y.alloc ob) := hK.alloc ob
  have sz : (Y.alloc ob).heap.size = Y.heap.size + 1 := by simp
  have k9 : Kept (fun x => some x ≠ (Value.slice o k oc).ownBlock) Y w9 := ((Kept.refl _ Y).alloc ob).trans (Kept.grown hgrow (fun x hx => hx))
  refine ⟨⟨by simp [h1], ?_, ?_, ?_, ?_⟩, ?_⟩
  · rw [pcells_append]
    have e : pcells [(c, v)] = c.vals := by simp [pcells]
    rw [e]
    exact hown'
  · have hfar : ∀ b, (w.heap.size ≤ b ∧ Far (.slice o k oc) b) → b < Y.heap.size → w.heap.size ≤ b ∧ Far (.slice (some ⟨g', 0, none⟩) (k + 1) cap') b := by
      rintro b ⟨hb1, hb2⟩ hb3
      refine ⟨hb1, fun e => ?_⟩
      have e' : b = g' := by simpa [Value.ownBlock] using e
      subst e'
      rcases hat with hat | hat
      · exact hb2 hat.symm
      · omega
    refine Lvs.append ?_ ?_
    · intro p hp
      have l1 : Lv (fun b => (w.heap.size ≤ b ∧ Far (.slice o k oc) b) ∧ b < wr.heap.size) wr p.1 p.2 := (h3 p hp).mono (fun b hb h => ⟨h, hb⟩)
      have kk : Kept (fun b => (w.heap.size ≤ b ∧ Far (.slice o k oc) b) ∧ b < wr.heap.size) wr w9 := (hK.mono (fun b _ h => ⟨by omega, h.2⟩)).trans (k9.mono (fun b _ h => h.1.2))
      exact (l1.kept kk).mono (fun b _ h => hfar b h.1 (by omega))
    · intro p hp
      simp only [List.mem_singleton] at hp
      subst hp
      have l1 : Lv (fun b => wr.heap.size ≤ b ∧ b < Y.heap.size) Y c v := lv.mono (fun b hb h => ⟨h, hb⟩)
      have hne : ∀ b, wr.heap.size ≤ b → some b ≠ (Value.slice o k oc).ownBlock := fun b hb e => by have := (hlt b e.symm).2; omega
      exact (l1.kept (k9.mono (fun b _ h => hne b h.1))).mono (fun b _ h => hfar b ⟨by omega, hne b h.1⟩ h.2)
  · intro i hi
    by_cases hik : i < qs.length
    · rw [List.getElem_append_left hik]; exact h4 i hik
    · have e : i = qs.length := by simp at hi; omega
      subst e
      simp only [List.getElem_concat_length]
      rw [h1]; exact hG
  · have s9 : Y.heap.size ≤ w9.heap.size := k9.size
    refine h5.snoc (Nat.le_refl _) hm1 (by omega) b1 (fun hn => ?_)
    obtain ⟨b, off, e, h6, h7⟩ := b2 hn
    exact ⟨b, off, e, h6, by omega⟩
  · have hb0 : ∀ b, b < w.heap.size → some b ≠ (Value.slice o k oc).ownBlock := fun b hb e => by have := (hlt b e.symm).1; omega
    refine ⟨?_, ?_⟩
    · exact hpY.below ((k9.below (B := pb + 1) (by omega) (fun k hk => hb0 k (by omega))))
    · refine (Kept.trans (P := fun x => x ≠ pb ∧ x < w.heap.size) (hwent.2.mono (fun x _ h => h.1)) ((hK.mono (fun x _ h => ⟨h.1, by omega⟩)).trans (k9.mono (fun x _ h => hb0 x h.2)))).mono (fun x hx h => ⟨h, hx⟩)

end Go.Proofs.YtdeojcodbojmoaaGreatDoor
namespace Go.Proofs.YtdeojcodbojmoaaGreatDoor
open Go.RowKit
set_option maxRecDepth 100000
set_option linter.unusedVariables false

set_option maxHeartbeats 4000000 in
theorem views11 (pb n : Nat) (w : World) (hp : Pick w pb) (hn1 : 1 ≤ n) (hn5 : n ≤ 5) :
    Calls Tryz.prog 11 #[.pointer (some ⟨pb, 0, none⟩), .int .i64 n] w fun e w' => ∃ o oc ps, e = .returned (.slice o n oc) ∧ List.length ps = n ∧ w'.ownsRow w.heap.size 25 5 (.slice o n oc) n (pcells ps) ∧ Lvs (fun k => w.heap.size ≤ k ∧ Far (.slice o n oc) k) w' ps ∧ (∀ i (h : i < ps.length), Gd n i (ps[i]).2) ∧ Sep w.heap.size ps w'.heap.size ∧ Went pb w w' := by
  have hlt := hp.lt
  go_enter Tryz.func11, Tryz.ntmps11
  go_wp2_with fail
  go_loopw [5, 6] (fun v i wr => ∃ (k : Nat) (o : Option Addr) (oc : Nat) (qs : List (Vc × Vw)), k ≤ n ∧ i = .int .i64 ((k : Int) + 1) ∧ v = .slice o k oc ∧ Hid (Rw w wr n k o oc qs) ∧ Went pb w wr) (fun _ i _ => n + 1 - (intOf i).toNat)
  case atStart => exact ⟨0, none, 0, [], Nat.zero_le _, rfl, rfl, ⟨rfl, World.ownsRow_nil _ _ _ _, fun p hp => (List.not_mem_nil hp).elim, fun i h => absurd h (by simp), Nat.le_refl _⟩, Went.refl hp⟩
  case round =>
    obtain ⟨k, o, oc, qs, hk, rfl, rfl, HQ, hwent⟩ := hrel
    obtain ⟨V0, hV0⟩ : ∃ V0, V0 = wr := ⟨_, rfl⟩
    subst hV0
    have hsV : w.heap.size ≤ V0.heap.size := hwent.2.size
    have HWt : Hid (Went pb w V0) := hwent
    by_cases hkn : k < n
    · have hg1 : decide ((k : Int) + 1 ≤ (n : Int)) = true := decide_eq_true (by omega)
      go_wp2_with fail
      refine (num_any pb 4 _ (by omega) (by omega) hwent.1).mono ?_
      rintro e w1 ⟨q, hq, rfl, hw1⟩
      have hwent1 := hwent.trans hw1
      have HW1 : Hid (Went pb V0 w1) := hw1
      have hs01 : V0.heap.size ≤ w1.heap.size := hw1.2.size
      have hs1 : w.heap.size ≤ w1.heap.size := hwent1.2.size
      clear hw1
      by_cases hq0 : q = 0
      · subst hq0
        obtain ⟨i25, k1, k2, k3, k4⟩ := info_parts Tryz.info25
        have HKY : Hid (Kept (fun x => x ≠ pb ∧ x < V0.heap.size) V0 (w1.alloc (.cells #[.int .i64 ((k : Int) + 1), .int .i64 0, .string ⟨#[]⟩, .slice none 0 0, .slice none 0 0] 25))) := Kept.alloc (HW1.out.2.mono (fun x _ h => h.1)) _
        have hpY : Pick (w1.alloc (.cells #[.int .i64 ((k : Int) + 1), .int .i64 0, .string ⟨#[]⟩, .slice none 0 0, .slice none 0 0] 25)) pb := (HW1.out.alloc _).1
        have HLV : Hid (Lv (fun x => V0.heap.size ≤ x) (w1.alloc (.cells #[.int .i64 ((k : Int) + 1), .int .i64 0, .string ⟨#[]⟩, .slice none 0 0, .slice none 0 0] 25)) ⟨(k : Int) + 1, 0, ⟨#[]⟩, none, 0, 0, none, 0, 0⟩ ⟨(k : Int) + 1, 0, ⟨#[]⟩, [], []⟩ ∧ Bl none 0 V0.heap.size w1.heap.size ∧ Bl none 0 w1.heap.size ((w1.alloc (.cells #[.int .i64 ((k : Int) + 1), .int .i64 0, .string ⟨#[]⟩, .slice none 0 0, .slice none 0 0] 25))).heap.size ∧ Gd n k ⟨(k : Int) + 1, 0, ⟨#[]⟩, [], []⟩) := by
          have z1 : (⟨#[]⟩ : ByteArray).size ≤ 1000 := by decide
          have z2 : (0 : Int) ≤ 3 := by decide
          have z3 : ¬ (0 : Int) < 0 := by decide
          exact ⟨⟨rfl, rfl, rfl, z1, rfl, rfl, Rds.nil _ _ _, Rds.nil _ _ _⟩, fun h => by omega, fun h => by omega, ⟨rfl, Int.le_refl _, z2, fun _ => ⟨rfl, rfl, rfl⟩, fun h => absurd h z3⟩⟩
        have hoY : ((w1.alloc (.cells #[.int .i64 ((k : Int) + 1), .int .i64 0, .string ⟨#[]⟩, .slice none 0 0, .slice none 0 0] 25))).ownsRow w.heap.size 25 5 (.slice o k oc) k (pcells qs) := own_kept HQ.out.2.1 HKY.out (fun x hx _ => ⟨by have := (own_lt HQ.out.2.1 x hx).1; omega, (own_lt HQ.out.2.1 x hx).2⟩)
        have HoY : Hid _ := hoY
        clear hoY
        go_wp2_with (at_builtin; refine wpList_append_lies _ rfl _ _ 31 rfl w.heap.size 25 i25 _ 5 80 Tryz.underlying31 k1 k2 k3 k4 rfl (by decide) (.slice o k oc) _ (pcells qs) rfl (World.ownsRow.alloc HoY.out _) ⟨w1.heap.size + 1, 0, none⟩ 1 1 (Vc.vals ⟨(k : Int) + 1, 0, ⟨#[]⟩, none, 0, 0, none, 0, 0⟩) rfl rfl ?c1 ?c2 (by decide) ?c3 ?c4 ?c5 (w1.heap.size + 1 + 1) (by simp) ?_)
        case c1 =>
          intro j u hj
          match j, hj with
          | 0, hj => simp [Vc.vals] at hj; subst hj; simp [Addr.add]
          | 1, hj => simp [Vc.vals] at hj; subst hj; simp [Addr.add]
          | 2, hj => simp [Vc.vals] at hj; subst hj; simp [Addr.add]
          | 3, hj => simp [Vc.vals] at hj; subst hj; simp [Addr.add]
          | 4, hj => simp [Vc.vals] at hj; subst hj; simp [Addr.add]
        case c2 => intro u hu; simp [Vc.vals] at hu; rcases hu with rfl | rfl | rfl | rfl | rfl <;> rfl
        case c3 => unfold maxLen; omega
        case c4 => omega
        case c5 => simp; omega
        intro g' cap' w9 hown9 hgrow hat hlt9
        have hm : w1.heap.size ≤ ((w1.alloc (.cells #[.int .i64 ((k : Int) + 1), .int .i64 0, .string ⟨#[]⟩, .slice none 0 0, .slice none 0 0] 25))).heap.size := by simp
        have hz := outer_step (m1 := w1.heap.size) hlt HWt.out HQ.out HKY.out hpY HLV.out.1 hs01 hm HLV.out.2.1 HLV.out.2.2.1 HLV.out.2.2.2 hown9 hgrow (by simpa using hat)
        have HF : Hid (Rw w w9 n (k + 1) (some ⟨g', 0, none⟩) cap' (qs ++ [(⟨(k : Int) + 1, 0, ⟨#[]⟩, none, 0, 0, none, 0, 0⟩, ⟨(k : Int) + 1, 0, ⟨#[]⟩, [], []⟩)])) := hz.1
        have HG : Went pb w w9 := hz.2
        clear hown9 hgrow hat HLV HKY HQ HWt HoY hz
        go_wp2
        go_roundw
        case rel => exact ⟨k + 1, some ⟨g', 0, none⟩, cap', _, by omega, by go_num, rfl, HF, HG⟩
        case measure => simp [intOf]; omega
      · have hqp : decide ((0 : Int) < (q : Int)) = true := decide_eq_true (by omega)
        go_wp2_with fail
        have hW2 : Went pb w1 (w1.alloc (.cells #[.int .i64 ((k : Int) + 1), .int .i64 q, .string ⟨#[]⟩, .slice none 0 0, .slice none 0 0] 25)) := (Went.refl hwent1.1).alloc _
        refine (want23 pb _ hW2.1).mono ?_
        rintro e w2 ⟨t, ht, rfl, hw2⟩
        go_wp2_with fail
        refine (num_any pb 6 _ (by omega) (by omega) hw2.1).mono ?_
        rintro e w3 ⟨z0, hz0, rfl, hw3⟩
        go_wp2_with fail
        refine (num_any pb 9 _ (by omega) (by omega) hw3.1).mono ?_
        rintro e w4 ⟨z1, hz1, rfl, hw4⟩
        go_wp2_with fail
        refine (num_any pb 3 _ (by omega) (by omega) hw4.1).mono ?_
        rintro e w5 ⟨z2, hz2, rfl, hw5⟩
        have hw15 : Went pb w1 w5 := hW2.trans (hw2.trans (hw3.trans (hw4.trans hw5)))
        have hw25 : Went pb (w1.alloc (.cells #[.int .i64 ((k : Int) + 1), .int .i64 q, .string ⟨#[]⟩, .slice none 0 0, .slice none 0 0] 25)) w5 := hw2.trans (hw3.trans (hw4.trans hw5))
        have hpb1 : pb < w1.heap.size := by omega
        have hs5 : w1.heap.size < w5.heap.size := by have := hw25.2.size; simp at this; omega
        have v5 : ∀ i, w5.cell? ⟨w1.heap.size, i, none⟩ = (#[.int .i64 ((k : Int) + 1), .int .i64 q, .string ⟨#[]⟩, .slice none 0 0, .slice none 0 0] : Array Value)[i]? := fun i => by rw [hw25.cell (by simp) hpb1]; simp
        have y5 : ∀ i, w5.frozen? ⟨w1.heap.size, i, none⟩ = false := fun i => by rw [hw25.frozen (by simp) hpb1]; simp
        have HW5 : Hid (Went pb w1 w5) := hw15
        have hc5 := heads24 (w5.alloc (.cells #[.int .u8 z0, .int .u8 z1, .int .u8 z2, .int .u8 1] 5)) w5.heap.size z0 z1 z2 1 4 (by simp) (by simp) (by simp) (by simp) (by simp) (by omega) (by omega) (by omega) (by omega)
        clear hw2 hw3 hw4 hw5 hw15 hw25 hW2
        go_wp2_with fail
        refine hc5.mono ?_
        rintro e w6 ⟨g, c, it, L, R, N', b1, b2, b3, b4, b5, b6, b7, b8, rfl, hown6, hb6⟩
        clear hc5
        have hs6 : w5.heap.size + 1 ≤ w6.heap.size := by have := hb6.size; simp at this; omega
        have v6 : ∀ i, w6.cell? ⟨w1.heap.size, i, none⟩ = (#[.int .i64 ((k : Int) + 1), .int .i64 q, .string ⟨#[]⟩, .slice none 0 0, .slice none 0 0] : Array Value)[i]? := fun i => by
          rw [hb6.cell (p := ⟨w1.heap.size, i, none⟩) (by simp; omega), World.cell?_alloc_past _ _ _ (hn := hs5)]; exact v5 i
        have y6 : ∀ i, w6.frozen? ⟨w1.heap.size, i, none⟩ = false := fun i => by
          rw [hb6.frozen (p := ⟨w1.heap.size, i, none⟩) (by simp; omega), World.frozen?_alloc_past _ _ _ (hn := hs5)]; exact y5 i
        have HW6 : Hid (Went pb w1 w6) := by
          refine ⟨?_, ?_⟩
          · exact (HW5.out.alloc _).1.below (hb6.mono (by simp; omega))
          · exact (HW5.out.alloc _).2.trans (Kept.of_below hb6)
        have HO6 : Hid (w6.ownsRow (w5.heap.size + 1) 45 4 (.slice (some ⟨g, 0, none⟩) 1 c) 1 (hcells [⟨it, L, R, N'⟩])) := by
          have := hown6
          simp only [World.size_alloc] at this
          exact this
        clear v5 y5 hb6 hown6 HW5
        go_wp2_with fail
        obtain ⟨U, hU⟩ : ∃ U, U = (w6.setCell ⟨w1.heap.size, 2, none⟩ (.string t)).setCell ⟨w1.heap.size, 3, none⟩ (.slice (some ⟨g, 0, none⟩) 1 c) := ⟨_, rfl⟩
        rw [← hU]
        have hUs : U.heap.size = w6.heap.size := by rw [hU]; simp
        have vU : ∀ i, U.cell? ⟨w1.heap.size, i, none⟩ = (#[.int .i64 ((k : Int) + 1), .int .i64 q, .string t, .slice (some ⟨g, 0, none⟩) 1 c, .slice none 0 0] : Array Value)[i]? := fun i => by
          rw [hU]
          match i with
          | 0 => rw [World.cell?_setCell_other _ _ _ _ (by simp), World.cell?_setCell_other _ _ _ _ (by simp)]; exact v6 0
          | 1 => rw [World.cell?_setCell_other _ _ _ _ (by simp), World.cell?_setCell_other _ _ _ _ (by simp)]; exact v6 1
          | 2 => rw [World.cell?_setCell_other _ _ _ _ (by simp)]; exact (World.cell?_setCell_same _ _ _ (u := .string ⟨#[]⟩) (v6 2)).trans rfl
          | 3 => exact (World.cell?_setCell_same _ _ _ (u := .slice none 0 0) (by rw [World.cell?_setCell_other _ _ _ _ (by simp)]; exact v6 3)).trans rfl
          | 4 => rw [World.cell?_setCell_other _ _ _ _ (by simp), World.cell?_setCell_other _ _ _ _ (by simp)]; exact v6 4
          | m + 5 => rw [World.cell?_setCell_other _ _ _ _ (by simp), World.cell?_setCell_other _ _ _ _ (by simp)]; exact v6 (m + 5)
        have yU : ∀ i, U.frozen? ⟨w1.heap.size, i, none⟩ = false := fun i => by rw [hU]; simpa using y6 i
        have HU : Hid (Went pb w1 U ∧ U.ownsRow (w5.heap.size + 1) 45 4 (.slice (some ⟨g, 0, none⟩) 1 c) 1 (hcells [⟨it, L, R, N'⟩])) := by
          refine ⟨by rw [hU]; exact (HW6.out.setCell (p := ⟨w1.heap.size, 2, none⟩) (Nat.le_refl _) hpb1 _).setCell (p := ⟨w1.heap.size, 3, none⟩) (Nat.le_refl _) hpb1 _, ?_⟩
          refine own_kept (P := fun x => x ≠ w1.heap.size) HO6.out ?_ (fun x _ hx => by omega)
          rw [hU]
          exact ((Kept.refl _ w6).setCell (p := ⟨w1.heap.size, 2, none⟩) (fun x _ hx => hx) _).setCell (p := ⟨w1.heap.size, 3, none⟩) (fun x _ hx => hx) _
        have hpU : Pick U pb := HU.out.1.1
        have hs16 : w1.heap.size < w6.heap.size := by omega
        clear hU v6 y6 HO6 HW6
        go_loopw [8] (fun i wx => ∃ (j : Nat) (eo : Option Addr) (ec : Nat) (eps : List Int), j ≤ n ∧ i = .int .i64 j ∧ Hid (eps.length = j ∧ (∀ e ∈ eps, 0 ≤ e ∧ e ≤ 3) ∧ wx.ownsRow w6.heap.size 3 1 (.slice eo j ec) j (icells eps) ∧ Kept (fun x => x ≠ pb ∧ x ≠ w1.heap.size ∧ x < w6.heap.size) U wx) ∧
            (∀ i, wx.cell? ⟨w1.heap.size, i, none⟩ = (#[.int .i64 ((k : Int) + 1), .int .i64 q, .string t, .slice (some ⟨g, 0, none⟩) 1 c, .slice eo j ec] : Array Value)[i]?) ∧ (∀ i, wx.frozen? ⟨w1.heap.size, i, none⟩ = false) ∧ Pick wx pb ∧ w6.heap.size ≤ wx.heap.size) (fun i _ => n - (intOf i).toNat)
        case atStart => exact ⟨0, none, 0, [], Nat.zero_le _, rfl, ⟨rfl, fun e he => (List.not_mem_nil he).elim, World.ownsRow_nil _ _ _ _, Kept.refl _ _⟩, vU, yU, hpU, by omega⟩
        case round =>
          clear vU yU hpU
          obtain ⟨j, eo, ec, eps, hj, rfl, HE, vx, yx, hpx, hsx⟩ := hrel
          by_cases hjn : j < n
          · have vx4 : wr.cell? ⟨w1.heap.size, 4, none⟩ = some (.slice eo j ec) := vx 4
            have yx4 : wr.frozen? ⟨w1.heap.size, 4, none⟩ = false := yx 4
            have hlx : w1.heap.size < wr.heap.size := by omega
            have hcn := num_any pb 4 wr.drew (by omega) (by omega) (hpx.below (Below.refl _ wr).drew)
            obtain ⟨i3, m1, m2, m3, m4⟩ := info_parts Tryz.info3
            have ag : (Value.slice eo j ec).ownBlock ≠ some w1.heap.size := fun e => by have := (own_lt HE.out.2.2.1 _ e).1; omega
            have hp6 : pb < w6.heap.size := by omega
            go_wp2_with fail
            go_region_law (first
              | (refine step_append_lies _ (by rfl) _ _ _ (by rfl) w6.heap.size 3 i3 _ 1 8 Tryz.underlying23 m1 m2 m3 m4 rfl (by omega) _ _ _ (by rfl) (hown7.alloc _) ⟨w7.heap.size, 0, none⟩ 1 1 [.int .i64 r] (by rfl) (by rfl) (World.news_of_block (cs := #[.int .i64 r]) (t := 3) (fr := (0, 0)) (heap_alloc_new w7 _)) (by simp [Value.oneCell']) (by omega) (by unfold maxLen; omega) (by omega) (by simp; omega) (w7.heap.size + 1) (by simp) ?_; intro gg cap7 w8 hown8 hgrow hat hlt8; have v8 : w8.cell? ⟨w1.heap.size, 4, none⟩ = some (.slice eo j ec) := (hgrow.cell_far _ (by simp; omega) (Ne.symm ag)).trans ((World.cell?_alloc_past _ _ _ (hn := hs7)).trans v7); have y8 : w8.frozen? ⟨w1.heap.size, 4, none⟩ = false := (hgrow.frozen_far _ (by simp; omega) (Ne.symm ag)).trans ((World.frozen?_alloc_past _ _ _ (hn := hs7)).trans y7))
              | (go_simp; go_wp2_with (go_at_call 22; refine hcn.mono ?_; rintro e w7 ⟨r, hr, rfl, hw7⟩; have v7 : w7.cell? ⟨w1.heap.size, 4, none⟩ = some (.slice eo j ec) := (hw7.cell hlx hpb1).trans vx4; have y7 : w7.frozen? ⟨w1.heap.size, 4, none⟩ = false := (hw7.frozen hlx hpb1).trans yx4; have hs7 : w1.heap.size < w7.heap.size := Nat.lt_of_lt_of_le hlx hw7.2.size; have hown7 : w7.ownsRow w6.heap.size 3 1 (.slice eo j ec) j (icells eps) := own_kept (w := wr.drew) HE.out.2.2.1 hw7.2 (fun x _ hx => by unfold But; omega); have hz7 : w6.heap.size ≤ w7.heap.size := Nat.le_trans hsx hw7.2.size)))
            all_goals (
              obtain ⟨X, hX⟩ : ∃ X, X = w8.setCell ⟨w1.heap.size, 4, none⟩ (.slice (some ⟨gg, 0, none⟩) (j + 1) cap7) := ⟨_, rfl⟩
              obtain ⟨S1, S2, S3, S4, S5, S6⟩ := inner_step hpb1 hs16 hsx HE.out.2.2.2 vx yx hw7 hown7 (by simpa using hown8) hgrow X hX
              have HS : Hid ((eps ++ [(r : Int)]).length = j + 1 ∧ (∀ e ∈ eps ++ [(r : Int)], 0 ≤ e ∧ e ≤ 3) ∧ X.ownsRow w6.heap.size 3 1 (.slice (some ⟨gg, 0, none⟩) (j + 1) cap7) (j + 1) (icells (eps ++ [(r : Int)])) ∧ Kept (fun x => x ≠ pb ∧ x ≠ w1.heap.size ∧ x < w6.heap.size) U X) := by
                refine ⟨by simp [HE.out.1], fun e he => ?_, S1, S2⟩
                rcases List.mem_append.1 he with he | he
                · exact HE.out.2.1 e he
                · simp at he; omega
              rw [← hX]
              clear hX S1 S2 hw7 hown7 hown8 hgrow hat v7 y7 v8 y8 vx yx vx4 yx4 hcn HE hpx
              go_wp2
              go_roundw
              case rel => exact ⟨j + 1, some ⟨gg, 0, none⟩, cap7, eps ++ [(r : Int)], by omega, by go_num, HS, S3, S4, S5, S6⟩
              case measure => simp [intOf]; omega)
          · have e : j = n := by omega
            subst e
            have vx0 := vx 0
            have HKY : Hid (Kept (fun x => x ≠ pb ∧ x < V0.heap.size) V0 wr) := by
              have a1 : Kept (fun x => x ≠ pb ∧ x < V0.heap.size) V0 U := (HW1.out.2.trans HU.out.1.2).mono (fun x _ h => h.1)
              exact a1.trans (HE.out.2.2.2.mono (fun x _ h => ⟨h.1, by omega, by omega⟩))
            have HLV : Hid (Lv (fun x => V0.heap.size ≤ x) wr ⟨(k : Int) + 1, q, t, some ⟨g, 0, none⟩, 1, c, eo, j, ec⟩ ⟨(k : Int) + 1, q, t, [⟨it, L, R, N'⟩], eps⟩ ∧ Bl (some ⟨g, 0, none⟩) 1 V0.heap.size w6.heap.size ∧ Bl eo j w6.heap.size wr.heap.size ∧ Gd j k ⟨(k : Int) + 1, q, t, [⟨it, L, R, N'⟩], eps⟩) := by
              have ho := HU.out.2
              have hg := own_lt ho g rfl
              have hoY := own_kept ho HE.out.2.2.2 (fun x hx hb => by
                have ex : g = x := by simpa [Value.ownBlock] using hx
                subst ex
                exact ⟨by omega, by omega, by omega⟩)
              have he := HE.out.2.2.1
              have hz : (0 : Nat) < j := by omega
              refine ⟨⟨rfl, rfl, rfl, want_size ht, rfl, HE.out.1.symm, ?_, ?_⟩, ?_, ?_, ?_⟩
              · exact (Rds.of_own hoY (by omega) (.inl (by omega))).mono (fun b _ hb => by have hb' : w5.heap.size + 1 ≤ b := hb; omega)
              · exact (Rds.of_own he (by omega) (.inl hz)).mono (fun b _ hb => by have hb' : w6.heap.size ≤ b := hb; omega)
              · exact fun _ => ⟨g, 0, rfl, by omega, by omega⟩
              · intro _
                obtain ⟨gb, gc, e1, e2, e3⟩ := he.form hz
                cases e1
                exact ⟨gb, 0, rfl, e2, e3⟩
              · exact ⟨rfl, by show (0 : Int) ≤ (q : Int); omega, by show (q : Int) ≤ 3; omega, fun h => by have h' : (q : Int) = 0 := h; omega, fun _ => ⟨ht, HE.out.1, HE.out.2.1, it, L, R, N', ⟨b1, b2, b3, b4, b5, b6, b7, b8⟩, rfl⟩⟩
            clear HE HU
            obtain ⟨i25, k1, k2, k3, k4⟩ := info_parts Tryz.info25
            have hoY : (wr).ownsRow w.heap.size 25 5 (.slice o k oc) k (pcells qs) := own_kept HQ.out.2.1 HKY.out (fun x hx _ => ⟨by have := (own_lt HQ.out.2.1 x hx).1; omega, (own_lt HQ.out.2.1 x hx).2⟩)
            have hsY : w.heap.size ≤ (wr).heap.size := Nat.le_trans hsV HKY.out.size
            have HoY : Hid _ := hoY
            clear hoY
            go_wp2_with (at_builtin; refine wpList_append_lies _ rfl _ _ 31 rfl w.heap.size 25 i25 _ 5 80 Tryz.underlying31 k1 k2 k3 k4 rfl (by decide) (.slice o k oc) _ (pcells qs) rfl (World.ownsRow.alloc HoY.out _) ⟨(wr).heap.size, 0, none⟩ 1 1 (Vc.vals ⟨(k : Int) + 1, q, t, some ⟨g, 0, none⟩, 1, c, eo, j, ec⟩) rfl rfl ?c1 ?c2 (by decide) ?c3 ?c4 ?c5 ((wr).heap.size + 1) (by simp) ?_)
            case c1 =>
              intro j u hj
              match j, hj with
              | 0, hj => simp [Vc.vals] at hj; subst hj; simp [Addr.add]
              | 1, hj => simp [Vc.vals] at hj; subst hj; simp [Addr.add]
              | 2, hj => simp [Vc.vals] at hj; subst hj; simp [Addr.add]
              | 3, hj => simp [Vc.vals] at hj; subst hj; simp [Addr.add]
              | 4, hj => simp [Vc.vals] at hj; subst hj; simp [Addr.add]
            case c2 => intro u hu; simp [Vc.vals] at hu; rcases hu with rfl | rfl | rfl | rfl | rfl <;> rfl
            case c3 => unfold maxLen; omega
            case c4 => omega
            case c5 => simp; omega
            intro g' cap' w9 hown9 hgrow hat hlt9
            have HF : Hid (Rw w w9 j (k + 1) (some ⟨g', 0, none⟩) cap' (qs ++ [(⟨(k : Int) + 1, q, t, some ⟨g, 0, none⟩, 1, c, eo, j, ec⟩, ⟨(k : Int) + 1, q, t, [⟨it, L, R, N'⟩], eps⟩)])) := (outer_step (m1 := w6.heap.size) hlt HWt.out HQ.out HKY.out hpx HLV.out.1 (by omega) (by omega) HLV.out.2.1 HLV.out.2.2.1 HLV.out.2.2.2 hown9 hgrow hat).1
            have HG : Went pb w w9 := (outer_step (m1 := w6.heap.size) hlt HWt.out HQ.out HKY.out hpx HLV.out.1 (by omega) (by omega) HLV.out.2.1 HLV.out.2.2.1 HLV.out.2.2.2 hown9 hgrow hat).2
            clear hown9 hgrow hat HLV HKY HQ HWt HoY
            go_wp2
            go_roundw
            case rel => exact ⟨k + 1, some ⟨g', 0, none⟩, cap', _, by omega, by go_num, rfl, HF, HG⟩
            case measure => simp [intOf]; omega
    · have hg1 : decide ((k : Int) + 1 ≤ (n : Int)) = false := decide_eq_false (by omega)
      have e : k = n := by omega
      subst e
      have HWt2 := HWt.out
      clear hwent HWt
      go_wp2
      go_ret
      obtain ⟨h1, h2, h3, h4, h5⟩ := HQ.out
      exact ⟨o, oc, qs, rfl, h1, h2, h3, h4, h5, HWt2⟩

end Go.Proofs.YtdeojcodbojmoaaGreatDoor
