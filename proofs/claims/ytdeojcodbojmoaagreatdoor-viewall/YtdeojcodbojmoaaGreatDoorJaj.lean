/- view.Merge: of each replica the view with the greater Rev. -/
import Derived.Test.YtdeojcodbojmoaaGreatDoorJai
import Derived.BigRegion
namespace Go.Proofs.YtdeojcodbojmoaaGreatDoor
open Go.RowKit
set_option maxRecDepth 100000
set_option linter.unusedVariables false

/-- A row of views that lies below B. -/
structure RowV (B : Nat) (w : World) (ao : Option Addr) (n cap : Nat) (ps : List (Vc × Vw)) : Prop where
  len : n = ps.length
  le : n ≤ cap
  lid : cap ≤ maxLen
  row : Rdz (fun k => k < B) w 5 ao n (pcells ps)
  lv : Lvs (fun k => k < B) w ps

theorem RowV.below {B : Nat} {w w' : World} {ao : Option Addr} {n cap : Nat} {ps : List (Vc × Vw)} (h : RowV B w ao n cap ps) (hB : B ≤ w.heap.size) (hb : Below B w w') : RowV B w' ao n cap ps :=
  have hk : Kept (fun k => k < B) w w' := ⟨hb.os, hb.tape, hb.output, hb.size, fun k _ hk => hb.block k hk⟩
  ⟨h.len, h.le, h.lid, h.row.kept hk, h.lv.kept hk⟩

/-- What is left behind the first. -/
theorem RowV.tail {B : Nat} {w : World} {b off n cap : Nat} {p : Vc × Vw} {ps : List (Vc × Vw)} (h : RowV B w (some ⟨b, off, none⟩) n cap (p :: ps)) (ao : Option Addr) (c' : Nat) (hc' : c' = cap - 1) (hao : 1 < cap → ao = some ⟨b, off + 5, none⟩) : RowV B w ao (n - 1) c' ps := by
  subst hc'
  obtain ⟨h1, h2, h3, h4, h5⟩ := h
  simp only [List.length_cons] at h1
  have e1 : n - 1 = ps.length := by omega
  have e2 := h4.2.1
  refine ⟨by omega, by omega, by omega, ⟨by rw [pcells_length, e1], by omega, fun h0 => ?_⟩, fun q hq => h5 q (List.mem_cons_of_mem _ hq)⟩
  obtain ⟨b', off', e, hp, hb, hc⟩ := h4.2.2 (by omega)
  cases e
  refine ⟨b, off + 5, hao (by omega), hp, hb, fun j u hu => ?_⟩
  have := hc (5 + j) u (by simp only [pcells]; rw [List.getElem?_append_right (by simp [Vc.vals])]; simpa [Vc.vals] using hu)
  rw [← Nat.add_assoc] at this
  exact this

/-- Its first one. -/
theorem RowV.head {B : Nat} {w : World} {ao : Option Addr} {n cap : Nat} {c : Vc} {v : Vw} {ps : List (Vc × Vw)} (h : RowV B w ao n cap ((c, v) :: ps)) : ∃ b off, ao = some ⟨b, off, none⟩ ∧ b < B ∧ b < w.heap.size ∧
    w.cell? ⟨b, off, none⟩ = some (.int .i64 c.R) ∧ w.cell? ⟨b, off + 1, none⟩ = some (.int .i64 c.Rev) ∧ w.cell? ⟨b, off + 2, none⟩ = some (.string c.f) ∧ w.cell? ⟨b, off + 3, none⟩ = some (.slice c.sa c.sn c.sc) ∧ w.cell? ⟨b, off + 4, none⟩ = some (.slice c.ea c.en c.ec) ∧ Lv (fun k => k < B) w c v := by
  obtain ⟨h1, h2, h3, h4, h5⟩ := h
  simp only [List.length_cons] at h1
  obtain ⟨b, off, e, hp, hb, hc⟩ := h4.2.2 (by omega)
  have f := view_at (P := Any) hc 0 (by simp)
  simp only [Nat.zero_mul, Nat.add_zero, List.getElem_cons_zero] at f
  exact ⟨b, off, e, hp, hb, f.1, f.2.1, f.2.2.1, f.2.2.2.1, f.2.2.2.2, h5 _ (List.mem_cons_self ..)⟩

theorem bel_drewN {B : Nat} {a w : World} (h : Below B a w) (q : Nat) : Below B a (w.drewN q) := ⟨h.os, h.tape, h.output, h.size, h.block⟩

/-- One view in a row that was just laid. -/
theorem one_new {P : Nat → Prop} {W : World} {c : Vc} {v : Vw} {H : Nat} (hH : W.heap.size = H) (hp : P H) : Rdz P (W.alloc (.cells #[.int .i64 c.R, .int .i64 c.Rev, .string c.f, .slice c.sa c.sn c.sc, .slice c.ea c.en c.ec] 25)) 5 (some ⟨H, 0, none⟩) 1 (pcells [(c, v)]) := by
  subst hH
  refine ⟨rfl, by omega, fun _ => ⟨_, _, rfl, hp, by simp, fun j u hu => ?_⟩⟩
  rw [Nat.zero_add, World.cell?_alloc_at _ _ _ _ rfl]
  match j, hu with
  | 0, hu => exact hu
  | 1, hu => exact hu
  | 2, hu => exact hu
  | 3, hu => exact hu
  | 4, hu => exact hu

/-- What add is asked of, behind a round's beginning. -/
theorem add_one {B : Nat} {wr W : World} {o : Option Addr} {oc : Nat} {qs : List (Vc × Vw)} {c : Vc} {v : Vw} {H : Nat} (hBr : B ≤ wr.heap.size) (hW : Below wr.heap.size wr W) (hH : W.heap.size = H) (hq : qs.length ≤ 100000)
    (own : wr.ownsRow B 25 5 (.slice o qs.length oc) qs.length (pcells qs)) (lv : Lvs (Far (.slice o qs.length oc)) wr qs) (lc : Lv (fun k => k < B) wr c v) :
    Calls Tryz.prog 34 #[.slice o qs.length oc, .slice (some ⟨H, 0, none⟩) 1 1] (W.alloc (.cells #[.int .i64 c.R, .int .i64 c.Rev, .string c.f, .slice c.sa c.sn c.sc, .slice c.ea c.en c.ec] 25)) fun e w' => ∃ o' oc' ps', e = .returned (.slice o' (List.length ps') oc') ∧ ps'.map (·.2) = qs.map (·.2) ++ [v] ∧ w'.ownsRow B 25 5 (.slice o' ps'.length oc') ps'.length (pcells ps') ∧
      Lvs (Far (.slice o' ps'.length oc')) w' ps' ∧ Below B wr w' := by
  have hs := hW.size
  have hlt := own_lt own
  have hbW : Below wr.heap.size wr (W.alloc (.cells #[.int .i64 c.R, .int .i64 c.Rev, .string c.f, .slice c.sa c.sn c.sc, .slice c.ea c.en c.ec] 25)) := hW.alloc hs _
  have hf : ∀ k, k < B → Far (.slice o qs.length oc) k := fun k hk e => by have := (hlt k e.symm).1; omega
  refine (add34 B _ (by simp; omega) o oc qs [(c, v)] (some ⟨H, 0, none⟩) 1 1 rfl hq (own_below own hbW) (lv.below hbW) (one_new hH (fun e => by have := (hlt H e.symm).2; omega)) ?_).mono ?_
  · intro p hp
    simp only [List.mem_singleton] at hp
    subst hp
    exact (lc.below hbW).mono (fun b _ hb => hf b hb)
  · rintro e w' ⟨o', oc', ps', rfl, h1, h2, h3, h4, _⟩
    exact ⟨o', oc', ps', rfl, by rw [h1, List.map_append]; rfl, h2, h3, (hbW.mono hBr).trans h4⟩

set_option maxHeartbeats 4000000 in
theorem merge17 (w : World) (aa ba : Option Addr) (na ca nb cb : Nat) (pa pb : List (Vc × Vw)) (ra : RowV w.heap.size w aa na ca pa) (rb : RowV w.heap.size w ba nb cb pb) :
    Calls Tryz.prog 17 #[.slice aa na ca, .slice ba nb cb] w fun e w' => ∃ o oc ps, e = .returned (.slice o (List.length ps) oc) ∧ ps.map (·.2) = mg (pa.map (·.2)) (pb.map (·.2)) ∧ w'.ownsRow w.heap.size 25 5 (.slice o ps.length oc) ps.length (pcells ps) ∧ Lvs (Far (.slice o ps.length oc)) w' ps ∧ Below w.heap.size w w' := by
  have hna := ra.row.2.1
  have hnb := rb.row.2.1
  go_enter Tryz.func17, Tryz.ntmps17
  go_wp2
  go_loopw [0, 1, 5] (fun va vb vo wr => ∃ (aa : Option Addr) (na ca : Nat) (qa : List (Vc × Vw)) (ba : Option Addr) (nb cb : Nat) (qb : List (Vc × Vw)) (o : Option Addr) (oc : Nat) (qs : List (Vc × Vw)),
      va = .slice aa na ca ∧ vb = .slice ba nb cb ∧ vo = .slice o qs.length oc ∧ qs.length + na + nb ≤ 2000 ∧ Hid (RowV w.heap.size wr aa na ca qa ∧ RowV w.heap.size wr ba nb cb qb ∧ qs.map (·.2) ++ mg (qa.map (·.2)) (qb.map (·.2)) = mg (pa.map (·.2)) (pb.map (·.2)) ∧ wr.ownsRow w.heap.size 25 5 (.slice o qs.length oc) qs.length (pcells qs) ∧ Lvs (Far (.slice o qs.length oc)) wr qs ∧ Below w.heap.size w wr)) (fun a b _ _ => (match a with | .slice _ n _ => n | _ => 0) + (match b with | .slice _ n _ => n | _ => 0))
  case atStart => exact ⟨aa, na, ca, pa, ba, nb, cb, pb, none, 0, [], rfl, rfl, rfl, by simp; omega, ra, rb, rfl, World.ownsRow_nil _ _ _ _, (fun p hp => (List.not_mem_nil hp).elim), Below.refl _ _⟩
  case round =>
    clear ra rb hna hnb
    obtain ⟨aa, na, ca, qa, ba, nb, cb, qb, o, oc, qs, rfl, rfl, rfl, hlen, HI⟩ := hrel
    cases qa with
    | nil =>
      have hx : na = 0 := HI.out.1.len
      subst hx
      obtain ⟨i1, i2, i3, i4, i5, i6⟩ := HI.out
      have hlt := own_lt i4
      have hf : ∀ k, k < w.heap.size → Far (.slice o qs.length oc) k := fun k hk e => by have := (hlt k e.symm).1; omega
      have c1 := add34 w.heap.size wr i6.size o oc qs [] aa 0 ca i1.len (by omega) i4 i5 (i1.row.mono (fun b _ hb => hf b hb)) (i1.lv.mono (fun b _ hb => hf b hb))
      have HI2 : Hid (_ ∧ _ ∧ _ ∧ _ ∧ _) := ⟨i1, i2, i3, hlt, i6⟩
      clear i1 i2 i3 i4 i5 i6 hlt hf
      go_wp2_with fail
      refine c1.mono ?_
      rintro e w1 ⟨o1, oc1, ps1, rfl, hm1, hown1, hlv1, hb1, hk1⟩
      clear c1
      obtain ⟨i1, i2, i3, hlt0, i6⟩ := HI2.out
      have hlt := own_lt hown1
      have hf : ∀ k, k < w.heap.size → Far (.slice o1 ps1.length oc1) k := fun k hk e => by have := (hlt k e.symm).1; omega
      have i2' := i2.below i6.size hb1
      have hsz := congrArg List.length hm1
      simp only [List.length_map, List.length_append] at hsz
      have hl1 := i1.len
      have c2 := add34 w.heap.size w1 (Nat.le_trans i6.size hb1.size) o1 oc1 ps1 qb ba nb cb i2'.len (by simp only [List.length_nil] at *; omega) hown1 hlv1 (i2'.row.mono (fun b _ hb => hf b hb)) (i2'.lv.mono (fun b _ hb => hf b hb))
      have HM : Hid (_ ∧ _ ∧ _) := ⟨hm1, i3, i6.trans hb1⟩
      clear hm1 hown1 hlv1 hb1 hk1 i1 i2 i3 hlt0 i6 hlt hf i2' hsz hl1 HI HI2
      go_wp2_with fail
      refine c2.mono ?_
      rintro e w2 ⟨o2, oc2, ps2, rfl, hm2, hown2, hlv2, hb2, hk2⟩
      clear c2
      go_wp2
      go_ret
      refine ⟨o2, oc2, ps2, rfl, ?_, hown2, hlv2, HM.out.2.2.trans hb2⟩
      rw [hm2, List.map_append, HM.out.1, ← HM.out.2.1, List.map_append, List.append_assoc]
      rw [List.map_nil, mg_nil, List.nil_append]
    | cons x qa =>
      cases qb with
      | nil =>
        have hna0 : 0 < na := by have := HI.out.1.len; simp at this; omega
        have hx : nb = 0 := HI.out.2.1.len
        subst hx
        obtain ⟨i1, i2, i3, i4, i5, i6⟩ := HI.out
        have hlt := own_lt i4
        have hf : ∀ k, k < w.heap.size → Far (.slice o qs.length oc) k := fun k hk e => by have := (hlt k e.symm).1; omega
        have c1 := add34 w.heap.size wr i6.size o oc qs (x :: qa) aa na ca i1.len (by omega) i4 i5 (i1.row.mono (fun b _ hb => hf b hb)) (i1.lv.mono (fun b _ hb => hf b hb))
        have HI2 : Hid (_ ∧ _ ∧ _ ∧ _ ∧ _) := ⟨i1, i2, i3, hlt, i6⟩
        clear i1 i2 i3 i4 i5 i6 hlt hf
        go_wp2_with fail
        refine c1.mono ?_
        rintro e w1 ⟨o1, oc1, ps1, rfl, hm1, hown1, hlv1, hb1, hk1⟩
        clear c1
        obtain ⟨i1, i2, i3, hlt0, i6⟩ := HI2.out
        have hlt := own_lt hown1
        have hf : ∀ k, k < w.heap.size → Far (.slice o1 ps1.length oc1) k := fun k hk e => by have := (hlt k e.symm).1; omega
        have i2' := i2.below i6.size hb1
        have hsz := congrArg List.length hm1
        simp only [List.length_map, List.length_append] at hsz
        have hl1 := i1.len
        have c2 := add34 w.heap.size w1 (Nat.le_trans i6.size hb1.size) o1 oc1 ps1 [] ba 0 cb i2'.len (by simp only [List.length_cons] at *; omega) hown1 hlv1 (i2'.row.mono (fun b _ hb => hf b hb)) (i2'.lv.mono (fun b _ hb => hf b hb))
        have HM : Hid (_ ∧ _ ∧ _) := ⟨hm1, i3, i6.trans hb1⟩
        clear hm1 hown1 hlv1 hb1 hk1 i1 i2 i3 hlt0 i6 hlt hf i2' hsz hl1 HI HI2
        go_wp2_with fail
        refine c2.mono ?_
        rintro e w2 ⟨o2, oc2, ps2, rfl, hm2, hown2, hlv2, hb2, hk2⟩
        clear c2
        go_wp2
        go_ret
        refine ⟨o2, oc2, ps2, rfl, ?_, hown2, hlv2, HM.out.2.2.trans hb2⟩
        rw [hm2, List.map_append, HM.out.1, ← HM.out.2.1, List.map_append, List.append_assoc]
        rw [List.map_nil, mg_nil', List.append_nil]
      | cons y qb =>
        obtain ⟨xc, xv⟩ := x
        obtain ⟨yc, yv⟩ := y
        obtain ⟨ba', oa', rfl, hxB, hxb, x0, x1, x2, x3, x4, lx⟩ := HI.out.1.head
        obtain ⟨bb', ob', rfl, hyB, hyb, y0, y1, y2, y3, y4, ly⟩ := HI.out.2.1.head
        have hla : 0 < na := by have := HI.out.1.len; simp at this; omega
        have hlb : 0 < nb := by have := HI.out.2.1.len; simp at this; omega
        have hca : na ≤ ca := HI.out.1.le
        have hcb : nb ≤ cb := HI.out.2.1.le
        have hcl : ca ≤ maxLen ∧ cb ≤ maxLen := ⟨HI.out.1.lid, HI.out.2.1.lid⟩
        unfold maxLen at hcl
        obtain ⟨hcl1, hcl2⟩ := hcl
        have HL : Hid (Lv (fun k => k < w.heap.size) wr xc xv ∧ Lv (fun k => k < w.heap.size) wr yc yv) := ⟨lx, ly⟩
        have HE : Hid (xc.R = xv.R ∧ yc.R = yv.R ∧ xc.Rev = xv.Rev ∧ yc.Rev = yv.Rev) := ⟨lx.R, ly.R, lx.Rev, ly.Rev⟩
        clear lx ly
        by_cases hR : xc.R = yc.R
        · have hb1 : (xc.R == yc.R) = true := beq_iff_eq.2 hR
          have hb0 : decide (xc.R < yc.R) = false := decide_eq_false (by omega)
          by_cases hV : yc.Rev ≤ xc.Rev
          · have hd1 : decide (yc.Rev ≤ xc.Rev) = true := decide_eq_true hV
            have HR : Hid (xv.R = yv.R ∧ yv.Rev ≤ xv.Rev) := ⟨by rw [← HE.out.1, ← HE.out.2.1]; exact hR, by rw [← HE.out.2.2.1, ← HE.out.2.2.2]; exact hV⟩
            clear hR hV
            go_wp2_with fail
            go_region
            go_wp2_with fail
            go_quiet (fail)
            go_wp2_with fail
            all_goals (
              refine (add_one (v := xv) (B := w.heap.size) (wr := wr) HI.out.2.2.2.2.2.size (bel_drewN ((Below.refl _ wr).alloc (Nat.le_refl _) _) _) (by simp) (by omega) HI.out.2.2.2.1 HI.out.2.2.2.2.1 HL.out.1).mono ?_
              rintro e w1 ⟨o', oc', ps', rfl, hm, hown, hlv, hb⟩
              have hsz := congrArg List.length hm
              simp only [List.length_map, List.length_append, List.length_cons, List.length_nil] at hsz
              have HR2 : Hid (_ ∧ _ ∧ _ ∧ _) := ⟨hm, hown, hlv, hb⟩
              have hle : List.length ps' + 0 ≤ qs.length + 1 := by omega
              clear hm hown hlv hb hsz
              go_wp2
              go_roundw
              case rel =>
                obtain ⟨hm, hown, hlv, hb⟩ := HR2.out
                obtain ⟨i1, i2, i3, i4, i5, i6⟩ := HI.out
                refine ⟨_, _, _, qa, _, _, _, qb, o', oc', ps', rfl, rfl, rfl, by omega, ⟨?_, ?_, ?_, hown, hlv, i6.trans hb⟩⟩
                · exact RowV.below (RowV.tail i1 _ _ (by omega) (fun h => by first | rfl | omega)) i6.size hb
                · exact RowV.below (RowV.tail i2 _ _ (by omega) (fun h => by first | rfl | omega)) i6.size hb
                · rw [hm, ← i3]
                  simp only [List.map_cons]
                  rw [mg_first HR.out.1 HR.out.2, List.append_assoc]; rfl
              case measure => simp <;> omega)
          · have hd1 : decide (yc.Rev ≤ xc.Rev) = false := decide_eq_false hV
            have HR : Hid (xv.R = yv.R ∧ ¬ yv.Rev ≤ xv.Rev) := ⟨by rw [← HE.out.1, ← HE.out.2.1]; exact hR, by rw [← HE.out.2.2.1, ← HE.out.2.2.2]; exact hV⟩
            clear hR hV
            go_wp2_with fail
            go_region
            go_wp2_with fail
            go_quiet (fail)
            go_wp2_with fail
            go_quiet (fail)
            go_wp2_with fail
            all_goals (
              refine (add_one (v := yv) (B := w.heap.size) (wr := wr) HI.out.2.2.2.2.2.size ((((((bel_drewN ((Below.refl _ wr).alloc (Nat.le_refl _) _) _).setCell (p := ⟨wr.heap.size, 0, none⟩) (Nat.le_refl _) _).setCell (p := ⟨wr.heap.size, 1, none⟩) (Nat.le_refl _) _).setCell (p := ⟨wr.heap.size, 2, none⟩) (Nat.le_refl _) _).setCell (p := ⟨wr.heap.size, 3, none⟩) (Nat.le_refl _) _).setCell (p := ⟨wr.heap.size, 4, none⟩) (Nat.le_refl _) _) (by simp) (by omega) HI.out.2.2.2.1 HI.out.2.2.2.2.1 HL.out.2).mono ?_
              rintro e w1 ⟨o', oc', ps', rfl, hm, hown, hlv, hb⟩
              have hsz := congrArg List.length hm
              simp only [List.length_map, List.length_append, List.length_cons, List.length_nil] at hsz
              have HR2 : Hid (_ ∧ _ ∧ _ ∧ _) := ⟨hm, hown, hlv, hb⟩
              have hle : List.length ps' + 0 ≤ qs.length + 1 := by omega
              clear hm hown hlv hb hsz
              go_wp2
              go_roundw
              case rel =>
                obtain ⟨hm, hown, hlv, hb⟩ := HR2.out
                obtain ⟨i1, i2, i3, i4, i5, i6⟩ := HI.out
                refine ⟨_, _, _, qa, _, _, _, qb, o', oc', ps', rfl, rfl, rfl, by omega, ⟨?_, ?_, ?_, hown, hlv, i6.trans hb⟩⟩
                · exact RowV.below (RowV.tail i1 _ _ (by omega) (fun h => by first | rfl | omega)) i6.size hb
                · exact RowV.below (RowV.tail i2 _ _ (by omega) (fun h => by first | rfl | omega)) i6.size hb
                · rw [hm, ← i3]
                  simp only [List.map_cons]
                  rw [mg_second HR.out.1 (by have := HR.out.2; omega), List.append_assoc]; rfl
              case measure => simp <;> omega)
        · have hb1 : (xc.R == yc.R) = false := beq_eq_false_iff_ne.2 hR
          by_cases hV : xc.R < yc.R
          · have hb0 : decide (xc.R < yc.R) = true := decide_eq_true hV
            have HR : Hid (xv.R < yv.R) := by show xv.R < yv.R; rw [← HE.out.1, ← HE.out.2.1]; exact hV
            clear hR hV
            go_wp2_with fail
            go_region
            go_wp2_with fail
            go_quiet (fail)
            go_wp2_with fail
            go_quiet (fail)
            go_wp2_with fail
            all_goals (
              refine (add_one (v := xv) (B := w.heap.size) (wr := wr) HI.out.2.2.2.2.2.size (bel_drewN ((Below.refl _ wr).alloc (Nat.le_refl _) _) _) (by simp) (by omega) HI.out.2.2.2.1 HI.out.2.2.2.2.1 HL.out.1).mono ?_
              rintro e w1 ⟨o', oc', ps', rfl, hm, hown, hlv, hb⟩
              have hsz := congrArg List.length hm
              simp only [List.length_map, List.length_append, List.length_cons, List.length_nil] at hsz
              have HR2 : Hid (_ ∧ _ ∧ _ ∧ _) := ⟨hm, hown, hlv, hb⟩
              have hle : List.length ps' + 0 ≤ qs.length + 1 := by omega
              clear hm hown hlv hb hsz
              go_wp2
              go_roundw
              case rel =>
                obtain ⟨hm, hown, hlv, hb⟩ := HR2.out
                obtain ⟨i1, i2, i3, i4, i5, i6⟩ := HI.out
                refine ⟨_, _, _, qa, _, _, _, (yc, yv) :: qb, o', oc', ps', rfl, rfl, rfl, by omega, ⟨?_, ?_, ?_, hown, hlv, i6.trans hb⟩⟩
                · exact RowV.below (RowV.tail i1 _ _ (by omega) (fun h => by first | rfl | omega)) i6.size hb
                · exact RowV.below i2 i6.size hb
                · rw [hm, ← i3]
                  simp only [List.map_cons]
                  rw [mg_less HR.out, List.append_assoc]; rfl
              case measure => simp <;> omega)
          · have hb0 : decide (xc.R < yc.R) = false := decide_eq_false hV
            have HR : Hid (¬ xv.R = yv.R ∧ ¬ xv.R < yv.R) := ⟨by rw [← HE.out.1, ← HE.out.2.1]; exact hR, by rw [← HE.out.1, ← HE.out.2.1]; exact hV⟩
            clear hR hV
            go_wp2_with fail
            go_region
            go_wp2_with fail
            go_quiet (fail)
            go_wp2_with fail
            go_quiet (fail)
            go_wp2_with fail
            all_goals (
              refine (add_one (v := yv) (B := w.heap.size) (wr := wr) HI.out.2.2.2.2.2.size ((((((bel_drewN ((Below.refl _ wr).alloc (Nat.le_refl _) _) _).setCell (p := ⟨wr.heap.size, 0, none⟩) (Nat.le_refl _) _).setCell (p := ⟨wr.heap.size, 1, none⟩) (Nat.le_refl _) _).setCell (p := ⟨wr.heap.size, 2, none⟩) (Nat.le_refl _) _).setCell (p := ⟨wr.heap.size, 3, none⟩) (Nat.le_refl _) _).setCell (p := ⟨wr.heap.size, 4, none⟩) (Nat.le_refl _) _) (by simp) (by omega) HI.out.2.2.2.1 HI.out.2.2.2.2.1 HL.out.2).mono ?_
              rintro e w1 ⟨o', oc', ps', rfl, hm, hown, hlv, hb⟩
              have hsz := congrArg List.length hm
              simp only [List.length_map, List.length_append, List.length_cons, List.length_nil] at hsz
              have HR2 : Hid (_ ∧ _ ∧ _ ∧ _) := ⟨hm, hown, hlv, hb⟩
              have hle : List.length ps' + 0 ≤ qs.length + 1 := by omega
              clear hm hown hlv hb hsz
              go_wp2
              go_roundw
              case rel =>
                obtain ⟨hm, hown, hlv, hb⟩ := HR2.out
                obtain ⟨i1, i2, i3, i4, i5, i6⟩ := HI.out
                refine ⟨_, _, _, (xc, xv) :: qa, _, _, _, qb, o', oc', ps', rfl, rfl, rfl, by omega, ⟨?_, ?_, ?_, hown, hlv, i6.trans hb⟩⟩
                · exact RowV.below i1 i6.size hb
                · exact RowV.below (RowV.tail i2 _ _ (by omega) (fun h => by first | rfl | omega)) i6.size hb
                · rw [hm, ← i3]
                  simp only [List.map_cons]
                  rw [mg_more HR.out.1 (by have := HR.out.2; omega), List.append_assoc]; rfl
              case measure => simp <;> omega)


end Go.Proofs.YtdeojcodbojmoaaGreatDoor
