/- view.add: views behind others, in memory of their own. -/
import Derived.Test.YtdeojcodbojmoaaGreatDoorCpy
namespace Go.Proofs.YtdeojcodbojmoaaGreatDoor
open Go.RowKit
set_option maxRecDepth 100000
set_option linter.unusedVariables false

/-- All blocks but that of a slice of one's own. -/
def Far (v : Value) : Nat → Prop := fun k => some k ≠ v.ownBlock

/-- The cells of one view of a row. -/
theorem view_at {P : Nat → Prop} {w : World} {b off : Nat} {ps : List (Vc × Vw)} (hc : ∀ j u, (pcells ps)[j]? = some u → w.cell? ⟨b, off + j, none⟩ = some u) (i : Nat) (hi : i < ps.length) :
    w.cell? ⟨b, off + i * 5, none⟩ = some (.int .i64 (ps[i]).1.R) ∧ w.cell? ⟨b, off + i * 5 + 1, none⟩ = some (.int .i64 (ps[i]).1.Rev) ∧ w.cell? ⟨b, off + i * 5 + 2, none⟩ = some (.string (ps[i]).1.f) ∧
    w.cell? ⟨b, off + i * 5 + 3, none⟩ = some (.slice (ps[i]).1.sa (ps[i]).1.sn (ps[i]).1.sc) ∧ w.cell? ⟨b, off + i * 5 + 4, none⟩ = some (.slice (ps[i]).1.ea (ps[i]).1.en (ps[i]).1.ec) := by
  have h : ∀ q (hq : q < 5) u, (ps[i]).1.vals[q]? = some u → w.cell? ⟨b, off + i * 5 + q, none⟩ = some u := fun q hq u hu => by
    have := hc (i * 5 + q) u (by rw [pcells_get ps i q hi hq]; exact hu)
    rw [← Nat.add_assoc] at this
    exact this
  exact ⟨h 0 (by omega) _ rfl, h 1 (by omega) _ rfl, h 2 (by omega) _ rfl, h 3 (by omega) _ rfl, h 4 (by omega) _ rfl⟩

/-- One view more behind a row of one's own: all of them lie apart from the row. -/
theorem lvs_push {wr W w2 : World} {vo : Value} {g n cap : Nat} {qs : List (Vc × Vw)} {c : Vc} {v : Vw} (hlt : ∀ k, vo.ownBlock = some k → k < wr.heap.size) (hb : Below wr.heap.size wr W) (lv : Lvs (Far vo) wr qs) (lc : Lv (fun k => wr.heap.size ≤ k) W c v)
    (hg : W.grownBy w2 vo.ownBlock) (hat : vo.ownBlock = some g ∨ g = W.heap.size) : Lvs (Far (.slice (some ⟨g, 0, none⟩) n cap)) w2 (qs ++ [(c, v)]) := by
  refine Lvs.append ?_ ?_
  · intro q hq
    have h1 : Lv (fun k => Far vo k ∧ k < wr.heap.size) wr q.1 q.2 := (lv q hq).mono (fun b hb hf => ⟨hf, hb⟩)
    have hk : Kept (fun k => Far vo k ∧ k < wr.heap.size) wr w2 := (Kept.of_below hb).trans (Kept.grown hg (fun k hk => hk.1))
    refine (h1.kept hk).mono (fun b _ hf => ?_)
    unfold Far Value.ownBlock at *
    intro e
    have e' : b = g := by simpa using e
    subst e'
    rcases hat with hat | hat
    · exact hf.1 hat.symm
    · have := hb.size; omega
  · intro q hq
    simp only [List.mem_singleton] at hq
    subst hq
    have h1 : Lv (fun k => wr.heap.size ≤ k ∧ k < W.heap.size) W c v := lc.mono (fun b hb hf => ⟨hf, hb⟩)
    have hk : Kept (fun k => wr.heap.size ≤ k ∧ k < W.heap.size) W w2 := Kept.grown hg (fun k hk e => by have := hlt k e.symm; omega)
    refine (h1.kept hk).mono (fun b _ hf => ?_)
    unfold Far Value.ownBlock
    intro e
    have e' : b = g := by simpa using e
    subst e'
    rcases hat with hat | hat
    · have := hlt b hat; omega
    · omega

theorem own_lt {w : World} {base : Nat} {e : TypeId} {size : Nat} {v : Value} {n : Nat} {xs : List Value} (h : w.ownsRow base e size v n xs) : ∀ k, v.ownBlock = some k → base ≤ k ∧ k < w.heap.size := h.lt

set_option maxHeartbeats 2000000 in
theorem add34 (B : Nat) (w : World) (hB : B ≤ w.heap.size) (o : Option Addr) (oc : Nat) (ps0 ps : List (Vc × Vw)) (ao : Option Addr) (n cap : Nat) (hn : n = ps.length) (hn0 : ps0.length ≤ 100000)
    (own : w.ownsRow B 25 5 (.slice o ps0.length oc) ps0.length (pcells ps0)) (lv0 : Lvs (Far (.slice o ps0.length oc)) w ps0) (rd : Rdz (Far (.slice o ps0.length oc)) w 5 ao n (pcells ps)) (lv : Lvs (Far (.slice o ps0.length oc)) w ps) :
    Calls Tryz.prog 34 #[.slice o ps0.length oc, .slice ao n cap] w fun e w' => ∃ o' oc' ps', e = .returned (.slice o' (List.length ps') oc') ∧ ps'.map (·.2) = (ps0 ++ ps).map (·.2) ∧ w'.ownsRow B 25 5 (.slice o' ps'.length oc') ps'.length (pcells ps') ∧
      Lvs (Far (.slice o' ps'.length oc')) w' ps' ∧ Below B w w' ∧ Kept (Far (.slice o ps0.length oc)) w w' := by
  have hn1 := rd.2.1
  go_enter Tryz.func34, Tryz.ntmps34
  go_wp2
  go_loopw [0, 9] (fun v i wr => ∃ (k : Nat) (o1 : Option Addr) (oc1 : Nat) (qs : List (Vc × Vw)), k ≤ n ∧ i = .int .i64 k ∧ v = .slice o1 (ps0.length + k) oc1 ∧ qs.length = ps0.length + k ∧ qs.map (·.2) = (ps0 ++ ps.take k).map (·.2) ∧ wr.ownsRow B 25 5 (.slice o1 (ps0.length + k) oc1) (ps0.length + k) (pcells qs) ∧
      Lvs (Far (.slice o1 (ps0.length + k) oc1)) wr qs ∧ (∀ g, (Value.slice o1 (ps0.length + k) oc1).ownBlock = some g → (Value.slice o ps0.length oc).ownBlock = some g ∨ w.heap.size ≤ g) ∧ Below B w wr ∧ Kept (Far (.slice o ps0.length oc)) w wr) (fun _ i _ => n - (intOf i).toNat)
  case atStart => exact ⟨0, o, oc, ps0, Nat.zero_le _, rfl, rfl, rfl, by simp, own, lv0, fun g hg => .inl hg, Below.refl _ _, Kept.refl _ _⟩
  case round =>
    obtain ⟨k, o1, oc1, qs, hk, rfl, rfl, hql, hqm, hown, hlv, hfar, hbel, hkept⟩ := hrel
    by_cases hlt : k < n
    · obtain ⟨b, off, rfl, hpb, hb, hc⟩ := rd.2.2 (by omega)
      have hkp : k < ps.length := by omega
      obtain ⟨f0, f1, f2, f3, f4⟩ := view_at (P := Any) (w := wr) (b := b) (off := off) (ps := ps) (fun j u hu => (hkept.cell hb hpb).trans (hc j u hu)) k hkp
      have lvk : Lv (Far (.slice o ps0.length oc)) wr (ps[k]).1 (ps[k]).2 := (lv.kept hkept) _ (List.getElem_mem hkp)
      have HT : Hid ((ps0 ++ ps.take (k + 1)).map (·.2) = (ps0 ++ ps.take k).map (·.2) ++ [(ps[k]).2]) := by
        show (ps0 ++ ps.take (k + 1)).map (·.2) = _
        rw [List.take_add_one, List.getElem?_eq_getElem hkp, Option.toList_some, ← List.append_assoc, List.map_append]
        rfl
      generalize ps[k] = p at *
      obtain ⟨c, v⟩ := p
      simp only at f0 f1 f2 f3 f4 lvk HT
      have HX : Hid (_ ∧ _ ∧ _ ∧ _ ∧ _ ∧ _ ∧ _ ∧ _) := ⟨hown, hlv, hfar, hbel, hkept, lvk, hqm, hql⟩
      clear hown hlv hfar hbel hkept lvk hqm hql
      go_wp2_with fail
      refine (anew47 _ c v _ (HX.out.2.2.2.2.2.1.kept ((Kept.refl _ wr).alloc _))).mono ?_
      rintro e w1 ⟨c', rfl, lv1, hb1⟩
      have hbr : Below wr.heap.size wr w1 := ((Below.refl _ wr).alloc (Nat.le_refl _) _).trans (hb1.mono (by simp))
      have hs1 : wr.heap.size ≤ w1.heap.size := hbr.size
      have HY : Hid (Below wr.heap.size wr w1 ∧ Lv (fun k => wr.heap.size ≤ k) w1 c' v) := ⟨hbr, lv1.mono (fun b _ hb => by have hb' : (wr.alloc (.cells #[.int .i64 c.R, .int .i64 c.Rev, .string c.f, .slice c.sa c.sn c.sc, .slice c.ea c.en c.ec] 25)).heap.size ≤ b := hb; simp at hb'; omega)⟩
      clear hbr lv1 hb1 f0 f1 f2 f3 f4
      obtain ⟨i25, k1, k2, k3, k4⟩ := info_parts Tryz.info25
      have hw : w.heap.size ≤ wr.heap.size := HX.out.2.2.2.1.size
      go_wp2_with (at_builtin; refine wpList_append_lies _ rfl _ _ 31 rfl B 25 i25 _ 5 80 Tryz.underlying31 k1 k2 k3 k4 rfl (by decide) (.slice o1 (ps0.length + k) oc1) _ (pcells qs) rfl (own_below HX.out.1 (HY.out.1.alloc hs1 _)) ⟨w1.heap.size, 0, none⟩ 1 1 c'.vals rfl rfl ?c1 ?c2 (by decide) ?c3 ?c4 ?c5 _ rfl ?_)
      case c1 =>
        intro j u hj
        match j, hj with
        | 0, hj => simp [Vc.vals] at hj; subst hj; simp [Addr.add]
        | 1, hj => simp [Vc.vals] at hj; subst hj; simp [Addr.add]
        | 2, hj => simp [Vc.vals] at hj; subst hj; simp [Addr.add]
        | 3, hj => simp [Vc.vals] at hj; subst hj; simp [Addr.add]
        | 4, hj => simp [Vc.vals] at hj; subst hj; simp [Addr.add]
      case c2 => intro u hu; simp [Vc.vals] at hu; rcases hu with rfl | rfl | rfl | rfl | rfl <;> rfl
      case c3 => unfold maxLen; omega
      case c4 => omega
      case c5 => simp; omega
      intro g cap' w2 hown2 hgrow hat hlt2
      obtain ⟨hown, hlv, hfar, hbel, hkept, lvk, hqm, hql⟩ := HX.out
      obtain ⟨hbr, lv1⟩ := HY.out
      have hlts := own_lt hown
      have hbW := hbr.alloc hs1 (.cells #[.int .i64 c'.R, .int .i64 c'.Rev, .string c'.f, .slice c'.sa c'.sn c'.sc, .slice c'.ea c'.en c'.ec] 25)
      have R : Hid (w2.ownsRow B 25 5 (.slice (some ⟨g, 0, none⟩) (ps0.length + (k + 1)) cap') (ps0.length + (k + 1)) (pcells (qs ++ [(c', v)])) ∧ Lvs (Far (.slice (some ⟨g, 0, none⟩) (ps0.length + (k + 1)) cap')) w2 (qs ++ [(c', v)]) ∧
          (∀ g', (Value.slice (some ⟨g, 0, none⟩) (ps0.length + (k + 1)) cap').ownBlock = some g' → (Value.slice o ps0.length oc).ownBlock = some g' ∨ w.heap.size ≤ g') ∧ Below B w w2 ∧ Kept (Far (.slice o ps0.length oc)) w w2) := by
        refine ⟨?_, ?_, ?_, ?_, ?_⟩
        · rw [pcells_append]
          have e : pcells [(c', v)] = c'.vals := by simp [pcells]
          rw [e]
          exact hown2
        · exact lvs_push (fun k' hk' => (hlts k' hk').2) hbW hlv (lv1.kept ((Kept.refl _ w1).alloc _)) hgrow (by simpa using hat)
        · intro g' hg'
          have e : g = g' := by simpa [Value.ownBlock] using hg'
          subst e
          rcases hat with hat | hat
          · exact hfar g hat
          · right; omega
        · exact (hbel.trans (hbW.mono (by omega))).grown hgrow (by simp; omega) (fun k' hk' => (hlts k' hk').1)
        · refine (Kept.trans (P := fun k => Far (.slice o ps0.length oc) k ∧ k < w.heap.size) (hkept.mono (fun k _ h => h.1)) ((Kept.of_below hbW).trans (Kept.grown hgrow (fun k' hk' e => ?_)))).mono (fun k' hk' h => ⟨h, hk'⟩)
          rcases hfar k' e.symm with h | h
          · exact hk'.1 h.symm
          · omega
      have hql' : (qs ++ [(c', v)]).length = ps0.length + (k + 1) := by simp; omega
      have hqm' : Hid ((qs ++ [(c', v)]).map (·.2) = (ps0 ++ ps.take (k + 1)).map (·.2)) := by
        show _ = _
        rw [HT.out, List.map_append, hqm]; rfl
      clear hown hlv hfar hbel hkept lvk hqm hql hbr lv1 hlts hbW hown2 hgrow hat HX HY HT
      go_wp2
      go_roundw
      case rel =>
        exact ⟨.slice (some ⟨g, 0, none⟩) (ps0.length + (k + 1)) cap', _, .int .i64 ((k + 1 : Nat) : Int), ⟨k + 1, by omega, rfl, _, cap', rfl, _, hql', by rw [hqm'.out, List.map_append, List.map_take], R.out.1, R.out.2.1, R.out.2.2.1, R.out.2.2.2.1, R.out.2.2.2.2⟩, rfl, rfl, by simp⟩
      case measure => simp [intOf]; omega
    · go_wp2
      go_ret
      have e : k = n := by omega
      subst e
      rw [hn, List.take_length] at hqm
      refine ⟨o1, oc1, qs, by rw [hql]; rfl, by rw [hqm, List.map_append], by rw [hql]; exact hown, by rw [hql]; exact hlv, hbel, hkept⟩

end Go.Proofs.YtdeojcodbojmoaaGreatDoor
